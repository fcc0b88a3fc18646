/-
  Part of a proof: A nil side's methods, by their contracts; Gone. No conditions but those that each theorem names. Conditions: those that each theorem names.
-/
import Derived.Test.YtooaajnkiokpnaaGreatDoorQ01
import Derived.Test.YtooaajnkiokpnaaGreatDoorProg
import Derived.Test.YtooaajnkiokpnaaGreatDoorQ06
import Derived.Test.YtooaajnkiokpnaaGreatDoorQ14
import Derived.Laws.StructEq
import Derived.ChangeKeysEq
import Derived.Test.YtooaajnkiokpnaaGreatDoorQ05
import Derived.Deep.CutBlock
import Derived.Deep.DeepCutAuto
import Derived.MapKept
import Derived.ChangeMaps4
import Derived.WalkKit
import Derived.Deep.Cut
import Derived.Lib.Hide
namespace Go.Proofs.YtooaajnkiokpnaaGreatDoor
open Go.RowKit Go.WideShapes
set_option maxHeartbeats 2000000
set_option maxRecDepth 100000
section
def St.l(x:St):List Value:=[.int .u32 x.tb,.bool x.pu,.int .u32 x.st,.int .u32 x.wn,.int .u32 x.fr,.int .u32 x.hd,.bool x.co]
def St.c(x:St):Array Value:=#[.int .u32 x.tb,.bool x.pu,.int .u32 x.st,.int .u32 x.wn,.int .u32 x.fr,.int .u32 x.hd,.bool x.co]
def sec(i v:Nat):Array Value:=#[.int .u16 i,.int .u32 v]
def zbk(s:Nat × Nat):List Value:=[.int .u16 (s.1:Int),.int .u32 (s.2:Int)]
def zk(s c:Nat):Array Value:=#[.int .u8 s,.int .u32 c]
theorem St.cl(x:St):x.c.toList=x.l:=rfl
theorem Zi(s c s' c':Nat):(zk s c).size=(zk s' c').size:=rfl
theorem St.sz(x y:St):x.c.size=y.c.size:=rfl
theorem zbx(s:Nat × Nat):(zbk s).length=2:=rfl
theorem St.one(x:St):∀u∈x.l,u.oneCell'=true:=by intro u hu;simp[St.l] at hu;rcases hu with rfl|rfl|rfl|rfl|rfl|rfl|rfl<;>rfl
theorem zwf:(Tryz.prog.info? 59).map (·.size)=some 7:=by kernel_rfl
theorem zwq:(Tryz.prog.info? 164).map (·.size)=some 2:=by kernel_rfl
theorem zvz:(Tryz.prog.info? 29).map (·.size)=some 2:=by kernel_rfl
theorem St.ok(x:St):AgOk Tryz.prog 59 x.c:=⟨⟨_,Tryz.underlying59⟩,zwf,by unfold St.c;kernel_rfl⟩
theorem zcd(i v:Nat):AgOk Tryz.prog 164 (sec i v):=⟨⟨_,Tryz.underlying164⟩,zwq,by unfold sec;kernel_rfl⟩
theorem qv(s c:Nat):AgOk Tryz.prog 29 (zk s c):=⟨⟨_,Tryz.underlying29⟩,zvz,by unfold zk;kernel_rfl⟩
section
variable {w:World}{g:Nat}
theorem zg5{x:St}(h:Row w g 59 x.c):w.cell? ⟨g,0,none⟩=some (.int .u32 x.tb)∧w.cell? ⟨g,1,none⟩=some (.bool x.pu)∧w.cell? ⟨g,2,none⟩=some (.int .u32 x.st)∧w.cell? ⟨g,3,none⟩=some (.int .u32 x.wn)∧
  w.cell? ⟨g,4,none⟩=some (.int .u32 x.fr)∧w.cell? ⟨g,5,none⟩=some (.int .u32 x.hd)∧w.cell? ⟨g,6,none⟩=some (.bool x.co):=⟨h.cell rfl,h.cell rfl,h.cell rfl,h.cell rfl,h.cell rfl,h.cell rfl,h.cell rfl⟩
theorem Yz{i v:Nat}(h:Row w g 164 (sec i v)):w.cell? ⟨g,0,none⟩=some (.int .u16 i)∧w.cell? ⟨g,1,none⟩=some (.int .u32 v):=⟨h.cell rfl,h.cell rfl⟩
end
theorem Xo(a b:Nat):((a:Int) == (b:Int))=decide (a=b):=by
 by_cases h:a=b
 ·subst h;simp
 ·have:¬(a:Int)=(b:Int):=by omega
  simp[h,this]
section
variable {P:Program}
theorem eqF{d : Nat}{f : Field}{fs : List Field}{xs ys : Array Value}{w : World}{a b : Value}{r : Bool}(hn : f.name ≠ "_")(hp : P.plainKey f.type = true)(hx : xs[f.offset]? = some a)(hy : ys[f.offset]? = some b)(he : (Op.equalIn d f.type a b).run P w = .ok r w) :
  (Op.eqFields d xs ys (f :: fs)).run P w=if r=true then (Op.eqFields d xs ys fs).run P w else .ok false w:=by
 simp only[Op.eqFields,Sem.run_bind,Sem.run_ite,if_pos hn,run_part_plain w hp hx,run_part_plain w hp hy,Result.andThen_ok,he]
 cases r<;>simp
theorem zig{t:TypeId}{fs:Array Field}(h:P.underlying t=some (.struct fs)):P.fieldsOf t=fs:=by unfold Program.fieldsOf;rw[h]
theorem zvu{d:Nat}{xs ys:Array Value}{w:World}:(Op.eqFields d xs ys []).run P w=.ok true w:=rfl
end
theorem zo7{a b:Bool}{w:World}:(if a=true then (Result.ok b w:Result Bool) else .ok false w)=.ok (a&&b) w:=by cases a<;>rfl
theorem zvk(s c s' c':Nat)(w:World):(Op.equalIn 10000 29 (.agg (zk s c)) (.agg (zk s' c'))).run Tryz.prog w=.ok (decide (s=s')&&decide (c=c')) w:=by
 have h1:=zig Tryz.underlying29
 rw[show (10000:Nat)=9998+1+1 from rfl,run_equalIn_struct w 9999 29 _ _ (by kernel_rfl) (by kernel_rfl),h1]
 have h8:=λ(a b:Nat)=>(run_equalIn_int (P:=Tryz.prog) w 9998 5 .u8 .u8 a b Tryz.underlying5).trans (by rw[Xo])
 have hi:=λ(a b:Nat)=>(run_equalIn_int (P:=Tryz.prog) w 9998 24 .u32 .u32 a b Tryz.underlying24).trans (by rw[Xo])
 rw[eqF (by decide) (by kernel_rfl) rfl rfl (h8 s s'),eqF (by decide) (by kernel_rfl) rfl rfl (hi c c'),zvu]
 rw[zo7,zo7,Bool.and_true]
theorem zol(s c s' c':Nat)(w:World):(binOp .neq 29 (.agg (zk s c)) (.agg (zk s' c'))).run Tryz.prog w=.ok (.bool (!(decide (s=s')&&decide (c=c')))) w:=by rw[run_neq_struct,zvk];rfl
end
section
theorem Z1(k:Nat)(w:World):Calls Tryz.prog 122 #[.int .u32 (k:Int)] w λe w'=>e=.returned (.agg (zk 1 k))∧Below w.heap.size w w':=by
 have HR:Hid (Row (w.alloc (.cells #[.int .u8 0,.int .u32 0] 29)) w.heap.size 29 (zk 0 0)):=Row.new w _ _
 go_enter Tryz.func122,Tryz.ntmps122
 go_wp2_with (refine ze (cs:=zk 1 k) rfl _ _ rfl rfl rfl HR.out rfl (qv _ _) ?_)
 exact bodyPost_ret (qn rfl _ rfl (HR.out.setRow _) (qv _ _)) rfl ⟨rfl,zd ((Below.refl _ _).alloc (Nat.le_refl _) _) _ _ (Nat.le_refl _)⟩
theorem Y6(w:World):Calls Tryz.prog 54 #[] w λe w'=>e=.returned (.agg ju.c)∧Below w.heap.size w w':=by
 have HR:Hid (Row (w.alloc (.cells #[.int .u32 0,.bool false,.int .u32 0,.int .u32 0,.int .u32 0,.int .u32 0,.bool false] 59)) w.heap.size 59 zS.c):=Row.new w _ _
 go_enter Tryz.func54,Tryz.ntmps54
 go_wp2_with (refine ze (cs:=ju.c) rfl _ _ rfl rfl rfl HR.out rfl (St.ok _) ?_)
 exact bodyPost_ret (qn rfl _ rfl (HR.out.setRow _) (St.ok _)) rfl ⟨rfl,zd ((Below.refl _ _).alloc (Nat.le_refl _) _) _ _ (Nat.le_refl _)⟩
end
section
theorem yk{a:Nat}{b:Nat}(h:a≠b):((a:Int) == (b:Int))=false:=by rw[Xo];exact decide_eq_false h
inductive Way (s:St):Nat→Nat→Nat→Prop
 |two0 (v:Nat) (h:v≤1):Way s 2 v 0
 |two1 (v:Nat) (h:1<v):Way s 2 v 1
 |four0 (v:Nat) (h:v≤2147483647):Way s 4 v 0
 |four3 (v:Nat) (h:2147483647<v):Way s 4 v 3
 |five0 (v:Nat) (h:16384≤v) (h2:v≤16777215):Way s 5 v 0
 |fiveL (v:Nat) (h:v<16384):Way s 5 v 1
 |fiveG (v:Nat) (h:16777215<v):Way s 5 v 1
 |eight1:Way s 8 1 0
 |eight0 (h:s.co=false):Way s 8 0 0
 |eightX (h:s.co=true):Way s 8 0 1
 |eightG (v:Nat) (h:1<v):Way s 8 v 1
 |rest (i v:Nat) (h2:i≠2) (h4:i≠4) (h5:i≠5) (h8:i≠8):Way s i v 0
theorem way(s:St)(i v:Nat):Way s i v (wrN s i v):=by
 by_cases h2:i=2
 ·subst h2
  by_cases h:v≤1
  ·rw[show wrN s 2 v=0 by unfold wrN;simp;omega];exact .two0 v h
  ·rw[show wrN s 2 v=1 by unfold wrN;simp;omega];exact .two1 v (by omega)
 by_cases h4:i=4
 ·subst h4
  by_cases h:v≤2147483647
  ·rw[show wrN s 4 v=0 by unfold wrN;simp;omega];exact .four0 v h
  ·rw[show wrN s 4 v=3 by unfold wrN;simp;omega];exact .four3 v (by omega)
 by_cases h5:i=5
 ·subst h5
  by_cases h:v<16384
  ·rw[show wrN s 5 v=1 by unfold wrN;simp;omega];exact .fiveL v h
  ·by_cases h':v≤16777215
   ·rw[show wrN s 5 v=0 by unfold wrN;simp;omega];exact .five0 v (by omega) h'
   ·rw[show wrN s 5 v=1 by unfold wrN;simp;omega];exact .fiveG v (by omega)
 by_cases h8:i=8
 ·subst h8
  by_cases h:1<v
  ·rw[show wrN s 8 v=1 by unfold wrN;simp;omega];exact .eightG v h
  ·by_cases h1:v=1
   ·subst h1
    rw[show wrN s 8 1=0 by unfold wrN;simp];exact .eight1
   ·obtain rfl:v=0:=by omega
    by_cases hc:s.co=true
    ·rw[show wrN s 8 0=1 by unfold wrN;simp[hc]];exact .eightX hc
    ·rw[show wrN s 8 0=0 by unfold wrN;simp[hc]];exact .eight0 (by simpa using hc)
 rw[show wrN s i v=0 by unfold wrN;simp[h2,h4,h5,h8]]
 exact .rest i v h2 h4 h5 h8
attribute [local irreducible] St.c zk
theorem zsp(s:St)(i v:Nat)(w:World):Calls Tryz.prog 188 #[.agg s.c,.agg (sec i v)] w λe w'=>e=.returned (.bool (decide (wrN s i v=0)))∧Below w.heap.size w w':=by
 have HS:Hid (Row ((w.alloc (.cells s.c 59)).alloc (.cells (sec i v) 164)) w.heap.size 59 s.c):=(Row.new w _ _).alloc _
 have HX:Hid (Row ((w.alloc (.cells s.c 59)).alloc (.cells (sec i v) 164)) (w.heap.size+1) 164 (sec i v)):=Row.made _ _ _ (by simp)
 have HB:Hid (Below w.heap.size w ((w.alloc (.cells s.c 59)).alloc (.cells (sec i v) 164))):=((Below.refl _ _).alloc (Nat.le_refl _) _).alloc (by simp) _
 have c6:=(zg5 HS.out).2.2.2.2.2.2
 obtain⟨x0,x1⟩:=Yz HX.out
 have hw:=way s i v
 generalize wrN s i v=n at *
 cases hw with
 |two0 _ h=>
  have h':(v:Int)≤1:=by omega
  clear h c6
  go_enter Tryz.func188,Tryz.ntmps188
  go_wp2
  go_ret
  exact⟨rfl,HB.out⟩
 |two1 _ h=>
  have h':decide ((v:Int)≤1)=false:=by simp;omega
  clear h c6
  go_enter Tryz.func188,Tryz.ntmps188
  go_wp2
  go_ret
  exact⟨rfl,HB.out⟩
 |four0 _ h=>
  have h':(v:Int)≤2147483647:=by omega
  clear h c6
  go_enter Tryz.func188,Tryz.ntmps188
  go_wp2
  go_ret
  exact⟨rfl,HB.out⟩
 |four3 _ h=>
  have h':decide ((v:Int)≤2147483647)=false:=by simp;omega
  clear h c6
  go_enter Tryz.func188,Tryz.ntmps188
  go_wp2
  go_ret
  exact⟨rfl,HB.out⟩
 |five0 _ h h2=>
  have h':(16384:Int)≤(v:Int):=by omega
  have h2':(v:Int)≤16777215:=by omega
  clear h h2 c6
  go_enter Tryz.func188,Tryz.ntmps188
  go_wp2
  go_ret
  exact⟨rfl,HB.out⟩
 |fiveL _ h=>
  have h':decide ((16384:Int)≤(v:Int))=false:=by simp;omega
  clear h c6
  go_enter Tryz.func188,Tryz.ntmps188
  go_wp2
  go_ret
  exact⟨rfl,HB.out⟩
 |fiveG _ h=>
  have h':(16384:Int)≤(v:Int):=by omega
  have h2':decide ((v:Int)≤16777215)=false:=by simp;omega
  clear h c6
  go_enter Tryz.func188,Tryz.ntmps188
  go_wp2
  go_ret
  exact⟨rfl,HB.out⟩
 |eight1=>
  clear c6
  go_enter Tryz.func188,Tryz.ntmps188
  go_wp2
  go_ret
  exact⟨rfl,HB.out⟩
 |eight0 h=>
  rw[h] at c6
  clear h
  go_enter Tryz.func188,Tryz.ntmps188
  go_wp2
  go_ret
  exact⟨rfl,HB.out⟩
 |eightX h=>
  rw[h] at c6
  clear h
  go_enter Tryz.func188,Tryz.ntmps188
  go_wp2
  go_ret
  exact⟨rfl,HB.out⟩
 |eightG _ h=>
  have h1:((v:Int) == 1)=false:=yk (b:=1) (by omega)
  have h0:((v:Int) == 0)=false:=yk (b:=0) (by omega)
  clear h c6
  go_enter Tryz.func188,Tryz.ntmps188
  go_wp2
  go_ret
  exact⟨rfl,HB.out⟩
 |rest _ _ h2 h4 h5 h8=>
  have e2:((i:Int) == 2)=false:=yk (b:=2) h2
  have e4:((i:Int) == 4)=false:=yk (b:=4) h4
  have e5:((i:Int) == 5)=false:=yk (b:=5) h5
  have e8:((i:Int) == 8)=false:=yk (b:=8) h8
  clear h2 h4 h5 h8 c6
  go_enter Tryz.func188,Tryz.ntmps188
  go_wp2
  go_ret
  exact⟨rfl,HB.out⟩
theorem zn0(s:St)(i v:Nat)(w:World):Calls Tryz.prog 158 #[.agg s.c,.agg (sec i v)] w λe w'=>e=.returned (.agg (zk (if wrN s i v=0 then 0 else 1) (wrN s i v)))∧Below w.heap.size w w':=by
 have hz:zk 0 0=#[.int .u8 0,.int .u32 0]:=by unfold zk;rfl
 have HS:Hid (Row (((w.alloc (.cells s.c 59)).alloc (.cells (sec i v) 164)).alloc (.cells #[.int .u8 0,.int .u32 0] 29)) w.heap.size 59 s.c):=((Row.new w _ _).alloc _).alloc _
 have HX:Hid (Row (((w.alloc (.cells s.c 59)).alloc (.cells (sec i v) 164)).alloc (.cells #[.int .u8 0,.int .u32 0] 29)) (w.heap.size+1) 164 (sec i v)):=(Row.made _ _ _ (by simp)).alloc _
 have HR:Hid (Row (((w.alloc (.cells s.c 59)).alloc (.cells (sec i v) 164)).alloc (.cells #[.int .u8 0,.int .u32 0] 29)) (w.heap.size+2) 29 (zk 0 0)):=by show Row _ _ _ _;rw[hz];exact Row.made _ _ _ (by simp)
 have HB:Hid (Below w.heap.size w (((w.alloc (.cells s.c 59)).alloc (.cells (sec i v) 164)).alloc (.cells #[.int .u8 0,.int .u32 0] 29))):=(((Below.refl _ _).alloc (Nat.le_refl _) _).alloc (by simp) _).alloc (by simp;omega) _
 have hm:=zsp s i v
 have hw:=zyy s i v
 have h4:i=4∧(wrN s i v=3∨wrN s i v=0)∨((i:Int) == 4)=false∧(wrN s i v=0∨wrN s i v=1):=by
  by_cases e:i=4
  ·subst e
   refine .inl ⟨rfl,?_⟩
   by_cases h:2147483647<v
   ·exact .inl (by simp[wrN,h])
   ·exact .inr (by simp[wrN,h])
  ·refine .inr ⟨yk (b:=4) e,?_⟩
   rcases hw with h|h|h
   ·exact .inl h
   ·exact .inr h
   ·exfalso
    unfold wrN at h
    rw[if_neg (λx=>e x.1)] at h
    split at h<;>omega
 clear hz hw
 generalize wrN s i v=n at *
 have hN:n=0∨((i=4∧n=3)∨(((i:Int) == 4)=false∧n=1)):=by
  rcases h4 with ⟨rfl,rfl|rfl⟩|⟨e,rfl|rfl⟩
  ·exact .inr (.inl ⟨rfl,rfl⟩)
  ·exact .inl rfl
  ·exact .inl rfl
  ·exact .inr (.inr ⟨e,rfl⟩)
 clear h4
 rcases hN with rfl|⟨rfl,rfl⟩|⟨e4,rfl⟩
 ·go_enter Tryz.func158,Tryz.ntmps158
  go_wp2_with (first|(refine zj rfl _ rfl rfl HS.out (St.ok _) ?_)|(refine zj rfl _ rfl rfl HX.out (zcd _ _) ?_))
  refine(hm _).mono ?_
  rintro e w1 ⟨rfl,hb⟩
  have HR1:=z2w (HR.out.below hb HR.out.lt)
  have HB1:=z2w (HB.out.trans (hb.mono HB.out.size))
  clear hb HR HB HS HX hm
  go_wp2_with (refine ze (cs:=zk 0 0) rfl _ _ rfl rfl (by unfold zk;rfl) HR1.out (Zi _ _ _ _) (qv _ _) ?_)
  exact bodyPost_ret (qn rfl _ rfl (HR1.out.setRow _) (qv _ _)) rfl ⟨rfl,zd HB1.out _ _ (by omega)⟩
 ·go_enter Tryz.func158,Tryz.ntmps158
  go_wp2_with (first|(refine zj rfl _ rfl rfl HS.out (St.ok _) ?_)|(refine zj rfl _ rfl rfl HX.out (zcd _ _) ?_))
  refine(hm _).mono ?_
  rintro e w1 ⟨rfl,hb⟩
  have HR1:=z2w (HR.out.below hb HR.out.lt)
  have x0:=(Yz (HX.out.below hb HX.out.lt)).1
  have HB1:=z2w (HB.out.trans (hb.mono HB.out.size))
  clear hb HR HB HS HX hm
  go_wp2_with fail
  refine(Z1 3 _).mono ?_
  rintro e w2 ⟨rfl,hb⟩
  have HR2:=z2w (HR1.out.below hb HR1.out.lt)
  have HB2:=z2w (HB1.out.trans (hb.mono HB1.out.size))
  clear hb HR1 HB1 x0
  go_wp2_with (refine ze (cs:=zk 1 3) rfl _ _ rfl rfl rfl HR2.out (Zi _ _ _ _) (qv _ _) ?_)
  exact bodyPost_ret (qn rfl _ rfl (HR2.out.setRow _) (qv _ _)) rfl ⟨rfl,zd HB2.out _ _ (by omega)⟩
 ·go_enter Tryz.func158,Tryz.ntmps158
  go_wp2_with (first|(refine zj rfl _ rfl rfl HS.out (St.ok _) ?_)|(refine zj rfl _ rfl rfl HX.out (zcd _ _) ?_))
  refine(hm _).mono ?_
  rintro e w1 ⟨rfl,hb⟩
  have HR1:=z2w (HR.out.below hb HR.out.lt)
  have x0:=(Yz (HX.out.below hb HX.out.lt)).1
  have HB1:=z2w (HB.out.trans (hb.mono HB.out.size))
  clear hb HR HB HS HX hm
  go_wp2_with fail
  refine(Z1 1 _).mono ?_
  rintro e w2 ⟨rfl,hb⟩
  have HR2:=z2w (HR1.out.below hb HR1.out.lt)
  have HB2:=z2w (HB1.out.trans (hb.mono HB1.out.size))
  clear hb HR1 HB1 x0
  go_wp2_with (refine ze (cs:=zk 1 1) rfl _ _ rfl rfl rfl HR2.out (Zi _ _ _ _) (qv _ _) ?_)
  exact bodyPost_ret (qn rfl _ rfl (HR2.out.setRow _) (qv _ _)) rfl ⟨rfl,zd HB2.out _ _ (by omega)⟩
end
section
theorem zry{w:World}{g:Nat}{s:St}{v:Nat}(h:Row w g 59 s.c):Row (w.setCell ⟨g,0,none⟩ (.int .u32 (v:Int))) g 59 (stN s 1 v).c:=h.stored 0 _
theorem zs7{w:World}{g:Nat}{s:St}{v:Nat}(h:Row w g 59 s.c):Row (w.setCell ⟨g,2,none⟩ (.int .u32 (v:Int))) g 59 (stN s 3 v).c:=h.stored 2 _
theorem zrz{w:World}{g:Nat}{s:St}{v:Nat}(h:Row w g 59 s.c):Row (w.setCell ⟨g,3,none⟩ (.int .u32 (v:Int))) g 59 (stN s 4 v).c:=h.stored 3 _
theorem zq9{w:World}{g:Nat}{s:St}{v:Nat}(h:Row w g 59 s.c):Row (w.setCell ⟨g,4,none⟩ (.int .u32 (v:Int))) g 59 (stN s 5 v).c:=h.stored 4 _
theorem zru{w:World}{g:Nat}{s:St}{v:Nat}(h:Row w g 59 s.c):Row (w.setCell ⟨g,5,none⟩ (.int .u32 (v:Int))) g 59 (stN s 6 v).c:=h.stored 5 _
theorem zsq{w:World}{g:Nat}{s:St}{v:Nat}(h:Row w g 59 s.c):Row (w.setCell ⟨g,1,none⟩ (.bool (decide (v=1)))) g 59 (stN s 2 v).c:=h.stored 1 _
theorem zrl{w:World}{g:Nat}{s:St}{v:Nat}(h:Row w g 59 s.c):Row (w.setCell ⟨g,6,none⟩ (.bool (decide (v=1)))) g 59 (stN s 8 v).c:=h.stored 6 _
theorem z1k(i:Nat):(i=1∨i=2∨i=3∨i=4∨i=5∨i=6∨i=8)∨((((i:Int) == 1)=false∧((i:Int) == 2)=false∧((i:Int) == 3)=false∧((i:Int) == 4)=false∧((i:Int) == 5)=false∧((i:Int) == 6)=false∧((i:Int) == 8)=false)∧∀s v,stN s i v=s):=by
 by_cases h1:i=1
 ·exact .inl (.inl h1)
 by_cases h2:i=2
 ·exact .inl (.inr (.inl h2))
 by_cases h3:i=3
 ·exact .inl (.inr (.inr (.inl h3)))
 by_cases h4:i=4
 ·exact .inl (.inr (.inr (.inr (.inl h4))))
 by_cases h5:i=5
 ·exact .inl (.inr (.inr (.inr (.inr (.inl h5)))))
 by_cases h6:i=6
 ·exact .inl (.inr (.inr (.inr (.inr (.inr (.inl h6))))))
 by_cases h8:i=8
 ·exact .inl (.inr (.inr (.inr (.inr (.inr (.inr h8))))))
 exact .inr ⟨⟨yk (b:=1) h1,yk (b:=2) h2,yk (b:=3) h3,yk (b:=4) h4,yk (b:=5) h5,yk (b:=6) h6,yk (b:=8) h8⟩,λs v=>by unfold stN;rw[if_neg h1,if_neg h2,if_neg h3,if_neg h4,if_neg h5,if_neg h6,if_neg h8]⟩
theorem zys(v:Nat):((v:Int) == 1)=decide (v=1):=Xo v 1
attribute [local irreducible] St.c zk
theorem zwm(s:St)(i v:Nat)(w:World):Calls Tryz.prog 159 #[.agg s.c,.agg (sec i v)] w λe w'=>e=.returned (.agg (stN s i v).c)∧Below w.heap.size w w':=by
 have hz:zS.c=#[.int .u32 0,.bool false,.int .u32 0,.int .u32 0,.int .u32 0,.int .u32 0,.bool false]:=by unfold St.c;rfl
 have HS:Hid (Row (((w.alloc (.cells s.c 59)).alloc (.cells (sec i v) 164)).alloc (.cells #[.int .u32 0,.bool false,.int .u32 0,.int .u32 0,.int .u32 0,.int .u32 0,.bool false] 59)) w.heap.size 59 s.c):=((Row.new w _ _).alloc _).alloc _
 have HX:Hid (Row (((w.alloc (.cells s.c 59)).alloc (.cells (sec i v) 164)).alloc (.cells #[.int .u32 0,.bool false,.int .u32 0,.int .u32 0,.int .u32 0,.int .u32 0,.bool false] 59)) (w.heap.size+1) 164 (sec i v)):=(Row.made _ _ _ (by simp)).alloc _
 have HR:Hid (Row (((w.alloc (.cells s.c 59)).alloc (.cells (sec i v) 164)).alloc (.cells #[.int .u32 0,.bool false,.int .u32 0,.int .u32 0,.int .u32 0,.int .u32 0,.bool false] 59)) (w.heap.size+2) 59 zS.c):=by show Row _ _ _ _;rw[hz];exact Row.made _ _ _ (by simp)
 have HB:Hid (Below w.heap.size w (((w.alloc (.cells s.c 59)).alloc (.cells (sec i v) 164)).alloc (.cells #[.int .u32 0,.bool false,.int .u32 0,.int .u32 0,.int .u32 0,.int .u32 0,.bool false] 59))):=(((Below.refl _ _).alloc (Nat.le_refl _) _).alloc (by simp) _).alloc (by simp;omega) _
 have HD:Hid (w.heap.size<w.heap.size+2):=by show _<_;omega
 go_enter Tryz.func159,Tryz.ntmps159
 go_upto_region 1 with fail
 generalize ((w.alloc (.cells s.c 59)).alloc (.cells (sec i v) 164)).alloc (.cells #[.int .u32 0,.bool false,.int .u32 0,.int .u32 0,.int .u32 0,.int .u32 0,.bool false] 59)=w1 at *
 obtain⟨x0,x1⟩:=Yz HX.out
 obtain⟨s0,s1,s2,s3,s4,s5,s6⟩:=zg5 HS.out
 have z0:=HS.out.thawed 0
 have z1:=HS.out.thawed 1
 have z2:=HS.out.thawed 2
 have z3:=HS.out.thawed 3
 have z4:=HS.out.thawed 4
 have z5:=HS.out.thawed 5
 have z6:=HS.out.thawed 6
 have hv1:=zys v
 have HRx:∀(j:Nat) (x:Value),Hid (Row (w1.setCell ⟨w.heap.size,j,none⟩ x) (w.heap.size+2) 59 zS.c):=λj x=>HR.out.stored' (by simp) x
 have HBx:∀(j:Nat) (x:Value) (c:Array Value),Hid (Below w.heap.size w ((w1.setCell ⟨w.heap.size,j,none⟩ x).setRow (w.heap.size+2) c)):=λj x c=>zd (HB.out.setCell (p:=⟨w.heap.size,j,none⟩) (Nat.le_refl _) x) _ _ (by omega)
 clear hz
 rcases z1k i with (rfl|rfl|rfl|rfl|rfl|rfl|rfl)|⟨⟨e1,e2,e3,e4,e5,e6,e8⟩,hN⟩
 ·have HS2:=z2w (zry (v:=v) HS.out)
  go_wp2_with (first|(refine zj rfl _ rfl rfl HS2.out (St.ok _) ?_)|(refine ze (cs:=(stN s 1 v).c) rfl _ _ rfl rfl rfl (HRx _ _).out (St.sz _ _) (St.ok _) ?_))
  exact bodyPost_ret (qn rfl _ rfl ((HRx _ _).out.setRow _) (St.ok _)) rfl ⟨rfl,(HBx _ _ _).out⟩
 ·have HS2:=z2w (zsq (v:=v) HS.out)
  go_wp2_with (first|(refine zj rfl _ rfl rfl HS2.out (St.ok _) ?_)|(refine ze (cs:=(stN s 2 v).c) rfl _ _ rfl rfl rfl (HRx _ _).out (St.sz _ _) (St.ok _) ?_))
  exact bodyPost_ret (qn rfl _ rfl ((HRx _ _).out.setRow _) (St.ok _)) rfl ⟨rfl,(HBx _ _ _).out⟩
 ·have HS2:=z2w (zs7 (v:=v) HS.out)
  go_wp2_with (first|(refine zj rfl _ rfl rfl HS2.out (St.ok _) ?_)|(refine ze (cs:=(stN s 3 v).c) rfl _ _ rfl rfl rfl (HRx _ _).out (St.sz _ _) (St.ok _) ?_))
  exact bodyPost_ret (qn rfl _ rfl ((HRx _ _).out.setRow _) (St.ok _)) rfl ⟨rfl,(HBx _ _ _).out⟩
 ·have HS2:=z2w (zrz (v:=v) HS.out)
  go_wp2_with (first|(refine zj rfl _ rfl rfl HS2.out (St.ok _) ?_)|(refine ze (cs:=(stN s 4 v).c) rfl _ _ rfl rfl rfl (HRx _ _).out (St.sz _ _) (St.ok _) ?_))
  exact bodyPost_ret (qn rfl _ rfl ((HRx _ _).out.setRow _) (St.ok _)) rfl ⟨rfl,(HBx _ _ _).out⟩
 ·have HS2:=z2w (zq9 (v:=v) HS.out)
  go_wp2_with (first|(refine zj rfl _ rfl rfl HS2.out (St.ok _) ?_)|(refine ze (cs:=(stN s 5 v).c) rfl _ _ rfl rfl rfl (HRx _ _).out (St.sz _ _) (St.ok _) ?_))
  exact bodyPost_ret (qn rfl _ rfl ((HRx _ _).out.setRow _) (St.ok _)) rfl ⟨rfl,(HBx _ _ _).out⟩
 ·have HS2:=z2w (zru (v:=v) HS.out)
  go_wp2_with (first|(refine zj rfl _ rfl rfl HS2.out (St.ok _) ?_)|(refine ze (cs:=(stN s 6 v).c) rfl _ _ rfl rfl rfl (HRx _ _).out (St.sz _ _) (St.ok _) ?_))
  exact bodyPost_ret (qn rfl _ rfl ((HRx _ _).out.setRow _) (St.ok _)) rfl ⟨rfl,(HBx _ _ _).out⟩
 ·have HS2:=z2w (zrl (v:=v) HS.out)
  go_wp2_with (first|(refine zj rfl _ rfl rfl HS2.out (St.ok _) ?_)|(refine ze (cs:=(stN s 8 v).c) rfl _ _ rfl rfl rfl (HRx _ _).out (St.sz _ _) (St.ok _) ?_))
  exact bodyPost_ret (qn rfl _ rfl ((HRx _ _).out.setRow _) (St.ok _)) rfl ⟨rfl,(HBx _ _ _).out⟩
 ·have HN:=z2w (hN s v)
  clear hN
  go_wp2_with (first|(refine zj rfl _ rfl rfl HS.out (St.ok _) ?_)|(refine ze (cs:=s.c) rfl _ _ rfl rfl rfl HR.out (St.sz _ _) (St.ok _) ?_))
  exact bodyPost_ret (qn rfl _ rfl (HR.out.setRow _) (St.ok _)) rfl ⟨by rw[HN.out],zd HB.out _ _ (by omega)⟩
end
section
structure Cc where
 srv:Bool
 sp:Value
 ga:Value
 de:Value
 en:Value
 ow:Value
 pe:St
 ev:Value
 mt:Value
 wn:Nat
 row:Value
 rep:Nat
 rg:Value
 sm:Value
 ov:Value
 lv:Nat
 la:Nat
 be:Bool
 aw:Bool
 pa:Bool
 go:Bool
def Cc.c(x:Cc):Array Value:=#[.bool x.srv,x.sp,x.ga,x.de,x.en,x.ow,.int .u32 x.pe.tb,.bool x.pe.pu,.int .u32 x.pe.st,.int .u32 x.pe.wn,.int .u32 x.pe.fr,.int .u32 x.pe.hd,.bool x.pe.co,x.ev,x.mt,.int .u32 x.wn,x.row,.int .i64 x.rep,x.rg,x.sm,x.ov,.int .i64 x.lv,.int .u32 x.la,.bool x.be,.bool x.aw,.bool x.pa,.bool x.go]
section
variable {w:World}{c:Nat}{x:Cc}
theorem cc0(h:Row w c 86 x.c):w.cell? ⟨c,0,none⟩=some (.bool x.srv):=h.cell (by unfold Cc.c;rfl)
theorem cc1(h:Row w c 86 x.c):w.cell? ⟨c,1,none⟩=some x.sp:=h.cell (by unfold Cc.c;rfl)
theorem cc2(h:Row w c 86 x.c):w.cell? ⟨c,2,none⟩=some x.ga:=h.cell (by unfold Cc.c;rfl)
theorem cc3(h:Row w c 86 x.c):w.cell? ⟨c,3,none⟩=some x.de:=h.cell (by unfold Cc.c;rfl)
theorem cc4(h:Row w c 86 x.c):w.cell? ⟨c,4,none⟩=some x.en:=h.cell (by unfold Cc.c;rfl)
theorem cc5(h:Row w c 86 x.c):w.cell? ⟨c,5,none⟩=some x.ow:=h.cell (by unfold Cc.c;rfl)
theorem Xj(h:Row w c 86 x.c):w.cell? ⟨c,13,none⟩=some x.ev:=h.cell (by unfold Cc.c;rfl)
theorem z1y(h:Row w c 86 x.c):w.cell? ⟨c,14,none⟩=some x.mt:=h.cell (by unfold Cc.c;rfl)
theorem zh6(h:Row w c 86 x.c):w.cell? ⟨c,15,none⟩=some (.int .u32 x.wn):=h.cell (by unfold Cc.c;rfl)
theorem Jl(h:Row w c 86 x.c):w.cell? ⟨c,16,none⟩=some x.row:=h.cell (by unfold Cc.c;rfl)
theorem zlb(h:Row w c 86 x.c):w.cell? ⟨c,17,none⟩=some (.int .i64 x.rep):=h.cell (by unfold Cc.c;rfl)
theorem Vz(h:Row w c 86 x.c):w.cell? ⟨c,18,none⟩=some x.rg:=h.cell (by unfold Cc.c;rfl)
theorem zbp(h:Row w c 86 x.c):w.cell? ⟨c,19,none⟩=some x.sm:=h.cell (by unfold Cc.c;rfl)
theorem zl0(h:Row w c 86 x.c):w.cell? ⟨c,20,none⟩=some x.ov:=h.cell (by unfold Cc.c;rfl)
theorem zdc(h:Row w c 86 x.c):w.cell? ⟨c,21,none⟩=some (.int .i64 x.lv):=h.cell (by unfold Cc.c;rfl)
theorem zdx(h:Row w c 86 x.c):w.cell? ⟨c,22,none⟩=some (.int .u32 x.la):=h.cell (by unfold Cc.c;rfl)
theorem zkj(h:Row w c 86 x.c):w.cell? ⟨c,23,none⟩=some (.bool x.be):=h.cell (by unfold Cc.c;rfl)
theorem zqg(h:Row w c 86 x.c):w.cell? ⟨c,24,none⟩=some (.bool x.aw):=h.cell (by unfold Cc.c;rfl)
theorem zyb(h:Row w c 86 x.c):w.cell? ⟨c,25,none⟩=some (.bool x.pa):=h.cell (by unfold Cc.c;rfl)
theorem Y3(h:Row w c 86 x.c):w.cell? ⟨c,26,none⟩=some (.bool x.go):=h.cell (by unfold Cc.c;rfl)
theorem zab(h:Row w c 86 x.c)(v:Value):Row (w.setCell ⟨c,13,none⟩ v) c 86 ({ x with ev:=v }:Cc).c:=h.stored 13 v
theorem zb1(h:Row w c 86 x.c)(v:Value):Row (w.setCell ⟨c,16,none⟩ v) c 86 ({ x with row:=v }:Cc).c:=h.stored 16 v
theorem znu(h:Row w c 86 x.c)(n:Nat):Row (w.setCell ⟨c,17,none⟩ (.int .i64 n)) c 86 ({ x with rep:=n }:Cc).c:=h.stored 17 _
theorem z0e(h:Row w c 86 x.c)(b:Bool):Row (w.setCell ⟨c,26,none⟩ (.bool b)) c 86 ({ x with go:=b }:Cc).c:=h.stored 26 _
theorem z0x(h:Row w c 86 x.c)(b:Bool):Row (w.setCell ⟨c,23,none⟩ (.bool b)) c 86 ({ x with be:=b }:Cc).c:=h.stored 23 _
theorem ztq(h:Row w c 86 x.c)(n:Nat):Row (w.setCell ⟨c,21,none⟩ (.int .i64 n)) c 86 ({ x with lv:=n }:Cc).c:=h.stored 21 _
theorem z1f(h:Row w c 86 x.c)(n:Nat):Row (w.setCell ⟨c,22,none⟩ (.int .u32 n)) c 86 ({ x with la:=n }:Cc).c:=h.stored 22 _
theorem z0c(h:Row w c 86 x.c)(v:Value):Row (w.setCell ⟨c,20,none⟩ v) c 86 ({ x with ov:=v }:Cc).c:=h.stored 20 v
end
structure Ev where
 kd:Nat
 st:Nat
 fA:Option Addr
 fn:Nat
 fc:Nat
 dA:Option Addr
 dn:Nat
 dc:Nat
 en:Bool
 cd:Nat
 sc:Nat
 co:Nat
def evc(x:Ev):Array Value:=#[.int .u8 x.kd,.int .u32 x.st,.slice x.fA x.fn x.fc,.slice x.dA x.dn x.dc,.bool x.en,.int .u32 x.cd,.int .u8 x.sc,.int .u32 x.co]
def evl(x:Ev):List Value:=(evc x).toList
def evF(n:Nat):Ev:=⟨6,0,none,0,0,none,0,0,false,0,1,n⟩
def ev0:Ev:=⟨0,0,none,0,0,none,0,0,false,0,0,0⟩
theorem zac(x:Ev):(evl x).length=8:=rfl
theorem zw1(x:Ev):∀u∈evl x,u.oneCell'=true:=by
 intro u hu
 unfold evl evc at hu
 simp at hu
 rcases hu with rfl|rfl|rfl|rfl|rfl|rfl|rfl|rfl<;>rfl
theorem Jp(x y:Ev):(evc x).size=(evc y).size:=rfl
theorem zvt:(Tryz.prog.info? 31).map (·.size)=some 8:=by kernel_rfl
theorem j5(x:Ev):AgOk Tryz.prog 31 (evc x):=⟨⟨_,Tryz.underlying31⟩,zvt,by unfold evc;kernel_rfl⟩
theorem zdr:(Tryz.prog.info? 31).map (λi=>(i.zero,i.size,i.bytes))=some (some (.agg #[.int .u8 0,.int .u32 0,.slice none 0 0,.slice none 0 0,.bool false,.int .u32 0,.int .u8 0,.int .u32 0]),8,72):=by kernel_rfl
theorem ztg{w:World}{g:Nat}{x:Ev}(h:Row w g 31 (evc x)):w.cell? ⟨g,0,none⟩=some (.int .u8 x.kd)∧w.cell? ⟨g,1,none⟩=some (.int .u32 x.st)∧w.cell? ⟨g,5,none⟩=some (.int .u32 x.cd):=
 ⟨h.cell (by unfold evc;rfl),h.cell (by unfold evc;rfl),h.cell (by unfold evc;rfl)⟩
end
section
def pv(p:Nat × Nat):Value × Value:=(.int .u32 (p.1:Int),.pointer (some ⟨p.2,0,none⟩))
def atM:List (Nat × Nat)→Nat→Nat→Option (Nat × Nat)
 |[],_,_=>none
 |p :: r,n,i=>if p.1=n then some (i,p.2) else atM r n (i+1)
def MapM(w:World)(g:Nat)(L:List (Nat × Nat)):Prop:=∃es clk,w.heap[g]?=some (.map es clk)∧es.toList.map (λe=>(e.key,e.val))=L.map pv
section
variable {w w':World}{g:Nat}{L:List (Nat × Nat)}
theorem MapM.lt(h:MapM w g L):g<w.heap.size:=by
 obtain⟨es,clk,h1,_⟩:=h
 exact(Array.getElem?_eq_some_iff.1 h1).1
theorem MapM.keep(h:MapM w g L)(hk:w'.heap[g]?=w.heap[g]?):MapM w' g L:=by
 obtain⟨es,clk,h1,h2⟩:=h
 exact⟨es,clk,hk.trans h1,h2⟩
theorem MapM.below(h:MapM w g L)(hb:Below w.heap.size w w'):MapM w' g L:=h.keep (hb.block g h.lt)
theorem MapM.fs{S:Nat→Prop}(h:MapM w g L)(hf:Fs S w w')(hS:¬S g):MapM w' g L:=h.keep (hf.block g h.lt hS)
theorem MapM.ne(h:MapM w g L){k:Nat}{T:TypeId}{cs:Array Value}(h2:Row w k T cs):g≠k:=by
 rintro rfl
 obtain⟨es,clk,h1,_⟩:=h
 unfold Row at h2
 rw[h1] at h2
 cases h2
theorem MapM.new(w:World):MapM (w.alloc (.map #[] 0)) w.heap.size []:=⟨#[],0,heap_alloc_last w _,rfl⟩
theorem zb3(n:Nat):∀(es:List MapEntry) (L:List (Nat × Nat)) (i:Nat),es.map (λe=>(e.key,e.val))=L.map pv→Instr.findNow (.int .u32) (.int .u32 (n:Int)) es i=some ((atM L n i).map λq=>(q.1,.pointer (some ⟨q.2,0,none⟩)))
 |[],[],_,_=>rfl
 |[],p :: r,_,h=>by simp at h
 |e :: es,[],_,h=>by simp at h
 |e :: es,p :: r,i,h=>by
  simp only[List.map_cons,List.cons.injEq,Prod.mk.injEq,pv] at h
  obtain⟨⟨h1,h2⟩,h3⟩:=h
  unfold Instr.findNow atM
  rw[h1]
  by_cases hp:p.1=n
  ·have:Instr.sameNow (.int .u32) (.int .u32 (n:Int)) (.int .u32 (p.1:Int))=some true:=by simp[Instr.sameNow,hp]
   rw[this,if_pos hp]
   simp[h2]
  ·have:Instr.sameNow (.int .u32) (.int .u32 (n:Int)) (.int .u32 (p.1:Int))=some false:=by
    simp only[Instr.sameNow,if_true,Option.some.injEq,beq_eq_false_iff_ne,ne_eq]
    omega
   rw[this,if_neg hp]
   exact zb3 n es r (i+1) (by simpa [pv] using h3)
theorem zbw{es:Array MapEntry}(n:Nat)(h:es.toList.map (λe=>(e.key,e.val))=L.map pv)(w:World):(Instr.findKey 24 (.int .u32 (n:Int)) es.toList).run Tryz.prog w=.ok ((atM L n 0).map λq=>(q.1,.pointer (some ⟨q.2,0,none⟩))) w:=by
 unfold Instr.findKey
 simp only[Sem.run_bind,run_underlying Tryz.underlying24,Result.andThen,zb3 n es.toList L 0 h,Sem.run_pure]
theorem zd2(e:Bool)(n:Nat)(w:World):(Instr.checkKey e 10000 24 (.int .u32 (n:Int))).run Tryz.prog w=.ok () w:=MapKept.run_checkKey Tryz.underlying24 (by simp[MapKept.IsKey]) e 9999
theorem zlv(w:World):(zeroValue 96).run Tryz.prog w=.ok (.pointer none) w:=by
 have h:(Tryz.prog.info? 96).map (·.zero)=some (some (.pointer none)):=by kernel_rfl
 cases hi:Tryz.prog.info? 96 with
 |none=>rw[hi] at h;simp at h
 |some i=>rw[hi] at h;simp at h;simp[zeroValue,typeInfo,hi,h]
theorem zmy(h:MapM w g L){n:Nat}(hn:atM L n 0=none):(Instr.lookup 84 (.map (some g)) (.int .u32 (n:Int)) false).run Tryz.prog w=.ok (.pointer none) w:=by
 obtain⟨es,clk,h1,h2⟩:=h
 have hf:=zbw n h2 w
 rw[hn] at hf
 simp[Instr.lookup,Sem.run_bind,run_underlying Tryz.underlying84,MapKept.run_getObj_map h1,zd2,hf,zlv,Result.andThen]
theorem zdn(h:MapM w g L){n i k:Nat}(hn:atM L n 0=some (i,k)):(Instr.lookup 84 (.map (some g)) (.int .u32 (n:Int)) false).run Tryz.prog w=.ok (.pointer (some ⟨k,0,none⟩)) w:=by
 obtain⟨es,clk,h1,h2⟩:=h
 have hf:=zbw n h2 w
 rw[hn] at hf
 simp[Instr.lookup,Sem.run_bind,run_underlying Tryz.underlying84,MapKept.run_getObj_map h1,zd2,hf,Result.andThen]
theorem zpu(w:World)(g:Nat)(o:Obj):∀k,k≠g→({ w with heap:=w.heap.setIfInBounds g o }:World).heap[k]?=w.heap[k]?:=λk hk=>by
 simp[Array.getElem?_setIfInBounds,Ne.symm hk]
theorem zzj(w:World)(g:Nat)(o:Obj):Fs (λk=>k=g) w { w with heap:=w.heap.setIfInBounds g o }:=⟨rfl,rfl,rfl,by simp,λk _ hk=>zpu w g o k hk⟩
theorem zyn{w:World}{g:Nat}(h:g<w.heap.size)(o:Obj):({ w with heap:=w.heap.setIfInBounds g o }:World).heap[g]?=some o:=by simp[h]
theorem zo3(h:MapM w g L){n:Nat}(k:Nat)(hn:atM L n 0=none):∃w',(Instr.mapUpdate 84 (.map (some g)) (.int .u32 (n:Int)) (.pointer (some ⟨k,0,none⟩))).run Tryz.prog w=.ok () w'∧MapM w' g (L++[(n,k)])∧Fs (λj=>j=g) w w':=by
 have hlt:=h.lt
 obtain⟨es,clk,h1,h2⟩:=h
 have hf:=zbw n h2 w
 rw[hn] at hf
 refine⟨{ w with heap:=w.heap.setIfInBounds g (.map (es.push ⟨.int .u32 (n:Int),.pointer (some ⟨k,0,none⟩),clk⟩) (clk+1)) },?_,⟨_,_,zyn hlt _,?_⟩,zzj _ _ _⟩
 ·simp[Instr.mapUpdate,Sem.run_bind,run_underlying Tryz.underlying84,MapKept.run_getObj_map h1,zd2,hf,MapKept.run_setObj_map _ h1,Result.andThen]
 ·simp[h2,pv]
end
end
section
attribute [local irreducible] Cc.c evc
theorem X2{w:World}{c:Nat}{x:Cc}(h:Row w c 86 x.c):Calls Tryz.prog 21 #[.pointer (some ⟨c,0,none⟩)] w λe w'=>e=.returned (.bool x.go)∧w'=w:=by
 have h26:=Y3 h
 clear h
 go_enter Tryz.func21,Tryz.ntmps21
 go_wp2_with fail
 go_ret
 exact⟨rfl,rfl⟩
end
end Go.Proofs.YtooaajnkiokpnaaGreatDoor
