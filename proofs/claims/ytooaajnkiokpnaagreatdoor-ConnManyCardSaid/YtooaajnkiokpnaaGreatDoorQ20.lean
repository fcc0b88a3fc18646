/-
  Part of a proof: A meter's Of, by contract. No conditions. Conditions: those that each theorem names.
-/
import Derived.Test.YtooaajnkiokpnaaGreatDoorProg
import Derived.Test.YtooaajnkiokpnaaGreatDoorQ06
import Derived.Test.YtooaajnkiokpnaaGreatDoorQ05
import Derived.Laws.StructEq
import Derived.ChangeKeysEq
import Derived.Lib.MinMax
import Derived.Deep.CutBlock
import Derived.Deep.DeepCutAuto
import Derived.Test.YtooaajnkiokpnaaGreatDoorQ12
import Derived.Test.YtooaajnkiokpnaaGreatDoorQ04
import Derived.Test.YtooaajnkiokpnaaGreatDoorQ14
import Derived.Lib.SmallJoins
import Derived.BigQuiet
import Derived.Test.YtooaajnkiokpnaaGreatDoorQ01
import Derived.Test.YtooaajnkiokpnaaGreatDoorQ07
namespace Go.Proofs.YtooaajnkiokpnaaGreatDoor
open Go.RowKit Go.WideShapes
set_option maxHeartbeats 2000000
set_option maxRecDepth 100000
section
def wnc(l:Int)(s:Nat):Array Value:=#[.int .i64 l,.int .u8 s]
def mtc(z l:Int)(s:Nat)(u:Int):Array Value:=#[.int .i64 z,.int .i64 l,.int .u8 s,.int .i64 u]
def zy(s c:Nat):Array Value:=#[.int .u8 s,.int .u32 c]
def sco(b:Bool):Nat:=if b then 2 else 1
def btw(n:Int):Int:=if 2147483647<n then 2147483647 else if n < -2147483648 then -2147483648 else n
theorem znb(n:Int):-2147483648≤btw n∧btw n≤2147483647:=by unfold btw;omega
theorem Zw(s c s' c':Nat):(zy s c).size=(zy s' c').size:=rfl
theorem zyr:#[Value.int .u8 0,.int .u32 0]=zy 0 0:=rfl
theorem zr8:(Tryz.prog.info? 29).map (·.size)=some 2:=by kernel_rfl
theorem jg(s c:Nat):AgOk Tryz.prog 29 (zy s c):=⟨⟨_,Tryz.underlying29⟩,zr8,by unfold zy;kernel_rfl⟩
section
variable {w:World}{g:Nat}
theorem za4{l:Int}{s:Nat}(h:Row w g 160 (wnc l s)):w.cell? ⟨g,0,none⟩=some (.int .i64 l)∧w.cell? ⟨g,1,none⟩=some (.int .u8 s):=⟨h.cell rfl,h.cell rfl⟩
theorem Y1{z l u:Int}{s:Nat}(h:Row w g 162 (mtc z l s u)):w.cell? ⟨g,0,none⟩=some (.int .i64 z)∧w.cell? ⟨g,1,none⟩=some (.int .i64 l)∧w.cell? ⟨g,2,none⟩=some (.int .u8 s)∧w.cell? ⟨g,3,none⟩=some (.int .i64 u):=⟨h.cell rfl,h.cell rfl,h.cell rfl,h.cell rfl⟩
theorem wnC{l:Int}{s:Nat}(h:Row w g 160 (wnc l s)):w.cell? ⟨g,0,none⟩=some (.int .i64 l):=h.cell rfl
theorem mtC{z l u:Int}{s:Nat}(h:Row w g 162 (mtc z l s u)):w.cell? ⟨g,1,none⟩=some (.int .i64 l):=h.cell rfl
theorem wnS{l:Int}{s:Nat}(h:Row w g 160 (wnc l s)):w.cell? ⟨g,1,none⟩=some (.int .u8 s):=h.cell rfl
theorem mtS{z l u:Int}{s:Nat}(h:Row w g 162 (mtc z l s u)):w.cell? ⟨g,2,none⟩=some (.int .u8 s):=h.cell rfl
theorem wnL{l l':Int}{s:Nat}(h:Row w g 160 (wnc l s)):Row (w.setCell ⟨g,0,none⟩ (.int .i64 l')) g 160 (wnc l' s):=h.stored 0 _
theorem mtL{z l l' u:Int}{s:Nat}(h:Row w g 162 (mtc z l s u)):Row (w.setCell ⟨g,1,none⟩ (.int .i64 l')) g 162 (mtc z l' s u):=h.stored 1 _
theorem zu7{l:Int}{s s':Nat}(h:Row w g 160 (wnc l s)):Row (w.setCell ⟨g,1,none⟩ (.int .u8 s')) g 160 (wnc l s'):=h.stored 1 _
theorem zj6{z l u u':Int}{s:Nat}(h:Row w g 162 (mtc z l s u)):Row (w.setCell ⟨g,3,none⟩ (.int .i64 u')) g 162 (mtc z l s u'):=h.stored 3 _
end
theorem zdi(a b:Nat):((a:Int) == (b:Int))=decide (a=b):=by
 by_cases h:a=b
 ·subst h;simp
 ·have:¬(a:Int)=(b:Int):=by omega
  simp[h,this]
section
variable {P:Program}
theorem zxz{d : Nat}{f : Field}{fs : List Field}{xs ys : Array Value}{w : World}{a b : Value}{r : Bool}(hn : f.name ≠ "_")(hp : P.plainKey f.type = true)(hx : xs[f.offset]? = some a)(hy : ys[f.offset]? = some b)(he : (Op.equalIn d f.type a b).run P w = .ok r w) :
  (Op.eqFields d xs ys (f :: fs)).run P w=if r=true then (Op.eqFields d xs ys fs).run P w else .ok false w:=by
 simp only[Op.eqFields,Sem.run_bind,Sem.run_ite,if_pos hn,run_part_plain w hp hx,run_part_plain w hp hy,Result.andThen_ok,he]
 cases r<;>simp
theorem zh8{t:TypeId}{fs:Array Field}(h:P.underlying t=some (.struct fs)):P.fieldsOf t=fs:=by unfold Program.fieldsOf;rw[h]
theorem zqo{d:Nat}{xs ys:Array Value}{w:World}:(Op.eqFields d xs ys []).run P w=.ok true w:=rfl
end
theorem zjb{a b:Bool}{w:World}:(if a=true then (Result.ok b w:Result Bool) else .ok false w)=.ok (a&&b) w:=by cases a<;>rfl
theorem zqf(s c s' c':Nat)(w:World):(Op.equalIn 10000 29 (.agg (zy s c)) (.agg (zy s' c'))).run Tryz.prog w=.ok (decide (s=s')&&decide (c=c')) w:=by
 have h1:=zh8 Tryz.underlying29
 rw[show (10000:Nat)=9998+1+1 from rfl,run_equalIn_struct w 9999 29 _ _ (by kernel_rfl) (by kernel_rfl),h1]
 have h8:=λ(a b:Nat)=>(run_equalIn_int (P:=Tryz.prog) w 9998 5 .u8 .u8 a b Tryz.underlying5).trans (by rw[zdi])
 have hi:=λ(a b:Nat)=>(run_equalIn_int (P:=Tryz.prog) w 9998 24 .u32 .u32 a b Tryz.underlying24).trans (by rw[zdi])
 rw[zxz (by decide) (by kernel_rfl) rfl rfl (h8 s s'),zxz (by decide) (by kernel_rfl) rfl rfl (hi c c'),zqo]
 rw[zjb,zjb,Bool.and_true]
theorem zjp(s c s' c':Nat)(w:World):(binOp .neq 29 (.agg (zy s c)) (.agg (zy s' c'))).run Tryz.prog w=.ok (.bool (!(decide (s=s')&&decide (c=c')))) w:=by rw[run_neq_struct,zqf];rfl
theorem Vs(w:World)(g o:Nat)(x:Value):Fs (λk=>k=g) w (w.setCell ⟨g,o,none⟩ x):=(Fs.refl (λk=>k=g) w).setCell (λ_=>rfl) _ _
theorem zci(w:World):Row (w.alloc (.cells #[.int .u8 0,.int .u32 0] 29)) w.heap.size 29 (zy 0 0)∧Below w.heap.size w (w.alloc (.cells #[.int .u8 0,.int .u32 0] 29))∧(w.alloc (.cells #[.int .u8 0,.int .u32 0] 29)).heap.size=w.heap.size+1:=by
 refine⟨by rw[zyr];exact Row.new w _ _,(Below.refl _ _).alloc (Nat.le_refl _) _,by simp⟩
theorem zme(w:World)(s c:Nat):∃w',(w.alloc (.cells #[.int .u8 0,.int .u32 0] 29)).setRow w.heap.size (zy s c)=w'∧Row (w.alloc (.cells #[.int .u8 0,.int .u32 0] 29)) w.heap.size 29 (zy 0 0)∧Row w' w.heap.size 29 (zy s c)∧Below w.heap.size w w':=by
 have h1:Row (w.alloc (.cells #[.int .u8 0,.int .u32 0] 29)) w.heap.size 29 (zy 0 0):=by rw[zyr];exact Row.new w _ _
 exact⟨_,rfl,h1,h1.setRow _,zd ((Below.refl _ _).alloc (Nat.le_refl _) _) _ _ (by omega)⟩
end
section
theorem Xs{w:World}{g:Nat}{l:Int}{s:Nat}(h:Row w g 160 (wnc l s)):Calls Tryz.prog 154 #[.pointer (some ⟨g,0,none⟩)] w λe w'=>e=.returned (.int .i64 l)∧w'=w:=by
 obtain⟨c0,c1⟩:=za4 h
 clear h
 go_enter Tryz.func154,Tryz.ntmps154
 go_wp2
 go_ret
 exact⟨rfl,rfl⟩
theorem zy3(l:Int):min (max l (-2147483648)) 2147483647=btw l:=by unfold btw;omega
theorem zxe(w:World)(l:Int):∃w',w.alloc (.cells #[.int .i64 l,.int .u8 1] 160)=w'∧Row w' w.heap.size 160 (wnc l 1)∧Below w.heap.size w w':=
 ⟨_,rfl,Row.new w _ _,(Below.refl _ _).alloc (Nat.le_refl _) _⟩
attribute [local irreducible] wnc mtc zy btw
theorem vg(l:Int)(b:Bool)(w:World):Calls Tryz.prog 88 #[.int .i64 l,.bool b] w λe w'=>∃g,e=.returned (.pointer (some ⟨g,0,none⟩))∧Row w' g 160 (wnc (btw l) (sco b))∧Below w.heap.size w w'∧w.heap.size≤g:=by
 have hm:=zy3 l
 obtain⟨w1,hw1,t2,t3⟩:=zxe w (btw l)
 have T2:=z2w t2
 have T3:=z2w t3
 have T7:=z2w hw1
 have HS:=z2w (zu7 (s':=2) t2)
 have hth:=t2.thawed 1
 have hc1:=(za4 t2).2
 clear t2 t3 hw1
 cases b
 all_goals
  go_enter Tryz.func88,Tryz.ntmps88
  go_upto_region 2 with fail
  rw[T7.out]
  go_wp2_with fail
  go_ret
 ·exact⟨w.heap.size,rfl,T2.out,T3.out,Nat.le_refl _⟩
 ·exact⟨w.heap.size,rfl,HS.out,T3.out.setCell (Nat.le_refl _) _,Nat.le_refl _⟩
end
section
def zzh(l n:Int):Prop:=0≤n∧n≤max l 0
attribute [local irreducible] wnc mtc zy btw
theorem zen{w:World}{g:Nat}{l:Int}{s:Nat}(h:Row w g 160 (wnc l s))(hl:-2147483648≤l∧l≤2147483647){n:Int}(hn:zzh l n):Calls Tryz.prog 155 #[.pointer (some ⟨g,0,none⟩),.int .i64 n] w λe w'=>e=.returned (.bool true)∧Row w' g 160 (wnc (l-n) s)∧Fs (λk=>k=g) w w':=by
 have HR:=z2w (wnL (l':=l-n) h)
 have HF:=z2w (Vs w g 0 (.int .i64 (l-n)))
 have hth:=h.thawed 0
 have c0:=wnC h
 clear h
 unfold zzh at hn
 have d0:decide (n<0)=false:=by simp;omega
 have d1:decide (max l 0<n)=false:=by simp;omega
 have hw:IntKind.i64.wrap (l-n)=l-n:=IntWalk.i64_in _ (by omega)
 clear hn hl
 go_enter Tryz.func155,Tryz.ntmps155
 go_wp2
 go_ret
 exact⟨rfl,HR.out,HF.out⟩
end
section
theorem Zx(w:World):Hid (Row (w.alloc (.cells #[.int .u8 0,.int .u32 0] 29)) w.heap.size 29 (zy 0 0)):=(zci w).1
theorem Je(w:World):Hid (Below w.heap.size w (w.alloc (.cells #[.int .u8 0,.int .u32 0] 29))):=(zci w).2.1
attribute [local irreducible] wnc mtc btw
theorem zjx{w:World}{g:Nat}{l:Int}{s:Nat}(h:Row w g 160 (wnc l s))(hl:-2147483648≤l∧l≤2147483647){n:Int}(hn:-4294967296≤n∧n≤4294967296)(t:Nat)(hg:2147483647<l+n):Calls Tryz.prog 153 #[.pointer (some ⟨g,0,none⟩),.int .i64 n,.int .u8 (t:Int)] w λe w'=>e=.returned (.agg (zy t 3))∧Below w.heap.size w w':=by
 have HR:=Zx w
 have HB:=Je w
 have c0:=wnC (h.alloc (.cells #[.int .u8 0,.int .u32 0] 29))
 have hw:IntKind.i64.wrap (l+n)=l+n:=IntWalk.i64_in _ (by omega)
 clear h hl hn
 go_enter Tryz.func153,Tryz.ntmps153
 go_upto_region 1 with fail
 generalize w.alloc (.cells #[.int .u8 0,.int .u32 0] 29)=w1 at *
 go_wp2_with (refine ze (cs:=zy t 3) rfl _ _ rfl rfl rfl HR.out (Zw _ _ _ _) (jg _ _) ?_)
 exact bodyPost_ret (qn rfl _ rfl (HR.out.setRow _) (jg _ _)) rfl ⟨rfl,zd HB.out _ _ (Nat.le_refl _)⟩
theorem zrp{w:World}{g:Nat}{l:Int}{s:Nat}(h:Row w g 160 (wnc l s))(hl:-2147483648≤l∧l≤2147483647){n:Int}(hn:-4294967296≤n∧n≤4294967296)(t:Nat)(hg:¬2147483647<l+n):Calls Tryz.prog 153 #[.pointer (some ⟨g,0,none⟩),.int .i64 n,.int .u8 (t:Int)] w λe w'=>e=.returned (.agg (zy 0 0))∧Row w' g 160 (wnc (max (l+n) (-2147483648)) s)∧Fs (λk=>k=g) w w':=by
 have hlt:=h.lt
 have HR:=Zx w
 have HB:=Je w
 have h1:=h.alloc (.cells #[.int .u8 0,.int .u32 0] 29)
 have c0:=wnC h1
 have hth:=h1.thawed 0
 have HW:=z2w (wnL (l':=max (l+n) (-2147483648)) h1)
 have hw:IntKind.i64.wrap (l+n)=l+n:=IntWalk.i64_in _ (by omega)
 have d0:decide (2147483647<l+n)=false:=by simp;omega
 have HF:Hid (∀x c,Fs (λk=>k=g) w (((w.alloc (.cells #[.int .u8 0,.int .u32 0] 29)).setCell ⟨g,0,none⟩ x).setRow w.heap.size c)):=λx c=>(((Fs.refl (λk=>k=g) w).alloc _).setCell (g:=g) (λ_=>rfl) _ _).setRow (g:=w.heap.size) (λhk=>absurd hk (Nat.lt_irrefl _)) _
 have HN:Hid (w.heap.size≠g):=by show _≠_;omega
 clear h hl hn h1 hlt hg
 go_enter Tryz.func153,Tryz.ntmps153
 go_upto_region 1 with fail
 generalize w.alloc (.cells #[.int .u8 0,.int .u32 0] 29)=w1 at *
 have HR2:=z2w (HR.out.stored' (a:=⟨g,0,none⟩) HN.out (.int .i64 (max (l+n) (-2147483648))))
 go_upto_region 5 with fail
 go_wp2_with (refine ze (cs:=zy 0 0) rfl _ _ rfl rfl rfl HR2.out (Zw _ _ _ _) (jg _ _) ?_)
 exact bodyPost_ret (qn rfl _ rfl (HR2.out.setRow _) (jg _ _)) rfl ⟨rfl,HW.out.setRow' (λe=>HN.out e.symm) _,HF.out _ _⟩
theorem zsd{w:World}{g:Nat}{l:Int}{s:Nat}{z u:Int}(h:Row w g 162 (mtc z l s u))(hl:-2147483648≤l∧l≤2147483647){n:Int}(hn:-4294967296≤n∧n≤4294967296)(t:Nat)(hg:¬2147483647<l+n):Calls Tryz.prog 153 #[.pointer (some ⟨g,1,none⟩),.int .i64 n,.int .u8 (t:Int)] w λe w'=>e=.returned (.agg (zy 0 0))∧Row w' g 162 (mtc z (max (l+n) (-2147483648)) s u)∧Fs (λk=>k=g) w w':=by
 have hlt:=h.lt
 have HR:=Zx w
 have HB:=Je w
 have h1:=h.alloc (.cells #[.int .u8 0,.int .u32 0] 29)
 have c0:=mtC h1
 have hth:=h1.thawed 1
 have HW:=z2w (mtL (l':=max (l+n) (-2147483648)) h1)
 have hw:IntKind.i64.wrap (l+n)=l+n:=IntWalk.i64_in _ (by omega)
 have d0:decide (2147483647<l+n)=false:=by simp;omega
 have HF:Hid (∀x c,Fs (λk=>k=g) w (((w.alloc (.cells #[.int .u8 0,.int .u32 0] 29)).setCell ⟨g,1,none⟩ x).setRow w.heap.size c)):=λx c=>(((Fs.refl (λk=>k=g) w).alloc _).setCell (g:=g) (λ_=>rfl) _ _).setRow (g:=w.heap.size) (λhk=>absurd hk (Nat.lt_irrefl _)) _
 have HN:Hid (w.heap.size≠g):=by show _≠_;omega
 clear h hl hn h1 hlt hg
 go_enter Tryz.func153,Tryz.ntmps153
 go_upto_region 1 with fail
 generalize w.alloc (.cells #[.int .u8 0,.int .u32 0] 29)=w1 at *
 have HR2:=z2w (HR.out.stored' (a:=⟨g,1,none⟩) HN.out (.int .i64 (max (l+n) (-2147483648))))
 go_upto_region 5 with fail
 go_wp2_with (refine ze (cs:=zy 0 0) rfl _ _ rfl rfl rfl HR2.out (Zw _ _ _ _) (jg _ _) ?_)
 exact bodyPost_ret (qn rfl _ rfl (HR2.out.setRow _) (jg _ _)) rfl ⟨rfl,HW.out.setRow' (λe=>HN.out e.symm) _,HF.out _ _⟩
theorem z1x{w:World}{g:Nat}{l:Int}{s:Nat}(h:Row w g 160 (wnc l s))(hl:-2147483648≤l∧l≤2147483647){n:Int}(hn:0≤n∧n≤4294967295)(hg:2147483647<l+n):Calls Tryz.prog 117 #[.pointer (some ⟨g,0,none⟩),.int .u32 n] w λe w'=>e=.returned (.agg (zy s 3))∧Below w.heap.size w w':=by
 have HR:=Zx w
 have HB:=Je w
 have h1:=h.alloc (.cells #[.int .u8 0,.int .u32 0] 29)
 have c1:=wnS h1
 have hw:IntKind.i64.wrap n=n:=IntWalk.i64_in _ (by omega)
 have hadd:=zjx h1 hl (n:=n) (by omega) s hg
 have HA:=z2w hadd
 clear h hl hn h1 hg hadd
 go_enter Tryz.func117,Tryz.ntmps117
 go_upto_region 1 with fail
 generalize w.alloc (.cells #[.int .u8 0,.int .u32 0] 29)=w1 at *
 go_wp2_with fail
 refine HA.out.mono ?_
 rintro e w2 ⟨rfl,hb⟩
 have HR2:=z2w (HR.out.below hb HR.out.lt)
 have HB2:=z2w (HB.out.trans (hb.mono HB.out.size))
 clear hb HR HB HA
 go_wp2_with (refine ze (cs:=zy s 3) rfl _ _ rfl rfl rfl HR2.out (Zw _ _ _ _) (jg _ _) ?_)
 exact bodyPost_ret (qn rfl _ rfl (HR2.out.setRow _) (jg _ _)) rfl ⟨rfl,zd HB2.out _ _ (Nat.le_refl _)⟩
theorem zmk{w:World}{g:Nat}{l:Int}{s:Nat}{z u:Int}(h:Row w g 162 (mtc z l s u))(hl:-2147483648≤l∧l≤2147483647){n:Int}(hn:0≤n∧n≤4294967295)(hg:¬2147483647<l+n):Calls Tryz.prog 117 #[.pointer (some ⟨g,1,none⟩),.int .u32 n] w λe w'=>e=.returned (.agg (zy 0 0))∧Row w' g 162 (mtc z (max (l+n) (-2147483648)) s u)∧Fs (λk=>k=g) w w':=by
 have HR:=Zx w
 have HN:Hid (w.heap.size≠g):=by have:=h.lt;show _≠_;omega
 have HF:Hid (Fs (λk=>k=g) w (w.alloc (.cells #[.int .u8 0,.int .u32 0] 29))):=(Fs.refl _ w).alloc _
 have h1:=h.alloc (.cells #[.int .u8 0,.int .u32 0] 29)
 have c1:=mtS h1
 have hw:IntKind.i64.wrap n=n:=IntWalk.i64_in _ (by omega)
 have hadd:=zsd h1 hl (n:=n) (by omega) s hg
 have HA:=z2w hadd
 clear h hl hn h1 hg hadd
 go_enter Tryz.func117,Tryz.ntmps117
 go_upto_region 1 with fail
 generalize w.alloc (.cells #[.int .u8 0,.int .u32 0] 29)=w1 at *
 go_wp2_with fail
 refine HA.out.mono ?_
 rintro e w2 ⟨rfl,hr,hf⟩
 have HR2:=z2w (hf.row HN.out HR.out)
 have HW:=z2w hr
 have HF2:=z2w (((HF.out.trans hf λ_ _ h=>h)).setRow (g:=w.heap.size) (λhk=>absurd hk (Nat.lt_irrefl _)) (zy 0 0))
 clear hr hf HR HA HF
 go_wp2_with (refine ze (cs:=zy 0 0) rfl _ _ rfl rfl rfl HR2.out (Zw _ _ _ _) (jg _ _) ?_)
 exact bodyPost_ret (qn rfl _ rfl (HR2.out.setRow _) (jg _ _)) rfl ⟨rfl,HW.out.setRow' (λe=>HN.out e.symm) _,HF2.out⟩
theorem zpt{w:World}{g:Nat}{l:Int}{s:Nat}(h:Row w g 160 (wnc l s))(hl:-2147483648≤l∧l≤2147483647){n m:Int}(hn:0≤n∧n≤4294967295)(hm:0≤m∧m≤4294967295)(hg:2147483647<l+(m-n)):Calls Tryz.prog 169 #[.pointer (some ⟨g,0,none⟩),.int .u32 n,.int .u32 m] w λe w'=>e=.returned (.agg (zy 1 3))∧Below w.heap.size w w':=by
 have HR:=Zx w
 have HB:=Je w
 have h1:=h.alloc (.cells #[.int .u8 0,.int .u32 0] 29)
 have hw:IntKind.i64.wrap n=n:=IntWalk.i64_in _ (by omega)
 have hw2:IntKind.i64.wrap m=m:=IntWalk.i64_in _ (by omega)
 have hw3:IntKind.i64.wrap (m-n)=m-n:=IntWalk.i64_in _ (by omega)
 have hadd:=zjx h1 hl (n:=m-n) (by omega) 1 hg
 have HA:=z2w hadd
 clear h hl hn h1 hg hadd hm
 go_enter Tryz.func169,Tryz.ntmps169
 go_upto_region 1 with fail
 generalize w.alloc (.cells #[.int .u8 0,.int .u32 0] 29)=w1 at *
 go_wp2_with fail
 refine HA.out.mono ?_
 rintro e w2 ⟨rfl,hb⟩
 have HR2:=z2w (HR.out.below hb HR.out.lt)
 have HB2:=z2w (HB.out.trans (hb.mono HB.out.size))
 clear hb HR HB HA
 go_wp2_with (refine ze (cs:=zy 1 3) rfl _ _ rfl rfl rfl HR2.out (Zw _ _ _ _) (jg _ _) ?_)
 exact bodyPost_ret (qn rfl _ rfl (HR2.out.setRow _) (jg _ _)) rfl ⟨rfl,zd HB2.out _ _ (Nat.le_refl _)⟩
theorem zpa{w:World}{g:Nat}{l:Int}{s:Nat}(h:Row w g 160 (wnc l s))(hl:-2147483648≤l∧l≤2147483647){n m:Int}(hn:0≤n∧n≤4294967295)(hm:0≤m∧m≤4294967295)(hg:¬2147483647<l+(m-n)):Calls Tryz.prog 169 #[.pointer (some ⟨g,0,none⟩),.int .u32 n,.int .u32 m] w λe w'=>e=.returned (.agg (zy 0 0))∧Row w' g 160 (wnc (max (l+(m-n)) (-2147483648)) s)∧Fs (λk=>k=g) w w':=by
 have HR:=Zx w
 have HN:Hid (w.heap.size≠g):=by have:=h.lt;show _≠_;omega
 have HF:Hid (Fs (λk=>k=g) w (w.alloc (.cells #[.int .u8 0,.int .u32 0] 29))):=(Fs.refl _ w).alloc _
 have h1:=h.alloc (.cells #[.int .u8 0,.int .u32 0] 29)
 have hw:IntKind.i64.wrap n=n:=IntWalk.i64_in _ (by omega)
 have hw2:IntKind.i64.wrap m=m:=IntWalk.i64_in _ (by omega)
 have hw3:IntKind.i64.wrap (m-n)=m-n:=IntWalk.i64_in _ (by omega)
 have hadd:=zrp h1 hl (n:=m-n) (by omega) 1 hg
 have HA:=z2w hadd
 clear h hl hn h1 hg hadd hm
 go_enter Tryz.func169,Tryz.ntmps169
 go_upto_region 1 with fail
 generalize w.alloc (.cells #[.int .u8 0,.int .u32 0] 29)=w1 at *
 go_wp2_with fail
 refine HA.out.mono ?_
 rintro e w2 ⟨rfl,hr,hf⟩
 have HR2:=z2w (hf.row HN.out HR.out)
 have HW:=z2w hr
 have HF2:=z2w (((HF.out.trans hf λ_ _ h=>h)).setRow (g:=w.heap.size) (λhk=>absurd hk (Nat.lt_irrefl _)) (zy 0 0))
 clear hr hf HR HA HF
 go_wp2_with (refine ze (cs:=zy 0 0) rfl _ _ rfl rfl rfl HR2.out (Zw _ _ _ _) (jg _ _) ?_)
 exact bodyPost_ret (qn rfl _ rfl (HR2.out.setRow _) (jg _ _)) rfl ⟨rfl,HW.out.setRow' (λe=>HN.out e.symm) _,HF2.out⟩
end
section
theorem Ju{P:Program}{t:TypeId}{z:Value}{n b:Nat}(h:(P.info? t).map (λi=>(i.zero,i.size,i.bytes))=some (some z,n,b)):∃i,P.info? t=some i∧i.zero=some z∧i.size=n∧i.bytes=b:=by
 cases hi:P.info? t with
 |none=>rw[hi] at h;simp at h
 |some i=>rw[hi] at h;simp at h;exact⟨i,rfl,h.1,h.2.1,h.2.2⟩
section
variable {w w':World}{g:Nat}
end
theorem zko{P:Program}{T:TypeId}{cs:Array Value}{ops:Array Oper}{rest:List Oper}{o:Oper}{a:Act}{w:World}{Q:Exit→Act→World→Prop}(hgd:o.guard=none)(p q:Operand)(ho:o.op=.store T p q){b i:Nat}(hp:a.eval p=.pointer (some ⟨b,i,none⟩))(hv:a.eval q=.agg cs)(ht:w.there b i cs.size)(hk:AgOk P T cs)
  (hq:wpList P ops Q rest (a.put o.dst undef) (w.setCells b i cs.toList)):wpList P ops Q (o :: rest) a w:=
 wpList_store_mid hgd T p q ho b i cs hp hv ht hk.s hk.o hq
end
section
def gwN(l n:Int):Int:=if 2147483647<l+n then l else max (l+n) (-2147483648)
section
variable {w:World}{g:Nat}
end
attribute [local irreducible] fd gwN
end
section
def fc(l:Int):List Sn→Nat
 |[]=>0
 |x :: L=>if can l x=true then 0 else fc l L+1
theorem zn5{l:Int}:∀{L:List Sn} {k:Nat} (hk:k<L.length),k≤fc l L→can l L[k]=true→fc l L=k
 |x :: L,0,_,_,h=>by
  have h':can l x=true:=h
  unfold fc;rw[if_pos h']
 |x :: L,k+1,hk,hle,h=>by
  unfold fc at hle ⊢
  split at hle
  ·omega
  ·rename_i hx
   rw[if_neg hx,zn5 (L:=L) (k:=k) (by simpa using hk) (by omega) h]
theorem zje{l:Int}:∀{L:List Sn} {k:Nat} (hk:k<L.length),k≤fc l L→can l L[k]=false→k+1≤fc l L
 |x :: L,0,_,_,h=>by
  have h':¬can l x=true:=by rw[show can l x=false from h];decide
  unfold fc;rw[if_neg h'];omega
 |x :: L,k+1,hk,hle,h=>by
  unfold fc at hle ⊢
  split at hle
  ·omega
  ·rename_i hx
   rw[if_neg hx]
   have:=zje (L:=L) (k:=k) (by simpa using hk) (by omega) h
   omega
def snN(l most:Int)(x:Sn):Nat:=if x.b=[] then 0 else (min (min (min (x.b.length:Int) (max 1 most)) x.lf) l).toNat
def snY(N:Nat)(x:Sn):Sn:={ x with b:=x.b.drop N,lf:=x.lf-N,ov:=x.en&&decide (x.b.drop N=[]) }
theorem zv9(a b c d:Int):(if d<(if c<(if b<a then b else a) then c else (if b<a then b else a)) then d else (if c<(if b<a then b else a) then c else (if b<a then b else a)))=min (min (min a b) c) d:=by
 repeat' split
 all_goals omega
theorem zrs{P:Program}(W:World)(ts:Array TypeId)(t:TypeId)(a b c d:Int) :
  (Builtin.min_ ts t #[.int .i64 a,.int .i64 b,.int .i64 c,.int .i64 d]).run P W=.ok (.int .i64 (min (min (min a b) c) d)) W:=by
 rw[←zv9]
 simp[Builtin.min_,Builtin.min2]
theorem zns{l most:Int}{x:Sn}(hc:can l x=true):(x.b=[]∧snN l most x=0)∨(x.b≠[]∧0<x.b.length∧min (min (min (x.b.length:Int) (max 1 most)) x.lf) l=(snN l most x:Int)):=by
 unfold can at hc
 unfold snN
 by_cases hb:x.b=[]
 ·rw[if_pos hb]
  exact .inl ⟨hb,rfl⟩
 ·rw[if_neg hb] at hc ⊢
  have h1:0<x.b.length:=List.length_pos_iff.2 hb
  simp only[Bool.and_eq_true,decide_eq_true_eq] at hc
  exact .inr ⟨hb,h1,by omega⟩
theorem zo1{l most:Int}{x:Sn}(hc:can l x=true):snN l most x≤x.b.length:=by
 rcases zns (most:=most) hc with ⟨_,h⟩|⟨_,h1,h⟩
 ·omega
 ·omega
attribute [local irreducible] can fc snN snY
end
section
def rot(l:List Sn)(t:Nat):List Sn:=l.drop t++l.take t
theorem zi3(l:List Sn)(t:Nat):(rot l t).length=l.length:=by
 simp only[rot,List.length_append,List.length_drop,List.length_take]
 omega
theorem zy7(l:List Sn){t:Nat}(ht:t≤l.length)(j:Nat):(rot l t)[j]?=if j<l.length-t then l[t+j]? else if j<l.length then l[j-(l.length-t)]? else none:=by
 unfold rot
 rw[List.getElem?_append]
 simp only[List.length_drop,List.getElem?_drop,List.getElem?_take]
 split
 ·rfl
 ·split
  ·rw[if_pos (by omega)]
  ·rw[if_neg (by omega)]
def Uniq(l:List Sn):Prop:=∀(i j:Nat) (x y:Sn),l[i]?=some x→l[j]?=some y→x.st=y.st→i=j
theorem zzn{s:Nat}{l:List Sn}(hu:Uniq l){k:Nat}{x:Sn}(hk:l[k]?=some x)(hs:x.st=s):fd s l=k:=by
 obtain⟨hkl,hx⟩:=List.getElem?_eq_some_iff.1 hk
 have hlt:fd s l<l.length:=by
  rcases Nat.lt_or_ge (fd s l) l.length with h|h
  ·exact h
  ·exfalso
   have h1:=ztw s l
   have h2:k≤fd s l:=by omega
   have:=zha hkl h2 (by rw[hx];exact hs)
   omega
 exact hu _ _ _ _ (List.getElem?_eq_getElem hlt) hk (by rw[zt2 hlt,hs])
def rp(n t k:Nat):Nat:=if t≤k then k-t else n-t+k
theorem zyz{l:List Sn}{t k:Nat}(ht:t<l.length)(hk:k<l.length):(rot l t)[rp l.length t k]?=l[k]?:=by
 rw[zy7 l (Nat.le_of_lt ht)]
 unfold rp
 by_cases h:t≤k
 ·rw[if_pos h,if_pos (by omega)]
  congr 1
  omega
 ·rw[if_neg h,if_neg (by omega),if_pos (by omega)]
  congr 1
  omega
theorem zyc{n t j:Nat}(ht:t<n)(hj:j<n):∃k,k<n∧rp n t k=j∧k=(t+j)%n:=by
 by_cases h:t+j<n
 ·refine⟨t+j,h,by unfold rp;rw[if_pos (by omega)];omega,(Nat.mod_eq_of_lt h).symm⟩
 ·refine⟨t+j-n,by omega,by unfold rp;rw[if_neg (by omega)];omega,?_⟩
  rw[Nat.mod_eq_sub_mod (by omega),Nat.mod_eq_of_lt (by omega)]
theorem zw5{l:List Sn}{t:Nat}{x:Sn}:x∈rot l t↔x∈l:=by
 unfold rot
 rw[List.mem_append]
 constructor
 ·rintro(h|h)
  ·exact List.mem_of_mem_drop h
  ·exact List.mem_of_mem_take h
 ·intro h
  rw[←List.take_append_drop t l,List.mem_append] at h
  exact h.symm
end
section
def zzl(L:List Sn):Prop:=∀x∈L,-2147483648≤x.lf∧x.lf≤2147483647
attribute [local irreducible] fd gwN
end
section
structure Rm where
 l:List Sn
 t:Nat
 w:Int
structure Rm.Ok(m:Rm):Prop where
 uq:Uniq m.l
 tn:m.t<m.l.length∨m.l=[]∧m.t=0
 lf:zzl m.l
 wn:-2147483648≤m.w∧m.w≤2147483647
 st:∀x∈m.l,0<x.st∧x.st<4294967296
theorem Rm.Ok.le{m:Rm}(h:m.Ok):m.t≤m.l.length:=by
 rcases h.tn with h|⟨h1,h2⟩
 ·omega
 ·omega
theorem Rm.Ok.lt{m:Rm}(h:m.Ok)(h0:0<m.l.length):m.t<m.l.length:=by
 rcases h.tn with h|⟨h1,h2⟩
 ·exact h
 ·rw[h1] at h0;simp at h0
def Jx(l:Int):Rm:=⟨[],0,btw l⟩
def xy(m:Rm)(s:Nat)(lf:Int):Rm × Bool:=if s=0∨fd s m.l<m.l.length then (m,false) else (⟨m.l++[⟨s,[],false,false,btw lf⟩],m.t,m.w⟩,true)
def z2u(m:Rm)(s:Nat)(b:List UInt8)(en:Bool):Rm × Bool:=
 match m.l[fd s m.l]? with
 |none=>(m,false)
 |some x=>if x.en then (m,false) else (⟨m.l.set (fd s m.l) { x with b:=x.b++b,en:=en },m.t,m.w⟩,true)
def drT(n t k:Nat):Nat:=if k<t then t-1 else if t+1=n then 0 else t
def xw(m:Rm)(s:Nat):Rm:=if fd s m.l<m.l.length then ⟨m.l.take (fd s m.l)++m.l.drop (fd s m.l+1),drT m.l.length m.t (fd s m.l),m.w⟩ else m
theorem za9(l:Int):(Jx l).Ok:=⟨λi j x y h=>by simp[Jx] at h,.inr ⟨rfl,rfl⟩,λx hx=>by simp[Jx] at hx,znb l,λx hx=>by simp[Jx] at hx⟩
def shL(d:Int):List Sn→List Sn × Int
 |[]=>([],0)
 |x :: r=>if 2147483647<x.lf+d then (x :: r,1) else ({ x with lf:=gwN x.lf d } :: (shL d r).1,(shL d r).2)
def Yh(m:Rm)(d:Int):Rm × Int:=(⟨(shL d m.l).1,m.t,m.w⟩,(shL d m.l).2)
def Zp(m:Rm)(most:Int):Option (Sn × Nat × Rm):=
 match (rot m.l m.t)[fc m.w (rot m.l m.t)]? with
 |none=>none
 |some x=>some (x,snN m.w most x,⟨m.l.set ((m.t+fc m.w (rot m.l m.t))%m.l.length) (snY (snN m.w most x) x),((m.t+fc m.w (rot m.l m.t))%m.l.length+1)%m.l.length,m.w-snN m.w most x⟩)
end
section
def tdc(s:Int):Array Value:=if s=0 then zy 0 0 else zy s.toNat 3
end
section
structure MtOk(z l u:Int):Prop where
 l0:0≤l
 u0:0≤u
 le:l+u≤z
 zz:z≤2147483647
attribute [local irreducible] wnc mtc btw
theorem zea{w:World}{g:Nat}{z l u:Int}{s:Nat}(h:Row w g 162 (mtc z l s u))(hk:MtOk z l u):Calls Tryz.prog 75 #[.pointer (some ⟨g,0,none⟩)] w λe w'=>e=.returned (.int .i64 (z-l-u))∧Below w.heap.size w w':=by
 obtain⟨c0,c1,_,c3⟩:=Y1 h
 obtain⟨k1,k2,k3,k4⟩:=hk
 have hw:IntKind.i64.wrap (z-l)=z-l:=IntWalk.i64_in _ (by omega)
 have hw2:IntKind.i64.wrap (z-l-u)=z-l-u:=IntWalk.i64_in _ (by omega)
 clear h k1 k2 k3 k4
 go_enter Tryz.func75,Tryz.ntmps75
 go_wp2_with fail
 go_quiet (fail)
 go_wp2_with fail
 go_ret
 exact⟨rfl,qu (Below.refl _ _) _⟩
end
section
def usU(z l u n:Int):Int:=u+min (max n 0) (z-l-u)
theorem zxs{z l u:Int}(hk:MtOk z l u)(n:Int):u≤usU z l u n∧usU z l u n≤z-l:=by
 obtain⟨k1,k2,k3,k4⟩:=hk
 unfold usU
 omega
def zks(z:Int):Int:=max ((z+1) / 2) 1
def Yc(z l u n:Int):Int × Int × Int:=if usU z l u n<zks z then (0,l,usU z l u n) else (usU z l u n,l+usU z l u n,0)
def zuq(w:World)(g:Nat)(z:Int)(s:Nat)(r:Int × Int × Int)(e:Ending)(w':World):Prop:=e=.returned (.int .u32 r.1)∧Row w' g 162 (mtc z r.2.1 s r.2.2)∧Fs (λk=>k=g) w w'
attribute [local irreducible] wnc mtc btw
theorem zu8{w:World}{g:Nat}{z l u:Int}{s:Nat}(h:Row w g 162 (mtc z l s u))(hk:MtOk z l u)(n:Int):Calls Tryz.prog 77 #[.pointer (some ⟨g,0,none⟩),.int .i64 n] w (zuq w g z s (Yc z l u n)):=by
 obtain⟨r,hr⟩:∃r,Yc z l u n=r:=⟨_,rfl⟩
 rw[hr]
 unfold Yc at hr
 have hU:=zxs hk n
 have hud:u+min (max n 0) (z-l-u)=usU z l u n:=rfl
 obtain⟨k1,k2,k3,k4⟩:=hk
 have hw:IntKind.i64.wrap (usU z l u n)=usU z l u n:=IntWalk.i64_in _ (by omega)
 have HO:=z2w (λ(W:World) (hW:Row W g 162 (mtc z l s u))=>zea hW ⟨k1,k2,k3,k4⟩)
 have hwz:IntKind.i64.wrap (z+1)=z+1:=IntWalk.i64_in _ (by omega)
 have hq:(z+1).tdiv 2=(z+1) / 2:=Int.tdiv_eq_ediv_of_nonneg (by omega)
 have hwq:IntKind.i64.wrap ((z+1) / 2)=(z+1) / 2:=IntWalk.i64_in _ (by omega)
 have hM:max ((z+1) / 2) 1=zks z:=rfl
 generalize zks z=M at *
 generalize usU z l u n=U at *
 have HR:=z2w h
 have HRR:=z2w hr
 have HLT:Hid (g<w.heap.size):=h.lt
 have hw32:IntKind.u32.wrap U=U:=IntWalk.u32_in _ (by omega)
 have HG:Hid (∀W:World,Row W g 162 (mtc z l s 0)→Calls Tryz.prog 117 #[.pointer (some ⟨g,1,none⟩),.int .u32 U] W λe w'=>e=.returned (.agg (zy 0 0))∧Row w' g 162 (mtc z (l+U) s 0)∧Fs (λk=>k=g) W w'):=λW hW=>by
  have:=zmk hW (by omega) (n:=U) (by omega) (by omega)
  rwa [show max (l+U) (-2147483648)=l+U by omega] at this
 clear h k1 k2 k3 k4 hU hr
 go_enter Tryz.func77,Tryz.ntmps77
 go_wp2_with fail
 have HRd:Hid (Row w.drew g 162 (mtc z l s u)):=by show Row _ _ _ _;exact HR.out
 clear HR
 refine qg 12 (λw'=>w'.cell? ⟨g,3,none⟩=some (.int .i64 u)) (by kernel_rfl) (Y1 HRd.out).2.2.2 (λhHeld=>?_)
 refine tkE 0 ?_
 refine tkE 1 ?_
 refine tkE 2 ?_
 refine tkE 3 ?_
 refine tkE 4 ?_
 refine tkE 5 ?_
 refine tkE 6 ?_
 refine zm (i:=7) (by kernel_rfl) rfl (λK hK=>?_)
 go_simp
 go_at_call 75
 refine(HO.out _ HRd.out).mono ?_
 rintro e w2 ⟨rfl,hb2⟩
 have hR2:=HRd.out.below hb2 HLT.out
 have HB2:Hid (Below w.heap.size w w2):=((Below.refl w.heap.size w).drew).trans hb2
 go_simp
 refine hK.out _ _ (Y1 hR2).2.2.2 (λhHeld=>?_)
 clear hK K
 try refine ptk ?_
 refine tkE 8 ?_
 refine tkE 9 ?_
 refine tkE 10 ?_
 refine tkE 11 ?_
 refine qh (by kernel_rfl) rfl (by kernel_rfl) (λK hK=>?_)
 have hR3:=z2w (zj6 (u':=U) hR2)
 have h1f:=hR2.thawed 3
 have HF3:=z2w (Vs w2 g 3 (.int .i64 U))
 clear hR2 HRd
 go_simp
 refine hK.out _ _ ?_
 clear hK K
 try refine ptk ?_
 have HF4:Hid (Fs (λk=>k=g) w (w2.setCell ⟨g,3,none⟩ (.int .i64 U))):=(Fs.of_below HB2.out).trans HF3.out λ_ _ h=>h
 clear hHeld HB2 hb2 h1f HF3
 generalize w2.setCell ⟨g,3,none⟩ (.int .i64 U)=w3 at *
 go_wp2_with fail
 have HR4:Hid (Row w3.drew g 162 (mtc z l s U)):=by show Row _ _ _ _;exact hR3.out
 obtain⟨d0,d1,d2,d3⟩:=Y1 HR4.out
 refine wp_region_held_drew (S:=λw'=>w'.cell? ⟨g,0,none⟩=some (.int .i64 z)∧w'.cell? ⟨g,3,none⟩=some (.int .i64 U)) (by kernel_rfl) ⟨d0,d3⟩ (λhHeld=>?_)
 refine tkH 0 ?_
 refine tkH 1 ?_
 refine tkH 2 ?_
 refine tkH 3 ?_
 refine tkH 4 ?_
 refine tkH 5 ?_
 refine tkH 6 ?_
 refine tkH 7 ?_
 refine tkH 8 ?_
 refine tkH 9 ?_
 refine tkH 10 ?_
 refine tkH 11 ?_
 refine dnH ?_
 clear hHeld d0 d1 d2 HO hwz hq hwq hM hud hw
 have HF5:Hid (Fs (λk=>k=g) w w3.drew):=HF4.out.drewN 1
 clear HF4 hR3
 generalize w3.drew=w4 at *
 by_cases hUM:U<M
 ·go_wp2_with fail
  go_ret
  obtain rfl:_=r:=(if_pos hUM).symm.trans HRR.out
  exact⟨rfl,HR4.out,HF5.out⟩
 ·have HUM:=z2w hUM
  have dUM:decide (U<M)=false:=by simp;omega
  have hth:=HR4.out.thawed 3
  have HR5:=z2w (zj6 (u':=0) HR4.out)
  have HF6:Hid (Fs (λk=>k=g) w (w4.setCell ⟨g,3,none⟩ (.int .i64 0))):=HF5.out.setCell (λ_=>rfl) _ _
  clear hUM HR4 HF5
  go_upto_region 8 with fail
  generalize w4.setCell ⟨g,3,none⟩ (.int .i64 0)=w5 at *
  go_wp2_with fail
  refine(HG.out _ HR5.out).mono ?_
  rintro e w6 ⟨rfl,hr,hf⟩
  have HR7:=z2w hr
  have HF7:=z2w (HF6.out.trans hf λ_ _ h=>h)
  clear hr hf HR5 HF6 HG
  go_wp2_with fail
  go_ret
  obtain rfl:_=r:=(if_neg (show ¬U<M by have:=HUM.out;omega)).symm.trans HRR.out
  exact⟨rfl,HR7.out,HF7.out⟩
end
section
attribute [local irreducible] btw
theorem V6{n:Int}(hn:0≤n∧n≤4294967295)(b:Bool)(w:World):Calls Tryz.prog 55 #[.int .u32 n,.bool b] w λe w'=>∃g,e=.returned (.pointer (some ⟨g,0,none⟩))∧Row w' g 162 (mtc (btw n) (btw n) (sco b) 0)∧Below w.heap.size w w'∧w.heap.size≤g:=by
 have hw:IntKind.i64.wrap n=n:=IntWalk.i64_in _ (by omega)
 clear hn
 go_enter Tryz.func55,Tryz.ntmps55
 go_wp2_with fail
 refine(vg n b _).mono ?_
 rintro e w1 ⟨g,rfl,hr,hb,hg⟩
 obtain⟨c0,c1⟩:=za4 hr
 have HB:=z2w hb
 clear hr hb hg
 go_wp2_with fail
 go_region
 go_wp2_with fail
 go_ret
 exact⟨w1.heap.size,rfl,by show Row _ _ _ _;exact Row.new w1 _ _,qu (HB.out.alloc HB.out.size _) 1,HB.out.size⟩
end
end Go.Proofs.YtooaajnkiokpnaaGreatDoor
