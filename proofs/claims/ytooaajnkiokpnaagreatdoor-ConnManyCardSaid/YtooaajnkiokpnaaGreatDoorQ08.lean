/-
  Part of a proof: frame's getPadding, by its contract. Conditions: those that each theorem names.
-/
import Derived.Test.YtooaajnkiokpnaaGreatDoorQ02
import Derived.Test.YtooaajnkiokpnaaGreatDoorQ06
import Derived.Test.YtooaajnkiokpnaaGreatDoorQ01
import Derived.Test.YtooaajnkiokpnaaGreatDoorQ07
import Derived.Deep.RegionHeld3
namespace Go.Proofs.YtooaajnkiokpnaaGreatDoor
open Go.RowKit Go.WideShapes
set_option maxHeartbeats 4000000
set_option maxRecDepth 100000
section
attribute [local irreducible] Fm.c
theorem xu{ty fl n:Nat}(h:jb ty fl n):Yf ty fl n=true:=decide_eq_true h
theorem Q2{ty fl n:Nat}(h:¬jb ty fl n):Yf ty fl n=false:=decide_eq_false h
theorem zfp(x:Fm)(hf:x.fl<256)(n:Nat)(hn:n≤1000000)(w:World):Calls Tryz.prog 217 #[.agg x.c,.int .i64 (n:Int)] w λe w'=>e=.returned (.bool (Yf x.ty x.fl n))∧Below w.heap.size w w':=by
 have HR:=z2w (Row.new w 66 x.c)
 have hah:=v6 x hf
 have h1:=z11 ⟨x.fl,hf⟩
 simp only at h1
 obtain⟨c0,c1,_⟩:=zf HR.out
 have HB:Hid (Below w.heap.size w (w.alloc (.cells x.c 66))):=(Below.refl _ _).alloc (Nat.le_refl _) _
 rcases kinds x.ty with h|h|h|h|h|h|h|h|h|h|h
 ·rw[j0 (qa (by omega)) (by omega)] at hah
  rw[h] at c0
  rw[xu (by unfold jb;omega)]
  clear h h1
  go_enter Tryz.func217,Tryz.ntmps217
  go_wp2_with (refine zg rfl _ rfl rfl HR.out ?_)
  refine(hah _).mono ?_
  rintro e w1 ⟨rfl,hb1⟩
  have HB1:=z2w (HB.out.trans (hb1.mono HB.out.size))
  clear hb1 hah
  go_wp2
  go_ret
  exact⟨rfl,HB1.out⟩
 ·by_cases hb:x.fl / 32%2=1
  ·rw[Zy (Zt (.inr ⟨h,hb⟩))] at hah
   rw[h] at c0
   by_cases hk:5≤n
   ·rw[xu (by unfold jb;omega)]
    have hk1:decide ((5:Int)≤(n:Int))=true:=by simp;omega
    clear h h1 hk
    go_enter Tryz.func217,Tryz.ntmps217
    go_wp2_with (refine zg rfl _ rfl rfl HR.out ?_)
    refine(hah _).mono ?_
    rintro e w1 ⟨rfl,hb1⟩
    have HB1:=z2w (HB.out.trans (hb1.mono HB.out.size))
    clear hb1 hah
    go_wp2
    go_ret
    exact⟨rfl,HB1.out⟩
   ·rw[Q2 (by unfold jb;omega)]
    have hk1:decide ((5:Int)≤(n:Int))=false:=by simp;omega
    clear h h1 hk
    go_enter Tryz.func217,Tryz.ntmps217
    go_wp2_with (refine zg rfl _ rfl rfl HR.out ?_)
    refine(hah _).mono ?_
    rintro e w1 ⟨rfl,hb1⟩
    have HB1:=z2w (HB.out.trans (hb1.mono HB.out.size))
    clear hb1 hah
    go_wp2
    go_ret
    exact⟨rfl,HB1.out⟩
  ·rw[j0 (qa (by omega)) (by omega)] at hah
   rw[h] at c0
   rw[xu (by unfold jb;omega)]
   clear h h1
   go_enter Tryz.func217,Tryz.ntmps217
   go_wp2_with (refine zg rfl _ rfl rfl HR.out ?_)
   refine(hah _).mono ?_
   rintro e w1 ⟨rfl,hb1⟩
   have HB1:=z2w (HB.out.trans (hb1.mono HB.out.size))
   clear hb1 hah
   go_wp2
   go_ret
   exact⟨rfl,HB1.out⟩
 ·rw[Zy (Zt (.inl h))] at hah
  rw[h] at c0
  by_cases hk:n=5
  ·rw[xu (by unfold jb;omega)]
   have hk1:((n:Int) == 5)=true:=by rw[hk];rfl
   clear h h1 hk
   go_enter Tryz.func217,Tryz.ntmps217
   go_wp2_with (refine zg rfl _ rfl rfl HR.out ?_)
   refine(hah _).mono ?_
   rintro e w1 ⟨rfl,hb1⟩
   have HB1:=z2w (HB.out.trans (hb1.mono HB.out.size))
   clear hb1 hah
   go_wp2
   go_ret
   exact⟨rfl,HB1.out⟩
  ·rw[Q2 (by unfold jb;omega)]
   have hk1:((n:Int) == 5)=false:=zo (b:=5) hk
   clear h h1 hk
   go_enter Tryz.func217,Tryz.ntmps217
   go_wp2_with (refine zg rfl _ rfl rfl HR.out ?_)
   refine(hah _).mono ?_
   rintro e w1 ⟨rfl,hb1⟩
   have HB1:=z2w (HB.out.trans (hb1.mono HB.out.size))
   clear hb1 hah
   go_wp2
   go_ret
   exact⟨rfl,HB1.out⟩
 ·rw[Z5 (by omega)] at hah
  rw[h] at c0
  by_cases hk:n=4
  ·rw[xu (by unfold jb;omega)]
   have hk1:((n:Int) == 4)=true:=by rw[hk];rfl
   clear h h1 hk
   go_enter Tryz.func217,Tryz.ntmps217
   go_wp2_with (refine zg rfl _ rfl rfl HR.out ?_)
   refine(hah _).mono ?_
   rintro e w1 ⟨rfl,hb1⟩
   have HB1:=z2w (HB.out.trans (hb1.mono HB.out.size))
   clear hb1 hah
   go_wp2
   go_ret
   exact⟨rfl,HB1.out⟩
  ·rw[Q2 (by unfold jb;omega)]
   have hk1:((n:Int) == 4)=false:=zo (b:=4) hk
   clear h h1 hk
   go_enter Tryz.func217,Tryz.ntmps217
   go_wp2_with (refine zg rfl _ rfl rfl HR.out ?_)
   refine(hah _).mono ?_
   rintro e w1 ⟨rfl,hb1⟩
   have HB1:=z2w (HB.out.trans (hb1.mono HB.out.size))
   clear hb1 hah
   go_wp2
   go_ret
   exact⟨rfl,HB1.out⟩
 ·rw[h] at c0
  clear hah
  by_cases h6:n%6=0
  ·have h6a:((n:Int)%6 == 0)=true:=by rw[show (n:Int)%6=0 by omega];rfl
   by_cases h0:n=0
   ·rw[xu (by unfold jb;omega)]
    have h0a:((n:Int) == 0)=true:=by rw[h0];rfl
    clear h h0 h6 h1
    go_enter Tryz.func217,Tryz.ntmps217
    go_wp2
    go_ret
    exact⟨rfl,HB.out⟩
   ·have h0a:((n:Int) == 0)=false:=zo (b:=0) h0
    by_cases hb:x.fl%2=1
    ·rw[Q2 (by unfold jb;omega)]
     rw[hb] at h1
     clear h h0 h6 hb
     go_enter Tryz.func217,Tryz.ntmps217
     go_wp2
     go_ret
     exact⟨rfl,HB.out⟩
    ·rw[xu (by unfold jb;omega)]
     rw[show x.fl%2=0 by omega] at h1
     clear h h0 h6 hb
     go_enter Tryz.func217,Tryz.ntmps217
     go_wp2
     go_ret
     exact⟨rfl,HB.out⟩
  ·have h6a:((n:Int)%6 == 0)=false:=by rw[beq_eq_false_iff_ne];omega
   rw[Q2 (by unfold jb;omega)]
   clear h h6 h1
   go_enter Tryz.func217,Tryz.ntmps217
   go_wp2
   go_ret
   exact⟨rfl,HB.out⟩
 ·rw[Z5 (by omega)] at hah
  rw[h] at c0
  by_cases hk:4≤n
  ·rw[xu (by unfold jb;omega)]
   have hk1:decide ((4:Int)≤(n:Int))=true:=by simp;omega
   clear h h1 hk
   go_enter Tryz.func217,Tryz.ntmps217
   go_wp2_with (refine zg rfl _ rfl rfl HR.out ?_)
   refine(hah _).mono ?_
   rintro e w1 ⟨rfl,hb1⟩
   have HB1:=z2w (HB.out.trans (hb1.mono HB.out.size))
   clear hb1 hah
   go_wp2
   go_ret
   exact⟨rfl,HB1.out⟩
  ·rw[Q2 (by unfold jb;omega)]
   have hk1:decide ((4:Int)≤(n:Int))=false:=by simp;omega
   clear h h1 hk
   go_enter Tryz.func217,Tryz.ntmps217
   go_wp2_with (refine zg rfl _ rfl rfl HR.out ?_)
   refine(hah _).mono ?_
   rintro e w1 ⟨rfl,hb1⟩
   have HB1:=z2w (HB.out.trans (hb1.mono HB.out.size))
   clear hb1 hah
   go_wp2
   go_ret
   exact⟨rfl,HB1.out⟩
 ·rw[h] at c0
  clear hah
  by_cases hk:n=8
  ·rw[xu (by unfold jb;omega)]
   have hk1:((n:Int) == 8)=true:=by rw[hk];rfl
   clear h h1 hk
   go_enter Tryz.func217,Tryz.ntmps217
   go_wp2
   go_ret
   exact⟨rfl,HB.out⟩
  ·rw[Q2 (by unfold jb;omega)]
   have hk1:((n:Int) == 8)=false:=zo (b:=8) hk
   clear h h1 hk
   go_enter Tryz.func217,Tryz.ntmps217
   go_wp2
   go_ret
   exact⟨rfl,HB.out⟩
 ·rw[zdy h] at hah
  rw[h] at c0
  by_cases hk:8≤n
  ·rw[xu (by unfold jb;omega)]
   have hk1:decide ((8:Int)≤(n:Int))=true:=by simp;omega
   clear h h1 hk
   go_enter Tryz.func217,Tryz.ntmps217
   go_wp2_with (refine zg rfl _ rfl rfl HR.out ?_)
   refine(hah _).mono ?_
   rintro e w1 ⟨rfl,hb1⟩
   have HB1:=z2w (HB.out.trans (hb1.mono HB.out.size))
   clear hb1 hah
   go_wp2
   go_ret
   exact⟨rfl,HB1.out⟩
  ·rw[Q2 (by unfold jb;omega)]
   have hk1:decide ((8:Int)≤(n:Int))=false:=by simp;omega
   clear h h1 hk
   go_enter Tryz.func217,Tryz.ntmps217
   go_wp2_with (refine zg rfl _ rfl rfl HR.out ?_)
   refine(hah _).mono ?_
   rintro e w1 ⟨rfl,hb1⟩
   have HB1:=z2w (HB.out.trans (hb1.mono HB.out.size))
   clear hb1 hah
   go_wp2
   go_ret
   exact⟨rfl,HB1.out⟩
 ·rw[Z5 (by omega)] at hah
  rw[h] at c0
  by_cases hk:n=4
  ·rw[xu (by unfold jb;omega)]
   have hk1:((n:Int) == 4)=true:=by rw[hk];rfl
   clear h h1 hk
   go_enter Tryz.func217,Tryz.ntmps217
   go_wp2_with (refine zg rfl _ rfl rfl HR.out ?_)
   refine(hah _).mono ?_
   rintro e w1 ⟨rfl,hb1⟩
   have HB1:=z2w (HB.out.trans (hb1.mono HB.out.size))
   clear hb1 hah
   go_wp2
   go_ret
   exact⟨rfl,HB1.out⟩
  ·rw[Q2 (by unfold jb;omega)]
   have hk1:((n:Int) == 4)=false:=zo (b:=4) hk
   clear h h1 hk
   go_enter Tryz.func217,Tryz.ntmps217
   go_wp2_with (refine zg rfl _ rfl rfl HR.out ?_)
   refine(hah _).mono ?_
   rintro e w1 ⟨rfl,hb1⟩
   have HB1:=z2w (HB.out.trans (hb1.mono HB.out.size))
   clear hb1 hah
   go_wp2
   go_ret
   exact⟨rfl,HB1.out⟩
 ·rw[j0 (qa (by omega)) (by omega)] at hah
  rw[h] at c0
  rw[xu (by unfold jb;omega)]
  clear h h1
  go_enter Tryz.func217,Tryz.ntmps217
  go_wp2_with (refine zg rfl _ rfl rfl HR.out ?_)
  refine(hah _).mono ?_
  rintro e w1 ⟨rfl,hb1⟩
  have HB1:=z2w (HB.out.trans (hb1.mono HB.out.size))
  clear hb1 hah
  go_wp2
  go_ret
  exact⟨rfl,HB1.out⟩
 ·rw[j0 (qa (by omega)) (by omega)] at hah
  obtain⟨e0,e1,e2,e3,e4,e5,e6,e7,e8,e9⟩:=Qd h
  rw[xu (by unfold jb;omega)]
  clear h h1
  go_enter Tryz.func217,Tryz.ntmps217
  go_wp2_with (refine zg rfl _ rfl rfl HR.out ?_)
  refine(hah _).mono ?_
  rintro e w1 ⟨rfl,hb1⟩
  have HB1:=z2w (HB.out.trans (hb1.mono HB.out.size))
  clear hb1 hah
  go_wp2
  go_ret
  exact⟨rfl,HB1.out⟩
def EV(w:World)(v:Value)(s c:Nat):Prop:=(v=.nilIface∧s=0)∨(s≠0∧∃g,v=.iface 172 (.pointer (some ⟨g,0,none⟩))∧Row w g 174 #[.int .u8 (s:Int),.int .u32 (c:Int)])
def Yy(ty fl n:Nat):Nat:=if Yf ty fl n=true then 0 else if ty=2 then 2 else 1
theorem zc6(x:Fm)(hf:x.fl<256)(n:Nat)(hn:n≤1000000)(w:World):Calls Tryz.prog 192 #[.agg x.c,.int .i64 (n:Int)] w λe w'=>(∃v,e=.returned v∧EV w' v (Yy x.ty x.fl n) 6)∧Below w.heap.size w w':=by
 have HR:=z2w (Row.new w 66 x.c)
 have hml:=zfp x hf n hn
 have HB:Hid (Below w.heap.size w (w.alloc (.cells x.c 66))):=(Below.refl _ _).alloc (Nat.le_refl _) _
 cases hb:Yf x.ty x.fl n with
 |true=>
  rw[hb] at hml
  have hF:Yy x.ty x.fl n=0:=if_pos hb
  rw[hF]
  clear hF hb
  go_enter Tryz.func192,Tryz.ntmps192
  go_wp2_with (refine zg rfl _ rfl rfl HR.out ?_)
  refine(hml _).mono ?_
  rintro e w1 ⟨rfl,hb1⟩
  have HB1:=z2w (HB.out.trans (hb1.mono HB.out.size))
  clear hb1 hml
  go_wp2
  go_ret
  exact⟨⟨_,rfl,.inl ⟨rfl,rfl⟩⟩,HB1.out⟩
 |false=>
  rw[hb] at hml
  by_cases h2:x.ty=2
  ·have hF:Yy x.ty x.fl n=2:=by unfold Yy;rw[if_neg (by rw[hb];simp),if_pos h2]
   rw[hF]
   clear hF hb
   go_enter Tryz.func192,Tryz.ntmps192
   go_wp2_with (refine zg rfl _ rfl rfl HR.out ?_)
   refine(hml _).mono ?_
   rintro e w1 ⟨rfl,hb1⟩
   have HB1:=z2w (HB.out.trans (hb1.mono HB.out.size))
   obtain⟨c0,_⟩:=zf (HR.out.below hb1 HR.out.lt)
   rw[h2] at c0
   clear hb1 hml
   go_wp2_with fail
   refine(Q9 _ _).mono ?_
   rintro e w2 ⟨g,rfl,hR2,hb2⟩
   have HB2:=z2w (HB1.out.trans (hb2.mono HB1.out.size))
   have HR2:=z2w hR2
   clear hb2 hR2
   go_wp2
   go_ret
   exact⟨⟨_,rfl,.inr ⟨by omega,g,rfl,HR2.out⟩⟩,HB2.out⟩
  ·have hF:Yy x.ty x.fl n=1:=by unfold Yy;rw[if_neg (by rw[hb];simp),if_neg h2]
   rw[hF]
   have e2:((x.ty:Int) == 2)=false:=zo (b:=2) h2
   clear hF hb h2
   go_enter Tryz.func192,Tryz.ntmps192
   go_wp2_with (refine zg rfl _ rfl rfl HR.out ?_)
   refine(hml _).mono ?_
   rintro e w1 ⟨rfl,hb1⟩
   have HB1:=z2w (HB.out.trans (hb1.mono HB.out.size))
   obtain⟨c0,_⟩:=zf (HR.out.below hb1 HR.out.lt)
   clear hb1 hml
   go_wp2_with fail
   refine(qw _ _).mono ?_
   rintro e w2 ⟨g,rfl,hR2,hb2⟩
   have HB2:=z2w (HB1.out.trans (hb2.mono HB1.out.size))
   have HR2:=z2w hR2
   clear hb2 hR2
   go_wp2
   go_ret
   exact⟨⟨_,rfl,.inr ⟨by omega,g,rfl,HR2.out⟩⟩,HB2.out⟩
theorem zc2(x:Fm)(w:World):Calls Tryz.prog 194 #[.agg x.c] w λe w'=>(∃v,e=.returned v∧EV w' v (j7 x.ty x.st x.win) 1)∧Below w.heap.size w w':=by
 have HR:=z2w (Row.new w 66 x.c)
 have HB:Hid (Below w.heap.size w (w.alloc (.cells x.c 66))):=(Below.refl _ _).alloc (Nat.le_refl _) _
 obtain⟨c0,_,c2,_,_,_,_,_,_,c9,_⟩:=zf HR.out
 by_cases h8:x.ty=8
 ·by_cases hw:x.win=0
  ·rw[h8] at c0
   rw[hw] at c9
   by_cases hs:x.st=0
   ·have hG:j7 x.ty x.st x.win=1:=by unfold j7;rw[if_pos ⟨h8,hw⟩,if_pos hs]
    rw[hG]
    rw[hs] at c2
    clear hG h8 hw hs
    go_enter Tryz.func194,Tryz.ntmps194
    go_wp2_with fail
    refine(qw _ _).mono ?_
    rintro e w2 ⟨g,rfl,hR2,hb2⟩
    have HB2:=z2w (HB.out.trans (hb2.mono HB.out.size))
    have HR2:=z2w hR2
    clear hb2 hR2
    go_wp2
    go_ret
    exact⟨⟨_,rfl,.inr ⟨by omega,g,rfl,HR2.out⟩⟩,HB2.out⟩
   ·have hG:j7 x.ty x.st x.win=2:=by unfold j7;rw[if_pos ⟨h8,hw⟩,if_neg hs]
    rw[hG]
    have hs1:((x.st:Int) == 0)=false:=zo (b:=0) hs
    clear hG h8 hw hs
    go_enter Tryz.func194,Tryz.ntmps194
    go_wp2_with fail
    refine(Q9 _ _).mono ?_
    rintro e w2 ⟨g,rfl,hR2,hb2⟩
    have HB2:=z2w (HB.out.trans (hb2.mono HB.out.size))
    have HR2:=z2w hR2
    clear hb2 hR2
    go_wp2
    go_ret
    exact⟨⟨_,rfl,.inr ⟨by omega,g,rfl,HR2.out⟩⟩,HB2.out⟩
  ·have hG:j7 x.ty x.st x.win=0:=by unfold j7;rw[if_neg (λh=>hw h.2)]
   rw[hG]
   rw[h8] at c0
   have hw1:((x.win:Int) != 0)=true:=by rw[bne,show ((x.win:Int) == 0)=false from zo (b:=0) hw];rfl
   clear hG h8 hw
   go_enter Tryz.func194,Tryz.ntmps194
   go_wp2
   go_ret
   exact⟨⟨_,rfl,.inl ⟨rfl,rfl⟩⟩,HB.out⟩
 ·have hG:j7 x.ty x.st x.win=0:=by unfold j7;rw[if_neg (λh=>h8 h.1)]
  rw[hG]
  have h81:((x.ty:Int) != 8)=true:=by rw[bne,show ((x.ty:Int) == 8)=false from zo (b:=8) h8];rfl
  clear hG h8
  go_enter Tryz.func194,Tryz.ntmps194
  go_wp2
  go_ret
  exact⟨⟨_,rfl,.inl ⟨rfl,rfl⟩⟩,HB.out⟩
end
section
theorem zxn(c:Nat)(w:World):(binOp .eql 22 (.slice none 0 c) (.slice none 0 0)).run Tryz.prog w=.ok (.bool true) w:=by kernel_rfl
theorem zxr(a:Addr)(n c:Nat)(w:World):(binOp .eql 22 (.slice (some a) n c) (.slice none 0 0)).run Tryz.prog w=.ok (.bool false) w:=by kernel_rfl
theorem jz{B:Nat}{A:Option Addr}{c:Nat}{l:List UInt8}{w:World}(hr:RdB w B A l)(hB:B≤w.heap.size)(hl:l.length≤549755813888) :
  Calls Tryz.prog 115 #[.slice A l.length c] w λe w'=>(∃v,e=.returned v∧Bo w' w.heap.size 5 v l)∧Below w.heap.size w w':=by
 obtain⟨i0,hi0,hz0,hz1,hz2⟩:=zr qk
 cases A with
 |none=>
  have hn:l=[]:=by
   rcases List.eq_nil_or_concat l with h0|⟨x,y,h0⟩
   ·exact h0
   ·obtain⟨g,o,e,_⟩:=hr (by rw[h0];simp)
    cases e
  subst hn
  clear hr
  have hnil:=zxn c
  go_enter Tryz.func115,Tryz.ntmps115
  go_wp2
  go_ret
  exact⟨⟨_,rfl,Bo.nil⟩,Below.refl _ _⟩
 |some a=>
  have hO1:Hid (Bo (w.alloc (.cells #[] 5)) w.heap.size 5 (.slice (some ⟨w.heap.size,0,none⟩) 0 0) []):=OwS.lit w 5 1 0 #[] (by simp) (by simp[maxLen]) (Nat.le_refl _)
  have HR:=z2w (hr.alloc hB (.cells #[] 5))
  clear hr
  have hnil:=zxr a l.length c
  go_enter Tryz.func115,Tryz.ntmps115
  go_wp2_with (at_builtin;go_loud (refine qx rfl (.tmp 5) (.tmp 6) 22 rfl w.heap.size 5 i0 Tryz.underlying22 hi0 hz0 hz1 hz2 (.slice (some ⟨w.heap.size,0,none⟩) 0 0) [] rfl hO1.out B (some a) l _ _ rfl rfl HR.out (by simp;omega) (by simp) ?_;intro v2 w2 hO2 hF2 hN2))
  go_ret
  rw[List.nil_append] at hO2
  exact⟨⟨_,rfl,hO2⟩,((Below.refl w.heap.size w).alloc (Nat.le_refl _) _).trans (hF2.below (λk hk _=>by have:=(OwS.lt hO1.out k hk).1;omega) (by simp))⟩
theorem ze4(s:List UInt8)(h:6≤s.length):jd s=(zt (s.take 2),zt ((s.drop 2).take 4)) :: jd (s.drop 6):=by
 obtain⟨a,b,c,d,e,f,r,rfl⟩:=six h
 rfl
theorem zb8:∀(k:Nat) (l:List UInt8),6*k≤l.length→(jd l).drop k=jd (l.drop (6*k))
 |0,l,_=>by simp
 |k+1,l,h=>by
  rw[ze4 l (by omega),List.drop_succ_cons,zb8 k (l.drop 6) (by rw[List.length_drop];omega),List.drop_drop,show 6+6*k=6*(k+1) by omega]
theorem zlc{l:List UInt8}{n k:Nat}(hl:l.length=6*n)(h:k<n):(jd l).take (k+1)=(jd l).take k++[(zt ((l.drop (6*k)).take 2),zt (((l.drop (6*k)).drop 2).take 4))]:=by
 have hlen:=(Jt n l hl).2
 rw[List.take_succ_eq_append_getElem (by omega)]
 congr 2
 have h1:=zb8 k l (by omega)
 rw[ze4 (l.drop (6*k)) (by rw[List.length_drop];omega),List.drop_eq_getElem_cons (by omega)] at h1
 exact(List.cons.inj h1).1
theorem z2m(a b:UInt8):zt [a,b]=a.toNat*256+b.toNat:=by simp only[zt,List.foldl_cons,List.foldl_nil];omega
theorem two{l:List UInt8}(h:2≤l.length):∃a b r,l=a :: b :: r:=by
 match l,h with
 |a :: b :: r,_=>exact⟨a,b,r,rfl⟩
theorem zrg:(Tryz.prog.info? 164).map (λi=>(i.zero,i.size,i.bytes))=some (some (.agg #[.int .u16 0,.int .u32 0]),2,8):=by kernel_rfl
theorem zb6{A:Option Addr}{c n:Nat}{l:List UInt8}{w:World}(hr:RdB w w.heap.size A l)(hl:l.length=6*n)(hc:l.length≤c)(hn:n≤100000) :
  Calls Tryz.prog 219 #[.slice A (6*n) c] w λe w'=>(∃v,e=.returned v∧OwS w' w.heap.size 164 2 v n (enl sgc (jd l)))∧Below w.heap.size w w':=by
 obtain⟨i0,hi0,hz0,hz1,hz2⟩:=zr zrg
 obtain⟨i1,hi1,_,hz11,_⟩:=zr qk
 have hlen:=(Jt n l hl).2
 have HTk:Hid (∀k,k<n→(jd l).take (k+1)=(jd l).take k++[(zt ((l.drop (6*k)).take 2),zt (((l.drop (6*k)).drop 2).take 4))]):=λk hk=>zlc hl hk
 have HT0:Hid ((jd l).take 0=[]):=List.take_zero
 have HTn:Hid ((jd l).take n=jd l):=by show _=_;rw[←hlen,List.take_length]
 have HL:=z2w hl
 have HR:=z2w hr
 rw[hl] at hc
 clear hr hl hlen
 go_enter Tryz.func219,Tryz.ntmps219
 go_wp2_with fail
 go_loopw [0,3] (λb s wr=>∃(k c':Nat) (A':Option Addr) (v:Value),k≤n∧b=.slice A' (6*(n-k)) c'∧6*(n-k)≤c'∧v=s∧Hid (RdB wr w.heap.size A' (l.drop (6*k)))∧Hid (OwS wr w.heap.size 164 2 v k (enl sgc ((jd l).take k)))∧Hid (Below w.heap.size w wr))
  (λb _ _=>match b with|.slice _ m _=>m|_=>0)
 case atStart=>exact⟨0,c,A,_,Nat.zero_le _,by rw[Nat.sub_zero],by omega,rfl,by show RdB _ _ _ _;simpa using HR.out,by show OwS _ _ _ _ _ _ _;rw[HT0.out];exact OwS.nil,Below.refl _ _⟩
 case round=>
  obtain⟨k,c',A',v,hk,rfl,hc',rfl,hR,hO,hB⟩:=hrel
  by_cases hlt:k<n
  ·have hsl:(l.drop (6*k)).length=6*(n-k):=by rw[List.length_drop,HL.out];omega
   have HT:=z2w (HTk.out k hlt)
   have HD:Hid ((l.drop (6*k)).drop 6=l.drop (6*(k+1))):=by show _=_;rw[List.drop_drop,show 6*k+6=6*(k+1) by omega]
   generalize l.drop (6*k)=s at *
   obtain⟨m,hm⟩:∃m,m=6*(n-k):=⟨_,rfl⟩
   rw[←hm] at hsl hc' ⊢
   have hm6:6≤m:=by omega
   have hmn:m≤600000:=by omega
   have HM:=z2w hm
   clear hm
   obtain⟨Ac,hcut,hRc⟩:=y6 (P:=Tryz.prog) Tryz.underlying22 hi1 hz11 hR.out (c:=c') (k:=6) (by omega) (by omega)
   obtain⟨Ad,hcut2,hRd⟩:=y6 (P:=Tryz.prog) Tryz.underlying22 hi1 hz11 hR.out (c:=c') (k:=2) (by omega) (by omega)
   obtain⟨g,o,rfl,hg,hcell⟩:=hR.out (by intro e0;rw[e0] at hsl;simp at hsl;omega)
   obtain⟨a0,a1,r,hL2⟩:=two (l:=s) (by omega)
   have f0:wr.drew.cell? ⟨g,o,none⟩=some (.int .u8 (a0.toNat:Int)):=by have:=hcell 0 (by omega);simpa [hL2] using this
   have f1:wr.drew.cell? ⟨g,o+1,none⟩=some (.int .u8 (a1.toNat:Int)):=by have:=hcell 1 (by omega);simpa [hL2] using this
   have hv2:zt (s.take 2)=a0.toNat*256+a1.toNat:=by rw[hL2];exact z2m a0 a1
   have h4:zt ((s.drop 2).take 4)<4294967296:=zb5 _
   have hgn:=λ(W:World) (h:RdB W w.heap.size Ad (s.drop 2))=>xj (c:=c'-2) h (by rw[List.length_drop];omega) (by rw[List.length_drop];omega)
   rw[List.length_drop,hsl] at hgn
   have hcut':∀W,(Instr.slice 22 (.slice (some ⟨g,o,none⟩) m c') (some (.int .i64 6)) none none).run Tryz.prog W=.ok (.slice Ac (m-6) (c'-6)) W:=λW=>by have:=hcut W;rw[hsl] at this;exact this
   have hcut2':∀W,(Instr.slice 22 (.slice (some ⟨g,o,none⟩) m c') (some (.int .i64 2)) none none).run Tryz.prog W=.ok (.slice Ad (m-2) (c'-2)) W:=λW=>by have:=hcut2 W;rw[hsl] at this;exact this
   have b0:=a0.toNat_lt
   have b1:=a1.toNat_lt
   have HRc:=z2w hRc
   have HRd:=z2w hRd
   clear hcut hcut2 hRc hRd hcell hR
   rw[hv2] at HT
   have hor:=or2 b0 b1
   have hi2:a0.toNat*256+a1.toNat<65536:=by omega
   clear hL2 hv2 hsl
   generalize a0.toNat=n0 at *
   generalize a1.toNat=n1 at *
   generalize zt ((s.drop 2).take 4)=z at *
   generalize hid:n0*256+n1=id at *
   clear hid
   have m0:(0:Int)<(m:Int):=by omega
   have m1:(1:Int)<(m:Int):=by omega
   have hsz:=hB.out.size
   have hw0:IntKind.u16.wrap (n0:Int)=(n0:Int):=by rw[IntKind.wrap_u16];omega
   have hw1:IntKind.u16.wrap (n1:Int)=(n1:Int):=by rw[IntKind.wrap_u16];omega
   have hw2:IntKind.u16.wrap ((n0:Int)*256)=(n0:Int)*256:=by rw[IntKind.wrap_u16];omega
   go_wp2_with fail
   refine wp_region_held_drew (S:=λw'=>w'.cell? ⟨g,o,none⟩=some (.int .u8 (n0:Int))∧w'.cell? ⟨g,o+1,none⟩=some (.int .u8 (n1:Int))) (by kernel_rfl) ⟨f0,f1⟩ (λhHeld=>?_)
   refine tkH 0 ?_
   refine tkH 1 ?_
   refine tkH 2 ?_
   refine tkH 3 ?_
   refine tkH 4 ?_
   refine tkH 5 ?_
   refine tkH 6 ?_
   refine tkH 7 ?_
   refine tkH 8 ?_
   refine tkH 9 ?_
   refine tkH 10 ?_
   refine tkH 11 ?_
   refine tkH 12 ?_
   refine rdH 13 λK hK=>?_
   go_simp
   go_at_call 189
   refine(hgn wr.drew HRd.out).mono ?_
   rintro e w2 ⟨rfl,nq,rfl⟩
   refine hK.out _ _ ⟨f0,f1⟩ (λhHeld=>?_)
   clear hK K hgn
   try refine ptk ?_
   refine tkH 14 ?_
   refine rdH 15 λK hK=>?_
   go_simp
   have hgl:g<wr.heap.size:=by omega
   have hLt:Row ((wr.drewN (1+nq)).alloc (.cells #[.int .u16 (id:Int),.int .u32 (z:Int)] 164)) wr.heap.size 164 #[.int .u16 (id:Int),.int .u32 (z:Int)]:=Row.new (wr.drewN (1+nq)) _ _
   have k0:((wr.drewN (1+nq)).alloc (.cells #[.int .u16 (id:Int),.int .u32 (z:Int)] 164)).cell? ⟨g,o,none⟩=some (.int .u8 (n0:Int)):=(World.cell?_alloc_lt (wr.drewN (1+nq)) _ ⟨g,o,none⟩ hgl).trans f0
   have k1:((wr.drewN (1+nq)).alloc (.cells #[.int .u16 (id:Int),.int .u32 (z:Int)] 164)).cell? ⟨g,o+1,none⟩=some (.int .u8 (n1:Int)):=(World.cell?_alloc_lt (wr.drewN (1+nq)) _ ⟨g,o+1,none⟩ hgl).trans f1
   have hO2:OwS ((wr.drewN (1+nq)).alloc (.cells #[.int .u16 (id:Int),.int .u32 (z:Int)] 164)) w.heap.size 164 2 v k (enl sgc ((jd l).take k)):=OwS.alloc (show OwS (wr.drewN (1+nq)) _ _ _ _ _ _ from hO.out) _
   have hB2:Below w.heap.size w ((wr.drewN (1+nq)).alloc (.cells #[.int .u16 (id:Int),.int .u32 (z:Int)] 164)):=(qu hB.out _).alloc (show w.heap.size≤wr.heap.size from hsz) _
   have hs2:((wr.drewN (1+nq)).alloc (.cells #[.int .u16 (id:Int),.int .u32 (z:Int)] 164)).heap.size=wr.heap.size+1:=by simp
   refine hK.out _ _ ⟨k0,k1⟩ (λhHeld=>?_)
   clear hK K
   have HLt:=z2w hLt
   have HO2:=z2w hO2
   have HB2:=z2w hB2
   have HS2:=z2w hs2
   clear hLt hO2 hB2 hs2 hHeld
   generalize (wr.drewN (1+nq)).alloc (.cells #[.int .u16 (id:Int),.int .u32 (z:Int)] 164)=w2 at *
   have hHeld:w2.cell? ⟨g,o,none⟩=some (.int .u8 (n0:Int))∧w2.cell? ⟨g,o+1,none⟩=some (.int .u8 (n1:Int)):=⟨k0,k1⟩
   try refine ptk ?_
   refine rdH 16 λK hK=>?_
   refine Zr rfl (.tmp 9) (.tmp 24) 64 rfl w.heap.size 164 i0 _ 2 8 Tryz.underlying64 hi0 hz0 hz1 hz2 rfl v k (enl sgc ((jd l).take k)) rfl HO2.out ⟨wr.heap.size,0,none⟩ 1 _ (sgc (id,z)) rfl rfl (λj u hj=>by rw[add_plain,Nat.zero_add];exact HLt.out.cell (by simpa [sgc] using hj)) (λu hu=>by simp[sgc] at hu;rcases hu with rfl|rfl<;>rfl) (by omega) (by simp only[maxLen];omega) (by omega) (by have:=HS2.out;omega) (λA3 c3 w3 hO3 hG3 hN3=>?_)
   have hF3:=Fs.of_grown hG3
   have hx:∀{a:Addr} {u:Value},a.block=g→w2.cell? a=some u→w3.cell? a=some u:=λ{a} {u} ha hu=>(World.cell?_of_block (hF3.block _ (World.block_lt_of_cell? w2 _ hu) (λe=>by have:=(OwS.lt HO2.out _ e).1;omega))).trans hu
   have q0:w3.cell? ⟨g,o,none⟩=some (.int .u8 (n0:Int)):=hx rfl k0
   have q1:w3.cell? ⟨g,o+1,none⟩=some (.int .u8 (n1:Int)):=hx rfl k1
   have HO3:Hid (OwS w3 w.heap.size 164 2 (.slice A3 (k+1) c3) (k+1) (enl sgc ((jd l).take (k+1)))):=by
    show OwS _ _ _ _ _ _ _
    rw[HT.out,jq,Zb]
    exact hO3
   have hB23:=hF3.below (λk hk _=>(OwS.lt HO2.out k hk).1) HB2.out.size
   have HB3:=z2w (HB2.out.trans hB23)
   have HR3:Hid (RdB w3 w.heap.size Ac (l.drop (6*(k+1)))):=by
    show RdB _ _ _ _
    rw[←HD.out]
    exact(HRc.out.keep λp hp=>World.cell?_of_block (by
     have h1:=HB3.out.block p.block hp
     have h2:=hB.out.block p.block hp
     rw[h1,h2]))
   refine hK.out _ _ ⟨q0,q1⟩ (λhHeld=>?_)
   clear hK K hO3 hG3 hN3 hF3 hx k0 k1
   try refine ptk ?_
   refine tkH 17 ?_
   refine dnH ?_
   clear hHeld q0 q1 f0 f1
   go_wp2_with fail
   go_roundw
   case rel=>exact⟨k+1,c'-6,Ac,_,by omega,by rw[HM.out,show 6*(n-k)-6=6*(n-(k+1)) by omega],by have:=HM.out;omega,rfl,HR3,HO3,HB3⟩
   case measure=>have:=HM.out;simp;omega
  ·obtain rfl:k=n:=by omega
   go_wp2_with fail
   go_ret
   have:=hO.out
   rw[HTn.out] at this
   exact⟨⟨_,rfl,this⟩,hB.out⟩
end
section
theorem Fm.setPad(x:Fm)(p:Int):x.c.setIfInBounds 4 (.int .i64 p)=({ x with pad:=p }:Fm).c:=rfl
attribute [local irreducible] Fm.c
def zad(w:World)(g B:Nat)(x:Fm)(s:List UInt8)(e:Ending)(w':World):Prop:=
 match Zk x.ty x.fl s with
 |.error c=>(∃ge,e=.returned (.tuple #[.slice none 0 0,.iface 172 (.pointer (some ⟨ge,0,none⟩))])∧Row w' ge 174 #[.int .u8 1,.int .u32 (c:Int)])∧Row w' g 66 x.c∧Fs (λk=>k=g) w w'
 |.ok (p,r)=>(∃A c,e=.returned (.tuple #[.slice A r.length c,.nilIface])∧r.length≤c∧RdB w' B A r)∧Row w' g 66 ({ x with pad:=p }:Fm).c∧Fs (λk=>k=g) w w'
theorem zug{ty fl:Nat}{s:List UInt8}(h:yq ty fl=false):Zk ty fl s=.ok (-1,s):=by unfold Zk;rw[if_neg (by rw[h];simp)]
theorem zrw{ty fl:Nat}(h:yq ty fl=true):Zk ty fl []=.error 6:=by unfold Zk;rw[if_pos h]
theorem zpk{ty fl:Nat}{p:UInt8}{r:List UInt8}(h:yq ty fl=true)(hl:r.length<p.toNat):Zk ty fl (p :: r)=.error 1:=by unfold Zk;rw[if_pos h];simp only;rw[if_pos hl]
theorem ztm{ty fl:Nat}{p:UInt8}{r:List UInt8}(h:yq ty fl=true)(hl:¬r.length<p.toNat):Zk ty fl (p :: r)=.ok (p.toNat,r.take (r.length-p.toNat)):=by unfold Zk;rw[if_pos h];simp only;rw[if_neg hl]
theorem Yr{g B:Nat}{x:Fm}{w:World}(hR:Row w g 66 x.c)(hf:x.fl<256)(hp:x.pad = -1){A:Option Addr}{c:Nat}{s:List UInt8}(hr:RdB w B A s)(hB:B≤w.heap.size)(hg:B≤g)(hc:s.length≤c)(hs:s.length≤1000000) :
  Calls Tryz.prog 191 #[.pointer (some ⟨g,0,none⟩),.slice A s.length c] w (zad w g B x s):=by
 obtain⟨i1,hi1,_,hz11,_⟩:=zr qk
 have hisp:=Q8 x hf
 have HR:=z2w hR
 have HRd:=z2w hr
 unfold zad
 cases hpb:yq x.ty x.fl with
 |false=>
  rw[zug hpb]
  rw[hpb] at hisp
  have hx:({ x with pad:=(-1:Int) }:Fm)=x:=by cases x;simp only at hp;subst hp;rfl
  simp only
  rw[hx]
  clear hx hpb hR hr hp
  go_enter Tryz.func191,Tryz.ntmps191
  go_wp2_with (refine zg rfl _ rfl rfl HR.out ?_)
  refine(hisp _).mono ?_
  rintro e w1 ⟨rfl,hb1⟩
  have HR1:=z2w (HR.out.below hb1 HR.out.lt)
  have HRd1:=z2w (HRd.out.below (hb1.mono hB))
  have HF1:Hid (Fs (λk=>k=g) w w1):=Fs.of_below hb1
  clear hb1 hisp
  go_wp2
  go_ret2
  exact⟨⟨A,c,rfl,hc,HRd1.out⟩,HR1.out,HF1.out⟩
 |true=>
  rw[hpb] at hisp
  cases s with
  |nil=>
   rw[zrw hpb]
   simp only
   clear hpb hR hr hp
   go_enter Tryz.func191,Tryz.ntmps191
   go_wp2_with (refine zg rfl _ rfl rfl HR.out ?_)
   refine(hisp _).mono ?_
   rintro e w1 ⟨rfl,hb1⟩
   have HR1:=z2w (HR.out.below hb1 HR.out.lt)
   have HF1:Hid (Fs (λk=>k=g) w w1):=Fs.of_below hb1
   clear hb1 hisp
   go_wp2_with fail
   refine(qw _ _).mono ?_
   rintro e w2 ⟨ge,rfl,hE,hb2⟩
   have HR2:=z2w (HR1.out.below hb2 HR1.out.lt)
   have HF2:=z2w (HF1.out.then_below hb2)
   have HE:=z2w hE
   clear hb2 hE
   go_wp2
   go_ret2
   exact⟨⟨ge,rfl,HE.out⟩,HR2.out,HF2.out⟩
  |cons p r=>
   simp only[List.length_cons] at hs hc
   obtain⟨gb,o,rfl,hgb,hcell⟩:=hr (by simp)
   have hp0:w.cell? ⟨gb,o,none⟩=some (.int .u8 (p.toNat:Int)):=by have:=hcell 0 (by simp);simpa using this
   obtain⟨A1,hcut,hRd1⟩:=y6 (P:=Tryz.prog) Tryz.underlying22 hi1 hz11 hr (c:=c) (k:=1) (by simp only[List.length_cons];omega) (by simp)
   simp only[List.length_cons,List.drop_succ_cons,List.drop_zero,Nat.add_sub_cancel] at hcut hRd1
   have hcut':∀W,(Instr.slice 22 (.slice (some ⟨gb,o,none⟩) (r.length+1) c) (some (.int .i64 1)) none none).run Tryz.prog W=.ok (.slice A1 r.length (c-1)) W:=λW=>hcut W
   have hp8:=p.toNat_lt
   have HP0:=z2w hp0
   have HA1:=z2w hRd1
   clear hcut hcell hr hp0 hRd1 HRd
   simp only[List.length_cons]
   by_cases hlong:r.length<p.toNat
   ·rw[zpk hpb hlong]
    simp only
    clear hpb hR hp
    generalize p.toNat=q at *
    have hlt:(r.length:Int)<(q:Int):=by omega
    have m0:(0:Int)<((r.length+1:Nat):Int):=by omega
    have hne:(((r.length+1:Nat):Int) == 0)=false:=zo (b:=0) (by omega)
    generalize r.length=n at *
    generalize hn1:n+1=n1 at *
    clear hn1
    go_enter Tryz.func191,Tryz.ntmps191
    go_wp2_with (refine zg rfl _ rfl rfl HR.out ?_)
    refine(hisp _).mono ?_
    rintro e w1 ⟨rfl,hb1⟩
    have HR1:=z2w (HR.out.below hb1 HR.out.lt)
    have HF1:Hid (Fs (λk=>k=g) w w1):=Fs.of_below hb1
    have k0:=(hb1.cell (p:=⟨gb,o,none⟩) (by show gb<_;omega)).trans HP0.out
    clear hb1 hisp
    go_wp2_with fail
    go_quiet (fail)
    rename_i nq
    have HR2:Hid (Row (w1.drewN nq) g 66 x.c):=HR1.out
    have HF2:Hid (Fs (λk=>k=g) w (w1.drewN nq)):=HF1.out.drewN nq
    go_wp2_with fail
    refine(qw _ _).mono ?_
    rintro e w3 ⟨ge,rfl,hE,hb2⟩
    have HR3:=z2w (HR2.out.below hb2 HR2.out.lt)
    have HF3:=z2w (HF2.out.then_below hb2)
    have HE:=z2w hE
    clear hb2 hE k0
    go_wp2
    go_ret2
    exact⟨⟨ge,rfl,HE.out⟩,HR3.out,HF3.out⟩
   ·rw[ztm hpb hlong]
    simp only
    clear hpb hR hp
    have hlen:(r.take (r.length-p.toNat)).length=r.length-p.toNat:=by rw[List.length_take];omega
    obtain⟨hcut2,hRd2⟩:=xi (P:=Tryz.prog) (w:=w) (B:=B) (c:=c-1) (k:=r.length-p.toNat) Tryz.underlying22 hi1 hz11 HA1.out (by omega) (by omega)
    rw[hlen]
    have HA2:=z2w hRd2
    generalize r.take (r.length-p.toNat)=t at *
    generalize p.toNat=q at *
    have hlt:decide ((r.length:Int)<(q:Int))=false:=by simp;omega
    have m0:(0:Int)<((r.length+1:Nat):Int):=by omega
    have hne:(((r.length+1:Nat):Int) == 0)=false:=zo (b:=0) (by omega)
    have hsub:(r.length:Int)-(q:Int)=((r.length-q:Nat):Int):=by omega
    generalize r.length=n at *
    generalize hn1:n+1=n1 at *
    have hnl:n≤1000000:=by omega
    obtain⟨d,hd⟩:∃d,d=n-q:=⟨_,rfl⟩
    rw[←hd] at hcut2 hsub hlen ⊢
    have hdc:d≤c-1:=by omega
    clear hn1 hRd2 hd
    go_enter Tryz.func191,Tryz.ntmps191
    go_wp2_with (refine zg rfl _ rfl rfl HR.out ?_)
    refine(hisp _).mono ?_
    rintro e w1 ⟨rfl,hb1⟩
    have HR1:=z2w (HR.out.below hb1 HR.out.lt)
    have HF1:Hid (Fs (λk=>k=g) w w1):=Fs.of_below hb1
    have HA3:=z2w (HA2.out.below (hb1.mono hB))
    have k0:=(hb1.cell (p:=⟨gb,o,none⟩) (by show gb<_;omega)).trans HP0.out
    clear hb1 hisp
    go_wp2_with fail
    go_quiet (fail)
    rename_i nq
    have HR2:Hid (Row (w1.drewN nq) g 66 x.c):=HR1.out
    have HF2:Hid (Fs (λk=>k=g) w (w1.drewN nq)):=HF1.out.drewN nq
    obtain⟨_,_,_,_,d4,_⟩:=zf HR2.out
    have z4:=HR2.out.thawed 4
    go_wp2
    go_ret2
    have hR3:=Row.stored HR2.out 4 (.int .i64 (q:Int))
    rw[Fm.setPad] at hR3
    have hF3:=HF2.out.setCell (g:=g) (λ_=>rfl) 4 (.int .i64 (q:Int))
    refine⟨⟨A1,c-1,rfl,hdc,?_⟩,hR3,hF3⟩
    exact RdB.keep (w:=w1) HA3.out λp hp=>World.cell?_of_block (Below.heap_setCell _ _ _ _ (by show p.block≠g;omega))
end
end Go.Proofs.YtooaajnkiokpnaaGreatDoor
