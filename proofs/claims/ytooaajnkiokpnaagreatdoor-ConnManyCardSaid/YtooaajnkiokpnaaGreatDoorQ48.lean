/-
  Part of a proof: ConnMany: what its great loop keeps. No conditions but those that each theorem names. Conditions: those that each theorem names.
-/
import Derived.Test.YtooaajnkiokpnaaGreatDoorQ07
import Derived.Test.YtooaajnkiokpnaaGreatDoorQ13
import Derived.Test.YtooaajnkiokpnaaGreatDoorQ02
import Derived.Test.YtooaajnkiokpnaaGreatDoorQ01
import Derived.Test.YtooaajnkiokpnaaGreatDoorQ47
namespace Go.Proofs.YtooaajnkiokpnaaGreatDoor
open Go.RowKit Go.WideShapes
set_option maxHeartbeats 4000000
set_option maxRecDepth 100000
section
theorem ziq(x:Fm)(h:x.ty=6)(w:World):Calls Tryz.prog 96 #[.agg x.c] w λe w'=>e=.returned (.bool false)∧Below w.heap.size w w':=by
 have c0:(w.alloc (.cells x.c 66)).cell? ⟨w.heap.size,0,none⟩=some (.int .u8 (x.ty:Int)):=(zf (Row.new w 66 x.c)).1
 rw[h] at c0
 have HB:Hid (Below w.heap.size w (w.alloc (.cells x.c 66))):=(Below.refl _ _).alloc (Nat.le_refl _) _
 go_enter Tryz.func96,Tryz.ntmps96
 go_wp2_with fail
 go_ret
 exact⟨rfl,HB.out⟩
theorem zm7{A:Option Addr}{c:Nat}{w:World}(hD:RdB w w.heap.size A yx.dat) :
  Calls Tryz.prog 61 #[.agg (yx.fm A c none 0).c] w λe w'=>e=.returned (.string (tb (j6 yx)))∧Below w.heap.size w w':=by
 obtain⟨i0,hi0,hz0,hz1,hz2⟩:=zr qk
 have HX:=z2w (Row.new w 66 (yx.fm A c none 0).c)
 have HB:Hid (Below w.heap.size w (w.alloc (.cells (yx.fm A c none 0).c 66))):=(Below.refl _ _).alloc (Nat.le_refl _) _
 have HD:=z2w hD
 have hln:=ziq (yx.fm A c none 0) rfl
 have c0:(w.alloc (.cells (yx.fm A c none 0).c 66)).cell? ⟨w.heap.size,0,none⟩=some (.int .u8 (6:Int)):=(zf HX.out).1
 have HL:=z2w hln
 clear hD hln
 go_enter Tryz.func61,Tryz.ntmps61
 go_wp2_with (refine zg rfl _ rfl rfl HX.out ?_)
 refine(HL.out _).mono ?_
 rintro e w1 ⟨rfl,hb1⟩
 have HX1:=z2w (HX.out.below hb1 (by simp))
 have HB1:=z2w (HB.out.trans (hb1.mono (by simp)))
 have k3:w1.cell? ⟨w.heap.size,3,none⟩=some (.slice A 8 c):=(zf HX1.out).2.2.2.1
 have k4:w1.cell? ⟨w.heap.size,4,none⟩=some (.int .i64 (-1)):=(zf HX1.out).2.2.2.2.1
 have hdt:(convert 22 9 (.slice A 8 c)).run Tryz.prog w1=.ok (.string (tb yx.dat)) w1:=y0 (P:=Tryz.prog) (l:=yx.dat) (c:=c) Tryz.underlying22 Tryz.underlying5 Tryz.underlying9 (HD.out.below HB1.out)
 have had:=λW=>Yk [] yx.dat (by simp) (by decide) W
 rw[zy6,List.nil_append] at had
 clear hb1 HL HX HB c0
 go_wp2_with fail
 go_ret
 exact⟨rfl,HB1.out⟩
end
section
theorem Yg{x y k:Nat}(hx:x<256)(hy:y<256){W:World}(h:Row W k 5 #[.int .u8 (x:Int),.int .u8 (y:Int)]):(convert 22 9 (.slice (some ⟨k,0,none⟩) 2 2)).run Tryz.prog W=.ok (.string (tb [UInt8.ofNat x,UInt8.ofNat y])) W:=by
 have hb:(#[Value.int .u8 (x:Int),.int .u8 (y:Int)]).toList=byc [UInt8.ofNat x,UInt8.ofNat y]:=by simp[byc];omega
 exact y0 (P:=Tryz.prog) (l:=[UInt8.ofNat x,UInt8.ofNat y]) (c:=2) Tryz.underlying22 Tryz.underlying5 Tryz.underlying9 (RdB.row (B:=k+1) h hb (Nat.lt_succ_self _))
section
variable {w:World}{g:Nat}{x:Fm}
theorem yd(h:Row w g 66 x.c):w.cell? ⟨g,0,none⟩=some (.int .u8 x.ty):=(zf h).1
theorem yc(h:Row w g 66 x.c):w.cell? ⟨g,1,none⟩=some (.int .u8 x.fl):=(zf h).2.1
theorem yb(h:Row w g 66 x.c):w.cell? ⟨g,2,none⟩=some (.int .u32 x.st):=(zf h).2.2.1
end
attribute [local irreducible] Fm.c qt be zw j6
theorem zu2(F:Frm)(hty:F.ty<256)(hfl:F.fl<256)(hst:F.st<4294967296)(hps:(j6 F).length≤60000){dA sA:Option Addr}{dc sc:Nat}{w:World}(hpay:Calls Tryz.prog 61 #[.agg (F.fm dA dc sA sc).c] (w.alloc (.cells (F.fm dA dc sA sc).c 66)) λe w'=>e=.returned (.string (tb (j6 F)))∧Below (w.alloc (.cells (F.fm dA dc sA sc).c 66)).heap.size (w.alloc (.cells (F.fm dA dc sA sc).c 66)) w') :
  Calls Tryz.prog 27 #[.agg (F.fm dA dc sA sc).c] w λe w'=>e=.returned (.string (tb (zh F)))∧Below w.heap.size w w':=by
 have HX:=z2w (Row.new w 66 (F.fm dA dc sA sc).c)
 have HB:Hid (Below w.heap.size w (w.alloc (.cells (F.fm dA dc sA sc).c 66))):=(Below.refl _ _).alloc (Nat.le_refl _) _
 have hE:zh F=be 3 (j6 F).length++[UInt8.ofNat F.ty,UInt8.ofNat F.fl]++be 4 F.st++j6 F:=rfl
 generalize j6 F=P at *
 have hsz:=Qs P
 have hn3:=λW=>zaw P.length 3 (by omega) (by omega) W
 have hn4:=λW=>zaw F.st 4 (by omega) (by omega) W
 have h3l:=zl 3 P.length
 have h4l:=zl 4 F.st
 generalize be 3 P.length=B3 at *
 generalize be 4 F.st=B4 at *
 have hadd1:=Yk B3 [UInt8.ofNat F.ty,UInt8.ofNat F.fl] (by omega) (by simp)
 have hL1:(B3++[UInt8.ofNat F.ty,UInt8.ofNat F.fl]).length=5:=by simp;omega
 generalize B3++[UInt8.ofNat F.ty,UInt8.ofNat F.fl]=L1 at *
 have hadd2:=Yk L1 B4 (by omega) (by omega)
 have hL2:(L1++B4).length=9:=by simp;omega
 generalize L1++B4=L2 at *
 have hadd3:=Yk L2 P (by omega) (by omega)
 generalize L2++P=L3 at *
 have HE:=z2w hE
 have hsi:IntKind.u64.wrap (F.st:Int)=F.st:=by rw[IntKind.wrap_u64];omega
 have hpi:IntKind.u64.wrap (P.length:Int)=P.length:=by rw[IntKind.wrap_u64];omega
 clear hE h3l h4l hL1 hL2
 go_enter Tryz.func27,Tryz.ntmps27
 go_wp2_with (refine zg rfl _ rfl rfl HX.out ?_)
 refine hpay.mono ?_
 rintro e w1 ⟨rfl,hb⟩
 have HX1:=z2w (HX.out.below hb HX.out.lt)
 have HB1:=z2w (HB.out.trans (hb.mono HB.out.size))
 clear hb hpay HX HB
 go_wp2_with fail
 have HX2:Hid (Row w1.drew w.heap.size 66 (F.fm dA dc sA sc).c):=HX1.out
 have HB2:Hid (Below w.heap.size w w1.drew):=HB1.out.drew
 refine wp_region_held_drew (S:=λw'=>w'.cell? ⟨w.heap.size,0,none⟩=some (.int .u8 (F.ty:Int))∧w'.cell? ⟨w.heap.size,1,none⟩=some (.int .u8 (F.fl:Int))∧w'.cell? ⟨w.heap.size,2,none⟩=some (.int .u32 (F.st:Int))) (by kernel_rfl) ⟨yd HX2.out,yc HX2.out,yb HX2.out⟩ (λhHeld=>?_)
 clear HX1 HB1
 generalize w1.drew=w2 at *
 refine tkH 0 ?_
 refine tkH 1 ?_
 refine tkH 2 ?_
 refine tkH 4 ?_
 refine tkH 5 ?_
 refine tkH 6 ?_
 refine tkH 7 ?_
 refine tkH 11 ?_
 refine tkH 12 ?_
 refine tkH 13 ?_
 refine tkH 16 ?_
 refine wpAnyH_ready (rs:=[3,8]) (by kernel_rfl) (by simp) ?_
 refine AllReadyH.cons rfl (λK hK=>?_) (AllReadyH.cons rfl (λK hK=>?_) AllReadyH.nil)
 ·go_simp
  go_at_call 62
  refine(hn3 _).mono ?_
  rintro e w3 ⟨rfl,hb⟩
  have HX3:=z2w (HX2.out.below hb HX2.out.lt)
  have HB3:=z2w (HB2.out.trans (hb.mono HB2.out.size))
  refine hK.out _ _ ⟨yd HX3.out,yc HX3.out,yb HX3.out⟩ (λhHeld=>?_)
  clear hK K hb
  try refine ptk ?_
  refine wpAnyH_ready (rs:=[8,14]) (by kernel_rfl) (by simp) ?_
  refine AllReadyH.cons rfl (λK hK=>?_) (AllReadyH.cons rfl (λK hK=>?_) AllReadyH.nil)
  ·go_simp
   have HX4:=z2w (HX3.out.alloc (.cells #[.int .u8 (F.ty:Int),.int .u8 (F.fl:Int)] 5))
   have HB4:=z2w (HB3.out.alloc HB3.out.size (.cells #[.int .u8 (F.ty:Int),.int .u8 (F.fl:Int)] 5))
   have HL8_4:=z2w (Row.new w3 5 #[.int .u8 (F.ty:Int),.int .u8 (F.fl:Int)])
   refine hK.out _ _ ⟨yd HX4.out,yc HX4.out,yb HX4.out⟩ (λhHeld=>?_)
   clear hK K hHeld
   generalize w3.alloc (.cells #[.int .u8 (F.ty:Int),.int .u8 (F.fl:Int)] 5)=w4 at *
   have hHeld:=(show _∧_∧_ from ⟨yd HX4.out,yc HX4.out,yb HX4.out⟩)
   try refine ptk ?_
   refine wpAnyH_ready (rs:=[9,14]) (by kernel_rfl) (by simp) ?_
   refine AllReadyH.cons rfl (λK hK=>?_) (AllReadyH.cons rfl (λK hK=>?_) AllReadyH.nil)
   ·have ht:=Yg hty hfl HL8_4.out
    go_simp
    refine hK.out _ _ ⟨yd HX4.out,yc HX4.out,yb HX4.out⟩ (λhHeld=>?_)
    clear hK K ht
    try refine ptk ?_
    refine tkH 10 ?_
    refine rdH 14 λK hK=>?_
    go_simp
    go_at_call 62
    refine(hn4 _).mono ?_
    rintro e w5 ⟨rfl,hb⟩
    have HX5:=z2w (HX4.out.below hb HX4.out.lt)
    have HB5:=z2w (HB4.out.trans (hb.mono HB4.out.size))
    have HL8_5:=z2w (HL8_4.out.below hb HL8_4.out.lt)
    refine hK.out _ _ ⟨yd HX5.out,yc HX5.out,yb HX5.out⟩ (λhHeld=>?_)
    clear hK K hb
    try refine ptk ?_
    refine tkH 15 ?_
    refine tkH 17 ?_
    refine tkH 18 ?_
    refine dnH ?_
    go_wp2_with fail
    go_ret
    rw[HE.out]
    exact⟨rfl,HB5.out⟩
   ·go_simp
    go_at_call 62
    refine(hn4 _).mono ?_
    rintro e w5 ⟨rfl,hb⟩
    have HX5:=z2w (HX4.out.below hb HX4.out.lt)
    have HB5:=z2w (HB4.out.trans (hb.mono HB4.out.size))
    have HL8_5:=z2w (HL8_4.out.below hb HL8_4.out.lt)
    refine hK.out _ _ ⟨yd HX5.out,yc HX5.out,yb HX5.out⟩ (λhHeld=>?_)
    clear hK K hb
    try refine ptk ?_
    refine rdH 9 λK hK=>?_
    have ht:=Yg hty hfl HL8_5.out
    go_simp
    refine hK.out _ _ ⟨yd HX5.out,yc HX5.out,yb HX5.out⟩ (λhHeld=>?_)
    clear hK K ht
    try refine ptk ?_
    refine tkH 10 ?_
    refine tkH 15 ?_
    refine tkH 17 ?_
    refine tkH 18 ?_
    refine dnH ?_
    go_wp2_with fail
    go_ret
    rw[HE.out]
    exact⟨rfl,HB5.out⟩
  ·go_simp
   go_at_call 62
   refine(hn4 _).mono ?_
   rintro e w4 ⟨rfl,hb⟩
   have HX4:=z2w (HX3.out.below hb HX3.out.lt)
   have HB4:=z2w (HB3.out.trans (hb.mono HB3.out.size))
   refine hK.out _ _ ⟨yd HX4.out,yc HX4.out,yb HX4.out⟩ (λhHeld=>?_)
   clear hK K hb
   try refine ptk ?_
   refine rdH 8 λK hK=>?_
   go_simp
   have HX5:=z2w (HX4.out.alloc (.cells #[.int .u8 (F.ty:Int),.int .u8 (F.fl:Int)] 5))
   have HB5:=z2w (HB4.out.alloc HB4.out.size (.cells #[.int .u8 (F.ty:Int),.int .u8 (F.fl:Int)] 5))
   have HL8_5:=z2w (Row.new w4 5 #[.int .u8 (F.ty:Int),.int .u8 (F.fl:Int)])
   refine hK.out _ _ ⟨yd HX5.out,yc HX5.out,yb HX5.out⟩ (λhHeld=>?_)
   clear hK K hHeld
   generalize w4.alloc (.cells #[.int .u8 (F.ty:Int),.int .u8 (F.fl:Int)] 5)=w5 at *
   have hHeld:=(show _∧_∧_ from ⟨yd HX5.out,yc HX5.out,yb HX5.out⟩)
   try refine ptk ?_
   refine rdH 9 λK hK=>?_
   have ht:=Yg hty hfl HL8_5.out
   go_simp
   refine hK.out _ _ ⟨yd HX5.out,yc HX5.out,yb HX5.out⟩ (λhHeld=>?_)
   clear hK K ht
   try refine ptk ?_
   refine tkH 10 ?_
   refine tkH 15 ?_
   refine tkH 17 ?_
   refine tkH 18 ?_
   refine dnH ?_
   go_wp2_with fail
   go_ret
   rw[HE.out]
   exact⟨rfl,HB5.out⟩
 ·go_simp
  have HX3:=z2w (HX2.out.alloc (.cells #[.int .u8 (F.ty:Int),.int .u8 (F.fl:Int)] 5))
  have HB3:=z2w (HB2.out.alloc HB2.out.size (.cells #[.int .u8 (F.ty:Int),.int .u8 (F.fl:Int)] 5))
  have HL8_3:=z2w (Row.new w2 5 #[.int .u8 (F.ty:Int),.int .u8 (F.fl:Int)])
  refine hK.out _ _ ⟨yd HX3.out,yc HX3.out,yb HX3.out⟩ (λhHeld=>?_)
  clear hK K hHeld
  generalize w2.alloc (.cells #[.int .u8 (F.ty:Int),.int .u8 (F.fl:Int)] 5)=w3 at *
  have hHeld:=(show _∧_∧_ from ⟨yd HX3.out,yc HX3.out,yb HX3.out⟩)
  try refine ptk ?_
  refine wpAnyH_ready (rs:=[3,9]) (by kernel_rfl) (by simp) ?_
  refine AllReadyH.cons rfl (λK hK=>?_) (AllReadyH.cons rfl (λK hK=>?_) AllReadyH.nil)
  ·go_simp
   go_at_call 62
   refine(hn3 _).mono ?_
   rintro e w4 ⟨rfl,hb⟩
   have HX4:=z2w (HX3.out.below hb HX3.out.lt)
   have HB4:=z2w (HB3.out.trans (hb.mono HB3.out.size))
   have HL8_4:=z2w (HL8_3.out.below hb HL8_3.out.lt)
   refine hK.out _ _ ⟨yd HX4.out,yc HX4.out,yb HX4.out⟩ (λhHeld=>?_)
   clear hK K hb
   try refine ptk ?_
   refine wpAnyH_ready (rs:=[9,14]) (by kernel_rfl) (by simp) ?_
   refine AllReadyH.cons rfl (λK hK=>?_) (AllReadyH.cons rfl (λK hK=>?_) AllReadyH.nil)
   ·have ht:=Yg hty hfl HL8_4.out
    go_simp
    refine hK.out _ _ ⟨yd HX4.out,yc HX4.out,yb HX4.out⟩ (λhHeld=>?_)
    clear hK K ht
    try refine ptk ?_
    refine tkH 10 ?_
    refine rdH 14 λK hK=>?_
    go_simp
    go_at_call 62
    refine(hn4 _).mono ?_
    rintro e w5 ⟨rfl,hb⟩
    have HX5:=z2w (HX4.out.below hb HX4.out.lt)
    have HB5:=z2w (HB4.out.trans (hb.mono HB4.out.size))
    have HL8_5:=z2w (HL8_4.out.below hb HL8_4.out.lt)
    refine hK.out _ _ ⟨yd HX5.out,yc HX5.out,yb HX5.out⟩ (λhHeld=>?_)
    clear hK K hb
    try refine ptk ?_
    refine tkH 15 ?_
    refine tkH 17 ?_
    refine tkH 18 ?_
    refine dnH ?_
    go_wp2_with fail
    go_ret
    rw[HE.out]
    exact⟨rfl,HB5.out⟩
   ·go_simp
    go_at_call 62
    refine(hn4 _).mono ?_
    rintro e w5 ⟨rfl,hb⟩
    have HX5:=z2w (HX4.out.below hb HX4.out.lt)
    have HB5:=z2w (HB4.out.trans (hb.mono HB4.out.size))
    have HL8_5:=z2w (HL8_4.out.below hb HL8_4.out.lt)
    refine hK.out _ _ ⟨yd HX5.out,yc HX5.out,yb HX5.out⟩ (λhHeld=>?_)
    clear hK K hb
    try refine ptk ?_
    refine rdH 9 λK hK=>?_
    have ht:=Yg hty hfl HL8_5.out
    go_simp
    refine hK.out _ _ ⟨yd HX5.out,yc HX5.out,yb HX5.out⟩ (λhHeld=>?_)
    clear hK K ht
    try refine ptk ?_
    refine tkH 10 ?_
    refine tkH 15 ?_
    refine tkH 17 ?_
    refine tkH 18 ?_
    refine dnH ?_
    go_wp2_with fail
    go_ret
    rw[HE.out]
    exact⟨rfl,HB5.out⟩
  ·have ht:=Yg hty hfl HL8_3.out
   go_simp
   refine hK.out _ _ ⟨yd HX3.out,yc HX3.out,yb HX3.out⟩ (λhHeld=>?_)
   clear hK K ht
   try refine ptk ?_
   refine rdH 3 λK hK=>?_
   go_simp
   go_at_call 62
   refine(hn3 _).mono ?_
   rintro e w4 ⟨rfl,hb⟩
   have HX4:=z2w (HX3.out.below hb HX3.out.lt)
   have HB4:=z2w (HB3.out.trans (hb.mono HB3.out.size))
   have HL8_4:=z2w (HL8_3.out.below hb HL8_3.out.lt)
   refine hK.out _ _ ⟨yd HX4.out,yc HX4.out,yb HX4.out⟩ (λhHeld=>?_)
   clear hK K hb
   try refine ptk ?_
   refine tkH 10 ?_
   refine rdH 14 λK hK=>?_
   go_simp
   go_at_call 62
   refine(hn4 _).mono ?_
   rintro e w5 ⟨rfl,hb⟩
   have HX5:=z2w (HX4.out.below hb HX4.out.lt)
   have HB5:=z2w (HB4.out.trans (hb.mono HB4.out.size))
   have HL8_5:=z2w (HL8_4.out.below hb HL8_4.out.lt)
   refine hK.out _ _ ⟨yd HX5.out,yc HX5.out,yb HX5.out⟩ (λhHeld=>?_)
   clear hK K hb
   try refine ptk ?_
   refine tkH 15 ?_
   refine tkH 17 ?_
   refine tkH 18 ?_
   refine dnH ?_
   go_wp2_with fail
   go_ret
   rw[HE.out]
   exact⟨rfl,HB5.out⟩
theorem zoj{A:Option Addr}{c:Nat}{w:World}(hD:RdB w w.heap.size A yx.dat) :
  Calls Tryz.prog 27 #[.agg (yx.fm A c none 0).c] w λe w'=>e=.returned (.string (tb (zh yx)))∧Below w.heap.size w w':=
 zu2 yx (by decide) (by decide) (by decide) (by decide +kernel) (zm7 ((hD.alloc (Nat.le_refl _) _).more (by simp)))
end
section
theorem zws(n:Nat):(zh (stF (ja n))).length=27:=by
 unfold zh
 rw[List.length_append,jy,show j6 (stF (ja n))=qt (ja n)++[] from rfl,List.append_nil,Jc]
 rfl
theorem zi6:(zh (stF jr)).length=27:=by decide +kernel
theorem zmx:(zh akF).length=9:=by decide +kernel
inductive Ph (pa pb n:Nat):Nat→Zs→Zs→Prop
 |p0 {a b} (ha:PreS pa false a) (hR:a.R=qo++zh (stF (ja n))) (hl:a.l=[]∧a.es=[]) (hb:PreS pb true b) (hS:b.R=zh (stF jr)) (hm:b.l=[]∧b.es=[]):Ph pa pb n 0 a b
 |p1 {a b} (ha:SetD pa false zbe (zh akF) 0 a) (hl:a.l=[]∧a.es=[]) (hb:SetD pb true (Ys n) [] 1 b) (hm:b.l=[]∧b.es=[]):Ph pa pb n 1 a b
 |p2 {a b} (i:Nat) (hi:2≤i) (ha:SetD pa false zbe [] 0 a) (hl:a.l=[]∧a.es=[]) (hb:SetD pb true (Ys n) [] 0 b) (hm:b.l=[]∧b.es=[]):Ph pa pb n i a b
inductive PhM (pa pb n:Nat):Nat→Zs→Zs→Prop
 |m0 {a b} (ha:PreS pa false a) (hR:a.R=[]) (hl:a.l=[]∧a.es=[]) (hb:SetD pb true (Ys n) (zh (stF jr)++zh akF) 1 b) (hm:b.l=[]∧b.es=[]):PhM pa pb n 0 a b
 |m1 {a b} (i:Nat) (hi:1≤i) (ha:SetD pa false zbe [] 0 a) (hl:a.l=[]∧a.es=[]) (hb:SetD pb true (Ys n) [] 0 b) (hm:b.l=[]∧b.es=[]):PhM pa pb n i a b
theorem PreS.ring{c:Nat}{srv:Bool}{z:Zs}(h:PreS c srv z):z.rm.Ok∧z.rm.Sm∧Zp z.rm 16384=none:=by
 rw[h.rm]
 exact⟨za9 _,zdq vh (Nat.zero_le _),V2 vh _⟩
theorem SetD.ring{c:Nat}{srv:Bool}{now:St}{R:List UInt8}{k:Nat}{z:Zs}(h:SetD c srv now R k z):z.rm.Ok∧z.rm.Sm∧Zp z.rm 16384=none:=⟨h.s.ok,h.s.sm (Nat.zero_le _),V2 h.s.idle _⟩
section
variable {w0 w:World}{a b:Zs}{ga gb pa pb n i:Nat}{xa xb:Array Value}
def AbP(w0:World)(ga gb:Nat)(xa xb:Array Value)(P:Zs→Zs→Prop)(e:Ending)(w':World):Prop:=e=.returned (.bool true)∧∃a' b',Pair w0 w' a' b' ga gb xa xb∧P a' b'∧GlobE w'
theorem z06(hp:Pair w0 w a b ga gb xa xb)(hG:GlobE w)(hn:n≤2147483647)(h:Ph pa pb n i a b):Calls Tryz.prog 24 #[.pointer (some ⟨ga,0,none⟩),.pointer (some ⟨gb,0,none⟩),.int .i64 ((5000:Nat):Int)] w (AbP w0 ga gb xa xb (PhM pa pb n i)):=by
 have hcl:=zws n
 have hsl:=zi6
 have hal:=zmx
 have hgl:=y8
 cases h with
 |p0 ha hR hl hb hS hm=>
  have hlen:a.R.length≤5000:=by rw[hR,List.length_append];omega
  refine(Jk (J:=Vu (Hs1 pb n (zh (stF jr)))) hp hG ⟨by decide,by decide⟩ hlen ha.go ha.ring.1 ha.ring.2.1 ha.ring.2.2 ⟨hm.1,hb.bad,hb.go⟩ (by rw[hb.c];exact(zni pb hn (R:=zh (stF jr)) (by omega)).feeds) Keeps.mild (n0:=1) (Fs0:=[stF (ja n)]) ⟨.inl ⟨rfl,hb.fed _,by show a.R=_;rw[hR,List.append_nil],hS⟩,by show ∀y∈b.es,_;rw[hm.2];exact λy hy=>by(cases hy),by show b.es.length+1≤1;rw[hm.2];exact Nat.le_refl _⟩).mono ?_
  rintro e w' ⟨rfl,v,rep,F',m,b',hr,hp',hj,hes,hG',hbc⟩
  rcases hj.1 with ⟨h1,_⟩|⟨_,h1,h2⟩
  ·cases h1
  ·exact⟨rfl,_,_,hp',.m0 (ha.outd hr) (List.drop_eq_nil_of_le hlen) hl h1 ⟨h2,hes⟩,hG'⟩
 |p1 ha hl hb hm=>
  have hlen:a.R.length≤5000:=by rw[ha.R];omega
  refine(Jk (J:=Vu (Hs3 pb true (Ys n) [])) hp hG ⟨by decide,by decide⟩ hlen ha.s.go ha.ring.1 ha.ring.2.1 ha.ring.2.2 ⟨hm.1,hb.s.bad,hb.s.go⟩ (by rw[hb.s.c];exact(Ve pb (srv:=true) (now:=Ys n) (R:=[])).feeds) Keeps.mild (n0:=1) (Fs0:=[akF]) ⟨.inl ⟨rfl,hb.fed _,by show a.R=_;rw[ha.R,List.append_nil]⟩,by show ∀y∈b.es,_;rw[hm.2];exact λy hy=>by(cases hy),by show b.es.length+1≤1;rw[hm.2];exact Nat.le_refl _⟩).mono ?_
  rintro e w' ⟨rfl,v,rep,F',m,b',hr,hp',hj,hes,hG',hbc⟩
  rcases hj.1 with ⟨h1,_⟩|⟨_,h1,h2⟩
  ·cases h1
  ·exact⟨rfl,_,_,hp',.m1 1 (Nat.le_refl _) (ha.outd hr (by omega)) hl h1 ⟨h2,hes⟩,hG'⟩
 |p2 i hi ha hl hb hm=>
  have hlen:a.R.length≤5000:=by rw[ha.R];exact Nat.zero_le _
  refine(Jk (J:=Vu (Hs3 pb true (Ys n) [])) hp hG ⟨by decide,by decide⟩ hlen ha.s.go ha.ring.1 ha.ring.2.1 ha.ring.2.2 ⟨hm.1,hb.s.bad,hb.s.go⟩ (by rw[hb.s.c];exact(Ve pb (srv:=true) (now:=Ys n) (R:=[])).feeds) Keeps.mild (n0:=0) (Fs0:=[]) ⟨.inr ⟨rfl,hb.fed _,ha.R⟩,by show ∀y∈b.es,_;rw[hm.2];exact λy hy=>by(cases hy),by show b.es.length+0≤0;rw[hm.2];exact Nat.le_refl _⟩).mono ?_
  rintro e w' ⟨rfl,v,rep,F',m,b',hr,hp',hj,hes,hG',hbc⟩
  rcases hj.1 with ⟨h1,_⟩|⟨_,h1,h2⟩
  ·cases h1
  ·exact⟨rfl,_,_,hp',.m1 i (by omega) (ha.outd hr (Nat.zero_le _)) hl h1 ⟨h2,hes⟩,hG'⟩
theorem z1c(hp:Pair w0 w a b ga gb xa xb)(hG:GlobE w)(h:PhM pa pb n i a b):Calls Tryz.prog 24 #[.pointer (some ⟨gb,0,none⟩),.pointer (some ⟨ga,0,none⟩),.int .i64 ((5000:Nat):Int)] w (AbP w0 ga gb xa xb (Ph pa pb n (i+1))):=by
 have hsl:=zi6
 have hal:=zmx
 cases h with
 |m0 ha hR hl hb hm=>
  have hlen:b.R.length≤5000:=by rw[hb.R,List.length_append];omega
  refine(Jk (J:=Vu (Hs2 pa [])) hp.swap hG ⟨by decide,by decide⟩ hlen hb.s.go hb.ring.1 hb.ring.2.1 hb.ring.2.2 ⟨hl.1,ha.bad,ha.go⟩ (by rw[ha.c];exact(zos pa (R:=[]) (by decide)).feeds) Keeps.mild (n0:=2) (Fs0:=[stF jr,akF]) ⟨.inl ⟨rfl,ha.fed _,by show b.R=_;rw[hb.R,List.append_nil],hR⟩,by show ∀y∈a.es,_;rw[hl.2];exact λy hy=>by(cases hy),by show a.es.length+2≤2;rw[hl.2];exact Nat.le_refl _⟩).mono ?_
  rintro e w' ⟨rfl,v,rep,F',m,a',hr,hp',hj,hes,hG',hac⟩
  rcases hj.1 with ⟨h1,_⟩|⟨h1,_⟩|⟨_,h1,h2⟩
  ·cases h1
  ·cases h1
  ·exact⟨rfl,_,_,hp'.swap,.p1 h1 ⟨h2,hes⟩ (hb.outd hr (by rw[List.length_append];omega)) hm,hG'⟩
 |m1 i hi ha hl hb hm=>
  have hlen:b.R.length≤5000:=by rw[hb.R];exact Nat.zero_le _
  refine(Jk (J:=Vu (Hs3 pa false zbe [])) hp.swap hG ⟨by decide,by decide⟩ hlen hb.s.go hb.ring.1 hb.ring.2.1 hb.ring.2.2 ⟨hl.1,ha.s.bad,ha.s.go⟩ (by rw[ha.s.c];exact(Ve pa (srv:=false) (now:=zbe) (R:=[])).feeds) Keeps.mild (n0:=0) (Fs0:=[]) ⟨.inr ⟨rfl,ha.fed _,hb.R⟩,by show ∀y∈a.es,_;rw[hl.2];exact λy hy=>by(cases hy),by show a.es.length+0≤0;rw[hl.2];exact Nat.le_refl _⟩).mono ?_
  rintro e w' ⟨rfl,v,rep,F',m,a',hr,hp',hj,hes,hG',hac⟩
  rcases hj.1 with ⟨h1,_⟩|⟨_,h1,h2⟩
  ·cases h1
  ·exact⟨rfl,_,_,hp'.swap,.p2 (i+1) (by omega) h1 ⟨h2,hes⟩ (hb.outd hr (Nat.zero_le _)) hm,hG'⟩
theorem z0o{r m r' m':Nat}{Fs0:List Frm}(hp:Pair w0 w a b ga gb xa xb)(hG:GlobE w)(ha:CliS pa r' m' a)(hm:m'≤500)(hR:a.R=yv Fs0)(hlen:a.R.length≤5000)(hl:a.l=[]∧a.es=[])(hb:Stdy pb true r m b)(hm2:b.l=[]∧b.es=[])(hc:Cont r m Fs0 r' m') :
  Calls Tryz.prog 24 #[.pointer (some ⟨ga,0,none⟩),.pointer (some ⟨gb,0,none⟩),.int .i64 ((5000:Nat):Int)] w (AbP w0 ga gb xa xb λa' b'=>CliS pa r' m' a'∧a'.R=[]∧(a'.l=[]∧a'.es=[])∧Stdy pb true r' m' b'∧b'.l=[]∧b'.es=[]):=by
 refine(Jk (J:=Vu (zx0 pb r' m')) hp hG ⟨by decide,by decide⟩ hlen ha.s.go ha.s.ok (ha.s.sm (by omega)) (V2 ha.s.idle _) ⟨hm2.1,hb.bad,hb.go⟩ (by rw[hb.c];exact(zm9 pb r' m').feeds) Keeps.mild (n0:=Fs0.length) (Fs0:=Fs0) ⟨⟨r,m,hb.fed _,hR,hc⟩,by show ∀y∈b.es,_;rw[hm2.2];exact λy hy=>by(cases hy),by show b.es.length+_≤_;rw[hm2.2];exact Nat.le_of_eq (Nat.zero_add _)⟩).mono ?_
 rintro e w' ⟨rfl,v,rep,F',k,b',hr,hp',hj,hes,hG',hbc⟩
 obtain⟨r2,m2,h1,h2,h3⟩:=hj.1
 cases h3
 exact⟨rfl,_,_,hp',⟨⟨ha.s.outd hr,ha.ps,ha.eL,ha.eM,ha.low,ha.lim,Nat.le_trans hr ha.rep⟩,List.drop_eq_nil_of_le hlen,hl,h1,h2,hes⟩,hG'⟩
end
end
section
def Qg(r m:Nat):List Nat:=(List.range' r (m-r)).map λi=>2*i+1
theorem J9(r m:Nat):(Qg r m).length=m-r:=by unfold Qg;simp
theorem zqd{r m:Nat}(h:r≤m):Qg r (m+1)=Qg r m++[2*m+1]:=by
 unfold Qg
 rw[show m+1-r=(m-r)+1 by omega,List.range'_concat,List.map_append,List.map_singleton,Nat.one_mul,show r+(m-r)=m by omega]
theorem Xr{r m:Nat}(h:r<m):Qg r m=(2*r+1) :: Qg (r+1) m:=by
 unfold Qg
 rw[show m-r=(m-(r+1))+1 by omega,List.range'_succ,List.map_cons]
theorem zut(m:Nat):(zh (frO m)).length≤13:=by
 have h:=vb m
 unfold zh
 have h1:j6 (frO m)=xo m:=by
  unfold j6
  rw[if_neg (by show ¬(0:Int)≤-1;decide)]
  have h2:zw (frO m)=[]:=by
   unfold zw
   rw[if_neg (show ¬ya (frO m).ty (frO m).fl=true from show ¬ya 1 4=true by decide)]
   rfl
  rw[h2]
  rfl
 rw[List.length_append,jy,h1]
 omega
theorem zvq(r:Nat):(zh (frR r)).length=13:=by
 unfold zh
 rw[List.length_append,jy,show j6 (frR r)=be 4 8++[] from rfl,List.append_nil,zl]
section
variable {w0 w w':World}{a b a' b':Zs}{ga gb pa pb r m j:Nat}{xa xb:Array Value}{v v':Value}{L:List Nat}
theorem Pair.fs(h:Pair w0 w a b ga gb xa xb){S:Nat→Prop}(hf:Fs S w w')(ha:∀k,S k→¬zi a.ps k)(hb:∀k,S k→¬zi b.ps k)(hg:∀k,S k→k≠ga∧k≠gb∧w0.heap.size≤k):Pair w0 w' a b ga gb xa xb:=
 ⟨⟨h.sa.1.of_fs hf λk hk h2=>ha k h2 hk,h.sa.2⟩,⟨h.sb.1.of_fs hf λk hk h2=>hb k h2 hk,h.sb.2⟩,h.ap,⟨hf.row (λhk=>(hg _ hk).1 rfl) h.ra.r,h.ra.c⟩,⟨hf.row (λhk=>(hg _ hk).2.1 rfl) h.rb.r,h.rb.c⟩,h.na,h.nb,h.bl.trans (hf.below (λk hk _=>(hg k hk).2.2) h.bl.size),h.lo⟩
structure Lv(w0 w:World)(ga gb:Nat)(a b:Zs)(v:Value)(L:List Nat):Prop where
 own:OwS w 0 24 1 v L.length (enl u3l L)
 nb:∀k,ob v k→w0.heap.size≤k∧¬zi a.ps k∧¬zi b.ps k∧k≠ga∧k≠gb
theorem Lv.left(h:Lv w0 w ga gb a b v L)(hz:ZP w a a' w'):Lv w0 w' ga gb a' b v L:=
 ⟨hz.fs.owns h.own λk hk=>(h.nb k hk).2.1,λk hk=>⟨(h.nb k hk).1,λh2=>(hz.new k h2).elim (h.nb k hk).2.1 λh3=>by have:=(OwS.lt h.own k hk).2;omega,(h.nb k hk).2.2⟩⟩
structure My(w0 w:World)(ga gb pa pb:Nat)(xa xb:Array Value)(r m:Nat)(a b:Zs):Prop where
 p:Pair w0 w a b ga gb xa xb
 g:GlobE w
 ca:CliS pa r m a
 la:a.l=[]∧a.es=[]
 R:∃Fs0,a.R=yv Fs0∧Cont 0 0 Fs0 r m
 cb:Stdy pb true 0 0 b
 lb:b.l=[]∧b.es=[]
 len:a.R.length≤13*(r+m)
theorem My.open(h:My w0 w ga gb pa pb xa xb r m a b)(hm:m<500)(hr:m-r<16)(hz:ZP w a a' w')(hs:CliS pa r (m+1) a')(hR:a'.R=a.R++zh (frO m))(hl:a'.l=a.l)(he:a'.es=a.es):My w0 w' ga gb pa pb xa xb r (m+1) a' b:=by
 obtain⟨Fs0,h1,h2⟩:=h.R
 have h3:=h.len
 have h4:=zut m
 refine⟨h.p.left hz (by rw[hs.s.c,h.ca.s.c]),hz.glob h.p.sa h.g,hs,by rw[hl,he];exact h.la,⟨Fs0++[frO m],by rw[hR,h1,zc3],h2.trans (.op hr hm .nil)⟩,h.cb,h.lb,?_⟩
 rw[hR,List.length_append]
 omega
theorem My.reset(h:My w0 w ga gb pa pb xa xb r m a b)(hm:m≤500)(hr:r<m)(hr6:r<60)(hz:ZP w a a' w')(hs:CliS pa (r+1) m a')(hR:a'.R=a.R++zh (frR r))(hl:a'.l=a.l)(he:a'.es=a.es):My w0 w' ga gb pa pb xa xb (r+1) m a' b:=by
 obtain⟨Fs0,h1,h2⟩:=h.R
 have h3:=h.len
 have h4:=zvq r
 refine⟨h.p.left hz (by rw[hs.s.c,h.ca.s.c]),hz.glob h.p.sa h.g,hs,by rw[hl,he];exact h.la,⟨Fs0++[frR r],by rw[hR,h1,zc3],h2.trans (.rs hr hr6 hm .nil)⟩,h.cb,h.lb,?_⟩
 rw[hR,List.length_append]
 omega
theorem My.fs(hg0:0<w0.heap.size)(h:My w0 w ga gb pa pb xa xb r m a b)(hl:Lv w0 w ga gb a b v L)(hf:Fs (ob v) w w'):My w0 w' ga gb pa pb xa xb r m a b:=
 { h with p:=h.p.fs hf (λk hk=>(hl.nb k hk).2.1) (λk hk=>(hl.nb k hk).2.2.1) (λk hk=>⟨(hl.nb k hk).2.2.2.1,(hl.nb k hk).2.2.2.2,(hl.nb k hk).1⟩),g:=(World.cell?_of_block (a:=⟨0,0,none⟩) (hf.block _ (jf h.g) λhk=>by have h9:w0.heap.size≤0:=(hl.nb _ hk).1;omega)).trans h.g }
theorem My.below(h:My w0 w ga gb pa pb xa xb r m a b)(hb:Below w.heap.size w w'):My w0 w' ga gb pa pb xa xb r m a b:={ h with p:=h.p.below hb,g:=h.g.below hb }
theorem Lv.below(h:Lv w0 w ga gb a b v L)(hb:Below w.heap.size w w'):Lv w0 w' ga gb a b v L:=⟨OwS.keep h.own λk hk=>hb.block k (OwS.lt h.own k hk).2,h.nb⟩
theorem Lv.turn{L':List Nat}(h:Lv w0 w ga gb a b v L)(hp:Pair w0 w a b ga gb xa xb)(ho:OwS w' 0 24 1 v' L'.length (enl u3l L'))(hn:∀k,ob v' k→ob v k∨w.heap.size≤k):Lv w0 w' ga gb a b v' L':=
 ⟨ho,λk hk=>(hn k hk).elim (h.nb k) λh1=>⟨Nat.le_trans hp.bl.size h1,λh2=>by have:=hp.sa.1.lt h2;omega,λh2=>by have:=hp.sb.1.lt h2;omega,λe=>by have:=hp.ra.r.lt;omega,λe=>by have:=hp.rb.r.lt;omega⟩⟩
end
def MyI(w0 w:World)(ga gb pa pb:Nat)(xa xb:Array Value)(j:Nat)(v nx:Value):Prop:=
 ∃r m a b,r+m≤j∧nx=.int .u32 ((2*m+1:Nat):Int)∧My w0 w ga gb pa pb xa xb r m a b∧Lv w0 w ga gb a b v (Qg r m)
end
end Go.Proofs.YtooaajnkiokpnaaGreatDoor
