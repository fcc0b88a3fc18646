/-
  Part of a proof: A side's come, out of what the gatherer takes and what is done then. Conditions: those that each theorem names.
-/
import Derived.Test.YtooaajnkiokpnaaGreatDoorQ01
import Derived.Test.YtooaajnkiokpnaaGreatDoorQ36
import Derived.Test.YtooaajnkiokpnaaGreatDoorQ34
import Derived.Test.YtooaajnkiokpnaaGreatDoorQ21
namespace Go.Proofs.YtooaajnkiokpnaaGreatDoor
open Go.RowKit Go.WideShapes
set_option maxHeartbeats 16000000
set_option maxRecDepth 100000
section
def Zs.took(z:Zs)(m:Gm)(A:Option Addr)(c:Nat)(o:Option Nat):Zs:={ z with be:=true,gm:=m,gA:=A,gc:=c,gr:=o }
structure CoP(w:World)(z:Zs)(X:Fm)(r:Gm × Bool × Gm)(p gw gf:Nat)(A':Option Addr)(c':Nat)(A2:Option Addr)(c2:Nat)(o2:Option Nat)(wx:World):Prop where
 zp:ZP w z (z.took r.1 A2 c2 o2) wx
 f:Row wx p 66 X.c
 wh:Row wx gw 128 (whc r.2.2.st A' r.2.2.blk.length c' r.2.2.en)
 ft:Row wx gf 29 (ftc 0 0)
 bo:Bo wx 0 5 (.slice A' r.2.2.blk.length c') r.2.2.blk
 nw:z.gm.busy=false→∀k,ob (.slice A' r.2.2.blk.length c') k→w.heap.size≤k
 il:r.1.busy=false→A2=none∧o2=none
theorem z10:ftb 0=ftc 0 0:=by unfold ftb;rw[if_pos rfl];unfold xt ftc;rfl
theorem V4(w:World):Row (w.alloc (.cells #[.int .u32 0,.slice none 0 0,.bool false] 128)) w.heap.size 128 (whc 0 none 0 0 false):=by rw[show #[Value.int .u32 0,.slice none 0 0,.bool false]=whc 0 none 0 0 false from by unfold whc;rfl];exact Row.new w _ _
theorem ZP.gath{w w':World}{z:Zs}{m:Gm}{A:Option Addr}{c:Nat}{o:Option Nat}(h:Sd14 w z)(hg:Ga w' z.B z.ga m A c o)(hf:Fs (gvS z.ga (.slice z.gA z.gm.blk.length z.gc)) w w')(hA:Nx w (.slice z.gA z.gm.blk.length z.gc) (.slice A m.blk.length c))(ho:o=none):ZP w z { z with gm:=m,gA:=A,gc:=c,gr:=o } w':=
 ZP.of h (h.1.one .gat (hf.mono λk _ hk=>hk.imp id .inl) hg (λk hk=>by
  rcases hk with hk|hk|hk
  ·exact .inl (.inl hk)
  ·exact(hA.own hk).imp (λh=>.inr (.inl h)) id
  ·rw[show ({ z with gm:=m,gA:=A,gc:=c,gr:=o }:Zs).gr=o from rfl,ho] at hk;cases hk) (λm hm=>by cases m<;>first|rfl|exact absurd rfl hm)) rfl
theorem zyh{z:Zs}{k:Nat}(hk:zi ({ z with be:=true }:Zs).ps k):zi z.ps k:=by
 obtain⟨i,hi⟩:=hk
 exact⟨i,by cases i<;>exact hi⟩
theorem Jo{w w':World}{v:Value}{l:List UInt8}(h:Bo w 0 5 v l)(hb:Below w.heap.size w w'):Bo w' 0 5 v l:=OwS.keep h λk hk=>hb.block k (OwS.lt h k hk).2
theorem y7{w:World}{v:Value}{l:List UInt8}{g:Nat}{t:TypeId}{cs:Array Value}(h:Bo w 0 5 v l)(hr:Row w g t cs)(ht:5≠t)(c:Array Value):Bo (w.setRow g c) 0 5 v l:=OwS.keep h λk hk=>setRow_other w g k c λe=>by
 subst e
 obtain⟨cur,h4⟩:=Qq h hk
 exact Jd h4 hr ht rfl
theorem CoP.below{w wx w':World}{z:Zs}{X:Fm}{r:Gm × Bool × Gm}{p gw gf:Nat}{A':Option Addr}{c':Nat}{A2:Option Addr}{c2:Nat}{o2:Option Nat}(h:CoP w z X r p gw gf A' c' A2 c2 o2 wx)(hb:Below wx.heap.size wx w'):CoP w z X r p gw gf A' c' A2 c2 o2 w':=
 ⟨h.zp.then_below hb,h.f.below hb h.f.lt,h.wh.below hb h.wh.lt,h.ft.below hb h.ft.lt,Jo h.bo hb,h.nw,h.il⟩
theorem xd{w W:World}{z z':Zs}(h:ZP w z z' W){g:Nat}(hn:¬zi z'.ps g)(hg:w.heap.size≤g)(c:Array Value):ZP w z z' (W.setRow g c):=
 ⟨⟨h.sd.1.of_fs (S:=λk=>k=g) ((Fs.refl (λk=>k=g) W).setRow (g:=g) (λ_=>rfl) c) λk hk e=>hn (e▸hk),h.sd.2⟩,h.fs.setRow (λhk=>by omega) _,h.new⟩
attribute [local irreducible] Cc.c evc Fm.c ftc knc whc gtk
theorem zv7{w:World}{z:Zs}(h:Sd14 w z)(hG:GlobE w)(X:Fm)(d:List UInt8)(hfl:X.fl<256)
  (hx:X.ty=1∨X.ty=9→X.dn=d.length∧d.length≤1000000000∧RdS w (λk=>k<w.heap.size∧¬zi z.ps k) X.dA (byc d)) {r:Gm × Bool × Gm} (hr:gtk z.gm X.ty X.fl X.st d=r) (hbad:r.1.bad=0) (W:World) (hW:ZP w z { z with be:=true } W) :
  Calls Tryz.prog 103 #[.pointer (some ⟨z.ga,0,none⟩),.agg X.c] W (λe w'=>∃A' c' A2 c2 o2,e=.returned (.tuple #[.agg (whc r.2.2.st A' r.2.2.blk.length c' r.2.2.en),.bool r.2.1,.agg (ftc 0 0)])∧ZP W { z with be:=true } (z.took r.1 A2 c2 o2) w'∧
   Bo w' 0 5 (.slice A' r.2.2.blk.length c') r.2.2.blk∧(z.gm.busy=false→∀k,ob (.slice A' r.2.2.blk.length c') k→w.heap.size≤k)∧(r.1.busy=false→A2=none∧o2=none)):=by
 have hga:Ga W z.B z.ga z.gm z.gA z.gc z.gr:=hW.sd.1.ok .gat
 have hx':X.ty=1∨X.ty=9→X.dn=d.length∧d.length≤1000000000∧RdS W (·≠z.ga) X.dA (byc d):=λe=>by
  obtain⟨q1,q2,q3⟩:=hx e
  exact⟨q1,q2,(hW.fs.reads q3 λk hk=>hk).imp λk hk _ e2=>hk.2 ⟨.gat,.inl e2⟩⟩
 refine(zym hga (hW.glob h hG) X d hfl hx').mono ?_
 rintro e w' ⟨A',c',he,hf,hbo,hnx,hnil,A2,c2,o2,hga2,hnx2⟩
 rw[hr] at he hbo hnx hga2 hnx2
 rw[hbad,z10] at he
 have ho2:o2=none:=by
  rcases hga2.err with h1|⟨q,_,h2,_⟩
  ·exact h1.1
  ·exact absurd hbad h2
 have hsz:=hW.fs.size
 refine⟨A',c',A2,c2,o2,he,ZP.gath hW.sd hga2 hf hnx2 ho2,OwS.mono hbo (Nat.zero_le _),λhbu k hk=>?_,λhbu=>⟨(hga2.idle hbu).1,ho2⟩⟩
 rcases hnx.own hk with h1|h1
 ·have:=(hga.idle hbu).1
  rw[this] at h1
  cases h1
 ·omega
inductive Arm (w:World) (z:Zs) (X:Fm) (r:Gm × Bool × Gm) (Q:Zs→Prop):Prop
 |reset (ht:X.ty=3) (hp:r.2.1=false) (h:∀W A2 c2 o2,GlobE W→ZP w z (z.took r.1 A2 c2 o2) W→Calls Tryz.prog 106 #[.pointer (some ⟨z.c,0,none⟩),.agg X.c] W (X7 W (z.took r.1 A2 c2 o2) Q))
 |ack (ht:X.ty=4∧X.fl%2=1) (hp:r.2.1=false) (h:∀W A2 c2 o2,GlobE W→ZP w z (z.took r.1 A2 c2 o2) W→Calls Tryz.prog 107 #[.pointer (some ⟨z.c,0,none⟩)] W (X7 W (z.took r.1 A2 c2 o2) Q))
 |sets (ht:X.ty=4∧X.fl%2=0) (hp:r.2.1=false) (h:∀W A2 c2 o2,GlobE W→ZP w z (z.took r.1 A2 c2 o2) W→Calls Tryz.prog 108 #[.pointer (some ⟨z.c,0,none⟩),.agg X.c] W (X7 W (z.took r.1 A2 c2 o2) Q))
 |away (ht:X.ty=7) (hp:r.2.1=false) (h:∀W A2 c2 o2,GlobE W→ZP w z (z.took r.1 A2 c2 o2) W→Calls Tryz.prog 109 #[.pointer (some ⟨z.c,0,none⟩),.agg X.c] W (ji λw'=>∃z',ZP W (z.took r.1 A2 c2 o2) z' w'∧Q z'))
 |win (ht:X.ty=8) (hp:r.2.1=false) (h:∀W A2 c2 o2,GlobE W→ZP w z (z.took r.1 A2 c2 o2) W→Calls Tryz.prog 110 #[.pointer (some ⟨z.c,0,none⟩),.agg X.c] W (X7 W (z.took r.1 A2 c2 o2) Q))
 |data (ht:X.ty=0) (hp:r.2.1=false) (h:∀W A2 c2 o2,GlobE W→ZP w z (z.took r.1 A2 c2 o2) W→Calls Tryz.prog 105 #[.pointer (some ⟨z.c,0,none⟩),.agg X.c] W (X7 W (z.took r.1 A2 c2 o2) Q))
 |block (hp:r.2.1=true) (h:∀W A2 c2 o2 A' c',GlobE W→ZP w z (z.took r.1 A2 c2 o2) W→Bo W 0 5 (.slice A' r.2.2.blk.length c') r.2.2.blk→(z.gm.busy=false→∀k,ob (.slice A' r.2.2.blk.length c') k→w.heap.size≤k)→(r.1.busy=false→A2=none∧o2=none)→
   Calls Tryz.prog 104 #[.pointer (some ⟨z.c,0,none⟩),.agg (whc r.2.2.st A' r.2.2.blk.length c' r.2.2.en)] W (X7 W (z.took r.1 A2 c2 o2) Q))
theorem zcz{w:World}{z:Zs}(h:Sd14 w z)(hG:GlobE w)(X:Fm)(d:List UInt8)(hfl:X.fl<256)(hfirst:z.be=true∨z.be=false∧X.ty=4∧X.fl%2=0)
  (hx:X.ty=1∨X.ty=9→X.dn=d.length∧d.length≤1000000000∧RdS w (λk=>k<w.heap.size∧¬zi z.ps k) X.dA (byc d)) {r:Gm × Bool × Gm} (hr:gtk z.gm X.ty X.fl X.st d=r) (hbad:r.1.bad=0) {Q:Zs→Prop} (ha:Arm w z X r Q) :
  Calls Tryz.prog 66 #[.pointer (some ⟨z.c,0,none⟩),.agg X.c] w (X7 w z Q):=by
 have HAG:=z2w (Zo 0 0)
 have hb1:Below w.heap.size w (w.alloc (.cells X.c 66)):=(Below.refl _ _).alloc (Nat.le_refl _) _
 have HF1:Hid (Row (w.alloc (.cells X.c 66)) w.heap.size 66 X.c):=Row.new w _ _
 have H1:=z2w (ZP.of_below h hb1)
 have HG1:=z2w (hG.below hb1)
 have HPN:Hid (¬zi z.ps w.heap.size):=λhk=>by have:=h.1.lt hk;omega
 have HA:=z2w ha
 have hn1:=zts ⟨X.fl,hfl⟩
 simp only at hn1
 have hb1c:=ztz X.fl
 obtain⟨ack,hack⟩:∃ack,ack=decide (X.fl%2=1):=⟨_,rfl⟩
 rw[←hack] at hb1c
 have HACK:=z2w hack
 have HFI:=z2w hfirst
 have H0:=z2w h
 have HG0:=z2w hG
 have HX1:=z2w hx
 have HPZ0:Hid (¬zi ({ z with be:=true }:Zs).ps w.heap.size):=λhk=>HPN.out (zyh hk)
 clear hb1 h hG ha hx hack hfirst
 go_enter Tryz.func66,Tryz.ntmps66
 go_upto_region 1 with fail
 generalize w.alloc (.cells X.c 66)=w1 at *
 obtain⟨p,hp⟩:∃p,w.heap.size=p:=⟨_,rfl⟩
 rw[hp] at HF1 HPN HPZ0 ⊢
 have HP:=z2w hp
 clear hp
 obtain⟨f0,f1,_⟩:=zf HF1.out
 have c23:w1.cell? ⟨z.c,23,none⟩=some (.bool z.be):=zkj H1.out.sd.row
 have z23:=H1.out.sd.row.thawed 23
 have HZ2:Hid (ZP w z { z with be:=true } (w1.setCell ⟨z.c,23,none⟩ (.bool true))):=H1.out.trans (ZP.cell (z':={ z with be:=true }) H1.out.sd 23 (.bool true) (z0x H1.out.sd.row true) rfl rfl (λm hm=>by cases m<;>first|rfl|exact absurd rfl hm))
 have hcp:z.c≠p:=λe=>HPN.out (e▸⟨.row,rfl⟩)
 have HF2:Hid (Row (w1.setCell ⟨z.c,23,none⟩ (.bool true)) p 66 X.c):=HF1.out.stored' (a:=⟨z.c,23,none⟩) (Ne.symm hcp) _
 have HG2:Hid (GlobE (w1.setCell ⟨z.c,23,none⟩ (.bool true))):=(World.cell?_of_block (a:=⟨0,0,none⟩) (Below.heap_setCell w1 ⟨z.c,23,none⟩ (.bool true) 0 (λe=>H1.out.sd.glob (e▸⟨.row,rfl⟩)))).trans HG1.out
 generalize X.fl%2=fz at hn1 hb1c
 have hty:z.be=false→(X.ty:Int)=4:=λhb=>by
  rcases HFI.out with h|⟨_,h,_⟩
  ·rw[h] at hb;cases hb
  ·omega
 have hak:z.be=false→ack=false:=λhb=>by
  rcases HFI.out with h|⟨_,_,h⟩
  ·rw[h] at hb;cases hb
  ·rw[HACK.out];exact decide_eq_false (by omega)
 go_upto_region 2 with fail
 go_cut [26] (λv wx=>v=.bool false∧wx=w1)
 case first=>
  clear HZ2 HF2 HG2
  cases hbe:z.be with
  |true=>
   rw[hbe] at c23
   clear hty hak hbe
   go_wp2_with fail
   go_meet
   exact⟨rfl,rfl⟩
  |false=>
   rw[hbe] at c23
   rw[hty hbe] at f0
   obtain rfl:=hak hbe
   clear hty hak hbe
   go_wp2_with fail
   go_meet
   exact⟨rfl,rfl⟩
 case rest=>
  obtain⟨rfl,rfl⟩:=hcut
  have HCO:=z2w (zv7 H0.out HG0.out X d hfl HX1.out hr hbad)
  clear hty hak f0 f1 HF1 H1 HG1 HFI
  go_upto_region 5 with fail
  clear c23 z23
  generalize wc.setCell ⟨z.c,23,none⟩ (.bool true)=w2 at *
  go_cut [6,7,8] (λp6 v7 p8 wx=>∃gw gf A' c' A2 c2 o2,p6=.pointer (some ⟨gw,0,none⟩)∧v7=.bool r.2.1∧p8=.pointer (some ⟨gf,0,none⟩)∧Hid (CoP w z X r p gw gf A' c' A2 c2 o2 wx))
  case first=>
   have c2:w2.drew.cell? ⟨z.c,2,none⟩=some (pa0 z.ga):=cc2 HZ2.out.sd.row
   unfold pa0 at c2
   have hFd:Row w2.drew p 66 X.c:=HF2.out
   have HZ:=z2w (HZ2.out.then_below ((Below.refl _ _).drew))
   have HFr:=z2w hFd
   have HPZ:Hid (¬zi ({ z with be:=true }:Zs).ps p):=HPZ0
   clear HZ2 HF2 HPZ0
   refine wp_region_held_drew (S:=λw'=>Row w' p 66 X.c∧w'.cell? ⟨z.c,2,none⟩=some (.pointer (some ⟨z.ga,0,none⟩))) (by kernel_rfl) ⟨hFd,c2⟩ (λhHeld=>?_)
   clear hFd c2
   generalize w2.drew=W0 at *
   refine tkH 0 ?_
   refine tkH 1 ?_
   refine tkH 2 ?_
   refine tkH 3 ?_
   refine tkY 4 rfl (qm (by rfl) _ rfl rfl (λ_ hSw=>hSw.1)) ?_
   refine wpAnyH_ready (rs:=[5,10,11]) (by kernel_rfl) (by simp) ?_
   refine AllReadyH.cons rfl (λK hK=>?_) (AllReadyH.cons rfl (λK hK=>?_) (AllReadyH.cons rfl (λK hK=>?_) AllReadyH.nil))
   ·go_simp
    go_at_call 103
    refine(HCO.out W0 HZ.out).mono ?_
    rintro e9 W5 ⟨A',c',A2,c2,o2,rfl,h1,h2,h3,h4⟩
    have HFr2:=z2w (h1.fs.row HPZ.out HFr.out)
    have HZ2:=z2w (HZ.out.trans h1)
    have HBo:=z2w h2
    have HNb:=z2w h3
    have HIl:=z2w h4
    clear h1 h2 h3 h4 HCO HZ HFr
    have HZ:=HZ2
    clear HZ2
    have HFr:=HFr2
    clear HFr2
    refine hK.out _ _ ⟨HFr.out,cc2 HZ.out.sd.row⟩ (λhHeld=>?_)
    clear hK K
    try refine ptk ?_
    refine tkH 6 ?_
    refine tkH 7 ?_
    refine tkH 8 ?_
    refine tkH 9 ?_
    refine wpAnyH_ready (rs:=[10,11]) (by kernel_rfl) (by simp) ?_
    refine AllReadyH.cons rfl (λK hK=>?_) (AllReadyH.cons rfl (λK hK=>?_) AllReadyH.nil)
    ·go_simp
     have HWh:=z2w (V4 W5)
     have hb9:Below W5.heap.size W5 (W5.alloc (.cells #[.int .u32 0,.slice none 0 0,.bool false] 128)):=(Below.refl _ _).alloc (Nat.le_refl _) _
     have HZ2:=z2w (HZ.out.then_below hb9)
     have HFr2:=z2w (HFr.out.below hb9 HFr.out.lt)
     have HNW:Hid (¬zi (z.took r.1 A2 c2 o2:Zs).ps W5.heap.size):=λhk=>by have:=HZ.out.sd.1.lt hk;omega
     have HNWg:Hid (w.heap.size≤W5.heap.size):=HZ.out.fs.size
     have HBo2:=z2w (Jo HBo.out hb9)
     clear hb9 HZ HFr HBo
     have HZ:=HZ2
     clear HZ2
     have HFr:=HFr2
     clear HFr2
     have HBo:=HBo2
     clear HBo2
     generalize W5.alloc (.cells #[.int .u32 0,.slice none 0 0,.bool false] 128)=W10 at *
     generalize W5.heap.size=gw at *
     refine hK.out _ _ ⟨HFr.out,cc2 HZ.out.sd.row⟩ (λhHeld=>?_)
     clear hK K
     try refine ptk ?_
     refine rdH 11 λK hK=>?_
     ·go_simp
      have HFt:=z2w (Qy W10)
      have hb9:Below W10.heap.size W10 (W10.alloc (.cells #[.int .u8 0,.int .u32 0] 29)):=(Below.refl _ _).alloc (Nat.le_refl _) _
      have HZ2:=z2w (HZ.out.then_below hb9)
      have HFr2:=z2w (HFr.out.below hb9 HFr.out.lt)
      have HNF:Hid (¬zi (z.took r.1 A2 c2 o2:Zs).ps W10.heap.size):=λhk=>by have:=HZ.out.sd.1.lt hk;omega
      have HNFg:Hid (w.heap.size≤W10.heap.size):=HZ.out.fs.size
      have HWh2:=z2w (HWh.out.below hb9 HWh.out.lt)
      have HBo2:=z2w (Jo HBo.out hb9)
      clear hb9 HZ HFr HWh HBo
      have HZ:=HZ2
      clear HZ2
      have HFr:=HFr2
      clear HFr2
      have HWh:=HWh2
      clear HWh2
      have HBo:=HBo2
      clear HBo2
      generalize W10.alloc (.cells #[.int .u8 0,.int .u32 0] 29)=W11 at *
      generalize W10.heap.size=gf at *
      refine hK.out _ _ ⟨HFr.out,cc2 HZ.out.sd.row⟩ (λhHeld=>?_)
      clear hK K
      try refine ptk ?_
      refine rdH 12 λK hK=>?_
      refine qq (cs:=whc r.2.2.st A' r.2.2.blk.length c' r.2.2.en) rfl _ _ rfl rfl rfl HWh.out (j4 _ _ _ _ _ _ _ _ _ _) (qd _ _ _ _ _) ?_
      have HZ2:=z2w (xd HZ.out HNW.out HNWg.out (whc r.2.2.st A' r.2.2.blk.length c' r.2.2.en))
      have HFr2:=z2w (HFr.out.setRow' (Row.ne HFr.out HWh.out (by decide)) (whc r.2.2.st A' r.2.2.blk.length c' r.2.2.en))
      have HFt2:=z2w (HFt.out.setRow' (Row.ne HFt.out HWh.out (by decide)) (whc r.2.2.st A' r.2.2.blk.length c' r.2.2.en))
      have HWh2:=z2w (HWh.out.setRow (whc r.2.2.st A' r.2.2.blk.length c' r.2.2.en))
      have HBo2:=z2w (y7 HBo.out HWh.out (by decide) (whc r.2.2.st A' r.2.2.blk.length c' r.2.2.en))
      clear HZ HFr HFt HWh HBo
      have HZ:=HZ2
      clear HZ2
      have HFr:=HFr2
      clear HFr2
      have HFt:=HFt2
      clear HFt2
      have HWh:=HWh2
      clear HWh2
      have HBo:=HBo2
      clear HBo2
      generalize W11.setRow gw (whc r.2.2.st A' r.2.2.blk.length c' r.2.2.en)=W12 at *
      refine hK.out _ _ ⟨HFr.out,cc2 HZ.out.sd.row⟩ (λhHeld=>?_)
      clear hK K
      try refine ptk ?_
      refine tkH 13 ?_
      refine rdH 14 λK hK=>?_
      refine qq (cs:=ftc 0 0) rfl _ _ rfl rfl rfl HFt.out rfl HAG.out ?_
      have HZ2:=z2w (xd HZ.out HNF.out HNFg.out (ftc 0 0))
      have HFr2:=z2w (HFr.out.setRow' (Row.ne HFr.out HFt.out (by decide)) (ftc 0 0))
      have HWh2:=z2w (HWh.out.setRow' (Row.ne HWh.out HFt.out (by decide)) (ftc 0 0))
      have HBo2:=z2w (y7 HBo.out HFt.out (by decide) (ftc 0 0))
      have HFt2:=z2w (HFt.out.setRow (ftc 0 0))
      clear HZ HFr HFt HWh HBo
      have HZ:=HZ2
      clear HZ2
      have HFr:=HFr2
      clear HFr2
      have HFt:=HFt2
      clear HFt2
      have HWh:=HWh2
      clear HWh2
      have HBo:=HBo2
      clear HBo2
      generalize W12.setRow gf (ftc 0 0)=W14 at *
      refine hK.out _ _ ⟨HFr.out,cc2 HZ.out.sd.row⟩ (λhHeld=>?_)
      clear hK K hHeld
      try refine ptk ?_
      refine dnH ?_
      go_wp2_with fail
      go_meet
      exact⟨gw,gf,A',c',A2,c2,o2,rfl,rfl,rfl,HZ.out,HFr.out,HWh.out,HFt.out,HBo.out,HNb.out,HIl.out⟩
    ·go_simp
     have HFt:=z2w (Qy W5)
     have hb9:Below W5.heap.size W5 (W5.alloc (.cells #[.int .u8 0,.int .u32 0] 29)):=(Below.refl _ _).alloc (Nat.le_refl _) _
     have HZ2:=z2w (HZ.out.then_below hb9)
     have HFr2:=z2w (HFr.out.below hb9 HFr.out.lt)
     have HNF:Hid (¬zi (z.took r.1 A2 c2 o2:Zs).ps W5.heap.size):=λhk=>by have:=HZ.out.sd.1.lt hk;omega
     have HNFg:Hid (w.heap.size≤W5.heap.size):=HZ.out.fs.size
     have HBo2:=z2w (Jo HBo.out hb9)
     clear hb9 HZ HFr HBo
     have HZ:=HZ2
     clear HZ2
     have HFr:=HFr2
     clear HFr2
     have HBo:=HBo2
     clear HBo2
     generalize W5.alloc (.cells #[.int .u8 0,.int .u32 0] 29)=W11 at *
     generalize W5.heap.size=gf at *
     refine hK.out _ _ ⟨HFr.out,cc2 HZ.out.sd.row⟩ (λhHeld=>?_)
     clear hK K
     try refine ptk ?_
     refine rdH 10 λK hK=>?_
     ·go_simp
      have HWh:=z2w (V4 W11)
      have hb9:Below W11.heap.size W11 (W11.alloc (.cells #[.int .u32 0,.slice none 0 0,.bool false] 128)):=(Below.refl _ _).alloc (Nat.le_refl _) _
      have HZ2:=z2w (HZ.out.then_below hb9)
      have HFr2:=z2w (HFr.out.below hb9 HFr.out.lt)
      have HNW:Hid (¬zi (z.took r.1 A2 c2 o2:Zs).ps W11.heap.size):=λhk=>by have:=HZ.out.sd.1.lt hk;omega
      have HNWg:Hid (w.heap.size≤W11.heap.size):=HZ.out.fs.size
      have HFt2:=z2w (HFt.out.below hb9 HFt.out.lt)
      have HBo2:=z2w (Jo HBo.out hb9)
      clear hb9 HZ HFr HFt HBo
      have HZ:=HZ2
      clear HZ2
      have HFr:=HFr2
      clear HFr2
      have HFt:=HFt2
      clear HFt2
      have HBo:=HBo2
      clear HBo2
      generalize W11.alloc (.cells #[.int .u32 0,.slice none 0 0,.bool false] 128)=W10 at *
      generalize W11.heap.size=gw at *
      refine hK.out _ _ ⟨HFr.out,cc2 HZ.out.sd.row⟩ (λhHeld=>?_)
      clear hK K
      try refine ptk ?_
      refine rdH 12 λK hK=>?_
      refine qq (cs:=whc r.2.2.st A' r.2.2.blk.length c' r.2.2.en) rfl _ _ rfl rfl rfl HWh.out (j4 _ _ _ _ _ _ _ _ _ _) (qd _ _ _ _ _) ?_
      have HZ2:=z2w (xd HZ.out HNW.out HNWg.out (whc r.2.2.st A' r.2.2.blk.length c' r.2.2.en))
      have HFr2:=z2w (HFr.out.setRow' (Row.ne HFr.out HWh.out (by decide)) (whc r.2.2.st A' r.2.2.blk.length c' r.2.2.en))
      have HFt2:=z2w (HFt.out.setRow' (Row.ne HFt.out HWh.out (by decide)) (whc r.2.2.st A' r.2.2.blk.length c' r.2.2.en))
      have HWh2:=z2w (HWh.out.setRow (whc r.2.2.st A' r.2.2.blk.length c' r.2.2.en))
      have HBo2:=z2w (y7 HBo.out HWh.out (by decide) (whc r.2.2.st A' r.2.2.blk.length c' r.2.2.en))
      clear HZ HFr HFt HWh HBo
      have HZ:=HZ2
      clear HZ2
      have HFr:=HFr2
      clear HFr2
      have HFt:=HFt2
      clear HFt2
      have HWh:=HWh2
      clear HWh2
      have HBo:=HBo2
      clear HBo2
      generalize W10.setRow gw (whc r.2.2.st A' r.2.2.blk.length c' r.2.2.en)=W12 at *
      refine hK.out _ _ ⟨HFr.out,cc2 HZ.out.sd.row⟩ (λhHeld=>?_)
      clear hK K
      try refine ptk ?_
      refine tkH 13 ?_
      refine rdH 14 λK hK=>?_
      refine qq (cs:=ftc 0 0) rfl _ _ rfl rfl rfl HFt.out rfl HAG.out ?_
      have HZ2:=z2w (xd HZ.out HNF.out HNFg.out (ftc 0 0))
      have HFr2:=z2w (HFr.out.setRow' (Row.ne HFr.out HFt.out (by decide)) (ftc 0 0))
      have HWh2:=z2w (HWh.out.setRow' (Row.ne HWh.out HFt.out (by decide)) (ftc 0 0))
      have HBo2:=z2w (y7 HBo.out HFt.out (by decide) (ftc 0 0))
      have HFt2:=z2w (HFt.out.setRow (ftc 0 0))
      clear HZ HFr HFt HWh HBo
      have HZ:=HZ2
      clear HZ2
      have HFr:=HFr2
      clear HFr2
      have HFt:=HFt2
      clear HFt2
      have HWh:=HWh2
      clear HWh2
      have HBo:=HBo2
      clear HBo2
      generalize W12.setRow gf (ftc 0 0)=W14 at *
      refine hK.out _ _ ⟨HFr.out,cc2 HZ.out.sd.row⟩ (λhHeld=>?_)
      clear hK K hHeld
      try refine ptk ?_
      refine dnH ?_
      go_wp2_with fail
      go_meet
      exact⟨gw,gf,A',c',A2,c2,o2,rfl,rfl,rfl,HZ.out,HFr.out,HWh.out,HFt.out,HBo.out,HNb.out,HIl.out⟩
   ·go_simp
    have HWh:=z2w (V4 W0)
    have hb9:Below W0.heap.size W0 (W0.alloc (.cells #[.int .u32 0,.slice none 0 0,.bool false] 128)):=(Below.refl _ _).alloc (Nat.le_refl _) _
    have HZ2:=z2w (HZ.out.then_below hb9)
    have HFr2:=z2w (HFr.out.below hb9 HFr.out.lt)
    have HNW:Hid (¬zi ({ z with be:=true }:Zs).ps W0.heap.size):=λhk=>by have:=HZ.out.sd.1.lt hk;omega
    have HNWg:Hid (w.heap.size≤W0.heap.size):=HZ.out.fs.size
    clear hb9 HZ HFr
    have HZ:=HZ2
    clear HZ2
    have HFr:=HFr2
    clear HFr2
    generalize W0.alloc (.cells #[.int .u32 0,.slice none 0 0,.bool false] 128)=W10 at *
    generalize W0.heap.size=gw at *
    refine hK.out _ _ ⟨HFr.out,cc2 HZ.out.sd.row⟩ (λhHeld=>?_)
    clear hK K
    try refine ptk ?_
    refine wpAnyH_ready (rs:=[5,11]) (by kernel_rfl) (by simp) ?_
    refine AllReadyH.cons rfl (λK hK=>?_) (AllReadyH.cons rfl (λK hK=>?_) AllReadyH.nil)
    ·go_simp
     go_at_call 103
     refine(HCO.out W10 HZ.out).mono ?_
     rintro e9 W5 ⟨A',c',A2,c2,o2,rfl,h1,h2,h3,h4⟩
     have HFr2:=z2w (h1.fs.row HPZ.out HFr.out)
     have HWh2:=z2w (h1.fs.row HNW.out HWh.out)
     have HNW2:Hid (¬zi (z.took r.1 A2 c2 o2).ps gw):=λhk=>(h1.new _ hk).elim HNW.out λh=>by have:=HWh.out.lt;omega
     have HZ2:=z2w (HZ.out.trans h1)
     have HBo:=z2w h2
     have HNb:=z2w h3
     have HIl:=z2w h4
     clear h1 h2 h3 h4 HCO HZ HFr HWh HNW
     have HZ:=HZ2
     clear HZ2
     have HFr:=HFr2
     clear HFr2
     have HWh:=HWh2
     clear HWh2
     have HNW:=HNW2
     clear HNW2
     refine hK.out _ _ ⟨HFr.out,cc2 HZ.out.sd.row⟩ (λhHeld=>?_)
     clear hK K
     try refine ptk ?_
     refine tkH 6 ?_
     refine tkH 7 ?_
     refine tkH 8 ?_
     refine tkH 9 ?_
     refine rdH 11 λK hK=>?_
     ·go_simp
      have HFt:=z2w (Qy W5)
      have hb9:Below W5.heap.size W5 (W5.alloc (.cells #[.int .u8 0,.int .u32 0] 29)):=(Below.refl _ _).alloc (Nat.le_refl _) _
      have HZ2:=z2w (HZ.out.then_below hb9)
      have HFr2:=z2w (HFr.out.below hb9 HFr.out.lt)
      have HNF:Hid (¬zi (z.took r.1 A2 c2 o2:Zs).ps W5.heap.size):=λhk=>by have:=HZ.out.sd.1.lt hk;omega
      have HNFg:Hid (w.heap.size≤W5.heap.size):=HZ.out.fs.size
      have HWh2:=z2w (HWh.out.below hb9 HWh.out.lt)
      have HBo2:=z2w (Jo HBo.out hb9)
      clear hb9 HZ HFr HWh HBo
      have HZ:=HZ2
      clear HZ2
      have HFr:=HFr2
      clear HFr2
      have HWh:=HWh2
      clear HWh2
      have HBo:=HBo2
      clear HBo2
      generalize W5.alloc (.cells #[.int .u8 0,.int .u32 0] 29)=W11 at *
      generalize W5.heap.size=gf at *
      refine hK.out _ _ ⟨HFr.out,cc2 HZ.out.sd.row⟩ (λhHeld=>?_)
      clear hK K
      try refine ptk ?_
      refine rdH 12 λK hK=>?_
      refine qq (cs:=whc r.2.2.st A' r.2.2.blk.length c' r.2.2.en) rfl _ _ rfl rfl rfl HWh.out (j4 _ _ _ _ _ _ _ _ _ _) (qd _ _ _ _ _) ?_
      have HZ2:=z2w (xd HZ.out HNW.out HNWg.out (whc r.2.2.st A' r.2.2.blk.length c' r.2.2.en))
      have HFr2:=z2w (HFr.out.setRow' (Row.ne HFr.out HWh.out (by decide)) (whc r.2.2.st A' r.2.2.blk.length c' r.2.2.en))
      have HFt2:=z2w (HFt.out.setRow' (Row.ne HFt.out HWh.out (by decide)) (whc r.2.2.st A' r.2.2.blk.length c' r.2.2.en))
      have HWh2:=z2w (HWh.out.setRow (whc r.2.2.st A' r.2.2.blk.length c' r.2.2.en))
      have HBo2:=z2w (y7 HBo.out HWh.out (by decide) (whc r.2.2.st A' r.2.2.blk.length c' r.2.2.en))
      clear HZ HFr HFt HWh HBo
      have HZ:=HZ2
      clear HZ2
      have HFr:=HFr2
      clear HFr2
      have HFt:=HFt2
      clear HFt2
      have HWh:=HWh2
      clear HWh2
      have HBo:=HBo2
      clear HBo2
      generalize W11.setRow gw (whc r.2.2.st A' r.2.2.blk.length c' r.2.2.en)=W12 at *
      refine hK.out _ _ ⟨HFr.out,cc2 HZ.out.sd.row⟩ (λhHeld=>?_)
      clear hK K
      try refine ptk ?_
      refine tkH 13 ?_
      refine rdH 14 λK hK=>?_
      refine qq (cs:=ftc 0 0) rfl _ _ rfl rfl rfl HFt.out rfl HAG.out ?_
      have HZ2:=z2w (xd HZ.out HNF.out HNFg.out (ftc 0 0))
      have HFr2:=z2w (HFr.out.setRow' (Row.ne HFr.out HFt.out (by decide)) (ftc 0 0))
      have HWh2:=z2w (HWh.out.setRow' (Row.ne HWh.out HFt.out (by decide)) (ftc 0 0))
      have HBo2:=z2w (y7 HBo.out HFt.out (by decide) (ftc 0 0))
      have HFt2:=z2w (HFt.out.setRow (ftc 0 0))
      clear HZ HFr HFt HWh HBo
      have HZ:=HZ2
      clear HZ2
      have HFr:=HFr2
      clear HFr2
      have HFt:=HFt2
      clear HFt2
      have HWh:=HWh2
      clear HWh2
      have HBo:=HBo2
      clear HBo2
      generalize W12.setRow gf (ftc 0 0)=W14 at *
      refine hK.out _ _ ⟨HFr.out,cc2 HZ.out.sd.row⟩ (λhHeld=>?_)
      clear hK K hHeld
      try refine ptk ?_
      refine dnH ?_
      go_wp2_with fail
      go_meet
      exact⟨gw,gf,A',c',A2,c2,o2,rfl,rfl,rfl,HZ.out,HFr.out,HWh.out,HFt.out,HBo.out,HNb.out,HIl.out⟩
    ·go_simp
     have HFt:=z2w (Qy W10)
     have hb9:Below W10.heap.size W10 (W10.alloc (.cells #[.int .u8 0,.int .u32 0] 29)):=(Below.refl _ _).alloc (Nat.le_refl _) _
     have HZ2:=z2w (HZ.out.then_below hb9)
     have HFr2:=z2w (HFr.out.below hb9 HFr.out.lt)
     have HNF:Hid (¬zi ({ z with be:=true }:Zs).ps W10.heap.size):=λhk=>by have:=HZ.out.sd.1.lt hk;omega
     have HNFg:Hid (w.heap.size≤W10.heap.size):=HZ.out.fs.size
     have HWh2:=z2w (HWh.out.below hb9 HWh.out.lt)
     clear hb9 HZ HFr HWh
     have HZ:=HZ2
     clear HZ2
     have HFr:=HFr2
     clear HFr2
     have HWh:=HWh2
     clear HWh2
     generalize W10.alloc (.cells #[.int .u8 0,.int .u32 0] 29)=W11 at *
     generalize W10.heap.size=gf at *
     refine hK.out _ _ ⟨HFr.out,cc2 HZ.out.sd.row⟩ (λhHeld=>?_)
     clear hK K
     try refine ptk ?_
     refine rdH 5 λK hK=>?_
     ·go_simp
      go_at_call 103
      refine(HCO.out W11 HZ.out).mono ?_
      rintro e9 W5 ⟨A',c',A2,c2,o2,rfl,h1,h2,h3,h4⟩
      have HFr2:=z2w (h1.fs.row HPZ.out HFr.out)
      have HWh2:=z2w (h1.fs.row HNW.out HWh.out)
      have HNW2:Hid (¬zi (z.took r.1 A2 c2 o2).ps gw):=λhk=>(h1.new _ hk).elim HNW.out λh=>by have:=HWh.out.lt;omega
      have HFt2:=z2w (h1.fs.row HNF.out HFt.out)
      have HNF2:Hid (¬zi (z.took r.1 A2 c2 o2).ps gf):=λhk=>(h1.new _ hk).elim HNF.out λh=>by have:=HFt.out.lt;omega
      have HZ2:=z2w (HZ.out.trans h1)
      have HBo:=z2w h2
      have HNb:=z2w h3
      have HIl:=z2w h4
      clear h1 h2 h3 h4 HCO HZ HFr HWh HNW HFt HNF
      have HZ:=HZ2
      clear HZ2
      have HFr:=HFr2
      clear HFr2
      have HWh:=HWh2
      clear HWh2
      have HNW:=HNW2
      clear HNW2
      have HFt:=HFt2
      clear HFt2
      have HNF:=HNF2
      clear HNF2
      refine hK.out _ _ ⟨HFr.out,cc2 HZ.out.sd.row⟩ (λhHeld=>?_)
      clear hK K
      try refine ptk ?_
      refine tkH 6 ?_
      refine tkH 7 ?_
      refine tkH 8 ?_
      refine tkH 9 ?_
      refine rdH 12 λK hK=>?_
      refine qq (cs:=whc r.2.2.st A' r.2.2.blk.length c' r.2.2.en) rfl _ _ rfl rfl rfl HWh.out (j4 _ _ _ _ _ _ _ _ _ _) (qd _ _ _ _ _) ?_
      have HZ2:=z2w (xd HZ.out HNW.out HNWg.out (whc r.2.2.st A' r.2.2.blk.length c' r.2.2.en))
      have HFr2:=z2w (HFr.out.setRow' (Row.ne HFr.out HWh.out (by decide)) (whc r.2.2.st A' r.2.2.blk.length c' r.2.2.en))
      have HFt2:=z2w (HFt.out.setRow' (Row.ne HFt.out HWh.out (by decide)) (whc r.2.2.st A' r.2.2.blk.length c' r.2.2.en))
      have HWh2:=z2w (HWh.out.setRow (whc r.2.2.st A' r.2.2.blk.length c' r.2.2.en))
      have HBo2:=z2w (y7 HBo.out HWh.out (by decide) (whc r.2.2.st A' r.2.2.blk.length c' r.2.2.en))
      clear HZ HFr HFt HWh HBo
      have HZ:=HZ2
      clear HZ2
      have HFr:=HFr2
      clear HFr2
      have HFt:=HFt2
      clear HFt2
      have HWh:=HWh2
      clear HWh2
      have HBo:=HBo2
      clear HBo2
      generalize W5.setRow gw (whc r.2.2.st A' r.2.2.blk.length c' r.2.2.en)=W12 at *
      refine hK.out _ _ ⟨HFr.out,cc2 HZ.out.sd.row⟩ (λhHeld=>?_)
      clear hK K
      try refine ptk ?_
      refine tkH 13 ?_
      refine rdH 14 λK hK=>?_
      refine qq (cs:=ftc 0 0) rfl _ _ rfl rfl rfl HFt.out rfl HAG.out ?_
      have HZ2:=z2w (xd HZ.out HNF.out HNFg.out (ftc 0 0))
      have HFr2:=z2w (HFr.out.setRow' (Row.ne HFr.out HFt.out (by decide)) (ftc 0 0))
      have HWh2:=z2w (HWh.out.setRow' (Row.ne HWh.out HFt.out (by decide)) (ftc 0 0))
      have HBo2:=z2w (y7 HBo.out HFt.out (by decide) (ftc 0 0))
      have HFt2:=z2w (HFt.out.setRow (ftc 0 0))
      clear HZ HFr HFt HWh HBo
      have HZ:=HZ2
      clear HZ2
      have HFr:=HFr2
      clear HFr2
      have HFt:=HFt2
      clear HFt2
      have HWh:=HWh2
      clear HWh2
      have HBo:=HBo2
      clear HBo2
      generalize W12.setRow gf (ftc 0 0)=W14 at *
      refine hK.out _ _ ⟨HFr.out,cc2 HZ.out.sd.row⟩ (λhHeld=>?_)
      clear hK K hHeld
      try refine ptk ?_
      refine dnH ?_
      go_wp2_with fail
      go_meet
      exact⟨gw,gf,A',c',A2,c2,o2,rfl,rfl,rfl,HZ.out,HFr.out,HWh.out,HFt.out,HBo.out,HNb.out,HIl.out⟩
   ·go_simp
    have HFt:=z2w (Qy W0)
    have hb9:Below W0.heap.size W0 (W0.alloc (.cells #[.int .u8 0,.int .u32 0] 29)):=(Below.refl _ _).alloc (Nat.le_refl _) _
    have HZ2:=z2w (HZ.out.then_below hb9)
    have HFr2:=z2w (HFr.out.below hb9 HFr.out.lt)
    have HNF:Hid (¬zi ({ z with be:=true }:Zs).ps W0.heap.size):=λhk=>by have:=HZ.out.sd.1.lt hk;omega
    have HNFg:Hid (w.heap.size≤W0.heap.size):=HZ.out.fs.size
    clear hb9 HZ HFr
    have HZ:=HZ2
    clear HZ2
    have HFr:=HFr2
    clear HFr2
    generalize W0.alloc (.cells #[.int .u8 0,.int .u32 0] 29)=W11 at *
    generalize W0.heap.size=gf at *
    refine hK.out _ _ ⟨HFr.out,cc2 HZ.out.sd.row⟩ (λhHeld=>?_)
    clear hK K
    try refine ptk ?_
    refine wpAnyH_ready (rs:=[5,10]) (by kernel_rfl) (by simp) ?_
    refine AllReadyH.cons rfl (λK hK=>?_) (AllReadyH.cons rfl (λK hK=>?_) AllReadyH.nil)
    ·go_simp
     go_at_call 103
     refine(HCO.out W11 HZ.out).mono ?_
     rintro e9 W5 ⟨A',c',A2,c2,o2,rfl,h1,h2,h3,h4⟩
     have HFr2:=z2w (h1.fs.row HPZ.out HFr.out)
     have HFt2:=z2w (h1.fs.row HNF.out HFt.out)
     have HNF2:Hid (¬zi (z.took r.1 A2 c2 o2).ps gf):=λhk=>(h1.new _ hk).elim HNF.out λh=>by have:=HFt.out.lt;omega
     have HZ2:=z2w (HZ.out.trans h1)
     have HBo:=z2w h2
     have HNb:=z2w h3
     have HIl:=z2w h4
     clear h1 h2 h3 h4 HCO HZ HFr HFt HNF
     have HZ:=HZ2
     clear HZ2
     have HFr:=HFr2
     clear HFr2
     have HFt:=HFt2
     clear HFt2
     have HNF:=HNF2
     clear HNF2
     refine hK.out _ _ ⟨HFr.out,cc2 HZ.out.sd.row⟩ (λhHeld=>?_)
     clear hK K
     try refine ptk ?_
     refine tkH 6 ?_
     refine tkH 7 ?_
     refine tkH 8 ?_
     refine tkH 9 ?_
     refine rdH 10 λK hK=>?_
     ·go_simp
      have HWh:=z2w (V4 W5)
      have hb9:Below W5.heap.size W5 (W5.alloc (.cells #[.int .u32 0,.slice none 0 0,.bool false] 128)):=(Below.refl _ _).alloc (Nat.le_refl _) _
      have HZ2:=z2w (HZ.out.then_below hb9)
      have HFr2:=z2w (HFr.out.below hb9 HFr.out.lt)
      have HNW:Hid (¬zi (z.took r.1 A2 c2 o2:Zs).ps W5.heap.size):=λhk=>by have:=HZ.out.sd.1.lt hk;omega
      have HNWg:Hid (w.heap.size≤W5.heap.size):=HZ.out.fs.size
      have HFt2:=z2w (HFt.out.below hb9 HFt.out.lt)
      have HBo2:=z2w (Jo HBo.out hb9)
      clear hb9 HZ HFr HFt HBo
      have HZ:=HZ2
      clear HZ2
      have HFr:=HFr2
      clear HFr2
      have HFt:=HFt2
      clear HFt2
      have HBo:=HBo2
      clear HBo2
      generalize W5.alloc (.cells #[.int .u32 0,.slice none 0 0,.bool false] 128)=W10 at *
      generalize W5.heap.size=gw at *
      refine hK.out _ _ ⟨HFr.out,cc2 HZ.out.sd.row⟩ (λhHeld=>?_)
      clear hK K
      try refine ptk ?_
      refine rdH 12 λK hK=>?_
      refine qq (cs:=whc r.2.2.st A' r.2.2.blk.length c' r.2.2.en) rfl _ _ rfl rfl rfl HWh.out (j4 _ _ _ _ _ _ _ _ _ _) (qd _ _ _ _ _) ?_
      have HZ2:=z2w (xd HZ.out HNW.out HNWg.out (whc r.2.2.st A' r.2.2.blk.length c' r.2.2.en))
      have HFr2:=z2w (HFr.out.setRow' (Row.ne HFr.out HWh.out (by decide)) (whc r.2.2.st A' r.2.2.blk.length c' r.2.2.en))
      have HFt2:=z2w (HFt.out.setRow' (Row.ne HFt.out HWh.out (by decide)) (whc r.2.2.st A' r.2.2.blk.length c' r.2.2.en))
      have HWh2:=z2w (HWh.out.setRow (whc r.2.2.st A' r.2.2.blk.length c' r.2.2.en))
      have HBo2:=z2w (y7 HBo.out HWh.out (by decide) (whc r.2.2.st A' r.2.2.blk.length c' r.2.2.en))
      clear HZ HFr HFt HWh HBo
      have HZ:=HZ2
      clear HZ2
      have HFr:=HFr2
      clear HFr2
      have HFt:=HFt2
      clear HFt2
      have HWh:=HWh2
      clear HWh2
      have HBo:=HBo2
      clear HBo2
      generalize W10.setRow gw (whc r.2.2.st A' r.2.2.blk.length c' r.2.2.en)=W12 at *
      refine hK.out _ _ ⟨HFr.out,cc2 HZ.out.sd.row⟩ (λhHeld=>?_)
      clear hK K
      try refine ptk ?_
      refine tkH 13 ?_
      refine rdH 14 λK hK=>?_
      refine qq (cs:=ftc 0 0) rfl _ _ rfl rfl rfl HFt.out rfl HAG.out ?_
      have HZ2:=z2w (xd HZ.out HNF.out HNFg.out (ftc 0 0))
      have HFr2:=z2w (HFr.out.setRow' (Row.ne HFr.out HFt.out (by decide)) (ftc 0 0))
      have HWh2:=z2w (HWh.out.setRow' (Row.ne HWh.out HFt.out (by decide)) (ftc 0 0))
      have HBo2:=z2w (y7 HBo.out HFt.out (by decide) (ftc 0 0))
      have HFt2:=z2w (HFt.out.setRow (ftc 0 0))
      clear HZ HFr HFt HWh HBo
      have HZ:=HZ2
      clear HZ2
      have HFr:=HFr2
      clear HFr2
      have HFt:=HFt2
      clear HFt2
      have HWh:=HWh2
      clear HWh2
      have HBo:=HBo2
      clear HBo2
      generalize W12.setRow gf (ftc 0 0)=W14 at *
      refine hK.out _ _ ⟨HFr.out,cc2 HZ.out.sd.row⟩ (λhHeld=>?_)
      clear hK K hHeld
      try refine ptk ?_
      refine dnH ?_
      go_wp2_with fail
      go_meet
      exact⟨gw,gf,A',c',A2,c2,o2,rfl,rfl,rfl,HZ.out,HFr.out,HWh.out,HFt.out,HBo.out,HNb.out,HIl.out⟩
    ·go_simp
     have HWh:=z2w (V4 W11)
     have hb9:Below W11.heap.size W11 (W11.alloc (.cells #[.int .u32 0,.slice none 0 0,.bool false] 128)):=(Below.refl _ _).alloc (Nat.le_refl _) _
     have HZ2:=z2w (HZ.out.then_below hb9)
     have HFr2:=z2w (HFr.out.below hb9 HFr.out.lt)
     have HNW:Hid (¬zi ({ z with be:=true }:Zs).ps W11.heap.size):=λhk=>by have:=HZ.out.sd.1.lt hk;omega
     have HNWg:Hid (w.heap.size≤W11.heap.size):=HZ.out.fs.size
     have HFt2:=z2w (HFt.out.below hb9 HFt.out.lt)
     clear hb9 HZ HFr HFt
     have HZ:=HZ2
     clear HZ2
     have HFr:=HFr2
     clear HFr2
     have HFt:=HFt2
     clear HFt2
     generalize W11.alloc (.cells #[.int .u32 0,.slice none 0 0,.bool false] 128)=W10 at *
     generalize W11.heap.size=gw at *
     refine hK.out _ _ ⟨HFr.out,cc2 HZ.out.sd.row⟩ (λhHeld=>?_)
     clear hK K
     try refine ptk ?_
     refine rdH 5 λK hK=>?_
     ·go_simp
      go_at_call 103
      refine(HCO.out W10 HZ.out).mono ?_
      rintro e9 W5 ⟨A',c',A2,c2,o2,rfl,h1,h2,h3,h4⟩
      have HFr2:=z2w (h1.fs.row HPZ.out HFr.out)
      have HWh2:=z2w (h1.fs.row HNW.out HWh.out)
      have HNW2:Hid (¬zi (z.took r.1 A2 c2 o2).ps gw):=λhk=>(h1.new _ hk).elim HNW.out λh=>by have:=HWh.out.lt;omega
      have HFt2:=z2w (h1.fs.row HNF.out HFt.out)
      have HNF2:Hid (¬zi (z.took r.1 A2 c2 o2).ps gf):=λhk=>(h1.new _ hk).elim HNF.out λh=>by have:=HFt.out.lt;omega
      have HZ2:=z2w (HZ.out.trans h1)
      have HBo:=z2w h2
      have HNb:=z2w h3
      have HIl:=z2w h4
      clear h1 h2 h3 h4 HCO HZ HFr HWh HNW HFt HNF
      have HZ:=HZ2
      clear HZ2
      have HFr:=HFr2
      clear HFr2
      have HWh:=HWh2
      clear HWh2
      have HNW:=HNW2
      clear HNW2
      have HFt:=HFt2
      clear HFt2
      have HNF:=HNF2
      clear HNF2
      refine hK.out _ _ ⟨HFr.out,cc2 HZ.out.sd.row⟩ (λhHeld=>?_)
      clear hK K
      try refine ptk ?_
      refine tkH 6 ?_
      refine tkH 7 ?_
      refine tkH 8 ?_
      refine tkH 9 ?_
      refine rdH 12 λK hK=>?_
      refine qq (cs:=whc r.2.2.st A' r.2.2.blk.length c' r.2.2.en) rfl _ _ rfl rfl rfl HWh.out (j4 _ _ _ _ _ _ _ _ _ _) (qd _ _ _ _ _) ?_
      have HZ2:=z2w (xd HZ.out HNW.out HNWg.out (whc r.2.2.st A' r.2.2.blk.length c' r.2.2.en))
      have HFr2:=z2w (HFr.out.setRow' (Row.ne HFr.out HWh.out (by decide)) (whc r.2.2.st A' r.2.2.blk.length c' r.2.2.en))
      have HFt2:=z2w (HFt.out.setRow' (Row.ne HFt.out HWh.out (by decide)) (whc r.2.2.st A' r.2.2.blk.length c' r.2.2.en))
      have HWh2:=z2w (HWh.out.setRow (whc r.2.2.st A' r.2.2.blk.length c' r.2.2.en))
      have HBo2:=z2w (y7 HBo.out HWh.out (by decide) (whc r.2.2.st A' r.2.2.blk.length c' r.2.2.en))
      clear HZ HFr HFt HWh HBo
      have HZ:=HZ2
      clear HZ2
      have HFr:=HFr2
      clear HFr2
      have HFt:=HFt2
      clear HFt2
      have HWh:=HWh2
      clear HWh2
      have HBo:=HBo2
      clear HBo2
      generalize W5.setRow gw (whc r.2.2.st A' r.2.2.blk.length c' r.2.2.en)=W12 at *
      refine hK.out _ _ ⟨HFr.out,cc2 HZ.out.sd.row⟩ (λhHeld=>?_)
      clear hK K
      try refine ptk ?_
      refine tkH 13 ?_
      refine rdH 14 λK hK=>?_
      refine qq (cs:=ftc 0 0) rfl _ _ rfl rfl rfl HFt.out rfl HAG.out ?_
      have HZ2:=z2w (xd HZ.out HNF.out HNFg.out (ftc 0 0))
      have HFr2:=z2w (HFr.out.setRow' (Row.ne HFr.out HFt.out (by decide)) (ftc 0 0))
      have HWh2:=z2w (HWh.out.setRow' (Row.ne HWh.out HFt.out (by decide)) (ftc 0 0))
      have HBo2:=z2w (y7 HBo.out HFt.out (by decide) (ftc 0 0))
      have HFt2:=z2w (HFt.out.setRow (ftc 0 0))
      clear HZ HFr HFt HWh HBo
      have HZ:=HZ2
      clear HZ2
      have HFr:=HFr2
      clear HFr2
      have HFt:=HFt2
      clear HFt2
      have HWh:=HWh2
      clear HWh2
      have HBo:=HBo2
      clear HBo2
      generalize W12.setRow gf (ftc 0 0)=W14 at *
      refine hK.out _ _ ⟨HFr.out,cc2 HZ.out.sd.row⟩ (λhHeld=>?_)
      clear hK K hHeld
      try refine ptk ?_
      refine dnH ?_
      go_wp2_with fail
      go_meet
      exact⟨gw,gf,A',c',A2,c2,o2,rfl,rfl,rfl,HZ.out,HFr.out,HWh.out,HFt.out,HBo.out,HNb.out,HIl.out⟩
  case rest=>
   clear HZ2 HF2 HG2 HPZ0 HCO
   obtain⟨gw,gf,A',c',A2,c2,o2,rfl,rfl,rfl,HC⟩:=hcut
   have hnw:=λW=>Zq 0 0 rfl W
   rw[show (#[.agg #[.int .u8 0,.int .u32 0]]:Array Value)=#[.agg (ftc 0 0)] from by rw[z9];rfl] at hnw
   go_wp2_with (refine zj rfl _ rfl rfl HC.out.ft HAG.out ?_)
   refine(hnw _).mono ?_
   rintro x4 w4 ⟨rfl,hb4⟩
   have HC4:=z2w (HC.out.below hb4)
   have HG4:=z2w (HC4.out.zp.glob H0.out HG0.out)
   obtain⟨f0,_⟩:=zf HC4.out.f
   clear hb4 hnw HC
   cases HA.out with
   |reset ht hp hcall=>
    have hc9:=hcall _ _ _ _ HG4.out HC4.out.zp
    rw[ht] at f0
    rw[hp]
    clear hcall HA
    go_wp2_with (refine zg rfl _ rfl rfl HC4.out.f ?_)
    refine hc9.mono ?_
    rintro x5 w5 ⟨rfl,z',h5,hQ5⟩
    have H5:=z2w (HC4.out.zp.trans h5)
    have HQ5:=z2w hQ5
    clear h5 hQ5 hc9
    go_wp2_with fail
    go_ret
    exact⟨rfl,z',H5.out,HQ5.out⟩
   |ack ht hp hcall=>
    have hc9:=hcall _ _ _ _ HG4.out HC4.out.zp
    rw[ht.1] at f0
    rw[hp]
    obtain rfl:ack=true:=by rw[HACK.out];exact decide_eq_true ht.2
    clear hcall HA HACK
    go_wp2_with (refine zg rfl _ rfl rfl HC4.out.f ?_)
    refine hc9.mono ?_
    rintro x5 w5 ⟨rfl,z',h5,hQ5⟩
    have H5:=z2w (HC4.out.zp.trans h5)
    have HQ5:=z2w hQ5
    clear h5 hQ5 hc9
    go_wp2_with fail
    go_ret
    exact⟨rfl,z',H5.out,HQ5.out⟩
   |sets ht hp hcall=>
    have hc9:=hcall _ _ _ _ HG4.out HC4.out.zp
    rw[ht.1] at f0
    rw[hp]
    obtain rfl:ack=false:=by rw[HACK.out];exact decide_eq_false (by rw[ht.2];decide)
    clear hcall HA HACK
    go_wp2_with (refine zg rfl _ rfl rfl HC4.out.f ?_)
    refine hc9.mono ?_
    rintro x5 w5 ⟨rfl,z',h5,hQ5⟩
    have H5:=z2w (HC4.out.zp.trans h5)
    have HQ5:=z2w hQ5
    clear h5 hQ5 hc9
    go_wp2_with fail
    go_ret
    exact⟨rfl,z',H5.out,HQ5.out⟩
   |away ht hp hcall=>
    have hc9:=hcall _ _ _ _ HG4.out HC4.out.zp
    rw[ht] at f0
    rw[hp]
    clear hcall HA
    go_wp2_with (refine zg rfl _ rfl rfl HC4.out.f ?_)
    refine hc9.mono ?_
    rintro x5 w5 ⟨rfl,z',h5,hQ5⟩
    have H5:=z2w (HC4.out.zp.trans h5)
    have HQ5:=z2w hQ5
    clear h5 hQ5 hc9
    go_wp2_with fail
    go_ret
    exact⟨rfl,z',H5.out,HQ5.out⟩
   |win ht hp hcall=>
    have hc9:=hcall _ _ _ _ HG4.out HC4.out.zp
    rw[ht] at f0
    rw[hp]
    clear hcall HA
    go_wp2_with (refine zg rfl _ rfl rfl HC4.out.f ?_)
    refine hc9.mono ?_
    rintro x5 w5 ⟨rfl,z',h5,hQ5⟩
    have H5:=z2w (HC4.out.zp.trans h5)
    have HQ5:=z2w hQ5
    clear h5 hQ5 hc9
    go_wp2_with fail
    go_ret
    exact⟨rfl,z',H5.out,HQ5.out⟩
   |data ht hp hcall=>
    have hc9:=hcall _ _ _ _ HG4.out HC4.out.zp
    rw[ht] at f0
    rw[hp]
    clear hcall HA
    go_wp2_with (refine zg rfl _ rfl rfl HC4.out.f ?_)
    refine hc9.mono ?_
    rintro x5 w5 ⟨rfl,z',h5,hQ5⟩
    have H5:=z2w (HC4.out.zp.trans h5)
    have HQ5:=z2w hQ5
    clear h5 hQ5 hc9
    go_wp2_with fail
    go_ret
    exact⟨rfl,z',H5.out,HQ5.out⟩
   |block hp hcall=>
    have hc9:=hcall _ _ _ _ _ _ HG4.out HC4.out.zp HC4.out.bo HC4.out.nw HC4.out.il
    rw[hp]
    clear hcall HA f0
    go_wp2_with (refine zj rfl _ rfl rfl HC4.out.wh (qd _ _ _ _ _) ?_)
    refine hc9.mono ?_
    rintro x5 w5 ⟨rfl,z',h5,hQ5⟩
    have H5:=z2w (HC4.out.zp.trans h5)
    have HQ5:=z2w hQ5
    clear h5 hQ5 hc9
    go_wp2_with fail
    go_ret
    exact⟨rfl,z',H5.out,HQ5.out⟩
end
end Go.Proofs.YtooaajnkiokpnaaGreatDoor
