/-
  Part of a proof: Streams that send, in a list: where one stands, which can send. No program; no conditions but those that each theorem names. Conditions: those that each theorem names.
-/
import Derived.Test.YtooaajnkiokpnaaGreatDoorQ01
import Derived.Test.YtooaajnkiokpnaaGreatDoorQ11
import Derived.Deep.CutBlock
import Derived.Deep.DeepCutAuto
import Derived.Test.YtooaajnkiokpnaaGreatDoorProg
import Derived.IntWalk
namespace Go.Proofs.YtooaajnkiokpnaaGreatDoor
open Go.RowKit Go.WideShapes
set_option maxHeartbeats 4000000
set_option maxRecDepth 100000
section
theorem Zc:(Tryz.prog.info? 29).map (·.size)=some 2:=by kernel_rfl
def ftc(s c:Nat):Array Value:=#[.int .u8 s,.int .u32 c]
theorem qf{ops:Array Oper}{rest:List Oper}{o:Oper}{a:Act}{w:World}{Q:Exit→Act→World→Prop}(hgd:o.guard=none)(p q:Operand)(ho:o.op=.store 29 p q){g:Nat}(hp:a.eval p=.pointer (some ⟨g,0,none⟩)){s c s0 c0:Nat}(hq:a.eval q=.agg (ftc s c))(h:Row w g 29 (ftc s0 c0))
  (hk:wpList Tryz.prog ops Q rest (a.put o.dst undef) (w.setRow g (ftc s c))):wpList Tryz.prog ops Q (o :: rest) a w:=
 wpList_store_row hgd 29 p q ho g (ftc s c) hp hq 29 (ftc s0 c0) h Zc rfl (by unfold ftc;kernel_rfl) hk
theorem Xi{ops:Array Oper}{o:Oper}{a:Act}{w:World}{K:Act→World→Prop}{Q:Exit→Act→World→Prop}{E:Prop}(hgd:o.guard=none)(p q:Operand)(ho:o.op=.store 29 p q){g:Nat}(hp:a.eval p=.pointer (some ⟨g,0,none⟩)){s c s0 c0:Nat}(hq:a.eval q=.agg (ftc s c))(h:Row w g 29 (ftc s0 c0))
  (hk:K (a.put o.dst undef) (w.setRow g (ftc s c))):if Region.wanted o (yielded ops a.tmps)=true then Oper.wp Tryz.prog o a w K Q else E:=by
 have hw:Region.wanted o (yielded ops a.tmps)=true:=by simp[Region.wanted,hgd]
 rw[if_pos hw]
 exact wp_store_row 29 p q ho g (ftc s c) hp hq 29 (ftc s0 c0) h Zc rfl (by unfold ftc;kernel_rfl) hk
theorem zck{fn:Func}{p q:Tmp}(h:fn.results=#[.cell p 66,.cell q 29])(tmps:Array Value)(w:World)(g k:Nat)(x:Fm)(s c:Nat)(hp:tmps.getD p undef=.pointer (some ⟨g,0,none⟩))(hR:Row w g 66 x.c)(hq:tmps.getD q undef=.pointer (some ⟨k,0,none⟩))(hK:Row w k 29 (ftc s c)) :
  (results fn tmps).run Tryz.prog w=.ok (.tuple #[.agg x.c,.agg (ftc s c)]) w:=by
 have hl:=run_loadVar_row (P:=Tryz.prog) w g 66 66 x.c (0,0) _ hR Tryz.underlying66 rfl (Fm.size x)
 have hk:=run_loadVar_row (P:=Tryz.prog) w k 29 29 (ftc s c) (0,0) _ hK Tryz.underlying29 rfl Zc
 have hp':tmps[p]?.getD undef=.pointer (some ⟨g,0,none⟩):=by simpa using hp
 have hq':tmps[q]?.getD undef=.pointer (some ⟨k,0,none⟩):=by simpa using hq
 simp only[results,h]
 simp[hp',hq',asAddr,hl,hk]
def zu0(w:World)(r:Frm × Nat × Nat)(e:Ending)(w':World):Prop:=
 ∃x:Fm,e=.returned (.tuple #[.agg x.c,.agg (ftc r.2.1 r.2.2)])∧FmIs w' w.heap.size x r.1∧Below w.heap.size w w'
theorem FmIs.hd(w:World)(base ty fl st:Nat):FmIs w base (fm0 ty fl st (-1)) (hdN ty fl st):=⟨rfl,Bo.nil,OwS.nil⟩
theorem zya(ty fl st:Nat):(fm0 ty fl st (-1)).c=#[.int .u8 ty,.int .u8 fl,.int .u32 st,.slice none 0 0,.int .i64 (-1),.int .u32 0,.int .u32 0,.int .u8 0,.bool false,.int .u32 0,.slice none 0 0]:=by unfold Fm.c;rfl
theorem z_c:(fm0 0 0 0 0).c=z2x:=by unfold Fm.c;rfl
theorem zq6:(fm0 0 0 0 (-1)).c=#[.int .u8 0,.int .u8 0,.int .u32 0,.slice none 0 0,.int .i64 (-1),.int .u32 0,.int .u32 0,.int .u8 0,.bool false,.int .u32 0,.slice none 0 0]:=by unfold Fm.c;rfl
theorem zr7(ty fl st:Nat)(s:List UInt8):(jt ty fl st s).2.1≠0→(jt ty fl st s).1=hdN ty fl st:=by
 unfold jt
 intro h
 split
 ·rfl
 ·split
  ·rfl
  ·split
   ·rfl
   ·split
    ·rfl
    ·split
     ·rename_i h1 h2 _ pad r h3 h4 h5
      rw[if_neg h1,if_neg h2,h3] at h
      simp only at h
      rw[if_neg h4,if_pos h5] at h
      exact absurd rfl h
     ·rfl
theorem zwj(ty fl st:Nat)(s:List UInt8):(jt ty fl st s).2.1=0→(jt ty fl st s).2.2=0:=by
 unfold jt
 split
 ·intro h;cases h
 ·split
  ·intro h;cases h
  ·split
   ·intro h;cases h
   ·split
    ·intro h;simp only at h;split at h<;>cases h
    ·split
     ·intro _;rfl
     ·rename_i h5;intro h;exact absurd h h5
attribute [local irreducible] Fm.c ftc
theorem zi8{A:Option Addr}{c:Nat}{l:List UInt8}{w:World}(hr:RdB w w.heap.size A l)(hc:l.length≤c)(hl:l.length≤100000)(hG:GlobE w) :
  Calls Tryz.prog 126 #[.slice A l.length c] w (zu0 w (Zu l)):=by
 have hftc:∀s c:Nat,ftc s c=#[.int .u8 s,.int .u32 c]:=λs c=>by unfold ftc;rfl
 have HX:Hid (Row ((w.alloc (.cells z2x 66)).alloc (.cells #[.int .u8 0,.int .u32 0] 29)) w.heap.size 66 (fm0 0 0 0 0).c):=by show Row _ _ _ _;rw[z_c];exact(Row.new w _ _).alloc _
 have HT:Hid (Row ((w.alloc (.cells z2x 66)).alloc (.cells #[.int .u8 0,.int .u32 0] 29)) (w.heap.size+1) 29 (ftc 0 0)):=by show Row _ _ _ _;rw[hftc];exact Row.made _ _ _ (by simp)
 have HB:Hid (Below w.heap.size w ((w.alloc (.cells z2x 66)).alloc (.cells #[.int .u8 0,.int .u32 0] 29))):=((Below.refl _ _).alloc (Nat.le_refl _) _).alloc (by simp) _
 have HG:Hid (GlobE ((w.alloc (.cells z2x 66)).alloc (.cells #[.int .u8 0,.int .u32 0] 29))):=(hG.alloc _).alloc _
 have HRd:=z2w hr
 have HGN:=z2w (rfl:Zu l=Zu l)
 have HGw:=z2w hG
 clear hr hG
 by_cases h9:l.length<9
 ·have hE:Zu l=(hdN 0 0 0,1,6):=if_pos (.inl h9)
  rw[hE]
  have hh:=λW=>zkg (A:=A) (c:=c) (n:=l.length) (w:=W) h9
  clear hE h9 HGN HGw
  go_enter Tryz.func126,Tryz.ntmps126
  go_wp2_with fail
  generalize ((w.alloc (.cells z2x 66)).alloc (.cells #[.int .u8 0,.int .u32 0] 29))=w1 at *
  refine(hh _).mono ?_
  rintro e w1' ⟨rfl,rfl⟩
  obtain⟨HX1,HT1,HB1,HG1⟩:=(⟨HX,HT,HB,HG⟩:_∧_∧_∧_)
  clear hh HX HT HB HG
  go_wp2_with fail
  refine(qw _ _).mono ?_
  rintro e w2 ⟨ge,rfl,hE2,hb2⟩
  have HX2:=z2w (HX1.out.below hb2 HX1.out.lt)
  have HT2:=z2w (HT1.out.below hb2 HT1.out.lt)
  have HB2:=z2w (HB1.out.trans (hb2.mono HB1.out.size))
  have HG2:=z2w (HG1.out.below hb2)
  have hof:=Xq hE2 HG2.out
  clear hb2 hE2 HX1 HT1 HB1 HG1
  go_wp2_with fail
  refine hof.mono ?_
  rintro e w3 ⟨rfl,hb3⟩
  have HX3:=z2w (HX2.out.below hb3 HX2.out.lt)
  have HT3:=z2w (HT2.out.below hb3 HT2.out.lt)
  have HB3:=z2w (HB2.out.trans (hb3.mono HB2.out.size))
  have HT4:=z2w (HT3.out.setRow' (k:=w.heap.size) (by omega) (fm0 0 0 0 (-1)).c)
  clear hb3 hof HX2 HT2 HB2 HG2
  go_wp2_with (first|(refine qe (x:=fm0 0 0 0 (-1)) rfl _ _ rfl rfl (by rw[zq6];rfl) HX3.out ?_)|(refine qf rfl _ _ rfl rfl (show _=Value.agg (ftc 1 6) by rw[hftc];rfl) HT4.out ?_))
  refine bodyPost_ret (zck rfl _ _ w.heap.size (w.heap.size+1) (fm0 0 0 0 (-1)) 1 6 rfl ((HX3.out.setRow _).setRow' (by omega) _) rfl (HT4.out.setRow _)) rfl ?_
  exact⟨_,rfl,FmIs.hd _ _ _ _ _,zd (zd HB3.out _ _ (Nat.le_refl _)) _ _ (by omega)⟩
 have hh:=λW=>Xf (c:=c) (w:=W) (B:=w.heap.size) (A:=A) (l:=l)
 by_cases hn:l.length=9+zt (l.take 3)
 rotate_left
 ·have hE:Zu l=(hdN 0 0 0,1,6):=if_pos (.inr hn)
  rw[hE]
  have hn':(((9+zt (l.take 3):Nat):Int) == (l.length:Int))=false:=beq_eq_false_iff_ne.2 (by omega)
  clear hE HGN HGw
  go_enter Tryz.func126,Tryz.ntmps126
  go_wp2_with fail
  generalize ((w.alloc (.cells z2x 66)).alloc (.cells #[.int .u8 0,.int .u32 0] 29))=w1 at *
  refine(hh _ (HRd.out.below HB.out) (by omega) (by omega)).mono ?_
  rintro e w1' ⟨rfl,nq,rfl⟩
  generalize zt (l.take 3)=v3 at *
  have HX1:=z2w (show Row (w1.drewN nq) _ _ _ from HX.out)
  have HT1:=z2w (show Row (w1.drewN nq) _ _ _ from HT.out)
  have HB1:=z2w (qu HB.out nq)
  have HG1:=z2w (show GlobE (w1.drewN nq) from HG.out)
  clear hh HX HT HB HG
  generalize w1.drewN nq=w2 at *
  go_wp2_with fail
  refine(qw _ _).mono ?_
  rintro e w2 ⟨ge,rfl,hE2,hb2⟩
  have HX2:=z2w (HX1.out.below hb2 HX1.out.lt)
  have HT2:=z2w (HT1.out.below hb2 HT1.out.lt)
  have HB2:=z2w (HB1.out.trans (hb2.mono HB1.out.size))
  have HG2:=z2w (HG1.out.below hb2)
  have hof:=Xq hE2 HG2.out
  clear hb2 hE2 HX1 HT1 HB1 HG1
  go_wp2_with fail
  refine hof.mono ?_
  rintro e w3 ⟨rfl,hb3⟩
  have HX3:=z2w (HX2.out.below hb3 HX2.out.lt)
  have HT3:=z2w (HT2.out.below hb3 HT2.out.lt)
  have HB3:=z2w (HB2.out.trans (hb3.mono HB2.out.size))
  have HT4:=z2w (HT3.out.setRow' (k:=w.heap.size) (by omega) (fm0 0 0 0 (-1)).c)
  clear hb3 hof HX2 HT2 HB2 HG2
  go_wp2_with (first|(refine qe (x:=fm0 0 0 0 (-1)) rfl _ _ rfl rfl (by rw[zq6];rfl) HX3.out ?_)|(refine qf rfl _ _ rfl rfl (show _=Value.agg (ftc 1 6) by rw[hftc];rfl) HT4.out ?_))
  refine bodyPost_ret (zck rfl _ _ w.heap.size (w.heap.size+1) (fm0 0 0 0 (-1)) 1 6 rfl ((HX3.out.setRow _).setRow' (by omega) _) rfl (HT4.out.setRow _)) rfl ?_
  exact⟨_,rfl,FmIs.hd _ _ _ _ _,zd (zd HB3.out _ _ (Nat.le_refl _)) _ _ (by omega)⟩
 obtain⟨ty,hty⟩:∃ty,ty=(l.getD 3 0).toNat:=⟨_,rfl⟩
 obtain⟨fl,hfl⟩:∃fl,fl=(l.getD 4 0).toNat:=⟨_,rfl⟩
 obtain⟨st,hst⟩:∃st,st=zt ((l.drop 5).take 4)%2147483648:=⟨_,rfl⟩
 have hE:Zu l=jt ty fl st (l.drop 9):=by rw[hty,hfl,hst];exact if_neg (by omega)
 rw[hE]
 have hf:fl<256:=by rw[hfl];exact(l.getD 4 0).toNat_lt
 obtain⟨i1,hi1,_,hz11,_⟩:=zr qk
 obtain⟨A5,hcut5,hRd5⟩:=y6 (P:=Tryz.prog) (k:=5) Tryz.underlying22 hi1 hz11 HRd.out hc (by omega)
 obtain⟨A9,hcut9,hRd9⟩:=y6 (P:=Tryz.prog) (k:=9) Tryz.underlying22 hi1 hz11 HRd.out hc (by omega)
 obtain⟨g,o,rfl,hgl,hcell⟩:=HRd.out (by intro e;rw[e] at h9;simp at h9)
 have c3:w.cell? ⟨g,o+3,none⟩=some (.int .u8 (ty:Int)):=by have:=hcell 3 (by omega);rw[hty];simpa [List.getD,List.getElem?_eq_getElem (show 3<l.length by omega)] using this
 have c4:w.cell? ⟨g,o+4,none⟩=some (.int .u8 (fl:Int)):=by have:=hcell 4 (by omega);rw[hfl];simpa [List.getD,List.getElem?_eq_getElem (show 4<l.length by omega)] using this
 have hl5:(l.drop 5).length=l.length-5:=List.length_drop
 have hl9:(l.drop 9).length=l.length-9:=List.length_drop
 have hgs:=λ(W:World) (h1:RdB W w.heap.size A5 (l.drop 5))=>Za (c:=c-5) h1 (by rw[hl5];omega) (by rw[hl5];omega)
 rw[←hst,hl5] at hgs
 have hrd:=λ(W:World) (h1:RdB W W.heap.size A9 (l.drop 9))=>zqe (ty:=ty) (st:=st) hf (c:=c-9) h1 (by rw[hl9];omega) (by rw[hl9];omega)
 have hrh:=And.intro (zr7 ty fl st (l.drop 9)) (zwj ty fl st (l.drop 9))
 rw[hl9] at hrd
 obtain⟨RN,hRN⟩:∃RN,RN=jt ty fl st (l.drop 9):=⟨_,rfl⟩
 rw[←hRN] at hrd hrh ⊢
 have HRH:=z2w hrh
 have HRd5:=z2w hRd5
 have HRd9:=z2w hRd9
 have HC3:=z2w c3
 have HC4:=z2w c4
 have HSz:Hid ((((w.alloc (.cells z2x 66)).alloc (.cells #[.int .u8 0,.int .u32 0] 29))).heap.size=w.heap.size+2):=by simp[Hid]
 have m3:(3:Int)<(l.length:Int):=by omega
 have m4:(4:Int)<(l.length:Int):=by omega
 have hnn:(((9+zt (l.take 3):Nat):Int) == (l.length:Int))=true:=beq_iff_eq.2 (by omega)
 have hh':=λ(W:World) (h1:RdB W w.heap.size (some ⟨g,o,none⟩) l)=>Xf (c:=c) h1 (by omega) (by omega)
 have hc5:∀W,(Instr.slice 22 (.slice (some ⟨g,o,none⟩) l.length c) (some (.int .i64 5)) none none).run Tryz.prog W=.ok (.slice A5 (l.length-5) (c-5)) W:=λW=>hcut5 W
 have hc9:∀W,(Instr.slice 22 (.slice (some ⟨g,o,none⟩) l.length c) (some (.int .i64 9)) none none).run Tryz.prog W=.ok (.slice A9 (l.length-9) (c-9)) W:=λW=>hcut9 W
 generalize zt (l.take 3)=v3 at *
 clear hE hty hfl hst hcell hgl c3 c4 hRN hrh hRd5 hRd9 hl5 hl9 hcut5 hcut9 HGN hh hn hf hi1 hz11 h9
 go_enter Tryz.func126,Tryz.ntmps126
 go_wp2_with fail
 generalize ((w.alloc (.cells z2x 66)).alloc (.cells #[.int .u8 0,.int .u32 0] 29))=w1 at *
 refine(hh' _ (HRd.out.below HB.out)).mono ?_
 rintro e w1' ⟨rfl,nq,rfl⟩
 have HX2:=z2w (show Row (w1.drewN nq) _ _ _ from HX.out)
 have HT2:=z2w (show Row (w1.drewN nq) _ _ _ from HT.out)
 have HB2:=z2w (qu HB.out nq)
 have HG2:=z2w (show GlobE (w1.drewN nq) from HG.out)
 have HS2:Hid ((w1.drewN nq).heap.size=w.heap.size+2):=HSz
 clear hh' HX HT HB HG HSz
 generalize w1.drewN nq=w2 at *
 go_upto_region 4 with fail
 go_cut [6] (λv wx=>v=.pointer (some ⟨w2.heap.size,0,none⟩)∧Hid (Row wx w2.heap.size 66 (fm0 ty fl st (-1)).c)∧Hid (Below w2.heap.size w2 wx)∧Hid (wx.heap.size=w2.heap.size+1))
 case first=>
  have k3:=(HB2.out.cell (p:=⟨g,o+3,none⟩) (jf HC3.out)).trans HC3.out
  have k4:=(HB2.out.cell (p:=⟨g,o+4,none⟩) (jf HC4.out)).trans HC4.out
  have b3:g<w2.heap.size:=jf k3
  have HB9:Hid (Below w2.heap.size w2 w2):=Below.refl _ _
  refine wp_region_held_drew (S:=λw'=>w'.cell? ⟨g,o+3,none⟩=some (.int .u8 (ty:Int))∧w'.cell? ⟨g,o+4,none⟩=some (.int .u8 (fl:Int))) (by kernel_rfl) ⟨k3,k4⟩ (λhHeld=>?_)
  clear k3 k4
  refine tkH 0 ?_
  refine tkH 1 ?_
  refine tkH 2 ?_
  refine tkH 3 ?_
  refine tkH 4 ?_
  refine tkH 5 ?_
  refine tkH 6 ?_
  refine tkH 7 ?_
  refine wpAnyH_ready (rs:=[8,10]) (by kernel_rfl) (by simp) ?_
  refine AllReadyH.cons rfl (λK hK=>?_) (AllReadyH.cons rfl (λK hK=>?_) AllReadyH.nil)
  ·go_simp
   go_at_call 162
   refine(hgs _ (HRd5.out.below (show Below w.heap.size w w2.drew from HB2.out.drew))).mono ?_
   rintro e w3 ⟨rfl,nr,rfl⟩
   refine hK.out _ _ hHeld (λhHeld=>?_)
   clear hK K
   try refine ptk ?_
   refine tkH 9 ?_
   refine rdH 10 λK hK=>?_
   go_simp
   refine hK.out _ _ ⟨(World.cell?_alloc_lt _ _ ⟨g,o+3,none⟩ b3).trans hHeld.1,(World.cell?_alloc_lt _ _ ⟨g,o+4,none⟩ b3).trans hHeld.2⟩ (λhHeld=>?_)
   clear hK K
   try refine ptk ?_
   refine rdH 11 λK hK=>?_
   have hRw:Row ((w2.drewN (1+nr)).alloc (.cells z2x 66)) w2.heap.size 66 (fm0 0 0 0 0).c:=by rw[z_c];exact Row.made _ _ _ rfl
   have hBw:Below w2.heap.size w2 ((w2.drewN (1+nr)).alloc (.cells z2x 66)):=(qu (Below.refl _ _) (1+nr)).alloc (Nat.le_refl _) _
   have hSw:((w2.drewN (1+nr)).alloc (.cells z2x 66)).heap.size=w2.heap.size+1:=by simp
   refine xf (x:=fm0 ty fl st (-1)) rfl (.tmp 6) (.tmp 34) rfl rfl (by rw[zya];rfl) hRw ?_
   refine hK.out _ _ ⟨(zd (Below.refl w2.heap.size _) _ _ (Nat.le_refl _)).cell (p:=⟨g,o+3,none⟩) b3 |>.trans hHeld.1,(zd (Below.refl w2.heap.size _) _ _ (Nat.le_refl _)).cell (p:=⟨g,o+4,none⟩) b3 |>.trans hHeld.2⟩ (λhHeld=>?_)
   clear hK K
   try refine ptk ?_
   refine dnH ?_
   go_wp2_with fail
   go_meet
   exact⟨rfl,hRw.setRow _,zd hBw _ _ (Nat.le_refl _),by show _=_;simp⟩
  ·go_simp
   refine hK.out _ _ ⟨(World.cell?_alloc_lt _ _ ⟨g,o+3,none⟩ b3).trans hHeld.1,(World.cell?_alloc_lt _ _ ⟨g,o+4,none⟩ b3).trans hHeld.2⟩ (λhHeld=>?_)
   clear hK K
   try refine ptk ?_
   refine rdH 8 λK hK=>?_
   have hRw:Row ((w2.drew).alloc (.cells z2x 66)) w2.heap.size 66 (fm0 0 0 0 0).c:=by rw[z_c];exact Row.made _ _ _ rfl
   have hBw:Below w2.heap.size w2 ((w2.drew).alloc (.cells z2x 66)):=(Below.refl _ _).drew.alloc (Nat.le_refl _) _
   have hSw:((w2.drew).alloc (.cells z2x 66)).heap.size=w2.heap.size+1:=by simp
   go_simp
   go_at_call 162
   refine(hgs _ (HRd5.out.below (HB2.out.trans (hBw.mono HB2.out.size)))).mono ?_
   rintro e w3 ⟨rfl,nr,rfl⟩
   refine hK.out _ _ hHeld (λhHeld=>?_)
   clear hK K
   try refine ptk ?_
   refine tkH 9 ?_
   refine rdH 11 λK hK=>?_
   refine xf (x:=fm0 ty fl st (-1)) (y:=fm0 0 0 0 0) rfl (.tmp 6) (.tmp 34) rfl rfl (by rw[zya];rfl) hRw ?_
   refine hK.out _ _ ⟨(zd (Below.refl w2.heap.size _) _ _ (Nat.le_refl _)).cell (p:=⟨g,o+3,none⟩) b3 |>.trans hHeld.1,(zd (Below.refl w2.heap.size _) _ _ (Nat.le_refl _)).cell (p:=⟨g,o+4,none⟩) b3 |>.trans hHeld.2⟩ (λhHeld=>?_)
   clear hK K
   try refine ptk ?_
   refine dnH ?_
   go_wp2_with fail
   go_meet
   exact⟨rfl,hRw.setRow _,zd (qu hBw nr) _ _ (Nat.le_refl _),by show _=_;simp⟩
 case rest=>
  obtain⟨rfl,HH3,HBc,HSc⟩:=hcut
  have HX3:=z2w (HX2.out.below HBc.out HX2.out.lt)
  have HT3:=z2w (HT2.out.below HBc.out HT2.out.lt)
  have HG3:=z2w (HG2.out.below HBc.out)
  have HB3:=z2w (HB2.out.trans (HBc.out.mono HB2.out.size))
  clear HX2 HT2 HG2 HB2 HBc HC3 HC4 HRd5 hgs m3 m4 hc5
  generalize w2.heap.size=k at *
  generalize wc=w3 at *
  go_upto_region 5 with fail
  go_cut [7,8] (λp v wx=>∃kx x,p=.pointer (some ⟨kx,0,none⟩)∧Hid (Row wx kx 66 (Fm.c x))∧Hid (EV wx v RN.2.1 RN.2.2)∧Hid (RN.2.1=0→FmIs wx w3.heap.size x RN.1)∧Hid (Below w3.heap.size w3 wx))
  case first=>
   have hk3:k<w3.heap.size:=HH3.out.lt
   refine wp_region_held_drew (S:=λw'=>Row w' k 66 (fm0 ty fl st (-1)).c∧True) (by kernel_rfl) ⟨HH3.out,trivial⟩ (λhHeld=>?_)
   refine tkY 0 rfl (qm (by rfl) _ rfl rfl (λ_ hSw=>hSw.1)) ?_
   refine tkH 1 ?_
   refine tkH 2 ?_
   refine wpAnyH_ready (rs:=[3,7]) (by kernel_rfl) (by simp) ?_
   refine AllReadyH.cons rfl (λK hK=>?_) (AllReadyH.cons rfl (λK hK=>?_) AllReadyH.nil)
   ·go_simp
    go_at_call 163
    refine(hrd _ ((HRd9.out.below (show Below _ _ w3.drew from HB3.out.drew)).more (show w.heap.size≤w3.drew.heap.size from HB3.out.size))).mono ?_
    rintro e w4 ⟨x4,v4,rfl,hv4,hm4,hb4⟩
    have HH4:=hHeld.1.below hb4 hHeld.1.lt
    refine hK.out _ _ ⟨HH4,trivial⟩ (λhHeld=>?_)
    clear hK K
    try refine ptk ?_
    refine tkH 4 ?_
    refine tkH 5 ?_
    refine tkH 6 ?_
    refine rdH 7 λK hK=>?_
    go_simp
    refine hK.out _ _ ⟨HH4.alloc _,trivial⟩ (λhHeld=>?_)
    clear hK K
    try refine ptk ?_
    refine rdH 8 λK hK=>?_
    have hRw:Row (w4.alloc (.cells z2x 66)) w4.heap.size 66 (fm0 0 0 0 0).c:=by rw[z_c];exact Row.made _ _ _ rfl
    have h34:w3.heap.size≤w4.heap.size:=hb4.size
    have hbs:Below w4.heap.size w4 ((w4.alloc (.cells z2x 66)).setRow w4.heap.size (Fm.c x4)):=zd ((Below.refl _ _).alloc (Nat.le_refl _) _) _ _ (Nat.le_refl _)
    refine xf (x:=x4) (y:=fm0 0 0 0 0) rfl (.tmp 7) (.tmp 40) rfl rfl rfl hRw ?_
    refine hK.out _ _ ⟨HH4.below hbs HH4.lt,trivial⟩ (λhHeld=>?_)
    clear hK K
    try refine ptk ?_
    refine tkH 9 ?_
    refine dnH ?_
    go_wp2_with fail
    go_meet
    refine⟨_,x4,rfl,hRw.setRow _,EV.keep hv4 (λj hj=>?_),λh=>FmIs.below (hm4 h) hbs,Below.trans (show Below w3.heap.size w3 w4 from (Below.refl _ w3).drew.trans hb4) (hbs.mono h34)⟩
    rcases hv4 with ⟨rfl,_⟩|⟨_,ge,rfl,hE⟩
    ·cases hj
    ·injection hj with h1 h2;injection h2 with h2;injection h2 with h2;injection h2 with h2;subst h2;exact hbs.block _ hE.lt
   ·go_simp
    have hBa:Below w3.heap.size w3 ((w3.drew).alloc (.cells z2x 66)):=(Below.refl _ _).drew.alloc (Nat.le_refl _) _
    have HHa:Row ((w3.drew).alloc (.cells z2x 66)) k 66 (fm0 ty fl st (-1)).c:=HH3.out.below hBa hk3
    have hRa:Row ((w3.drew).alloc (.cells z2x 66)) w3.heap.size 66 (fm0 0 0 0 0).c:=by rw[z_c];exact Row.made _ _ _ rfl
    have hsa:((w3.drew).alloc (.cells z2x 66)).heap.size=w3.heap.size+1:=by simp
    refine hK.out _ _ ⟨HHa,trivial⟩ (λhHeld=>?_)
    clear hK K
    try refine ptk ?_
    refine rdH 3 λK hK=>?_
    go_simp
    go_at_call 163
    refine(hrd _ ((HRd9.out.below (HB3.out.trans (hBa.mono HB3.out.size))).more (by rw[hsa];have:=HB3.out.size;omega))).mono ?_
    rintro e w4 ⟨x4,v4,rfl,hv4,hm4,hb4⟩
    rw[hsa] at hm4 hb4
    have HH4:=HHa.below hb4 (by omega)
    have hR4:=hRa.below hb4 (by omega)
    refine hK.out _ _ ⟨HH4,trivial⟩ (λhHeld=>?_)
    clear hK K
    try refine ptk ?_
    refine tkH 4 ?_
    refine tkH 5 ?_
    refine tkH 6 ?_
    refine rdH 8 λK hK=>?_
    refine xf (x:=x4) (y:=fm0 0 0 0 0) rfl (.tmp 7) (.tmp 40) rfl rfl rfl hR4 ?_
    refine hK.out _ _ ⟨HH4.setRow' (by omega) _,trivial⟩ (λhHeld=>?_)
    clear hK K
    try refine ptk ?_
    refine tkH 9 ?_
    refine dnH ?_
    go_wp2_with fail
    go_meet
    exact⟨_,x4,rfl,hR4.setRow _,EV.keep' hv4 hR4,λh=>((hm4 h).setRow (by omega) _).mono (by omega),zd (hBa.trans (hb4.mono (by omega))) _ _ (Nat.le_refl _)⟩
  case rest=>
   obtain⟨kx,x,rfl,HRx,HV,HM,HBx⟩:=hcut
   have HX4:=z2w (HX3.out.below HBx.out HX3.out.lt)
   have HT4:=z2w (HT3.out.below HBx.out HT3.out.lt)
   have HG4:=z2w (HG3.out.below HBx.out)
   have HB4:=z2w (HB3.out.trans (HBx.out.mono HB3.out.size))
   have HH4:=z2w (HH3.out.below HBx.out HH3.out.lt)
   have HS4:Hid (k=w.heap.size+2∧w3.heap.size=k+1):=⟨HS2.out,HSc.out⟩
   clear HX3 HT3 HG3 HB3 HH3 HBx HRd9 hrd hc9 HS2 HSc
   rcases HV.out with ⟨rfl,hs0⟩|⟨hs0,ge,rfl,hE⟩
   ·have HM0:=z2w (HM.out hs0)
    have HZ0:=z2w (And.intro hs0 (HRH.out.2 hs0))
    have HT5:=z2w (HT4.out.setRow' (k:=w.heap.size) (by omega) (Fm.c x))
    clear hs0 HM HRH HV
    go_wp2_with (first|(refine zg rfl _ rfl rfl HRx.out ?_)|(refine qe (x:=x) rfl _ _ rfl rfl rfl HX4.out ?_)|(refine qf rfl _ _ rfl rfl (show _=Value.agg (ftc 0 0) by rw[hftc];rfl) HT5.out ?_))
    refine bodyPost_ret (zck rfl _ _ w.heap.size (w.heap.size+1) x 0 0 rfl ((HX4.out.setRow _).setRow' (by omega) _) rfl (HT5.out.setRow _)) rfl ?_
    obtain⟨h1,h2⟩:=HZ0.out
    obtain⟨h3,h4⟩:=HS4.out
    refine⟨x,by rw[h1,h2],?_,zd (zd HB4.out _ _ (Nat.le_refl _)) _ _ (by omega)⟩
    exact((HM0.out.setRow (by omega) _).setRow (by omega) _).mono (by omega)
   ·have HF:=z2w (HRH.out.1 hs0)
    have HE4:=z2w hE
    clear HV hE HM HRH HRx hs0
    obtain⟨hk1,hk2⟩:=HS4.out
    clear HS4
    have hof:=λ(W:World) (h1:Row W ge 174 #[.int .u8 (RN.2.1:Int),.int .u32 (RN.2.2:Int)]) (h2:GlobE W)=>Xq h1 h2
    have hg0:ge≠w.heap.size:=λe1=>by
     have h1:=HE4.out
     rw[e1] at h1
     have h2:=(show wc.heap[w.heap.size]?=_ from h1).symm.trans (show wc.heap[w.heap.size]?=_ from HX4.out)
     simp at h2
    go_upto_region 7 with fail
    refine wp_region_held_drew (S:=λw'=>Row w' k 66 (fm0 ty fl st (-1)).c∧True) (by kernel_rfl) ⟨HH4.out,trivial⟩ (λhHeld=>?_)
    refine tkY 0 rfl (qm (by rfl) _ rfl rfl (λ_ hSw=>hSw.1)) ?_
    refine tkH 1 ?_
    refine rdH 2 λK hK=>?_
    go_simp
    go_at_call 111
    refine(hof _ (show Row wc.drew _ _ _ from HE4.out) (show GlobE wc.drew from HG4.out)).mono ?_
    rintro e w6 ⟨rfl,hb6⟩
    have hb6:Below wc.heap.size wc w6:=(Below.refl _ wc).drew.trans hb6
    have HX6:=HX4.out.below hb6 HX4.out.lt
    have HT6:=HT4.out.below hb6 HT4.out.lt
    have HH6:=HH4.out.below hb6 HH4.out.lt
    have HB6:=HB4.out.trans (hb6.mono HB4.out.size)
    refine hK.out _ _ ⟨HH6,trivial⟩ (λhHeld=>?_)
    clear hK K
    try refine ptk ?_
    refine rdH 3 λK hK=>?_
    refine xf (x:=fm0 ty fl st (-1)) (y:=fm0 0 0 0 0) rfl (.tmp 2) (.tmp 44) rfl rfl rfl HX6 ?_
    refine hK.out _ _ ⟨HH6.setRow' (by omega) _,trivial⟩ (λhHeld=>?_)
    clear hK K
    try refine ptk ?_
    refine rdH 4 λK hK=>?_
    refine Xi (s:=RN.2.1) (c:=RN.2.2) (s0:=0) (c0:=0) rfl (.tmp 3) (.tmp 46) rfl rfl (by rw[hftc];rfl) (HT6.setRow' (by omega) _) ?_
    refine hK.out _ _ ⟨(HH6.setRow' (by omega) _).setRow' (by omega) _,trivial⟩ (λhHeld=>?_)
    clear hK K
    try refine ptk ?_
    refine dnH ?_
    go_wp2_with fail
    refine bodyPost_ret (zck rfl _ _ w.heap.size (w.heap.size+1) (fm0 ty fl st (-1)) RN.2.1 RN.2.2 rfl ((HX6.setRow _).setRow' (by omega) _) rfl ((HT6.setRow' (by omega) _).setRow _)) rfl ?_
    exact⟨_,rfl,by rw[HF.out];exact FmIs.hd _ _ _ _ _,zd (zd HB6 _ _ (Nat.le_refl _)) _ _ (by omega)⟩
end
section
theorem Xk(k:Int)(w:World)(h1:1≤k)(h8:k≤8):Calls Tryz.prog 210 #[.int .i64 k] w λe w'=>e=.returned (.bool true)∧w=w':=by
 go_enter Tryz.func210,Tryz.ntmps210
 go_wp2
 go_ret
 exact⟨rfl,rfl⟩
theorem z0j(k:Int)(w:World)(h:¬(1≤k∧k≤8)):Calls Tryz.prog 210 #[.int .i64 k] w λe w'=>e=.returned (.bool false)∧w=w':=by
 by_cases h1:1≤k
 ·have h8:¬k≤8:=λh8=>h ⟨h1,h8⟩
  have h9:decide (k≤8)=false:=by simpa using h8
  clear h
  go_enter Tryz.func210,Tryz.ntmps210
  go_wp2
  go_ret
  exact⟨rfl,rfl⟩
 ·have h9:decide (1≤k)=false:=by simpa using h1
  clear h
  go_enter Tryz.func210,Tryz.ntmps210
  go_wp2
  go_ret
  exact⟨rfl,rfl⟩
theorem zt6{k:Nat}(h1:1≤k)(h8:k≤8){P:Nat→Prop}(a1:P 1)(a2:P 2)(a3:P 3)(a4:P 4)(a5:P 5)(a6:P 6)(a7:P 7)(a8:P 8):P k:=by
 have hk:k=1∨k=2∨k=3∨k=4∨k=5∨k=6∨k=7∨k=8:=by omega
 rcases hk with rfl|rfl|rfl|rfl|rfl|rfl|rfl|rfl<;>assumption
theorem zw7{n:Nat}(h:n<256):bits .and .u8 (n:Int) 127=((n%128:Nat):Int):=by
 rw[show (127:Int)=((127:Nat):Int) from rfl,u8_and_nat n 127 h (by omega),nat_mask7]
theorem zkv{n:Nat}(h:n<128):bits .and .u8 (n:Int) 128=0:=by
 rw[show (128:Int)=((128:Nat):Int) from rfl,u8_and_nat n 128 (by omega) (by omega),nat_bit7]
 omega
theorem zix{n:Nat}(h:¬n<128)(h1:n<256):bits .and .u8 (n:Int) 128=128:=by
 rw[show (128:Int)=((128:Nat):Int) from rfl,u8_and_nat n 128 (by omega) (by omega),nat_bit7]
 omega
theorem zzw{n:Nat}(h:n<128):bits .or .u8 128 (n:Int)=((n+128:Nat):Int):=by
 rw[show (128:Int)=((128:Nat):Int) from rfl,u8_or_nat 128 n (by omega) (by omega)]
 have:=Nat.two_pow_add_eq_or_of_lt (i:=7) (show n<2 ^ 7 by omega) 1
 rw[show 2 ^ 7*1=128 from rfl] at this
 omega
theorem zpf{n:Nat}(h:n<4294967296):bits .and .u32 (n:Int) 127=((n%128:Nat):Int):=by
 rw[show (127:Int)=((127:Nat):Int) from rfl,u32_and_nat n 127 h (by omega),nat_mask7]
theorem z1u{r d i:Nat}(hr:r<2 ^ i)(h:d*2 ^ i<4294967296)(h':r<4294967296):bits .or .u32 (r:Int) ((d*2 ^ i:Nat):Int)=((r+d*2 ^ i:Nat):Int):=by
 rw[u32_or_nat r _ h' h,Nat.or_comm,Nat.mul_comm]
 have:=Nat.two_pow_add_eq_or_of_lt hr d
 omega
theorem zo5{k a:Nat}(h1:1≤k)(h8:k≤8)(ha:a<256):bits .andNot .u8 (a:Int) ((2 ^ k-1:Nat):Int)=(hiN k a:Int):=by
 have hp:=Yq h1 h8
 rw[u8_andNot_nat a _ ha (by omega)]
 unfold hiN
 refine zt6 h1 h8 (P:=λk=>((a &&& (255-(2 ^ k-1)):Nat):Int)=((a / 2 ^ k*2 ^ k:Nat):Int)) ?_ ?_ ?_ ?_ ?_ ?_ ?_ ?_
 ·rw[show 255-(2 ^ 1-1)=254 from rfl,nat_hi8_1];omega
 ·rw[show 255-(2 ^ 2-1)=252 from rfl,nat_hi8_2];omega
 ·rw[show 255-(2 ^ 3-1)=248 from rfl,nat_hi8_3];omega
 ·rw[show 255-(2 ^ 4-1)=240 from rfl,nat_hi8_4];omega
 ·rw[show 255-(2 ^ 5-1)=224 from rfl,nat_hi8_5];omega
 ·rw[show 255-(2 ^ 6-1)=192 from rfl,nat_hi8_6];omega
 ·rw[show 255-(2 ^ 7-1)=128 from rfl,nat_hi8_7];omega
 ·rw[show 255-(2 ^ 8-1)=0 from rfl,Nat.and_zero];omega
theorem zty{k a m:Nat}(h1:1≤k)(h8:k≤8)(ha:a<256)(hm:m≤2 ^ k-1):bits .or .u8 (hiN k a:Int) (m:Int)=((hiN k a+m:Nat):Int):=by
 have hp:=Yq h1 h8
 have hl:=zo2 h1 h8 ha
 rw[u8_or_nat _ m (by omega) (by omega)]
 have:=Nat.two_pow_add_eq_or_of_lt (show m<2 ^ k by omega) (a / 2 ^ k)
 unfold hiN
 rw[Nat.mul_comm,←this]
theorem zms{k b:Nat}(h1:1≤k)(h8:k≤8)(hb:b<256):bits .and .u32 (b:Int) ((2 ^ k-1:Nat):Int)=((b%2 ^ k:Nat):Int):=by
 have hp:=Yq h1 h8
 rw[u32_and_nat b _ (by omega) (by omega),Nat.and_two_pow_sub_one_eq_mod]
theorem zxd{k:IntKind}{a b:Int}(h:a=b):Ending.returned (.int k a)=.returned (.int k b):=by rw[h]
theorem zf1(k:Nat)(w:World)(h1:1≤k)(h8:k≤8):Calls Tryz.prog 211 #[.int .i64 (k:Int)] w λe w'=>e=.returned (.int .u32 ((2 ^ k-1:Nat):Int))∧w=w':=by
 go_enter Tryz.func211,Tryz.ntmps211
 go_wp2
 go_ret
 refine⟨zxd ?_,rfl⟩
 refine zt6 h1 h8 (P:=λk=>(2 ^ (k:Int).toNat%4294967296-1)%4294967296=((2 ^ k-1:Nat):Int)) ?_ ?_ ?_ ?_ ?_ ?_ ?_ ?_<;>decide
end
section
structure Sn where
 st:Nat
 b:List UInt8
 en:Bool
 ov:Bool
 lf:Int
def fd(s:Nat):List Sn→Nat
 |[]=>0
 |x :: L=>if x.st=s then 0 else fd s L+1
theorem ztw(s:Nat):∀L:List Sn,fd s L≤L.length
 |[]=>Nat.le_refl _
 |x :: L=>by
  unfold fd
  split
  ·omega
  ·have:=ztw s L
   simp only[List.length_cons];omega
theorem zha{s:Nat}:∀{L:List Sn} {k:Nat} (hk:k<L.length),k≤fd s L→L[k].st=s→fd s L=k
 |x :: L,0,_,_,h=>by
  have h':x.st=s:=h
  unfold fd;rw[if_pos h']
 |x :: L,k+1,hk,hle,h=>by
  unfold fd at hle ⊢
  split at hle
  ·omega
  ·rename_i hx
   rw[if_neg hx,zha (L:=L) (k:=k) (by simpa using hk) (by omega) h]
theorem zkb{s:Nat}:∀{L:List Sn} {k:Nat} (hk:k<L.length),k≤fd s L→L[k].st≠s→k+1≤fd s L
 |x :: L,0,_,_,h=>by
  have h':¬x.st=s:=h
  unfold fd;rw[if_neg h'];omega
 |x :: L,k+1,hk,hle,h=>by
  unfold fd at hle ⊢
  split at hle
  ·omega
  ·rename_i hx
   rw[if_neg hx]
   have:=zkb (L:=L) (k:=k) (by simpa using hk) (by omega) h
   omega
theorem zt2{s:Nat}:∀{L:List Sn} (h:fd s L<L.length),L[fd s L].st=s
 |x :: L,h=>by
  by_cases hx:x.st=s
  ·have e:fd s (x :: L)=0:=by rw[fd,if_pos hx]
   simp only[e];exact hx
  ·have e:fd s (x :: L)=fd s L+1:=by rw[fd,if_neg hx]
   simp only[e] at h ⊢
   exact zt2 (by simpa using h)
def can(l:Int)(x:Sn):Bool:=if x.b=[] then x.en&&!x.ov else decide (0<x.lf)&&decide (0<l)
end
end Go.Proofs.YtooaajnkiokpnaaGreatDoor
