/-
  Part of a proof: Plain: a number behind k bits as a list of bytes, and what bytes are read as. No program, no memory. Conditions: those that each theorem names.
-/
import Derived.Test.YtooaajnkiokpnaaGreatDoorQ01
import Derived.Test.YtooaajnkiokpnaaGreatDoorQ09
import Derived.WalkKit
namespace Go.Proofs.YtooaajnkiokpnaaGreatDoor
open Go.RowKit Go.WideShapes
set_option maxHeartbeats 4000000
set_option maxRecDepth 100000
section
theorem Fm.one(x:Fm):x.c.all (·.oneCell')=true:=by unfold Fm.c;kernel_rfl
section
variable {w:World}{g:Nat}{x y:Fm}
theorem qe{ops:Array Oper}{rest:List Oper}{o:Oper}{a:Act}{w:World}{Q:Exit→Act→World→Prop}(hgd:o.guard=none)(p q:Operand)(ho:o.op=.store 66 p q){g:Nat}(hp:a.eval p=.pointer (some ⟨g,0,none⟩)){x y:Fm}(hq:a.eval q=.agg x.c)(h:Row w g 66 y.c)
  (hk:wpList Tryz.prog ops Q rest (a.put o.dst undef) (w.setRow g x.c)):wpList Tryz.prog ops Q (o :: rest) a w:=
 wpList_store_row hgd 66 p q ho g x.c hp hq 66 y.c h (Fm.size x) rfl (Fm.one x) hk
theorem xf{ops:Array Oper}{o:Oper}{a:Act}{w:World}{K:Act→World→Prop}{Q:Exit→Act→World→Prop}{E:Prop}(hgd:o.guard=none)(p q:Operand)(ho:o.op=.store 66 p q){g:Nat}(hp:a.eval p=.pointer (some ⟨g,0,none⟩)){x y:Fm}(hq:a.eval q=.agg x.c)(h:Row w g 66 y.c)
  (hk:K (a.put o.dst undef) (w.setRow g x.c)):if Region.wanted o (yielded ops a.tmps)=true then Oper.wp Tryz.prog o a w K Q else E:=by
 have hw:Region.wanted o (yielded ops a.tmps)=true:=by simp[Region.wanted,hgd]
 rw[if_pos hw]
 exact wp_store_row 66 p q ho g x.c hp hq 66 y.c h (Fm.size x) rfl (Fm.one x) hk
theorem Vg{fn:Func}{p q:Tmp}(h:fn.results=#[.cell p 66,.tmp q])(tmps:Array Value)(w:World)(g:Nat)(x:Fm)(v:Value)(hp:tmps.getD p undef=.pointer (some ⟨g,0,none⟩))(hR:Row w g 66 x.c)(hq:tmps.getD q undef=v) :
  (results fn tmps).run Tryz.prog w=.ok (.tuple #[.agg x.c,v]) w:=by
 have hl:=run_loadVar_row (P:=Tryz.prog) w g 66 66 x.c (0,0) _ hR Tryz.underlying66 rfl (Fm.size x)
 have hp':tmps[p]?.getD undef=.pointer (some ⟨g,0,none⟩):=by simpa using hp
 have hq':tmps[q]?.getD undef=v:=by simpa using hq
 simp only[results,h]
 simp[hp',hq',asAddr,hl]
end
theorem FmIs.mono{w:World}{base base':Nat}{x:Fm}{F:Frm}(h:FmIs w base x F)(hb:base'≤base):FmIs w base' x F:=⟨h.eq,OwS.mono h.dat hb,OwS.mono h.sets hb⟩
theorem FmIs.below{w w':World}{base:Nat}{x:Fm}{F:Frm}(h:FmIs w base x F)(hb:Below w.heap.size w w'):FmIs w' base x F:=⟨h.eq,OwS.below h.dat hb,OwS.below h.sets hb⟩
theorem FmIs.setRow{w:World}{base g:Nat}{x:Fm}{F:Frm}(h:FmIs w base x F)(hg:g<base)(c:Array Value):FmIs (w.setRow g c) base x F:=
 ⟨h.eq,OwS.setRow h.dat (λe=>by have:=(OwS.lt h.dat g e).1;omega) c,OwS.setRow h.sets (λe=>by have:=(OwS.lt h.sets g e).1;omega) c⟩
theorem FmIs.keep{w w':World}{base:Nat}{x:Fm}{F:Frm}(h:FmIs w base x F)(hk:∀k,base≤k→k<w.heap.size→w'.heap[k]?=w.heap[k]?):FmIs w' base x F:=
 ⟨h.eq,OwS.keep h.dat λk hk'=>hk k (OwS.lt h.dat k hk').1 (OwS.lt h.dat k hk').2,OwS.keep h.sets λk hk'=>hk k (OwS.lt h.sets k hk').1 (OwS.lt h.sets k hk').2⟩
def zqr(w:World)(r:Frm × Nat × Nat)(e:Ending)(w':World):Prop:=
 ∃(x:Fm) (v:Value),e=.returned (.tuple #[.agg x.c,v])∧EV w' v r.2.1 r.2.2∧(r.2.1=0→FmIs w' w.heap.size x r.1)∧Below w.heap.size w w'
theorem EV.keep{w w':World}{v:Value}{s c:Nat}(h:EV w v s c)(hk:∀k,v=.iface 172 (.pointer (some ⟨k,0,none⟩))→w'.heap[k]?=w.heap[k]?):EV w' v s c:=by
 rcases h with h|⟨h1,g,rfl,h2⟩
 ·exact .inl h
 ·exact .inr ⟨h1,g,rfl,(hk g rfl).trans h2⟩
theorem EV.keep'{w:World}{v:Value}{s c g:Nat}(h:EV w v s c){x y:Fm}(hR:Row w g 66 y.c):EV (w.setRow g x.c) v s c:=by
 rcases h with h|⟨h1,ge,rfl,h2⟩
 ·exact .inl h
 ·refine .inr ⟨h1,ge,rfl,h2.setRow' (λe1=>?_) _⟩
  rw[e1] at h2
  have h3:=(show w.heap[g]?=_ from h2).symm.trans (show w.heap[g]?=_ from hR)
  simp at h3
theorem zra{ty fl:Nat}{s r:List UInt8}{p:Int}(h:Zk ty fl s=.ok (p,r)):r.length≤s.length:=by
 unfold Zk at h
 split at h
 ·cases s with
  |nil=>cases h
  |cons a t=>
   simp only at h
   split at h
   ·cases h
   ·injection h with h
    injection h with h1 h2
    rw[←h2,List.length_take,List.length_cons]
    omega
 ·injection h with h
  injection h with h1 h2
  rw[h2]
  exact Nat.le_refl _
attribute [local irreducible] Fm.c
theorem zqe{ty fl st:Nat}(hf:fl<256){A:Option Addr}{c:Nat}{s:List UInt8}{w:World}(hr:RdB w w.heap.size A s)(hc:s.length≤c)(hs:s.length≤100000) :
  Calls Tryz.prog 163 #[.agg (fm0 ty fl st (-1)).c,.slice A s.length c] w (zqr w (jt ty fl st s)):=by
 have hzc:(fm0 0 0 0 0).c=z2x:=by unfold Fm.c;rfl
 have HX:Hid (Row ((w.alloc (.cells (fm0 ty fl st (-1)).c 66)).alloc (.cells z2x 66)) w.heap.size 66 (fm0 ty fl st (-1)).c):=(Row.new w _ _).alloc _
 have HZ:Hid (Row ((w.alloc (.cells (fm0 ty fl st (-1)).c 66)).alloc (.cells z2x 66)) (w.heap.size+1) 66 (fm0 0 0 0 0).c):=by show Row _ _ _ _;rw[hzc];exact Row.made _ _ _ (by simp)
 have HB:Hid (Below w.heap.size w ((w.alloc (.cells (fm0 ty fl st (-1)).c 66)).alloc (.cells z2x 66))):=((Below.refl _ _).alloc (Nat.le_refl _) _).alloc (by simp) _
 have HRd:=z2w hr
 have hms:=zfo (fm0 ty fl st (-1))
 clear hr hzc
 by_cases h1:16384<s.length
 ·have hE:jt ty fl st s=(hdN ty fl st,1,6):=by unfold jt;rw[if_pos h1]
  rw[hE]
  have h1':(16384:Int)<(s.length:Int):=by omega
  clear hE hms
  go_enter Tryz.func163,Tryz.ntmps163
  go_wp2_with fail
  generalize ((w.alloc (.cells (fm0 ty fl st (-1)).c 66)).alloc (.cells z2x 66))=w0 at *
  refine wp_region_held_drew (S:=λw'=>Row w' w.heap.size 66 (fm0 ty fl st (-1)).c∧True) (by kernel_rfl) ⟨HX.out,trivial⟩ (λhHeld=>?_)
  refine tkY 0 rfl (qm (by rfl) _ rfl rfl (λ_ hSw=>hSw.1)) ?_
  refine rdH 1 λK hK=>?_
  go_simp
  go_at_call 102
  refine(qw _ _).mono ?_
  rintro e w5 ⟨ge,rfl,hE5,hb5⟩
  have HX5:=z2w ((show Row w0.drew _ _ _ from HX.out).below hb5 HX.out.lt)
  have HZ5:=z2w ((show Row w0.drew _ _ _ from HZ.out).below hb5 HZ.out.lt)
  have HB5:=z2w ((HB.out.drew).trans (hb5.mono HB.out.size))
  have hge:ge≠w.heap.size+1:=λe1=>by
   have h1:=hE5
   rw[e1] at h1
   have h2:=(show w5.heap[w.heap.size+1]?=_ from h1).symm.trans (show w5.heap[w.heap.size+1]?=_ from HZ5.out)
   simp at h2
  have HE5:=z2w hE5
  refine hK.out _ _ ⟨HX5.out,trivial⟩ (λhHeld=>?_)
  clear hK K hb5 hE5 hHeld
  try refine ptk ?_
  refine rdH 2 λK hK=>?_
  refine xf rfl (.tmp 4) (.tmp 10) rfl rfl rfl HZ5.out ?_
  have HX6:=z2w (HX5.out.setRow' (k:=w.heap.size+1) (by omega) (fm0 ty fl st (-1)).c)
  have HZ6:=z2w (HZ5.out.setRow (fm0 ty fl st (-1)).c)
  have HE6:=z2w (HE5.out.setRow' (k:=w.heap.size+1) hge (fm0 ty fl st (-1)).c)
  have HB6:=z2w (zd HB5.out (w.heap.size+1) (fm0 ty fl st (-1)).c (by omega))
  refine hK.out _ _ ⟨HX6.out,trivial⟩ (λhHeld=>?_)
  clear hK K hHeld HX5 HZ5 HE5 HB5
  generalize w5.setRow (w.heap.size+1) (fm0 ty fl st (-1)).c=w6 at *
  have hHeld:Row w6 w.heap.size 66 (fm0 ty fl st (-1)).c∧True:=⟨HX6.out,trivial⟩
  try refine ptk ?_
  refine tkH 3 ?_
  refine dnH ?_
  go_wp2_with fail
  exact bodyPost_ret (Vg rfl _ _ (w.heap.size+1) _ _ rfl HZ6.out rfl) rfl ⟨_,_,rfl,.inr ⟨by simp,ge,rfl,HE6.out⟩,λh=>by simp at h,HB6.out⟩
 have h1':decide ((16384:Int)<(s.length:Int))=false:=by simp;omega
 by_cases h2:yu ty st=true
 ·have hE:jt ty fl st s=(hdN ty fl st,1,1):=by unfold jt;rw[if_neg h1,if_pos h2]
  rw[hE]
  rw[show xq (fm0 ty fl st (-1)).ty (fm0 ty fl st (-1)).st=false by show (!yu ty st)=false;rw[h2];rfl] at hms
  clear hE h2
  go_enter Tryz.func163,Tryz.ntmps163
  go_wp2_with (refine zg rfl _ rfl rfl HX.out ?_)
  generalize ((w.alloc (.cells (fm0 ty fl st (-1)).c 66)).alloc (.cells z2x 66))=w0 at *
  refine(hms _).mono ?_
  rintro e w1 ⟨rfl,hb1⟩
  have HX1:=z2w (HX.out.below hb1 HX.out.lt)
  have HZ1:=z2w (HZ.out.below hb1 HZ.out.lt)
  have HB1:=z2w (HB.out.trans (hb1.mono HB.out.size))
  clear hb1 hms HX HZ HB
  go_wp2_with fail
  refine wp_region_held_drew (S:=λw'=>Row w' w.heap.size 66 (fm0 ty fl st (-1)).c∧True) (by kernel_rfl) ⟨HX1.out,trivial⟩ (λhHeld=>?_)
  refine tkY 0 rfl (qm (by rfl) _ rfl rfl (λ_ hSw=>hSw.1)) ?_
  refine rdH 1 λK hK=>?_
  go_simp
  go_at_call 102
  refine(qw _ _).mono ?_
  rintro e w5 ⟨ge,rfl,hE5,hb5⟩
  have HX5:=z2w ((show Row w1.drew _ _ _ from HX1.out).below hb5 HX1.out.lt)
  have HZ5:=z2w ((show Row w1.drew _ _ _ from HZ1.out).below hb5 HZ1.out.lt)
  have HB5:=z2w ((HB1.out.drew).trans (hb5.mono HB1.out.size))
  have hge:ge≠w.heap.size+1:=λe1=>by
   have h1:=hE5
   rw[e1] at h1
   have h2:=(show w5.heap[w.heap.size+1]?=_ from h1).symm.trans (show w5.heap[w.heap.size+1]?=_ from HZ5.out)
   simp at h2
  have HE5:=z2w hE5
  refine hK.out _ _ ⟨HX5.out,trivial⟩ (λhHeld=>?_)
  clear hK K hb5 hE5 hHeld
  try refine ptk ?_
  refine rdH 2 λK hK=>?_
  refine xf rfl (.tmp 4) (.tmp 15) rfl rfl rfl HZ5.out ?_
  have HX6:=z2w (HX5.out.setRow' (k:=w.heap.size+1) (by omega) (fm0 ty fl st (-1)).c)
  have HZ6:=z2w (HZ5.out.setRow (fm0 ty fl st (-1)).c)
  have HE6:=z2w (HE5.out.setRow' (k:=w.heap.size+1) hge (fm0 ty fl st (-1)).c)
  have HB6:=z2w (zd HB5.out (w.heap.size+1) (fm0 ty fl st (-1)).c (by omega))
  refine hK.out _ _ ⟨HX6.out,trivial⟩ (λhHeld=>?_)
  clear hK K hHeld HX5 HZ5 HE5 HB5
  generalize w5.setRow (w.heap.size+1) (fm0 ty fl st (-1)).c=w6 at *
  have hHeld:Row w6 w.heap.size 66 (fm0 ty fl st (-1)).c∧True:=⟨HX6.out,trivial⟩
  try refine ptk ?_
  refine tkH 3 ?_
  refine dnH ?_
  go_wp2_with fail
  exact bodyPost_ret (Vg rfl _ _ (w.heap.size+1) _ _ rfl HZ6.out rfl) rfl ⟨_,_,rfl,.inr ⟨by simp,ge,rfl,HE6.out⟩,λh=>by simp at h,HB6.out⟩
 rw[show xq (fm0 ty fl st (-1)).ty (fm0 ty fl st (-1)).st=true by show (!yu ty st)=true;rw[Bool.eq_false_iff.2 h2];rfl] at hms
 cases hpd:Zk ty fl s with
 |error cd=>
  have hE:jt ty fl st s=(hdN ty fl st,1,cd):=by unfold jt;rw[if_neg h1,if_neg h2,hpd]
  rw[hE]
  have hgp:=λ(W:World) (h3:Row W w.heap.size 66 (fm0 ty fl st (-1)).c) (h4:RdB W w.heap.size A s) (h5:w.heap.size≤W.heap.size)=>Yr (x:=fm0 ty fl st (-1)) h3 hf rfl h4 h5 (Nat.le_refl _) hc (by omega)
  unfold zad at hgp
  rw[show Zk (fm0 ty fl st (-1)).ty (fm0 ty fl st (-1)).fl s=.error cd from hpd] at hgp
  simp only at hgp
  clear hE h2 hpd h1
  go_enter Tryz.func163,Tryz.ntmps163
  go_wp2_with (refine zg rfl _ rfl rfl HX.out ?_)
  generalize ((w.alloc (.cells (fm0 ty fl st (-1)).c 66)).alloc (.cells z2x 66))=w0 at *
  refine(hms _).mono ?_
  rintro e w1 ⟨rfl,hb1⟩
  have HX1:=z2w (HX.out.below hb1 HX.out.lt)
  have HZ1:=z2w (HZ.out.below hb1 HZ.out.lt)
  have HB1:=z2w (HB.out.trans (hb1.mono HB.out.size))
  clear hb1 hms HX HZ HB
  go_wp2_with fail
  refine(hgp w1 HX1.out (HRd.out.below HB1.out) HB1.out.size).mono ?_
  rintro e w2 ⟨⟨ge,rfl,hE2⟩,hR2,hF2⟩
  have HX2:=z2w hR2
  have HZ2:=z2w (hF2.row (by omega) HZ1.out)
  have HB2:=z2w (HB1.out.trans (hF2.below (λk hk _=>by omega) HB1.out.size))
  have HE2:=z2w hE2
  have hge:ge≠w.heap.size+1:=λe1=>by
   have h1:=hE2
   rw[e1] at h1
   have h2:=(show w2.heap[w.heap.size+1]?=_ from h1).symm.trans (show w2.heap[w.heap.size+1]?=_ from HZ2.out)
   simp at h2
  clear hE2 hR2 hF2 hgp HX1 HZ1 HB1
  go_wp2_with (first|(refine zg rfl _ rfl rfl HX2.out ?_)|(refine qe rfl _ _ rfl rfl rfl HZ2.out ?_))
  exact bodyPost_ret (Vg rfl _ _ (w.heap.size+1) (fm0 ty fl st (-1)) _ rfl (HZ2.out.setRow _) rfl) rfl ⟨_,_,rfl,.inr ⟨by simp,ge,rfl,HE2.out.setRow' hge _⟩,λh=>by simp at h,zd HB2.out _ _ (by omega)⟩
 |ok pr=>
  obtain⟨pad,r⟩:=pr
  have hgp:=λ(W:World) (h3:Row W w.heap.size 66 (fm0 ty fl st (-1)).c) (h4:RdB W w.heap.size A s) (h5:w.heap.size≤W.heap.size)=>Yr (x:=fm0 ty fl st (-1)) h3 hf rfl h4 h5 (Nat.le_refl _) hc (by omega)
  unfold zad at hgp
  rw[show Zk (fm0 ty fl st (-1)).ty (fm0 ty fl st (-1)).fl s=.ok (pad,r) from hpd] at hgp
  simp only at hgp
  rw[show ({ fm0 ty fl st (-1) with pad:=pad }:Fm)=fm0 ty fl st pad from rfl] at hgp
  have hrl:r.length≤s.length:=zra hpd
  have hcl:=zc6 (fm0 ty fl st pad) hf r.length (by omega)
  cases hlb:Yf ty fl r.length with
  |false=>
   have hE:jt ty fl st s=(hdN ty fl st,if ty=2 then 2 else 1,6):=by unfold jt;rw[if_neg h1,if_neg h2,hpd];simp only;rw[if_pos hlb]
   rw[hE]
   rw[show Yy (fm0 ty fl st pad).ty (fm0 ty fl st pad).fl r.length=(if ty=2 then 2 else 1) by unfold Yy;rw[if_neg (by rw[show (fm0 ty fl st pad).ty=ty from rfl,show (fm0 ty fl st pad).fl=fl from rfl,hlb];simp)];rfl] at hcl
   obtain⟨sc,hsc⟩:∃sc:Nat,sc=if ty=2 then 2 else 1:=⟨_,rfl⟩
   have hsc0:sc≠0:=by rw[hsc];split<;>omega
   rw[←hsc] at hcl ⊢
   clear hE h2 hpd h1 hlb hsc
   go_enter Tryz.func163,Tryz.ntmps163
   go_wp2_with (refine zg rfl _ rfl rfl HX.out ?_)
   generalize ((w.alloc (.cells (fm0 ty fl st (-1)).c 66)).alloc (.cells z2x 66))=w0 at *
   refine(hms _).mono ?_
   rintro e w1 ⟨rfl,hb1⟩
   have HX1:=z2w (HX.out.below hb1 HX.out.lt)
   have HZ1:=z2w (HZ.out.below hb1 HZ.out.lt)
   have HB1:=z2w (HB.out.trans (hb1.mono HB.out.size))
   clear hb1 hms HX HZ HB
   go_wp2_with fail
   refine(hgp w1 HX1.out (HRd.out.below HB1.out) HB1.out.size).mono ?_
   rintro e w2 ⟨⟨A2,c2,rfl,hc2,hRd2⟩,hR2,hF2⟩
   have HX2:=z2w hR2
   have HZ2:=z2w (hF2.row (by omega) HZ1.out)
   have HB2:=z2w (HB1.out.trans (hF2.below (λk hk _=>by omega) HB1.out.size))
   clear hR2 hF2 hgp HX1 HZ1 HB1 hRd2
   go_wp2_with (refine zg rfl _ rfl rfl HX2.out ?_)
   refine(hcl _).mono ?_
   rintro e w3 ⟨⟨v3,rfl,hv3⟩,hb3⟩
   rcases hv3 with ⟨_,h0⟩|⟨_,ge,rfl,hE3⟩
   ·exact absurd h0 hsc0
   ·have HX3:=z2w (HX2.out.below hb3 HX2.out.lt)
    have HZ3:=z2w (HZ2.out.below hb3 HZ2.out.lt)
    have HB3:=z2w (HB2.out.trans (hb3.mono HB2.out.size))
    have HE3:=z2w hE3
    have hge:ge≠w.heap.size+1:=λe1=>by
     have h1:=hE3
     rw[e1] at h1
     have h2:=(show w3.heap[w.heap.size+1]?=_ from h1).symm.trans (show w3.heap[w.heap.size+1]?=_ from HZ3.out)
     simp at h2
    clear hb3 hE3 hcl HX2 HZ2 HB2
    go_wp2_with (first|(refine zg rfl _ rfl rfl HX3.out ?_)|(refine qe rfl _ _ rfl rfl rfl HZ3.out ?_))
    exact bodyPost_ret (Vg rfl _ _ (w.heap.size+1) (fm0 ty fl st pad) _ rfl (HZ3.out.setRow _) rfl) rfl ⟨_,_,rfl,.inr ⟨hsc0,ge,rfl,HE3.out.setRow' hge _⟩,λh=>absurd h hsc0,zd HB3.out _ _ (by omega)⟩
  |true=>
   have hL:jb ty fl r.length:=of_decide_eq_true hlb
   rw[show Yy (fm0 ty fl st pad).ty (fm0 ty fl st pad).fl r.length=0 from if_pos hlb] at hcl
   have hgf:=λ(W:World) (A2:Option Addr) (c2:Nat) (h3:Row W w.heap.size 66 (fm0 ty fl st pad).c) (h4:RdB W w.heap.size A2 r) (h5:w.heap.size≤W.heap.size) (h6:r.length≤c2)=>zfk (pad:=pad) h3 hf h4 h5 (Nat.le_refl _) h6 (by omega) hL
   have hhd:=zkt ty fl st pad r
   have hRd:∃G s0 c0,jt ty fl st s=(G,s0,c0)∧s0=j7 ty st (q9 ty fl st pad r).win∧(s0=0→G=q9 ty fl st pad r∧c0=0)∧(s0≠0→c0=1):=by
    by_cases hg:j7 ty st (q9 ty fl st pad r).win=0
    ·exact⟨_,_,_,by unfold jt;rw[if_neg h1,if_neg h2,hpd];simp only;rw[if_neg (by rw[hlb];simp),if_pos hg],hg.symm,λ_=>⟨rfl,rfl⟩,λh=>absurd rfl h⟩
    ·exact⟨_,_,_,by unfold jt;rw[if_neg h1,if_neg h2,hpd];simp only;rw[if_neg (by rw[hlb];simp),if_neg hg],rfl,λh=>absurd h hg,λ_=>rfl⟩
   obtain⟨G,s0,c0,hE,hs0,hG0,hG1⟩:=hRd
   rw[hE]
   obtain⟨F,hF⟩:∃F,F=q9 ty fl st pad r:=⟨_,rfl⟩
   rw[←hF] at hgf hhd hs0 hG0
   obtain⟨hF1,hF2,hF3,hF4⟩:=hhd
   have HS0:=z2w hs0
   have HG0:=z2w hG0
   have HG1:=z2w hG1
   have HF1:=z2w hF1
   have HF3:=z2w hF3
   clear hE h2 hpd h1 hlb hL hs0 hG0 hG1 hF1 hF2 hF3 hF4 hF
   go_enter Tryz.func163,Tryz.ntmps163
   go_wp2_with (refine zg rfl _ rfl rfl HX.out ?_)
   generalize ((w.alloc (.cells (fm0 ty fl st (-1)).c 66)).alloc (.cells z2x 66))=w0 at *
   refine(hms _).mono ?_
   rintro e w1 ⟨rfl,hb1⟩
   have HX1:=z2w (HX.out.below hb1 HX.out.lt)
   have HZ1:=z2w (HZ.out.below hb1 HZ.out.lt)
   have HB1:=z2w (HB.out.trans (hb1.mono HB.out.size))
   clear hb1 hms HX HZ HB
   go_wp2_with fail
   refine(hgp w1 HX1.out (HRd.out.below HB1.out) HB1.out.size).mono ?_
   rintro e w2 ⟨⟨A2,c2,rfl,hc2,hRd2⟩,hR2,hF2⟩
   have HX2:=z2w hR2
   have HZ2:=z2w (hF2.row (by omega) HZ1.out)
   have HB2:=z2w (HB1.out.trans (hF2.below (λk hk _=>by omega) HB1.out.size))
   have HRd2:=z2w hRd2
   clear hR2 hF2 hgp HX1 HZ1 HB1 hRd2
   go_wp2_with (refine zg rfl _ rfl rfl HX2.out ?_)
   refine(hcl _).mono ?_
   rintro e w3 ⟨⟨v3,rfl,hv3⟩,hb3⟩
   rcases hv3 with ⟨rfl,_⟩|⟨h0,_⟩
   ·have HX3:=z2w (HX2.out.below hb3 HX2.out.lt)
    have HZ3:=z2w (HZ2.out.below hb3 HZ2.out.lt)
    have HB3:=z2w (HB2.out.trans (hb3.mono HB2.out.size))
    have HRd3:=z2w (HRd2.out.below (hb3.mono HB2.out.size))
    clear hb3 hcl HX2 HZ2 HB2 HRd2
    go_wp2_with fail
    refine(hgf w3 A2 c2 HX3.out HRd3.out HB3.out.size hc2).mono ?_
    rintro e w4 ⟨rfl,x4,hR4,hM4,hF4⟩
    have hz3:w.heap.size+1<w3.heap.size:=HZ3.out.lt
    have HX4:=z2w hR4
    have HZ4:=z2w (hF4.row (by omega) HZ3.out)
    have HB4:=z2w (HB3.out.trans (hF4.below (λk hk _=>by omega) HB3.out.size))
    have HM4:=z2w (FmIs.mono hM4 (show w.heap.size+2≤w3.heap.size by omega))
    have hcg:=zc2 x4
    have hx:x4.ty=ty∧x4.st=st∧x4.win=F.win:=by rw[hM4.eq];exact⟨HF1.out,HF3.out,rfl⟩
    rw[hx.1,hx.2.1,hx.2.2,←HS0.out] at hcg
    clear hR4 hM4 hF4 hgf HX3 HZ3 HB3 HRd3 hz3 hx
    go_wp2_with fail
    refine wp_region_held_drew (S:=λw'=>Row w' w.heap.size 66 x4.c∧True) (by kernel_rfl) ⟨HX4.out,trivial⟩ (λhHeld=>?_)
    refine tkY 0 rfl (qm (by rfl) _ rfl rfl (λ_ hSw=>hSw.1)) ?_
    refine tkY 1 rfl (qm (by rfl) _ rfl rfl (λ_ hSw=>hSw.1)) ?_
    refine rdH 2 λK hK=>?_
    go_simp
    go_at_call 194
    refine(hcg _).mono ?_
    rintro e w5 ⟨⟨v5,rfl,hv5⟩,hb5⟩
    have HX5:=z2w ((show Row w4.drew _ _ _ from HX4.out).below hb5 HX4.out.lt)
    have HZ5:=z2w ((show Row w4.drew _ _ _ from HZ4.out).below hb5 HZ4.out.lt)
    have HB5:=z2w ((HB4.out.drew).trans (hb5.mono HB4.out.size))
    have HM5:=z2w (HM4.out.below (w':=w5) ((Below.refl _ w4).drew.trans hb5))
    have HV5:=z2w hv5
    refine hK.out _ _ ⟨HX5.out,trivial⟩ (λhHeld=>?_)
    clear hK K hb5 hHeld hcg HX4 HZ4 HB4 HM4 hv5
    try refine ptk ?_
    refine rdH 3 λK hK=>?_
    refine xf rfl (.tmp 4) (.tmp 36) rfl rfl rfl HZ5.out ?_
    have HX6:=z2w (HX5.out.setRow' (k:=w.heap.size+1) (by omega) x4.c)
    have HZ6:=z2w (HZ5.out.setRow x4.c)
    have HV6:Hid (EV (w5.setRow (w.heap.size+1) x4.c) v5 s0 1):=HV5.out.keep' HZ5.out
    have HM6:=z2w (HM5.out.setRow (g:=w.heap.size+1) (by omega) x4.c)
    have HB6:=z2w (zd HB5.out (w.heap.size+1) x4.c (by omega))
    refine hK.out _ _ ⟨HX6.out,trivial⟩ (λhHeld=>?_)
    clear hK K hHeld HX5 HZ5 HV5 HB5 HM5
    generalize w5.setRow (w.heap.size+1) x4.c=w6 at *
    have hHeld:Row w6 w.heap.size 66 x4.c∧True:=⟨HX6.out,trivial⟩
    try refine ptk ?_
    refine tkH 4 ?_
    refine dnH ?_
    go_wp2_with fail
    refine bodyPost_ret (Vg rfl _ _ (w.heap.size+1) _ _ rfl HZ6.out rfl) rfl ⟨x4,v5,rfl,?_,λh=>?_,HB6.out⟩
    ·by_cases hs:s0=0
     ·have:=HV6.out
      rcases this with h|⟨h,_⟩
      ·exact .inl h
      ·exact absurd hs h
     ·rw[show (G,s0,c0).2.2=1 from HG1.out hs]
      exact HV6.out
    ·rw[show (G,s0,c0).1=F from (HG0.out h).1]
     exact HM6.out.mono (by omega)
   ·exact absurd rfl h0
end
section
def tab:List (List UInt8 × List UInt8):=
 [([58,97,117,116,104,111,114,105,116,121],[]),([58,109,101,116,104,111,100],[71,69,84]),([58,109,101,116,104,111,100],[80,79,83,84]),([58,112,97,116,104],[47])] ++
 [([58,112,97,116,104],[47,105,110,100,101,120,46,104,116,109,108]),([58,115,99,104,101,109,101],[104,116,116,112]),([58,115,99,104,101,109,101],[104,116,116,112,115]),([58,115,116,97,116,117,115],[50,48,48])] ++
 [([58,115,116,97,116,117,115],[50,48,52]),([58,115,116,97,116,117,115],[50,48,54]),([58,115,116,97,116,117,115],[51,48,52]),([58,115,116,97,116,117,115],[52,48,48])] ++
 [([58,115,116,97,116,117,115],[52,48,52]),([58,115,116,97,116,117,115],[53,48,48]),([97,99,99,101,112,116,45,99,104,97,114,115,101,116],[]),([97,99,99,101,112,116,45,101,110,99,111,100,105,110,103],[103,122,105,112,44,32,100,101,102,108,97,116,101])] ++
 [([97,99,99,101,112,116,45,108,97,110,103,117,97,103,101],[]),([97,99,99,101,112,116,45,114,97,110,103,101,115],[]),([97,99,99,101,112,116],[]),([97,99,99,101,115,115,45,99,111,110,116,114,111,108,45,97,108,108,111,119,45,111,114,105,103,105,110],[])] ++
 [([97,103,101],[]),([97,108,108,111,119],[]),([97,117,116,104,111,114,105,122,97,116,105,111,110],[]),([99,97,99,104,101,45,99,111,110,116,114,111,108],[])] ++
 [([99,111,110,116,101,110,116,45,100,105,115,112,111,115,105,116,105,111,110],[]),([99,111,110,116,101,110,116,45,101,110,99,111,100,105,110,103],[]),([99,111,110,116,101,110,116,45,108,97,110,103,117,97,103,101],[]),([99,111,110,116,101,110,116,45,108,101,110,103,116,104],[])] ++
 [([99,111,110,116,101,110,116,45,108,111,99,97,116,105,111,110],[]),([99,111,110,116,101,110,116,45,114,97,110,103,101],[]),([99,111,110,116,101,110,116,45,116,121,112,101],[]),([99,111,111,107,105,101],[])] ++
 [([100,97,116,101],[]),([101,116,97,103],[]),([101,120,112,101,99,116],[]),([101,120,112,105,114,101,115],[])] ++
 [([102,114,111,109],[]),([104,111,115,116],[]),([105,102,45,109,97,116,99,104],[]),([105,102,45,109,111,100,105,102,105,101,100,45,115,105,110,99,101],[])] ++
 [([105,102,45,110,111,110,101,45,109,97,116,99,104],[]),([105,102,45,114,97,110,103,101],[]),([105,102,45,117,110,109,111,100,105,102,105,101,100,45,115,105,110,99,101],[]),([108,97,115,116,45,109,111,100,105,102,105,101,100],[])] ++
 [([108,105,110,107],[]),([108,111,99,97,116,105,111,110],[]),([109,97,120,45,102,111,114,119,97,114,100,115],[]),([112,114,111,120,121,45,97,117,116,104,101,110,116,105,99,97,116,101],[])] ++
 [([112,114,111,120,121,45,97,117,116,104,111,114,105,122,97,116,105,111,110],[]),([114,97,110,103,101],[]),([114,101,102,101,114,101,114],[]),([114,101,102,114,101,115,104],[])] ++
 [([114,101,116,114,121,45,97,102,116,101,114],[]),([115,101,114,118,101,114],[]),([115,101,116,45,99,111,111,107,105,101],[]),([115,116,114,105,99,116,45,116,114,97,110,115,112,111,114,116,45,115,101,99,117,114,105,116,121],[])] ++
 [([116,114,97,110,115,102,101,114,45,101,110,99,111,100,105,110,103],[]),([117,115,101,114,45,97,103,101,110,116],[]),([118,97,114,121],[]),([118,105,97],[])] ++
 [([119,119,119,45,97,117,116,104,101,110,116,105,99,97,116,101],[])]
def nmL(j:Nat):List UInt8:=(tab.getD j ([],[])).1
def vlL(j:Nat):List UInt8:=(tab.getD j ([],[])).2
def first(p:Nat→Bool):Nat→Nat
 |0=>0
 |k+1=>if first p k=0 then (if p k then k+1 else 0) else first p k
def isN(a:List UInt8)(j:Nat):Bool:=decide (nmL j=a)
def isB(a b:List UInt8)(j:Nat):Bool:=decide (nmL j=a)&&decide (vlL j=b)
def j9(a b:List UInt8):Nat:=if first (isB a b) 61=0 then first (isN a) 61 else first (isB a b) 61
def Qm(a b:List UInt8):Bool:=decide (first (isB a b) 61≠0)
section
variable {p q:Nat→Bool}
theorem zct:first p 0=0:=rfl
theorem Qh(k:Nat):first p k≤k:=by
 induction k with
 |zero=>simp[first]
 |succ k ih=>
  unfold first
  split
  ·split<;>omega
  ·omega
theorem zcg{k m:Nat}(h:k≤m)(hk:first p k≠0):first p m=first p k:=by
 induction m with
 |zero=>
  obtain rfl:k=0:=(by omega)
  rfl
 |succ m ih=>
  by_cases e:k=m+1
  ·rw[e]
  ·have:=ih (by omega)
   show (if first p m=0 then _ else first p m)=_
   rw[if_neg (by rw[this];exact hk),this]
theorem Xx{k:Nat}(h:first p k=0)(hp:p k=true):first p (k+1)=k+1:=by simp[first,h,hp]
theorem Z2{k:Nat}(hp:p k=false):first p (k+1)=first p k:=by
 show (if first p k=0 then (if p k then k+1 else 0) else first p k)=_
 rw[hp]
 split
 ·rename_i h;simp[h]
 ·rfl
theorem zcu{k:Nat}(h:first p k≠0):first p (k+1)=first p k:=by simp[first,h]
end
theorem zv4{a b:List UInt8}{k:Nat}(hk:k<61)(h:first (isB a b) k=0)(hp:isB a b k=true):j9 a b=k+1∧Qm a b=true:=by
 have h1:=Xx h hp
 have h2:=zcg (p:=isB a b) (k:=k+1) (m:=61) (by omega) (by omega)
 unfold j9 Qm
 rw[h2,h1]
 simp
theorem zr6{a b:List UInt8}(h:first (isB a b) 61=0):j9 a b=first (isN a) 61∧Qm a b=false:=by
 unfold j9 Qm
 rw[if_pos h,h]
 simp
theorem zz0{a b:List UInt8}{k:Nat}(h1:isN a k=true)(h2:vlL k=b):isB a b k=true:=by
 unfold isB
 unfold isN at h1
 simp[h2,of_decide_eq_true h1]
theorem zy1{a b:List UInt8}{k:Nat}(h1:isN a k=false):isB a b k=false:=by
 unfold isB
 unfold isN at h1
 rw[h1];rfl
theorem zwy{a b:List UInt8}{k:Nat}(h2:vlL k≠b):isB a b k=false:=by
 unfold isB
 simp[h2]
end
section
structure Fd where
 nm:List UInt8
 vl:List UInt8
 nv:Bool
def sz(f:Fd):Nat:=f.nm.length+f.vl.length+32
def bare(f:Fd):Fd:={ f with nv:=false }
def tot:List Fd→Nat
 |[]=>0
 |f :: r=>sz f+tot r
def shr(m:Int):List Fd→List Fd
 |[]=>[]
 |f :: r=>if m<(tot (f :: r):Int) then shr m r else f :: r
def yw(M:Nat)(f:Fd)(L:List Fd):List Fd:=if M<sz f then shr ((M:Int)-(sz f:Int)) L else shr ((M:Int)-(sz f:Int)) L++[bare f]
theorem zrj:tot []=0:=rfl
theorem zwk(m:Int):shr m []=[]:=rfl
theorem zzc(f:Fd):32≤sz f:=by unfold sz;omega
theorem zjy(f:Fd):sz (bare f)=sz f:=rfl
theorem Yu(A B:List Fd):tot (A++B)=tot A+tot B:=by
 induction A with
 |nil=>simp[tot]
 |cons f A ih=>simp only[List.cons_append,tot,ih];omega
theorem zgb(A:List Fd)(f:Fd):tot (A++[f])=tot A+sz f:=by rw[Yu];simp[tot]
theorem Qr(A:List Fd):32*A.length≤tot A:=by
 induction A with
 |nil=>simp[tot]
 |cons f A ih=>have:=zzc f;simp only[tot,List.length_cons];omega
theorem zv2{A:List Fd}:tot A=0↔A=[]:=by
 constructor
 ·intro h
  have:=Qr A
  exact List.eq_nil_of_length_eq_zero (by omega)
 ·rintro rfl;rfl
theorem zh7(m:Int)(h:0≤m)(L:List Fd):(tot (shr m L):Int)≤m:=by
 induction L with
 |nil=>simpa [shr,tot] using h
 |cons f r ih=>
  unfold shr
  split
  ·exact ih
  ·omega
theorem zwo(m:Int)(h:m<0)(L:List Fd):shr m L=[]:=by
 induction L with
 |nil=>rfl
 |cons f r ih=>
  unfold shr
  rw[if_pos (by omega),ih]
theorem zs5{m:Int}{L:List Fd}(h:(tot L:Int)≤m):shr m L=L:=by
 cases L with
 |nil=>rfl
 |cons f r=>unfold shr;rw[if_neg (by omega)]
theorem zs9{m:Int}{L:List Fd}{k:Nat}(hk:k<L.length)(h:m<(tot (L.drop k):Int)):shr m (L.drop k)=shr m (L.drop (k+1)):=by
 rw[List.drop_eq_getElem_cons hk] at h ⊢
 conv=>lhs;unfold shr
 rw[if_pos h]
theorem zp9{L:List Fd}{k:Nat}(hk:k<L.length):tot (L.drop k)=sz L[k]+tot (L.drop (k+1)):=by
 rw[List.drop_eq_getElem_cons hk];rfl
theorem zi2{M:Nat}{f:Fd}{L:List Fd}:tot (yw M f L)≤M:=by
 unfold yw
 split
 ·rename_i h
  rw[zwo _ (by omega)]
  simp[tot]
 ·have:=zh7 ((M:Int)-(sz f:Int)) (by omega) L
  rw[Yu]
  simp only[tot,zjy]
  omega
theorem zis(R:List Fd)(k:Nat):tot (R.drop k)≤tot R:=by
 conv=>rhs;rw[←List.take_append_drop k R,Yu]
 omega
def Zh(a:List UInt8)(R:List Fd)(j:Nat):Bool:=match R[j]? with
 |some f=>decide (f.nm=a)
 |none=>false
def Zg(a b:List UInt8)(R:List Fd)(j:Nat):Bool:=match R[j]? with
 |some f=>decide (f.nm=a)&&decide (f.vl=b)
 |none=>false
def Qp(a b:List UInt8)(R:List Fd):Nat:=
 if Qm a b then j9 a b
 else if first (Zg a b R) R.length≠0 then 61+first (Zg a b R) R.length
 else if j9 a b≠0 then j9 a b
 else if first (Zh a R) R.length≠0 then 61+first (Zh a R) R.length else 0
def Jn(a b:List UInt8)(R:List Fd):Bool:=Qm a b || decide (first (Zg a b R) R.length≠0)
theorem zuu{a:List UInt8}{R:List Fd}{j:Nat}(h:j<R.length):Zh a R j=decide (R[j].nm=a):=by
 unfold Zh;rw[List.getElem?_eq_getElem h]
theorem zxk{a b:List UInt8}{R:List Fd}{j:Nat}(h:j<R.length):Zg a b R j=(decide (R[j].nm=a)&&decide (R[j].vl=b)):=by
 unfold Zg;rw[List.getElem?_eq_getElem h]
theorem zpp{a b:List UInt8}{R:List Fd}(h:Qm a b=true):Qp a b R=j9 a b∧Jn a b R=true:=by
 unfold Qp Jn;simp[h]
theorem zv3{a b:List UInt8}{R:List Fd}{k:Nat}(h:Qm a b=false)(hk:k<R.length)(h0:first (Zg a b R) k=0)(h1:Zg a b R k=true):Qp a b R=62+k∧Jn a b R=true:=by
 have h2:=Xx h0 h1
 have h3:=zcg (p:=Zg a b R) (k:=k+1) (m:=R.length) (by omega) (by omega)
 rw[h2] at h3
 unfold Qp Jn
 rw[h,h3]
 simp
 omega
theorem zoy{a b:List UInt8}{R:List Fd}(h:Qm a b=false)(h0:first (Zg a b R) R.length=0) :
  Qp a b R=(if j9 a b≠0 then j9 a b else if first (Zh a R) R.length≠0 then 61+first (Zh a R) R.length else 0)∧Jn a b R=false:=by
 unfold Qp Jn
 rw[h,h0]
 simp
end
section
def Zj:Nat→Nat→List UInt8
 |0,r=>[UInt8.ofNat r]
 |f+1,r=>if r<128 then [UInt8.ofNat r] else UInt8.ofNat (r%128+128) :: Zj f (r / 128)
theorem zku(f:Nat){r:Nat}(h:r<128):Zj f r=[UInt8.ofNat r]:=by
 cases f with
 |zero=>rfl
 |succ f=>simp[Zj,h]
theorem zk5(f:Nat){r:Nat}(h:¬r<128):Zj (f+1) r=UInt8.ofNat (r%128+128) :: Zj f (r / 128):=by simp[Zj,h]
theorem zm1(f r:Nat):(Zj f r).length≤f+1:=by
 induction f generalizing r with
 |zero=>simp[Zj]
 |succ f ih=>
  unfold Zj
  split
  ·simp
  ·have:=ih (r / 128);simp;omega
def hiN(k a:Nat):Nat:=a / 2 ^ k*2 ^ k
def Z7(k a n:Nat):List UInt8:=
 if n<2 ^ k-1 then [UInt8.ofNat (hiN k a+n)] else UInt8.ofNat (hiN k a+(2 ^ k-1)) :: Zj 3 (n-(2 ^ k-1))
theorem zld{k a n:Nat}(h:n<2 ^ k-1):Z7 k a n=[UInt8.ofNat (hiN k a+n)]:=if_pos h
theorem zll{k a n:Nat}(h:¬n<2 ^ k-1):Z7 k a n=UInt8.ofNat (hiN k a+(2 ^ k-1)) :: Zj 3 (n-(2 ^ k-1)):=if_neg h
theorem Xg(k a n:Nat):1≤(Z7 k a n).length∧(Z7 k a n).length≤5:=by
 unfold Z7
 split
 ·simp
 ·have:=zm1 3 (n-(2 ^ k-1));simp;omega
theorem Yq{k:Nat}(h1:1≤k)(h8:k≤8):1≤2 ^ k-1∧2 ^ k-1≤255∧2 ^ k≤256∧2≤2 ^ k:=by
 have:k=1∨k=2∨k=3∨k=4∨k=5∨k=6∨k=7∨k=8:=by omega
 rcases this with rfl|rfl|rfl|rfl|rfl|rfl|rfl|rfl<;>decide
theorem zo2{k a:Nat}(h1:1≤k)(h8:k≤8)(ha:a<256):hiN k a+(2 ^ k-1)<256:=by
 have hk:k=1∨k=2∨k=3∨k=4∨k=5∨k=6∨k=7∨k=8:=by omega
 unfold hiN
 rcases hk with rfl|rfl|rfl|rfl|rfl|rfl|rfl|rfl<;>omega
def qs:Nat→Nat→List UInt8→Nat × Nat × Nat
 |_,_,[]=>(0,0,2)
 |i,acc,b :: l=>if i=4 then (0,0,4) else if b.toNat<128 then (acc+b.toNat%128*128 ^ i,i+1,0) else qs (i+1) (acc+b.toNat%128*128 ^ i) l
def zs(k:Nat):List UInt8→Nat × Nat × Nat
 |[]=>(0,0,2)
 |b :: l=>
  if b.toNat%2 ^ k<2 ^ k-1 then (b.toNat%2 ^ k,1,0)
  else if (qs 0 0 l).2.2≠0 then (0,0,(qs 0 0 l).2.2)
  else if 268435456-(2 ^ k-1)<(qs 0 0 l).1 then (0,0,4)
  else (2 ^ k-1+(qs 0 0 l).1,1+(qs 0 0 l).2.1,0)
theorem zfa(acc:Nat)(b:UInt8)(l:List UInt8):qs 4 acc (b :: l)=(0,0,4):=by simp[qs]
theorem zeo{i:Nat}(hi:i≠4)(acc:Nat){b:UInt8}(hb:b.toNat<128)(l:List UInt8):qs i acc (b :: l)=(acc+b.toNat%128*128 ^ i,i+1,0):=by simp[qs,hi,hb]
theorem ze5{i:Nat}(hi:i≠4)(acc:Nat){b:UInt8}(hb:¬b.toNat<128)(l:List UInt8):qs i acc (b :: l)=qs (i+1) (acc+b.toNat%128*128 ^ i) l:=by simp[qs,hi,hb]
end
end Go.Proofs.YtooaajnkiokpnaaGreatDoor
