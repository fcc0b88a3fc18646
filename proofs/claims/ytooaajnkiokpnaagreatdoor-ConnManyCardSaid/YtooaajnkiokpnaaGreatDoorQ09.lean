/-
  Part of a proof: frame's getFields, by its contract. Conditions: those that each theorem names.
-/
import Derived.Test.YtooaajnkiokpnaaGreatDoorQ01
import Derived.Test.YtooaajnkiokpnaaGreatDoorQ08
namespace Go.Proofs.YtooaajnkiokpnaaGreatDoor
open Go.RowKit Go.WideShapes
set_option maxHeartbeats 4000000
set_option maxRecDepth 100000
section
def fm0(ty fl st:Nat)(pad:Int):Fm:=⟨ty,fl,st,none,0,0,pad,0,0,0,false,0,none,0,0⟩
structure FmIs(w:World)(base:Nat)(x:Fm)(F:Frm):Prop where
 eq:x=F.fm x.dA x.dc x.sA x.sc
 dat:Bo w base 5 (.slice x.dA F.dat.length x.dc) F.dat
 sets:OwS w base 164 2 (.slice x.sA F.sets.length x.sc) F.sets.length (enl sgc F.sets)
theorem Fs.rdb{w w':World}{g B:Nat}{A:Option Addr}{l:List UInt8}(h:Fs (λk=>k=g) w w')(hr:RdB w B A l)(hB:B≤w.heap.size)(hg:B≤g):RdB w' B A l:=
 hr.keep λp hp=>World.cell?_of_block (h.block p.block (by omega) (by omega))
theorem jj{w:World}{g B:Nat}{A:Option Addr}{l:List UInt8}(hr:RdB w B A l)(hg:B≤g)(j:Nat)(v:Value):RdB (w.setCell ⟨g,j,none⟩ v) B A l:=
 hr.keep λp hp=>World.cell?_of_block (Below.heap_setCell _ _ _ _ (by show p.block≠g;omega))
def z1o(w:World)(g:Nat)(F:Frm)(e:Ending)(w':World):Prop:=e=.returned (.tuple #[])∧∃x',Row w' g 66 (Fm.c x')∧FmIs w' w.heap.size x' F∧Fs (λk=>k=g) w w'
theorem zep{ty fl st:Nat}{pad:Int}{s:List UInt8}(h:ya ty fl=true):q9 ty fl st pad s=⟨ty,fl,st,s.drop 5,pad,0,zt (s.take 4)%2147483648,(s.getD 4 0).toNat,decide (2147483648≤zt (s.take 4)),0,[]⟩:=if_pos h
theorem zye{ty fl st:Nat}{pad:Int}{s:List UInt8}(h:ty=3):q9 ty fl st pad s=⟨ty,fl,st,[],pad,zt (s.take 4),0,0,false,0,[]⟩:=by unfold q9;rw[if_neg (by rw[qa (by omega)];simp),if_pos h]
theorem zyv{ty fl st:Nat}{pad:Int}{s:List UInt8}(h:ty=4):q9 ty fl st pad s=⟨ty,fl,st,[],pad,0,0,0,false,0,jd s⟩:=by unfold q9;rw[if_neg (by rw[qa (by omega)];simp),if_neg (by omega),if_pos h]
theorem zyu{ty fl st:Nat}{pad:Int}{s:List UInt8}(h:ty=5):q9 ty fl st pad s=⟨ty,fl,st,s.drop 4,pad,0,zt (s.take 4)%2147483648,0,false,0,[]⟩:=by unfold q9;rw[if_neg (by rw[qa (by omega)];simp),if_neg (by omega),if_neg (by omega),if_pos h]
theorem zzo{ty fl st:Nat}{pad:Int}{s:List UInt8}(h:ty=7):q9 ty fl st pad s=⟨ty,fl,st,s.drop 8,pad,zt ((s.drop 4).take 4),zt (s.take 4)%2147483648,0,false,0,[]⟩:=by unfold q9;rw[if_neg (by rw[qa (by omega)];simp),if_neg (by omega),if_neg (by omega),if_neg (by omega),if_pos h]
theorem zzr{ty fl st:Nat}{pad:Int}{s:List UInt8}(h:ty=8):q9 ty fl st pad s=⟨ty,fl,st,[],pad,0,0,0,false,zt (s.take 4)%2147483648,[]⟩:=by unfold q9;rw[if_neg (by rw[qa (by omega)];simp),if_neg (by omega),if_neg (by omega),if_neg (by omega),if_neg (by omega),if_pos h]
theorem V3{ty fl st:Nat}{pad:Int}{s:List UInt8}(hl:ya ty fl=false)(h:ty≠3∧ty≠4∧ty≠5∧ty≠7∧ty≠8):q9 ty fl st pad s=⟨ty,fl,st,s,pad,0,0,0,false,0,[]⟩:=by
 unfold q9;rw[if_neg (by rw[hl];simp),if_neg h.1,if_neg h.2.1,if_neg h.2.2.1,if_neg h.2.2.2.1,if_neg h.2.2.2.2]
theorem zmp{ty fl n:Nat}(h:jb ty fl n):jl ty fl≤n:=by
 obtain⟨h1,h2,h3,h4,h5,h6,h7⟩:=h
 unfold jl
 split
 ·rename_i hl
  have:ty=2∨ty=1∧fl / 32%2=1:=of_decide_eq_true hl
  omega
 ·split
  ·omega
  ·split<;>omega
theorem ze0{v:Nat}(h:v<4294967296):(bits .and .u32 (v:Int) 2147483648 != 0)=decide (2147483648≤v):=by
 rw[zwg h]
 by_cases hv:2147483648≤v
 ·rw[decide_eq_true hv,show v / 2147483648=1 by omega];rfl
 ·rw[decide_eq_false hv,show v / 2147483648=0 by omega];rfl
theorem zfk{g B ty fl st:Nat}{pad:Int}{w:World}(hR:Row w g 66 (fm0 ty fl st pad).c)(hf:fl<256){A:Option Addr}{c:Nat}{s:List UInt8}(hr:RdB w B A s)(hB:B≤w.heap.size)(hg:B≤g)(hc:s.length≤c)(hs:s.length≤100000)(hL:jb ty fl s.length) :
  Calls Tryz.prog 193 #[.pointer (some ⟨g,0,none⟩),.slice A s.length c] w (z1o w g (q9 ty fl st pad s)):=by
 obtain⟨i1,hi1,_,hz11,_⟩:=zr qk
 have hah:=v6 (fm0 ty fl st pad) hf
 have hal:=zmp hL
 have h32:=zfw ⟨fl,hf⟩
 simp only at h32
 have hah':∀W,Calls Tryz.prog 187 #[.agg (fm0 ty fl st pad).c] W λe w'=>e=.returned (.int .i64 (jl ty fl:Nat))∧Below W.heap.size W w':=hah
 obtain⟨ah,hahe⟩:∃ah,ah=jl ty fl:=⟨_,rfl⟩
 rw[←hahe] at hah' hal
 obtain⟨hcut1,hRd1⟩:=xi (P:=Tryz.prog) Tryz.underlying22 hi1 hz11 hr hc hal
 obtain⟨A2,hcut2,hRd2⟩:=y6 (P:=Tryz.prog) Tryz.underlying22 hi1 hz11 hr hc hal
 have hl1:(s.take ah).length=ah:=by rw[List.length_take];omega
 have hl2:(s.drop ah).length=s.length-ah:=List.length_drop
 have hgl:=hR.lt
 have HR:=z2w hR
 have HRd1:=z2w hRd1
 have HRd2:=z2w hRd2
 have HAE:=z2w hahe
 have HL1:=z2w hl1
 have HL2:=z2w hl2
 have HLen:=z2w hL
 have hac:ah≤c:=by omega
 have hdc:s.length-ah≤c-ah:=by omega
 have HB0:Hid (Fs (λk=>k=g) w w):=Fs.refl _ w
 obtain⟨F,hFe⟩:∃F,F=q9 ty fl st pad s:=⟨_,rfl⟩
 rw[←hFe]
 have HFe:=z2w hFe
 clear hah hR hr hRd1 hRd2 hahe hl1 hl2 hL hFe
 go_enter Tryz.func193,Tryz.ntmps193
 go_wp2_with fail
 refine wp_region_held_drew (S:=λw'=>Row w' g 66 (fm0 ty fl st pad).c∧True) (by kernel_rfl) ⟨HR.out,trivial⟩ (λhHeld=>?_)
 refine tkH 0 ?_
 refine tkH 1 ?_
 refine tkH 2 ?_
 refine tkY 3 rfl (qm (by rfl) _ rfl rfl (λ_ hSw=>hSw.1)) ?_
 refine tkH 6 ?_
 refine tkH 7 ?_
 refine tkH 8 ?_
 refine tkY 9 rfl (qm (by rfl) _ rfl rfl (λ_ hSw=>hSw.1)) ?_
 refine rdH 4 λK hK=>?_
 go_simp
 go_at_call 187
 refine(hah' _).mono ?_
 rintro e w1 ⟨rfl,hb1⟩
 have HF1:Hid (Fs (λk=>k=g) w w1):=(HB0.out.drewN 1).then_below hb1
 have HR1:=z2w (HF1.out.size)
 have HX1:=z2w ((show Row w.drew g 66 (fm0 ty fl st pad).c from HR.out).below hb1 hgl)
 refine hK.out _ _ ⟨HX1.out,trivial⟩ (λhHeld=>?_)
 clear hK K hb1 HB0
 try refine ptk ?_
 refine tkH 5 ?_
 refine rdH 10 λK hK=>?_
 go_simp
 go_at_call 187
 refine(hah' _).mono ?_
 rintro e w2 ⟨rfl,hb2⟩
 have HF2:=z2w (HF1.out.then_below hb2)
 have HX2:=z2w (HX1.out.below hb2 HX1.out.lt)
 refine hK.out _ _ ⟨HX2.out,trivial⟩ (λhHeld=>?_)
 clear hK K hb2 hah' HX1 HF1 HR1 HR
 try refine ptk ?_
 refine tkH 11 ?_
 refine tkH 12 ?_
 refine tkH 13 ?_
 refine dnH ?_
 clear hHeld hcut1 hcut2
 have HA1:=z2w (HF2.out.rdb HRd1.out hB hg)
 have HA2:=z2w (HF2.out.rdb HRd2.out hB hg)
 have hs2:w.heap.size≤w2.heap.size:=HF2.out.size
 have HR2:Hid (Row w2 g 66 #[.int .u8 (ty:Int),.int .u8 (fl:Int),.int .u32 (st:Int),.slice none 0 0,.int .i64 pad,.int .u32 0,.int .u32 0,.int .u8 0,.bool false,.int .u32 0,.slice none 0 0]):=HX2.out
 obtain⟨k0,k1,_⟩:=zf HX2.out
 have k0':w2.cell? ⟨g,0,none⟩=some (.int .u8 (ty:Int)):=k0
 have k1':w2.cell? ⟨g,1,none⟩=some (.int .u8 (fl:Int)):=k1
 clear k0 k1 HRd1 HRd2 HX2
 rcases kinds ty with h|h|h|h|h|h|h|h|h|h|h
 ·have hE:F=⟨ty,fl,st,s.drop ah,pad,0,0,0,false,0,[]⟩:=by
   have h0:ah=0:=by rw[HAE.out];exact j0 (qa (by omega)) (by omega)
   rw[h0,List.drop_zero,HFe.out]
   exact V3 (qa (by omega)) (by omega)
  have HE:=z2w hE
  rw[h] at k0'
  clear hE h32 h k1'
  go_wp2_with fail
  have z3:=HR2.out.thawed 3
  have k3:=HR2.out.cell (j:=3) rfl
  have hcl:=jz (c:=c-ah) (w:=w2) HA2.out (show B≤w2.heap.size by omega) (by rw[HL2.out];omega)
  rw[HL2.out] at hcl
  refine hcl.mono ?_
  rintro e w8 ⟨⟨vd,rfl,hO8⟩,hb8⟩
  have hRow8:=HR2.out.below hb8 HR2.out.lt
  have HF8:=z2w (HF2.out.then_below hb8)
  have HR8:=z2w hRow8
  have HO8:=z2w hO8
  have k8:=hRow8.cell (j:=3) rfl
  have z8:=hRow8.thawed 3
  clear hb8 hcl hRow8 hO8 z3 k3
  obtain⟨Ad,cd,rfl,_⟩:=HO8.out.shape
  go_wp2_with fail
  refine bodyPost_end (results_none rfl _ _ _) rfl ⟨rfl,⟨ty,fl,st,Ad,_,cd,pad,0,0,0,false,0,none,0,0⟩,Row.stored HR8.out 3 _,?_,HF8.out.setCell (λ_=>rfl) _ _⟩
  rw[HE.out]
  refine⟨?_,?_,OwS.nil⟩
  ·simp only[Frm.fm,List.length_nil,HL2.out]
  ·show Bo _ _ _ (.slice Ad (s.drop ah).length cd) _
   exact OwS.setCell (a:=⟨g,3,none⟩) (OwS.mono HO8.out (by omega)) (by intro e;have:=(OwS.lt HO8.out g e).1;omega) _
 ·by_cases hb:fl / 32%2=1
  ·have hl1:=Zt (ty:=ty) (fl:=fl) (.inr ⟨h,hb⟩)
   rw[hb] at h32
   have h5:ah=5:=by rw[HAE.out];exact Zy hl1
   have hv4:(s.take ah).take 4=s.take 4:=by rw[h5,List.take_take];rfl
   have hw4:s.getD 4 0=(s.take ah).getD 4 0:=by rw[h5];simp[List.getD_eq_getElem?_getD,List.getElem?_take]
   have hE:F=_:=HFe.out.trans (zep hl1)
   rw[←hv4,hw4,show s.drop 5=s.drop ah by rw[h5]] at hE
   have hgn:=λ(W:World) (h1:RdB W B A (s.take ah))=>xj (c:=c) h1 (by rw[HL1.out];omega) (by rw[HL1.out];omega)
   have hgs:=λ(W:World) (h1:RdB W B A (s.take ah))=>Za (c:=c) h1 (by rw[HL1.out];omega) (by rw[HL1.out];omega)
   have hbit:=ze0 (zb5 (s.take ah))
   rw[HL1.out] at hgn hgs
   obtain⟨gb,o,rfl,hgb,hcell⟩:=HA1.out (by intro e;have:=HL1.out;rw[e] at this;simp at this;omega)
   have f4:w2.cell? ⟨gb,o+4,none⟩=some (.int .u8 (((s.take ah).getD 4 0).toNat:Int)):=by
    rw[List.getD_eq_getElem?_getD,List.getElem?_eq_getElem (by rw[HL1.out];omega)]
    exact hcell 4 (by rw[HL1.out];omega)
   have hwb:=((s.take ah).getD 4 0).toNat_lt
   generalize hwt:((s.take ah).getD 4 0).toNat=wt at *
   generalize hvv:zt ((s.take ah).take 4)=vv at *
   generalize hov:vv%2147483648=ov at *
   obtain⟨al,hal⟩:∃al,al=decide (2147483648≤vv):=⟨_,rfl⟩
   rw[←hal] at hbit hE
   have HE:=z2w hE
   rw[h] at k0'
   have z8:=HR2.out.thawed 8
   have k8:=HR2.out.cell (j:=8) rfl
   have m4:(4:Int)<(ah:Int):=by omega
   clear hwt hvv hal hov hv4 hw4 hcell h hl1 h5 hE
   go_wp2_with fail
   refine(hgn w2 HA1.out).mono ?_
   rintro e w3 ⟨rfl,nq,rfl⟩
   go_wp2_with fail
   have HR3:=z2w (Row.stored (show Row (w2.drewN nq) g _ _ from HR2.out) 8 (.bool al))
   have HF3:=z2w ((HF2.out.drewN nq).setCell (g:=g) (λ_=>rfl) 8 (.bool al))
   have HA3:=z2w (jj (show RdB (w2.drewN nq) _ _ _ from HA1.out) hg 8 (.bool al))
   have HB3:=z2w (jj (show RdB (w2.drewN nq) _ _ _ from HA2.out) hg 8 (.bool al))
   have f4':((w2.drewN nq).setCell ⟨g,8,none⟩ (.bool al)).cell? ⟨gb,o+4,none⟩=some (.int .u8 (wt:Int)):=(World.cell?_of_block (Below.heap_setCell _ _ _ _ (by show gb≠g;omega))).trans f4
   have hs3:w.heap.size≤((w2.drewN nq).setCell ⟨g,8,none⟩ (.bool al)).heap.size:=HF3.out.size
   clear hgn hbit f4 k8 z8 k0' k1' HR2 HF2 HA1 HA2 hs2
   generalize (w2.drewN nq).setCell ⟨g,8,none⟩ (.bool al)=w3 at *
   refine wp_region_held_drew (S:=λw'=>w'.cell? ⟨gb,o+4,none⟩=some (.int .u8 (wt:Int))) (by kernel_rfl) f4' (λhHeld=>?_)
   refine tkH 0 ?_
   refine tkH 1 ?_
   refine tkH 2 ?_
   refine tkH 4 ?_
   refine tkH 5 ?_
   refine tkH 6 ?_
   refine rdH 3 λK hK=>?_
   go_simp
   go_at_call 162
   refine(hgs w3.drew HA3.out).mono ?_
   rintro e w4 ⟨rfl,nq4,rfl⟩
   refine hK.out _ _ f4' (λhHeld=>?_)
   clear hK K hgs
   try refine ptk ?_
   refine tkH 7 ?_
   refine tkH 8 ?_
   have k6:=HR3.out.cell (j:=6) rfl
   have z6:=HR3.out.thawed 6
   refine rdH 9 λK hK=>?_
   go_simp
   have HR5:=z2w (Row.stored (show Row (w3.drewN (1+nq4)) g _ _ from HR3.out) 6 (.int .u32 (ov:Int)))
   have HF5:=z2w ((HF3.out.drewN (1+nq4)).setCell (g:=g) (λ_=>rfl) 6 (.int .u32 (ov:Int)))
   have HB5:=z2w (jj (show RdB (w3.drewN (1+nq4)) _ _ _ from HB3.out) hg 6 (.int .u32 (ov:Int)))
   have f5:((w3.drewN (1+nq4)).setCell ⟨g,6,none⟩ (.int .u32 (ov:Int))).cell? ⟨gb,o+4,none⟩=some (.int .u8 (wt:Int)):=(World.cell?_of_block (Below.heap_setCell _ _ _ _ (by show gb≠g;omega))).trans f4'
   have hs5:w.heap.size≤((w3.drewN (1+nq4)).setCell ⟨g,6,none⟩ (.int .u32 (ov:Int))).heap.size:=HF5.out.size
   refine hK.out _ _ f5 (λhHeld=>?_)
   clear hK K hHeld k6 z6 f4' HR3 HF3 HA3 HB3 hs3
   generalize (w3.drewN (1+nq4)).setCell ⟨g,6,none⟩ (.int .u32 (ov:Int))=w5 at *
   have hHeld:=f5
   try refine ptk ?_
   refine tkH 10 ?_
   refine tkH 11 ?_
   have k7:=HR5.out.cell (j:=7) rfl
   have z7:=HR5.out.thawed 7
   refine rdH 12 λK hK=>?_
   go_simp
   have HR6:=z2w (Row.stored HR5.out 7 (.int .u8 (wt:Int)))
   have HF6:=z2w (HF5.out.setCell (g:=g) (λ_=>rfl) 7 (.int .u8 (wt:Int)))
   have HB6:=z2w (jj HB5.out hg 7 (.int .u8 (wt:Int)))
   have f6:(w5.setCell ⟨g,7,none⟩ (.int .u8 (wt:Int))).cell? ⟨gb,o+4,none⟩=some (.int .u8 (wt:Int)):=(World.cell?_of_block (Below.heap_setCell _ _ _ _ (by show gb≠g;omega))).trans f5
   have hs6:w.heap.size≤(w5.setCell ⟨g,7,none⟩ (.int .u8 (wt:Int))).heap.size:=HF6.out.size
   refine hK.out _ _ f6 (λhHeld=>?_)
   clear hK K hHeld k7 z7 f5 f6 HR5 HF5 HB5 hs5
   generalize w5.setCell ⟨g,7,none⟩ (.int .u8 (wt:Int))=w6 at *
   try refine ptk ?_
   refine dnH ?_
   go_wp2_with fail
   have z3:=HR6.out.thawed 3
   have k3:=HR6.out.cell (j:=3) rfl
   have hcl:=jz (c:=c-ah) (w:=w6) HB6.out (show B≤w6.heap.size by omega) (by rw[HL2.out];omega)
   rw[HL2.out] at hcl
   refine hcl.mono ?_
   rintro e w8 ⟨⟨vd,rfl,hO8⟩,hb8⟩
   have hRow8:=HR6.out.below hb8 HR6.out.lt
   have HF8:=z2w (HF6.out.then_below hb8)
   have HR8:=z2w hRow8
   have HO8:=z2w hO8
   have k8:=hRow8.cell (j:=3) rfl
   have z8:=hRow8.thawed 3
   clear hb8 hcl hRow8 hO8 z3 k3
   obtain⟨Ad,cd,rfl,_⟩:=HO8.out.shape
   go_wp2_with fail
   refine bodyPost_end (results_none rfl _ _ _) rfl ⟨rfl,⟨ty,fl,st,Ad,_,cd,pad,0,ov,wt,al,0,none,0,0⟩,Row.stored HR8.out 3 _,?_,HF8.out.setCell (λ_=>rfl) _ _⟩
   rw[HE.out]
   refine⟨?_,?_,OwS.nil⟩
   ·simp only[Frm.fm,List.length_nil,HL2.out]
   ·show Bo _ _ _ (.slice Ad (s.drop ah).length cd) _
    exact OwS.setCell (a:=⟨g,3,none⟩) (OwS.mono HO8.out (by omega)) (by intro e;have:=(OwS.lt HO8.out g e).1;omega) _
  ·have hE:F=⟨ty,fl,st,s.drop ah,pad,0,0,0,false,0,[]⟩:=by
    have h0:ah=0:=by rw[HAE.out];exact j0 (qa (by omega)) (by omega)
    rw[h0,List.drop_zero,HFe.out]
    exact V3 (qa (by omega)) (by omega)
   have HE:=z2w hE
   rw[h] at k0'
   rw[show fl / 32%2=0 by omega] at h32
   clear hE h
   go_wp2_with fail
   have z3:=HR2.out.thawed 3
   have k3:=HR2.out.cell (j:=3) rfl
   have hcl:=jz (c:=c-ah) (w:=w2) HA2.out (show B≤w2.heap.size by omega) (by rw[HL2.out];omega)
   rw[HL2.out] at hcl
   refine hcl.mono ?_
   rintro e w8 ⟨⟨vd,rfl,hO8⟩,hb8⟩
   have hRow8:=HR2.out.below hb8 HR2.out.lt
   have HF8:=z2w (HF2.out.then_below hb8)
   have HR8:=z2w hRow8
   have HO8:=z2w hO8
   have k8:=hRow8.cell (j:=3) rfl
   have z8:=hRow8.thawed 3
   clear hb8 hcl hRow8 hO8 z3 k3
   obtain⟨Ad,cd,rfl,_⟩:=HO8.out.shape
   go_wp2_with fail
   refine bodyPost_end (results_none rfl _ _ _) rfl ⟨rfl,⟨ty,fl,st,Ad,_,cd,pad,0,0,0,false,0,none,0,0⟩,Row.stored HR8.out 3 _,?_,HF8.out.setCell (λ_=>rfl) _ _⟩
   rw[HE.out]
   refine⟨?_,?_,OwS.nil⟩
   ·simp only[Frm.fm,List.length_nil,HL2.out]
   ·show Bo _ _ _ (.slice Ad (s.drop ah).length cd) _
    exact OwS.setCell (a:=⟨g,3,none⟩) (OwS.mono HO8.out (by omega)) (by intro e;have:=(OwS.lt HO8.out g e).1;omega) _
 ·have hl1:=Zt (ty:=ty) (fl:=fl) (.inl h)
  have h5:ah=5:=by rw[HAE.out];exact Zy hl1
  have hv4:(s.take ah).take 4=s.take 4:=by rw[h5,List.take_take];rfl
  have hw4:s.getD 4 0=(s.take ah).getD 4 0:=by rw[h5];simp[List.getD_eq_getElem?_getD,List.getElem?_take]
  have hE:F=_:=HFe.out.trans (zep hl1)
  rw[←hv4,hw4,show s.drop 5=s.drop ah by rw[h5]] at hE
  have hgn:=λ(W:World) (h1:RdB W B A (s.take ah))=>xj (c:=c) h1 (by rw[HL1.out];omega) (by rw[HL1.out];omega)
  have hgs:=λ(W:World) (h1:RdB W B A (s.take ah))=>Za (c:=c) h1 (by rw[HL1.out];omega) (by rw[HL1.out];omega)
  have hbit:=ze0 (zb5 (s.take ah))
  rw[HL1.out] at hgn hgs
  obtain⟨gb,o,rfl,hgb,hcell⟩:=HA1.out (by intro e;have:=HL1.out;rw[e] at this;simp at this;omega)
  have f4:w2.cell? ⟨gb,o+4,none⟩=some (.int .u8 (((s.take ah).getD 4 0).toNat:Int)):=by
   rw[List.getD_eq_getElem?_getD,List.getElem?_eq_getElem (by rw[HL1.out];omega)]
   exact hcell 4 (by rw[HL1.out];omega)
  have hwb:=((s.take ah).getD 4 0).toNat_lt
  generalize hwt:((s.take ah).getD 4 0).toNat=wt at *
  generalize hvv:zt ((s.take ah).take 4)=vv at *
  generalize hov:vv%2147483648=ov at *
  obtain⟨al,hal⟩:∃al,al=decide (2147483648≤vv):=⟨_,rfl⟩
  rw[←hal] at hbit hE
  have HE:=z2w hE
  rw[h] at k0'
  have z8:=HR2.out.thawed 8
  have k8:=HR2.out.cell (j:=8) rfl
  have m4:(4:Int)<(ah:Int):=by omega
  clear hwt hvv hal hov hv4 hw4 hcell h hl1 h5 hE
  go_wp2_with fail
  refine(hgn w2 HA1.out).mono ?_
  rintro e w3 ⟨rfl,nq,rfl⟩
  go_wp2_with fail
  have HR3:=z2w (Row.stored (show Row (w2.drewN nq) g _ _ from HR2.out) 8 (.bool al))
  have HF3:=z2w ((HF2.out.drewN nq).setCell (g:=g) (λ_=>rfl) 8 (.bool al))
  have HA3:=z2w (jj (show RdB (w2.drewN nq) _ _ _ from HA1.out) hg 8 (.bool al))
  have HB3:=z2w (jj (show RdB (w2.drewN nq) _ _ _ from HA2.out) hg 8 (.bool al))
  have f4':((w2.drewN nq).setCell ⟨g,8,none⟩ (.bool al)).cell? ⟨gb,o+4,none⟩=some (.int .u8 (wt:Int)):=(World.cell?_of_block (Below.heap_setCell _ _ _ _ (by show gb≠g;omega))).trans f4
  have hs3:w.heap.size≤((w2.drewN nq).setCell ⟨g,8,none⟩ (.bool al)).heap.size:=HF3.out.size
  clear hgn hbit f4 k8 z8 k0' k1' HR2 HF2 HA1 HA2 hs2
  generalize (w2.drewN nq).setCell ⟨g,8,none⟩ (.bool al)=w3 at *
  refine wp_region_held_drew (S:=λw'=>w'.cell? ⟨gb,o+4,none⟩=some (.int .u8 (wt:Int))) (by kernel_rfl) f4' (λhHeld=>?_)
  refine tkH 0 ?_
  refine tkH 1 ?_
  refine tkH 2 ?_
  refine tkH 4 ?_
  refine tkH 5 ?_
  refine tkH 6 ?_
  refine rdH 3 λK hK=>?_
  go_simp
  go_at_call 162
  refine(hgs w3.drew HA3.out).mono ?_
  rintro e w4 ⟨rfl,nq4,rfl⟩
  refine hK.out _ _ f4' (λhHeld=>?_)
  clear hK K hgs
  try refine ptk ?_
  refine tkH 7 ?_
  refine tkH 8 ?_
  have k6:=HR3.out.cell (j:=6) rfl
  have z6:=HR3.out.thawed 6
  refine rdH 9 λK hK=>?_
  go_simp
  have HR5:=z2w (Row.stored (show Row (w3.drewN (1+nq4)) g _ _ from HR3.out) 6 (.int .u32 (ov:Int)))
  have HF5:=z2w ((HF3.out.drewN (1+nq4)).setCell (g:=g) (λ_=>rfl) 6 (.int .u32 (ov:Int)))
  have HB5:=z2w (jj (show RdB (w3.drewN (1+nq4)) _ _ _ from HB3.out) hg 6 (.int .u32 (ov:Int)))
  have f5:((w3.drewN (1+nq4)).setCell ⟨g,6,none⟩ (.int .u32 (ov:Int))).cell? ⟨gb,o+4,none⟩=some (.int .u8 (wt:Int)):=(World.cell?_of_block (Below.heap_setCell _ _ _ _ (by show gb≠g;omega))).trans f4'
  have hs5:w.heap.size≤((w3.drewN (1+nq4)).setCell ⟨g,6,none⟩ (.int .u32 (ov:Int))).heap.size:=HF5.out.size
  refine hK.out _ _ f5 (λhHeld=>?_)
  clear hK K hHeld k6 z6 f4' HR3 HF3 HA3 HB3 hs3
  generalize (w3.drewN (1+nq4)).setCell ⟨g,6,none⟩ (.int .u32 (ov:Int))=w5 at *
  have hHeld:=f5
  try refine ptk ?_
  refine tkH 10 ?_
  refine tkH 11 ?_
  have k7:=HR5.out.cell (j:=7) rfl
  have z7:=HR5.out.thawed 7
  refine rdH 12 λK hK=>?_
  go_simp
  have HR6:=z2w (Row.stored HR5.out 7 (.int .u8 (wt:Int)))
  have HF6:=z2w (HF5.out.setCell (g:=g) (λ_=>rfl) 7 (.int .u8 (wt:Int)))
  have HB6:=z2w (jj HB5.out hg 7 (.int .u8 (wt:Int)))
  have f6:(w5.setCell ⟨g,7,none⟩ (.int .u8 (wt:Int))).cell? ⟨gb,o+4,none⟩=some (.int .u8 (wt:Int)):=(World.cell?_of_block (Below.heap_setCell _ _ _ _ (by show gb≠g;omega))).trans f5
  have hs6:w.heap.size≤(w5.setCell ⟨g,7,none⟩ (.int .u8 (wt:Int))).heap.size:=HF6.out.size
  refine hK.out _ _ f6 (λhHeld=>?_)
  clear hK K hHeld k7 z7 f5 f6 HR5 HF5 HB5 hs5
  generalize w5.setCell ⟨g,7,none⟩ (.int .u8 (wt:Int))=w6 at *
  try refine ptk ?_
  refine dnH ?_
  go_wp2_with fail
  have z3:=HR6.out.thawed 3
  have k3:=HR6.out.cell (j:=3) rfl
  have hcl:=jz (c:=c-ah) (w:=w6) HB6.out (show B≤w6.heap.size by omega) (by rw[HL2.out];omega)
  rw[HL2.out] at hcl
  refine hcl.mono ?_
  rintro e w8 ⟨⟨vd,rfl,hO8⟩,hb8⟩
  have hRow8:=HR6.out.below hb8 HR6.out.lt
  have HF8:=z2w (HF6.out.then_below hb8)
  have HR8:=z2w hRow8
  have HO8:=z2w hO8
  have k8:=hRow8.cell (j:=3) rfl
  have z8:=hRow8.thawed 3
  clear hb8 hcl hRow8 hO8 z3 k3
  obtain⟨Ad,cd,rfl,_⟩:=HO8.out.shape
  go_wp2_with fail
  refine bodyPost_end (results_none rfl _ _ _) rfl ⟨rfl,⟨ty,fl,st,Ad,_,cd,pad,0,ov,wt,al,0,none,0,0⟩,Row.stored HR8.out 3 _,?_,HF8.out.setCell (λ_=>rfl) _ _⟩
  rw[HE.out]
  refine⟨?_,?_,OwS.nil⟩
  ·simp only[Frm.fm,List.length_nil,HL2.out]
  ·show Bo _ _ _ (.slice Ad (s.drop ah).length cd) _
   exact OwS.setCell (a:=⟨g,3,none⟩) (OwS.mono HO8.out (by omega)) (by intro e;have:=(OwS.lt HO8.out g e).1;omega) _
 ·have h4:ah=4:=by rw[HAE.out];exact Z5 (by omega)
  have hv4:(s.take ah).take 4=s.take 4:=by rw[h4,List.take_take];rfl
  have hdr:s.drop 4=s.drop ah:=by rw[h4]
  have hE:F=_:=HFe.out.trans (zye h)
  rw[←hv4] at hE
  have hgn:=λ(W:World) (h1:RdB W B A (s.take ah))=>xj (c:=c) h1 (by rw[HL1.out];omega) (by rw[HL1.out];omega)
  rw[HL1.out] at hgn
  generalize zt ((s.take ah).take 4)=vv at *
  rw[h] at k0'
  have zc:=HR2.out.thawed 5
  have kc:=HR2.out.cell (j:=5) rfl
  have hd0:s.length-ah=0:=by have:=HLen.out.2.2.1 (by omega);omega
  have HD0:=z2w hd0
  have HE:=z2w hE
  clear hE hv4 hdr h h4 h32 k1' hd0
  go_wp2_with fail
  refine(hgn w2 HA1.out).mono ?_
  rintro e w3 ⟨rfl,nq,rfl⟩
  go_wp2_with fail
  have HR3:=z2w (Row.stored (show Row (w2.drewN nq) g _ _ from HR2.out) 5 (.int .u32 (vv:Int)))
  have HF3:=z2w ((HF2.out.drewN nq).setCell (g:=g) (λ_=>rfl) 5 (.int .u32 (vv:Int)))
  have HB3:=z2w (jj (show RdB (w2.drewN nq) _ _ _ from HA2.out) hg 5 (.int .u32 (vv:Int)))
  have hs3:w.heap.size≤((w2.drewN nq).setCell ⟨g,5,none⟩ (.int .u32 (vv:Int))).heap.size:=HF3.out.size
  clear hgn kc zc k0' HR2 HF2 HA1 HA2 hs2
  generalize (w2.drewN nq).setCell ⟨g,5,none⟩ (.int .u32 (vv:Int))=w3 at *
  have z3:=HR3.out.thawed 3
  have k3:=HR3.out.cell (j:=3) rfl
  have hcl:=jz (c:=c-ah) (w:=w3) HB3.out (show B≤w3.heap.size by omega) (by rw[HL2.out];omega)
  rw[HL2.out] at hcl
  refine hcl.mono ?_
  rintro e w8 ⟨⟨vd,rfl,hO8⟩,hb8⟩
  rw[show s.drop ah=[] from List.eq_nil_of_length_eq_zero (by rw[HL2.out];exact HD0.out)] at hO8
  have hRow8:=HR3.out.below hb8 HR3.out.lt
  have HF8:=z2w (HF3.out.then_below hb8)
  have HR8:=z2w hRow8
  have HO8:=z2w hO8
  have k8:=hRow8.cell (j:=3) rfl
  have z8:=hRow8.thawed 3
  clear hb8 hcl hRow8 hO8 z3 k3
  obtain⟨Ad,cd,rfl,_⟩:=HO8.out.shape
  go_wp2_with fail
  refine bodyPost_end (results_none rfl _ _ _) rfl ⟨rfl,⟨ty,fl,st,Ad,_,cd,pad,vv,0,0,false,0,none,0,0⟩,Row.stored HR8.out 3 _,?_,HF8.out.setCell (λ_=>rfl) _ _⟩
  rw[HE.out]
  refine⟨?_,?_,OwS.nil⟩
  ·simp only[Frm.fm,List.length_nil,List.length_nil]
  ·exact OwS.setCell (a:=⟨g,3,none⟩) (OwS.mono HO8.out (by omega)) (by intro e;have:=(OwS.lt HO8.out g e).1;omega) _
 ·have h0:ah=0:=by rw[HAE.out];exact j0 (qa (by omega)) (by omega)
  have HE:=z2w (HFe.out.trans (zyv (pad:=pad) h))
  have h6:=(HLen.out.2.2.2.1 h).1
  obtain⟨n6,hn6⟩:∃n,n=s.length / 6:=⟨_,rfl⟩
  have hl6:s.length=6*n6:=by omega
  have HA2':Hid (RdB w2 B A2 s):=by have:=HA2.out;rw[h0,List.drop_zero] at this;exact this
  have hset:=λ(h1:RdB w2 w2.heap.size A2 s)=>zb6 (c:=c-ah) (n:=n6) h1 hl6 (by omega) (by omega)
  have hset:=hset (HA2'.out.more (by omega))
  rw[show 6*n6=s.length-ah by omega] at hset
  have hlen6:=(Jt n6 s hl6).2
  rw[h] at k0'
  have HN6:=z2w hlen6
  clear hn6 h h32 k1' h6 hlen6 h0 hl6
  go_wp2_with fail
  refine hset.mono ?_
  rintro e w8 ⟨⟨vd,rfl,hO8⟩,hb8⟩
  have hRow8:=HR2.out.below hb8 HR2.out.lt
  have HF8:=z2w (HF2.out.then_below hb8)
  have HR8:=z2w hRow8
  have HO8:=z2w hO8
  have k8:=hRow8.cell (j:=10) rfl
  have z8:=hRow8.thawed 10
  clear hb8 hset hRow8 hO8
  obtain⟨As,cs,rfl,_⟩:=HO8.out.shape
  go_wp2_with fail
  refine bodyPost_ret (results_none rfl _ _ _) rfl ⟨rfl,⟨ty,fl,st,none,0,0,pad,0,0,0,false,0,As,n6,cs⟩,Row.stored HR8.out 10 _,?_,HF8.out.setCell (λ_=>rfl) _ _⟩
  rw[HE.out]
  refine⟨?_,Bo.nil,?_⟩
  ·simp only[Frm.fm,List.length_nil,HN6.out]
  ·show OwS _ _ _ _ (.slice As (jd s).length cs) (jd s).length _
   rw[HN6.out]
   exact OwS.setCell (OwS.mono HO8.out (by omega)) (by intro e;have:=(OwS.lt HO8.out g e).1;omega) _
 ·have h4:ah=4:=by rw[HAE.out];exact Z5 (by omega)
  have hv4:(s.take ah).take 4=s.take 4:=by rw[h4,List.take_take];rfl
  have hdr:s.drop 4=s.drop ah:=by rw[h4]
  have hE:F=_:=HFe.out.trans (zyu h)
  rw[←hv4,hdr] at hE
  have hgn:=λ(W:World) (h1:RdB W B A (s.take ah))=>Za (c:=c) h1 (by rw[HL1.out];omega) (by rw[HL1.out];omega)
  rw[HL1.out] at hgn
  generalize zt ((s.take ah).take 4)%2147483648=vv at *
  rw[h] at k0'
  have zc:=HR2.out.thawed 6
  have kc:=HR2.out.cell (j:=6) rfl
  have hd0:True:=trivial
  have HD0:=z2w hd0
  have HE:=z2w hE
  clear hE hv4 hdr h h4 h32 k1' hd0
  go_wp2_with fail
  refine(hgn w2 HA1.out).mono ?_
  rintro e w3 ⟨rfl,nq,rfl⟩
  go_wp2_with fail
  have HR3:=z2w (Row.stored (show Row (w2.drewN nq) g _ _ from HR2.out) 6 (.int .u32 (vv:Int)))
  have HF3:=z2w ((HF2.out.drewN nq).setCell (g:=g) (λ_=>rfl) 6 (.int .u32 (vv:Int)))
  have HB3:=z2w (jj (show RdB (w2.drewN nq) _ _ _ from HA2.out) hg 6 (.int .u32 (vv:Int)))
  have hs3:w.heap.size≤((w2.drewN nq).setCell ⟨g,6,none⟩ (.int .u32 (vv:Int))).heap.size:=HF3.out.size
  clear hgn kc zc k0' HR2 HF2 HA1 HA2 hs2
  generalize (w2.drewN nq).setCell ⟨g,6,none⟩ (.int .u32 (vv:Int))=w3 at *
  have z3:=HR3.out.thawed 3
  have k3:=HR3.out.cell (j:=3) rfl
  have hcl:=jz (c:=c-ah) (w:=w3) HB3.out (show B≤w3.heap.size by omega) (by rw[HL2.out];omega)
  rw[HL2.out] at hcl
  refine hcl.mono ?_
  rintro e w8 ⟨⟨vd,rfl,hO8⟩,hb8⟩
  have hRow8:=HR3.out.below hb8 HR3.out.lt
  have HF8:=z2w (HF3.out.then_below hb8)
  have HR8:=z2w hRow8
  have HO8:=z2w hO8
  have k8:=hRow8.cell (j:=3) rfl
  have z8:=hRow8.thawed 3
  clear hb8 hcl hRow8 hO8 z3 k3
  obtain⟨Ad,cd,rfl,_⟩:=HO8.out.shape
  go_wp2_with fail
  refine bodyPost_end (results_none rfl _ _ _) rfl ⟨rfl,⟨ty,fl,st,Ad,_,cd,pad,0,vv,0,false,0,none,0,0⟩,Row.stored HR8.out 3 _,?_,HF8.out.setCell (λ_=>rfl) _ _⟩
  rw[HE.out]
  refine⟨?_,?_,OwS.nil⟩
  ·simp only[Frm.fm,List.length_nil,HL2.out]
  ·show Bo _ _ _ (.slice Ad (s.drop ah).length cd) _
   exact OwS.setCell (a:=⟨g,3,none⟩) (OwS.mono HO8.out (by omega)) (by intro e;have:=(OwS.lt HO8.out g e).1;omega) _
 ·have hE:F=⟨ty,fl,st,s.drop ah,pad,0,0,0,false,0,[]⟩:=by
   have h0:ah=0:=by rw[HAE.out];exact j0 (qa (by omega)) (by omega)
   rw[h0,List.drop_zero,HFe.out]
   exact V3 (qa (by omega)) (by omega)
  have HE:=z2w hE
  rw[h] at k0'
  clear hE h32 h k1'
  go_wp2_with fail
  have z3:=HR2.out.thawed 3
  have k3:=HR2.out.cell (j:=3) rfl
  have hcl:=jz (c:=c-ah) (w:=w2) HA2.out (show B≤w2.heap.size by omega) (by rw[HL2.out];omega)
  rw[HL2.out] at hcl
  refine hcl.mono ?_
  rintro e w8 ⟨⟨vd,rfl,hO8⟩,hb8⟩
  have hRow8:=HR2.out.below hb8 HR2.out.lt
  have HF8:=z2w (HF2.out.then_below hb8)
  have HR8:=z2w hRow8
  have HO8:=z2w hO8
  have k8:=hRow8.cell (j:=3) rfl
  have z8:=hRow8.thawed 3
  clear hb8 hcl hRow8 hO8 z3 k3
  obtain⟨Ad,cd,rfl,_⟩:=HO8.out.shape
  go_wp2_with fail
  refine bodyPost_end (results_none rfl _ _ _) rfl ⟨rfl,⟨ty,fl,st,Ad,_,cd,pad,0,0,0,false,0,none,0,0⟩,Row.stored HR8.out 3 _,?_,HF8.out.setCell (λ_=>rfl) _ _⟩
  rw[HE.out]
  refine⟨?_,?_,OwS.nil⟩
  ·simp only[Frm.fm,List.length_nil,HL2.out]
  ·show Bo _ _ _ (.slice Ad (s.drop ah).length cd) _
   exact OwS.setCell (a:=⟨g,3,none⟩) (OwS.mono HO8.out (by omega)) (by intro e;have:=(OwS.lt HO8.out g e).1;omega) _
 ·have h8:ah=8:=by rw[HAE.out];exact zdy h
  have hv4:(s.take ah).take 4=s.take 4:=by rw[h8,List.take_take];rfl
  have hv8:((s.take ah).drop 4).take 4=(s.drop 4).take 4:=by rw[h8,List.drop_take,List.take_take];rfl
  have hdr:s.drop 8=s.drop ah:=by rw[h8]
  have hE:F=_:=HFe.out.trans (zzo h)
  rw[←hv4,←hv8,hdr] at hE
  have hgs:=λ(W:World) (h1:RdB W B A (s.take ah))=>Za (c:=c) h1 (by rw[HL1.out];omega) (by rw[HL1.out];omega)
  rw[HL1.out] at hgs
  obtain⟨A4,hcut4,hRd4⟩:=y6 (P:=Tryz.prog) (k:=4) Tryz.underlying22 hi1 hz11 HA1.out (c:=c) (by rw[HL1.out];omega) (by rw[HL1.out];omega)
  have hl4:((s.take ah).drop 4).length=ah-4:=by rw[List.length_drop,HL1.out]
  have hgn:=λ(W:World) (h1:RdB W B A4 ((s.take ah).drop 4))=>xj (c:=c-4) h1 (by rw[hl4];omega) (by rw[hl4];omega)
  rw[hl4] at hgn
  rw[HL1.out] at hcut4
  have hcut4':∀W,(Instr.slice 22 (.slice A ah c) (some (.int .i64 4)) none none).run Tryz.prog W=.ok (.slice A4 (ah-4) (c-4)) W:=λW=>hcut4 W
  have HA4:=z2w hRd4
  generalize zt (((s.take ah).drop 4).take 4)=v2 at *
  generalize zt ((s.take ah).take 4)%2147483648=vv at *
  rw[h] at k0'
  have z6:=HR2.out.thawed 6
  have k6:=HR2.out.cell (j:=6) rfl
  have HE:=z2w hE
  clear hE hv4 hv8 hdr h h8 h32 k1' hcut4 hRd4 hl4
  go_wp2_with fail
  refine(hgs w2 HA1.out).mono ?_
  rintro e w3 ⟨rfl,nq,rfl⟩
  go_wp2_with fail
  have HR3:=z2w (Row.stored (show Row (w2.drewN nq) g _ _ from HR2.out) 6 (.int .u32 (vv:Int)))
  have HF3:=z2w ((HF2.out.drewN nq).setCell (g:=g) (λ_=>rfl) 6 (.int .u32 (vv:Int)))
  have HA3:=z2w (jj (show RdB (w2.drewN nq) _ _ _ from HA4.out) hg 6 (.int .u32 (vv:Int)))
  have HB3:=z2w (jj (show RdB (w2.drewN nq) _ _ _ from HA2.out) hg 6 (.int .u32 (vv:Int)))
  have hs3:w.heap.size≤((w2.drewN nq).setCell ⟨g,6,none⟩ (.int .u32 (vv:Int))).heap.size:=HF3.out.size
  clear hgs k6 z6 k0' HR2 HF2 HA1 HA2 HA4 hs2
  generalize (w2.drewN nq).setCell ⟨g,6,none⟩ (.int .u32 (vv:Int))=w3 at *
  have z5:=HR3.out.thawed 5
  have k5:=HR3.out.cell (j:=5) rfl
  refine(hgn w3 HA3.out).mono ?_
  rintro e w4 ⟨rfl,nq4,rfl⟩
  go_wp2_with fail
  have HR4:=z2w (Row.stored (show Row (w3.drewN nq4) g _ _ from HR3.out) 5 (.int .u32 (v2:Int)))
  have HF4:=z2w ((HF3.out.drewN nq4).setCell (g:=g) (λ_=>rfl) 5 (.int .u32 (v2:Int)))
  have HB4:=z2w (jj (show RdB (w3.drewN nq4) _ _ _ from HB3.out) hg 5 (.int .u32 (v2:Int)))
  have hs4:w.heap.size≤((w3.drewN nq4).setCell ⟨g,5,none⟩ (.int .u32 (v2:Int))).heap.size:=HF4.out.size
  clear hgn k5 z5 HR3 HF3 HA3 HB3 hs3 hcut4'
  generalize (w3.drewN nq4).setCell ⟨g,5,none⟩ (.int .u32 (v2:Int))=w4 at *
  have z3:=HR4.out.thawed 3
  have k3:=HR4.out.cell (j:=3) rfl
  have hcl:=jz (c:=c-ah) (w:=w4) HB4.out (show B≤w4.heap.size by omega) (by rw[HL2.out];omega)
  rw[HL2.out] at hcl
  refine hcl.mono ?_
  rintro e w8 ⟨⟨vd,rfl,hO8⟩,hb8⟩
  have hRow8:=HR4.out.below hb8 HR4.out.lt
  have HF8:=z2w (HF4.out.then_below hb8)
  have HR8:=z2w hRow8
  have HO8:=z2w hO8
  have k8:=hRow8.cell (j:=3) rfl
  have z8:=hRow8.thawed 3
  clear hb8 hcl hRow8 hO8 z3 k3
  obtain⟨Ad,cd,rfl,_⟩:=HO8.out.shape
  go_wp2_with fail
  refine bodyPost_end (results_none rfl _ _ _) rfl ⟨rfl,⟨ty,fl,st,Ad,_,cd,pad,v2,vv,0,false,0,none,0,0⟩,Row.stored HR8.out 3 _,?_,HF8.out.setCell (λ_=>rfl) _ _⟩
  rw[HE.out]
  refine⟨?_,?_,OwS.nil⟩
  ·simp only[Frm.fm,List.length_nil,HL2.out]
  ·show Bo _ _ _ (.slice Ad (s.drop ah).length cd) _
   exact OwS.setCell (a:=⟨g,3,none⟩) (OwS.mono HO8.out (by omega)) (by intro e;have:=(OwS.lt HO8.out g e).1;omega) _
 ·have h4:ah=4:=by rw[HAE.out];exact Z5 (by omega)
  have hv4:(s.take ah).take 4=s.take 4:=by rw[h4,List.take_take];rfl
  have hdr:s.drop 4=s.drop ah:=by rw[h4]
  have hE:F=_:=HFe.out.trans (zzr h)
  rw[←hv4] at hE
  have hgn:=λ(W:World) (h1:RdB W B A (s.take ah))=>xj (c:=c) h1 (by rw[HL1.out];omega) (by rw[HL1.out];omega)
  rw[HL1.out] at hgn
  have hm31:=ztr (zb5 (s.take ah))
  generalize zt ((s.take ah).take 4)=vn at *
  generalize vn%2147483648=vv at *
  rw[h] at k0'
  have zc:=HR2.out.thawed 9
  have kc:=HR2.out.cell (j:=9) rfl
  have hd0:s.length-ah=0:=by have:=HLen.out.2.2.1 (by omega);omega
  have HD0:=z2w hd0
  have HE:=z2w hE
  clear hE hv4 hdr h h4 h32 k1' hd0
  go_wp2_with fail
  refine(hgn w2 HA1.out).mono ?_
  rintro e w3 ⟨rfl,nq,rfl⟩
  go_wp2_with fail
  have HR3:=z2w (Row.stored (show Row (w2.drewN nq) g _ _ from HR2.out) 9 (.int .u32 (vv:Int)))
  have HF3:=z2w ((HF2.out.drewN nq).setCell (g:=g) (λ_=>rfl) 9 (.int .u32 (vv:Int)))
  have HB3:=z2w (jj (show RdB (w2.drewN nq) _ _ _ from HA2.out) hg 9 (.int .u32 (vv:Int)))
  have hs3:w.heap.size≤((w2.drewN nq).setCell ⟨g,9,none⟩ (.int .u32 (vv:Int))).heap.size:=HF3.out.size
  clear hgn kc zc k0' HR2 HF2 HA1 HA2 hs2
  generalize (w2.drewN nq).setCell ⟨g,9,none⟩ (.int .u32 (vv:Int))=w3 at *
  have z3:=HR3.out.thawed 3
  have k3:=HR3.out.cell (j:=3) rfl
  have hcl:=jz (c:=c-ah) (w:=w3) HB3.out (show B≤w3.heap.size by omega) (by rw[HL2.out];omega)
  rw[HL2.out] at hcl
  refine hcl.mono ?_
  rintro e w8 ⟨⟨vd,rfl,hO8⟩,hb8⟩
  rw[show s.drop ah=[] from List.eq_nil_of_length_eq_zero (by rw[HL2.out];exact HD0.out)] at hO8
  have hRow8:=HR3.out.below hb8 HR3.out.lt
  have HF8:=z2w (HF3.out.then_below hb8)
  have HR8:=z2w hRow8
  have HO8:=z2w hO8
  have k8:=hRow8.cell (j:=3) rfl
  have z8:=hRow8.thawed 3
  clear hb8 hcl hRow8 hO8 z3 k3
  obtain⟨Ad,cd,rfl,_⟩:=HO8.out.shape
  go_wp2_with fail
  refine bodyPost_end (results_none rfl _ _ _) rfl ⟨rfl,⟨ty,fl,st,Ad,_,cd,pad,0,0,0,false,vv,none,0,0⟩,Row.stored HR8.out 3 _,?_,HF8.out.setCell (λ_=>rfl) _ _⟩
  rw[HE.out]
  refine⟨?_,?_,OwS.nil⟩
  ·simp only[Frm.fm,List.length_nil,List.length_nil]
  ·exact OwS.setCell (a:=⟨g,3,none⟩) (OwS.mono HO8.out (by omega)) (by intro e;have:=(OwS.lt HO8.out g e).1;omega) _
 ·have hE:F=⟨ty,fl,st,s.drop ah,pad,0,0,0,false,0,[]⟩:=by
   have h0:ah=0:=by rw[HAE.out];exact j0 (qa (by omega)) (by omega)
   rw[h0,List.drop_zero,HFe.out]
   exact V3 (qa (by omega)) (by omega)
  have HE:=z2w hE
  rw[h] at k0'
  clear hE h32 h k1'
  go_wp2_with fail
  have z3:=HR2.out.thawed 3
  have k3:=HR2.out.cell (j:=3) rfl
  have hcl:=jz (c:=c-ah) (w:=w2) HA2.out (show B≤w2.heap.size by omega) (by rw[HL2.out];omega)
  rw[HL2.out] at hcl
  refine hcl.mono ?_
  rintro e w8 ⟨⟨vd,rfl,hO8⟩,hb8⟩
  have hRow8:=HR2.out.below hb8 HR2.out.lt
  have HF8:=z2w (HF2.out.then_below hb8)
  have HR8:=z2w hRow8
  have HO8:=z2w hO8
  have k8:=hRow8.cell (j:=3) rfl
  have z8:=hRow8.thawed 3
  clear hb8 hcl hRow8 hO8 z3 k3
  obtain⟨Ad,cd,rfl,_⟩:=HO8.out.shape
  go_wp2_with fail
  refine bodyPost_end (results_none rfl _ _ _) rfl ⟨rfl,⟨ty,fl,st,Ad,_,cd,pad,0,0,0,false,0,none,0,0⟩,Row.stored HR8.out 3 _,?_,HF8.out.setCell (λ_=>rfl) _ _⟩
  rw[HE.out]
  refine⟨?_,?_,OwS.nil⟩
  ·simp only[Frm.fm,List.length_nil,HL2.out]
  ·show Bo _ _ _ (.slice Ad (s.drop ah).length cd) _
   exact OwS.setCell (a:=⟨g,3,none⟩) (OwS.mono HO8.out (by omega)) (by intro e;have:=(OwS.lt HO8.out g e).1;omega) _
 ·have hE:F=⟨ty,fl,st,s.drop ah,pad,0,0,0,false,0,[]⟩:=by
   have h0:ah=0:=by rw[HAE.out];exact j0 (qa (by omega)) (by omega)
   rw[h0,List.drop_zero,HFe.out]
   exact V3 (qa (by omega)) (by omega)
  have HE:=z2w hE
  obtain⟨e0,e1,e2,e3,e4,e5,e6,e7,e8,e9⟩:=Qd h
  clear hE h32 h k1'
  go_wp2_with fail
  have z3:=HR2.out.thawed 3
  have k3:=HR2.out.cell (j:=3) rfl
  have hcl:=jz (c:=c-ah) (w:=w2) HA2.out (show B≤w2.heap.size by omega) (by rw[HL2.out];omega)
  rw[HL2.out] at hcl
  refine hcl.mono ?_
  rintro e w8 ⟨⟨vd,rfl,hO8⟩,hb8⟩
  have hRow8:=HR2.out.below hb8 HR2.out.lt
  have HF8:=z2w (HF2.out.then_below hb8)
  have HR8:=z2w hRow8
  have HO8:=z2w hO8
  have k8:=hRow8.cell (j:=3) rfl
  have z8:=hRow8.thawed 3
  clear hb8 hcl hRow8 hO8 z3 k3
  obtain⟨Ad,cd,rfl,_⟩:=HO8.out.shape
  go_wp2_with fail
  refine bodyPost_end (results_none rfl _ _ _) rfl ⟨rfl,⟨ty,fl,st,Ad,_,cd,pad,0,0,0,false,0,none,0,0⟩,Row.stored HR8.out 3 _,?_,HF8.out.setCell (λ_=>rfl) _ _⟩
  rw[HE.out]
  refine⟨?_,?_,OwS.nil⟩
  ·simp only[Frm.fm,List.length_nil,HL2.out]
  ·show Bo _ _ _ (.slice Ad (s.drop ah).length cd) _
   exact OwS.setCell (a:=⟨g,3,none⟩) (OwS.mono HO8.out (by omega)) (by intro e;have:=(OwS.lt HO8.out g e).1;omega) _
end
end Go.Proofs.YtooaajnkiokpnaaGreatDoor
