/-
  Part of a proof: The program's ring: take, by contract. Conditions: those that each theorem names.
-/
import Derived.Test.YtooaajnkiokpnaaGreatDoorQ07
import Derived.Test.YtooaajnkiokpnaaGreatDoorQ32
import Derived.Test.YtooaajnkiokpnaaGreatDoorQ33
import Derived.Test.YtooaajnkiokpnaaGreatDoorQ01
import Derived.Test.YtooaajnkiokpnaaGreatDoorQ06
namespace Go.Proofs.YtooaajnkiokpnaaGreatDoor
open Go.RowKit Go.WideShapes
set_option maxHeartbeats 4000000
set_option maxRecDepth 100000
section
theorem zul:(Value.pointer none).cells=#[Value.pointer none]:=rfl
theorem zgp(L:List Se)(k:Nat):(enl sep L).take k=enl sep (L.take k):=by
 have:=zqu (enc:=sep) V8 L k
 rwa [Nat.mul_one] at this
theorem zga(L:List Se)(k:Nat):(enl sep L).drop k=enl sep (L.drop k):=by
 have:=Jj (enc:=sep) V8 L k
 rwa [Nat.mul_one] at this
theorem zxj{L:List Se}{k:Nat}(hk:k<L.length)(i:Nat):(L.take k++L.drop (k+1))[i]?=if i<k then L[i]? else L[i+1]?:=by
 rw[List.getElem?_append]
 simp only[List.length_take,Nat.min_eq_left (Nat.le_of_lt hk),List.getElem?_take,List.getElem?_drop]
 split
 ·rfl
 ·congr 1
  omega
theorem zba{L:List Se}{k:Nat}{e:Se}(h:e∈L.take k++L.drop (k+1)):e∈L:=by
 rcases List.mem_append.1 h with h|h
 ·exact List.mem_of_mem_take h
 ·exact List.mem_of_mem_drop h
theorem zxx(A:Option Addr)(n n' c k:Nat):ob (.slice A n c) k↔ob (.slice A n' c) k:=by
 unfold ob
 cases A<;>rfl
theorem zhy{L:List Se}{k:Nat}(hk:k<L.length):(L.take k++L.drop (k+1)).length=L.length-1:=by
 simp only[List.length_append,List.length_take,List.length_drop]
 omega
theorem TrL.del{w w3:World}{g q:Nat}{A:Option Addr}{c:Nat}{L:List Se}{t:Nat}{W:Int}(h:TrL w g q A c L t W){k:Nat}(hk:k<L.length)
  (hO:OwS w3 0 138 1 (.slice A (L.length-1) c) (L.length-1) (enl sep (L.take k++L.drop (k+1)))) (hF:Fs (ob (.slice A L.length c)) w w3) :
  TrL (w3.setCell ⟨g,0,none⟩ (.slice A (L.length-1) c)) g q A c (L.take k++L.drop (k+1)) t W∧Fs (TF g q A c L) w (w3.setCell ⟨g,0,none⟩ (.slice A (L.length-1) c))∧∀b,TF g q A c (L.take k++L.drop (k+1)) b→TF g q A c L b:=by
 have hlen:=zhy hk
 have hog:¬ob (.slice A (L.length-1) c) g:=λh1=>h.s_g ((zxx _ _ _ _ _).1 h1)
 refine⟨⟨?_,?_,?_,?_,?_,?_⟩,?_,?_⟩
 ·rw[hlen]
  exact(hF.row h.s_g h.r).stored 0 _
 ·exact(hF.row h.s_q h.n).stored' (a:=⟨g,0,none⟩) (λe1=>h.g_q e1.symm) _
 ·rw[hlen]
  exact hO.setCell (a:=⟨g,0,none⟩) hog _
 ·intro e he
  have he':=zba he
  exact((h.i e he').keep λb hb=>hF.block b ((h.i e he').lt hb) (λh1=>h.not_s he' b h1 hb)).keep λb hb=>Below.heap_setCell w3 ⟨g,0,none⟩ _ b (λe1=>h.not_g he' (by rw[←show b=g from e1];exact hb))
 ·intro i j a b ha hb z hza hzb
  rw[zxj hk] at ha hb
  split at ha<;>split at hb
  ·exact h.d _ _ _ _ ha hb z hza hzb
  ·have:=h.d _ _ _ _ ha hb z hza hzb;omega
  ·have:=h.d _ _ _ _ ha hb z hza hzb;omega
  ·have:=h.d _ _ _ _ ha hb z hza hzb;omega
 ·exact λe he=>h.q e (zba he)
 ·exact(hF.mono λb _ hb=>.inr (.inr (.inl hb))).setCell (λ_=>.inl rfl) _ _
 ·intro b hb
  unfold TF at hb
  rw[hlen] at hb
  rcases hb with h1|h1|h1|⟨e,he,h1⟩
  ·exact .inl h1
  ·exact .inr (.inl h1)
  ·exact .inr (.inr (.inl ((zxx _ _ _ _ _).1 h1)))
  ·exact TF.of_e (zba he) h1
theorem zae{w:World}{g:Nat}{A:Option Addr}{n c t t' q:Nat}(h:Row w g 145 (rgc A n c t q)):Row (w.setCell ⟨g,1,none⟩ (.int .i64 t')) g 145 (rgc A n c t' q):=h.stored 1 _
attribute [local irreducible] Qj rgc fd wnc btw
section
theorem zqk{w:World}{A:Option Addr}{c:Nat}{L:List Se}(hO:OwS w 0 138 1 (.slice A L.length c) L.length (enl sep L))(hL:L.length≤100000){k:Nat}(hk:k<L.length) :
  Calls Tryz.prog 120 #[.slice A L.length c,.int .i64 k,.int .i64 ((k:Int)+1)] w λr w'=>r=.returned (.slice A (L.length-1) c)∧OwS w' 0 138 1 (.slice A (L.length-1) c) (L.length-1) (enl sep (L.take k++L.drop (k+1)))∧Fs (ob (.slice A L.length c)) w w':=by
 obtain⟨i0,hi0,hz0,hz1,hz2⟩:=Ju zka
 have hOd:OwS w.drew 0 138 1 (.slice A L.length c) L.length (enl sep L):=hO.keep λ_ _=>rfl
 obtain⟨A0,A1,A2,w1,w2,r1,r2,r3,r4,r5,r6,r7,r8⟩:=zqx (P:=Tryz.prog) (t:=143) Tryz.underlying143 hi0 hz0 hz1 zul rfl hOd (zi0 zjh L) hk
 rw[zgp,zga,←jq] at r7
 have HP:Hid (OwS w2 0 138 1 (.slice A (L.length-1) c) (L.length-1) (enl sep (L.take k++L.drop (k+1)))∧Fs (ob (.slice A L.length c)) w w2):=⟨r7,⟨r8.os,r8.tape,r8.output,r8.size,r8.block⟩⟩
 have e1:((k:Int) == (k:Int)+1)=false:=by rw[beq_eq_false_iff_ne];omega
 have hn1:((L.length-1:Nat):Int)=(L.length:Int)-1:=by omega
 clear hO hOd r7 r8 hi0 hz0 hz1 hz2
 go_enter Tryz.func120,Tryz.ntmps120
 go_upto_region 5 with fail
 refine qg 7 (λ_=>True) (by kernel_rfl) trivial (λhHeld=>?_)
 refine tkE 0 ?_
 refine tkE 1 ?_
 refine tkE 3 ?_
 refine tkE 4 ?_
 refine tkE 2 ?_
 refine tkE 5 ?_
 refine zm (i:=6) (by kernel_rfl) rfl (λK hK=>?_)
 refine Vw rfl (.tmp 22) (.tmp 25) 143 rfl rfl rfl (r4 _) ?_
 refine hK.out _ _ trivial (λhHeld=>?_)
 clear hK K
 try refine ptk ?_
 refine qh (by kernel_rfl) rfl (by kernel_rfl) (λK hK=>?_)
 go_simp
 refine hK.out _ _ ?_
 clear hK K hHeld r4
 try refine ptk ?_
 go_wp2_with fail
 go_ret
 exact⟨rfl,HP.out⟩
variable {w:World}{F:Nat→Prop}{g:Nat}{m:Rm}
theorem zf9{w w2 w4:World}{F:Nat→Prop}{g q:Nat}{A:Option Addr}{c:Nat}{L:List Se}{m:Rm}{k:Nat}{t':Nat}(hml:m.l=L.map (·.x))(hb:Below w.heap.size w w2)(hF:F=TF g q A c L)(hT:TrL w4 g q A c (L.take k++L.drop (k+1)) t' m.w)(hf:Fs (TF g q A c L) w2 w4)(hn:∀b,TF g q A c (L.take k++L.drop (k+1)) b→TF g q A c L b){m':Rm}
  (hm:m'=⟨m.l.take k++m.l.drop (k+1),t',m.w⟩):TP w F g m' (.tuple #[]) (.returned (.tuple #[])) w4:=by
 subst hF hm
 refine⟨rfl,_,⟨q,A,c,_,?_,hT,rfl⟩,(Fs.of_below hb).trans hf λ_ _ h=>h,λb hb=>.inl (hn b hb)⟩
 show m.l.take k++m.l.drop (k+1)=_
 rw[hml,List.map_append,List.map_take,List.map_drop]
theorem zph(h:Tr w F g m)(hm:m.Ok)(hs:m.Sm)(s:Nat):Calls Tryz.prog 83 #[.pointer (some ⟨g,0,none⟩),.int .u32 s] w (TP w F g (xw m s) (.tuple #[])):=by
 have HSAME:=λ(w':World) (hb:Below w.heap.size w w') (v:Value)=>zdf (v:=v) h hb
 obtain⟨q,A,c,L,hml,ht,hF,htl,hL⟩:=h.of hm hs
 have hll:=Yi hml
 have HC:=z2w (Y4 ht (by omega) s)
 unfold fdP at HC
 rw[←hml] at HC
 unfold xw
 by_cases hi:fd s m.l<m.l.length
 ·rw[if_pos hi]
  have hi':fd s m.l<L.length:=by omega
  rw[if_pos hi'] at HC
  generalize fd s m.l=k at *
  have htt:m.t<L.length:=by omega
  have HT:=z2w ht
  have HML:=z2w hml
  have HFF:=z2w hF
  have e1:((k:Int) == -1)=false:=by rw[beq_eq_false_iff_ne];omega
  have hwk:IntKind.i64.wrap ((k:Int)+1)=(k:Int)+1:=IntWalk.i64_in _ (by omega)
  clear ht hml hs hm htl h HSAME hi hF
  go_enter Tryz.func83,Tryz.ntmps83
  go_wp2_with fail
  refine HC.out.mono ?_
  rintro r w2 ⟨rfl,hb⟩
  have HT2:=z2w (HT.out.below hb)
  have HW:=z2w hb
  have c0:=(jh HT2.out).1
  have HD:=z2w (zqk HT2.out.s (by omega) hi')
  clear hb HC HT
  go_wp2_with fail
  refine HD.out.mono ?_
  rintro r w3 ⟨rfl,hO,hF3⟩
  obtain⟨hT4,hF4,hN4⟩:=HT2.out.del hi' hO hF3
  have z0:=(hF3.row HT2.out.s_g HT2.out.r).thawed 0
  have c03:=(hF3.row HT2.out.s_g HT2.out.r).cell (j:=0) (v:=.slice A L.length c) (by unfold rgc;rfl)
  have HT4:=z2w hT4
  have HF4:=z2w hF4
  have HN4:=z2w hN4
  clear hT4 hF4 hN4 hO hF3 HD c0 HT2
  go_upto_region 3 with fail
  generalize w3.setCell ⟨g,0,none⟩ (.slice A (L.length-1) c)=w4 at *
  clear z0 c03
  have hr4:=HT4.out.r
  rw[zhy hi'] at hr4
  obtain⟨c0,c1⟩:w4.cell? ⟨g,0,none⟩=some (.slice A (L.length-1) c)∧w4.cell? ⟨g,1,none⟩=some (.int .i64 m.t):=⟨hr4.cell (by unfold rgc;rfl),hr4.cell (by unfold rgc;rfl)⟩
  have hn1:((L.length-1:Nat):Int)=(L.length:Int)-1:=by omega
  have z1:=hr4.thawed 1
  have htrn:∀t':Nat,TrL (w4.setCell ⟨g,1,none⟩ (.int .i64 t')) g q A c (L.take k++L.drop (k+1)) t' m.w∧Fs (TF g q A c L) w2 (w4.setCell ⟨g,1,none⟩ (.int .i64 t')):=λt'=>
   ⟨HT4.out.turn (t':=t') (Vs _ _ _ _) (zae HT4.out.r),HF4.out.setCell (λ_=>.inl rfl) _ _⟩
  by_cases hkt:k<m.t
  ·have HP:=z2w (zf9 (m':=⟨m.l.take k++m.l.drop (k+1),drT m.l.length m.t k,m.w⟩) HML.out HW.out HFF.out (htrn (m.t-1)).1 (htrn (m.t-1)).2 HN4.out (by unfold drT;rw[if_pos hkt]))
   have hw1:IntKind.i64.wrap ((m.t:Int)-1)=((m.t-1:Nat):Int):=by rw[IntWalk.i64_in _ (by omega)];omega
   have hr5:=zae (t':=m.t-1) hr4
   obtain⟨d0,d1⟩:(w4.setCell ⟨g,1,none⟩ (.int .i64 ((m.t-1:Nat):Int))).cell? ⟨g,0,none⟩=some (.slice A (L.length-1) c)∧(w4.setCell ⟨g,1,none⟩ (.int .i64 ((m.t-1:Nat):Int))).cell? ⟨g,1,none⟩=some (.int .i64 (m.t-1:Nat)):=⟨hr5.cell (by unfold rgc;rfl),hr5.cell (by unfold rgc;rfl)⟩
   have e2:(((m.t-1:Nat):Int) == (L.length:Int)-1)=false:=by rw[beq_eq_false_iff_ne];omega
   have e3:(((m.t-1:Nat):Int) == ((L.length-1:Nat):Int))=false:=by rw[beq_eq_false_iff_ne];omega
   have hkt':(k:Int)<(m.t:Int):=by omega
   clear htrn HT4 HF4 HN4 hr4 hr5 HML HW HFF hkt hll hi' htt hn1 hL
   go_upto_region 5 with fail
   clear c0 c1 hw1 z1
   generalize w4.setCell ⟨g,1,none⟩ (.int .i64 ((m.t-1:Nat):Int))=w5 at *
   generalize ((m.t-1:Nat):Int)=t5 at *
   go_quiet (fail)
   go_wp2_with fail
   exact bodyPost_ret (results_none rfl _ _ _) rfl (HP.out.then (qu (Below.refl _ _) _))
  ·have hkd:decide (k<m.t)=false:=by simp;omega
   by_cases he:m.t+1=L.length
   ·have HP:Hid (∀n,TP w F g ⟨m.l.take k++m.l.drop (k+1),drT m.l.length m.t k,m.w⟩ (.tuple #[]) (.returned (.tuple #[])) ((w4.drewN n).setCell ⟨g,1,none⟩ (.int .i64 0))):=λn=>by
     have h5:TrL (w4.drewN n) g q A c (L.take k++L.drop (k+1)) m.t m.w:=HT4.out.keep λ_ _=>rfl
     have h6:Fs (TF g q A c L) w2 (w4.drewN n):=HF4.out.drewN n
     exact zf9 HML.out HW.out HFF.out (h5.turn (t':=0) (Vs _ _ _ _) (zae h5.r)) (h6.setCell (λ_=>.inl rfl) _ _) HN4.out (by unfold drT;rw[if_neg hkt,if_pos (by omega)])
    have e2:((m.t:Int) == (L.length:Int)-1)=true:=by rw[beq_iff_eq];omega
    have e3:((m.t:Int) == ((L.length-1:Nat):Int))=true:=by rw[beq_iff_eq];omega
    clear htrn HT4 HF4 HN4 hr4 HML HW HFF hkt hll hi' htt hn1 hL he
    go_upto_region 5 with fail
    go_quiet (fail)
    go_wp2_with fail
    exact bodyPost_ret (results_none rfl _ _ _) rfl (HP.out _)
   ·have HP:Hid (TP w F g ⟨m.l.take k++m.l.drop (k+1),drT m.l.length m.t k,m.w⟩ (.tuple #[]) (.returned (.tuple #[])) w4):=zf9 HML.out HW.out HFF.out HT4.out HF4.out HN4.out (by unfold drT;rw[if_neg hkt,if_neg (by omega)])
    have e2:((m.t:Int) == (L.length:Int)-1)=false:=by rw[beq_eq_false_iff_ne];omega
    have e3:((m.t:Int) == ((L.length-1:Nat):Int))=false:=by rw[beq_eq_false_iff_ne];omega
    clear htrn HT4 HF4 HN4 hr4 HML HW HFF hkt hll hi' htt hn1 hL he
    go_upto_region 5 with fail
    go_quiet (fail)
    go_wp2_with fail
    exact bodyPost_ret (results_none rfl _ _ _) rfl (HP.out.then (qu (Below.refl _ _) _))
 ·rw[if_neg hi]
  rw[if_neg (by omega)] at HC
  have HS:=z2w HSAME
  clear ht hml hs hm htl h HSAME hi hF
  go_enter Tryz.func83,Tryz.ntmps83
  go_wp2_with fail
  refine HC.out.mono ?_
  rintro r w2 ⟨rfl,hb⟩
  have HP:=z2w (HS.out _ hb (.tuple #[]))
  clear hb HC HS
  go_wp2_with fail
  exact bodyPost_ret (results_none rfl _ _ _) rfl HP.out
end
end
section
theorem zsr(c:Nat)(w:World):(binOp .eql 22 (.slice none 0 c) (.slice none 0 0)).run Tryz.prog w=.ok (.bool true) w:=by kernel_rfl
theorem zuj(a:Addr)(n c:Nat)(w:World):(binOp .eql 22 (.slice (some a) n c) (.slice none 0 0)).run Tryz.prog w=.ok (.bool false) w:=by kernel_rfl
theorem zif{B:Nat}{A:Option Addr}{c:Nat}{l:List UInt8}{w:World}(hr:RdB w B A l)(hB:B≤w.heap.size)(hl:l.length≤549755813888) :
  Calls Tryz.prog 115 #[.slice A l.length c] w λe w'=>(∃v,e=.returned v∧Bo w' w.heap.size 5 v l)∧Below w.heap.size w w':=by
 obtain⟨i0,hi0,hz0,hz1,hz2⟩:=Ju zhn
 cases A with
 |none=>
  have hn:l=[]:=by
   rcases List.eq_nil_or_concat l with h0|⟨x,y,h0⟩
   ·exact h0
   ·obtain⟨g,o,e,_⟩:=hr (by rw[h0];simp)
    cases e
  subst hn
  clear hr
  have hnil:=zsr c
  go_enter Tryz.func115,Tryz.ntmps115
  go_wp2
  go_ret
  exact⟨⟨_,rfl,Bo.nil⟩,Below.refl _ _⟩
 |some a=>
  have hO1:Hid (Bo (w.alloc (.cells #[] 5)) w.heap.size 5 (.slice (some ⟨w.heap.size,0,none⟩) 0 0) []):=OwS.lit w 5 1 0 #[] (by simp) (by simp[maxLen]) (Nat.le_refl _)
  have HR:=z2w (hr.alloc hB (.cells #[] 5))
  clear hr
  have hnil:=zuj a l.length c
  go_enter Tryz.func115,Tryz.ntmps115
  go_wp2_with (at_builtin;go_loud (refine qx rfl (.tmp 5) (.tmp 6) 22 rfl w.heap.size 5 i0 Tryz.underlying22 hi0 hz0 hz1 hz2 (.slice (some ⟨w.heap.size,0,none⟩) 0 0) [] rfl hO1.out B (some a) l _ _ rfl rfl HR.out (by simp;omega) (by simp) ?_;intro v2 w2 hO2 hF2 hN2))
  go_ret
  rw[List.nil_append] at hO2
  exact⟨⟨_,rfl,hO2⟩,((Below.refl w.heap.size w).alloc (Nat.le_refl _) _).trans (hF2.below (λk hk _=>by have:=(OwS.lt hO1.out k hk).1;omega) (by simp))⟩
def TkP(w:World)(g q:Nat)(A:Option Addr)(c:Nat)(L:List Se)(t:Nat)(W:Int)(i:Nat)(e:Se)(N:Nat)(r:Ending)(w':World):Prop:=
 ∃vA vc e',r=.returned (.slice vA N vc)∧Bo w' w.heap.size 5 (.slice vA N vc) (e.x.b.take N)∧e'.x={ e.x with b:=e.x.b.drop N,lf:=e.x.lf-N }∧e'.sb=e.sb∧
  TrL w' g q A c (L.set i e') t (W-N)∧Fs (TF g q A c L) w w'∧∀k,TF g q A c (L.set i e') k→TF g q A c L k
section
variable {w w':World}{g q:Nat}{A:Option Addr}{c:Nat}{L:List Se}{t:Nat}{W:Int}{e:Se}
theorem TrL.lfS(h:TrL w g q A c L t W){i:Nat}(hi:L[i]?=some e){l:Int}(hf:Fs (λk=>k=e.p) w w')(hr:Row w' e.p 160 (wnc l 2)):TrL w' g q A c (L.set i (e.upLf l)) t W∧Fs (TF g q A c L) w w'∧∀k,TF g q A c (L.set i (e.upLf l)) k→TF g q A c L k:=by
 have hem:=List.mem_of_getElem? hi
 obtain⟨h1,h2⟩:=(h.i e hem).lf hf hr
 refine⟨h.upd hi h2 h1 rfl λk hk=>.inl hk,h2.mono λk _ hk=>TF.of_e hem hk,λk hk=>?_⟩
 have hlt:k<w'.heap.size∨True:=.inr trivial
 unfold TF at hk
 rw[List.length_set] at hk
 rcases hk with h3|h3|h3|⟨a,ha,h3⟩
 ·exact .inl h3
 ·exact .inr (.inl h3)
 ·exact .inr (.inr (.inl h3))
 ·rcases List.mem_or_eq_of_mem_set ha with ha|rfl
  ·exact TF.of_e ha h3
  ·exact TF.of_e hem h3
theorem TrL.byS(h:TrL w g q A c L t W){i:Nat}(hi:L[i]?=some e){b:List UInt8}{A':Option Addr}{c':Nat}(hb:Bo w 0 5 (.slice A' b.length c') b)(hN:∀k,ob (.slice A' b.length c') k→ob e.v k) :
  TrL (w.setCell ⟨e.sb,1,none⟩ (.slice A' b.length c')) g q A c (L.set i (e.upB b A' c')) t W∧Fs (TF g q A c L) w (w.setCell ⟨e.sb,1,none⟩ (.slice A' b.length c'))∧∀k,TF g q A c (L.set i (e.upB b A' c')) k→TF g q A c L k:=by
 have hem:=List.mem_of_getElem? hi
 obtain⟨h1,h2,h3⟩:=(h.i e hem).by_ (Fs.refl _ _) hb (λk hk=>.inl (hN k hk))
 have h4:∀k,(e.upB b A' c').fp k→e.fp k:=λk hk=>by
  rcases hk with h5|h5|h5
  ·exact .inl h5
  ·exact .inr (.inl h5)
  ·exact .inr (.inr (hN k h5))
 refine⟨h.upd hi h2 h1 rfl λk hk=>.inl (h4 k hk),h2.mono λk _ hk=>TF.of_e hem hk,λk hk=>?_⟩
 unfold TF at hk
 rw[List.length_set] at hk
 rcases hk with h3|h3|h3|⟨a,ha,h3⟩
 ·exact .inl h3
 ·exact .inr (.inl h3)
 ·exact .inr (.inr (.inl h3))
 ·rcases List.mem_or_eq_of_mem_set ha with ha|rfl
  ·exact TF.of_e ha h3
  ·exact TF.of_e hem (h4 k h3)
end
theorem zce{L:List Se}{i:Nat}{e e':Se}(h:L[i]?=some e):(L.set i e')[i]?=some e':=by
 rw[List.getElem?_set,if_pos rfl,if_pos (List.getElem?_eq_some_iff.1 h).1]
theorem zh4{L:List Se}{i:Nat}{e:Se}(h:L[i]?=some e):L.set i e=L:=by
 obtain⟨h1,h2⟩:=List.getElem?_eq_some_iff.1 h
 conv=>lhs;rw[←h2]
 exact List.set_getElem_self h1
attribute [local irreducible] Qj rgc fd wnc btw can snN
section
variable {w:World}{g q:Nat}{A:Option Addr}{c:Nat}{L:List Se}{t:Nat}{W:Int}
theorem zn9(h:TrL w g q A c L t W){i:Nat}{e:Se}(hi:L[i]?=some e)(hc:can W e.x=true)(hlf:-2147483648≤e.x.lf∧e.x.lf≤2147483647)(hW:-2147483648≤W∧W≤2147483647)(hb:e.x.b.length≤1000000)(most:Int) :
  Calls Tryz.prog 118 #[.pointer (some ⟨g,0,none⟩),.pointer (some ⟨e.sb,0,none⟩),.int .i64 (max most 1)] w (TkP w g q A c L t W i e (snN W most e.x)):=by
 have hem:=List.mem_of_getElem? hi
 have hse:=h.i e hem
 obtain⟨_,_,r2⟩:=jh h
 obtain⟨_,s1,_,_,s4⟩:=yj hse
 have hor:=zns (most:=most) hc
 have hle:=zo1 (most:=most) hc
 have hcan:=zoz W e.x
 rw[hc] at hcan
 generalize snN W most e.x=N at *
 rcases hor with ⟨hb0,hN0⟩|⟨hb0,h1,hmin⟩
 ·subst hN0
  have HP:Hid (TkP w g q A c L t W i e 0 (.returned (.slice none 0 0)) w):=by
   refine⟨none,0,e,rfl,Bo.nil,?_,rfl,?_,Fs.refl _ _,?_⟩
   ·simp
   ·rw[zh4 hi];simpa using h
   ·rw[zh4 hi];exact λk hk=>hk
  rw[hb0] at s1
  clear h hi hem hse hcan r2 s4 hc hlf hW hb hle hb0
  go_enter Tryz.func118,Tryz.ntmps118
  go_wp2_with fail
  go_ret
  exact HP.out
 ·rw[if_neg hb0] at hcan
  simp only[Eq.comm (a:=true),Bool.and_eq_true,decide_eq_true_eq] at hcan
  obtain⟨hl0,hW0⟩:=hcan
  rw[Int.max_comm 1 most] at hmin
  have e0:((e.x.b.length:Int) == 0)=false:=by rw[beq_eq_false_iff_ne];omega
  have hNpos:0<N:=by omega
  have hNlf:(N:Int)≤e.x.lf:=by omega
  have hNW:(N:Int)≤W:=by omega
  have hm4:=λ(W':World) (ts:Array TypeId) (t:TypeId)=>zrs (P:=Tryz.prog) W' ts t (e.x.b.length:Int) (max most 1) e.x.lf W
  rw[hmin] at hm4
  have HT:=z2w h
  have HI:=z2w hi
  have HN1:=z2w hse.n
  have HN2:=z2w h.n
  have HLF:=z2w hlf
  have HWB:=z2w hW
  have hw1:IntKind.i64.wrap e.x.lf=e.x.lf:=IntWalk.i64_in _ (by omega)
  have hw2:IntKind.i64.wrap W=W:=IntWalk.i64_in _ (by omega)
  clear h hi hse hc hlf hW hmin hl0 hW0
  go_enter Tryz.func118,Tryz.ntmps118
  go_upto_region 3 with fail
  have d1:w.drew.cell? ⟨e.sb,1,none⟩=some (.slice e.A e.x.b.length e.c):=s1
  have d4:w.drew.cell? ⟨e.sb,4,none⟩=some (.pointer (some ⟨e.p,0,none⟩)):=s4
  have d2:w.drew.cell? ⟨g,2,none⟩=some (.pointer (some ⟨q,0,none⟩)):=r2
  have HM1:Hid (Row w.drew e.p 160 (wnc e.x.lf 2)):=HN1.out
  have HM2:Hid (Row w.drew q 160 (wnc W 1)):=HN2.out
  refine qg 17 (λw'=>w'.cell? ⟨e.sb,1,none⟩=some (.slice e.A e.x.b.length e.c)∧w'.cell? ⟨e.sb,4,none⟩=some (.pointer (some ⟨e.p,0,none⟩))∧w'.cell? ⟨g,2,none⟩=some (.pointer (some ⟨q,0,none⟩))) (by kernel_rfl) ⟨d1,d4,d2⟩ (λhHeld=>?_)
  refine tkE 0 ?_
  refine tkE 1 ?_
  refine tkE 2 ?_
  refine tkE 3 ?_
  refine tkE 4 ?_
  refine tkE 5 ?_
  refine tkE 6 ?_
  refine tkE 7 ?_
  refine tkE 8 ?_
  refine tkE 9 ?_
  refine tkE 11 ?_
  refine tkE 12 ?_
  refine tkE 13 ?_
  refine tkE 14 ?_
  refine zm (i:=10) (by kernel_rfl) rfl (λK hK=>?_)
  go_simp
  go_at_call 154
  refine(Xs HM1.out).mono ?_
  rintro r w1 ⟨rfl,rfl⟩
  go_simp
  refine hK.out _ _ hHeld (λhHeld=>?_)
  clear hK K
  try refine ptk ?_
  refine zm (i:=15) (by kernel_rfl) rfl (λK hK=>?_)
  go_simp
  go_at_call 154
  refine(Xs HM2.out).mono ?_
  rintro r w1 ⟨rfl,rfl⟩
  go_simp
  refine hK.out _ _ hHeld (λhHeld=>?_)
  clear hK K
  try refine ptk ?_
  refine zm (i:=16) (by kernel_rfl) rfl (λK hK=>?_)
  go_simp
  refine hK.out _ _ hHeld (λhHeld=>?_)
  clear hK K
  try refine ptk ?_
  refine qh (by kernel_rfl) rfl (by kernel_rfl) (λK hK=>?_)
  go_simp
  refine hK.out _ _ ?_
  clear hK K hHeld hm4 hw1 hw2
  try refine ptk ?_
  have HT1:Hid (TrL w.drew g q A c L t W):=HT.out.keep λ_ _=>rfl
  have HB1:Hid (Fs (TF g q A c L) w w.drew):=⟨rfl,rfl,rfl,Nat.le_refl _,λ_ _ _=>rfl⟩
  generalize w.drew=w1 at *
  clear r2 s1 s4 HN1 HN2 HT d2
  go_wp2_with fail
  refine(zen HM1.out HLF.out (n:=(N:Int)) ⟨by omega,by omega⟩).mono ?_
  rintro r w2 ⟨rfl,hr,hf⟩
  obtain⟨hT2,hF2,hN2⟩:=HT1.out.lfS HI.out hf hr
  have HT2:=z2w hT2
  have HF2:=z2w (HB1.out.trans hF2 λ_ _ h=>h)
  have HN2:=z2w hN2
  have HI2:=z2w (zce (e':=e.upLf (e.x.lf-N)) HI.out)
  clear hr hf hT2 hF2 hN2 HT1 HB1 HM1 HM2 d1 d4 HLF
  obtain⟨L2,hL2⟩:∃L2,L2=L.set i (e.upLf (e.x.lf-N)):=⟨_,rfl⟩
  rw[←hL2] at HT2 HN2 HI2
  have HL2:=z2w hL2
  have HQ2:=z2w HT2.out.n
  have d2:=(jh HT2.out).2.2
  clear hL2
  go_wp2_with fail
  refine(zen HQ2.out HWB.out (n:=(N:Int)) ⟨by omega,by omega⟩).mono ?_
  rintro r w3 ⟨rfl,hr,hf⟩
  have HT3:=z2w (HT2.out.win hf hr)
  have HF3:=z2w (HF2.out.trans (hf.mono (S':=TF g q A c L) λk _ hk=>.inr (.inl hk)) λ_ _ h=>h)
  have hse3:=HT3.out.i _ (List.mem_of_getElem? HI2.out)
  have s1:w3.cell? ⟨e.sb,1,none⟩=some (.slice e.A e.x.b.length e.c):=(yj hse3).2.1
  have hbo:Bo w3 0 5 (.slice e.A e.x.b.length e.c) e.x.b:=hse3.b
  have hcap:e.x.b.length≤e.c:=by
   obtain⟨_,_,e9,hcap⟩:=hbo.shape
   injection e9 with _ _ e9
   rw[e9]
   exact hcap
  obtain⟨i0,hi0,hz0,hz1,hz2⟩:=Ju zhn
  obtain⟨hcut,hrd⟩:=xi (P:=Tryz.prog) (t:=22) Tryz.underlying22 hi0 hz1 hbo.reads hcap hle
  have hcl:=zif (c:=e.c) hrd (Nat.le_refl _) (by rw[List.length_take];omega)
  have hlN:(e.x.b.take N).length=N:=by rw[List.length_take];omega
  rw[hlN] at hcl
  have HCL:=z2w hcl
  clear hr hf HQ2 HT2 HF2 d2 HWB hrd hcl hse3 hbo
  go_wp2_with fail
  refine HCL.out.mono ?_
  rintro r w4 ⟨⟨v,rfl,hv⟩,hb⟩
  obtain⟨vA,vc,rfl,hvc⟩:=hv.shape
  rw[hlN] at hv ⊢
  have HV:=z2w hv
  have HT4:=z2w (HT3.out.below hb)
  have HF4:=z2w (HF3.out.then_below hb)
  have hs34:=hb.size
  have hs3:=HF3.out.size
  have hse4:=HT4.out.i _ (List.mem_of_getElem? HI2.out)
  have s1:w4.cell? ⟨e.sb,1,none⟩=some (.slice e.A e.x.b.length e.c):=(yj hse4).2.1
  have z1:w4.frozen? ⟨e.sb,1,none⟩=false:=hse4.s.thawed 1
  have hbo:OwS w4 0 5 1 (.slice e.A e.x.b.length e.c) e.x.b.length (byc e.x.b):=hse4.b
  obtain⟨A',hfrom,hO5,hob5⟩:=Ji (P:=Tryz.prog) w4 0 22 5 i0 1 Tryz.underlying22 hi0 hz1 hbo N hle
  obtain⟨bb,hbb⟩:∃bb,bb=e.x.b.drop N:=⟨_,rfl⟩
  have hbl:e.x.b.length-N=bb.length:=by rw[hbb,List.length_drop]
  have hbd:(byc e.x.b).drop (N*1)=byc bb:=by rw[hbb,Nat.mul_one];simp[byc]
  rw[hbl,hbd] at hO5
  rw[hbl] at hfrom hob5
  obtain⟨hT5,hF5,hN5⟩:=HT4.out.byS HI2.out (A':=A') (c':=e.c-N) (b:=bb) hO5 (λk hk=>by
   unfold ob at *
   rw[hob5] at hk
   exact hk)
  have hsb3:e.sb<w3.heap.size:=(HT3.out.i _ (List.mem_of_getElem? HI2.out)).s.lt
  have hvl:∀k,ob (.slice vA N vc) k→w3.heap.size≤k:=λk hk=>(OwS.lt hv k hk).1
  have HV5:=z2w ((OwS.setCell (a:=⟨e.sb,1,none⟩) hv (λh=>by have:=hvl _ h;have h2:(⟨e.sb,1,none⟩:Addr).block=e.sb:=rfl;omega) (.slice A' bb.length (e.c-N))).mono (base':=w.heap.size) hs3)
  obtain⟨e5,he5⟩:∃e5,e5=(e.upLf (e.x.lf-N)).upB bb A' (e.c-N):=⟨_,rfl⟩
  have hs5:e5.sb=e.sb:=by rw[he5];rfl
  have hx5:e5.x={ e.x with b:=bb,lf:=e.x.lf-N }:=by rw[he5];rfl
  have HT5:Hid (TrL (w4.setCell ⟨e.sb,1,none⟩ (.slice A' bb.length (e.c-N))) g q A c (L.set i e5) t (W-N)):=by
   have h9:=hT5
   rw[←he5,HL2.out,List.set_set] at h9
   exact h9
  have HF5:Hid (Fs (TF g q A c L) w (w4.setCell ⟨e.sb,1,none⟩ (.slice A' bb.length (e.c-N)))):=HF4.out.trans hF5 λk hk h=>HN2.out k h
  have HN5:Hid (∀k,TF g q A c (L.set i e5) k→TF g q A c L k):=λk hk=>by
   refine HN2.out k (hN5 k ?_)
   rw[←he5,HL2.out,List.set_set]
   exact hk
  have HI5:Hid ((L.set i e5)[i]?=some e5):=zce HI.out
  have s15:(w4.setCell ⟨e.sb,1,none⟩ (.slice A' bb.length (e.c-N))).cell? ⟨e.sb,1,none⟩=some (.slice A' bb.length (e.c-N)):=by
   have h9:=(yj (HT5.out.i e5 (List.mem_of_getElem? HI5.out))).2.1
   rw[hs5] at h9
   rw[h9,he5]
   rfl
  have z15:(w4.setCell ⟨e.sb,1,none⟩ (.slice A' bb.length (e.c-N))).frozen? ⟨e.sb,1,none⟩=false:=by
   have h9:=(HT5.out.i e5 (List.mem_of_getElem? HI5.out)).s.thawed 1
   rw[hs5] at h9
   exact h9
  rw[hlN] at HV5
  have HX5:=z2w hx5
  have HS5:=z2w hs5
  have HBB:=z2w hbb
  clear hcut hv hb HCL HT3 HF3 HT4 HF4 hse4 hbo hO5 hob5 hbd hT5 hF5 hN5 hbb HV hvc hcap he5 hx5 hs5
  go_upto_region 8 with fail
  clear hfrom s1 z1
  generalize w4.setCell ⟨e.sb,1,none⟩ (.slice A' bb.length (e.c-N))=w5 at *
  by_cases h0:bb=[]
  ·have hbl0:bb.length=0:=by rw[h0];rfl
   rw[hbl0] at s15
   obtain⟨hT6,hF6,hN6⟩:=HT5.out.byS HI5.out (A':=none) (c':=0) (b:=[]) Bo.nil (λk hk=>by cases hk)
   rw[HS5.out] at hT6 hF6
   have HP:Hid (TkP w g q A c L t W i e N (.returned (.slice vA N vc)) (w5.setCell ⟨e.sb,1,none⟩ (.slice none 0 0))):=by
    refine⟨vA,vc,e5.upB [] none 0,rfl,?_,?_,HS5.out,?_,HF5.out.trans hF6 λk _ h=>HN5.out k h,λk hk=>HN5.out k (hN6 k (by rw[List.set_set];exact hk))⟩
    ·unfold Bo
     rw[hlN]
     exact OwS.setCell (a:=⟨e.sb,1,none⟩) HV5.out (λh=>by have:=hvl _ h;have h2:(⟨e.sb,1,none⟩:Addr).block=e.sb:=rfl;omega) _
    ·show ({ e5.x with b:=[] }:Sn)=_
     rw[HX5.out,←HBB.out,h0]
    ·rw[List.set_set] at hT6
     exact hT6
   clear hT6 hF6 hN6 HT5 HF5 HN5 HI5 HX5 HS5 HBB HV5 h0 hvl hsb3
   go_wp2_with fail
   go_ret
   exact HP.out
  ·have e5':((bb.length:Int) == 0)=false:=by
    have:=List.length_pos_iff.2 h0
    rw[beq_eq_false_iff_ne];omega
   have HP:Hid (TkP w g q A c L t W i e N (.returned (.slice vA N vc)) w5):=
    ⟨vA,vc,e5,rfl,by unfold Bo;rw[hlN];exact HV5.out,by rw[HX5.out,HBB.out],HS5.out,HT5.out,HF5.out,HN5.out⟩
   clear HT5 HF5 HN5 HI5 HX5 HS5 HBB HV5 h0 hvl hsb3
   go_wp2_with fail
   go_ret
   exact HP.out
end
end
end Go.Proofs.YtooaajnkiokpnaaGreatDoor
