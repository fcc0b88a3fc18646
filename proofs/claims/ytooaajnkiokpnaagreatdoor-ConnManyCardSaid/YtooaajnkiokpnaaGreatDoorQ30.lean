/-
  Part of a proof: A reading's texts and limit, by their contracts. Conditions: those that each theorem names.
-/
import Derived.Test.YtooaajnkiokpnaaGreatDoorQ01
import Derived.Test.YtooaajnkiokpnaaGreatDoorQ27
import Derived.Test.YtooaajnkiokpnaaGreatDoorQ18
import Derived.Test.YtooaajnkiokpnaaGreatDoorQ16
import Derived.Deep.RegionHeld3
namespace Go.Proofs.YtooaajnkiokpnaaGreatDoor
open Go.RowKit Go.WideShapes
set_option maxHeartbeats 2000000
set_option maxRecDepth 100000
section
attribute [local irreducible] tot shr sz Qi Ja Jh yw Z9 Zf nOf hOf xr jk
theorem zf0(m:Nat)(hm:m<4294967296)(w:World)(base:Nat)(hb:base≤w.heap.size):Calls Tryz.prog 52 #[.int .u32 (m:Int)] w λe w'=>∃ge g,e=.returned (pt ge)∧En w' base ge g (.slice none 0 0) [] (min m 4096) false 0∧w.heap.size≤ge∧w.heap.size≤g∧Below w.heap.size w w':=by
 have hat:=λW=>vi m hm W
 have hmm:min m 4096<4294967296:=by omega
 have hnew:=λW=>zgr (min m 4096) hmm W
 unfold pt at *
 generalize min m 4096=M at *
 go_enter Tryz.func52,Tryz.ntmps52
 go_wp2_with fail
 refine(hat _).mono ?_
 rintro e w1 ⟨rfl,rfl⟩
 go_wp2_with fail
 refine(hnew _).mono ?_
 rintro e w1 ⟨rfl,hw1⟩
 have hT:Tb w1 base w.heap.size (.slice none 0 0) [] M:=by rw[hw1];exact Tb.new w M hb
 have hW:Below w.heap.size w w1:=by rw[hw1];exact(Below.refl _ _).alloc (Nat.le_refl _) _
 have hs:=hT.lt
 clear hw1 hat hnew
 have HT:=z2w hT
 have HW:=z2w hW
 clear hT hW
 go_wp2_with fail
 go_ret
 refine⟨w1.heap.size,w.heap.size,rfl,⟨HT.out.alloc _,Row.new w1 154 _,by omega,by simp[ob,Value.ownBlock],by omega⟩,by omega,Nat.le_refl _,HW.out.alloc (by omega) _⟩
theorem zfi{w:World}{B ge g:Nat}{v:Value}{L:List Fd}{M:Nat}{lim:Bool}{low:Nat}(h:En w B ge g v L M lim low)(hM:M≤4096)(hlow:low≤4096) :
  Calls Tryz.prog 113 #[pt ge,.slice none 0 0] w λe w'=>∃bv,e=.returned bv∧Bo w' w.heap.size 5 bv (Xe lim low M)∧En w' B ge g v L M false low∧Fs (λk=>k=ge) w w':=by
 have c1:=h.c1
 unfold Xe
 cases lim with
 |false=>
  have H:=z2w h
  unfold pt at *
  clear h
  go_enter Tryz.func113,Tryz.ntmps113
  go_wp2_with fail
  go_ret
  exact⟨.slice none 0 0,rfl,Bo.nil,H.out,Fs.refl _ _⟩
 |true=>
  have hth:=Row.thawed h.e 1
  have HE1:Hid (En (w.setCell ⟨ge,1,none⟩ (.bool false)) B ge g v L M false low):=
   ⟨h.t.keep (Below.heap_setCell w _ _ g (λe=>h.ne e.symm)) λk hk=>Below.heap_setCell w _ _ k (λe=>h.nv (by subst e;exact hk)),Row.stored h.e 1 _,h.ne,h.nv,h.lo⟩
  have HF1:Hid (Fs (λk=>k=ge) w (w.setCell ⟨ge,1,none⟩ (.bool false))):=(Fs.refl (λk=>k=ge) w).setCell (λ_=>rfl) _ _
  have hmo:=zok HE1.out.t.own
  have e0:=HE1.out.c0
  have e2:=HE1.out.c2
  have hgl:=h.lt
  have hgg:=h.t.lt
  have hvl:=λk hk=>(h.vlt (k:=k) hk).2
  have hss:(w.setCell ⟨ge,1,none⟩ (.bool false)).heap.size=w.heap.size:=by simp[World.setCell]
  have HVL:=z2w hvl
  have HSS:=z2w hss
  unfold pt at *
  clear h hvl hss
  by_cases hlt:low<M
  ·simp only[if_pos hlt,if_true]
   have hlt2:(low:Int)<(M:Int):=by omega
   have hp1:=y9 (k:=32) (n:=low) (l:=[]) (base:=w.heap.size) (v:=.slice none 0 0) (w:=w.setCell ⟨ge,1,none⟩ (.bool false)) (by unfold isKind;omega) (by omega) Bo.nil (by rw[HSS.out];exact Nat.le_refl _) (by simp)
   rw[List.nil_append] at hp1
   generalize hX:Ja 32 low=X at *
   have hXl:X.length≤5:=by rw[←hX];exact Jm _ _
   clear hX
   go_enter Tryz.func113,Tryz.ntmps113
   go_wp2_with fail
   generalize w.setCell ⟨ge,1,none⟩ (.bool false)=w1 at *
   refine hmo.mono ?_
   rintro e w1' ⟨rfl,hw⟩
   subst hw
   go_wp2_with fail
   refine hp1.mono ?_
   rintro e w2 ⟨bv,rfl,hO2,hF2,hN2⟩
   have hob:∀k,¬ob (.slice none 0 0) k:=λk e=>by simp[ob,Value.ownBlock] at e
   have HE2:=z2w (HE1.out.apart hF2 (hob _) (hob _) λk _=>hob k)
   have HF2:=z2w (HF1.out.trans hF2 λk _ e=>absurd e (hob k))
   have HO2:=z2w hO2
   have hs2:w.heap.size≤w2.heap.size:=HF2.out.size
   clear hF2 hN2 hO2 hp1 hmo HE1 HF1 e0 e2
   go_wp2_with fail
   refine(y9 (k:=32) (n:=M) (by unfold isKind;omega) (by omega) HO2.out hs2 (by omega)).mono ?_
   rintro e w3 ⟨bv3,rfl,hO3,hF3,hN3⟩
   have hapart:∀k,k<w.heap.size→¬ob bv k:=λk hk e=>by have:=(HO2.out.lt e).1;omega
   have HE3:=z2w (HE2.out.apart hF3 (hapart _ hgl) (hapart _ hgg) λk hk=>hapart k (HVL.out k hk))
   have HF3:=z2w (HF2.out.trans hF3 λk hk e=>absurd e (hapart k hk))
   have HO3:=z2w hO3
   clear hO3 hF3 hN3 HE2 HF2 HO2
   go_wp2_with fail
   go_ret
   exact⟨bv3,rfl,HO3.out,HE3.out,HF3.out⟩
  ·simp only[if_neg hlt,if_true,List.nil_append]
   have hlt2:decide ((low:Int)<(M:Int))=false:=by simp;omega
   have hp1:=y9 (k:=32) (n:=M) (l:=[]) (base:=w.heap.size) (v:=.slice none 0 0) (w:=w.setCell ⟨ge,1,none⟩ (.bool false)) (by unfold isKind;omega) (by omega) Bo.nil (by rw[HSS.out];exact Nat.le_refl _) (by simp)
   rw[List.nil_append] at hp1
   go_enter Tryz.func113,Tryz.ntmps113
   go_wp2_with fail
   generalize w.setCell ⟨ge,1,none⟩ (.bool false)=w1 at *
   refine hmo.mono ?_
   rintro e w1' ⟨rfl,hw⟩
   subst hw
   go_wp2_with fail
   refine hp1.mono ?_
   rintro e w2 ⟨bv,rfl,hO2,hF2,hN2⟩
   have hob:∀k,¬ob (.slice none 0 0) k:=λk e=>by simp[ob,Value.ownBlock] at e
   have HE2:=z2w (HE1.out.apart hF2 (hob _) (hob _) λk _=>hob k)
   have HF2:=z2w (HF1.out.trans hF2 λk _ e=>absurd e (hob k))
   have HO2:=z2w hO2
   clear hF2 hN2 hO2 hp1 hmo HE1 HF1 e0 e2
   go_wp2_with fail
   go_ret
   exact⟨bv,rfl,HO2.out,HE2.out,HF2.out⟩
end
section
attribute [local irreducible] tot shr sz first j9 Qm isN isB nmL vlL tab
def fv0:Value:=.agg #[tx [],tx [],.bool false]
theorem zpr(p:Value)(k:Nat)(hk:k<61)(w:World):Calls Tryz.prog 199 #[p,.int .i64 ((k:Int)+1)] w λe w'=>e=.returned (.tuple #[.agg #[tx (nmL k),tx (vlL k),.bool false],.bool true])∧Below w.heap.size w w':=by
 have hat:=zza k hk
 have hln:=Yn
 have hle:(k:Int)+1≤61:=by omega
 unfold tx at *
 go_enter Tryz.func199,Tryz.ntmps199
 go_wp2_with fail
 refine(hln _).mono ?_
 rintro e w1 ⟨rfl,rfl⟩
 go_wp2_with fail
 refine(hat _).mono ?_
 rintro e w2 ⟨rfl,hb2⟩
 have HR:=(Row.new w 57 #[.string ⟨#[]⟩,.string ⟨#[]⟩,.bool false]).below hb2 (by simp)
 have HB:=z2w (((Below.refl w.heap.size w).alloc (Nat.le_refl _) _).trans (hb2.mono (by simp)))
 clear hb2 hat hln
 go_wp2_with (refine wpList_store_row rfl 57 (.tmp 4) (.tmp 12) rfl w.heap.size #[.string ⟨(nmL k).toArray⟩,.string ⟨(vlL k).toArray⟩,.bool false] rfl rfl 57 _ HR (Qa _ rfl) rfl (by kernel_rfl) ?_)
 refine bodyPost_ret (Qt rfl _ _ w.heap.size _ rfl (HR.setRow _) rfl) rfl ⟨rfl,zd HB.out _ _ (Nat.le_refl _)⟩
theorem zuk(p:Value)(n:Int)(hn:n<1)(w:World):Calls Tryz.prog 199 #[p,.int .i64 n] w λe w'=>e=.returned (.tuple #[fv0,.bool false])∧Below w.heap.size w w':=by
 have hat:=z0d n (.inl hn)
 have hln:=Yn
 have hle:n≤61:=by omega
 unfold fv0 tx at *
 go_enter Tryz.func199,Tryz.ntmps199
 go_wp2_with fail
 refine(hln _).mono ?_
 rintro e w1 ⟨rfl,rfl⟩
 go_wp2_with fail
 refine(hat _).mono ?_
 rintro e w2 ⟨rfl,hb2⟩
 have HR:=(Row.new w 57 #[.string ⟨#[]⟩,.string ⟨#[]⟩,.bool false]).below hb2 (by simp)
 have HB:=z2w (((Below.refl w.heap.size w).alloc (Nat.le_refl _) _).trans (hb2.mono (by simp)))
 clear hb2 hat hln
 go_wp2_with (refine wpList_store_row rfl 57 (.tmp 4) (.tmp 12) rfl w.heap.size #[.string ⟨#[]⟩,.string ⟨#[]⟩,.bool false] rfl rfl 57 _ HR (Qa _ rfl) rfl (by kernel_rfl) ?_)
 refine bodyPost_ret (Qt rfl _ _ w.heap.size _ rfl (HR.setRow _) rfl) rfl ⟨rfl,zd HB.out _ _ (Nat.le_refl _)⟩
theorem zui{base g most:Nat}{v:Value}{L:List Fd}{w:World}(h:Tb w base g v L most)(n:Int)(hn:62+(L.length:Int)≤n)(hn2:n≤9223372036854775807):Calls Tryz.prog 199 #[pt g,.int .i64 n] w λe w'=>e=.returned (.tuple #[fv0,.bool false])∧Below w.heap.size w w':=by
 obtain⟨A,c,rfl,hc1,hc2⟩:=h.shape
 have hT:TabR (w.alloc (.cells #[.string ⟨#[]⟩,.string ⟨#[]⟩,.bool false] 57)) g (.slice A L.length c) (tot L) most:=Row.alloc h.own _
 have hln:=Yn
 have hle:decide (n≤61)=false:=by simp;omega
 have hnl:=Yx hT
 have h0:(L.length:Int)<n-61:=by omega
 have HR:=Row.new w 57 #[.string ⟨#[]⟩,.string ⟨#[]⟩,.bool false]
 have HB:=z2w ((Below.refl w.heap.size w).alloc (Nat.le_refl _) (.cells #[.string ⟨#[]⟩,.string ⟨#[]⟩,.bool false] 57))
 clear h hT
 unfold fv0 pt tx at *
 go_enter Tryz.func199,Tryz.ntmps199
 go_wp2_with fail
 refine(hln _).mono ?_
 rintro e w1 ⟨rfl,rfl⟩
 go_wp2_with fail
 refine(hln _).mono ?_
 rintro e w1 ⟨rfl,rfl⟩
 go_wp2_with fail
 refine hnl.mono ?_
 rintro e w1 ⟨rfl,rfl⟩
 clear hnl
 generalize w.alloc (.cells #[.string ⟨#[]⟩,.string ⟨#[]⟩,.bool false] 57)=w2 at *
 go_wp2_with (refine wpList_store_row rfl 57 (.tmp 4) (.tmp 21) rfl w.heap.size #[.string ⟨#[]⟩,.string ⟨#[]⟩,.bool false] rfl rfl 57 _ HR (Qa _ rfl) rfl (by kernel_rfl) ?_)
 refine bodyPost_ret (Qt rfl _ _ w.heap.size _ rfl (HR.setRow _) rfl) rfl ⟨rfl,zd HB.out _ _ (Nat.le_refl _)⟩
theorem zvo{base g most:Nat}{v:Value}{L:List Fd}{w:World}(h:Tb w base g v L most)(i:Nat)(hi:i<L.length)(hL:L.length≤2147483648) :
  Calls Tryz.prog 199 #[pt g,.int .i64 (62+(i:Int))] w λe w'=>e=.returned (.tuple #[fv (L[L.length-1-i]'(by omega)),.bool true])∧Below w.heap.size w w':=by
 obtain⟨A,c,rfl,hc1,hc2⟩:=h.shape
 obtain⟨j,hj⟩:∃j,j=L.length-1-i:=⟨_,rfl⟩
 have hjl:j<L.length:=by omega
 have hLj:(L[L.length-1-i]'(by omega))=L[j]:=by simp[hj]
 rw[hLj]
 obtain⟨b,q,hA,hbg,e0,e1,e2⟩:=h.field hjl
 subst hA
 have hgl:=h.lt
 have hT:TabR (w.alloc (.cells #[.string ⟨#[]⟩,.string ⟨#[]⟩,.bool false] 57)) g (.slice (some ⟨b,q,none⟩) L.length c) (tot L) most:=Row.alloc h.own _
 have f0:=(World.cell?_alloc_lt w (.cells #[.string ⟨#[]⟩,.string ⟨#[]⟩,.bool false] 57) ⟨b,q+j*3,none⟩ (World.block_lt_of_cell? _ _ e0)).trans e0
 have f1:=(World.cell?_alloc_lt w (.cells #[.string ⟨#[]⟩,.string ⟨#[]⟩,.bool false] 57) ⟨b,q+j*3+1,none⟩ (World.block_lt_of_cell? _ _ e1)).trans e1
 have f2:=(World.cell?_alloc_lt w (.cells #[.string ⟨#[]⟩,.string ⟨#[]⟩,.bool false] 57) ⟨b,q+j*3+2,none⟩ (World.block_lt_of_cell? _ _ e2)).trans e2
 have hbl:b≠w.heap.size:=by have:=World.block_lt_of_cell? _ _ e0;simp at this;omega
 have hln:=Yn
 have hle:decide ((62:Int)+i≤61)=false:=by simp;omega
 have hgn:decide ((L.length:Int)<(i:Int)+1)=false:=by simp;omega
 have hage:(62:Int)+i-61=(i:Int)+1:=by omega
 have hnl:=Yx hT
 have c0:=hT.c0
 have hgs:w.heap.size≠g:=by omega
 have HR:=Row.new w 57 #[.string ⟨#[]⟩,.string ⟨#[]⟩,.bool false]
 have HB:=z2w ((Below.refl w.heap.size w).alloc (Nat.le_refl _) (.cells #[.string ⟨#[]⟩,.string ⟨#[]⟩,.bool false] 57))
 have hsub:(L.length:Int)-((i:Int)+1)=(j:Int):=by omega
 have hwr:IntKind.i64.wrap (j:Int)=(j:Int):=IntWalk.i64_in _ (by omega)
 have hj0:(0:Int)≤(j:Int):=by omega
 have hj1:(j:Int)<(L.length:Int):=by omega
 have HT:=z2w hT
 clear h hT hj e0 e1 e2 hLj hgl
 unfold fv pt tx at *
 generalize L[j].nm=x at f0 ⊢
 generalize L[j].vl=y at f1 ⊢
 generalize L[j].nv=z at f2 ⊢
 go_enter Tryz.func199,Tryz.ntmps199
 go_wp2_with fail
 refine(hln _).mono ?_
 rintro e w1 ⟨rfl,rfl⟩
 go_wp2_with fail
 refine(hln _).mono ?_
 rintro e w1 ⟨rfl,rfl⟩
 go_wp2_with fail
 refine hnl.mono ?_
 rintro e w1 ⟨rfl,rfl⟩
 clear hnl
 generalize w.alloc (.cells #[.string ⟨#[]⟩,.string ⟨#[]⟩,.bool false] 57)=w2 at *
 go_wp2_with fail
 have hnd:=Yx (w:=w2.drew) (g:=g) HT.out
 unfold pt at hnd
 have HRd:Hid (Row w2.drew w.heap.size 57 #[.string ⟨#[]⟩,.string ⟨#[]⟩,.bool false]):=HR
 have r0:=HR.cell (j:=0) rfl
 have r1:=HR.cell (j:=1) rfl
 have r2:=HR.cell (j:=2) rfl
 have z0:=HR.thawed 0
 have z1:=HR.thawed 1
 have z2:=HR.thawed 2
 have hbl2:w.heap.size≠b:=λe=>hbl e.symm
 go_region_held3 (λw'=>w'.cell? ⟨g,0,none⟩=some (.slice (some ⟨b,q,none⟩) L.length c)∧w'.cell? ⟨b,q+j*3,none⟩=some (.string ⟨x.toArray⟩)∧w'.cell? ⟨b,q+j*3+1,none⟩=some (.string ⟨y.toArray⟩)∧w'.cell? ⟨b,q+j*3+2,none⟩=some (.bool z)) (go_keep)
  (first|(go_at_call 179;refine hnd.mono ?_;rintro e w' ⟨rfl,rfl⟩))
 rename_i hHeld
 clear hHeld
 have HR9:Hid (Row (((w2.setCell ⟨w.heap.size,0,none⟩ (.string ⟨x.toArray⟩)).setCell ⟨w.heap.size,1,none⟩ (.string ⟨y.toArray⟩)).setCell ⟨w.heap.size,2,none⟩ (.bool z)).drew w.heap.size 57 #[.string ⟨x.toArray⟩,.string ⟨y.toArray⟩,.bool z]):=((HR.stored 0 _).stored 1 _).stored 2 _
 have HB9:Hid (Below w.heap.size w (((w2.setCell ⟨w.heap.size,0,none⟩ (.string ⟨x.toArray⟩)).setCell ⟨w.heap.size,1,none⟩ (.string ⟨y.toArray⟩)).setCell ⟨w.heap.size,2,none⟩ (.bool z)).drew):=
  (((HB.out.setCell (Nat.le_refl _) _).setCell (Nat.le_refl _) _).setCell (Nat.le_refl _) _).drew
 generalize (((w2.setCell ⟨w.heap.size,0,none⟩ (.string ⟨x.toArray⟩)).setCell ⟨w.heap.size,1,none⟩ (.string ⟨y.toArray⟩)).setCell ⟨w.heap.size,2,none⟩ (.bool z)).drew=w9 at *
 go_wp2_with fail
 refine bodyPost_ret (Qt rfl _ _ w.heap.size _ rfl HR9.out rfl) rfl ⟨rfl,HB9.out⟩
end
section
theorem zia{M:Nat}:∀{r L:List Fd},(∀f∈r,f.nm.length≤9000∧f.vl.length≤9000)→(xr M L r).length≤r.length*18015
 |[],_,_=>by simp[xr]
 |f :: r,L,h=>by
  have h1:=zq2 L f
  have h2:=h f (by simp)
  have h3:=zia (M:=M) (r:=r) (L:=Zf M L f) λx hx=>h x (by simp[hx])
  simp only[xr,List.length_append,List.length_cons]
  omega
theorem zq7(lim:Bool)(low M:Nat):(Xe lim low M).length≤10:=by
 have h1:=Jm 32 low
 have h2:=Jm 32 M
 unfold Xe
 split
 ·split
  ·rw[List.length_append];omega
  ·simp;omega
 ·simp
structure Pu(w wr:World)(B ge g:Nat)(v vr bv:Value)(bs:List UInt8)(L:List Fd)(M low:Nat):Prop where
 bo:Bo wr w.heap.size 5 bv bs
 en:En wr B ge g vr L M false low
 fs:Fs (λk=>k=ge∨k=g∨ob v k) w wr
 nx:Nx w v vr
 ap:∀k,ob bv k→¬ob vr k
def z0u(w:World)(B ge g:Nat)(v:Value)(bs:List UInt8)(L:List Fd)(M low:Nat)(e:Ending)(w':World):Prop:=∃bv vr,e=.returned bv∧Pu w w' B ge g v vr bv bs L M low
theorem Pu.alloc{w wr:World}{B ge g:Nat}{v vr bv:Value}{bs:List UInt8}{L:List Fd}{M low:Nat}(h:Pu w wr B ge g v vr bv bs L M low)(x:Obj):Pu w (wr.alloc x) B ge g v vr bv bs L M low:=by
 have hb:=(Below.refl wr.heap.size wr).alloc (Nat.le_refl _) x
 exact⟨h.bo.below hb,h.en.below hb,h.fs.then_below hb,h.nx,h.ap⟩
theorem Pu.step{w wr w':World}{B ge g:Nat}{v vr bv:Value}{bs bs':List UInt8}{L L':List Fd}{M low:Nat}{e:Ending}(h:Pu w wr B ge g v vr bv bs L M low)(hm:MadeF wr w.heap.size B ge g vr bv bs' L' M false low e w') :
  ∃bv' vr',e=.returned bv'∧Pu w w' B ge g v vr' bv' bs' L' M low:=by
 obtain⟨bv',vr',rfl,h1,h2,h3,h4,h5,h6⟩:=hm
 refine⟨bv',vr',rfl,h1,h2,h.fs.trans h4 λk hk e=>?_,h.nx.trans h5 h.fs.size,h3⟩
 rcases e with e|e|e
 ·exact .inr (.inl e)
 ·rcases h.nx.own e with e1|e1
  ·exact .inr (.inr e1)
  ·omega
 ·have:=(h.bo.lt e).1;omega
attribute [local irreducible] tot shr sz Qi Ja Jh yw Z9 Zf nOf hOf xr jk Xe
theorem zuv{w:World}{B ge g:Nat}{v:Value}{L:List Fd}{M:Nat}{lim:Bool}{low:Nat}{S:Nat→Prop}{A:Option Addr}{c:Nat}{F:List Fd}(h:En w B ge g v L M lim low)(hM:M≤4096)(hL:tot L≤M)(hlow:low≤4096)
  (hR:RdS w S A (enl fdc F)) (hS:∀k,S k→k<w.heap.size∧k≠ge∧k≠g∧¬ob v k) (hF:∀f∈F,f.nm.length≤9000∧f.vl.length≤9000) (hn:F.length≤1000) :
  Calls Tryz.prog 72 #[pt ge,.slice A F.length c] w (z0u w B ge g v (Xe lim low M++xr M L F) (jk M L F) M low):=by
 have hlim:=zfi h hM hlow
 have hge:=h.lt
 have hgg:=h.t.lt
 have hvl:=λk hk=>(h.vlt (k:=k) hk).2
 have hll:=zq7 lim low M
 have hputl:=λk=>zia (M:=M) (L:=L) (r:=F.take k) λf hf=>hF f (List.mem_of_mem_take hf)
 have HPL:Hid (∀k,k≤F.length→(xr M L (F.take k)).length≤18015000):=λk hk=>by
  have:=hputl k
  rw[List.length_take] at this
  have h2:min k F.length≤1000:=by omega
  have h3:=Nat.mul_le_mul_right 18015 h2
  omega
 have HVL:=z2w hvl
 have HS:=z2w hS
 have HF:=z2w hF
 have HR:=z2w hR
 have HT0:Hid (∀k,tot (jk M L (F.take k))≤M):=λk=>zjw hL
 have HA0:Hid (xr M L (F.take 0)=[]∧jk M L (F.take 0)=L):=by show _∧_;simp[xr,jk]
 have HAk:Hid (∀k,(hk:k<F.length)→xr M L (F.take (k+1))=xr M L (F.take k)++Z9 (jk M L (F.take k)) F[k]∧jk M L (F.take (k+1))=Zf M (jk M L (F.take k)) F[k]):=λk hk=>⟨zpo hk,zn4 hk⟩
 have HAn:Hid (F.take F.length=F):=List.take_length
 unfold pt at *
 clear h hvl hS hF hR hputl
 go_enter Tryz.func72,Tryz.ntmps72
 go_wp2_with fail
 refine hlim.mono ?_
 rintro e w1 ⟨bv,rfl,hO1,hE1,hF1⟩
 have HP1:Hid (Pu w w1 B ge g v v bv (Xe lim low M++xr M L (F.take 0)) (jk M L (F.take 0)) M low):=by
  show Pu _ _ _ _ _ _ _ _ _ _ _ _
  rw[HA0.out.1,HA0.out.2,List.append_nil]
  exact⟨hO1,hE1,hF1.mono λ_ _ e=>.inl e,Nx.refl w v,λk hk e=>by have:=(hO1.lt hk).1;have:=HVL.out k e;omega⟩
 clear hO1 hE1 hF1 HA0 hlim
 go_wp2_with fail
 go_loopw [5,14] (λb i wr=>∃(k:Nat) (bv vr:Value),k≤F.length∧i=.int .i64 k∧b=bv∧Hid (Pu w wr B ge g v vr bv (Xe lim low M++xr M L (F.take k)) (jk M L (F.take k)) M low))
  (λ_ i _=>F.length-(intOf i).toNat)
 case atStart=>exact⟨0,bv,v,Nat.zero_le _,rfl,rfl,HP1⟩
 case round=>
  clear HP1
  obtain⟨k,bv,vr,hk,rfl,rfl,hP⟩:=hrel
  by_cases hlt:k<F.length
  ·have hRw:RdS wr S A (enl fdc F):=hP.out.fs.reads HR.out λk hk=>⟨(HS.out k hk).1,λe=>by
    have:=HS.out k hk
    rcases e with e|e|e
    ·exact this.2.1 e
    ·exact this.2.2.1 e
    ·exact this.2.2.2 e⟩
   obtain⟨q,o,rfl,hq,f0,f1,f2⟩:=hRw.field hlt
   have hff:=HF.out _ (List.getElem_mem hlt)
   have hak:=HAk.out k hlt
   have htk:=HT0.out k
   have hpk:=HPL.out k hk
   unfold tx at f0 f1
   have HP2:=z2w (hP.out.alloc (.cells #[.string ⟨F[k].nm.toArray⟩,.string ⟨F[k].vl.toArray⟩,.bool F[k].nv] 57))
   have hws:w.heap.size≤(wr.alloc (.cells #[.string ⟨F[k].nm.toArray⟩,.string ⟨F[k].vl.toArray⟩,.bool F[k].nv] 57)).heap.size:=HP2.out.fs.size
   have hpf:=zg2 (f:=F[k]) hff.1 hff.2 hM htk HP2.out.en HP2.out.bo hge hgg HP2.out.ap hws (by rw[List.length_append];omega)
   rw[List.append_assoc,←hak.1,←hak.2] at hpf
   unfold pt fv tx at hpf
   have HFk:Hid (F[k]=F[k]):=rfl
   generalize F[k].nm=a at *
   generalize F[k].vl=b at *
   generalize F[k].nv=nv at *
   clear hak htk hpk hff HFk hRw hP hws
   go_wp2_with fail
   refine hpf.mono ?_
   intro e w2 hm
   obtain⟨bv2,vr2,rfl,hP2⟩:=HP2.out.step hm
   have HP3:=z2w hP2
   clear hP2 hm HP2 hpf
   go_wp2_with fail
   go_roundw
   case rel=>exact⟨k+1,bv2,vr2,by omega,by go_num,rfl,HP3⟩
   case measure=>simp[intOf];omega
  ·obtain rfl:k=F.length:=by omega
   go_wp2_with fail
   go_ret
   have:=hP.out
   rw[HAn.out] at this
   exact⟨_,vr,rfl,this⟩
end
section
def EB(ge g:Nat)(v:Value)(k:Nat):Prop:=k=ge∨k=g∨ob v k
def Dis(S T:Nat→Prop):Prop:=∀k,S k→¬T k
section
variable {w w':World}{B ge g:Nat}{v v':Value}{L:List Fd}{M:Nat}{lim:Bool}{low:Nat}{S T:Nat→Prop}
theorem EB.next(hN:Nx w v v'){k:Nat}(hk:EB ge g v' k):EB ge g v k∨w.heap.size≤k:=by
 rcases hk with rfl|rfl|hk
 ·exact .inl (.inl rfl)
 ·exact .inl (.inr (.inl rfl))
 ·rcases hN.own hk with h|h
  ·exact .inl (.inr (.inr h))
  ·exact .inr h
end
end
section
structure Dn(w:World)(base gd g:Nat)(v:Value)(L:List Fd)(M cap:Nat):Prop where
 t:Tb w base g v L M
 d:Row w gd 152 #[pt g,.int .i64 (cap:Int)]
 ne:gd≠g
 nv:¬ob v gd
 lo:base≤gd
section
variable {w w':World}{base gd g:Nat}{v v':Value}{L:List Fd}{M cap:Nat}{S:Nat→Prop}
theorem Dn.lt(h:Dn w base gd g v L M cap):gd<w.heap.size:=Row.lt h.d
theorem Dn.vlt(h:Dn w base gd g v L M cap){k:Nat}(hk:ob v k):base≤k∧k<w.heap.size:=h.t.row.lt k hk
theorem Dn.eb(h:Dn w base gd g v L M cap){k:Nat}(hk:EB gd g v k):base≤k∧k<w.heap.size:=by
 rcases hk with rfl|rfl|hk
 ·exact⟨h.lo,h.lt⟩
 ·exact⟨h.t.low,h.t.lt⟩
 ·exact h.vlt hk
theorem Dn.below(h:Dn w base gd g v L M cap)(hb:Below w.heap.size w w'):Dn w' base gd g v L M cap:=⟨h.t.below hb,h.d.below hb h.lt,h.ne,h.nv,h.lo⟩
theorem Dn.dis(h:Dn w base gd g v L M cap)(hF:Fs S w w')(hd:Dis (EB gd g v) S):Dn w' base gd g v L M cap:=
 ⟨hF.tb h.t (hd _ (.inr (.inl rfl))) λk hk=>hd k (.inr (.inr hk)),hF.row (hd _ (.inl rfl)) h.d,h.ne,h.nv,h.lo⟩
theorem Dn.stepT(h:Dn w base gd g v L M cap){L':List Fd}{M':Nat}(hT:Tb w' base g v' L' M')(hF:Fs (λk=>k=g∨ob v k) w w')(hN:Nx w v v'):Dn w' base gd g v' L' M' cap:=
 ⟨hT,hF.row (λe=>by rcases e with e|e;exact h.ne e;exact h.nv e) h.d,h.ne,hN.not h.lt h.nv,h.lo⟩
theorem Dn.c0(h:Dn w base gd g v L M cap):w.cell? ⟨gd,0,none⟩=some (pt g):=h.d.cell (j:=0) rfl
theorem Dn.c1(h:Dn w base gd g v L M cap):w.cell? ⟨gd,1,none⟩=some (.int .i64 (cap:Int)):=h.d.cell (j:=1) rfl
end
def AtV(o:Option Fd):Value:=.tuple #[fv (o.getD ⟨[],[],false⟩),.bool o.isSome]
theorem zji{w:World}{base g:Nat}{v:Value}{L:List Fd}{M:Nat}(h:Tb w base g v L M)(n:Nat)(hn:n≤1099511627776)(hL:L.length≤2147483648) :
  Calls Tryz.prog 199 #[pt g,.int .i64 (n:Int)] w λe w'=>e=.returned (AtV (atT L n))∧Below w.heap.size w w':=by
 unfold atT AtV
 by_cases h0:n=0
 ·subst h0
  exact(zuk (pt g) 0 (by omega) w).mono λe w' he=>he
 ·rw[if_neg h0]
  by_cases h1:n≤61
  ·rw[if_pos h1]
   obtain⟨k,rfl⟩:∃k,n=k+1:=⟨n-1,by omega⟩
   have:=zpr (pt g) k (by omega) w
   rw[show ((k+1:Nat):Int)=(k:Int)+1 by omega]
   exact this.mono λe w' he=>he
  ·rw[if_neg h1]
   by_cases h2:n-62<L.length
   ·obtain⟨i,rfl⟩:∃i,n=62+i:=⟨n-62,by omega⟩
    have hi:i<L.length:=by omega
    have:=zvo h i hi hL
    rw[show 62+i-62=i by omega,List.getElem?_eq_getElem (by simpa using hi),List.getElem_reverse]
    rw[show ((62+i:Nat):Int)=62+(i:Int) by omega]
    exact this.mono λe w' he=>he
   ·rw[List.getElem?_eq_none (by simp;omega)]
    exact(zui h (n:Int) (by omega) (by omega)).mono λe w' he=>he
structure Rx(w:World)(base bd:Nat)(S:Nat→Prop)(gr gd g:Nat)(v fw sv:Value)(L:List Fd)(M cap:Nat)(l:List UInt8):Prop where
 r:Rs w S gr (pt gd) fw sv l
 d:Dn w bd gd g v L M cap
 s:∀k,S k→k<base∧¬EB gd g v k
 lo:base≤gr
 ap:¬EB gd g v gr
theorem Rx.text{w w':World}{base bd:Nat}{S:Nat→Prop}{gr gd g:Nat}{v fw sv:Value}{L:List Fd}{M cap:Nat}{l l':List UInt8}(h:Rx w base bd S gr gd g v fw sv L M cap l)(hF:Fs (λk=>k=gr) w w')(hr:Rs w' S gr (pt gd) fw sv l'):Rx w' base bd S gr gd g v fw sv L M cap l':=
 ⟨hr,h.d.dis hF λk hk e=>h.ap (by rw[←e];exact hk),h.s,h.lo,h.ap⟩
theorem Rx.lts{w:World}{base bd:Nat}{S:Nat→Prop}{gr gd g:Nat}{v fw sv:Value}{L:List Fd}{M cap:Nat}{l:List UInt8}(h:Rx w base bd S gr gd g v fw sv L M cap l):∀k,S k→k<w.heap.size:=λk hk=>by
 have:=(h.s k hk).1
 have:=h.lo
 have:=h.r.lt
 omega
theorem Rx.below{w w':World}{base bd:Nat}{S:Nat→Prop}{gr gd g:Nat}{v fw sv:Value}{L:List Fd}{M cap:Nat}{l:List UInt8}(h:Rx w base bd S gr gd g v fw sv L M cap l)(hb:Below w.heap.size w w'):Rx w' base bd S gr gd g v fw sv L M cap l:=
 ⟨h.r.below hb h.lts,h.d.below hb,h.s,h.lo,h.ap⟩
attribute [local irreducible] zs Qn yr atT tot sz shr
theorem zpv{w:World}{base bd:Nat}{S:Nat→Prop}{gr gd g:Nat}{v fw sv:Value}{L:List Fd}{M cap:Nat}{l:List UInt8}(n:Nat)(hn:n≤268435456)(hl:l.length≤12000)(hL:L.length≤2147483648)(h:Rx w base bd S gr gd g v fw sv L M cap l) :
  Calls Tryz.prog 222 #[pt gr,.int .i64 (n:Int)] w (zfu w S gr (pt gd) fw sv (Qe L n l)):=by
 by_cases h0:n=0
 ·subst h0
  have htx:=zge hl h.r h.lts
  unfold Qe
  rw[if_pos rfl]
  generalize yr l=X at *
  unfold pt at *
  have HX:Hid (zfu w S gr (.pointer (some ⟨gd,0,none⟩)) fw sv X=zfu w S gr (.pointer (some ⟨gd,0,none⟩)) fw sv X):=rfl
  go_enter Tryz.func222,Tryz.ntmps222
  go_wp2_with fail
  refine htx.mono ?_
  intro e w1 he
  cases X with
  |none=>
   obtain⟨hF,s,rfl⟩:=he
   go_wp2_with fail
   go_ret2
   exact⟨hF,s,rfl⟩
  |some x=>
   obtain⟨a,r⟩:=x
   obtain⟨hF,rfl,hr⟩:=he
   unfold tx
   have HF:=z2w hF
   have HR:=z2w hr
   clear hF hr
   go_wp2_with fail
   go_ret2
   exact⟨HF.out,rfl,HR.out⟩
 ·have hat:=zji h.d.t n (by omega) hL
  obtain⟨A,c,hR,hc,hA,hns⟩:=h.r
  have r0:=hR.cell (j:=0) rfl
  have d0:=h.d.c0
  have hz:((n:Int) == 0)=false:=by rw[beq_eq_false_iff_ne];omega
  have HH:=z2w h
  unfold Qe
  rw[if_neg h0]
  unfold AtV at hat
  obtain⟨X,hX⟩:∃X,X=atT L n:=⟨_,rfl⟩
  rw[←hX] at hat ⊢
  have HX:=z2w hX
  clear hX h hR hA
  unfold pt fv tx at *
  cases X with
  |none=>
   simp only[Option.getD_none,Option.isSome_none] at hat
   go_enter Tryz.func222,Tryz.ntmps222
   go_wp2_with fail
   refine hat.mono ?_
   rintro e w1 ⟨rfl,hb1⟩
   have HB1:=z2w hb1
   clear hb1 hat
   go_wp2_with fail
   go_ret2
   exact⟨Fs.of_below (HB1.out.alloc HB1.out.size _),_,rfl⟩
  |some f=>
   simp only[Option.getD_some,Option.isSome_some] at hat
   go_enter Tryz.func222,Tryz.ntmps222
   go_wp2_with fail
   refine hat.mono ?_
   rintro e w1 ⟨rfl,hb1⟩
   have HB1:=z2w hb1
   clear hb1 hat
   go_wp2_with fail
   go_ret2
   exact⟨Fs.of_below (HB1.out.alloc HB1.out.size _),rfl,(HH.out.below (HB1.out.alloc HB1.out.size _)).r⟩
end
section
def zzk(w:World)(S:Nat→Prop)(gr pf:Nat)(d fw sv:Value)(o:Option (Fd × List UInt8))(e:Ending)(w':World):Prop:=
 Fs (λk=>k=gr∨k=pf) w w'∧match o with
  |none=>e=.returned (.bool false)
  |some (f,r)=>e=.returned (.bool true)∧Rs w' S gr d fw sv r∧Row w' pf 57 #[tx f.nm,tx f.vl,.bool f.nv]
theorem Rs.setOther{w:World}{S:Nat→Prop}{gr pf j:Nat}{d fw sv x:Value}{l:List UInt8}(h:Rs w S gr d fw sv l)(hp:pf≠gr)(hS:∀k,S k→k<w.heap.size∧k≠pf):Rs (w.setCell ⟨pf,j,none⟩ x) S gr d fw sv l:=
 h.apart (T:=λk=>k=pf) ((Fs.refl (λk=>k=pf) w).setCell (λ_=>rfl) _ _) (λe=>hp e.symm) (λk hk e=>(hS k hk).2 e) λk hk=>(hS k hk).1
attribute [local irreducible] zs Qn yr atT tot sz shr Qe
theorem V5{w:World}{base bd:Nat}{S:Nat→Prop}{gr gd g pf:Nat}{v fw sv:Value}{L:List Fd}{M cap:Nat}{l:List UInt8}{x0 x1:Value}{nv:Bool}(n:Nat)(hn:n≤268435456)(hl:l.length≤12000)(hL:L.length≤2147483648)(h:Rx w base bd S gr gd g v fw sv L M cap l)
  (hp:Row w pf 57 #[x0,x1,.bool nv]) (hpb:base≤pf) (hpg:pf≠gr) :
  Calls Tryz.prog 200 #[pt gr,pt pf,.int .i64 (n:Int)] w (zzk w S gr pf (pt gd) fw sv (jo L n nv l)):=by
 have hnm:=zpv n hn hl hL h
 have hlts:=h.lts
 have hSb:=h.s
 have hrest:∀a r,Qe L n l=some (a,r)→r.length≤12000:=λa r e=>by have:=Y5 e;omega
 have HTR:Hid (∀X,X=Qe L n l→jo L n nv l=(match X with
   |none=>none
   |some (a,r)=>match yr r with
    |none=>none
    |some (b,r')=>some (⟨a,b,nv⟩,r'))):=λX e=>by subst e;rfl
 obtain⟨X,hX⟩:∃X,X=Qe L n l:=⟨_,rfl⟩
 obtain⟨Z,hZ⟩:∃Z,Z=jo L n nv l:=⟨_,rfl⟩
 rw[←hX] at hnm hrest
 rw[←hZ]
 have HZ:=z2w (hZ.trans (HTR.out X hX))
 have HPS:Hid (∀k,S k→k<w.heap.size∧k≠pf):=λk hk=>⟨hlts k hk,by have:=(hSb k hk).1;omega⟩
 have HP:=z2w hp
 have HLT:=z2w hlts
 clear hX hZ HTR h hp hlts hSb
 unfold pt at *
 go_enter Tryz.func200,Tryz.ntmps200
 go_wp2_with fail
 refine hnm.mono ?_
 intro e w1 he
 cases X with
 |none=>
  obtain⟨hF,s,rfl⟩:=he
  have hZ:Z=none:=HZ.out
  subst hZ
  have hp1:=hF.row hpg HP.out
  have c0:=hp1.cell (j:=0) rfl
  have z0:=hp1.thawed 0
  have HF2:Hid (Fs (λk=>k=gr∨k=pf) w (w1.setCell ⟨pf,0,none⟩ (.string s))):=(hF.mono (S':=λk=>k=gr∨k=pf) λk _ e=>.inl e).setCell (λ_=>.inr rfl) _ _
  clear hF hp1 hnm
  go_wp2_with fail
  go_ret
  exact⟨HF2.out,rfl⟩
 |some x=>
  obtain⟨a,r⟩:=x
  obtain⟨hF,rfl,hr⟩:=he
  have hp1:=hF.row hpg HP.out
  have c0:=hp1.cell (j:=0) rfl
  have z0:=hp1.thawed 0
  have hs1:=hF.size
  have HF2:Hid (Fs (λk=>k=gr∨k=pf) w (w1.setCell ⟨pf,0,none⟩ (tx a))):=(hF.mono (S':=λk=>k=gr∨k=pf) λk _ e=>.inl e).setCell (λ_=>.inr rfl) _ _
  have hS1:∀k,S k→k<w1.heap.size∧k≠pf:=λk hk=>⟨by have:=(HPS.out k hk).1;omega,(HPS.out k hk).2⟩
  have hr2:=hr.setOther (j:=0) (x:=tx a) hpg hS1
  have hS2:∀k,S k→k<(w1.setCell ⟨pf,0,none⟩ (tx a)).heap.size:=λk hk=>by have:=(hS1 k hk).1;simpa [World.setCell] using this
  have htx:=zge (hrest a r rfl) hr2 hS2
  have HP2:Hid (Row (w1.setCell ⟨pf,0,none⟩ (tx a)) pf 57 #[tx a,x1,.bool nv]):=Row.stored hp1 0 _
  have HZ2:Hid (Z=match yr r with
    |none=>none
    |some (b,r')=>some (⟨a,b,nv⟩,r')):=HZ.out
  generalize yr r=Y at *
  unfold tx pt at *
  clear hF hp1 hnm hr hr2 hS1 hrest HZ HP
  go_wp2_with fail
  generalize w1.setCell ⟨pf,0,none⟩ (.string ⟨a.toArray⟩)=w2 at *
  refine htx.mono ?_
  intro e w3 he
  cases Y with
  |none=>
   obtain⟨hF,s,rfl⟩:=he
   have hZ:Z=none:=HZ2.out
   subst hZ
   have hp3:=hF.row hpg HP2.out
   have c1:=hp3.cell (j:=1) rfl
   have z1:=hp3.thawed 1
   have HF3:Hid (Fs (λk=>k=gr∨k=pf) w (w3.setCell ⟨pf,1,none⟩ (.string s))):=(HF2.out.trans hF λk _ e=>.inl e).setCell (λ_=>.inr rfl) _ _
   clear hF hp3 htx c0 z0
   go_wp2_with fail
   go_ret
   exact⟨HF3.out,rfl⟩
  |some y=>
   obtain⟨b,r'⟩:=y
   obtain⟨hF,rfl,hr⟩:=he
   have hZ:Z=some (⟨a,b,nv⟩,r'):=HZ2.out
   subst hZ
   have hp3:=hF.row hpg HP2.out
   have c1:=hp3.cell (j:=1) rfl
   have z1:=hp3.thawed 1
   have HF3:Hid (Fs (λk=>k=gr∨k=pf) w (w3.setCell ⟨pf,1,none⟩ (tx b))):=(HF2.out.trans hF λk _ e=>.inl e).setCell (λ_=>.inr rfl) _ _
   have HR3:=z2w (hr.setOther (j:=1) (x:=tx b) hpg λk hk=>⟨by have:=hS2 k hk;have:=hF.size;omega,(HPS.out k hk).2⟩)
   have HP3:Hid (Row (w3.setCell ⟨pf,1,none⟩ (tx b)) pf 57 #[tx a,tx b,.bool nv]):=Row.stored hp3 1 _
   unfold tx at *
   clear hF hp3 htx hr c0 z0
   go_wp2_with fail
   go_ret
   exact⟨HF3.out,rfl,HR3.out,HP3.out⟩
def z2i(w:World)(base bd:Nat)(S:Nat→Prop)(gr gd g:Nat)(v fw sv:Value)(L:List Fd)(cap:Nat)(l:List UInt8)(no:Prop)(n:Nat)(e:Ending)(w':World):Prop:=
 (no∧e=.returned (.bool false)∧w=w')∨(¬no∧e=.returned (.bool true)∧∃v',Rx w' base bd S gr gd g v' fw sv (shr (n:Int) L) n cap l∧Fs (λk=>k=g∨ob v k) w w'∧Nx w v v')
theorem zmf{w:World}{base bd:Nat}{S:Nat→Prop}{gr gd g:Nat}{v fw:Value}{z:Nat}{L:List Fd}{M cap:Nat}{l:List UInt8}(n:Nat)(hn:n≤268435456)(_hcap:cap≤4096)(hM:M≤4096)(hL:tot L≤M)(h:Rx w base bd S gr gd g v fw (.int .i64 (z:Int)) L M cap l) :
  Calls Tryz.prog 198 #[pt gr,.int .i64 (n:Int)] w (z2i w base bd S gr gd g v fw (.int .i64 (z:Int)) L cap l (0<z∨cap<n) n):=by
 have hlim:=X3 n (by omega) (by omega) (λf hf=>by have:=Yj hf;omega) h.d.t
 obtain⟨A,c,hR,hc,hA,hns⟩:=h.r
 have r0:=hR.cell (j:=0) rfl
 have r3:=hR.cell (j:=3) rfl
 have d0:=h.d.c0
 have d1:=h.d.c1
 have H:=z2w h
 clear hR hA h
 unfold pt at *
 by_cases hz:0<z
 ·have hz1:decide (0<z)=true:=by simp[hz]
  go_enter Tryz.func198,Tryz.ntmps198
  go_wp2_with fail
  go_ret
  exact .inl ⟨.inl hz,rfl,rfl⟩
 ·have hz1:decide (0<z)=false:=by simp;omega
  by_cases hcn:cap<n
  ·have hc1:decide (cap<n)=true:=by simp[hcn]
   go_enter Tryz.func198,Tryz.ntmps198
   go_wp2_with fail
   go_ret
   exact .inl ⟨.inr hcn,rfl,rfl⟩
  ·have hc1:decide ((cap:Int)<(n:Int))=false:=by simp;omega
   have hc2:decide (cap<n)=false:=by simp;omega
   have hno:Hid (¬(0<z∨cap<n)):=by show ¬_;omega
   clear hcn hz
   go_enter Tryz.func198,Tryz.ntmps198
   go_wp2_with fail
   refine hlim.mono ?_
   rintro e w1 ⟨rfl,v1,hT,hF,ho⟩
   have hN:Nx w v v1:=.inl ho
   have HF:=z2w (Fs.of_fr hF)
   have HD:=z2w (H.out.d.stepT hT HF.out hN)
   have HX:Hid (Rx w1 base bd S gr gd g v1 fw (.int .i64 (z:Int)) (shr (n:Int) L) n cap l):=
    ⟨H.out.r.apart HF.out (λe=>H.out.ap (.inr e)) (λk hk e=>(H.out.s k hk).2 (.inr e)) H.out.lts,HD.out,λk hk=>⟨(H.out.s k hk).1,λe=>by
     rcases EB.next hN e with e1|e1
     ·exact(H.out.s k hk).2 e1
     ·have:=H.out.lts k hk;omega⟩,H.out.lo,λe=>by
     rcases EB.next hN e with e1|e1
     ·exact H.out.ap e1
     ·have:=H.out.r.lt;omega⟩
   have HN:=z2w hN
   clear hT hF ho hN hlim HD
   go_wp2_with fail
   go_ret
   exact .inr ⟨hno.out,rfl,v1,HX.out,HF.out,HN.out⟩
end
end Go.Proofs.YtooaajnkiokpnaaGreatDoor
