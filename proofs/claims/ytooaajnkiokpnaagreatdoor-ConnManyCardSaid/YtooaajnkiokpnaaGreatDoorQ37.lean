/-
  Part of a proof: A reading's piece, by its contract. Conditions: those that each theorem names.
-/
import Derived.Test.YtooaajnkiokpnaaGreatDoorQ01
import Derived.Test.YtooaajnkiokpnaaGreatDoorQ34
import Derived.Test.YtooaajnkiokpnaaGreatDoorQ18
namespace Go.Proofs.YtooaajnkiokpnaaGreatDoor
open Go.RowKit Go.WideShapes
set_option maxHeartbeats 4000000
set_option maxRecDepth 100000
section
structure Rg(w:World)(base bd:Nat)(S:Nat→Prop)(gr gd g:Nat)(v fw sv:Value)(L:List Fd)(M cap:Nat)(l:List UInt8)(out:List Fd):Prop where
 x:Rx w base bd S gr gd g v fw sv L M cap l
 f:Fl w base fw sv out
 fr:¬ob fw gr
 fe:∀k,ob fw k→¬EB gd g v k
def PieceE(w:World)(base bd:Nat)(S:Nat→Prop)(gr gd g:Nat)(v fw:Value)(cap:Nat)(o:Option (RdK × List UInt8))(e:Ending)(w':World):Prop:=
 Fs (λk=>k=gr∨EB gd g v k∨ob fw k) w w'∧match o with
  |none=>e=.returned (.bool false)
  |some (s,r)=>e=.returned (.bool true)∧∃v' fw' sv',Rg w' base bd S gr gd g v' fw' sv' s.tb s.mx cap r s.out∧Nx w v v'∧Nx w fw fw'
theorem Fl.below{w w':World}{base:Nat}{fw sv:Value}{out:List Fd}(h:Fl w base fw sv out)(hb:Below w.heap.size w w'):Fl w' base fw sv out:=by
 obtain⟨z,h1,h2,h3,h4⟩:=h
 refine⟨z,h1,h2,?_,λk hk=>⟨(h4 k hk).1,by have:=(h4 k hk).2;have:=hb.size;omega⟩⟩
 rcases h3 with h3|h3
 ·exact .inl ⟨h3.1,h3.2.below hb⟩
 ·exact .inr h3
theorem Fl.apart{w w':World}{base:Nat}{fw sv:Value}{out:List Fd}{T:Nat→Prop}(h:Fl w base fw sv out)(hF:Fs T w w')(hT:∀k,ob fw k→¬T k):Fl w' base fw sv out:=by
 obtain⟨z,h1,h2,h3,h4⟩:=h
 refine⟨z,h1,h2,?_,λk hk=>⟨(h4 k hk).1,by have:=(h4 k hk).2;have:=hF.size;omega⟩⟩
 rcases h3 with h3|h3
 ·exact .inl ⟨h3.1,hF.owns h3.2 hT⟩
 ·exact .inr h3
theorem Rg.below{w w':World}{base bd:Nat}{S:Nat→Prop}{gr gd g:Nat}{v fw sv:Value}{L:List Fd}{M cap:Nat}{l:List UInt8}{out:List Fd}(h:Rg w base bd S gr gd g v fw sv L M cap l out)(hb:Below w.heap.size w w'):Rg w' base bd S gr gd g v fw sv L M cap l out:=
 ⟨h.x.below hb,h.f.below hb,h.fr,h.fe⟩
theorem Rg.text{w w':World}{base bd:Nat}{S:Nat→Prop}{gr gd g:Nat}{v fw sv:Value}{L:List Fd}{M cap:Nat}{l l':List UInt8}{out:List Fd}(h:Rg w base bd S gr gd g v fw sv L M cap l out)(hF:Fs (λk=>k=gr) w w')(hr:Rs w' S gr (pt gd) fw sv l'):Rg w' base bd S gr gd g v fw sv L M cap l' out:=
 ⟨h.x.text hF hr,h.f.apart hF λk hk e=>h.fr (by rw[←e];exact hk),h.fr,h.fe⟩
theorem Rg.texts{w w':World}{base bd:Nat}{S:Nat→Prop}{gr gd g pf:Nat}{v fw sv:Value}{L:List Fd}{M cap:Nat}{l l':List UInt8}{out:List Fd}(h:Rg w base bd S gr gd g v fw sv L M cap l out)(hF:Fs (λk=>k=gr∨k=pf) w w')(hr:Rs w' S gr (pt gd) fw sv l')(hp1:¬EB gd g v pf)(hp2:¬ob fw pf):Rg w' base bd S gr gd g v fw sv L M cap l' out:=
 ⟨⟨hr,h.x.d.dis hF λk hk e=>by
   rcases e with e|e
   ·exact h.x.ap (by rw[←e];exact hk)
   ·exact hp1 (by rw[←e];exact hk),h.x.s,h.x.lo,h.x.ap⟩,h.f.apart hF λk hk e=>by
   rcases e with e|e
   ·exact h.fr (by rw[←e];exact hk)
   ·exact hp2 (by rw[←e];exact hk),h.fr,h.fe⟩
theorem Rg.fwlt{w:World}{base bd:Nat}{S:Nat→Prop}{gr gd g:Nat}{v fw sv:Value}{L:List Fd}{M cap:Nat}{l:List UInt8}{out:List Fd}(h:Rg w base bd S gr gd g v fw sv L M cap l out){k:Nat}(hk:ob fw k):base≤k∧k<w.heap.size:=by
 obtain⟨z,_,_,_,h4⟩:=h.f
 exact h4 k hk
theorem Rg.add{w w':World}{base bd:Nat}{S:Nat→Prop}{gr gd g:Nat}{v v' fw sv:Value}{L L':List Fd}{M M' cap:Nat}{l:List UInt8}{out:List Fd}(h:Rg w base bd S gr gd g v fw sv L M cap l out)(hT:Tb w' bd g v' L' M')(hF:Fs (λk=>k=g∨ob v k) w w')(hN:Nx w v v'):Rg w' base bd S gr gd g v' fw sv L' M' cap l out:=by
 refine⟨⟨h.x.r.apart hF (λe=>h.x.ap (.inr e)) (λk hk e=>(h.x.s k hk).2 (.inr e)) h.x.lts,h.x.d.stepT hT hF hN,λk hk=>⟨(h.x.s k hk).1,λe=>?_⟩,h.x.lo,λe=>?_⟩,h.f.apart hF λk hk e=>h.fe k hk (.inr e),h.fr,λk hk e=>?_⟩
 ·rcases EB.next hN e with e1|e1
  ·exact(h.x.s k hk).2 e1
  ·have:=h.x.lts k hk;omega
 ·rcases EB.next hN e with e1|e1
  ·exact h.x.ap e1
  ·have:=h.x.r.lt;omega
 ·rcases EB.next hN e with e1|e1
  ·exact h.fe k hk e1
  ·have:=(h.fwlt hk).2;omega
theorem Rg.take{w w':World}{base bd:Nat}{S:Nat→Prop}{gr gd g:Nat}{v fw sv:Value}{L:List Fd}{M cap:Nat}{l:List UInt8}{out out':List Fd}{e:Ending}(h:Rg w base bd S gr gd g v fw sv L M cap l out)(ht:zli w base S gr (pt gd) fw l out' e w') :
  e=.returned (.tuple #[])∧∃fw' sv',Rg w' base bd S gr gd g v fw' sv' L M cap l out'∧Fs (λk=>k=gr∨ob fw k) w w'∧Nx w fw fw':=by
 obtain⟨he,fw',sv',h1,h2,h3,h4,h5⟩:=ht
 refine⟨he,fw',sv',⟨⟨h1,h.x.d.dis h3 λk hk e=>?_,h.x.s,h.x.lo,h.x.ap⟩,h2,h5,λk hk e=>?_⟩,h3,h4⟩
 ·rcases e with e|e
  ·exact h.x.ap (by rw[←e];exact hk)
  ·exact h.fe k e hk
 ·rcases h4.own hk with h6|h6
  ·exact h.fe k h6 e
  ·have:=(h.x.d.eb e).2;omega
theorem Rg.other{w w':World}{base bd:Nat}{S:Nat→Prop}{gr gd g pf:Nat}{v fw sv:Value}{L:List Fd}{M cap:Nat}{l:List UInt8}{out:List Fd}(h:Rg w base bd S gr gd g v fw sv L M cap l out)(hF:Fs (λk=>k=pf) w w')(hp1:¬EB gd g v pf)(hp2:¬ob fw pf)(hp3:pf≠gr)(hp4:base≤pf):Rg w' base bd S gr gd g v fw sv L M cap l out:=
 h.texts (pf:=pf) (hF.mono λk _ e=>.inr e) (h.x.r.apart hF (λe=>hp3 e.symm) (λk hk e=>by have:=(h.x.s k hk).1;omega) h.x.lts) hp1 hp2
theorem PieceE.of{w w3 w':World}{base bd:Nat}{S:Nat→Prop}{gr gd g:Nat}{v v' fw sv:Value}{L:List Fd}{M cap:Nat}{m:List UInt8}{out out':List Fd}{e:Ending}(hF:Fs (λk=>k=gr∨EB gd g v k∨ob fw k) w w3)(h:Rg w3 base bd S gr gd g v' fw sv L M cap m out)(hN:Nx w v v')(ht:zli w3 base S gr (pt gd) fw m out' e w') :
  e=.returned (.tuple #[])∧PieceE w base bd S gr gd g v fw cap (some (⟨L,M,out'⟩,m)) (.returned (.bool true)) w':=by
 obtain⟨he,fw',sv',h1,h2,h3⟩:=h.take ht
 refine⟨he,hF.trans h2 λk _ e=>?_,rfl,v',fw',sv',h1,hN,(Nx.refl w fw).trans h3 hF.size⟩
 rcases e with e|e
 ·exact .inl e
 ·exact .inr (.inr e)
theorem Fl.some{w:World}{base:Nat}{fw sv:Value}{out:List Fd}(h:Fl w base fw sv out):∃z:Nat,sv=.int .i64 (z:Int)∧(0<z↔out≠[]):=by
 obtain⟨z,h1,_,h3,_⟩:=h
 refine⟨z,h1,?_⟩
 have h0:=@zv2 out
 rcases h3 with h3|h3
 ·rw[h3.1]
  constructor
  ·intro h4 h5
   rw[h0.2 h5] at h4
   omega
  ·intro h4
   rcases Nat.eq_zero_or_pos (tot out) with h5|h5
   ·exact absurd (h0.1 h5) h4
   ·exact h5
 ·constructor
  ·intro _ h5
   rw[h0.2 h5] at h3
   omega
  ·intro _;omega
theorem zr4(b:Nat):xe b=128∨xe b=64∨xe b=32∨xe b=16∨xe b=0:=by unfold xe;repeat (first|omega|split)
theorem zrr{l s:List UInt8}(h:Qn l=some s):s.length≤2*l.length:=by
 have h1:=zud h
 have h2:=zbq s
 rw[h1] at h2
 have h3:=(za0 s).1
 omega
theorem zfh{l a r:List UInt8}(h:yr l=some (a,r)):a.length≤2*l.length:=by
 unfold yr at h
 split at h
 ·cases h
 ·split at h
  ·cases h
  ·split at h
   ·split at h
    ·cases h
    ·rename_i s hs
     injection h with h;injection h with h1 h2;subst h1
     have:=zrr hs
     simp only[List.length_take,List.length_drop] at this
     omega
   ·injection h with h;injection h with h1 h2;subst h1
    simp only[List.length_take,List.length_drop]
    omega
theorem zyi:∀j:Fin 61,(nmL j.val).length+(vlL j.val).length≤100:=by decide +kernel
theorem zm5{L:List Fd}{n:Nat}{f:Fd}(h:atT L n=some f)(hL:tot L≤4096):sz f≤4096:=by
 unfold atT at h
 split at h
 ·cases h
 ·split at h
  ·injection h with h
   subst h
   have:=zyi ⟨n-1,by omega⟩
   simp only at this
   show (nmL (n-1)).length+(vlL (n-1)).length+32≤4096
   omega
  ·have hm:=List.mem_of_getElem? h
   rw[List.mem_reverse] at hm
   have:=Yj hm
   omega
theorem Vq{L:List Fd}{n:Nat}{nv:Bool}{l r:List UInt8}{f:Fd}(h:jo L n nv l=some (f,r))(hL:tot L≤4096):sz f≤4*l.length+4128:=by
 unfold jo at h
 split at h
 ·cases h
 ·rename_i a r1 h1
  split at h
  ·cases h
  ·rename_i b r2 h2
   injection h with h;injection h with h3 h4
   subst h3
   have e2:=zfh h2
   have e0:=Y5 h1
   have e1:a.length≤2*l.length+4096:=by
    unfold Qe at h1
    split at h1
    ·have:=zfh h1;omega
    ·split at h1
     ·cases h1
     ·rename_i f hf
      injection h1 with h1;injection h1 with h5 h6
      subst h5
      have:=zm5 hf hL
      unfold sz at this
      omega
   unfold sz
   show a.length+b.length+32≤_
   omega
attribute [local irreducible] zs Qn yr atT tot sz shr Qe jo yw
theorem zpg{w:World}{base bd:Nat}{S:Nat→Prop}{gr gd g:Nat}{v fw sv:Value}{L:List Fd}{M cap:Nat}{l:List UInt8}{out:List Fd}(h:Rg w base bd S gr gd g v fw sv L M cap l out)(hl0:l≠[])(hl:l.length≤12000)(hcap:cap≤4096)(hM:M≤4096)(hL:tot L≤M)(hn:out.length≤1000000) :
  Calls Tryz.prog 166 #[pt gr] w (PieceE w base bd S gr gd g v fw cap (xl cap ⟨L,M,out⟩ l)):=by
 obtain⟨b,r,rfl⟩:∃b r,l=b :: r:=by
  cases l with
  |nil=>exact absurd rfl hl0
  |cons b r=>exact⟨b,r,rfl⟩
 have hko:=λW=>zk2 b.toNat b.toNat_lt W
 have hki:=zr4 b.toNat
 obtain⟨A,c,hR,hc,hA,hns⟩:=h.x.r
 obtain⟨g0,o0,hAe,hSg0,hcel⟩:=hA (by simp[byc])
 subst hAe
 have f0:w.cell? ⟨g0,o0,none⟩=some (.int .u8 (b.toNat:Int)):=hcel 0 _ (by simp[byc])
 have c1:w.cell? ⟨gr,1,none⟩=some (.slice (some ⟨g0,o0,none⟩) (b :: r).length c):=hR.cell (j:=1) rfl
 have hl1:0<(b :: r).length:=by simp
 have hnum:=λk h1 h8=>zcf (w:=w) k h1 h8 (by omega) h.x.r h.x.lts
 obtain⟨X,hX⟩:∃X,X=xl cap ⟨L,M,out⟩ (b :: r):=⟨_,rfl⟩
 obtain⟨K,hK⟩:∃K,K=xe b.toNat:=⟨_,rfl⟩
 have hspec:=zak (cap:=cap) (L:=L) (M:=M) (out:=out) (l:=b :: r) (K:=K) (by rw[hK];rfl)
 rw[←hX] at hspec ⊢
 rw[←hK] at hki hko
 have hnum2:=hnum (qy K) (by have:=@Vm K;omega) (by have:=@Vm K;omega)
 have hdl:((b :: r).drop (zs (qy K) (b :: r)).2.1).length≤12000:=by rw[List.length_drop];omega
 have hgb:=zdj (k:=qy K) (by have:=@Vm K;omega) (by have:=@Vm K;omega) (b :: r)
 generalize (b :: r).drop (zs (qy K) (b :: r)).2.1=m at *
 generalize zs (qy K) (b :: r)=G at *
 obtain⟨n,u,z⟩:=G
 simp only at hspec hnum2 hgb
 have HX:=z2w hspec
 have H:=z2w h
 clear hR hA hcel h hX hspec hK hnum
 generalize (b :: r).length=ln at *
 unfold pt at *
 have hpo:=λ(hk:isKind K) W=>vz hk W
 go_enter Tryz.func166,Tryz.ntmps166
 go_wp2_with fail
 refine(hko _).mono ?_
 rintro e w1 ⟨rfl,rfl⟩
 go_wp2_with fail
 refine(hpo (by unfold isKind;omega) _).mono ?_
 rintro e w1 ⟨rfl,rfl⟩
 go_wp2_with fail
 refine hnum2.mono ?_
 rintro e w1 ⟨rfl,hRs,hF1,hs1⟩
 have HF1:Hid (Fs (λk=>k=gr∨EB gd g v k∨ob fw k) w w1):=hF1.mono λk _ e=>.inl e
 have HG1:=z2w (H.out.text hF1 hRs)
 have HS1:=z2w hs1
 clear hRs hF1 H hnum2 hpo hko f0 c1 hs1
 by_cases hz:z=0
 ·subst hz
  have hpfE:Hid (¬EB gd g v w1.heap.size∧¬ob fw w1.heap.size∧w1.heap.size≠gr∧base≤w1.heap.size):=by
   show _∧_∧_∧_
   have h3:=HG1.out.x.r.lt
   have h4:=HG1.out.x.lo
   exact⟨λe=>by have:=(HG1.out.x.d.eb e).2;omega,λe=>by have:=(HG1.out.fwlt e).2;omega,by omega,by omega⟩
  have hb2:=(Below.refl w1.heap.size w1).alloc (Nat.le_refl _) (.cells #[.string ⟨#[]⟩,.string ⟨#[]⟩,.bool false] 57)
  have HG2:=z2w (HG1.out.below hb2)
  have HF2:=z2w (HF1.out.then_below hb2)
  have HP2:=z2w (Row.new w1 57 #[.string ⟨#[]⟩,.string ⟨#[]⟩,.bool false])
  have hs2:w1.heap.size<(w1.alloc (.cells #[.string ⟨#[]⟩,.string ⟨#[]⟩,.bool false] 57)).heap.size:=by simp
  clear hb2
  rcases hki with rfl|rfl|rfl|rfl|rfl
  · -- a field of the table
   have hat:=zji HG2.out.x.d.t n (by omega) (by have:=Qr L;omega)
   have HX2:Hid (X=(atT L n).map λf=>(⟨L,M,out++[f]⟩,m)):=HX.out.2.2.1 rfl rfl
   have hsz:=λf (e:atT L n=some f)=>zm5 e (by omega)
   obtain⟨A2,cA2,hR2,_,_,_⟩:=HG2.out.x.r
   have r0:=hR2.cell (j:=0) rfl
   have d0:=HG2.out.x.d.c0
   unfold AtV fv at hat
   unfold tx at hat
   generalize atT L n=Y at *
   clear HX hR2
   unfold pt at *
   cases Y with
   |none=>
    have hX:X=none:=HX2.out
    subst hX
    simp only[Option.getD_none,Option.isSome_none] at hat
    go_wp2_with fail
    generalize w1.alloc (.cells #[.string ⟨#[]⟩,.string ⟨#[]⟩,.bool false] 57)=w2 at *
    refine hat.mono ?_
    rintro e w3 ⟨rfl,hb3⟩
    have HF3:=z2w (HF2.out.then_below hb3)
    have hp3:=HP2.out.below hb3 hs2
    have p0:=hp3.cell (j:=0) rfl
    have p1:=hp3.cell (j:=1) rfl
    have p2:=hp3.cell (j:=2) rfl
    have q0:=hp3.thawed 0
    have q1:=hp3.thawed 1
    have q2:=hp3.thawed 2
    have HF6:Hid (Fs (λk=>k=gr∨EB gd g v k∨ob fw k) w (((w3.setCell ⟨w1.heap.size,0,none⟩ (.string ⟨#[]⟩)).setCell ⟨w1.heap.size,1,none⟩ (.string ⟨#[]⟩)).setCell ⟨w1.heap.size,2,none⟩ (.bool false))):=
     ((HF3.out.setCell (λe=>by have:=HS1.out;omega) _ _).setCell (λe=>by have:=HS1.out;omega) _ _).setCell (λe=>by have:=HS1.out;omega) _ _
    clear hb3 hat hp3 HG2 HF2 HP2 HF3
    go_wp2_with fail
    go_ret
    exact⟨HF6.out,rfl⟩
   |some f=>
    have hX:X=some (⟨L,M,out++[f]⟩,m):=HX2.out
    subst hX
    simp only[Option.getD_some,Option.isSome_some] at hat
    go_wp2_with fail
    generalize w1.alloc (.cells #[.string ⟨#[]⟩,.string ⟨#[]⟩,.bool false] 57)=w2 at *
    refine hat.mono ?_
    rintro e w3 ⟨rfl,hb3⟩
    have HF3:=z2w (HF2.out.then_below hb3)
    have HG3:=z2w (HG2.out.below hb3)
    have hp3:=HP2.out.below hb3 hs2
    have p0:=hp3.cell (j:=0) rfl
    have p1:=hp3.cell (j:=1) rfl
    have p2:=hp3.cell (j:=2) rfl
    have q0:=hp3.thawed 0
    have q1:=hp3.thawed 1
    have q2:=hp3.thawed 2
    have HF6:Hid (Fs (λk=>k=gr∨EB gd g v k∨ob fw k) w (((w3.setCell ⟨w1.heap.size,0,none⟩ (.string ⟨f.nm.toArray⟩)).setCell ⟨w1.heap.size,1,none⟩ (.string ⟨f.vl.toArray⟩)).setCell ⟨w1.heap.size,2,none⟩ (.bool f.nv))):=
     ((HF3.out.setCell (λe=>by have:=HS1.out;omega) _ _).setCell (λe=>by have:=HS1.out;omega) _ _).setCell (λe=>by have:=HS1.out;omega) _ _
    have HG6:=z2w (HG3.out.other (pf:=w1.heap.size) ((((Fs.refl (λk=>k=w1.heap.size) w3).setCell (λ_=>rfl) 0 (.string ⟨f.nm.toArray⟩)).setCell (λ_=>rfl) 1 (.string ⟨f.vl.toArray⟩)).setCell (λ_=>rfl) 2 (.bool f.nv)) hpfE.out.1 hpfE.out.2.1 hpfE.out.2.2.1 hpfE.out.2.2.2)
    have htk:=Yv f (by have:=hsz f rfl;omega) HG6.out.x.r HG6.out.x.lts (λk hk=>(HG6.out.x.s k hk).1) HG6.out.x.lo HG6.out.f HG6.out.fr (by omega)
    unfold fv tx pt at htk
    clear hb3 hat hp3 HG2 HF2 HP2 HF3 HG3 hsz
    go_wp2_with fail
    generalize ((w3.setCell ⟨w1.heap.size,0,none⟩ (.string ⟨f.nm.toArray⟩)).setCell ⟨w1.heap.size,1,none⟩ (.string ⟨f.vl.toArray⟩)).setCell ⟨w1.heap.size,2,none⟩ (.bool f.nv)=w6 at *
    refine htk.mono ?_
    intro e w7 he
    obtain⟨rfl,hP⟩:=PieceE.of HF6.out HG6.out (Nx.refl w v) he
    have HP:=z2w hP
    clear hP he htk HF6 HG6
    go_wp2_with fail
    go_ret
    exact HP.out
  · -- a literal, kind 64
   have hkk:((64:Nat) == 16)=false:=rfl
   have HX2:Hid (X=(jo L n false m).map λp=>(⟨yw M p.1 L,M,out++[p.1]⟩,p.2)):=HX.out.2.2.2 rfl (by omega) (by omega)
   have hsz:=λf r (e:jo L n false m=some (f,r))=>Vq e (by omega)
   have HP2b:=HP2
   have HG2b:=HG2
   have HF2b:=HF2
   have hs2b:=hs2
   clear HP2 HG2 HF2 hs2
   have htx:=V5 n (by omega) hdl (by have:=Qr L;omega) HG2b.out.x HP2b.out hpfE.out.2.2.2 hpfE.out.2.2.1
   clear HX
   generalize jo L n false m=Y at *
   unfold pt at *
   go_wp2_with fail
   generalize w1.alloc (.cells #[.string ⟨#[]⟩,.string ⟨#[]⟩,.bool false] 57)=w2 at *
   refine htx.mono ?_
   intro e w3 he
   cases Y with
   |none=>
    have hX:X=none:=HX2.out
    subst hX
    obtain⟨hF,rfl⟩:=he
    have HF3:Hid (Fs (λk=>k=gr∨EB gd g v k∨ob fw k) w w3):=HF2b.out.trans hF λk hk e=>by
     rcases e with e|e
     ·exact .inl e
     ·have:=HS1.out;omega
    clear hF htx HF2b
    go_wp2_with fail
    go_ret
    exact⟨HF3.out,rfl⟩
   |some y=>
    obtain⟨f,r2⟩:=y
    have hX:X=some (⟨yw M f L,M,out++[f]⟩,r2):=HX2.out
    subst hX
    obtain⟨hF,rfl,hr,hp⟩:=he
    have HF3:Hid (Fs (λk=>k=gr∨EB gd g v k∨ob fw k) w w3):=HF2b.out.trans hF λk hk e=>by
     rcases e with e|e
     ·exact .inl e
     ·have:=HS1.out;omega
    have HG3:=z2w (HG2b.out.texts hF hr hpfE.out.1 hpfE.out.2.1)
    have hszf:=hsz f r2 rfl
    have hp3:=hp
    have hadd:=zjn f (by omega) (by omega) (by omega) (λx hx=>by have:=Yj hx;omega) (HG3.out.x.d.t.drewN 1)
    obtain⟨A3,cA3,hR3,_,_,_⟩:=HG3.out.x.r
    have r0:w3.drew.cell? ⟨gr,0,none⟩=some (.pointer (some ⟨gd,0,none⟩)):=hR3.cell (j:=0) rfl
    have d0:w3.drew.cell? ⟨gd,0,none⟩=some (.pointer (some ⟨g,0,none⟩)):=HG3.out.x.d.c0
    have f0:w3.drew.cell? ⟨w1.heap.size,0,none⟩=some (.string ⟨f.nm.toArray⟩):=hp3.cell (j:=0) rfl
    have f1:w3.drew.cell? ⟨w1.heap.size,1,none⟩=some (.string ⟨f.vl.toArray⟩):=hp3.cell (j:=1) rfl
    have f2:w3.drew.cell? ⟨w1.heap.size,2,none⟩=some (.bool f.nv):=hp3.cell (j:=2) rfl
    have HP3:=z2w hp3
    have hs3:w1.heap.size<w3.heap.size:=by have:=hF.size;omega
    have hszg:sz f≤2147483648:=by omega
    unfold fv tx pt at *
    clear hF hr hp hp3 hR3 htx HF2b HG2b HP2b hsz hszf
    go_wp2_with fail
    go_region_held3 (λw'=>w'.cell? ⟨gr,0,none⟩=some (.pointer (some ⟨gd,0,none⟩))∧w'.cell? ⟨gd,0,none⟩=some (.pointer (some ⟨g,0,none⟩))∧w'.cell? ⟨w1.heap.size,0,none⟩=some (.string ⟨f.nm.toArray⟩)∧w'.cell? ⟨w1.heap.size,1,none⟩=some (.string ⟨f.vl.toArray⟩)∧w'.cell? ⟨w1.heap.size,2,none⟩=some (.bool f.nv)) (first|exact⟨k0,k1,k2,k3,k4⟩|exact⟨r0,d0,f0,f1,f2⟩)
     ((go_at_call 146;refine hadd.mono ?_;rintro e w4 ⟨rfl,v4,hT4,hF4,hN4⟩;have HF4:Hid (Fs (λk=>k=g∨ob v k) w3 w4):=((Fs.refl _ w3).drewN 1).trans (Fs.of_fr hF4) λ_ _ h=>h;have HN4:Hid (Nx w3 v v4):=hN4;have HG4:=z2w (HG3.out.add hT4 HF4.out HN4.out);obtain⟨A4,cA4,hR4,_,_,_⟩:=HG4.out.x.r;have k0:=hR4.cell (j:=0) rfl;have k1:=HG4.out.x.d.c0;have hP4:=HF4.out.row (λe=>hpfE.out.1 (.inr e)) HP3.out;have k2:=hP4.cell (j:=0) rfl;have k3:=hP4.cell (j:=1) rfl;have k4:=hP4.cell (j:=2) rfl;have HP4:=z2w hP4;clear hT4 hF4 hN4 hR4 hP4))
    have HF5:=z2w (HF3.out.trans HF4.out λk _ e=>.inr (.inl (.inr e)))
    have HN5:=z2w ((Nx.refl w v).trans HN4.out HF3.out.size)
    have htk:=Yv f hszg HG4.out.x.r HG4.out.x.lts (λk hk=>(HG4.out.x.s k hk).1) HG4.out.x.lo HG4.out.f HG4.out.fr (by omega)
    unfold fv tx pt at htk
    clear hadd HF4 HN4 HG3 HF3 HP3 r0 d0 f0 f1 f2 k0 k1
    go_wp2_with fail
    refine htk.mono ?_
    intro e w7 he
    obtain⟨rfl,hP⟩:=PieceE.of HF5.out HG4.out HN5.out he
    have HP:=z2w hP
    clear hP he htk HF5 HG4
    go_wp2_with fail
    go_ret
    exact HP.out
  · -- a most
   obtain⟨z0,hz0,hz1⟩:=HG2.out.f.some
   subst hz0
   have hlim:=zmf n (by omega) hcap hM hL HG2.out.x
   have HX2:Hid (X=if out≠[]∨cap<n then none else some (⟨shr (n:Int) L,n,out⟩,m)):=HX.out.2.1 rfl rfl
   have HZ:=z2w hz1
   clear HX hz1
   unfold pt at hlim
   go_wp2_with fail
   generalize w1.alloc (.cells #[.string ⟨#[]⟩,.string ⟨#[]⟩,.bool false] 57)=w2 at *
   refine hlim.mono ?_
   intro e w3 he
   rcases he with ⟨hno,rfl,rfl⟩|⟨hno,rfl,v',hRx,hF,hN⟩
   ·have hX:X=none:=by rw[HX2.out,if_pos (by rcases hno with h1|h1;exact .inl (HZ.out.1 h1);exact .inr h1)]
    subst hX
    clear hno hlim
    go_wp2_with fail
    go_ret
    exact⟨HF2.out,rfl⟩
   ·have hX:X=some (⟨shr (n:Int) L,n,out⟩,m):=by rw[HX2.out,if_neg (by intro h1;rcases h1 with h1|h1;exact hno (.inl (HZ.out.2 h1));exact hno (.inr h1))]
    subst hX
    have HP:Hid (PieceE w base bd S gr gd g v fw cap (some (⟨shr (n:Int) L,n,out⟩,m)) (.returned (.bool true)) w3):=by
     refine⟨HF2.out.trans hF λk _ e=>.inr (.inl (by rcases e with e|e;exact .inr (.inl e);exact .inr (.inr e))),rfl,v',fw,.int .i64 (z0:Int),⟨hRx,HG2.out.f.apart hF λk hk e=>HG2.out.fe k hk (.inr e),HG2.out.fr,λk hk e=>?_⟩,(Nx.refl w v).trans hN HF2.out.size,Nx.refl w fw⟩
     rcases EB.next hN e with e1|e1
     ·exact HG2.out.fe k hk e1
     ·have:=(HG2.out.fwlt hk).2;omega
    clear hRx hF hN hno hlim
    go_wp2_with fail
    go_ret
    exact HP.out
  · -- a literal, kind 16
   have hkk:((16:Nat) == 16)=true:=rfl
   have HX2:Hid (X=(jo L n true m).map λp=>(⟨L,M,out++[p.1]⟩,p.2)):=HX.out.2.2.2 rfl (by omega) (by omega)
   have hsz:=λf r (e:jo L n true m=some (f,r))=>Vq e (by omega)
   have hb2:=(Below.refl w1.heap.size w1).alloc (Nat.le_refl _) (.cells #[.string ⟨#[]⟩,.string ⟨#[]⟩,.bool true] 57)
   have HP2b:=z2w (Row.new w1 57 #[.string ⟨#[]⟩,.string ⟨#[]⟩,.bool true])
   have HG2b:=z2w (HG1.out.below hb2)
   have HF2b:=z2w (HF1.out.then_below hb2)
   have hs2b:w1.heap.size<(w1.alloc (.cells #[.string ⟨#[]⟩,.string ⟨#[]⟩,.bool true] 57)).heap.size:=by simp
   clear HP2 HG2 HF2 hs2 hb2
   have htx:=V5 n (by omega) hdl (by have:=Qr L;omega) HG2b.out.x HP2b.out hpfE.out.2.2.2 hpfE.out.2.2.1
   clear HX
   generalize jo L n true m=Y at *
   unfold pt at *
   go_wp2_with fail
   generalize w1.alloc (.cells #[.string ⟨#[]⟩,.string ⟨#[]⟩,.bool true] 57)=w2 at *
   refine htx.mono ?_
   intro e w3 he
   cases Y with
   |none=>
    have hX:X=none:=HX2.out
    subst hX
    obtain⟨hF,rfl⟩:=he
    have HF3:Hid (Fs (λk=>k=gr∨EB gd g v k∨ob fw k) w w3):=HF2b.out.trans hF λk hk e=>by
     rcases e with e|e
     ·exact .inl e
     ·have:=HS1.out;omega
    clear hF htx HF2b
    go_wp2_with fail
    go_ret
    exact⟨HF3.out,rfl⟩
   |some y=>
    obtain⟨f,r2⟩:=y
    have hX:X=some (⟨L,M,out++[f]⟩,r2):=HX2.out
    subst hX
    obtain⟨hF,rfl,hr,hp⟩:=he
    have HF3:Hid (Fs (λk=>k=gr∨EB gd g v k∨ob fw k) w w3):=HF2b.out.trans hF λk hk e=>by
     rcases e with e|e
     ·exact .inl e
     ·have:=HS1.out;omega
    have HG3:=z2w (HG2b.out.texts hF hr hpfE.out.1 hpfE.out.2.1)
    have hszf:=hsz f r2 rfl
    have htk:=Yv f (by omega) HG3.out.x.r HG3.out.x.lts (λk hk=>(HG3.out.x.s k hk).1) HG3.out.x.lo HG3.out.f HG3.out.fr (by omega)
    have p0:=hp.cell (j:=0) rfl
    have p1:=hp.cell (j:=1) rfl
    have p2:=hp.cell (j:=2) rfl
    unfold fv tx pt at *
    clear hF hr hp htx HF2b HG2b HP2b hsz hszf
    go_wp2_with fail
    refine htk.mono ?_
    intro e w7 he
    obtain⟨rfl,hP⟩:=PieceE.of HF3.out HG3.out (Nx.refl w v) he
    have HP:=z2w hP
    clear hP he htk HF3 HG3
    go_wp2_with fail
    go_ret
    exact HP.out
  · -- a literal, kind 0
   have hkk:((0:Nat) == 16)=false:=rfl
   have HX2:Hid (X=(jo L n false m).map λp=>(⟨L,M,out++[p.1]⟩,p.2)):=HX.out.2.2.2 rfl (by omega) (by omega)
   have hsz:=λf r (e:jo L n false m=some (f,r))=>Vq e (by omega)
   have HP2b:=HP2
   have HG2b:=HG2
   have HF2b:=HF2
   have hs2b:=hs2
   clear HP2 HG2 HF2 hs2
   have htx:=V5 n (by omega) hdl (by have:=Qr L;omega) HG2b.out.x HP2b.out hpfE.out.2.2.2 hpfE.out.2.2.1
   clear HX
   generalize jo L n false m=Y at *
   unfold pt at *
   go_wp2_with fail
   generalize w1.alloc (.cells #[.string ⟨#[]⟩,.string ⟨#[]⟩,.bool false] 57)=w2 at *
   refine htx.mono ?_
   intro e w3 he
   cases Y with
   |none=>
    have hX:X=none:=HX2.out
    subst hX
    obtain⟨hF,rfl⟩:=he
    have HF3:Hid (Fs (λk=>k=gr∨EB gd g v k∨ob fw k) w w3):=HF2b.out.trans hF λk hk e=>by
     rcases e with e|e
     ·exact .inl e
     ·have:=HS1.out;omega
    clear hF htx HF2b
    go_wp2_with fail
    go_ret
    exact⟨HF3.out,rfl⟩
   |some y=>
    obtain⟨f,r2⟩:=y
    have hX:X=some (⟨L,M,out++[f]⟩,r2):=HX2.out
    subst hX
    obtain⟨hF,rfl,hr,hp⟩:=he
    have HF3:Hid (Fs (λk=>k=gr∨EB gd g v k∨ob fw k) w w3):=HF2b.out.trans hF λk hk e=>by
     rcases e with e|e
     ·exact .inl e
     ·have:=HS1.out;omega
    have HG3:=z2w (HG2b.out.texts hF hr hpfE.out.1 hpfE.out.2.1)
    have hszf:=hsz f r2 rfl
    have htk:=Yv f (by omega) HG3.out.x.r HG3.out.x.lts (λk hk=>(HG3.out.x.s k hk).1) HG3.out.x.lo HG3.out.f HG3.out.fr (by omega)
    have p0:=hp.cell (j:=0) rfl
    have p1:=hp.cell (j:=1) rfl
    have p2:=hp.cell (j:=2) rfl
    unfold fv tx pt at *
    clear hF hr hp htx HF2b HG2b HP2b hsz hszf
    go_wp2_with fail
    refine htk.mono ?_
    intro e w7 he
    obtain⟨rfl,hP⟩:=PieceE.of HF3.out HG3.out (Nx.refl w v) he
    have HP:=z2w hP
    clear hP he htk HF3 HG3
    go_wp2_with fail
    go_ret
    exact HP.out
 ·have hX:X=none:=HX.out.1 hz
  subst hX
  have hzd:decide (z=0)=false:=by simp[hz]
  go_wp2_with fail
  go_ret
  exact⟨HF1.out,rfl⟩
end
end Go.Proofs.YtooaajnkiokpnaaGreatDoor
