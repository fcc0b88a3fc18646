/-
  Part of a proof: hpack's reading in memory; its number and its text, by their contracts. Conditions: those that each theorem names.
-/
import Derived.Test.YtooaajnkiokpnaaGreatDoorQ01
import Derived.Test.YtooaajnkiokpnaaGreatDoorQ23
import Derived.Test.YtooaajnkiokpnaaGreatDoorQ22
import Derived.BigQuiet
import Derived.Deep.QuietTactic
namespace Go.Proofs.YtooaajnkiokpnaaGreatDoor
open Go.RowKit Go.WideShapes
set_option maxHeartbeats 2000000
set_option maxRecDepth 100000
section
attribute [local irreducible] tot shr sz first j9 Qm isN isB nmL vlL tab named Qp Jn Zg Zh Qi Ja Jh yw Z9 Zf nOf hOf
section
variable {w w':World}{B ge g:Nat}{v:Value}{L:List Fd}{M:Nat}{lim:Bool}{low:Nat}{S:Nat→Prop}
theorem En.lt(h:En w B ge g v L M lim low):ge<w.heap.size:=Row.lt h.e
theorem En.vlt(h:En w B ge g v L M lim low){k:Nat}(hk:ob v k):B≤k∧k<w.heap.size:=h.t.row.lt k hk
theorem En.below(h:En w B ge g v L M lim low)(hb:Below w.heap.size w w'):En w' B ge g v L M lim low:=⟨h.t.below hb,h.e.below hb h.lt,h.ne,h.nv,h.lo⟩
theorem En.apart(h:En w B ge g v L M lim low)(hF:Fs S w w')(h1:¬S ge)(h2:¬S g)(h3:∀k,ob v k→¬S k):En w' B ge g v L M lim low:=⟨hF.tb h.t h2 h3,hF.row h1 h.e,h.ne,h.nv,h.lo⟩
theorem En.stepT(h:En w B ge g v L M lim low){v':Value}{L':List Fd}{M':Nat}(hT:Tb w' B g v' L' M')(hF:Fs (λk=>k=g∨ob v k) w w')(hN:Nx w v v'):En w' B ge g v' L' M' lim low:=
 ⟨hT,hF.row (λe=>by rcases e with e|e;exact h.ne e;exact h.nv e) h.e,h.ne,hN.not h.lt h.nv,h.lo⟩
theorem En.c0(h:En w B ge g v L M lim low):w.cell? ⟨ge,0,none⟩=some (pt g):=h.e.cell (j:=0) rfl
theorem En.c1(h:En w B ge g v L M lim low):w.cell? ⟨ge,1,none⟩=some (.bool lim):=h.e.cell (j:=1) rfl
theorem En.c2(h:En w B ge g v L M lim low):w.cell? ⟨ge,2,none⟩=some (.int .u32 (low:Int)):=h.e.cell (j:=2) rfl
end
def MadeF(w:World)(base B ge g:Nat)(v bv:Value)(l:List UInt8)(L:List Fd)(M:Nat)(lim:Bool)(low:Nat)(e:Ending)(w':World):Prop:=
 ∃bv' v',e=.returned bv'∧Bo w' base 5 bv' l∧En w' B ge g v' L M lim low∧(∀k,ob bv' k→¬ob v' k)∧Fs (λk=>k=g∨ob v k∨ob bv k) w w'∧Nx w v v'∧Nx w bv bv'
theorem MadeF.last{w w1 w2:World}{base B ge g:Nat}{v v1 bv bv2:Value}{l2:List UInt8}{L':List Fd}{M:Nat}{lim:Bool}{low:Nat}(hE:En w1 B ge g v1 L' M lim low)(hF:Fs (λk=>k=g∨ob v k∨ob bv k) w w1)(hNv:Nx w v v1)
  (hlo:∀k,ob bv k→base≤k∧k<w.heap.size) (hd:∀k,ob bv k→¬ob v1 k) (hg1:ge<base) (hg2:g<base) (hO2:Bo w2 base 5 bv2 l2) (hF2:Fs (ob bv) w1 w2) (hN2:Nx w1 bv bv2) :
  MadeF w base B ge g v bv l2 L' M lim low (.returned bv2) w2:=by
 refine⟨bv2,v1,rfl,hO2,hE.apart hF2 (λe=>?_) (λe=>?_) (λk hk e=>hd k e hk),λk hk e=>?_,hF.trans hF2 λk hk e=>.inr (.inr e),hNv,(Nx.refl w bv).trans hN2 hF.size⟩
 ·have:=(hlo _ e).1;omega
 ·have:=(hlo _ e).1;omega
 ·rcases hN2.own hk with h1|h1
  ·exact hd k h1 e
  ·have:=(hE.vlt e).2;omega
theorem zsj(f:Fd):fv f=.agg #[.string ⟨f.nm.toArray⟩,.string ⟨f.vl.toArray⟩,.bool f.nv]:=rfl
theorem zg2{base B ge g:Nat}{v bv:Value}{l:List UInt8}{L:List Fd}{M low:Nat}{lim:Bool}{f:Fd}{w:World}(hf1:f.nm.length≤9000)(hf2:f.vl.length≤9000)(hM:M≤4096)(hL:tot L≤M)
  (h:En w B ge g v L M lim low) (hO:Bo w base 5 bv l) (hg1:ge<base) (hg2:g<base) (hd:∀k,ob bv k→¬ob v k) (hbase:base≤w.heap.size) (hl:l.length≤137438953472) :
  Calls Tryz.prog 114 #[pt ge,bv,fv f] w (MadeF w base B ge g v bv (l++Z9 L f) (Zf M L f) M lim low):=by
 have hlen:L.length≤128:=by have:=Qr L;omega
 have hfd:=λW (hT:Tb W B g v L M)=>zou f.nm f.vl hT (by omega)
 have hn:=@zx9 L f
 have hszf:sz f≤18032:=by unfold sz;omega
 obtain⟨C,hC⟩:∃C:Obj,C=.cells #[.string ⟨f.nm.toArray⟩,.string ⟨f.vl.toArray⟩,.bool f.nv] 57:=⟨_,rfl⟩
 have HE0:=z2w (h.below ((Below.refl _ w).alloc (Nat.le_refl _) C))
 have HO0:=z2w (hO.below ((Below.refl _ w).alloc (Nat.le_refl _) C))
 have HR0:Hid (Row (w.alloc C) w.heap.size 57 #[.string ⟨f.nm.toArray⟩,.string ⟨f.vl.toArray⟩,.bool f.nv]):=by show Row _ _ _ _;rw[hC];exact Row.new w _ _
 have HF0:Hid (Fs (λk=>k=g∨ob v k∨ob bv k) w (w.alloc C)):=(Fs.refl _ w).alloc C
 have HLO:Hid (∀k,ob bv k→base≤k∧k<w.heap.size):=λk hk=>hO.lt hk
 have HX:Hid (¬ob v w.heap.size∧¬ob bv w.heap.size∧w.heap.size≠g∧w.heap.size≠ge):=by
  show _∧_∧_∧_
  exact⟨λe=>by have:=(h.vlt e).2;omega,λe=>by have:=(hO.lt e).2;omega,by omega,by omega⟩
 have hs0:w.heap.size<(w.alloc C).heap.size:=by simp
 unfold pt fv tx at *
 obtain⟨Z,hZ⟩:∃Z,Z=Z9 L f:=⟨_,rfl⟩
 obtain⟨T,hT⟩:∃T,T=Zf M L f:=⟨_,rfl⟩
 have HZ:=z2w hZ
 have HT:=z2w hT
 have HD:=z2w hd
 rw[←hZ,←hT]
 clear hZ hT h hO hd
 have hnat:Hid (Qp f.nm f.vl L.reverse=nOf L f∧Jn f.nm f.vl L.reverse=hOf L f):=by show _∧_;unfold nOf hOf;exact⟨rfl,rfl⟩
 rw[hnat.out.1,hnat.out.2] at hfd
 clear hnat
 go_enter Tryz.func114,Tryz.ntmps114
 go_wp2_with fail
 rw[←hC]
 generalize w.alloc C=w0 at *
 have e0:w0.drew.cell? ⟨ge,0,none⟩=some (.pointer (some ⟨g,0,none⟩)):=HE0.out.c0
 have f0:w0.drew.cell? ⟨w.heap.size,0,none⟩=some (.string ⟨f.nm.toArray⟩):=HR0.out.cell (j:=0) rfl
 have f1:w0.drew.cell? ⟨w.heap.size,1,none⟩=some (.string ⟨f.vl.toArray⟩):=HR0.out.cell (j:=1) rfl
 have hfd1:=hfd w0.drew (HE0.out.t.drewN 1)
 clear hfd
 go_region_held3 (λw'=>w'.cell? ⟨ge,0,none⟩=some (.pointer (some ⟨g,0,none⟩))∧w'.cell? ⟨w.heap.size,0,none⟩=some (.string ⟨f.nm.toArray⟩)∧w'.cell? ⟨w.heap.size,1,none⟩=some (.string ⟨f.vl.toArray⟩)) (first|exact⟨g0,g1,g2⟩|exact⟨e0,f0,f1⟩)
  ((go_at_call 144;refine hfd1.mono ?_;rintro e w1 ⟨rfl,hb1⟩;have g0:=(hb1.cell (p:=⟨ge,0,none⟩) (World.block_lt_of_cell? _ _ e0)).trans e0;have g1:=(hb1.cell (p:=⟨w.heap.size,0,none⟩) (World.block_lt_of_cell? _ _ f0)).trans f0;have g2:=(hb1.cell (p:=⟨w.heap.size,1,none⟩) (World.block_lt_of_cell? _ _ f1)).trans f1;have HB1:Hid (Below w0.heap.size w0 w1):=(((Below.refl _ w0).drew).trans hb1);clear hb1))
 clear hfd1 e0 f0 f1
 have HE1:=z2w (HE0.out.below HB1.out)
 have HO1:=z2w (HO0.out.below HB1.out)
 have HR1:=z2w (HR0.out.below HB1.out hs0)
 have HF1:=z2w (HF0.out.then_below HB1.out)
 have hs1:w.heap.size<w1.heap.size:=by have:=HB1.out.size;omega
 clear HE0 HO0 HR0 HF0 HB1 g0 g1 g2 hs0
 have c0:=HR1.out.cell (j:=0) rfl
 have c1:=HR1.out.cell (j:=1) rfl
 have c2:=HR1.out.cell (j:=2) rfl
 have hfvt:=zsj f
 cases hnv:f.nv with
 |true=>
  have HZ2:Hid (Z=Jh 16 (nOf L f) f∧T=L):=by show _∧_;rw[HZ.out,HT.out];unfold Z9 Zf;rw[hnv];exact⟨rfl,rfl⟩
  rw[hnv] at c2 hfvt
  have hpt:=Vo (k:=16) (f:=f) (w:=w1) (by unfold isKind;omega) (show nOf L f≤268435456 by omega) hf1 hf2 HO1.out (by omega) (by omega)
  rw[hfvt] at hpt
  clear HZ HT hnv hfvt
  generalize f.nv=nv at *
  go_wp2_with fail
  refine hpt.mono ?_
  rintro e w2 ⟨bv2,rfl,hO2,hF2,hN2⟩
  have HM:Hid (MadeF w base B ge g v bv (l++Z) T M lim low (.returned bv2) w2):=by
   show MadeF _ _ _ _ _ _ _ _ _ _ _ _ _ _
   rw[HZ2.out.1,HZ2.out.2]
   exact MadeF.last HE1.out HF1.out (Nx.refl w v) HLO.out HD.out hg1 hg2 hO2 hF2 hN2
  clear hO2 hF2 hN2 hpt
  go_wp2_with fail
  go_ret
  exact HM.out
 |false=>
  cases hhs:hOf L f with
  |true=>
   have HZ2:Hid (Z=Ja 128 (nOf L f)∧T=L):=by show _∧_;rw[HZ.out,HT.out];unfold Z9 Zf;rw[hnv,hhs];exact⟨rfl,rfl⟩
   rw[hnv] at c2
   have hpt:=y9 (k:=128) (w:=w1) (by unfold isKind;omega) (show nOf L f≤268435456 by omega) HO1.out (by omega) (by omega)
   clear HZ HT hnv hfvt
   generalize f.nv=nv at *
   go_wp2_with fail
   refine hpt.mono ?_
   rintro e w2 ⟨bv2,rfl,hO2,hF2,hN2⟩
   have HM:Hid (MadeF w base B ge g v bv (l++Z) T M lim low (.returned bv2) w2):=by
    show MadeF _ _ _ _ _ _ _ _ _ _ _ _ _ _
    rw[HZ2.out.1,HZ2.out.2]
    exact MadeF.last HE1.out HF1.out (Nx.refl w v) HLO.out HD.out hg1 hg2 hO2 hF2 hN2
   clear hO2 hF2 hN2 hpt
   go_wp2_with fail
   go_ret
   exact HM.out
  |false=>
   have HZ2:Hid (Z=Jh 64 (nOf L f) f∧T=yw M f L):=by show _∧_;rw[HZ.out,HT.out];unfold Z9 Zf;rw[hnv,hhs];exact⟨rfl,rfl⟩
   have hadd:=λW (hT:Tb W B g v L M)=>zjn f (by omega) (by omega) (by omega) (λx hx=>by have:=Yj hx;omega) hT
   rw[hfvt,hnv] at hadd
   rw[hnv] at c2 hfvt
   have hpt:∀W,Bo W base 5 bv l→base≤W.heap.size→_:=λW h1 h2=>Vo (k:=64) (n:=nOf L f) (f:=f) (w:=W) (by unfold isKind;omega) (by omega) hf1 hf2 h1 h2 (by omega)
   rw[hfvt] at hpt
   have HRx:Hid (Row w1 w.heap.size 57 #[.string ⟨f.nm.toArray⟩,.string ⟨f.vl.toArray⟩,.bool false]):=by have:=HR1.out;rw[hnv] at this;exact this
   unfold pt at hadd
   clear HZ HT hnv hfvt HR1
   generalize f.nv=nv at *
   go_wp2_with fail
   have e0:w1.drew.cell? ⟨ge,0,none⟩=some (.pointer (some ⟨g,0,none⟩)):=HE1.out.c0
   have f0:w1.drew.cell? ⟨w.heap.size,0,none⟩=some (.string ⟨f.nm.toArray⟩):=HRx.out.cell (j:=0) rfl
   have f1:w1.drew.cell? ⟨w.heap.size,1,none⟩=some (.string ⟨f.vl.toArray⟩):=HRx.out.cell (j:=1) rfl
   have f2:w1.drew.cell? ⟨w.heap.size,2,none⟩=some (.bool false):=HRx.out.cell (j:=2) rfl
   have hadd1:=hadd w1.drew (HE1.out.t.drewN 1)
   clear hadd c0 c1 c2
   go_region_held3 (λw'=>w'.cell? ⟨ge,0,none⟩=some (.pointer (some ⟨g,0,none⟩))∧w'.cell? ⟨w.heap.size,0,none⟩=some (.string ⟨f.nm.toArray⟩)∧w'.cell? ⟨w.heap.size,1,none⟩=some (.string ⟨f.vl.toArray⟩)∧w'.cell? ⟨w.heap.size,2,none⟩=some (.bool false)) (first|exact⟨g0,g1,g2,g3⟩|exact⟨e0,f0,f1,f2⟩)
    ((go_at_call 146;refine hadd1.mono ?_;rintro e w2 ⟨rfl,v2,hT2,hF2,hN2⟩;have HF2:Hid (Fs (λk=>k=g∨ob v k) w1 w2):=((Fs.refl _ w1).drewN 1).trans (Fs.of_fr hF2) λ_ _ h=>h;have HN2:Hid (Nx w1 v v2):=hN2;have HT2:=z2w hT2;have hRn:=HF2.out.row (λe=>by rcases e with e|e;exact HX.out.2.2.1 e;exact HX.out.1 e) HRx.out;have g0:w2.cell? ⟨ge,0,none⟩=some (.pointer (some ⟨g,0,none⟩)):=(HE1.out.stepT hT2 HF2.out HN2.out).c0;have g1:=hRn.cell (j:=0) rfl;have g2:=hRn.cell (j:=1) rfl;have g3:=hRn.cell (j:=2) rfl;have HR2:=z2w hRn;clear hRn hT2 hF2 hN2))
   clear hadd1 e0 f0 f1 f2
   have HO2:Hid (Bo w2 base 5 bv l):=HF2.out.owns HO1.out λk hk e=>by
    rcases e with e|e
    ·have:=(HLO.out k hk).1;omega
    ·exact HD.out k hk e
   have HE2:=z2w (HE1.out.stepT HT2.out HF2.out HN2.out)
   have HF3:=z2w (HF1.out.trans HF2.out λk _ e=>by
    rcases e with e|e
    ·exact .inl e
    ·exact .inr (.inl e))
   have HN3:=z2w ((Nx.refl w v).trans HN2.out HF1.out.size)
   have hs2:base≤w2.heap.size:=by have:=HF3.out.size;omega
   have HD2:Hid (∀k,ob bv k→¬ob v2 k):=λk hk e=>by
    rcases HN3.out.own e with h1|h1
    ·exact HD.out k hk h1
    ·have:=(HLO.out k hk).2;omega
   have hpt2:=hpt w2 HO2.out hs2
   clear hpt HF2 HN2 HT2 HO1 HE1 HF1 HRx
   go_wp2_with fail
   refine hpt2.mono ?_
   rintro e w3 ⟨bv2,rfl,hO2,hF2,hN2⟩
   have HM:Hid (MadeF w base B ge g v bv (l++Z) T M lim low (.returned bv2) w3):=by
    show MadeF _ _ _ _ _ _ _ _ _ _ _ _ _ _
    rw[HZ2.out.1,HZ2.out.2]
    exact MadeF.last HE2.out HF3.out HN3.out HLO.out HD2.out hg1 hg2 hO2 hF2 hN2
   clear hO2 hF2 hN2 hpt2
   go_wp2_with fail
   go_ret
   exact HM.out
end
section
def Rs(w:World)(S:Nat→Prop)(gr:Nat)(d fv sv:Value)(l:List UInt8):Prop:=
 ∃A c,Row w gr 230 #[d,.slice A l.length c,fv,sv]∧l.length≤c∧RdS w S A (byc l)∧¬S gr
section
variable {w w':World}{S T:Nat→Prop}{gr:Nat}{d fv sv:Value}{l:List UInt8}
theorem Rs.lt(h:Rs w S gr d fv sv l):gr<w.heap.size:=by
 obtain⟨A,c,h1,_⟩:=h
 exact h1.lt
theorem Rs.apart(h:Rs w S gr d fv sv l)(hF:Fs T w w')(h1:¬T gr)(h2:∀k,S k→¬T k)(hS:∀k,S k→k<w.heap.size):Rs w' S gr d fv sv l:=by
 obtain⟨A,c,e1,e2,e3,e4⟩:=h
 exact⟨A,c,hF.row h1 e1,e2,hF.reads e3 λk hk=>⟨hS k hk,h2 k hk⟩,e4⟩
theorem Rs.below(h:Rs w S gr d fv sv l)(hb:Below w.heap.size w w')(hS:∀k,S k→k<w.heap.size):Rs w' S gr d fv sv l:=
 h.apart (T:=λ_=>False) (Fs.of_below hb) (λe=>e) (λ_ _ e=>e) hS
end
theorem X4{w:World}{S:Nat→Prop}{A:Option Addr}{l:List UInt8}{c u:Nat}(hA:RdS w S A (byc l))(hrb:RdB w w.heap.size A l)(hc:l.length≤c)(hu:u≤l.length) :
  ∃A2,(∀W,(Instr.slice 22 (.slice A l.length c) (some (.int .i64 (u:Int))) none none).run Tryz.prog W=.ok (.slice A2 (l.length-u) (c-u)) W)∧RdS w S A2 (byc (l.drop u)):=by
 obtain⟨i0,hi0,hz0,hz1,hz2⟩:=jw yp
 obtain⟨A2,e1,e2⟩:=y6 (P:=Tryz.prog) Tryz.underlying22 hi0 hz1 hrb hc hu
 refine⟨A2,e1,λhne=>?_⟩
 have hl0:byc l≠[]:=by
  intro e0
  apply hne
  have:l=[]:=List.eq_nil_of_length_eq_zero (by rw[←qi,e0];rfl)
  rw[this];simp[byc]
 obtain⟨g,o,hA1,hSg,hcell⟩:=hA hl0
 have hd0:l.drop u≠[]:=by rintro e0;rw[e0] at hne;exact hne rfl
 have hlt:u<l.length:=by
  rcases Nat.lt_or_ge u l.length with h1|h1
  ·exact h1
  ·exact absurd (List.drop_of_length_le h1) hd0
 have e3:=e1 w
 subst hA1
 have ht':Tryz.prog.underlying 22=some (.slice (Tryz.prog.elem 22)):=by simp[Program.elem,Tryz.underlying22]
 have he:Tryz.prog.elem 22=5:=by simp[Program.elem,Tryz.underlying22]
 rw[run_slice_l w 22 (some ⟨g,o,none⟩) l.length c ht' .i64 u (by omega) (by omega),he] at e3
 simp[sizeOf,typeInfo,hi0,hz1,sliced,Result.andThen,show ¬c=u by omega,add_plain] at e3
 subst e3
 refine⟨g,o+u,rfl,hSg,λj x hj=>?_⟩
 have:=hcell (u+j) x (by
  rw[←hj]
  unfold byc
  rw[List.map_drop,List.getElem?_drop])
 rwa [Nat.add_assoc]
theorem zzg{a b:Int}{s t:Bool}(h1:a=b)(h2:s=t):Ending.returned (.tuple #[.int .i64 a,.bool s])=.returned (.tuple #[.int .i64 b,.bool t]):=by rw[h1,h2]
theorem zcf{w:World}{S:Nat→Prop}{gr:Nat}{d fv sv:Value}{l:List UInt8}(k:Nat)(h1:1≤k)(h8:k≤8)(hl:l.length≤65536)(h:Rs w S gr d fv sv l)(hS:∀k,S k→k<w.heap.size) :
  Calls Tryz.prog 197 #[pt gr,.int .i64 (k:Int)] w λe w'=>e=.returned (.tuple #[.int .i64 ((zs k l).1:Int),.bool (decide ((zs k l).2.2=0))])∧Rs w' S gr d fv sv (l.drop (zs k l).2.1)∧Fs (λk=>k=gr) w w'∧w'.heap.size=w.heap.size:=by
 obtain⟨A,c,hR,hc,hA,hn⟩:=h
 have hrb:RdB w w.heap.size A l:=RdB.ofS hA λg hg _=>hS g hg
 have hget:=zsl k h1 h8 A c l hl hc w w.heap.size hrb
 have hbd:=zdj h1 h8 l
 have hu:(zs k l).2.1≤l.length:=by
  by_cases hz:(zs k l).2.2=0
  ·exact(Vh hz).2
  ·rw[(zre hz).2];omega
 unfold zln at hget
 generalize hG:zs k l=G at *
 obtain⟨n,u,z⟩:=G
 simp only at hget hbd hu ⊢
 obtain⟨A2,hcut,hA2⟩:=X4 hA hrb hc hu
 have HG:=z2w hG
 have HA2:=z2w hA2
 have c1:=hR.cell (j:=1) rfl
 have z1:=hR.thawed 1
 have HR2:Hid (Row (w.setCell ⟨gr,1,none⟩ (.slice A2 (l.length-u) (c-u))) gr 230 #[d,.slice A2 (l.length-u) (c-u),fv,sv]):=Row.stored hR 1 _
 have HF2:Hid (Fs (λk=>k=gr) w (w.setCell ⟨gr,1,none⟩ (.slice A2 (l.length-u) (c-u)))):=(Fs.refl (λk=>k=gr) w).setCell (λ_=>rfl) _ _
 have hss:(w.setCell ⟨gr,1,none⟩ (.slice A2 (l.length-u) (c-u))).heap.size=w.heap.size:=by simp[World.setCell]
 have HSS:=z2w hss
 have hn1:(n:Int)≤268435456:=by omega
 clear hss hG hA hrb hR hA2
 unfold pt
 by_cases hz:z=0
 ·subst hz
  go_enter Tryz.func197,Tryz.ntmps197
  go_wp2_with fail
  refine hget.mono ?_
  rintro e w1 ⟨rfl,rfl⟩
  go_wp2_with fail
  go_ret2
  refine⟨rfl,⟨A2,c-u,?_,by rw[List.length_drop];omega,HF2.out.reads HA2.out λk hk=>⟨hS k hk,λe=>hn (by rw[←e];exact hk)⟩,hn⟩,HF2.out,HSS.out⟩
  rw[List.length_drop]
  exact HR2.out
 ·have hzi:((z:Int) == 0)=false:=by rw[beq_eq_false_iff_ne];omega
  go_enter Tryz.func197,Tryz.ntmps197
  go_wp2_with fail
  refine hget.mono ?_
  rintro e w1 ⟨rfl,rfl⟩
  go_wp2_with fail
  go_ret2
  refine⟨zzg rfl (by simp[hz]),⟨A2,c-u,?_,by rw[List.length_drop];omega,HF2.out.reads HA2.out λk hk=>⟨hS k hk,λe=>hn (by rw[←e];exact hk)⟩,hn⟩,HF2.out,HSS.out⟩
  rw[List.length_drop]
  exact HR2.out
def zfu(w:World)(S:Nat→Prop)(gr:Nat)(d fv sv:Value)(o:Option (List UInt8 × List UInt8))(e:Ending)(w':World):Prop:=
 Fs (λk=>k=gr) w w'∧match o with
  |none=>∃s,e=.returned (.tuple #[.string s,.bool false])
  |some (a,r)=>e=.returned (.tuple #[tx a,.bool true])∧Rs w' S gr d fv sv r
theorem zer{b:Nat}(h:b<256):(128≤b→(bits .and .u8 (b:Int) 128 == 0)=false)∧(¬128≤b→bits .and .u8 (b:Int) 128=0):=by
 have:=(zgi ⟨b,h⟩).1
 simp only at this
 refine⟨λh1=>?_,λh1=>Classical.byContradiction λh2=>h1 (this.1 h2)⟩
 rw[beq_eq_false_iff_ne]
 exact this.2 h1
attribute [local irreducible] zs Qn
theorem zge{w:World}{S:Nat→Prop}{gr:Nat}{d fv sv:Value}{l:List UInt8}(hl:l.length≤12000)(h:Rs w S gr d fv sv l)(hS:∀k,S k→k<w.heap.size) :
  Calls Tryz.prog 223 #[pt gr] w (zfu w S gr d fv sv (yr l)):=by
 have hnum:=zcf 7 (by omega) (by omega) (by omega) h hS
 obtain⟨A,c,hR,hc,hA,hn⟩:=h
 have c1:=hR.cell (j:=1) rfl
 have hbd:=zdj (k:=7) (by omega) (by omega) l
 obtain⟨t,ht⟩:∃t,t=hiB l:=⟨_,rfl⟩
 have HTx:Hid (yr l=if (zs 7 l).2.2≠0 then none else if (l.drop (zs 7 l).2.1).length<(zs 7 l).1 then none
   else if t then (match Qn ((l.drop (zs 7 l).2.1).take (zs 7 l).1) with
    |none=>none
    |some s=>some (s,(l.drop (zs 7 l).2.1).drop (zs 7 l).1))
   else some ((l.drop (zs 7 l).2.1).take (zs 7 l).1,(l.drop (zs 7 l).2.1).drop (zs 7 l).1)):=by
  show _=_
  rw[ht]
  rfl
 obtain⟨X,hX⟩:∃X,X=yr l:=⟨_,rfl⟩
 rw[←hX] at HTx ⊢
 have hll:(l.drop (zs 7 l).2.1).length≤12000:=by rw[List.length_drop];omega
 generalize l.drop (zs 7 l).2.1=m at *
 generalize zs 7 l=G at *
 obtain⟨n,u,z⟩:=G
 simp only at hnum hbd HTx
 have hhd:(l=[]∧t=false)∨∃(b:UInt8) (r:List UInt8),l=b :: r∧t=decide (128≤b.toNat):=by
  cases l with
  |nil=>exact .inl ⟨rfl,by rw[ht];rfl⟩
  |cons b r=>exact .inr ⟨b,r,rfl,by rw[ht];rfl⟩
 have HA:=z2w hA
 have HH:=z2w hhd
 have HR:=z2w hR
 clear ht hX hA hR hhd
 unfold pt at *
 have hcase:(l=[]∧t=false)∨(∃(b:UInt8) (r:List UInt8),l=b :: r∧t=false∧bits .and .u8 (b.toNat:Int) 128=0)∨∃(b:UInt8) (r:List UInt8),l=b :: r∧t=true∧(bits .and .u8 (b.toNat:Int) 128 != 0)=true:=by
  rcases HH.out with h1|⟨b,r,h1,h2⟩
  ·exact .inl h1
  ·by_cases hb:128≤b.toNat
   ·exact .inr (.inr ⟨b,r,h1,by rw[h2];simp[hb],by have:=(zer b.toNat_lt).1 hb;unfold bne;rw[this];rfl⟩)
   ·exact .inr (.inl ⟨b,r,h1,by rw[h2];simp[hb],(zer b.toNat_lt).2 hb⟩)
 clear HH
 rcases hcase with ⟨rfl,rfl⟩|⟨b,r,rfl,rfl,hbit⟩|⟨b,r,rfl,rfl,hbit⟩
 ·skip
  go_enter Tryz.func223,Tryz.ntmps223
  go_wp2_with fail
  refine hnum.mono ?_
  rintro e w1 ⟨rfl,hRs,hF1,hs1⟩
  obtain⟨A1,cA,hR1,hc1,hA1,_⟩:=hRs
  have d1:=hR1.cell (j:=1) rfl
  have z1:=hR1.thawed 1
  have HR1:=z2w hR1
  have HA1:=z2w hA1
  have HF1:=z2w hF1
  have HS1:=z2w hs1
  clear hR1 hA1 hF1 hs1 hnum
  by_cases hz:z=0
  ·subst hz
   by_cases hlt:m.length<n
   ·have hX:X=none:=by rw[HTx.out];simp[hlt]
    subst hX
    go_wp2_with fail
    go_ret2
    exact⟨HF1.out,⟨_,rfl⟩⟩
   ·have hnl:n≤m.length:=by omega
    have hd1:decide (m.length<n)=false:=by simp;omega
    have htl:(m.take n).length=n:=by rw[List.length_take];omega
    have hrb:RdB w1 w1.heap.size A1 m:=RdB.ofS HA1.out λg hg _=>by rw[HS1.out];exact hS g hg
    obtain⟨i0,hi0,hz0,hz1,hz2⟩:=jw yp
    obtain⟨hup,hrt⟩:=xi (P:=Tryz.prog) Tryz.underlying22 hi0 hz1 hrb hc1 hnl
    obtain⟨A2,hfr,hA2⟩:=X4 HA1.out hrb hc1 hnl
    have HR2:Hid (Row (w1.setCell ⟨gr,1,none⟩ (.slice A2 (m.length-n) (cA-n))) gr 230 #[d,.slice A2 (m.length-n) (cA-n),fv,sv]):=Row.stored HR1.out 1 _
    have HF2:Hid (Fs (λk=>k=gr) w1 (w1.setCell ⟨gr,1,none⟩ (.slice A2 (m.length-n) (cA-n)))):=(Fs.refl (λk=>k=gr) w1).setCell (λ_=>rfl) _ _
    have HS2:Hid ((w1.setCell ⟨gr,1,none⟩ (.slice A2 (m.length-n) (cA-n))).heap.size=w1.heap.size):=by show _=_;simp[World.setCell]
    have HAt:Hid (RdS (w1.setCell ⟨gr,1,none⟩ (.slice A2 (m.length-n) (cA-n))) S A1 (byc (m.take n))):=HF2.out.reads (λhne=>by
     have hm:byc m≠[]:=by
      intro e0
      apply hne
      have:m=[]:=List.eq_nil_of_length_eq_zero (by rw[←qi,e0];rfl)
      rw[this];simp[byc]
     obtain⟨g,o,q1,q2,q3⟩:=HA1.out hm
     refine⟨g,o,q1,q2,λj x hj=>q3 j x ?_⟩
     unfold byc at hj ⊢
     rw[List.map_take] at hj
     rw[List.getElem?_take] at hj
     split at hj
     ·exact hj
     ·cases hj) λk hk=>⟨by rw[HS1.out];exact hS k hk,λe=>hn (by rw[←e];exact hk)⟩
    have HRs:Hid (Rs (w1.setCell ⟨gr,1,none⟩ (.slice A2 (m.length-n) (cA-n))) S gr d fv sv (m.drop n)):=by
     refine⟨A2,cA-n,?_,by rw[List.length_drop];omega,HF2.out.reads hA2 λk hk=>⟨by rw[HS1.out];exact hS k hk,λe=>hn (by rw[←e];exact hk)⟩,hn⟩
     rw[List.length_drop]
     exact HR2.out
    have HFF:=z2w (HF1.out.trans HF2.out λ_ _ e=>e)
    have HrbT:Hid (RdB (w1.setCell ⟨gr,1,none⟩ (.slice A2 (m.length-n) (cA-n))) (w1.setCell ⟨gr,1,none⟩ (.slice A2 (m.length-n) (cA-n))).heap.size A1 (m.take n)):=
     RdB.ofS HAt.out λg hg _=>by rw[HS2.out,HS1.out];exact hS g hg
    clear hrb hrt hA2 HR1 HA1 HR2 HF2 HAt HF1
    have htx:=y0 (P:=Tryz.prog) (c:=cA) Tryz.underlying22 Tryz.underlying5 Tryz.underlying9 HrbT.out
    rw[htl] at htx
    have hX:X=some (m.take n,m.drop n):=by rw[HTx.out];simp[hlt]
    subst hX
    generalize m.take n=mt at *
    generalize m.drop n=md at *
    go_wp2_with fail
    go_ret2
    exact⟨HFF.out,rfl,HRs.out⟩
  ·have hzi:decide (z=0)=false:=by simp[hz]
   have hX:X=none:=by rw[HTx.out];simp[hz]
   subst hX
   go_wp2_with fail
   go_ret2
   exact⟨HF1.out,⟨_,rfl⟩⟩
 ·obtain⟨g0,o0,hAe,hSg0,hcel⟩:=HA.out (by simp[byc])
  subst hAe
  have f0:w.cell? ⟨g0,o0,none⟩=some (.int .u8 (b.toNat:Int)):=hcel 0 _ (by simp[byc])
  have hl0:(0:Int)<((b :: r).length:Int):=by simp<;>omega
  have hl1:0<(b :: r).length:=by simp
  clear hcel
  generalize (b :: r).length=ln at *
  go_enter Tryz.func223,Tryz.ntmps223
  go_wp2_with fail
  refine hnum.mono ?_
  rintro e w1 ⟨rfl,hRs,hF1,hs1⟩
  obtain⟨A1,cA,hR1,hc1,hA1,_⟩:=hRs
  have d1:=hR1.cell (j:=1) rfl
  have z1:=hR1.thawed 1
  have HR1:=z2w hR1
  have HA1:=z2w hA1
  have HF1:=z2w hF1
  have HS1:=z2w hs1
  clear hR1 hA1 hF1 hs1 hnum
  by_cases hz:z=0
  ·subst hz
   by_cases hlt:m.length<n
   ·have hX:X=none:=by rw[HTx.out];simp[hlt]
    subst hX
    go_wp2_with fail
    go_ret2
    exact⟨HF1.out,⟨_,rfl⟩⟩
   ·have hnl:n≤m.length:=by omega
    have hd1:decide (m.length<n)=false:=by simp;omega
    have htl:(m.take n).length=n:=by rw[List.length_take];omega
    have hrb:RdB w1 w1.heap.size A1 m:=RdB.ofS HA1.out λg hg _=>by rw[HS1.out];exact hS g hg
    obtain⟨i0,hi0,hz0,hz1,hz2⟩:=jw yp
    obtain⟨hup,hrt⟩:=xi (P:=Tryz.prog) Tryz.underlying22 hi0 hz1 hrb hc1 hnl
    obtain⟨A2,hfr,hA2⟩:=X4 HA1.out hrb hc1 hnl
    have HR2:Hid (Row (w1.setCell ⟨gr,1,none⟩ (.slice A2 (m.length-n) (cA-n))) gr 230 #[d,.slice A2 (m.length-n) (cA-n),fv,sv]):=Row.stored HR1.out 1 _
    have HF2:Hid (Fs (λk=>k=gr) w1 (w1.setCell ⟨gr,1,none⟩ (.slice A2 (m.length-n) (cA-n)))):=(Fs.refl (λk=>k=gr) w1).setCell (λ_=>rfl) _ _
    have HS2:Hid ((w1.setCell ⟨gr,1,none⟩ (.slice A2 (m.length-n) (cA-n))).heap.size=w1.heap.size):=by show _=_;simp[World.setCell]
    have HAt:Hid (RdS (w1.setCell ⟨gr,1,none⟩ (.slice A2 (m.length-n) (cA-n))) S A1 (byc (m.take n))):=HF2.out.reads (λhne=>by
     have hm:byc m≠[]:=by
      intro e0
      apply hne
      have:m=[]:=List.eq_nil_of_length_eq_zero (by rw[←qi,e0];rfl)
      rw[this];simp[byc]
     obtain⟨g,o,q1,q2,q3⟩:=HA1.out hm
     refine⟨g,o,q1,q2,λj x hj=>q3 j x ?_⟩
     unfold byc at hj ⊢
     rw[List.map_take] at hj
     rw[List.getElem?_take] at hj
     split at hj
     ·exact hj
     ·cases hj) λk hk=>⟨by rw[HS1.out];exact hS k hk,λe=>hn (by rw[←e];exact hk)⟩
    have HRs:Hid (Rs (w1.setCell ⟨gr,1,none⟩ (.slice A2 (m.length-n) (cA-n))) S gr d fv sv (m.drop n)):=by
     refine⟨A2,cA-n,?_,by rw[List.length_drop];omega,HF2.out.reads hA2 λk hk=>⟨by rw[HS1.out];exact hS k hk,λe=>hn (by rw[←e];exact hk)⟩,hn⟩
     rw[List.length_drop]
     exact HR2.out
    have HFF:=z2w (HF1.out.trans HF2.out λ_ _ e=>e)
    have HrbT:Hid (RdB (w1.setCell ⟨gr,1,none⟩ (.slice A2 (m.length-n) (cA-n))) (w1.setCell ⟨gr,1,none⟩ (.slice A2 (m.length-n) (cA-n))).heap.size A1 (m.take n)):=
     RdB.ofS HAt.out λg hg _=>by rw[HS2.out,HS1.out];exact hS g hg
    clear hrb hrt hA2 HR1 HA1 HR2 HF2 HAt HF1
    have htx:=y0 (P:=Tryz.prog) (c:=cA) Tryz.underlying22 Tryz.underlying5 Tryz.underlying9 HrbT.out
    rw[htl] at htx
    have hX:X=some (m.take n,m.drop n):=by rw[HTx.out];simp[hlt]
    subst hX
    generalize m.take n=mt at *
    generalize m.drop n=md at *
    go_wp2_with fail
    go_ret2
    exact⟨HFF.out,rfl,HRs.out⟩
  ·have hzi:decide (z=0)=false:=by simp[hz]
   have hX:X=none:=by rw[HTx.out];simp[hz]
   subst hX
   go_wp2_with fail
   go_ret2
   exact⟨HF1.out,⟨_,rfl⟩⟩
 ·obtain⟨g0,o0,hAe,hSg0,hcel⟩:=HA.out (by simp[byc])
  subst hAe
  have f0:w.cell? ⟨g0,o0,none⟩=some (.int .u8 (b.toNat:Int)):=hcel 0 _ (by simp[byc])
  have hl0:(0:Int)<((b :: r).length:Int):=by simp<;>omega
  have hl1:0<(b :: r).length:=by simp
  clear hcel
  generalize (b :: r).length=ln at *
  go_enter Tryz.func223,Tryz.ntmps223
  go_wp2_with fail
  refine hnum.mono ?_
  rintro e w1 ⟨rfl,hRs,hF1,hs1⟩
  obtain⟨A1,cA,hR1,hc1,hA1,_⟩:=hRs
  have d1:=hR1.cell (j:=1) rfl
  have z1:=hR1.thawed 1
  have HR1:=z2w hR1
  have HA1:=z2w hA1
  have HF1:=z2w hF1
  have HS1:=z2w hs1
  clear hR1 hA1 hF1 hs1 hnum
  by_cases hz:z=0
  ·subst hz
   by_cases hlt:m.length<n
   ·have hX:X=none:=by rw[HTx.out];simp[hlt]
    subst hX
    go_wp2_with fail
    go_ret2
    exact⟨HF1.out,⟨_,rfl⟩⟩
   ·have hnl:n≤m.length:=by omega
    have hd1:decide (m.length<n)=false:=by simp;omega
    have htl:(m.take n).length=n:=by rw[List.length_take];omega
    have hrb:RdB w1 w1.heap.size A1 m:=RdB.ofS HA1.out λg hg _=>by rw[HS1.out];exact hS g hg
    obtain⟨i0,hi0,hz0,hz1,hz2⟩:=jw yp
    obtain⟨hup,hrt⟩:=xi (P:=Tryz.prog) Tryz.underlying22 hi0 hz1 hrb hc1 hnl
    obtain⟨A2,hfr,hA2⟩:=X4 HA1.out hrb hc1 hnl
    have HR2:Hid (Row (w1.setCell ⟨gr,1,none⟩ (.slice A2 (m.length-n) (cA-n))) gr 230 #[d,.slice A2 (m.length-n) (cA-n),fv,sv]):=Row.stored HR1.out 1 _
    have HF2:Hid (Fs (λk=>k=gr) w1 (w1.setCell ⟨gr,1,none⟩ (.slice A2 (m.length-n) (cA-n)))):=(Fs.refl (λk=>k=gr) w1).setCell (λ_=>rfl) _ _
    have HS2:Hid ((w1.setCell ⟨gr,1,none⟩ (.slice A2 (m.length-n) (cA-n))).heap.size=w1.heap.size):=by show _=_;simp[World.setCell]
    have HAt:Hid (RdS (w1.setCell ⟨gr,1,none⟩ (.slice A2 (m.length-n) (cA-n))) S A1 (byc (m.take n))):=HF2.out.reads (λhne=>by
     have hm:byc m≠[]:=by
      intro e0
      apply hne
      have:m=[]:=List.eq_nil_of_length_eq_zero (by rw[←qi,e0];rfl)
      rw[this];simp[byc]
     obtain⟨g,o,q1,q2,q3⟩:=HA1.out hm
     refine⟨g,o,q1,q2,λj x hj=>q3 j x ?_⟩
     unfold byc at hj ⊢
     rw[List.map_take] at hj
     rw[List.getElem?_take] at hj
     split at hj
     ·exact hj
     ·cases hj) λk hk=>⟨by rw[HS1.out];exact hS k hk,λe=>hn (by rw[←e];exact hk)⟩
    have HRs:Hid (Rs (w1.setCell ⟨gr,1,none⟩ (.slice A2 (m.length-n) (cA-n))) S gr d fv sv (m.drop n)):=by
     refine⟨A2,cA-n,?_,by rw[List.length_drop];omega,HF2.out.reads hA2 λk hk=>⟨by rw[HS1.out];exact hS k hk,λe=>hn (by rw[←e];exact hk)⟩,hn⟩
     rw[List.length_drop]
     exact HR2.out
    have HFF:=z2w (HF1.out.trans HF2.out λ_ _ e=>e)
    have HrbT:Hid (RdB (w1.setCell ⟨gr,1,none⟩ (.slice A2 (m.length-n) (cA-n))) (w1.setCell ⟨gr,1,none⟩ (.slice A2 (m.length-n) (cA-n))).heap.size A1 (m.take n)):=
     RdB.ofS HAt.out λg hg _=>by rw[HS2.out,HS1.out];exact hS g hg
    clear hrb hrt hA2 HR1 HA1 HR2 HF2 HAt HF1
    have hdc:=zxh A1 cA (m.take n) (by rw[htl];omega) _ HrbT.out
    rw[htl] at hdc
    have HX:Hid (X=match Qn (m.take n) with
     |none=>none
     |some s=>some (s,m.drop n)):=by show _=_;rw[HTx.out];simp[hlt]
    clear HTx HrbT
    generalize m.take n=mt at *
    generalize m.drop n=md at *
    generalize Qn mt=D at *
    unfold zyw at hdc
    cases D with
    |none=>
     have hX:X=none:=HX.out
     subst hX
     simp only[Option.isSome_none,Option.getD_none] at hdc
     go_wp2_with fail
     refine hdc.mono ?_
     rintro e w3 ⟨rfl,hb3⟩
     have HF3:=z2w (HFF.out.then_below hb3)
     clear hb3 hdc HFF HRs
     go_wp2_with fail
     go_ret2
     exact⟨HF3.out,⟨_,rfl⟩⟩
    |some x=>
     have hX:X=some (x,md):=HX.out
     subst hX
     simp only[Option.isSome_some,Option.getD_some] at hdc
     go_wp2_with fail
     refine hdc.mono ?_
     rintro e w3 ⟨rfl,hb3⟩
     have HF3:=z2w (HFF.out.then_below hb3)
     have HRs3:=z2w (HRs.out.below hb3 λk hk=>by rw[HS2.out,HS1.out];exact hS k hk)
     clear hb3 hdc HFF HRs
     go_wp2_with fail
     go_ret2
     exact⟨HF3.out,rfl,HRs3.out⟩
  ·have hzi:decide (z=0)=false:=by simp[hz]
   have hX:X=none:=by rw[HTx.out];simp[hz]
   subst hX
   go_wp2_with fail
   go_ret2
   exact⟨HF1.out,⟨_,rfl⟩⟩
end
end Go.Proofs.YtooaajnkiokpnaaGreatDoor
