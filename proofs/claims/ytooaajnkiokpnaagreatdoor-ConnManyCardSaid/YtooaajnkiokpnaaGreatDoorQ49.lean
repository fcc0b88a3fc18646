/-
  Part of a proof: ConnMany: the law's walk. Condition: errors.errorType as the program's text lays it. Conditions: those that each theorem names.
-/
import Derived.Test.YtooaajnkiokpnaaGreatDoorQ01
import Derived.Test.YtooaajnkiokpnaaGreatDoorQ41
import Derived.Test.YtooaajnkiokpnaaGreatDoorQ42
import Derived.Test.YtooaajnkiokpnaaGreatDoorQ36
import Derived.Test.YtooaajnkiokpnaaGreatDoorQ48
import Derived.Test.YtooaajnkiokpnaaGreatDoorQ13
import Derived.Deep.RegionHeld3
import Derived.Test.YtooaajnkiokpnaaGreatDoorQ44
namespace Go.Proofs.YtooaajnkiokpnaaGreatDoor
open Go.RowKit Go.WideShapes
set_option maxHeartbeats 4000000
set_option maxRecDepth 100000
section
theorem zxt(w:World):Calls Tryz.prog 29 #[] w λe w'=>e=.returned (.string (tb qo))∧w'=w:=by
 go_enter Tryz.func29,Tryz.ntmps29
 go_wp2_with fail
 go_ret
 exact⟨rfl,rfl⟩
def X8:List UInt8:=qo++zh yx
theorem zw6:X8.length=41:=by unfold X8;rw[List.length_append,Vf];rfl
theorem zvn:vj [] false X8=X8:=by unfold vj;rw[if_neg (by simp),List.nil_append,List.take_of_length_le (by rw[zw6];simp)]
theorem zyt:nsN X8 true false=(some (yx,0,0),[],false,false):=by
 unfold X8
 rw[Vf]
 kernel_rfl
def zx5:List UInt8:=[0,0,18,4,0,0,0,0,0,0,3,0,0,0,16,0,6,0,0,16,0,0,8,0,0,0,1]
theorem zoq:zh (stF jr)=zx5:=by decide +kernel
theorem zzb(w:World):(binOp .eql 29 (.agg #[.int .u8 1,.int .u32 1]) (.agg #[.int .u8 1,.int .u32 1])).run Tryz.prog w=.ok (.bool true) w:=by kernel_rfl
attribute [local irreducible] Cc.c evc Fm.c ftc
theorem zay(w:World)(hG:GlobE w):Calls Tryz.prog 8 #[] w λe w'=>e=.returned (.bool true)∧Below w.heap.size w w':=by
 obtain⟨i0,hi0,hz0,hz1,hz2⟩:=zr qk
 have hmk:∀W:World,(Instr.makeSlice 22 (.int .i64 8) (.int .i64 8)).run Tryz.prog W=.ok (.slice (some ⟨W.heap.size,0,none⟩) 8 8) (W.alloc (.cells (madeCells #[Value.int .u8 0] 8) 5)):=λW=>by
  have:=run_make (P:=Tryz.prog) W 22 5 i0 (.int .u8 0) Tryz.underlying22 hi0 hz0 .i64 .i64 8 8 (by omega) (by omega) (by rw[hz2];omega) (by omega)
  rw[this,hz1]
  rfl
 have hMC:(madeCells #[Value.int .u8 0] 8).toList=byc (List.replicate 8 0):=by kernel_rfl
 have HMC:=z2w hMC
 clear hMC hi0 hz0 hz1 hz2
 generalize madeCells #[Value.int .u8 0] 8=MC at *
 go_enter Tryz.func8,Tryz.ntmps8
 go_wp2_with fail
 refine(zrq w hG).mono ?_
 rintro e w1 ⟨c,g,b,m,ga,de,en,ow,mt,rg,v,rfl,hH,hS,hM,hF,hmg,hg,hb,hB⟩
 have HG1:=z2w (hG.below hB)
 have HH:=z2w hH
 have HS:=z2w hS
 have HM:=z2w hM
 have HF:=z2w hF
 have HB:=z2w hB
 have hgl:=jf hG
 clear hG hH hS hM hF hB
 obtain⟨w2,hw2⟩:∃w2,(w1.alloc (.cells MC 5)).drew=w2:=⟨_,rfl⟩
 have hb2:Below w1.heap.size w1 w2:=by rw[←hw2];exact((Below.refl _ _).alloc (Nat.le_refl _) _).drew
 have hX2:Row w2 w1.heap.size 5 MC:=by rw[←hw2];exact Row.new w1 _ _
 have hput:=zoj (A:=some ⟨w1.heap.size,0,none⟩) (c:=8) (w:=w2) (RdB.row hX2 HMC.out hX2.lt)
 rw[z01] at hput
 have HPUT:=z2w hput
 have HB2:=z2w hb2
 have HW2:=z2w hw2
 clear hput hw2 hX2 hb2
 have hrp:=zxt
 go_wp2_with fail
 refine wp_region_held_drew (S:=λ_=>True) (by kernel_rfl) trivial (λhHeld=>?_)
 refine tkH 0 ?_
 refine wpAnyH_ready (rs:=[1,2]) (by kernel_rfl) (by simp) ?_
 refine AllReadyH.cons rfl (λK hK=>?_) (AllReadyH.cons rfl (λK hK=>?_) AllReadyH.nil)
 go_simp
 go_at_call 29
 refine(hrp _).mono ?_
 rintro e w9 ⟨rfl,rfl⟩
 refine hK.out _ _ trivial (λhHeld=>?_)
 clear hK K
 try refine ptk ?_
 refine rdH 2 λK hK=>?_
 go_simp
 refine hK.out _ _ trivial (λhHeld=>?_)
 clear hK K
 try refine ptk ?_
 rw[HW2.out]
 refine tkH 3 ?_
 rotate_left
 go_simp
 refine hK.out _ _ trivial (λhHeld=>?_)
 clear hK K
 try refine ptk ?_
 rw[HW2.out]
 refine tkH 3 ?_
 refine rdH 1 λK hK=>?_
 go_simp
 go_at_call 29
 refine(hrp _).mono ?_
 rintro e w9 ⟨rfl,rfl⟩
 refine hK.out _ _ trivial (λhHeld=>?_)
 clear hK K
 try refine ptk ?_
 rotate_left
 all_goals
  clear hrp hmk
  refine rdH 4 λK hK=>?_
  go_simp
  go_at_call 27
  refine HPUT.out.mono ?_
  rintro e w3 ⟨rfl,hb3⟩
  have HB3:=z2w (HB2.out.trans (hb3.mono HB2.out.size))
  clear hb3 HPUT HB2 HW2
  refine hK.out _ _ trivial (λhHeld=>?_)
  clear hK K
  try refine ptk ?_
  have hadd:=Yk qo (zh yx) (by decide) (by rw[Vf];decide)
  rw[show qo++zh yx=X8 from rfl] at hadd
  refine rdH 5 λK hK=>?_
  go_simp
  refine hK.out _ _ trivial (λhHeld=>?_)
  clear hK K
  try refine ptk ?_
  obtain⟨c6,w6,hcv,_,hb6,hs6,hrd⟩:=zpq X8 w3
  have HB6:=z2w (HB3.out.trans (hb6.mono HB3.out.size))
  have HRD:=z2w hrd
  have HS6:=z2w hs6
  clear hb6 hs6 hrd hadd
  refine rdH 6 λK hK=>?_
  go_simp
  refine hK.out _ _ trivial (λhHeld=>?_)
  clear hK K hcv
  try refine ptk ?_
  have hfe:=zfe (x:={ ye g ga de en ow mt rg m with row:=v }) (y:=X8) (A:=some ⟨w3.heap.size,0,none⟩) (n:=c6) ((HH.out.below HB6.out).row) rfl rfl (HS.out.below HB6.out) (HRD.out.imp λk hk hl=>⟨hl,by have:=HS.out.lts;have:=HB3.out.size;omega,by have:=HS.out.lts;have:=HB3.out.size;omega⟩)
  refine rdH 7 λK hK=>?_
  go_simp
  go_at_call 13
  refine hfe.mono ?_
  rintro e w7 ⟨rfl,h7,hf7⟩
  have HH7:=z2w ((HH.out.below HB6.out).of_fs hf7 (λk hk=>(HF.out k hk).2))
  have HM7:=z2w ((HM.out.below HB6.out).fs hf7 hmg)
  have HG7:=z2w ((HG1.out.below HB6.out).fs hf7 (zh3 (by omega) (by omega)))
  have HS7:Hid (Spl w7 g b X8 true false):=by show Spl _ _ _ _ _ _;rw[zvn] at h7;exact h7
  have HB7:=z2w ((HB.out.trans (HB6.out.mono HB.out.size)).trans (hf7.below (B:=w.heap.size) (λk hk _=>by rcases hk with rfl|rfl<;>assumption) (by have:=HB.out.size;have:=HB6.out.size;omega)))
  refine hK.out _ _ trivial (λhHeld=>?_)
  clear hK K hfe h7 hf7
  refine dnH ?_
  have hpo:=zle HH7.out (by rw[show zh (stF jr)=zx5 from zoq];decide) (Nat.zero_le _) HG7.out (λh=>by have:=(HF.out _ h).1;omega) rfl rfl rfl HS7.out zyt (by decide) (by decide) rfl HM7.out rfl hmg (λk hk=>(HF.out k hk).2) (zh3 (by omega) (by omega))
  clear HH7 HM7 HG7 HS7 HB3 HB6 HRD HS6 hHeld
  go_wp2_with fail
  refine hpo.mono ?_
  rintro e w8 ⟨rfl,v8,u8,h8,hf8⟩
  obtain⟨w9,hw9,t1,t2,t3⟩:=Vj w8 (evF 1)
  have HW9:=z2w hw9
  have T1:=z2w t1
  have T3:=z2w t3
  have HR9:=z2w (h8.row.below t2 h8.row.lt)
  have HB9:=z2w ((HB7.out.trans (hf8.below (B:=w.heap.size) (λk hk _=>by
   rcases hk with hk|hk|hk
   ·exact(HF.out k hk).1
   ·subst hk;assumption
   ·subst hk;assumption) HB7.out.size)).trans (t2.mono (by have:=HB7.out.size;have:=hf8.size;omega)))
  clear hpo hw9 t1 t2 t3 h8 hf8 HB7
  go_upto_region 4 with (refine ze (cs:=evc (evF 1)) rfl _ _ rfl rfl rfl T3.out (Jp _ _) (j5 _) ?_)
  rw[HW9.out]
  clear HW9 T3
  generalize w8.heap.size=q at *
  have k0:=(ztg T1.out).1
  have k6:w9.cell? ⟨q,6,none⟩=some (.int .u8 1):=T1.out.cell (by rw[zls];rfl)
  have k7:w9.cell? ⟨q,7,none⟩=some (.int .u32 1):=T1.out.cell (by rw[zls];rfl)
  have heq:=zzb
  have hgn:=X2 HR9.out
  clear T1
  go_wp2_with fail
  refine hgn.mono ?_
  rintro e w10 ⟨rfl,rfl⟩
  go_wp2_with fail
  go_ret
  exact⟨rfl,HB9.out⟩
end
section
def lsd(c:Nat):Array Value:=(Value.pointer (some ⟨c,0,none⟩) :: (List.replicate 80 (Value.string ⟨#[]⟩)++[Value.bool false])).toArray
theorem zx2(c:Nat):(lsd c)[0]?=some (.pointer (some ⟨c,0,none⟩)):=by unfold lsd;rw[List.getElem?_toArray];rfl
attribute [local irreducible] Cc.c evc Fm.c ftc qj lsd
theorem zgo{w:World}(hG:GlobE w){A:Option Addr}{c:Nat}{L:List Bool}(hR:RdS w (·<w.heap.size) A (L.map .bool)) :
  Calls Tryz.prog 5 #[.slice A L.length c] w λe w'=>e=.returned (.bool true)∧Below w.heap.size w w':=by
 have HG:=z2w hG
 have HR:=z2w hR
 have hGW:0<w.heap.size:=jf hG
 clear hG hR
 by_cases hbig:100<L.length
 ·have hfx:=zay w HG.out
  have h1:(100:Int)<(L.length:Int):=by omega
  go_enter Tryz.func5,Tryz.ntmps5
  go_wp2_with fail
  refine hfx.mono ?_
  rintro e w2 ⟨rfl,hb2⟩
  have HB2:=z2w hb2
  clear hb2 hfx
  go_wp2_with fail
  go_ret
  exact⟨rfl,HB2.out⟩
 ·have h1:¬(100:Int)<(L.length:Int):=by omega
  have hn1:=zng w HG.out 1000 (by decide)
  rw[show min 1000 2147483647=1000 from rfl] at hn1
  go_enter Tryz.func5,Tryz.ntmps5
  go_wp2_with fail
  refine hn1.mono ?_
  rintro e w1 ⟨za,hza,hzB,rfl,hb1,hzz⟩
  have HZA:=z2w hza
  have HBA:=z2w hzB
  have HB1:=z2w hb1
  have HZZ:=z2w hzz
  have HG1:=z2w (HG.out.below hb1)
  clear hza hzB hb1 hzz hn1
  go_wp2_with (refine zn rfl 54 _ rfl (lsd za.c) (by kernel_rfl) ?_)
  have hw2:Below w1.heap.size w1 (w1.alloc (.cells (lsd za.c) 54)):=(Below.refl _ _).alloc (Nat.le_refl _) _
  have hR2:Row (w1.alloc (.cells (lsd za.c) 54)) w1.heap.size 54 (lsd za.c):=Row.new w1 _ _
  have hs2:(w1.alloc (.cells (lsd za.c) 54)).heap.size=w1.heap.size+1:=by simp
  have HW2:=z2w hw2
  have HR2:=z2w hR2
  have HS2:=z2w hs2
  have HG2:=z2w (HG1.out.below hw2)
  clear hw2 hR2 hs2
  obtain⟨w2,he2⟩:∃w2,w2=w1.alloc (.cells (lsd za.c) 54):=⟨_,rfl⟩
  rw[←he2] at HW2 HR2 HS2 HG2 ⊢
  clear he2
  refine(zm0 w2 HG2.out).mono ?_
  rintro e w3 ⟨zb,hzb,hzB,rfl,hb3,hzz⟩
  have HZB:=z2w hzb
  have HBB:=z2w hzB
  have HB3:=z2w hb3
  have HZY:=z2w hzz
  have HG3:=z2w (HG2.out.below hb3)
  clear hzb hzB hb3 hzz
  go_upto_region 4 with (refine zn rfl 54 _ rfl (lsd zb.c) (by kernel_rfl) ?_)
  have hw4:Below w3.heap.size w3 (w3.alloc (.cells (lsd zb.c) 54)):=(Below.refl _ _).alloc (Nat.le_refl _) _
  have hR4:Row (w3.alloc (.cells (lsd zb.c) 54)) w3.heap.size 54 (lsd zb.c):=Row.new w3 _ _
  have HG4:=z2w (HG3.out.below hw4)
  obtain⟨w4,he4⟩:∃w4,w4=w3.alloc (.cells (lsd zb.c) 54):=⟨_,rfl⟩
  rw[←he4] at hw4 hR4 HG4 ⊢
  clear he4
  have hza3:∀k,zi za.ps k→k<w1.heap.size:=λk hk=>HZA.out.1.lt hk
  have hzb3:∀k,zi zb.ps k→w1.heap.size+1≤k∧k<w3.heap.size:=λk hk=>⟨by have:=HZB.out.2.2 k hk;rw[HBB.out,HS2.out] at this;exact this,HZB.out.1.lt hk⟩
  have hs3:w1.heap.size+1≤w3.heap.size:=by rw[←HS2.out];exact HB3.out.size
  have HP:Hid (Pair w w4 za zb w1.heap.size w3.heap.size (lsd za.c) (lsd zb.c)):=
   ⟨((HZA.out.below HW2.out).below HB3.out).below hw4,HZB.out.below hw4,λk h1 h2=>by have:=hza3 k h1;have:=(hzb3 k h2).1;omega,
    ⟨(HR2.out.below HB3.out (by rw[HS2.out];omega)).below hw4 (by omega),zx2 _⟩,⟨hR4,zx2 _⟩,
    ⟨λh=>by have:=hza3 _ h;omega,λh=>by have:=(hzb3 _ h).1;omega⟩,⟨λh=>by have:=hza3 _ h;omega,λh=>by have:=(hzb3 _ h).2;omega⟩,
    ((HB1.out.trans (HW2.out.mono HB1.out.size)).trans (HB3.out.mono (by have:=HB1.out.size;rw[HS2.out];omega))).trans (hw4.mono (by have:=HB1.out.size;omega)),
    λk hk=>by
    rcases hk with hk|hk
    ·have:=HZA.out.2.2 k hk
     rw[HBA.out] at this
     exact this
    ·have:=(hzb3 k hk).1
     have:=HB1.out.size
     omega⟩
  have HPH:Hid (Ph za.c zb.c 1000 0 za zb):=by
   obtain⟨c',g,b,ga,de,dt,en,et,ow,mt,rg,sm,F,ou,rv,hz⟩:=HZZ.out
   obtain⟨d',g',b',ga',de',dt',en',et',ow',mt',rg',sm',F',ou',rv',hz'⟩:=HZY.out
   have h1:=zu6 (B:=w.heap.size) (c:=c') (g:=g) (b:=b) (ga:=ga) (de:=de) (dt:=dt) (en:=en) (et:=et) (ow:=ow) (mt:=mt) (rg:=rg) (sm:=sm) (F:=F) (ou:=ou) (rv:=rv) (n:=1000) (by decide)
   have h2:=zw2 (B:=w2.heap.size) (c:=d') (g:=g') (b:=b') (ga:=ga') (de:=de') (dt:=dt') (en:=en') (et:=et') (ow:=ow') (mt:=mt') (rg:=rg') (sm:=sm') (F:=F') (ou:=ou') (rv:=rv')
   rw[←hz] at h1
   rw[←hz'] at h2
   have e1:za.c=c':=h1.1.c
   have e2:zb.c=d':=h2.1.c
   rw[←e1] at h1
   rw[←e2] at h2
   exact .p0 h1.1 h1.2.1 h1.2.2 h2.1 h2.2.1 h2.2.2
  clear hza3 hzb3 hs3 hw4 hR4 HZA HZB HBA HBB HB1 HB3 HZZ HZY HG1 HG2 HG3 HW2 HR2 HS2
  generalize w1.heap.size=ga at *
  generalize w3.heap.size=gb at *
  have HF:=z2w (show za.srv=false∧za.go=false∧za.aw=false∧za.pa=false∧za.la=0∧za.be=false∧za.pe.st=4294967295 from by
   cases HPH.out with
   |p0 ha _ _ _ _ _=>exact⟨ha.srv,ha.go,ha.aw,ha.pa,ha.la,ha.be,by rw[ha.pe];rfl⟩
   |p2 _ hi=>omega)
  have c0:w4.cell? ⟨ga,0,none⟩=some (.pointer (some ⟨za.c,0,none⟩)):=HP.out.ra.r.cell HP.out.ra.c
  obtain⟨f1,f2,f3,f4,f5,f6,f7⟩:=HF.out
  have hfl:=zmq (v:=.slice none 0 0) (en:=false) HP.out.sa f1 f2 f3 f4 (by rw[f5];decide) (.inl f6) (by rw[f7];decide)
  clear f1 f2 f3 f4 f5 f6 f7 HF
  go_wp2_with fail
  refine hfl.mono ?_
  rintro e w5 ⟨rfl,hz5⟩
  have HP5:=z2w (HP.out.left hz5 rfl)
  have HG5:=z2w (hz5.glob HP.out.sa HG4.out)
  clear hz5 hfl c0 HP HG4 HG
  have HI0:Hid (∃a b,Pair w w5 a b ga gb (lsd za.c) (lsd zb.c)∧Ph za.c zb.c 1000 0 a b):=⟨_,_,HP5.out,HPH.out⟩
  clear HP5 HPH
  generalize za.c=pa at *
  generalize zb.c=pb at *
  generalize hxa:lsd pa=xa at *
  generalize hxb:lsd pb=xb at *
  clear hxa hxb
  go_upto_region 8 with fail
  go_loopg [33] 3 (λk v33 wr=>k≤3∧v33=.int .i64 ((3-k:Nat):Int)∧Hid (GlobE wr)∧Hid (∃a b,Pair w wr a b ga gb xa xb∧Ph pa pb 1000 (3-k) a b))
  case atStart=>exact⟨by omega,rfl,HG5,HI0⟩
  case round=>
   clear HI0 HG5
   obtain⟨hk3,rfl,HG,HI⟩:=hrel
   by_cases hk:gk=0
   ·subst hk
    have e1:¬(((3-0:Nat):Int)<3):=by omega
    obtain⟨a,b,hp,hph⟩:=HI.out
    have HMY:Hid (My w wr ga gb pa pb xa xb 0 0 a b):=by
     cases hph with
     |p2 i hi ha hl hb hm=>exact⟨hp,HG.out,ha.cli rfl,hl,⟨[],ha.R,.nil⟩,hb.s,hm,by rw[ha.R];exact Nat.zero_le _⟩
    clear hp hph HI HG
    have HBN:Hid (Below wr.heap.size wr (wr.alloc (.cells #[] 24))):=(Below.refl _ _).alloc (Nat.le_refl _) _
    have hnw:∀k,ob (.slice (some ⟨wr.heap.size,0,none⟩) 0 0) k→ob (.slice none 0 0) k∨wr.heap.size≤k:=λk hk=>by
     have h9:wr.heap.size=k:=by simpa [ob,Value.ownBlock] using hk
     exact .inr (Nat.le_of_eq h9)
    have HLV0:Hid (Lv w (wr.alloc (.cells #[] 24)) ga gb a b (.slice (some ⟨wr.heap.size,0,none⟩) 0 0) (Qg 0 0)):=
     Lv.turn (v:=.slice none 0 0) (L:=[]) ⟨OwS.nil,λk hk=>by cases hk⟩ HMY.out.p ⟨rfl,.inr ⟨wr.heap.size,0,0,#[],rfl,Nat.zero_le _,Row.new wr 24 #[],Nat.le_refl _,Nat.zero_le _,Nat.zero_le _,rfl⟩⟩ hnw
    clear hnw
    go_upto_region 13 with fail
    have HI:Hid (MyI w (wr.alloc (.cells #[] 24)) ga gb pa pb xa xb 0 (.slice (some ⟨wr.heap.size,0,none⟩) 0 0) (.int .u32 ((2*0+1:Nat):Int))):=⟨0,0,a,b,Nat.le_refl _,rfl,HMY.out.below HBN.out,HLV0.out⟩
    clear HBN HLV0 HMY
    generalize wr.alloc (.cells #[] 24)=wq at *
    generalize (.slice (some ⟨wr.heap.size,0,none⟩) 0 0:Value)=v0 at *
    have HL:Hid (L.length≤100):=by show _≤_;omega
    have e13:((2*0+1:Nat):Int)=1:=rfl
    rw[e13] at HI
    clear e13
    go_upto_region 15 with fail
    go_loopg [7,8,10,11,12,49] L.length (λk v7 v8 v10 v11 v12 v49 wr=>v10=v10∧v11=v11∧v12=v12∧k≤L.length∧v49=.int .i64 ((L.length-k:Nat):Int)∧Hid (MyI w wr ga gb pa pb xa xb (L.length-k) v7 v8))
    case atStart=>exact⟨rfl,rfl,rfl,Nat.le_refl _,by rw[Nat.sub_self];rfl,by rw[Nat.sub_self];exact HI⟩
    case round=>
     clear HI
     obtain⟨_,_,_,hkl,rfl,HI⟩:=hrel
     by_cases hk:gk=0
     ·subst hk
      have e1:¬(((L.length-0:Nat):Int)<(L.length:Int)):=by omega
      obtain⟨r,m,a,b,hrm,rfl,hmy,hlv⟩:=HI.out
      obtain⟨A7,c7,hv7,_⟩:=OwS.shape hlv.own
      rw[J9] at hv7
      subst hv7
      obtain⟨Fs0,hR0,hc0⟩:=hmy.R
      have hlen:=hmy.len
      have HM:Hid (m≤100∧r≤m):=⟨by omega,hmy.ca.s.ss.le⟩
      have H40:Hid (∃r0 m0 a b Fs0,Pair w wr a b ga gb xa xb∧GlobE wr∧CliS pa r m a∧(a.l=[]∧a.es=[])∧a.R=yv Fs0∧a.R.length≤5000∧Cont r0 m0 Fs0 r m∧Stdy pb true r0 m0 b∧(b.l=[]∧b.es=[])∧(40<40→r0=r∧m0=m)):=
       ⟨0,0,a,b,Fs0,hmy.p,hmy.g,hmy.ca,hmy.la,hR0,by omega,hc0,hmy.cb,hmy.lb,λh=>absurd h (by omega)⟩
      clear hmy hlv hR0 hc0 hlen hrm HI
      go_upto_region 34 with fail
      go_loopg [107] 40 (λk v107 wr=>k≤40∧v107=.int .i64 ((40-k:Nat):Int)∧Hid (∃r0 m0 a b Fs0,Pair w wr a b ga gb xa xb∧GlobE wr∧CliS pa r m a∧(a.l=[]∧a.es=[])∧a.R=yv Fs0∧a.R.length≤5000∧Cont r0 m0 Fs0 r m∧Stdy pb true r0 m0 b∧(b.l=[]∧b.es=[])∧(k<40→r0=r∧m0=m)))
      case atStart=>exact⟨Nat.le_refl _,rfl,H40⟩
      case round=>
       clear H40
       obtain⟨hk40,rfl,HI⟩:=hrel
       obtain⟨r0,m0,a2,b2,Fs1,hp,hg,hca,hla,hR,hlen,hc,hcb,hlb,hlt⟩:=HI.out
       clear HI
       by_cases hk:gk=0
       ·subst hk
        have e1:¬(((40-0:Nat):Int)<40):=by omega
        obtain⟨rfl,rfl⟩:=hlt (by omega)
        have hfx:=zay _ hg
        clear hlt hc hR hlen hla hlb
        have HPP:=z2w hp
        have HCB:=z2w hcb
        clear hp hca hcb hg
        go_wp2_with fail
        refine hfx.mono ?_
        rintro e w8 ⟨rfl,hb8⟩
        have HP8:=z2w (HPP.out.below hb8)
        have c0:w8.cell? ⟨gb,0,none⟩=some (.pointer (some ⟨pb,0,none⟩)):=by
         have:=HP8.out.rb.r.cell HP8.out.rb.c
         rw[HCB.out.c] at this
         exact this
        have hlv:=zda HP8.out.sb
        rw[HCB.out.c,HCB.out.lv] at hlv
        have hgn:=X2 HP8.out.sb.row
        rw[show b2.x.go=false from HCB.out.go,HCB.out.c] at hgn
        clear hb8 hfx HPP
        go_wp2_with fail
        refine hlv.mono ?_
        rintro e w9 ⟨rfl,rfl⟩
        go_wp2_with fail
        refine hgn.mono ?_
        rintro e w10 ⟨rfl,rfl⟩
        go_wp2_with fail
        go_ret
        exact⟨rfl,HP8.out.bl⟩
       ·have e1:((40-gk:Nat):Int)<40:=by omega
        have h1:=z0o hp hg hca (by have:=HM.out.1;omega) hR hlen hla hcb hlb hc
        clear hp hg hca hla hR hlen hc hcb hlb hlt
        go_wp2_with fail
        refine h1.mono ?_
        rintro e w6 ⟨rfl,a6,b6,hp6,⟨k1,k2,k3,k4,k5,k6⟩,hg6⟩
        have HI6:Hid (∃r0 m0 a b Fs0,Pair w w6 a b ga gb xa xb∧GlobE w6∧CliS pa r m a∧(a.l=[]∧a.es=[])∧a.R=yv Fs0∧a.R.length≤5000∧Cont r0 m0 Fs0 r m∧Stdy pb true r0 m0 b∧(b.l=[]∧b.es=[])∧(gk-1<40→r0=r∧m0=m)):=
         ⟨r,m,a6,b6,[],hp6,hg6,k1,k3,k2,by rw[k2];exact Nat.zero_le _,.nil,k4,⟨k5,k6⟩,λ_=>⟨rfl,rfl⟩⟩
        clear hp6 k1 k2 k3 k4 k5 k6 hg6 h1
        go_wp2_with fail
        go_roundg (gk-1)
        case measure=>omega
        case rel=>exact⟨by omega,by congr 1;omega,HI6⟩
     ·have e1:((L.length-gk:Nat):Int)<(L.length:Int):=by omega
      have hj:L.length-gk<L.length:=by omega
      have HLJ:Hid (L.length-gk≤99):=by have:=HL.out;show _≤_;omega
      obtain⟨r,m,a,b,hrm,rfl,hmy,hlv⟩:=HI.out
      obtain⟨A7,c7,hv7,hc7⟩:=OwS.shape hlv.own
      rw[J9] at hv7 hc7
      subst hv7
      obtain⟨g0,o0,hA,hg0,hcell⟩:=HR.out (by intro h;rw[List.map_eq_nil_iff] at h;rw[h] at hj;exact absurd hj (by simp))
      subst hA
      have hx:=hcell (L.length-gk) (.bool L[L.length-gk]) (by rw[List.getElem?_map,List.getElem?_eq_getElem hj];rfl)
      have x0:wr.cell? ⟨g0,o0+(L.length-gk),none⟩=some (.bool L[L.length-gk]):=(World.cell?_of_block (hmy.p.bl.block g0 hg0)).trans hx
      have c0:wr.cell? ⟨ga,0,none⟩=some (.pointer (some ⟨pa,0,none⟩)):=by
       have:=hmy.p.ra.r.cell hmy.p.ra.c
       rw[hmy.ca.s.c] at this
       exact this
      have hle:=hmy.ca.s.ss.le
      have HMY:=z2w hmy
      have HLV:=z2w hlv
      have HGW:Hid (0<w.heap.size):=hGW
      clear hx hcell hmy hlv HI
      generalize L[L.length-gk]=open' at *
      cases open' with
      |true=>
       by_cases hfull:m-r<16
       ·have ho:=zs2 HMY.out.p.sa HMY.out.ca hfull (by have:=HLJ.out;omega) (by have:=HMY.out.len;have:=HLJ.out;omega)
        rw[HMY.out.ca.s.c] at ho
        have e2:¬((16:Int)≤((m-r:Nat):Int)):=by omega
        go_wp2_with fail
        refine ho.mono ?_
        rintro e w6 ⟨rfl,a6,hz6,hs6,hR6,hl6,he6⟩
        have HMY6:=z2w (HMY.out.open (by have:=HLJ.out;omega) hfull hz6 hs6 hR6 hl6 he6)
        have HLV6:=z2w (HLV.out.left hz6)
        clear hz6 hs6 hR6 hl6 he6 ho HMY HLV c0 x0
        obtain⟨i0,hi0,hz0,hz1,hz2⟩:=zr zbm
        have hal:Below w6.heap.size w6 (w6.alloc (.cells #[.int .u32 (2*(m:Int)+1)] 24)):=(Below.refl _ _).alloc (Nat.le_refl _) _
        have HMY7:=z2w (HMY6.out.below hal)
        have HLV7:=z2w (HLV6.out.below hal)
        have HN7:Hid (Row (w6.alloc (.cells #[.int .u32 (2*(m:Int)+1)] 24)) w6.heap.size 24 #[.int .u32 (2*(m:Int)+1)]):=Row.new w6 _ _
        have HO7:Hid (OwS (w6.alloc (.cells #[.int .u32 (2*(m:Int)+1)] 24)) 0 24 1 (.slice A7 (m-r) c7) (m-r) (enl u3l (Qg r m))):=by
         have:=HLV7.out.own
         rw[J9] at this
         exact this
        clear hal HMY6 HLV6
        go_upto_region 25 with (refine zav rfl (.tmp 78) (.tmp 80) 72 rfl 0 24 i0 _ 1 4 Tryz.underlying72 hi0 hz0 hz1 hz2 rfl (.slice A7 (m-r) c7) (m-r) (enl u3l (Qg r m)) rfl HO7.out ⟨w6.heap.size,0,none⟩ 1 1 [.int .u32 (2*(m:Int)+1)] rfl rfl (λj u hj=>by
         rw[add_plain,Nat.zero_add]
         exact HN7.out.cell (by simpa using hj)) (by intro u hu;rw[List.mem_singleton] at hu;subst hu;rfl) (by omega) (by simp only[maxLen];omega) (by omega) (Nat.zero_le _) ?_;intro A8 c8 w8 hO8 hg8 hb8)
        have HMY8:=z2w (HMY7.out.fs HGW.out HLV7.out (Fs.of_grown hg8))
        have HLV8:Hid (Lv w w8 ga gb a6 b (.slice A8 (m-r+1) c8) (Qg r (m+1))):=by
         refine Lv.turn HLV7.out HMY7.out.p ?_ (λk hk=>(Nx.of_new hb8).own hk)
         rw[J9,zqd hle,jq,Zb,show m+1-r=m-r+1 by omega]
         exact hO8
        have c0:w8.cell? ⟨ga,0,none⟩=some (.pointer (some ⟨pa,0,none⟩)):=by
         have:=HMY8.out.p.ra.r.cell HMY8.out.p.ra.c
         rw[HMY8.out.ca.s.c] at this
         exact this
        have hli:=zda HMY8.out.p.sa
        rw[HMY8.out.ca.s.c,HMY8.out.ca.s.lv] at hli
        have hwr:IntKind.u32.wrap (2*(m:Int)+1+2)=((2*(m+1)+1:Nat):Int):=by rw[IntWalk.u32_in _ (by omega)];omega
        have e3:((m-r:Nat):Int)+1=((m+1-r:Nat):Int):=by omega
        have HI8:Hid (MyI w w8 ga gb pa pb xa xb (L.length-(gk-1)) (.slice A8 (m-r+1) c8) (.int .u32 ((2*(m+1)+1:Nat):Int))):=⟨r,m+1,a6,b,by omega,rfl,HMY8.out,HLV8.out⟩
        clear hO8 hg8 hb8 HMY7 HLV7 HN7 HO7 HMY8 HLV8 hi0 hz0 hz1 hz2
        go_wp2_with fail
        refine hli.mono ?_
        rintro e w9 ⟨rfl,rfl⟩
        clear hli c0
        go_wp2_with fail
        go_roundg (gk-1)
        case measure=>omega
        case rel=>exact⟨trivial,trivial,trivial,by omega,by congr 1;omega,HI8⟩
       ·have ho:=zr0 HMY.out.p.sa HMY.out.ca (by omega) (by have:=HLJ.out;omega)
        rw[HMY.out.ca.s.c] at ho
        have e2:(16:Int)≤((m-r:Nat):Int):=by omega
        go_wp2_with fail
        refine ho.mono ?_
        rintro e w6 ⟨rfl,hz6⟩
        have HI6:Hid (MyI w w6 ga gb pa pb xa xb (L.length-(gk-1)) (.slice A7 (m-r) c7) (.int .u32 ((2*m+1:Nat):Int))):=⟨r,m,a,b,by omega,rfl,{ HMY.out with p:=HMY.out.p.left hz6 rfl,g:=hz6.glob HMY.out.p.sa HMY.out.g },HLV.out.left hz6⟩
        clear hz6 ho HMY HLV c0 x0
        go_wp2_with fail
        go_roundg (gk-1)
        case measure=>omega
        case rel=>exact⟨trivial,trivial,trivial,by omega,by congr 1;omega,HI6⟩
      |false=>
       by_cases h0:r<m
       ·have h0':(0:Int)<((m-r:Nat):Int):=by omega
        obtain⟨i0,hi0,hz0,hz1,hz2⟩:=zr zbm
        have ho7:=HLV.out.own
        obtain⟨g7,o7,hA7,_,hcl⟩:=(OwS.reads ho7) (by rw[Xr h0];simp[enl,u3l])
        subst hA7
        have x7:wr.cell? ⟨g7,o7,none⟩=some (.int .u32 (2*(r:Int)+1)):=by
         have:=hcl 0 (.int .u32 ((2*r+1:Nat):Int)) (by rw[Xr h0];rfl)
         rw[Nat.add_zero] at this
         rw[this]
         congr 2
        have HG7:Hid (ob (.slice (some ⟨g7,o7,none⟩) (m-r) c7) g7):=by show ob _ _;simp[ob,Value.ownBlock]
        clear hcl ho7
        go_upto_region 27 with fail
        clear x0
        have d0:wr.drew.cell? ⟨ga,0,none⟩=some (.pointer (some ⟨pa,0,none⟩)):=c0
        have d7:wr.drew.cell? ⟨g7,o7,none⟩=some (.int .u32 (2*(r:Int)+1)):=x7
        have HMYd:=z2w (HMY.out.below ((Below.refl _ _).drew))
        have HLVd:=z2w (HLV.out.below ((Below.refl _ _).drew))
        have hrs:=zox HMYd.out.p.sa HMYd.out.ca h0 (by have:=HLJ.out;omega) (by have:=HLJ.out;omega) (by have:=HMYd.out.len;have:=HLJ.out;omega)
        rw[HMYd.out.ca.s.c,show ((2*r+1:Nat):Int)=2*(r:Int)+1 by omega] at hrs
        have HRS:=z2w hrs
        clear HMY HLV c0 x7 hrs
        refine wp_region_held_drew (S:=λw'=>w'.cell? ⟨ga,0,none⟩=some (.pointer (some ⟨pa,0,none⟩))∧w'.cell? ⟨g7,o7,none⟩=some (.int .u32 (2*(r:Int)+1))) (by kernel_rfl) ⟨d0,d7⟩ (λhHeld=>?_)
        clear d0 d7
        generalize wr.drew=wd at *
        refine tkH 0 ?_
        refine tkH 1 ?_
        refine tkH 2 ?_
        refine tkH 3 ?_
        refine tkH 4 ?_
        refine tkH 5 ?_
        refine tkH 6 ?_
        refine rdH 7 λK hK=>?_
        go_simp
        go_at_call 17
        refine HRS.out.mono ?_
        rintro e9 w6 ⟨rfl,a6,hz6,hs6,hR6,hl6,he6⟩
        have HMY6:=z2w (HMYd.out.reset (by have:=HLJ.out;omega) h0 (by have:=HLJ.out;omega) hz6 hs6 hR6 hl6 he6)
        have HLV6:=z2w (HLVd.out.left hz6)
        have d7:w6.cell? ⟨g7,o7,none⟩=some (.int .u32 (2*(r:Int)+1)):=by
         obtain⟨g8,o8,hA8,_,hcl⟩:=(OwS.reads HLV6.out.own) (by rw[Xr h0];simp[enl,u3l])
         have hA8:=Option.some.inj hA8
         have:=hcl 0 (.int .u32 ((2*r+1:Nat):Int)) (by rw[Xr h0];rfl)
         rw[Nat.add_zero,←hA8] at this
         rw[this]
         congr 2
        have c0:w6.cell? ⟨ga,0,none⟩=some (.pointer (some ⟨pa,0,none⟩)):=by
         have:=HMY6.out.p.ra.r.cell HMY6.out.p.ra.c
         rw[HMY6.out.ca.s.c] at this
         exact this
        clear hz6 hs6 hR6 hl6 he6 HRS HMYd HLVd hHeld
        refine hK.out _ _ ⟨c0,d7⟩ (λhHeld=>?_)
        clear hK K
        try refine ptk ?_
        refine tkH 8 ?_
        refine dnH ?_
        clear hHeld d7
        have ho7:OwS w6 0 24 1 (.slice (some ⟨g7,o7,none⟩) (m-r) c7) (m-r) (enl u3l (Qg r m)):=by
         have:=HLV6.out.own
         rw[J9] at this
         exact this
        obtain⟨A6,hcut,ho6,hob6⟩:=Ji (P:=Tryz.prog) w6 0 72 24 i0 1 Tryz.underlying72 hi0 hz1 ho7 1 (by omega)
        have hcut':∀W,(Instr.slice 72 (.slice (some ⟨g7,o7,none⟩) (m-r) c7) (some (.int .i64 1)) none none).run Tryz.prog W=.ok (.slice A6 (m-r-1) (c7-1)) W:=hcut
        have HLV7:Hid (Lv w w6 ga gb a6 b (.slice A6 (m-r-1) (c7-1)) (Qg (r+1) m)):=by
         refine Lv.turn HLV6.out HMY6.out.p ?_ (λk hk=>.inl (by unfold ob at hk ⊢;rw[←hob6];exact hk))
         rw[J9,show m-(r+1)=m-r-1 by omega]
         rw[Xr h0] at ho6
         exact ho6
        have hli:=zda HMY6.out.p.sa
        rw[HMY6.out.ca.s.c,HMY6.out.ca.s.lv] at hli
        have e3:((m-(r+1):Nat):Int)=((m-r-1:Nat):Int):=by omega
        rw[e3] at hli
        have HI8:Hid (MyI w w6 ga gb pa pb xa xb (L.length-(gk-1)) (.slice A6 (m-r-1) (c7-1)) (.int .u32 ((2*m+1:Nat):Int))):=⟨r+1,m,a6,b,by omega,rfl,HMY6.out,HLV7.out⟩
        clear ho7 hcut ho6 hob6 HLV7 HLV6 HMY6 hi0 hz0 hz1 hz2 HG7 e3
        go_wp2_with fail
        refine hli.mono ?_
        rintro e w9 ⟨rfl,rfl⟩
        clear hli c0
        go_wp2_with fail
        go_roundg (gk-1)
        case measure=>omega
        case rel=>exact⟨trivial,trivial,trivial,by omega,by congr 1;omega,HI8⟩
       ·have h0':¬(0:Int)<((m-r:Nat):Int):=by omega
        have hli:=zda HMY.out.p.sa
        rw[HMY.out.ca.s.c,HMY.out.ca.s.lv] at hli
        have HI6:Hid (MyI w wr ga gb pa pb xa xb (L.length-(gk-1)) (.slice A7 (m-r) c7) (.int .u32 ((2*m+1:Nat):Int))):=⟨r,m,a,b,by omega,rfl,HMY.out,HLV.out⟩
        clear HMY HLV
        go_wp2_with fail
        refine hli.mono ?_
        rintro e w9 ⟨rfl,rfl⟩
        clear hli c0 x0
        go_wp2_with fail
        go_roundg (gk-1)
        case measure=>omega
        case rel=>exact⟨trivial,trivial,trivial,by omega,by congr 1;omega,HI6⟩
   ·have e1:((3-gk:Nat):Int)<3:=by omega
    obtain⟨a,b,hp,hph⟩:=HI.out
    have h1:=z06 hp HG.out (by decide) hph
    clear hp hph HI HG
    go_wp2_with fail
    refine h1.mono ?_
    rintro e w6 ⟨rfl,a6,b6,hp6,hph6,hG6⟩
    have h2:=z1c hp6 hG6 hph6
    clear hp6 hph6 hG6 h1
    go_wp2_with fail
    refine h2.mono ?_
    rintro e w7 ⟨rfl,a7,b7,hp7,hph7,hG7⟩
    have HG7:=z2w hG7
    have HI7:Hid (∃a b,Pair w w7 a b ga gb xa xb∧Ph pa pb 1000 (3-(gk-1)) a b):=⟨_,_,hp7,by rw[show 3-(gk-1)=3-gk+1 by omega];exact hph7⟩
    clear hp7 hph7 hG7 h2
    go_wp2_with fail
    go_roundg (gk-1)
    case measure=>omega
    case rel=>exact⟨by omega,by congr 1;omega,HG7,HI7⟩
end
end Go.Proofs.YtooaajnkiokpnaaGreatDoor
