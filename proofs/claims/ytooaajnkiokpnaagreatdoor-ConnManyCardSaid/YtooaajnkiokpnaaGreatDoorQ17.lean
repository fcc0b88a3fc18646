/-
  Part of a proof: What is written is read; what is read was written; what is cut off: plain lists. No conditions but those that each theorem names; no program. Conditions: those that each theorem names.
-/
import Derived.Test.YtooaajnkiokpnaaGreatDoorQ07
import Derived.Test.YtooaajnkiokpnaaGreatDoorQ16
import Derived.Test.YtooaajnkiokpnaaGreatDoorQ04
import Derived.Test.YtooaajnkiokpnaaGreatDoorQ01
import Derived.WalkKit
import Derived.IntWalk
import Derived.Deep.QuietTactic
import Derived.BigQuiet
import Derived.Deep.RegionHeld3
namespace Go.Proofs.YtooaajnkiokpnaaGreatDoor
open Go.RowKit Go.WideShapes
set_option maxHeartbeats 4000000
set_option maxRecDepth 100000
section
theorem zaq:(Tryz.prog.info? 57).map (λi=>(i.zero,i.size,i.bytes))=some (some (.agg #[.string ⟨#[]⟩,.string ⟨#[]⟩,.bool false]),3,40):=by kernel_rfl
theorem Yb:∃i,Tryz.prog.info? 57=some i∧i.zero=some (.agg #[.string ⟨#[]⟩,.string ⟨#[]⟩,.bool false])∧i.size=3∧i.bytes=40:=by
 cases hi:Tryz.prog.info? 57 with
 |none=>have:=zaq;rw[hi] at this;simp at this
 |some i=>have:=zaq;rw[hi] at this;simp at this;exact⟨i,rfl,this.1,this.2.1,this.2.2⟩
theorem znh:∀u∈(Value.agg #[.string ⟨#[]⟩,.string ⟨#[]⟩,.bool false]).cells.toList,u.oneCell'=true:=by
 intro u hu
 change u∈[_,_,_] at hu
 simp only[List.mem_cons,List.not_mem_nil,or_false] at hu
 rcases hu with rfl|rfl|rfl<;>rfl
attribute [local irreducible] tot shr sz
theorem zcv{base g most:Nat}{v:Value}{L:List Fd}{w:World}(m:Int)(hL:tot L≤4294967296)(hs:∀f∈L,sz f≤2147483648)(h:Tb w base g v L most) :
  Calls Tryz.prog 183 #[pt g,.int .i64 m] w λe w'=>e=.returned (.tuple #[])∧∃v',Tb w' base g v' (shr m L) most∧Fr g v.ownBlock w w'∧v'.ownBlock=v.ownBlock:=by
 obtain⟨A,c,rfl,hc1,hc2⟩:=h.shape
 have hlen:L.length≤4294967296:=by have:=Qr L;omega
 obtain⟨i0,hi0,hz0,hz1,hz2⟩:=Yb
 unfold pt
 go_enter Tryz.func183,Tryz.ntmps183
 go_wp2_with fail
 have H:=z2w h
 clear h
 go_loopw [4] (λi wr=>∃k:Nat,k≤L.length∧i=.int .i64 k∧Hid (TabR wr g (.slice A L.length c) (tot (L.drop k)) most)∧Hid (Fr g none w wr)∧Hid (shr m L=shr m (L.drop k)))
  (λi _=>L.length-(intOf i).toNat)
 case atStart=>exact⟨0,Nat.zero_le _,rfl,H.out.own,Fr.refl _,rfl⟩
 case round=>
  obtain⟨k,hk,rfl,hT,hF,hS⟩:=hrel
  by_cases hgo:k<L.length∧m<(tot (L.drop k):Int)
  ·obtain⟨hlt,hgt⟩:=hgo
   ·obtain⟨b,q,hA,hbg,e0,e1,e2⟩:=H.out.field hlt
    subst hA
    have c0:=hT.out.c0
    have c1:=hT.out.c1
    have f0:=hF.out.cell hbg e0
    have f1:=hF.out.cell hbg e1
    have f2:=hF.out.cell hbg e2
    have hsz:=zbj L[k] (hs _ (List.getElem_mem hlt))
    have htd:=zp9 hlt
    have hS2:Hid (shr m L=shr m (L.drop (k+1))):=by
     show _=_
     rw[hS.out,zs9 hlt hgt]
    have hT0:=zis L k
    unfold fv at hsz
    unfold tx at hsz f0 f1
    generalize L[k].nm=x at hsz f0 f1
    generalize L[k].vl=y at hsz f0 f1
    generalize L[k].nv=z at hsz f2
    have hZ0:=hs _ (List.getElem_mem hlt)
    generalize sz L[k]=Z at hsz htd hZ0
    obtain⟨T0,hT0e⟩:∃T0,T0=tot (L.drop k):=⟨_,rfl⟩
    obtain⟨T1,hT1e⟩:∃T1,T1=tot (L.drop (k+1)):=⟨_,rfl⟩
    rw[←hT0e] at htd hgt c1 hT0 hT
    rw[←hT1e] at htd
    have HT1:=z2w hT1e
    have hsub:(T0:Int)-Z=(T1:Int):=by omega
    have hT0b:T0≤4294967296:=by omega
    clear hT1e hT0e htd e0 e1 e2 hs hS hT0
    go_wp2_with fail
    have d0:wr.drew.cell? ⟨g,0,none⟩=_:=c0
    have d1:wr.drew.cell? ⟨g,1,none⟩=_:=c1
    have d2:wr.drew.cell? ⟨b,q+k*3,none⟩=_:=f0
    have d3:wr.drew.cell? ⟨b,q+k*3+1,none⟩=_:=f1
    have d4:wr.drew.cell? ⟨b,q+k*3+2,none⟩=_:=f2
    have hTd:Hid (TabR wr.drew g (.slice (some ⟨b,q,none⟩) L.length c) T0 most):=by show TabR _ _ _ _ _;exact hT.out
    refine qg 15 (λw'=>w'.cell? ⟨g,0,none⟩=some (.slice (some ⟨b,q,none⟩) L.length c)∧w'.cell? ⟨g,1,none⟩=some (.int .i64 (T0:Int))∧w'.cell? ⟨b,q+k*3,none⟩=some (.string ⟨x.toArray⟩)∧w'.cell? ⟨b,q+k*3+1,none⟩=some (.string ⟨y.toArray⟩)∧w'.cell? ⟨b,q+k*3+2,none⟩=some (.bool z)) (by kernel_rfl) ⟨d0,d1,d2,d3,d4⟩ (λhHeld=>?_)
    refine tkE 0 ?_
    refine tkE 1 ?_
    refine tkE 2 ?_
    refine tkE 3 ?_
    refine tkE 4 ?_
    refine tkE 5 ?_
    refine tkE 6 ?_
    refine tkE 7 ?_
    refine tkE 8 ?_
    refine tkE 9 ?_
    refine tkE 10 ?_
    refine zm (i:=11) (by kernel_rfl) rfl (λK hK=>?_)
    go_simp
    go_at_call 182
    refine(hsz _).mono ?_
    rintro e w2 ⟨rfl,hb2⟩
    have k0:=(hb2.cell (p:=⟨g,0,none⟩) (World.block_lt_of_cell? _ _ d0)).trans d0
    have k1:=(hb2.cell (p:=⟨g,1,none⟩) (World.block_lt_of_cell? _ _ d1)).trans d1
    have k2:=(hb2.cell (p:=⟨b,q+k*3,none⟩) (World.block_lt_of_cell? _ _ d2)).trans d2
    have k3:=(hb2.cell (p:=⟨b,q+k*3+1,none⟩) (World.block_lt_of_cell? _ _ d3)).trans d3
    have k4:=(hb2.cell (p:=⟨b,q+k*3+2,none⟩) (World.block_lt_of_cell? _ _ d4)).trans d4
    have hT2:=Row.below hTd.out hb2 (Row.lt hTd.out)
    have hF2:=z2w ((hF.out.drewN 1).then_below (w'':=w2) hb2)
    go_simp
    refine hK.out _ _ ⟨k0,k1,k2,k3,k4⟩ (λhHeld=>?_)
    clear hK K
    try refine ptk ?_
    refine tkE 12 ?_
    refine tkE 13 ?_
    refine tkE 14 ?_
    refine qh (by kernel_rfl) rfl (by kernel_rfl) (λK hK=>?_)
    have hT3:=z2w (Row.stored hT2 1 (.int .i64 (T1:Int)))
    have h1f:=hT2.thawed 1
    go_simp
    refine hK.out _ _ ?_
    clear hK K
    try refine ptk ?_
    go_wp2_with fail
    go_roundw
    case rel=>
     refine⟨k+1,by omega,by go_num,?_,hF2.out.setCell 1 _,hS2⟩
     rw[←HT1.out]
     exact hT3.out
    case measure=>simp[intOf];omega
  ·have hd:Hid (shr m L=L.drop k):=by
    show _=_
    rw[hS.out]
    by_cases hlt:k<L.length
    ·exact zs5 (by omega)
    ·rw[List.drop_of_length_le (by omega),zwk]
   have c0:=hT.out.c0
   have c1:=hT.out.c1
   have c2:=hT.out.c2
   have hO:OwS wr base 57 3 (.slice A L.length c) L.length (enl fdc L):=H.out.row.keep λb hb=>hF.out.block b (H.out.row.lt b hb).2 (λe=>H.out.ne (by rw[hb,e])) (by simp)
   obtain⟨A',w2,hup,hcl,hgr,hfrom,hO2,hob⟩:=zsv (P:=Tryz.prog) wr base 23 57 i0 (.agg #[.string ⟨#[]⟩,.string ⟨#[]⟩,.bool false]) 3 Tryz.underlying23 hi0 hz0 hz1 rfl znh hO k hk
   have hgn:some g≠(Value.slice A L.length c).ownBlock:=λe=>H.out.ne e.symm
   have hT2:TabR w2 g (.slice A L.length c) (tot (L.drop k)) most:=(hgr.block g (Row.lt hT.out) hgn).trans hT.out
   have k0:=hT2.c0
   have hth:=Row.thawed hT2 0
   have HT3:=z2w (Row.stored hT2 0 (.slice A' (L.length-k) (c-k)))
   have HF3:=z2w (((hF.out.wide (o:=(Value.slice A L.length c).ownBlock)).trans (Fr.of_grown hgr) (.inl rfl)).setCell 0 (.slice A' (L.length-k) (c-k)))
   have HO2:=z2w (hO2.setCell (a:=⟨g,0,none⟩) (by rw[hob];exact H.out.ne) (.slice A' (L.length-k) (c-k)))
   have HOB:=z2w hob
   have HNE:=z2w hgn
   clear hT2 hgr hob hgn hO2 hO
   by_cases hlt:k<L.length
   ·have hgt:decide (m<(tot (L.drop k):Int))=false:=by simp;omega
    clear hgo
    go_wp2_with fail
    go_end0
    refine⟨rfl,_,⟨?_,?_,?_,H.out.low⟩,HF3.out,HOB.out⟩
    ·rw[hd.out];exact HT3.out
    ·rw[hd.out,List.length_drop,←Jj J7];exact HO2.out
    ·rw[HOB.out];exact λe=>HNE.out e.symm
   ·clear hgo
    go_wp2_with fail
    go_end0
    refine⟨rfl,_,⟨?_,?_,?_,H.out.low⟩,HF3.out,HOB.out⟩
    ·rw[hd.out];exact HT3.out
    ·rw[hd.out,List.length_drop,←Jj J7];exact HO2.out
    ·rw[HOB.out];exact λe=>HNE.out e.symm
end
section
open Go.RowKit
theorem zoi{h nb x n v:Nat}(_hh:h<18446744073709551616)(hnb:nb≤30)(hx:x<2 ^ nb)(hn:n<8)(hv:h%2 ^ n=v) :
  ∃H:Nat,H<18446744073709551616∧bits .or .u64 (IntKind.u64.wrap ((h:Int)*2 ^ nb)) (x:Int)=(H:Int)∧H%2 ^ (n+nb)=v*2 ^ nb+x:=by
 have hp:0<2 ^ nb:=Nat.two_pow_pos nb
 have hp30:2 ^ nb≤1073741824:=Nat.le_trans (Nat.pow_le_pow_right (by omega) hnb) (by decide)
 have h64:18446744073709551616=2 ^ nb*2 ^ (64-nb):=by rw[←Nat.pow_add,show nb+(64-nb)=64 by omega]
 have hA:IntKind.u64.wrap ((h:Int)*2 ^ nb)=((2 ^ nb*(h%2 ^ (64-nb)):Nat):Int):=by
  rw[IntKind.wrap_u64]
  have e1:((h:Int)*2 ^ nb)=((2 ^ nb*h:Nat):Int):=by rw[Nat.mul_comm];simp
  rw[e1,←Nat.mul_mod_mul_left,←h64]
  simp
 have hlt:2 ^ nb*(h%2 ^ (64-nb))+x<18446744073709551616:=by
  have h1:h%2 ^ (64-nb)<2 ^ (64-nb):=Nat.mod_lt _ (Nat.two_pow_pos _)
  have h2:2 ^ nb*(h%2 ^ (64-nb)+1)≤2 ^ nb*2 ^ (64-nb):=Nat.mul_le_mul_left _ (by omega)
  rw[←h64,Nat.mul_add,Nat.mul_one] at h2
  omega
 refine⟨2 ^ nb*(h%2 ^ (64-nb))+x,hlt,?_,?_⟩
 ·rw[hA,u64_or_nat _ _ (by omega) (by omega),←Nat.two_pow_add_eq_or_of_lt hx]
 ·rw[Nat.add_comm n nb,Nat.pow_add,Nat.mod_mul]
  have h1:(2 ^ nb*(h%2 ^ (64-nb))+x)%2 ^ nb=x:=by rw[Nat.mul_add_mod,Nat.mod_eq_of_lt hx]
  have h2:(2 ^ nb*(h%2 ^ (64-nb))+x) / 2 ^ nb=h%2 ^ (64-nb):=by
   rw[Nat.mul_add_div hp,Nat.div_eq_of_lt hx,Nat.add_zero]
  have h3:h%2 ^ (64-nb)%2 ^ n=v:=by
   rw[Nat.mod_mod_of_dvd _ (Nat.pow_dvd_pow 2 (by omega)),hv]
  rw[h1,h2,h3,Nat.mul_comm v]
  omega
theorem zso{H m:Nat}{p:List Bool}(hp:p.length=m+8)(hv:H%2 ^ (m+8)=val p) :
  H / 2 ^ m%256=val (p.take 8)∧H%2 ^ m=val (p.drop 8):=by
 have h1:val p=val (p.take 8)*2 ^ m+val (p.drop 8):=by
  conv=>lhs;rw[←List.take_append_drop 8 p]
  rw[y1,List.length_drop,show p.length-8=m by omega]
 have h2:val (p.drop 8)<2 ^ m:=by
  have:=Q5 (p.drop 8)
  rwa [List.length_drop,show p.length-8=m by omega] at this
 have h3:0<2 ^ m:=Nat.two_pow_pos m
 rw[Nat.pow_add,Nat.mod_mul] at hv
 have h4:H%2 ^ m<2 ^ m:=Nat.mod_lt _ h3
 rw[h1,Nat.mul_comm (val (p.take 8))] at hv
 have e1:(H%2 ^ m+2 ^ m*(H / 2 ^ m%2 ^ 8)) / 2 ^ m=H / 2 ^ m%2 ^ 8:=by
  rw[Nat.add_mul_div_left _ _ h3,Nat.div_eq_of_lt h4,Nat.zero_add]
 have e2:(2 ^ m*val (p.take 8)+val (p.drop 8)) / 2 ^ m=val (p.take 8):=by
  rw[Nat.mul_add_div h3,Nat.div_eq_of_lt h2,Nat.add_zero]
 have e3:(H%2 ^ m+2 ^ m*(H / 2 ^ m%2 ^ 8))%2 ^ m=H%2 ^ m:=by
  rw[Nat.add_mul_mod_self_left,Nat.mod_eq_of_lt h4]
 have e4:(2 ^ m*val (p.take 8)+val (p.drop 8))%2 ^ m=val (p.drop 8):=by
  rw[Nat.mul_add_mod,Nat.mod_eq_of_lt h2]
 exact⟨by rw[show 256=2 ^ 8 from rfl,←e1,hv,e2],by rw[←e3,hv,e4]⟩
theorem zmw{h n r:Nat}{p:List Bool}(hp:p.length=n)(hr:n+r=8)(hv:h%2 ^ n=val p) :
  bits .or .u8 (IntKind.u8.wrap (IntKind.u64.wrap ((h:Int)*2 ^ r))) (IntKind.u8.wrap ((2 ^ r-1:Nat):Int))=((val (p++List.replicate r true):Nat):Int):=by
 have h3:0<2 ^ r:=Nat.two_pow_pos r
 have hr8:2 ^ r≤256:=Nat.le_trans (Nat.pow_le_pow_right (by omega) (show r≤8 by omega)) (by decide)
 have hvl:=Q5 p
 rw[hp] at hvl
 have hpr:2 ^ n*2 ^ r=256:=by rw[←Nat.pow_add,hr]
 have e0:IntKind.u8.wrap (IntKind.u64.wrap ((h:Int)*2 ^ r))=((2 ^ r*val p:Nat):Int):=by
  rw[IntKind.wrap_u64,IntKind.wrap_u8']
  have e1:((h:Int)*2 ^ r)=((2 ^ r*h:Nat):Int):=by rw[Nat.mul_comm];simp
  rw[e1]
  have e2:2 ^ r*h%256=2 ^ r*val p:=by
   rw[←hpr,Nat.mul_comm (2 ^ n),Nat.mul_mod_mul_left,hv]
  omega
 have e1:IntKind.u8.wrap ((2 ^ r-1:Nat):Int)=((2 ^ r-1:Nat):Int):=by rw[IntKind.wrap_u8'];omega
 have hb:2 ^ r*val p<256:=by
  have:2 ^ r*(val p+1)≤2 ^ r*2 ^ n:=Nat.mul_le_mul_left _ (by omega)
  rw[Nat.mul_comm (2 ^ r) (2 ^ n),hpr,Nat.mul_add,Nat.mul_one] at this
  omega
 rw[e0,e1,u8_or_nat _ _ hb (by omega),←Nat.two_pow_add_eq_or_of_lt (show 2 ^ r-1<2 ^ r by omega),y1,List.length_replicate,zbu,Nat.mul_comm (val p)]
theorem zgu{L:List UInt8}{p:List Bool}{s:List UInt8}(h:qb L++p=xh s)(hs:s.length≤9000):L.length≤33750:=by
 have h1:=congrArg List.length h
 rw[List.length_append,xp,zgj] at h1
 have:=(za0 s).2
 omega
theorem zyq{x:UInt8}{j e:Nat}(hj:j+e=7):∃h:j<(qr x).length,(x.toNat / 2 ^ e)%2=((qr x)[j]'h).toNat:=by
 have h8:j<(qr x).length:=by rw[yz];omega
 refine⟨h8,?_⟩
 have hv:=Xv x
 have h1:qr x=(qr x).take j++((qr x)[j] :: (qr x).drop (j+1)):=by
  rw[←List.drop_eq_getElem_cons h8,List.take_append_drop]
 have hd:((qr x).drop (j+1)).length=e:=by rw[List.length_drop,yz];omega
 generalize (qr x)[j]=b at h1
 generalize (qr x).take j=p at h1
 generalize (qr x).drop (j+1)=q at h1 hd
 rw[←hv,h1,y1,Xc,List.length_cons,hd,Nat.pow_succ]
 have hq:=Q5 q
 rw[hd] at hq
 have hp:0<2 ^ e:=Nat.two_pow_pos e
 have e1:val p*(2 ^ e*2)+(b.toNat*2 ^ e+val q)=2 ^ e*(val p*2+b.toNat)+val q:=by
  rw[Nat.mul_add,Nat.mul_comm b.toNat,←Nat.mul_assoc,←Nat.mul_assoc,Nat.mul_comm (val p)]
  omega
 rw[e1,Nat.mul_add_div hp,Nat.div_eq_of_lt hq,Nat.add_zero]
 cases b<;>simp
theorem zqs{x:UInt8}{j e:Nat}(hj:j+e=7)(h:j<(qr x).length):bits .and .u8 ((x.toNat:Int) / 2 ^ e) 1=(((qr x)[j]).toNat:Int):=by
 obtain⟨_,h1⟩:=zyq (x:=x) hj
 have hx:=x.toNat_lt
 have h2:x.toNat / 2 ^ e≤x.toNat:=Nat.div_le_self _ _
 rw[show ((x.toNat:Int) / 2 ^ e)=((x.toNat / 2 ^ e:Nat):Int) by simp,show (1:Int)=((1:Nat):Int) from rfl,u8_and_nat _ 1 (by omega) (by omega),Nat.and_one_is_mod,h1]
theorem zrv(p:List Bool)(b:Bool):bits .or .u32 (IntKind.u32.wrap (((val p%4294967296:Nat):Int)*2)) (b.toNat:Int)=((val (p++[b])%4294967296:Nat):Int):=by
 have hb:b.toNat<2:=by cases b<;>decide
 have e0:IntKind.u32.wrap (((val p%4294967296:Nat):Int)*2)=((2 ^ 1*(val p%2147483648):Nat):Int):=by
  rw[IntKind.wrap_u32];omega
 rw[e0,u32_or_nat _ _ (by omega) (by omega),←Nat.two_pow_add_eq_or_of_lt (i:=1) (by omega),y1]
 simp only[List.length_cons,List.length_nil,Nat.zero_add,Nat.pow_one]
 have:val [b]=b.toNat:=by cases b<;>rfl
 rw[this]
 omega
end
section
theorem ze7(k:Nat)(h:k≤8)(w:World):Calls Tryz.prog 233 #[.int .i64 k] w λe w'=>e=.returned (.int .u32 ((2 ^ k-1:Nat):Int))∧w=w':=by
 have hk:k=0∨k=1∨k=2∨k=3∨k=4∨k=5∨k=6∨k=7∨k=8:=by omega
 rcases hk with rfl|rfl|rfl|rfl|rfl|rfl|rfl|rfl|rfl
 all_goals
  go_enter Tryz.func233,Tryz.ntmps233
  go_wp2
  go_ret
  exact⟨rfl,rfl⟩
theorem zff(s:ByteArray)(hs:s.size≤100000)(w:World):Calls Tryz.prog 214 #[.string s] w λe w'=>e=.returned (.int .i64 (((j8 s.data.toList+7) / 8:Nat):Int))∧Below w.heap.size w w':=by
 obtain⟨hzl,_⟩:=zero_of_info Qv
 have HSL:Hid ((Tryz.prog.info? 297).map (·.size)=some jv.size):=by show _=_;rw[X5];exact(zero_of_info Qv).2
 go_enter Tryz.func214,Tryz.ntmps214
 go_wp2_with fail
 refine(zat _).mono ?_
 rintro e w1 ⟨rfl,hb1⟩
 have HB:=z2w hb1
 clear hb1
 go_wp2_with (first
  |(refine wpList_store_row rfl 297 (.tmp 3) (.tmp 6) rfl w1.heap.size jv rfl rfl 297 zfy (heap_alloc_last w1 _) HSL.out (by kernel_rfl) zbc ?_;rw[World.setRow_alloc_new]))
 have R1:Row (w1.alloc (.cells jv 297)) w1.heap.size 297 jv:=Row.new w1 _ _
 have HB1:=z2w (HB.out.alloc HB.out.size (.cells jv 297))
 have HR:=z2w R1
 clear HB R1
 generalize w1.alloc (.cells jv 297)=w2 at *
 go_loop [4,9] (λn i=>∃k:Nat,k≤s.size∧i=.int .i64 k∧∃b:Nat,n=.int .i64 b∧b≤30*k∧Hid (b=j8 (s.data.toList.take k))) (λ_ i=>s.size-(intOf i).toNat)
 case atStart=>exact⟨0,Nat.zero_le _,rfl,0,rfl,Nat.zero_le _,by show _=_;rfl⟩
 case round=>
  obtain⟨k,hk,rfl,b,rfl,hb,hbe⟩:=hrel
  by_cases hlt:k<s.size
  ·have hln:=J1 (s[k].toNat) (by have:=s[k].toNat_lt;omega)
   have hcell:=HR.out.cell (zj8 (show s[k].toNat<257 by have:=s[k].toNat_lt;omega))
   have hnx:Hid (b+ln s[k].toNat=j8 (s.data.toList.take (k+1))):=by
    show _=_
    rw[hbe.out,List.take_add_one,zg4,List.getElem?_eq_getElem (by simpa using hlt)]
    simp[j8]
    rfl
   generalize ln s[k].toNat=n at hln hcell hnx
   have h257:=s[k].toNat_lt
   clear hbe
   go_wp2_with fail
   go_round
   case rel=>exact⟨k+1,by omega,by go_num,b+n,by go_num,by omega,hnx⟩
   case measure=>simp[intOf];omega
  ·obtain rfl:k=s.size:=by omega
   have he:b=j8 s.data.toList:=by rw[hbe.out,List.take_of_length_le (by simp)]
   have HE:=z2w he
   clear he hbe
   go_wp2_with fail
   go_ret
   rw[←HE.out]
   exact⟨zgs (by omega),HB1.out⟩
end
section
def Jv(p:List Bool):Option Nat:=(List.range 257).find? λi=>decide (J5 i=p)
theorem zcm{p:List Bool}{i:Nat}(h:Jv p=some i):i<257∧J5 i=p:=by
 have h1:=List.find?_some h
 have h2:=List.mem_of_find?_eq_some h
 exact⟨List.mem_range.1 h2,by simpa using h1⟩
theorem zlz{p:List Bool}(h:Jv p=none):∀i,i<257→J5 i≠p:=λi hi e=>by
 have:=List.find?_eq_none.1 h i (List.mem_range.2 hi)
 simp[e] at this
def J6(st:List UInt8 × List Bool)(b:Bool):Option (List UInt8 × List Bool):=
 match Jv (st.2++[b]) with
 |none=>some (st.1,st.2++[b])
 |some i=>if i=256 then none else some (st.1++[UInt8.ofNat i],[])
def Jg:List Bool→List UInt8 × List Bool→Option (List UInt8 × List Bool)
 |[],st=>some st
 |b :: s,st=>(J6 st b).bind (Jg s)
def za1:Option (List UInt8 × List Bool)→Option (List UInt8)
 |none=>none
 |some (out,p)=>if p.length<8∧p=List.replicate p.length true then some out else none
def Qn(l:List UInt8):Option (List UInt8):=za1 (Jg (qb l) ([],[]))
theorem zeb{out:List UInt8}{p:List Bool}{b:Bool}(h:Jv (p++[b])=none):J6 (out,p) b=some (out,p++[b]):=by simp[J6,h]
theorem zhu{out:List UInt8}{p:List Bool}{b:Bool}(h:Jv (p++[b])=some 256):J6 (out,p) b=none:=by simp[J6,h]
theorem zee{out:List UInt8}{p:List Bool}{b:Bool}{i:Nat}(h:Jv (p++[b])=some i)(hi:i≠256):J6 (out,p) b=some (out++[UInt8.ofNat i],[]):=by simp[J6,h,hi]
theorem zs8{p:List Bool}:p=List.replicate p.length true↔val p=2 ^ p.length-1:=by
 constructor
 ·intro h;conv=>lhs;rw[h]
  exact zbu _
 ·intro h
  exact zdp (by simp) (by rw[zbu,h])
end
section
theorem yp:(Tryz.prog.info? 5).map (λi=>(i.zero,i.size,i.bytes))=some (some (.int .u8 0),1,1):=by kernel_rfl
theorem jw{t:TypeId}{z:Value}{n m:Nat}(h:(Tryz.prog.info? t).map (λi=>(i.zero,i.size,i.bytes))=some (some z,n,m)) :
  ∃i,Tryz.prog.info? t=some i∧i.zero=some z∧i.size=n∧i.bytes=m:=by
 cases hi:Tryz.prog.info? t with
 |none=>rw[hi] at h;simp at h
 |some i=>rw[hi] at h;simp at h;exact⟨i,rfl,h.1,h.2.1,h.2.2⟩
def zxu(w:World)(l:List UInt8)(e:Ending)(w':World):Prop:=
 ∃A c,e=.returned (.slice A l.length c)∧OwB w' w.heap.size 5 (.slice A l.length c) l∧Below w.heap.size w w'
theorem zom(i0:TypeInfo)(hi0:Tryz.prog.info? 5=some i0)(hz0:i0.zero=some (.int .u8 0))(hz1:i0.size=1)(hz2:i0.bytes=1)(n:Nat)(hn:n≤40000)(W:World) :
  (Instr.makeSlice 22 (.int .i64 0) (.int .i64 (n:Int))).run Tryz.prog W=.ok (.slice (some ⟨W.heap.size,0,none⟩) 0 n) (W.alloc (.cells (madeCells #[Value.int .u8 0] n) 5)):=by
 have:=run_make (P:=Tryz.prog) W 22 5 i0 (.int .u8 0) Tryz.underlying22 hi0 hz0 .i64 .i64 0 (n:Int) (by omega) (by omega) (by rw[hz2];omega) (by omega)
 rw[this,hz1,Nat.mul_one]
 rfl
theorem zsx(w:World)(B n:Nat)(hn:n≤40000)(hB:B≤w.heap.size):OwB (w.alloc (.cells (madeCells #[Value.int .u8 0] n) 5)) B 5 (.slice (some ⟨w.heap.size,0,none⟩) 0 n) []:=
 OwB.fresh w 5 _ _ (by rw[size_madeCells]) (by simp only[maxLen];omega) hB
theorem Qk(w:World)(n:Int)(t:TypeId)(cs:Array Value)(h:cs[0]?=some (.int .u8 n):=by rfl):(w.alloc (.cells cs t)).cell? ⟨w.heap.size,0,none⟩=some (.int .u8 n):=by
 rw[World.cell?_alloc_at _ _ _ _ (by simp)];exact h
theorem zwl(s:ByteArray)(hs:s.size≤9000)(w:World):Calls Tryz.prog 215 #[.string s] w (zxu w (ve s.data.toList)):=by
 obtain⟨hzc,_⟩:=zero_of_info vf
 have HSC:Hid ((Tryz.prog.info? 301).map (·.size)=some (q8 257).size):=by show _=_;rw[Qu];exact(zero_of_info vf).2
 obtain⟨i0,hi0,hz0,hz1,hz2⟩:=jw yp
 have hsz:=zff s (by omega)
 have hle:(j8 s.data.toList+7) / 8≤40000:=by
  have:=(za0 s.data.toList).2
  have h2:s.data.toList.length=s.size:=by simp
  omega
 generalize hNe:(j8 s.data.toList+7) / 8=N at hsz hle
 have HN:=z2w hNe
 clear hNe
 have hmk:=zom i0 hi0 hz0 hz1 hz2 N hle
 go_enter Tryz.func215,Tryz.ntmps215
 go_wp2_with fail
 refine(zem _).mono ?_
 rintro e w1 ⟨rfl,hb1⟩
 have HB1:=z2w hb1
 clear hb1
 go_wp2_with (first
  |(refine wpList_store_row rfl 301 (.tmp 3) (.tmp 10) rfl w1.heap.size (q8 257) rfl rfl 301 (q8 0) (heap_alloc_last w1 _) HSC.out (by rw[Qu,Qu]) (zhz _) ?_;rw[World.setRow_alloc_new]))
 refine(hsz _).mono ?_
 rintro e w2 ⟨rfl,hb2⟩
 have hs1:=HB1.out.size
 have hs2:w1.heap.size+1≤w2.heap.size:=by have:=hb2.size;simp at this;omega
 have RC:Row w2 w1.heap.size 301 (q8 257):=(Row.new w1 301 (q8 257)).below hb2 (by simp)
 have HB2:=z2w ((HB1.out.alloc hs1 (.cells (q8 257) 301)).trans (hb2.mono (by simp;omega)))
 have HRC:=z2w RC
 clear hb2 RC HB1
 go_wp2_with fail
 have HO:=z2w (zsx w2 (w1.heap.size+1) N hle (by omega))
 have HB3:=z2w (HB2.out.alloc (by omega) (.cells (madeCells #[Value.int .u8 0] N) 5))
 have HRC3:=z2w (HRC.out.alloc (.cells (madeCells #[Value.int .u8 0] N) 5))
 go_loopw [4,5,6,16] (λv h n i wr=>∃(k h' n':Nat) (A':Option Addr) (c':Nat) (L:List UInt8) (p:List Bool),k≤s.size∧i=.int .i64 k∧v=.slice A' L.length c'∧h=.int .u64 h'∧h'<18446744073709551616∧n=.int .i64 n'∧n'<8∧p.length=n'∧Hid (h'%2 ^ n'=val p)∧Hid (qb L++p=xh (s.data.toList.take k))∧Hid (OwB wr (w1.heap.size+1) 5 (.slice A' L.length c') L)∧Hid (Below w.heap.size w wr)∧Hid (Row wr w1.heap.size 301 (q8 257))∧w1.heap.size<wr.heap.size)
  (λ_ _ _ i _=>s.size-(intOf i).toNat)
 case atStart=>exact⟨0,0,0,_,_,[],[],Nat.zero_le _,rfl,rfl,rfl,by omega,rfl,by omega,rfl,by show _=_;rfl,by show _=_;rfl,HO,HB3,HRC3,by simp;omega⟩
 case round=>
  obtain⟨k,h',n',A',c',L,p,hk,rfl,rfl,rfl,hh,rfl,hn8,hp,hv,hE,hO,hB,hR,hz⟩:=hrel
  have Hp:=z2w hp
  clear hp
  by_cases hlt:k<s.size
  ·have h256:=s[k].toNat_lt
   have hln:=J1 s[k].toNat (by omega)
   have hcda:=zmn s[k].toNat (by omega)
   have hc0:=hR.out.cell (zqq (k:=257) (j:=s[k].toNat) (by omega) (by omega))
   have hc1:=hR.out.cell (zs0 (k:=257) (j:=s[k].toNat) (by omega) (by omega))
   have hcv:=Vd (i:=s[k].toNat) (by omega)
   have hcl:=Xz s[k].toNat
   have hnx:Hid (xh (s.data.toList.take (k+1))=xh (s.data.toList.take k)++J5 s[k].toNat):=by
    show _=_
    rw[List.take_add_one,zal,List.getElem?_eq_getElem (by simpa using hlt)]
    simp[xh]
    rfl
   generalize cd s[k].toNat=x at hcda hc0 hcv
   generalize ln s[k].toNat=nb at hln hcda hc1 hcl
   generalize J5 s[k].toNat=q at hcv hcl hnx
   have Hcv:=z2w hcv
   have Hcl:=z2w hcl
   have Hcda:=z2w hcda
   have hx:x<1073741824:=Nat.lt_of_lt_of_le hcda (Nat.le_trans (Nat.pow_le_pow_right (by omega) hln.2) (by decide))
   obtain⟨hl5,hl30⟩:=hln
   obtain⟨H,hH,hor,hHv⟩:=zoi hh hl30 hcda hn8 hv.out
   have HHv:Hid (H%2 ^ (n'+nb)=val (p++q)):=by
    show _=_
    rw[hHv,y1,Hcv.out,Hcl.out]
   have HE2:Hid (qb L++(p++q)=xh (s.data.toList.take (k+1))):=by
    show _=_
    rw[hnx.out,←hE.out,List.append_assoc]
   have hpq:Hid ((p++q).length=n'+nb):=by show _=_;rw[List.length_append,Hcl.out,Hp.out]
   clear hcv hcl hcda hHv hE hv hnx
   generalize p++q=pq at HHv HE2 hpq
   go_wp2_with fail
   go_quiet (fail)
   go_wp2_with fail
   have HO:=z2w (World.ownsRow.alloc hO.out (.cells #[.int .u32 (x:Int),.int .i64 (nb:Int)] 300))
   have HB3:=z2w (qu (hB.out.alloc (by omega) (.cells #[.int .u32 (x:Int),.int .i64 (nb:Int)] 300)) nq)
   have HRC3:=z2w (hR.out.alloc (.cells #[.int .u32 (x:Int),.int .i64 (nb:Int)] 300))
   go_loopw [4,6] (λv n wr=>∃(n2:Nat) (A2:Option Addr) (c2:Nat) (L2:List UInt8) (p2:List Bool),v=.slice A2 L2.length c2∧n=.int .i64 n2∧n2≤37∧Hid (p2.length=n2)∧Hid (H%2 ^ n2=val p2)∧Hid (qb L2++p2=xh (s.data.toList.take (k+1)))∧Hid (OwB wr (w1.heap.size+1) 5 (.slice A2 L2.length c2) L2)∧Hid (Below w.heap.size w wr)∧Hid (Row wr w1.heap.size 301 (q8 257))∧w1.heap.size<wr.heap.size)
    (λ_ n _=>(intOf n).toNat)
   case atStart=>exact⟨n'+nb,A',c',L,pq,rfl,by go_num,by omega,hpq,HHv,HE2,HO,HB3,HRC3,by simp;omega⟩
   case round=>
    obtain⟨n2,A2,c2,L2,p2,rfl,rfl,hn37,hp2,hv2,hE2,hO2,hB2,hR2,hzw⟩:=hrel
    by_cases h8:8≤n2
    ·obtain⟨m,rfl⟩:∃m,n2=m+8:=⟨n2-8,by omega⟩
     obtain⟨ho1,ho2⟩:=zso hp2.out hv2.out
     have hy0:val (p2.take 8)<256:=by omega
     have hyi:(H:Int) / 2 ^ m%256=((val (p2.take 8):Nat):Int):=by rw[←ho1];simp
     obtain⟨y,hye⟩:∃y,y=val (p2.take 8):=⟨_,rfl⟩
     rw[←hye] at hyi hy0
     have h8d:decide ((8:Int)≤(m:Int)+8)=true:=by simp;omega
     have hl2:=zgu hE2.out (by simp;omega)
     have Ho2:=z2w ho2
     have Hye:=z2w hye
     clear ho1 ho2 hye
     go_wp2_with (at_builtin;go_loud (refine yy rfl (.tmp 40) (.tmp 45) _ rfl (w1.heap.size+1) 5 i0 Tryz.underlying22 hi0 hz0 hz1 hz2 _ L2 rfl (World.ownsRow.alloc hO2.out _) wr.heap.size _ _ rfl (Qk _ _ _ _) (by omega) (by omega) (by omega) (by simp;omega) ?_;intro A3 c3 L3 w3 hL3 ho3 hb3))
     have hsw:wr.heap.size+1≤w3.heap.size:=by have:=hb3.size;simp at this;omega
     go_roundw
     case rel=>
      refine⟨m,A3,c3,L3,p2.drop 8,rfl,by go_num,by omega,?_,Ho2.out,?_,ho3,?_,?_,by omega⟩
      ·show _=_
       rw[List.length_drop,hp2.out];omega
      ·show _=_
       have e1:L3=L2++[UInt8.ofNat (val (p2.take 8))]:=by rw[hL3.out,←Hye.out];simp
       rw[e1,vm,zcj,za7 (by rw[List.length_take,hp2.out];omega),List.append_assoc,List.take_append_drop]
       exact hE2.out
      ·exact hB2.out.trans (((Below.refl _ _).alloc (by omega) _).trans (hb3.mono (by omega)))
      ·exact(hR2.out.alloc _).below hb3 (by omega)
     case measure=>simp[intOf];omega
    ·have h8d:decide ((8:Int)≤(n2:Int))=false:=by simp;omega
     go_wp2_with fail
     go_roundw
     case rel=>exact⟨k+1,H,n2,A2,c2,L2,p2,by omega,by go_num,rfl,rfl,hH,rfl,by omega,hp2.out,hv2,hE2,hO2,hB2,hR2,hzw⟩
     case measure=>simp[intOf];omega
  ·obtain rfl:k=s.size:=by omega
   have hE':Hid (qb L++p=xh s.data.toList):=by
    have:=hE.out
    rw[List.take_of_length_le (by simp)] at this
    exact this
   have hl:=zgu hE'.out (by simp;omega)
   clear hE
   by_cases h0:n'=0
   ·subst h0
    go_wp2_with fail
    go_ret
    have e:L=ve s.data.toList:=by
     apply zd1
     have hp0:p=[]:=List.eq_nil_of_length_eq_zero Hp.out
     have h1:=hE'.out
     rw[hp0,List.append_nil] at h1
     rw[h1]
     unfold pad
     rw[←h1,xp]
     simp
    subst e
    exact⟨A',c',rfl,hO.out.mono (by omega),hB.out⟩
   ·have h0d:decide ((0:Int)<(n':Int))=true:=by simp;omega
    obtain⟨r,hr⟩:∃r:Nat,n'+r=8:=⟨8-n',by omega⟩
    have hri:(8:Int)-n'=(r:Int):=by omega
    have hl8:=zmw Hp.out hr hv.out
    have hone:=ze7 r (by omega)
    have hyl:=Q5 (p++List.replicate r true)
    rw[List.length_append,List.length_replicate,Hp.out,hr] at hyl
    obtain⟨y,hye⟩:∃y,y=val (p++List.replicate r true):=⟨_,rfl⟩
    rw[←hye] at hl8 hyl
    have hye':=z2w hye
    clear hye
    obtain⟨o,hoe⟩:∃o,o=2 ^ r-1:=⟨_,rfl⟩
    rw[←hoe] at hl8 hone
    have hob:o<256:=by
     have:2 ^ r≤2 ^ 8:=Nat.pow_le_pow_right (by omega) (by omega)
     omega
    clear hoe
    go_wp2_with fail
    have hOd:OwB wr.drew (w1.heap.size+1) 5 (.slice A' L.length c') L:=hO.out
    have hBd:Below w.heap.size w wr.drew:=hB.out.drew
    have hzd:w1.heap.size<wr.drew.heap.size:=hz
    have HOd:=z2w hOd
    have HBd:=z2w hBd
    clear hOd hBd
    go_region_held3 (λ_=>True) (exact trivial) ((first
     |(go_at_call 233;refine(hone _).mono ?_;rintro e w' ⟨rfl,rfl⟩)
     |(refine zly rfl (.tmp 52) (.tmp 61) _ rfl (w1.heap.size+1) 5 i0 Tryz.underlying22 hi0 hz0 hz1 hz2 _ L rfl (World.ownsRow.alloc HOd.out _) wr.heap.size _ _ rfl (Qk _ _ _ _) (by omega) (by omega) (by omega) (by simp;omega) ?_;intro A3 c3 L3 w3 hL3 ho3 hb3)))
    go_wp2_with fail
    go_ret
    have e:L3=ve s.data.toList:=by
     apply zd1
     have e1:L3=L++[UInt8.ofNat (val (p++List.replicate r true))]:=by rw[hL3.out,←hye'.out];simp
     have h1:=hE'.out
     have h2:=congrArg List.length h1
     rw[List.length_append,xp,Hp.out] at h2
     rw[e1,vm,zcj,za7 (by rw[List.length_append,List.length_replicate,Hp.out,hr]),←List.append_assoc,h1]
     unfold pad
     rw[show (8-(xh s.data.toList).length%8)%8=r by omega]
    subst e
    exact⟨A3,c3,rfl,ho3.mono (by omega),HBd.out.trans (((Below.refl _ _).alloc (by omega) _).trans (hb3.mono (by omega)))⟩
end
section
theorem vx:∀(x:List Bool) (o:List UInt8) (p:List Bool) (o':List UInt8) (p':List Bool),Jg x (o,p)=some (o',p')→xh o'++p'=xh o++(p++x)∧o <+: o'
 |[],o,p,o',p',h=>by
  have h':(o,p)=(o',p'):=Option.some.inj h
  injection h' with h1 h2
  subst h1 h2
  exact⟨by simp,List.prefix_refl _⟩
 |b :: x,o,p,o',p',h=>by
  have h0:(J6 (o,p) b).bind (Jg x)=some (o',p'):=h
  cases hl:Jv (p++[b]) with
  |none=>
   rw[zeb hl] at h0
   obtain⟨h1,h2⟩:=vx x o (p++[b]) o' p' h0
   exact⟨by rw[h1];simp,h2⟩
  |some i=>
   by_cases h256:i=256
   ·subst h256
    rw[zhu hl] at h0
    cases h0
   ·rw[zee hl h256] at h0
    obtain⟨hi,hc⟩:=zcm hl
    obtain⟨h1,h2⟩:=vx x _ [] o' p' h0
    refine⟨?_,(List.prefix_append o [UInt8.ofNat i]).trans h2⟩
    rw[h1,zal]
    have e:xh [UInt8.ofNat i]=p++[b]:=by
     rw[←hc]
     simp[xh]
     congr 1
     omega
    rw[e]
    simp
theorem zud{l t:List UInt8}(h:Qn l=some t):ve t=l:=by
 unfold Qn at h
 cases hr:Jg (qb l) ([],[]) with
 |none=>rw[hr] at h;cases h
 |some st=>
  obtain⟨o,p⟩:=st
  rw[hr] at h
  have h1:=(vx _ _ _ _ _ hr).1
  rw[List.nil_append] at h1
  by_cases hc:p.length<8∧p=List.replicate p.length true
  ·have h2:some o=some t:=by
    have:za1 (some (o,p))=some o:=if_pos hc
    rw[←this,h]
   obtain rfl:=Option.some.inj h2
   refine(zd1 ?_).symm
   have h3:xh o++p=qb l:=by rw[h1];simp[xh]
   have h4:=congrArg List.length h3
   rw[List.length_append,xp] at h4
   unfold pad
   rw[show (8-(xh o).length%8)%8=p.length by omega,←hc.2,h3]
  ·have:za1 (some (o,p))=none:=if_neg hc
   rw[this] at h
   cases h
end
end Go.Proofs.YtooaajnkiokpnaaGreatDoor
