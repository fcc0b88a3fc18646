/-
  Part of a proof: What is sent on a stream: the program's Send and the document's, by their contracts. No conditions. Conditions: those that each theorem names.
-/
import Derived.Test.YtooaajnkiokpnaaGreatDoorQ24
import Derived.Test.YtooaajnkiokpnaaGreatDoorQ26
import Derived.Test.YtooaajnkiokpnaaGreatDoorQ33
import Derived.Test.YtooaajnkiokpnaaGreatDoorQ01
import Derived.Test.YtooaajnkiokpnaaGreatDoorQ07
import Derived.Test.YtooaajnkiokpnaaGreatDoorQ35
import Derived.Test.YtooaajnkiokpnaaGreatDoorQ29
import Derived.Test.YtooaajnkiokpnaaGreatDoorQ31
import Derived.Test.YtooaajnkiokpnaaGreatDoorQ20
import Derived.Lib.MinMax
import Derived.Test.YtooaajnkiokpnaaGreatDoorQ28
namespace Go.Proofs.YtooaajnkiokpnaaGreatDoor
open Go.RowKit Go.WideShapes
set_option maxHeartbeats 4000000
set_option maxRecDepth 100000
section
attribute [local irreducible] Cc.c evc
theorem zfe{w:World}{c g b:Nat}{x:Cc}{l y:List UInt8}{wt bad:Bool}{A:Option Addr}{n:Nat}(h:Row w c 86 x.c)(hgo:x.go=false)(hsp:x.sp=.pointer (some ⟨g,0,none⟩))(hS:Spl w g b l wt bad)(hy:RdS w (λk=>k<w.heap.size∧k≠g∧k≠b) A (byc y)) :
  Calls Tryz.prog 13 #[.pointer (some ⟨c,0,none⟩),.slice A y.length n] w λe w'=>e=.returned (.int .i64 (zby l bad y:Int))∧Spl w' g b (vj l bad y) wt bad∧Fs (gbS g b) w w':=by
 have hg:=X2 h
 rw[hgo] at hg
 have c1:=cc1 h
 rw[hsp] at c1
 have HF:=z2w (zrd (c:=n) hS hy)
 generalize y.length=yl at HF
 clear h hgo hsp hS hy
 go_enter Tryz.func13,Tryz.ntmps13
 go_wp2_with fail
 refine hg.mono ?_
 rintro e w1 ⟨rfl,rfl⟩
 go_wp2_with fail
 refine HF.out.mono ?_
 rintro e w2 ⟨rfl,h1,h2⟩
 have H1:=z2w h1
 have H2:=z2w h2
 clear h1 h2
 go_wp2_with fail
 go_ret
 exact⟨rfl,H1.out,H2.out⟩
end
section
attribute [local irreducible] Cc.c evc Fm.c knc mtc
theorem zda{w:World}{z:Zs}(h:Sd14 w z):Calls Tryz.prog 20 #[.pointer (some ⟨z.c,0,none⟩)] w λe w'=>e=.returned (.int .i64 z.lv)∧w'=w:=by
 have c21:w.cell? ⟨z.c,21,none⟩=some (.int .i64 (z.lv:Int)):=zdc h.row
 clear h
 go_enter Tryz.func20,Tryz.ntmps20
 go_wp2_with fail
 go_ret
 exact⟨rfl,rfl⟩
theorem zx1{w:World}{z:Zs}(h:Sd14 w z)(hgo:z.go=false){A:Option Addr}{y:List UInt8}{n:Nat}(hy:RdS w (λk=>k<w.heap.size∧¬zi z.ps k) A (byc y)) :
  Calls Tryz.prog 13 #[.pointer (some ⟨z.c,0,none⟩),.slice A y.length n] w λe w'=>e=.returned (.int .i64 (zby z.l z.bad y:Int))∧ZP w z { z with l:=vj z.l z.bad y } w':=by
 refine(zfe h.row hgo rfl (h.1.ok .spl) (hy.imp λk hk hl=>⟨hl,λe=>hk.2 ⟨.spl,.inl e⟩,λe=>hk.2 ⟨.spl,.inr e⟩⟩)).mono ?_
 rintro e w' ⟨h1,h2,h3⟩
 exact⟨h1,ZP.of h (h.1.one .spl h3 h2 (λk hk=>.inl hk) (λm hm=>by cases m<;>first|rfl|exact absurd rfl hm)) rfl⟩
end
section
theorem Qy(w:World):Row (w.alloc (.cells #[.int .u8 0,.int .u32 0] 29)) w.heap.size 29 (ftc 0 0):=by rw[z9];exact Row.new w _ _
theorem zvx(w:World):Calls Tryz.prog 111 #[.nilIface] w λe w'=>e=.returned (.agg (ftc 0 0))∧Below w.heap.size w w':=zhh w
attribute [local irreducible] Cc.c evc Fm.c ftc knc
theorem ztk(v:Value)(n:Nat)(w:World):Calls Tryz.prog 67 #[v,.int .u32 (n:Int),.nilIface] w (ji λw'=>Below w.heap.size w w'):=by
 have HAG:=z2w (Zo 0 0)
 go_enter Tryz.func67,Tryz.ntmps67
 go_wp2_with fail
 refine(zvx w).mono ?_
 rintro e w1 ⟨rfl,hb1⟩
 have HR:=z2w (Qy w1)
 have HB:=z2w (hb1.alloc hb1.size (.cells #[.int .u8 0,.int .u32 0] 29))
 have HS:Hid (w.heap.size≤w1.heap.size):=hb1.size
 clear hb1
 go_upto_region 1 with (refine ze (cs:=ftc 0 0) rfl _ _ rfl rfl rfl HR.out rfl HAG.out ?_)
 have HR2:=z2w (HR.out.setRow (ftc 0 0))
 have HB2:=z2w (zd HB.out w1.heap.size (ftc 0 0) HS.out)
 clear HR HB HS
 generalize (w1.alloc (.cells #[.int .u8 0,.int .u32 0] 29)).setRow w1.heap.size (ftc 0 0)=w2 at *
 generalize w1.heap.size=p at *
 have c0:w2.cell? ⟨p,0,none⟩=some (.int .u8 0):=HR2.out.cell (by rw[z9];rfl)
 clear HR2
 go_wp2_with fail
 go_end0
 exact⟨rfl,HB2.out⟩
def X7(w:World)(z:Zs)(Q:Zs→Prop)(x:Ending)(w':World):Prop:=x=.returned .nilIface∧∃z',ZP w z z' w'∧Q z'
theorem zcq{w:World}{z:Zs}(h:Sd14 w z)(X:Fm){Q:Zs→Prop}(hco:∀W,Below w.heap.size w W→Calls Tryz.prog 66 #[.pointer (some ⟨z.c,0,none⟩),.agg X.c] W (X7 W z Q))(hq:∀z',Q z'→z'.c=z.c∧z'.go=false∧z'.rep≤64) :
  Calls Tryz.prog 31 #[.pointer (some ⟨z.c,0,none⟩),.agg X.c,.agg (ftc 0 0)] w (ji λw'=>∃z',ZP w z z' w'∧Q z'):=by
 have HZ:Hid (ftc 0 0=#[.int .u8 0,.int .u32 0]):=z9 0 0
 obtain⟨w1,hw1⟩:∃w1,(w.alloc (.cells X.c 66)).alloc (.cells (ftc 0 0) 29)=w1:=⟨_,rfl⟩
 have hb1:Below w.heap.size w w1:=by rw[←hw1];exact((Below.refl _ _).alloc (Nat.le_refl _) _).alloc (by simp) _
 have hXr:Row w1 w.heap.size 66 X.c:=by rw[←hw1];exact(Row.new w _ _).alloc _
 have hTr:Row w1 (w.heap.size+1) 29 (ftc 0 0):=by rw[←hw1];exact Row.made _ _ _ (by simp)
 have HX:=z2w hXr
 have HT:=z2w hTr
 have HB:=z2w hb1
 have HW:=z2w hw1
 have H:=z2w (ZP.of_below h hb1)
 have HCO:=z2w hco
 have HQ:=z2w hq
 have HPN:Hid (¬zi z.ps w.heap.size):=λhk=>by have:=h.1.lt hk;omega
 clear h hco hq hb1 hXr hTr hw1
 go_enter Tryz.func31,Tryz.ntmps31
 go_upto_region 1 with fail
 rw[HW.out]
 clear HW
 have hnw:=Zq 0 0 rfl w1
 rw[←HZ.out] at hnw
 go_wp2_with (refine zj rfl _ rfl rfl HT.out (Zo 0 0) ?_)
 refine hnw.mono ?_
 rintro e w2 ⟨rfl,hb2⟩
 have HX2:=z2w (HX.out.below hb2 HX.out.lt)
 have HB2:=z2w (HB.out.trans (hb2.mono HB.out.size))
 have H2:=z2w (H.out.then_below hb2)
 have hc2:=HCO.out w2 HB2.out
 clear hb2 H HX HT HB HZ hnw
 go_wp2_with (refine zg rfl _ rfl rfl HX2.out ?_)
 refine hc2.mono ?_
 rintro e w3 ⟨rfl,z',h3,hQ3⟩
 have HX3:=z2w (h3.fs.row HPN.out HX2.out)
 have H3:=z2w (H2.out.trans h3)
 have HQ3:=z2w hQ3
 obtain⟨k1,k2,k3⟩:=HQ.out z' hQ3
 have K:=z2w (And.intro k1 (And.intro k2 k3))
 have f2:=(zf HX3.out).2.2.1
 have hme:=ztk (.pointer (some ⟨z.c,0,none⟩)) X.st w3
 clear h3 hQ3 hc2 k1 k2 k3 HX2 H2 HQ HCO HPN
 go_wp2_with fail
 refine hme.mono ?_
 rintro e w4 ⟨rfl,hb4⟩
 have H4:=z2w (H3.out.then_below hb4)
 have c20:w4.cell? ⟨z'.c,26,none⟩=some (.bool z'.go):=Y3 H4.out.sd.row
 have c11:w4.cell? ⟨z'.c,17,none⟩=some (.int .i64 (z'.rep:Int)):=zlb H4.out.sd.row
 rw[K.out.1,K.out.2.1] at c20
 rw[K.out.1] at c11
 have hle:decide ((64:Int)<(z'.rep:Int))=false:=by have:=K.out.2.2;simp;omega
 clear hb4 hme f2 H3
 go_wp2_with fail
 go_end0
 exact⟨rfl,z',H4.out,HQ3.out⟩
end
section
section
variable {w w':World}{z:Zs}{g i:Nat}{L:List Ks}{e e':Ks}
theorem zzp{L:List Ks}{i:Nat}{e e':Ks}(hi:L[i]?=some e)(h1:e'.nu=e.nu)(h2:e'.k=e.k):(L.set i e').map (λe=>(e.nu,e.k))=L.map λe=>(e.nu,e.k):=by
 rw[List.map_set]
 have:(L.map λe=>(e.nu,e.k))[i]?=some (e'.nu,e'.k):=by rw[List.getElem?_map,hi,h1,h2];rfl
 obtain⟨hlt,he⟩:=List.getElem?_eq_some_iff.1 this
 rw[←he,List.set_getElem_self]
theorem SmIn.turn(h:SmIn w g L)(hi:L[i]?=some e)(hf:Fs e.fp w w')(hn:KsIn w' e')(h1:e'.nu=e.nu)(h2:e'.k=e.k)(hp:∀k,e'.fp k→e.fp k∨w.heap.size≤k):SmIn w' g (L.set i e'):=by
 have hem:=List.mem_of_getElem? hi
 have hilt:=(List.getElem?_eq_some_iff.1 hi).1
 have hgn:¬e.fp g:=λhk=>by
  rcases hk with hk|⟨m,hm,hk⟩
  ·exact h.m.ne (h.i e hem).r hk
  ·exact h.m.ne ((h.i e hem).m m hm).1 hk
 refine⟨?_,λx hx=>?_,λa b x y hx hy k h3 h4=>?_⟩
 ·rw[zzp hi h1 h2]
  exact h.m.fs hf hgn
 ·rcases List.mem_or_eq_of_mem_set hx with hx'|rfl
  ·obtain⟨j,hj⟩:=List.getElem?_of_mem hx
   by_cases hji:j=i
   ·subst hji
    rw[List.getElem?_set_self hilt] at hj
    obtain rfl:=Option.some.inj hj
    exact hn
   ·rw[List.getElem?_set_ne (Ne.symm hji)] at hj
    exact(h.i x hx').keep λk hk=>hf.block k ((h.i x hx').lt hk) λhk2=>hji (h.d j i x e hj hi k hk hk2)
  ·exact hn
 ·have hcase:∀(c:Nat) (x:Ks),(L.set i e')[c]?=some x→(c=i∧x=e')∨(c≠i∧L[c]?=some x):=λc x hc=>by
   by_cases hci:c=i
   ·subst hci
    rw[List.getElem?_set_self hilt] at hc
    exact .inl ⟨rfl,(Option.some.inj hc).symm⟩
   ·rw[List.getElem?_set_ne (Ne.symm hci)] at hc
    exact .inr ⟨hci,hc⟩
  rcases hcase a x hx with ⟨rfl,rfl⟩|⟨ha,hx'⟩<;>rcases hcase b y hy with ⟨rfl,rfl⟩|⟨hb,hy'⟩
  ·rfl
  ·rcases hp k h3 with h5|h5
   ·exact h.d a b e y hi hy' k h5 h4
   ·exact absurd ((h.i y (List.mem_of_getElem? hy')).lt h4) (by omega)
  ·rcases hp k h4 with h5|h5
   ·exact h.d a b x e hx' hi k h3 h5
   ·exact absurd ((h.i x (List.mem_of_getElem? hx')).lt h3) (by omega)
  ·exact h.d a b x y hx' hy' k h3 h4
theorem ZP.stream(h:Sd14 w z)(hi:z.ss[i]?=some e)(hf:Fs e.fp w w')(hn:KsIn w' e')(h1:e'.nu=e.nu)(h2:e'.k=e.k)(hp:∀k,e'.fp k→e.fp k∨w.heap.size≤k):ZP w z { z with ss:=z.ss.set i e' } w':=by
 have hs:SmIn w z.sm z.ss:=h.1.ok .sm
 have hem:=List.mem_of_getElem? hi
 refine ZP.of h (h.1.one .sm (hf.mono λk _ hk=>.inr ⟨e,hem,hk⟩) (hs.turn hi hf hn h1 h2 hp) (λk hk=>?_) (λm hm=>by cases m<;>first|rfl|exact absurd rfl hm)) rfl
 rcases hk with hk|⟨x,hx,hk⟩
 ·exact .inl (.inl hk)
 ·rcases List.mem_or_eq_of_mem_set hx with hx'|rfl
  ·exact .inl (.inr ⟨x,hx',hk⟩)
  ·exact(hp k hk).imp (λh=>.inr ⟨e,hem,h⟩) id
theorem Sd14.ks(h:Sd14 w z)(hi:z.ss[i]?=some e):KsIn w e:=by
 have hs:SmIn w z.sm z.ss:=h.1.ok .sm
 exact hs.i e (List.mem_of_getElem? hi)
theorem KsIn.state(h:KsIn w e)(n:Nat):KsIn (w.setCell ⟨e.k,1,none⟩ (.int .u8 n)) { e with st:=n }∧Fs e.fp w (w.setCell ⟨e.k,1,none⟩ (.int .u8 n)):=
 ⟨⟨h.r.stored 1 _,λm hm=>⟨(h.m m hm).1.stored' (a:=⟨e.k,1,none⟩) (Jd (h.m m hm).1 h.r (by decide)) _,(h.m m hm).2⟩⟩,(Fs.refl _ _).setCell (λ_=>.inl rfl) _ _⟩
theorem KsIn.bare(h:KsIn w e):KsIn (w.setCell ⟨e.k,2,none⟩ (.pointer none)) { e with me:=none }∧Fs e.fp w (w.setCell ⟨e.k,2,none⟩ (.pointer none)):=
 ⟨⟨h.r.stored 2 _,λm hm=>by cases hm⟩,(Fs.refl _ _).setCell (λ_=>.inl rfl) _ _⟩
end
theorem Sd14.ovs{w:World}{z:Zs}(h:Sd14 w z):∃A c1,z.ov=.slice A z.ol2.length c1:=by
 obtain⟨A,c1,h1,_⟩:=OwS.shape (h.1.ok .ov)
 exact⟨A,c1,h1⟩
theorem zzd(n:Int)(w:World):(Instr.buildSlice 72 1 #[(0,.int .u32 n)]).run Tryz.prog w=.ok (.slice (some ⟨w.heap.size,0,none⟩) 1 1) (w.alloc (.cells #[.int .u32 n] 24)):=by kernel_rfl
theorem zbm:(Tryz.prog.info? 24).map (λi=>(i.zero,i.size,i.bytes))=some (some (.int .u32 0),1,4):=by kernel_rfl
theorem ZP.over{w w':World}{z:Zs}{v:Value}{l:List Nat}(h:Sd14 w z)(hf:Fs (ob z.ov) w w')(ho:OwS w' 0 24 1 v l.length (enl u3l l))(hn:∀k,ob v k→ob z.ov k∨w.heap.size≤k):ZP w z { z with ov:=v,ol2:=l } (w'.setCell ⟨z.c,20,none⟩ v):=by
 have hne:∀{w:World} {v:Value} {m:Nat} {cs:List Value},Row w z.c 86 z.x.c→OwS w 0 24 1 v m cs→¬ob v z.c:=λhr ho hk=>by
  obtain⟨cur,h4⟩:=Qq ho hk
  exact Jd hr h4 (by decide) rfl
 have hov:OwS w 0 24 1 z.ov z.ol2.length (enl u3l z.ol2):=h.1.ok .ov
 have hr':Row w' z.c 86 z.x.c:=hf.row (hne h.row hov) h.row
 refine ZP.of h (h.1.two .row .ov ?_ (z0c hr' v) ?_ (λk hk=>.inl hk) (λk hk=>.inr (hn k hk)) (λk hk hk2=>?_) (λm hm hm2=>?_)) rfl
 ·exact(hf.mono λk _ hk=>.inr hk).setCell (λ_=>.inl rfl) _ _
 ·exact OwS.setCell (a:=⟨z.c,20,none⟩) ho (hne hr' ho) _
 ·have hk':k=z.c:=hk
  subst hk'
  exact hne hr' ho hk2
 ·cases m<;>first|rfl|exact absurd rfl hm|exact absurd rfl hm2
theorem ZP.ring{w w':World}{z:Zs}{F':Nat→Prop}{m':Rm}(h:Sd14 w z)(ht:Tr w' F' z.rg m')(hf:Fs z.rF w w')(hn:∀k,F' k→z.rF k∨w.heap.size≤k):ZP w z { z with rm:=m',rF:=F' } w':=
 ZP.of h (h.1.one .rg hf ht hn (λm hm=>by cases m<;>first|rfl|exact absurd rfl hm)) rfl
attribute [local irreducible] Cc.c evc Fm.c knc mtc
theorem zpn{w:World}{z:Zs}{i:Nat}{e:Ks}(h:Sd14 w z)(hi:z.ss[i]?=some e){m:Nat × Int × Int × Int}(hme:e.me=some m)(h0:m.2.1-m.2.2.1-m.2.2.2=0)(hu:Yc z.mz z.ml z.mu 0=(0,z.ml,z.mu))(hlv:1≤z.lv∧z.lv≤1000000)(hov:z.ol2.length<64)(hrm:z.rm.Ok)(hsm:z.rm.Sm)(n:Nat)(hn:¬(1≤n∧n≤3)) :
  Calls Tryz.prog 42 #[.pointer (some ⟨z.c,0,none⟩),.pointer (some ⟨e.k,0,none⟩),.int .u8 n] w (ji λw'=>∃v F',ZP w z { z with ss:=z.ss.set i { e with st:=n,me:=none },lv:=z.lv-1,rm:=xw z.rm e.nu,rF:=F',ov:=v,ol2:=z.ol2++[e.nu] } w'):=by
 have hks:=h.ks hi
 have hilt:=(List.getElem?_eq_some_iff.1 hi).1
 have k1:w.cell? ⟨e.k,1,none⟩=some (.int .u8 (e.st:Int)):=kn1 hks.r
 have z1:=hks.r.thawed 1
 obtain⟨hs1,hf1⟩:=hks.state n
 have H1:=z2w (ZP.stream (e':={ e with st:=n }) h hi hf1 hs1 rfl rfl (λk hk=>.inl hk))
 have hlf:=zbg n
 rw[show decide (1≤(n:Int)∧(n:Int)≤3)=false from decide_eq_false (by omega)] at hlf
 clear hks hs1 hf1
 go_enter Tryz.func42,Tryz.ntmps42
 go_upto_region 1 with fail
 generalize w.setCell ⟨e.k,1,none⟩ (.int .u8 (n:Int))=w1 at *
 clear k1 z1
 have c21:w1.cell? ⟨z.c,21,none⟩=some (.int .i64 (z.lv:Int)):=zdc H1.out.sd.row
 have z21:=H1.out.sd.row.thawed 21
 have hwl:IntKind.i64.wrap ((z.lv:Int)-1)=(z.lv:Int)-1:=IntWalk.i64_in _ (by omega)
 have hcl:((z.lv-1:Nat):Int)=(z.lv:Int)-1:=by omega
 have h2:=ZP.cell (z':={ z with ss:=z.ss.set i { e with st:=n },lv:=z.lv-1 }) H1.out.sd 21 (.int .i64 ((z.lv:Int)-1)) (by have:=ztq H1.out.sd.row (z.lv-1);rw[hcl] at this;exact this) rfl rfl (λm hm=>by cases m<;>first|rfl|exact absurd rfl hm)
 have H2:=z2w (H1.out.trans h2)
 clear h2 H1 hcl
 go_upto_region 3 with (refine hlf _ |>.mono ?_;rintro e' w' ⟨rfl,rfl⟩)
 generalize w'.setCell ⟨z.c,21,none⟩ (.int .i64 ((z.lv:Int)-1))=w2 at *
 clear c21 z21 hwl hlf
 have HS:=H2.out.sd
 have hi2:(z.ss.set i { e with st:=n })[i]?=some { e with st:=n }:=List.getElem?_set_self hilt
 have hks2:KsIn w2 { e with st:=n }:=HS.ks hi2
 have c18:w2.drew.cell? ⟨z.c,18,none⟩=some (pa0 z.rg):=Vz HS.row
 have k0:w2.drew.cell? ⟨e.k,0,none⟩=some (.int .u32 (e.nu:Int)):=kn0 hks2.r
 unfold pa0 at c18
 have HD:=z2w (H2.out.then_below ((Below.refl _ _).drew))
 clear H2 HS hks2 hi2
 refine wp_region_held_drew (S:=λw'=>w'.cell? ⟨z.c,18,none⟩=some (.pointer (some ⟨z.rg,0,none⟩))∧w'.cell? ⟨e.k,0,none⟩=some (.int .u32 (e.nu:Int))) (by kernel_rfl) ⟨c18,k0⟩ (λhHeld=>?_)
 clear c18 k0
 generalize w2.drew=w3 at *
 refine tkH 0 ?_
 refine tkH 1 ?_
 refine tkH 2 ?_
 refine tkH 3 ?_
 refine tkH 4 ?_
 refine tkH 5 ?_
 refine tkH 6 ?_
 refine tkH 7 ?_
 refine rdH 8 λK hK=>?_
 go_simp
 go_at_call 83
 refine(zph (HD.out.sd.1.ok .rg) hrm hsm e.nu).mono ?_
 rintro e9 w4 ⟨rfl,F',hT,hF,hn⟩
 have HE:Hid (ZP w z { z with ss:=z.ss.set i { e with st:=n },lv:=z.lv-1,rm:=xw z.rm e.nu,rF:=F' } w4):=HD.out.trans (ZP.ring HD.out.sd hT hF hn)
 clear HD hT hF hn hHeld
 have HS:=HE.out.sd
 have hks4:KsIn w4 { e with st:=n }:=HS.ks (List.getElem?_set_self hilt)
 have c18:w4.cell? ⟨z.c,18,none⟩=some (pa0 z.rg):=Vz HS.row
 have k0:w4.cell? ⟨e.k,0,none⟩=some (.int .u32 (e.nu:Int)):=kn0 hks4.r
 unfold pa0 at c18
 refine hK.out _ _ ⟨c18,k0⟩ (λhHeld=>?_)
 clear hK K
 try refine ptk ?_
 refine dnH ?_
 clear hHeld c18 k0
 have k2:w4.cell? ⟨e.k,2,none⟩=some ({ e with st:=n }:Ks).mv:=kn2 hks4.r
 have k2:w4.cell? ⟨e.k,2,none⟩=some (.pointer (some ⟨m.1,0,none⟩)):=by rw[k2];unfold Ks.mv;rw[show ({ e with st:=n }:Ks).me=some m from hme];rfl
 obtain⟨hr4,ho4⟩:=hks4.m m hme
 have how:=zea hr4 ho4
 rw[h0] at how
 have HS:=z2w HS
 clear hr4 ho4 hks4
 go_wp2_with fail
 refine how.mono ?_
 rintro e10 w5 ⟨rfl,hb5⟩
 have hus:=zs1 (HS.out.below hb5) (n:=0) hu ((HS.out.1.ok .mt).2)
 have HE5:=z2w (HE.out.then_below hb5)
 clear how HS k2 hb5 HE
 go_wp2_with fail
 refine hus.mono ?_
 rintro e11 w6 ⟨rfl,h6⟩
 have HE6:Hid (ZP w z { z with ss:=z.ss.set i { e with st:=n },lv:=z.lv-1,rm:=xw z.rm e.nu,rF:=F' } w6):=HE5.out.trans h6
 clear h6 hus HE5
 have hks6:KsIn w6 { e with st:=n }:=HE6.out.sd.ks (List.getElem?_set_self hilt)
 have k2:∃v,w6.cell? ⟨e.k,2,none⟩=some v:=⟨_,kn2 hks6.r⟩
 obtain⟨v2,k2⟩:=k2
 have z2:=hks6.r.thawed 2
 obtain⟨hs7,hf7⟩:=hks6.bare
 have HE7:Hid (ZP w z { z with ss:=z.ss.set i { e with st:=n,me:=none },lv:=z.lv-1,rm:=xw z.rm e.nu,rF:=F' } (w6.setCell ⟨e.k,2,none⟩ (.pointer none))):=by
  refine ZP.eq (HE6.out.trans (ZP.stream (e':={ e with st:=n,me:=none }) HE6.out.sd (List.getElem?_set_self hilt) hf7 hs7 rfl rfl (λk hk=>.inl ?_))) ?_
  ·rcases hk with hk|⟨m,hm,_⟩
   ·exact .inl hk
   ·cases hm
  ·simp only[List.set_set]
 clear HE6 hks6 hs7 hf7
 go_upto_region 6 with fail
 clear k2 z2
 generalize w6.setCell ⟨e.k,2,none⟩ (.pointer none)=w7 at *
 obtain⟨A1,c1,hV⟩:=HE7.out.sd.ovs
 have hV:z.ov=.slice A1 z.ol2.length c1:=hV
 have HV:=z2w hV
 clear hV
 have c20:w7.cell? ⟨z.c,20,none⟩=some z.ov:=zl0 HE7.out.sd.row
 rw[HV.out] at c20
 have k0:w7.cell? ⟨e.k,0,none⟩=some (.int .u32 (e.nu:Int)):=kn0 (HE7.out.sd.ks (List.getElem?_set_self hilt)).r
 refine qg 13 (λw'=>w'.cell? ⟨z.c,20,none⟩=some (.slice A1 z.ol2.length c1)∧w'.cell? ⟨e.k,0,none⟩=some (.int .u32 (e.nu:Int))) (by kernel_rfl) ⟨c20,k0⟩ (λhHeld=>?_)
 refine tkE 0 ?_
 refine tkE 1 ?_
 refine tkE 2 ?_
 refine tkE 3 ?_
 refine tkE 4 ?_
 refine tkE 5 ?_
 refine tkE 6 ?_
 refine tkE 7 ?_
 refine tkE 8 ?_
 refine zm (i:=9) (by kernel_rfl) rfl (λK hK=>?_)
 refine zsf (zzd (e.nu:Int)) rfl rfl (by kernel_rfl) ?_
 have hal:Below w7.heap.size w7 (w7.drew.alloc (.cells #[.int .u32 (e.nu:Int)] 24)):=((Below.refl _ _).drew).alloc (Nat.le_refl _) _
 have HE8:=z2w (HE7.out.then_below hal)
 have HN8:Hid (Row (w7.drew.alloc (.cells #[.int .u32 (e.nu:Int)] 24)) w7.drew.heap.size 24 #[.int .u32 (e.nu:Int)]):=Row.new w7.drew _ _
 clear hal HE7 c20 k0 hHeld
 generalize w7.drew.heap.size=q at *
 generalize w7.drew.alloc (.cells #[.int .u32 (e.nu:Int)] 24)=w8 at *
 have c20:w8.cell? ⟨z.c,20,none⟩=some z.ov:=zl0 HE8.out.sd.row
 rw[HV.out] at c20
 have k0:w8.cell? ⟨e.k,0,none⟩=some (.int .u32 (e.nu:Int)):=kn0 (HE8.out.sd.ks (List.getElem?_set_self hilt)).r
 refine hK.out _ _ ⟨c20,k0⟩ (λhHeld=>?_)
 clear hK K c20 k0 hHeld
 try refine ptk ?_
 obtain⟨i0,hi0,hz0,hz1,hz2⟩:=zr zbm
 have hO8:OwS w8 0 24 1 z.ov z.ol2.length (enl u3l z.ol2):=HE8.out.sd.1.ok .ov
 rw[HV.out] at hO8
 refine zm (i:=10) (by kernel_rfl) rfl (λK hK=>?_)
 refine Zr rfl (.tmp 42) (.tmp 47) 72 rfl 0 24 i0 _ 1 4 Tryz.underlying72 hi0 hz0 hz1 hz2 rfl (.slice A1 z.ol2.length c1) z.ol2.length (enl u3l z.ol2) rfl hO8 ⟨q,0,none⟩ 1 1 (u3l e.nu) rfl rfl (λj u hj=>by
  rw[add_plain,Nat.zero_add]
  exact HN8.out.cell (by rw[show u3l e.nu=[Value.int .u32 (e.nu:Int)] from rfl] at hj;simpa using hj)) (by intro u hu;rw[show u3l e.nu=[Value.int .u32 (e.nu:Int)] from rfl,List.mem_singleton] at hu;subst hu;rfl) (by omega) (by simp only[maxLen];omega) (by omega) (Nat.zero_le _) ?_
 intro A6 c6 w9 hO9 hg9 hb9
 have hF9:Fs (ob z.ov) w8 w9:=by rw[HV.out];exact Fs.of_grown hg9
 have hN9:∀k,ob (.slice A6 (z.ol2.length+1) c6) k→ob z.ov k∨w8.heap.size≤k:=λk hk=>by
  rw[HV.out]
  exact(Nx.of_new hb9).own hk
 have hO9':OwS w9 0 24 1 (.slice A6 (z.ol2.length+1) c6) (z.ol2++[e.nu]).length (enl u3l (z.ol2++[e.nu])):=by
  rw[List.length_append,jq,Zb]
  exact hO9
 have HF:Hid (ZP w z { z with ss:=z.ss.set i { e with st:=n,me:=none },lv:=z.lv-1,rm:=xw z.rm e.nu,rF:=F',ov:=.slice A6 (z.ol2.length+1) c6,ol2:=z.ol2++[e.nu] } (w9.setCell ⟨z.c,20,none⟩ (.slice A6 (z.ol2.length+1) c6))):=HE8.out.trans (ZP.over HE8.out.sd hF9 hO9' hN9)
 have hrn:¬ob z.ov z.c:=λhk=>HE8.out.sd.1.ap .row .ov (by decide) z.c rfl hk
 have hkn:¬ob z.ov e.k:=λhk=>HE8.out.sd.1.ap .sm .ov (by decide) e.k (.inr ⟨_,List.mem_of_getElem? (List.getElem?_set_self hilt),.inl rfl⟩) hk
 have h9:=hF9.row hrn HE8.out.sd.row
 have c20:w9.cell? ⟨z.c,20,none⟩=some z.ov:=zl0 h9
 rw[HV.out] at c20
 have z20:=h9.thawed 20
 have k0:w9.cell? ⟨e.k,0,none⟩=some (.int .u32 (e.nu:Int)):=kn0 (hF9.row hkn (HE8.out.sd.ks (List.getElem?_set_self hilt)).r)
 clear hO9 hO9' hg9 hb9 hF9 hN9 hrn hkn h9 hO8 HE8 HN8 hi0 hz0 hz1 hz2
 refine hK.out _ _ ⟨c20,k0⟩ (λhHeld=>?_)
 clear hK K
 try refine ptk ?_
 refine tkE 11 ?_
 refine tkE 12 ?_
 refine qh (by kernel_rfl) rfl (by kernel_rfl) (λK hK=>?_)
 go_simp
 refine hK.out _ _ ?_
 clear hK K hHeld c20 k0 z20
 try refine ptk ?_
 generalize w9.setCell ⟨z.c,20,none⟩ (.slice A6 (z.ol2.length+1) c6)=w10 at *
 have c20:w10.cell? ⟨z.c,20,none⟩=some (.slice A6 (z.ol2.length+1) c6):=zl0 HF.out.sd.row
 have h64:decide (((z.ol2.length+1:Nat):Int) > 64)=false:=decide_eq_false (by omega)
 go_wp2_with fail
 go_end0
 exact⟨rfl,_,_,HF.out⟩
end
section
def PtP(w:World)(e:Ending)(w':World):Prop:=∃g,e=.returned (.pointer (some ⟨g,0,none⟩))∧w.heap.size≤g∧Below w.heap.size w w'
theorem zv1(w:World):Calls Tryz.prog 50 #[] w (PtP w):=by
 go_enter Tryz.func50,Tryz.ntmps50
 go_wp2_with fail
 go_ret
 exact⟨_,rfl,Nat.le_refl _,(Below.refl _ _).alloc (Nat.le_refl _) _⟩
theorem zau(w:World):Calls Tryz.prog 86 #[.int .u32 4096] w λe w'=>e=.returned (.int .u32 4096)∧w'=w:=by
 go_enter Tryz.func86,Tryz.ntmps86
 go_wp2_with fail
 go_ret
 exact⟨rfl,rfl⟩
theorem zjc(w:World):Calls Tryz.prog 87 #[.int .u32 4096] w (PtP w):=by
 go_enter Tryz.func87,Tryz.ntmps87
 go_wp2_with fail
 go_ret
 exact⟨_,rfl,Nat.le_refl _,(Below.refl _ _).alloc (Nat.le_refl _) _⟩
theorem zxb(w:World):Calls Tryz.prog 51 #[.int .u32 4096] w (PtP w):=by
 go_enter Tryz.func51,Tryz.ntmps51
 go_wp2_with fail
 refine(zau _).mono ?_
 rintro e w1 ⟨rfl,rfl⟩
 go_wp2_with fail
 refine(zjc _).mono ?_
 rintro e w2 ⟨g,rfl,hg,hb⟩
 have HB:=z2w hb
 clear hb
 go_wp2_with fail
 go_ret
 exact⟨_,rfl,by have:=HB.out.size;simp<;>omega,HB.out.alloc HB.out.size _⟩
theorem zxq(w:World):Calls Tryz.prog 52 #[.int .u32 4096] w (PtP w):=by
 go_enter Tryz.func52,Tryz.ntmps52
 go_wp2_with fail
 refine(zau _).mono ?_
 rintro e w1 ⟨rfl,rfl⟩
 go_wp2_with fail
 refine(zjc _).mono ?_
 rintro e w2 ⟨g,rfl,hg,hb⟩
 have HB:=z2w hb
 clear hb
 go_wp2_with fail
 go_ret
 exact⟨_,rfl,by have:=HB.out.size;simp<;>omega,HB.out.alloc HB.out.size _⟩
theorem zr3(w:World):Calls Tryz.prog 56 #[.int .i64 65535] w (PtP w):=by
 go_enter Tryz.func56,Tryz.ntmps56
 go_wp2_with fail
 refine(vg 65535 false _).mono ?_
 rintro e w1 ⟨g,rfl,_,hb,hg⟩
 have HB:=z2w hb
 clear hb
 go_wp2_with fail
 go_ret
 exact⟨_,rfl,by have:=HB.out.size;simp<;>omega,HB.out.alloc HB.out.size _⟩
theorem Xh(W:World):(Instr.makeMap 84 none).run Tryz.prog W=.ok (.map (some W.heap.size)) (W.alloc (.map #[] 0)):=by
 simp[Instr.makeMap,Sem.run_bind,run_underlying Tryz.underlying84]
end
section
def jr:List (Nat × Nat):=[(3,16),(6,4096),(8,1)]
def stF(l:List (Nat × Nat)):Frm:=⟨4,0,0,[],-1,0,0,0,false,0,l⟩
theorem zcn:(stF jr).Ok:=⟨(by decide:4<256),(by decide:0<256),(by decide:0<4294967296),(by decide:0<256),by decide⟩
theorem V9:(stF jr).May:=by unfold Frm.May;decide +kernel
theorem zgm(A:Option Addr)(n:Nat)(l:List (Nat × Nat))(q:Int):({ (stF l).fm none 0 A n with pad:=q }:Fm).c=#[.int .u8 4,.int .u8 0,.int .u32 0,.slice none 0 0,.int .i64 q,.int .u32 0,.int .u32 0,.int .u8 0,.bool false,.int .u32 0,.slice A l.length n]:=by unfold Fm.c;rfl
theorem zf4(w:World):(Instr.buildSlice 64 3 #[(0,.agg #[.int .u16 3,.int .u32 16]),(1,.agg #[.int .u16 6,.int .u32 4096]),(2,.agg #[.int .u16 8,.int .u32 1])]).run Tryz.prog w=.ok (.slice (some ⟨w.heap.size,0,none⟩) 3 3) (w.alloc (.cells #[.int .u16 3,.int .u32 16,.int .u16 6,.int .u32 4096,.int .u16 8,.int .u32 1] 164)):=by kernel_rfl
theorem zhi(n:Int)(w:World):(Instr.buildSlice 64 3 #[(0,.agg #[.int .u16 2,.int .u32 0]),(1,.agg #[.int .u16 4,.int .u32 n]),(2,.agg #[.int .u16 6,.int .u32 4096])]).run Tryz.prog w=.ok (.slice (some ⟨w.heap.size,0,none⟩) 3 3) (w.alloc (.cells #[.int .u16 2,.int .u32 0,.int .u16 4,.int .u32 n,.int .u16 6,.int .u32 4096] 164)):=by kernel_rfl
theorem Xt{w:World}{b:Nat}(h:Row w b 164 #[.int .u16 3,.int .u32 16,.int .u16 6,.int .u32 4096,.int .u16 8,.int .u32 1]):RdS w (·<w.heap.size) (some ⟨b,0,none⟩) (enl sgc jr):=λ_=>⟨b,0,rfl,h.lt,λj u hj=>by
 rw[Nat.zero_add]
 exact h.cell (by simpa [enl,jr,sgc] using hj)⟩
attribute [local irreducible] Cc.c evc Fm.c
theorem zpi{w:World}{c g base:Nat}{x:Cc}{R:List UInt8}{L:List Ev}{n:St}{v:Value}(h:Hot w c x R L)(hl:R.length≤100000000000)(hsv:x.srv=true)(how:x.ow=.pointer (some ⟨g,0,none⟩))(hS:Sd w base g n v [])(hbase:base≤w.heap.size)(hap:∀k,jn c x k→¬sb g v k) :
  Calls Tryz.prog 58 #[.pointer (some ⟨c,0,none⟩)] w (ji λw'=>∃v',Hot w' c { x with row:=v' } (R++zh (stF jr)) L∧Fs (λk=>jn c x k∨sb g v k) w w'∧∀k,jn c { x with row:=v' } k→jn c x k∨w.heap.size≤k):=by
 have c0:=cc0 h.row
 rw[hsv] at c0
 have c15:=zh6 h.row
 have hlt:=h.row.lt
 have hbs:=zf4
 have hbc:=zhi (x.wn:Int)
 have H:=z2w h
 have HOW:=z2w how
 have HS:=z2w hS
 have HAP:=z2w hap
 clear h hsv how hS hap
 go_enter Tryz.func58,Tryz.ntmps58
 go_upto_region 3 with fail
 obtain⟨w1,hw1⟩:∃w1,(w.alloc (.cells #[.int .u16 2,.int .u32 0,.int .u16 4,.int .u32 x.wn,.int .u16 6,.int .u32 4096] 164)).alloc (.cells #[.int .u16 3,.int .u32 16,.int .u16 6,.int .u32 4096,.int .u16 8,.int .u32 1] 164)=w1:=⟨_,rfl⟩
 have hb1:Below w.heap.size w w1:=by rw[←hw1];exact((Below.refl _ _).alloc (Nat.le_refl _) _).alloc (by simp) _
 have hX1:Row w1 (w.heap.size+1) 164 #[.int .u16 3,.int .u32 16,.int .u16 6,.int .u32 4096,.int .u16 8,.int .u32 1]:=by rw[←hw1];exact Row.made _ _ _ (by simp)
 rw[hw1]
 clear hw1 hbs hbc c0 c15
 have HB:=z2w hb1
 have HX:=z2w hX1
 have H1:=z2w (H.out.below hb1)
 have hS1:=HS.out.below hb1
 have hsnd:=za2 hS1 (by have:=hb1.size;omega) (by simp) (A:=some ⟨w.heap.size+1,0,none⟩) (c:=3) (l:=jr) (Xt hX1) (by decide)
 have c5:=cc5 H1.out.row
 rw[HOW.out] at c5
 have HLS:Hid (∀k,sb g v k→k<w.heap.size):=λk hk=>(HS.out.lts k hk).2
 clear hb1 hX1 hS1 HS HOW
 generalize hp:w.heap.size=p at *
 have HP0:=z2w hp
 clear hp
 go_wp2_with fail
 refine hsnd.mono ?_
 rintro e w2 ⟨rfl,v2,_,hf2,_⟩
 have H2:Hid (Hot w2 c x R L):=H1.out.of_fs hf2 HAP.out
 have hX2:Row w2 (p+1) 164 #[.int .u16 3,.int .u32 16,.int .u16 6,.int .u32 4096,.int .u16 8,.int .u32 1]:=hf2.row (λhk=>by have:=HLS.out _ hk;have:=HP0.out;omega) HX.out
 have hsd:=zbh H2.out hl (stF jr) zcn V9 rfl (dA:=none) (dc:=0) (sA:=some ⟨p+1,0,none⟩) (sc:=3) (q:=0) RdB.nil (Xt hX2)
 rw[zgm] at hsd
 have HF2:Hid (Fs (λk=>jn c x k∨sb g v k) w w2):=(Fs.of_below (by rw[HP0.out];exact HB.out)).trans hf2 λk _ hk=>.inr hk
 clear hf2 hX2 hsnd c5 HB HX H1
 go_wp2_with fail
 refine hsd.mono ?_
 rintro e w3 ⟨rfl,v3,h3⟩
 have HH:=z2w h3
 clear h3 hsd
 go_wp2_with fail
 go_end0
 refine⟨rfl,v3,HH.out.hot,HF2.out.trans HH.out.fs λk _ hk=>.inl hk,λk hk=>(HH.out.new k hk).imp id λh4=>?_⟩
 have:=HF2.out.size
 omega
end
section
theorem Qw{k:Int}(h:k=1∨k=0)(w:World):Calls Tryz.prog 69 #[.int .u8 k] w λe w'=>e=.returned (.bool true)∧w'=w:=by
 have:=zjs k w
 rw[show car k=true from decide_eq_true h] at this
 exact this
theorem Q6{k:Int}(h1:k≠1)(h0:k≠0)(w:World):Calls Tryz.prog 69 #[.int .u8 k] w λe w'=>e=.returned (.bool false)∧w'=w:=by
 have:=zjs k w
 rw[show car k=false from decide_eq_false (by omega)] at this
 exact this
def SdP(p:Int × Bool)(w:World)(e:Ending)(w':World):Prop:=e=.returned (.tuple #[.int .u8 p.1,.bool p.2])∧w'=w
theorem zel(s k:Int)(e:Bool)(w:World):Calls Tryz.prog 34 #[.int .u8 s,.int .u8 k,.bool e] w (SdP (sd s k e) w):=by
 unfold SdP
 by_cases s0:s=0
 ·subst s0
  by_cases k1:k=1
  ·subst k1
   cases e
   ·go_enter Tryz.func34,Tryz.ntmps34
    go_wp2
    go_ret2
    exact⟨rfl,rfl⟩
   ·go_enter Tryz.func34,Tryz.ntmps34
    go_wp2_with fail
    refine(Qw (k:=1) (by omega) _).mono ?_
    rintro e' w1 ⟨rfl,rfl⟩
    go_wp2_with fail
    refine(Xn 0 true _).mono ?_
    rintro e' w1 ⟨rfl,rfl⟩
    go_wp2
    go_ret2
    exact⟨rfl,rfl⟩
  rw[show sd 0 k e=(0,false) by simp[sd,k1]]
  have e1:=je k1
  clear k1
  go_enter Tryz.func34,Tryz.ntmps34
  go_wp2
  go_ret2
  exact⟨rfl,rfl⟩
 by_cases s1:s=1
 ·subst s1
  clear s0
  by_cases k1:k=1
  ·subst k1
   rw[show sd 1 1 e=(Xy 1 e,true) by simp[sd]]
   go_enter Tryz.func34,Tryz.ntmps34
   go_wp2_with fail
   refine(Qw (k:=1) (by omega) _).mono ?_
   rintro e' w1 ⟨rfl,rfl⟩
   go_wp2_with fail
   refine(Xn 1 e _).mono ?_
   rintro e' w1 ⟨rfl,rfl⟩
   go_wp2
   go_ret2
   exact⟨rfl,rfl⟩
  by_cases k0:k=0
  ·subst k0
   rw[show sd 1 0 e=(Xy 1 e,true) by simp[sd]]
   clear k1
   go_enter Tryz.func34,Tryz.ntmps34
   go_wp2_with fail
   refine(Qw (k:=0) (by omega) _).mono ?_
   rintro e' w1 ⟨rfl,rfl⟩
   go_wp2_with fail
   refine(Xn 1 e _).mono ?_
   rintro e' w1 ⟨rfl,rfl⟩
   go_wp2
   go_ret2
   exact⟨rfl,rfl⟩
  by_cases k3:k=3
  ·subst k3
   rw[show sd 1 3 e=(5,true) by simp[sd]]
   clear k1 k0
   go_enter Tryz.func34,Tryz.ntmps34
   go_wp2_with fail
   refine(Q6 (k:=3) (by omega) (by omega) _).mono ?_
   rintro e' w1 ⟨rfl,rfl⟩
   go_wp2
   go_ret2
   exact⟨rfl,rfl⟩
  by_cases k8:k=8
  ·subst k8
   rw[show sd 1 8 e=(1,true) by simp[sd]]
   clear k1 k0 k3
   go_enter Tryz.func34,Tryz.ntmps34
   go_wp2_with fail
   refine(Q6 (k:=8) (by omega) (by omega) _).mono ?_
   rintro e' w1 ⟨rfl,rfl⟩
   go_wp2
   go_ret2
   exact⟨rfl,rfl⟩
  rw[show sd 1 k e=(1,false) by simp[sd,k1,k0,k3,k8]]
  have hc:=Q6 k1 k0
  have e3:=je k3
  have e8:=je k8
  clear k1 k0 k3 k8
  go_enter Tryz.func34,Tryz.ntmps34
  go_wp2_with fail
  refine(hc _).mono ?_
  rintro e' w1 ⟨rfl,rfl⟩
  go_wp2
  go_ret2
  exact⟨rfl,rfl⟩
 by_cases s3:s=3
 ·subst s3
  clear s0 s1
  by_cases k1:k=1
  ·subst k1
   rw[show sd 3 1 e=(Xy 3 e,true) by simp[sd]]
   go_enter Tryz.func34,Tryz.ntmps34
   go_wp2_with fail
   refine(Qw (k:=1) (by omega) _).mono ?_
   rintro e' w1 ⟨rfl,rfl⟩
   go_wp2_with fail
   refine(Xn 3 e _).mono ?_
   rintro e' w1 ⟨rfl,rfl⟩
   go_wp2
   go_ret2
   exact⟨rfl,rfl⟩
  by_cases k0:k=0
  ·subst k0
   rw[show sd 3 0 e=(Xy 3 e,true) by simp[sd]]
   clear k1
   go_enter Tryz.func34,Tryz.ntmps34
   go_wp2_with fail
   refine(Qw (k:=0) (by omega) _).mono ?_
   rintro e' w1 ⟨rfl,rfl⟩
   go_wp2_with fail
   refine(Xn 3 e _).mono ?_
   rintro e' w1 ⟨rfl,rfl⟩
   go_wp2
   go_ret2
   exact⟨rfl,rfl⟩
  by_cases k3:k=3
  ·subst k3
   rw[show sd 3 3 e=(5,true) by simp[sd]]
   clear k1 k0
   go_enter Tryz.func34,Tryz.ntmps34
   go_wp2_with fail
   refine(Q6 (k:=3) (by omega) (by omega) _).mono ?_
   rintro e' w1 ⟨rfl,rfl⟩
   go_wp2
   go_ret2
   exact⟨rfl,rfl⟩
  by_cases k8:k=8
  ·subst k8
   rw[show sd 3 8 e=(3,false) by simp[sd]]
   clear k1 k0 k3
   go_enter Tryz.func34,Tryz.ntmps34
   go_wp2_with fail
   refine(Q6 (k:=8) (by omega) (by omega) _).mono ?_
   rintro e' w1 ⟨rfl,rfl⟩
   go_wp2
   go_ret2
   exact⟨rfl,rfl⟩
  rw[show sd 3 k e=(3,false) by simp[sd,k1,k0,k3,k8]]
  have hc:=Q6 k1 k0
  have e3:=je k3
  have e8:=je k8
  clear k1 k0 k3 k8
  go_enter Tryz.func34,Tryz.ntmps34
  go_wp2_with fail
  refine(hc _).mono ?_
  rintro e' w1 ⟨rfl,rfl⟩
  go_wp2
  go_ret2
  exact⟨rfl,rfl⟩
 by_cases s2:s=2
 ·subst s2
  clear s0 s1 s3
  by_cases k3:k=3
  ·subst k3
   rw[show sd 2 3 e=(5,true) by simp[sd]]
   go_enter Tryz.func34,Tryz.ntmps34
   go_wp2
   go_ret2
   exact⟨rfl,rfl⟩
  by_cases k8:k=8
  ·subst k8
   rw[show sd 2 8 e=(2,true) by simp[sd]]
   clear k3
   go_enter Tryz.func34,Tryz.ntmps34
   go_wp2
   go_ret2
   exact⟨rfl,rfl⟩
  rw[show sd 2 k e=(2,false) by simp[sd,k3,k8]]
  have e3:=je k3
  have e8:=je k8
  clear k3 k8
  go_enter Tryz.func34,Tryz.ntmps34
  go_wp2
  go_ret2
  exact⟨rfl,rfl⟩
 rw[show sd s k e=(s,false) by unfold sd;rw[if_neg s0,if_neg (by omega),if_neg (by omega),decide_eq_false (by omega)]]
 have e0:=je s0
 have e1:=je s1
 have e2:=je s2
 have e3:=je s3
 clear s0 s1 s2 s3
 go_enter Tryz.func34,Tryz.ntmps34
 go_wp2
 go_ret2
 exact⟨rfl,rfl⟩
end
end Go.Proofs.YtooaajnkiokpnaaGreatDoor
