/-
  Part of a proof: A side that is made: its parts lie apart, as each was made behind those before it. No conditions but those that each theorem names. Conditions: those that each theorem names.
-/
import Derived.Test.YtooaajnkiokpnaaGreatDoorQ39
import Derived.Test.YtooaajnkiokpnaaGreatDoorQ31
import Derived.Test.YtooaajnkiokpnaaGreatDoorQ32
import Derived.Test.YtooaajnkiokpnaaGreatDoorQ33
import Derived.Test.YtooaajnkiokpnaaGreatDoorQ36
import Derived.Test.YtooaajnkiokpnaaGreatDoorQ26
import Derived.Test.YtooaajnkiokpnaaGreatDoorQ01
namespace Go.Proofs.YtooaajnkiokpnaaGreatDoor
open Go.RowKit Go.WideShapes
set_option maxHeartbeats 4000000
set_option maxRecDepth 100000
section
theorem zkh:zk 0 0=ftc 0 0:=by unfold zk ftc;rfl
theorem zoh(w:World):Row ((w.alloc (.cells #[.int .u32 0,.bool false,.int .u32 0,.int .u32 0,.int .u32 0,.int .u32 0,.bool false] 59)).alloc (.cells #[.int .u8 0,.int .u32 0] 29)) w.heap.size 59 zS.c∧
  Row ((w.alloc (.cells #[.int .u32 0,.bool false,.int .u32 0,.int .u32 0,.int .u32 0,.int .u32 0,.bool false] 59)).alloc (.cells #[.int .u8 0,.int .u32 0] 29)) (w.heap.size+1) 29 (ftc 0 0)∧
  Below w.heap.size w ((w.alloc (.cells #[.int .u32 0,.bool false,.int .u32 0,.int .u32 0,.int .u32 0,.int .u32 0,.bool false] 59)).alloc (.cells #[.int .u8 0,.int .u32 0] 29)):=
 ⟨by rw[show zS.c=#[.int .u32 0,.bool false,.int .u32 0,.int .u32 0,.int .u32 0,.int .u32 0,.bool false] from by unfold St.c;rfl];exact(Row.new w _ _).alloc _,by rw[z9];exact Row.made _ _ _ (by simp),((Below.refl _ _).alloc (Nat.le_refl _) _).alloc (by simp) _⟩
theorem ZP.owned{w w':World}{z:Zs}{n:St}{v:Value}{L:List St}(h:Sd14 w z)(ho:Sd w' z.B z.ow n v L)(hf:Fs (sb z.ow z.ou) w w')(hn:Nx w z.ou v):ZP w z { z with on:=n,ou:=v,ol:=L } w':=
 ZP.of h (h.1.one .own hf ho (λk hk=>by
  rcases hk with hk|hk
  ·exact .inl (.inl hk)
  ·exact(hn.own hk).imp (λh=>.inr h) id) (λm hm=>by cases m<;>first|rfl|exact absurd rfl hm)) rfl
attribute [local irreducible] Cc.c evc Fm.c knc mtc ftc St.c
theorem zo6{w:World}{z:Zs}(h:Sd14 w z){a:St}{L:List St}(hol:z.ol=a :: L)(hL:L.length≤100000) :
  Calls Tryz.prog 107 #[.pointer (some ⟨z.c,0,none⟩)] w (λx w'=>x=.returned .nilIface∧∃v,ZP w z { z with on:=a,ou:=v,ol:=L } w'):=by
 have c5:w.cell? ⟨z.c,5,none⟩=some (pa0 z.ow):=cc5 h.row
 unfold pa0 at c5
 have hs:Sd w z.B z.ow z.on z.ou (a :: L):=by rw[←hol];exact h.1.ok .own
 have hk:=zp6 hs hL
 have H:=z2w h
 clear h hs hol
 go_enter Tryz.func107,Tryz.ntmps107
 go_wp2_with fail
 refine hk.mono ?_
 rintro x1 w1 ⟨rfl,v,h1,hf1,hn1⟩
 have H1:=z2w (ZP.owned H.out h1 hf1 hn1)
 clear h1 hf1 hn1 hk c5 H
 rw[zkh]
 obtain⟨r2,r3,hb2⟩:=zoh w1
 have R2:=z2w r2
 have R3:=z2w r3
 have r4:=r3.setRow' (k:=w1.heap.size) (by omega) a.c
 have R4:=z2w r4
 have R5:=z2w (r4.setRow (ftc 0 0))
 have HB:=z2w (H1.out.then_below (zd (zd hb2 w1.heap.size a.c (Nat.le_refl _)) (w1.heap.size+1) (ftc 0 0) (by omega)))
 have HAG:=z2w (Zo 0 0)
 clear r2 r3 r4 hb2
 go_upto_region 2 with (first|(refine ze (cs:=a.c) rfl _ _ rfl rfl rfl R2.out (St.sz _ _) (St.ok _) ?_)|(refine ze (cs:=ftc 0 0) rfl _ _ rfl rfl rfl R4.out rfl HAG.out ?_))
 generalize (((w1.alloc (.cells #[.int .u32 0,.bool false,.int .u32 0,.int .u32 0,.int .u32 0,.int .u32 0,.bool false] 59)).alloc (.cells #[.int .u8 0,.int .u32 0] 29)).setRow w1.heap.size a.c).setRow (w1.heap.size+1) (ftc 0 0)=w2 at *
 clear R2 R3 R4
 generalize w1.heap.size+1=q at *
 have hnw:=λW=>Zq 0 0 rfl W
 rw[show (#[.agg #[.int .u8 0,.int .u32 0]]:Array Value)=#[.agg (ftc 0 0)] from by rw[z9];rfl] at hnw
 go_wp2_with (refine zj rfl _ rfl rfl R5.out HAG.out ?_)
 refine(hnw _).mono ?_
 rintro x9 w9 ⟨rfl,hb9⟩
 have H9:=z2w (HB.out.then_below hb9)
 clear hb9 hnw HB R5
 go_wp2_with fail
 go_ret
 exact⟨rfl,v,H9.out⟩
end
section
theorem zy5{w:World}{c:Nat}{x:Cc}(h:Row w c 86 x.c)(n:St):Row (w.setCells c 6 n.c.toList) c 86 ({ x with pe:=n }:Cc).c:=by
 have h1:=ze6 n.c.toList 6 w x.c h
 have h2:zqa x.c 6 n.c.toList=({ x with pe:=n }:Cc).c:=by unfold Cc.c St.c;kernel_rfl
 rw[h2] at h1
 exact h1
theorem zqm{w:World}{c:Nat}{x:Cc}(h:Row w c 86 x.c)(n:St):w.there c 6 n.c.size:=by
 intro j hj
 have hj:j<7:=hj
 refine⟨?_,h.thawed _⟩
 have hs:x.c.size=27:=by unfold Cc.c;rfl
 rw[h.cell (Array.getElem?_eq_getElem (by rw[hs];omega))]
 rfl
theorem zf5{w:World}{c:Nat}{x:Cc}(h:Row w c 86 x.c):w.rangeAt c 6 x.pe.c.toList:=by
 intro j u hj
 refine h.cell ?_
 have hj7:j<7:=(List.getElem?_eq_some_iff.1 hj).1
 obtain rfl|rfl|rfl|rfl|rfl|rfl|rfl:j=0∨j=1∨j=2∨j=3∨j=4∨j=5∨j=6:=by omega
 all_goals (unfold Cc.c;exact hj)
theorem ZP.peer{w:World}{z:Zs}(h:Sd14 w z)(n:St):ZP w z { z with pe:=n } (w.setCells z.c 6 n.c.toList):=
 ZP.of h (h.1.one .row (zqb (S:=(zbf z).fp) (Fs.refl _ _) (λ_=>rfl) _ _) (zy5 h.row n) (λk hk=>.inl hk) (λm hm=>by cases m<;>first|rfl|exact absurd rfl hm)) rfl
theorem ZP.encd{w w':World}{z:Zs}{v:Value}{L:List Fd}{M low:Nat}{lim:Bool}(h:Sd14 w z)(he:En w' z.B z.en z.et v L M lim low)(hf:Fs (EB z.en z.et z.ew) w w')(hn:Nx w z.ew v):ZP w z { z with ew:=v,eL:=L,eM:=M,lim:=lim,low:=low } w':=
 ZP.of h (h.1.one .enc hf he (λk hk=>by
  rcases hk with hk|hk|hk
  ·exact .inl (.inl hk)
  ·exact .inl (.inr (.inl hk))
  ·exact(hn.own hk).imp (λh=>.inr (.inr h)) id) (λm hm=>by cases m<;>first|rfl|exact absurd rfl hm)) rfl
theorem zxa{w:World}{z:Zs}(h:Sd14 w z)(m:Nat)(hm:m≤4096)(hM:z.eM≤4096)(hL:tot z.eL≤z.eM)(hlow:z.low≤4096) :
  Calls Tryz.prog 138 #[.pointer (some ⟨z.en,0,none⟩),.int .u32 (m:Int)] w (ji λw'=>∃v,ZP w z { z with ew:=v,eL:=shr (m:Int) z.eL,eM:=m,lim:=true,low:=V0 z.lim z.low m } w'):=
 (zlj (h.1.ok .enc) m hm hM hL hlow).mono λ_ _ ⟨h1,v,h2,h3,h4⟩=>⟨h1,v,ZP.encd h h2 h3 h4⟩
def akF:Frm:=⟨4,1,0,[],-1,0,0,0,false,0,[]⟩
theorem zl3:akF.Ok:=⟨(by decide:4<256),(by decide:1<256),(by decide:0<4294967296),(by decide:0<256),λs hs=>by cases hs⟩
theorem zg9:akF.May:=by unfold Frm.May;decide +kernel
theorem zz7:({ akF.fm none 0 none 0 with pad:=0 }:Fm).c=#[.int .u8 4,.int .u8 1,.int .u32 0,.slice none 0 0,.int .i64 0,.int .u32 0,.int .u32 0,.int .u8 0,.bool false,.int .u32 0,.slice none 0 0]:=by unfold Fm.c;rfl
def evS:Ev:=⟨5,0,none,0,0,none,0,0,false,0,0,0⟩
theorem zz9:evc evS=#[.int .u8 5,.int .u32 0,.slice none 0 0,.slice none 0 0,.bool false,.int .u32 0,.int .u8 0,.int .u32 0]:=by unfold evc evS;rfl
end
section
def ye(g ga de en ow mt rg m:Nat):Cc:=⟨true,.pointer (some ⟨g,0,none⟩),.pointer (some ⟨ga,0,none⟩),.pointer (some ⟨de,0,none⟩),.pointer (some ⟨en,0,none⟩),.pointer (some ⟨ow,0,none⟩),ju,.slice none 0 0,.pointer (some ⟨mt,0,none⟩),65535,.slice none 0 0,0,.pointer (some ⟨rg,0,none⟩),.map (some m),.slice none 0 0,0,0,false,false,false,false⟩
def z12(w:World)(e:Ending)(w':World):Prop:=∃c g b m ga de en ow mt rg v,e=.returned (.pointer (some ⟨c,0,none⟩))∧Hot w' c { ye g ga de en ow mt rg m with row:=v } (zh (stF jr)) []∧Spl w' g b [] true false∧MapM w' m []∧
 (∀k,jn c { ye g ga de en ow mt rg m with row:=v } k→w.heap.size≤k∧¬gbS g b k)∧¬gbS g b m∧w.heap.size≤g∧w.heap.size≤b∧Below w.heap.size w w'
theorem znd(g ga de en ow mt rg m:Nat):AgOk Tryz.prog 86 (ye g ga de en ow mt rg m).c:=⟨⟨_,Tryz.underlying86⟩,(by kernel_rfl:(Tryz.prog.info? 86).map (·.size)=some 27),by unfold Cc.c ye ju;kernel_rfl⟩
theorem zbr(w:World)(x:Cc):∃w',(w.alloc (.cells #[.bool false,.pointer none,.pointer none,.pointer none,.pointer none,.pointer none,.int .u32 0,.bool false,.int .u32 0,.int .u32 0,.int .u32 0,.int .u32 0,.bool false,.slice none 0 0,.pointer none,.int .u32 0,.slice none 0 0,.int .i64 0,.pointer none,.map none,.slice none 0 0,.int .i64 0,.int .u32 0,.bool false,.bool false,.bool false,.bool false] 86)).setRow w.heap.size x.c=w'∧Row w' w.heap.size 86 x.c∧Below w.heap.size w w'∧Row (w.alloc (.cells #[.bool false,.pointer none,.pointer none,.pointer none,.pointer none,.pointer none,.int .u32 0,.bool false,.int .u32 0,.int .u32 0,.int .u32 0,.int .u32 0,.bool false,.slice none 0 0,.pointer none,.int .u32 0,.slice none 0 0,.int .i64 0,.pointer none,.map none,.slice none 0 0,.int .i64 0,.int .u32 0,.bool false,.bool false,.bool false,.bool false] 86)) w.heap.size 86 #[.bool false,.pointer none,.pointer none,.pointer none,.pointer none,.pointer none,.int .u32 0,.bool false,.int .u32 0,.int .u32 0,.int .u32 0,.int .u32 0,.bool false,.slice none 0 0,.pointer none,.int .u32 0,.slice none 0 0,.int .i64 0,.pointer none,.map none,.slice none 0 0,.int .i64 0,.int .u32 0,.bool false,.bool false,.bool false,.bool false]:=
 ⟨_,rfl,(Row.new w _ _).setRow _,zd ((Below.refl _ _).alloc (Nat.le_refl _) _) _ _ (Nat.le_refl _),Row.new w _ _⟩
theorem zdb(x:Cc):x.c.size=27:=by unfold Cc.c;rfl
attribute [local irreducible] Cc.c evc Fm.c St.c
theorem zrq(w:World)(hG:GlobE w):Calls Tryz.prog 23 #[.bool true,.int .u32 0] w (z12 w):=by
 have hn:=zdz w true hG
 go_enter Tryz.func23,Tryz.ntmps23
 go_wp2_with fail
 refine hn.mono ?_
 rintro e w1 ⟨g,rfl,b,h1,hg,hb,hb1⟩
 have HS:Hid (Spl w1 g b [] true false):=by show Spl _ _ _ _ _ _;have:=h1.spl;rwa [Vi] at this
 have HB:=z2w hb1
 clear h1 hb1 hn hG
 go_wp2_with fail
 refine(zv1 _).mono ?_
 rintro e w2 ⟨ga,rfl,_,hb2⟩
 have HS2:=z2w (HS.out.below hb2)
 have HB2:=z2w (HB.out.trans (hb2.mono HB.out.size))
 clear hb2 HS HB
 go_wp2_with fail
 refine(zxb _).mono ?_
 rintro e w3 ⟨de,rfl,_,hb3⟩
 have HS3:=z2w (HS2.out.below hb3)
 have HB3:=z2w (HB2.out.trans (hb3.mono HB2.out.size))
 clear hb3 HS2 HB2
 go_wp2_with fail
 refine(zxq _).mono ?_
 rintro e w4 ⟨en,rfl,_,hb4⟩
 have HS4:=z2w (HS3.out.below hb4)
 have HB4:=z2w (HB3.out.trans (hb4.mono HB3.out.size))
 have HB4S:=z2w HB4.out.size
 clear hb4 HS3 HB3
 go_wp2_with fail
 refine(za5 _).mono ?_
 rintro e w5 ⟨ow,rfl,hsd,hb5⟩
 have HS5:=z2w (HS4.out.below hb5)
 have HB5:=z2w (HB4.out.trans (hb5.mono HB4.out.size))
 have HD5:=z2w hsd
 clear hb5 HS4 HB4 hsd
 go_wp2_with fail
 refine(Y6 _).mono ?_
 rintro e w6 ⟨rfl,hb6⟩
 have HS6:=z2w (HS5.out.below hb6)
 have HB6:=z2w (HB5.out.trans (hb6.mono HB5.out.size))
 have HD6:=z2w (HD5.out.below hb6)
 clear hb6 HS5 HB5 HD5
 go_wp2_with fail
 refine(V6 (n:=65535) (by omega) false _).mono ?_
 rintro e w7 ⟨mt,rfl,_,hb7,_⟩
 have HS7:=z2w (HS6.out.below hb7)
 have HB7:=z2w (HB6.out.trans (hb7.mono HB6.out.size))
 have HD7:=z2w (HD6.out.below hb7)
 clear hb7 HS6 HB6 HD6
 go_wp2_with fail
 refine(zr3 _).mono ?_
 rintro e w8 ⟨rg,rfl,_,hb8⟩
 have HS8:=z2w (HS7.out.below hb8)
 have HB8:=z2w (HB7.out.trans (hb8.mono HB7.out.size))
 have HD8:=z2w (HD7.out.below hb8)
 clear hb8 HS7 HB7 HD7
 have hmk:=Xh
 have hM:=MapM.new w8
 have hmb:Below w8.heap.size w8 (w8.alloc (.map #[] 0)):=(Below.refl _ _).alloc (Nat.le_refl _) _
 have hms:(w8.alloc (.map #[] 0)).heap.size=w8.heap.size+1:=by simp
 obtain⟨wc,hwc,t1,t2,t3⟩:=zbr (w8.alloc (.map #[] 0)) (ye g ga de en ow mt rg w8.heap.size)
 rw[hms] at hwc t1 t3
 have HWC:=z2w hwc
 have T1:=z2w t1
 have T3:=z2w t3
 have HSC:=z2w (HS8.out.below (hmb.trans (t2.mono (by omega))))
 have HBC:=z2w (HB8.out.trans ((hmb.trans (t2.mono (by omega))).mono HB8.out.size))
 have HDC:=z2w (HD8.out.below (hmb.trans (t2.mono (by omega))))
 have HMC:=z2w (hM.below t2)
 have hsz:=zdb (ye g ga de en ow mt rg w8.heap.size)
 have HSZ:=z2w hsz
 have hls:=HS8.out.lts
 have HBD:Hid (w.heap.size≤ow):=by show _≤_;have h1:=HD8.out.gl;have h2:=HB4S.out;omega
 have how:=HD8.out.row.lt
 have hbw:=HB8.out.size
 have hb4:=HD8.out.gl
 clear hwc t1 t2 t3 hmb hms hM HS8 HB8 HD8 hsz
 go_upto_region 2 with (first|(refine zn rfl 86 _ rfl (ye g ga de en ow mt rg w8.heap.size).c (by kernel_rfl) ?_)|(refine ze rfl _ _ rfl rfl rfl T3.out (by rw[HSZ.out];rfl) (znd _ _ _ _ _ _ _ _) ?_))
 rw[HWC.out]
 clear HWC T3 HSZ hmk
 generalize w8.heap.size=m at *
 have hH:Hot wc (m+1) (ye g ga de en ow mt rg m) [] []:=⟨T1.out,Bo.nil,EvL.nil _⟩
 have hF0:∀k,jn (m+1) (ye g ga de en ow mt rg m) k→k=m+1:=λk hk=>by
  rcases hk with hk|hk|hk
  ·exact hk
  ·simp[ye,ob,Value.ownBlock] at hk
  ·simp[ye,ob,Value.ownBlock] at hk
 have hsb0:∀k,sb ow (.slice none 0 0) k→k=ow:=λk hk=>by
  rcases hk with hk|hk
  ·exact hk
  ·simp[ob,Value.ownBlock] at hk
 have hst:=zpi hH (by simp) rfl rfl HDC.out (by have:=HDC.out.row.lt;have:=T1.out.lt;omega) (λk h1 h2=>by have:=hF0 k h1;have:=hsb0 k h2;omega)
 have c0:=cc0 T1.out
 have H0:Hid (wc.cell? ⟨m+1,0,none⟩=some (.bool true)):=c0
 have HST:=z2w hst
 have HF0:=z2w hF0
 have HSB:=z2w hsb0
 clear hst hH hF0 hsb0 c0
 go_wp2_with fail
 refine HST.out.mono ?_
 rintro e w9 ⟨rfl,v,h9,hf9,hn9⟩
 have HH:=z2w h9
 have hgS:¬(jn (m+1) (ye g ga de en ow mt rg m) g∨sb ow (.slice none 0 0) g):=λh=>by
  rcases h with h|h
  ·have:=HF0.out _ h;omega
  ·have:=HSB.out _ h
   subst this
   rcases HSC.out with ⟨_,fi,la,L,hG,_⟩|⟨h0,_⟩
   ·exact Jd hG.row HDC.out.row (by decide) rfl
   ·cases h0
 have hbS:¬(jn (m+1) (ye g ga de en ow mt rg m) b∨sb ow (.slice none 0 0) b):=λh=>by
  rcases h with h|h
  ·have:=HF0.out _ h;omega
  ·have:=HSB.out _ h
   subst this
   rcases HSC.out with ⟨_,fi,la,L,hG,_⟩|⟨h0,_⟩
   ·exact Jd hG.buf HDC.out.row (by decide) rfl
   ·cases h0
 have hmS:¬(jn (m+1) (ye g ga de en ow mt rg m) m∨sb ow (.slice none 0 0) m):=λh=>by
  rcases h with h|h
  ·have:=HF0.out _ h;omega
  ·have:=HSB.out _ h;omega
 have HSP:=z2w (HSC.out.fs hf9 hgS hbS)
 have HMP:=z2w (HMC.out.fs hf9 hmS)
 have HBP:=z2w (HBC.out.trans (hf9.below (B:=w.heap.size) (λk hk _=>by
  rcases hk with hk|hk
  ·have:=HF0.out _ hk;omega
  ·have:=HSB.out _ hk
   have:=HBD.out
   omega) HBC.out.size))
 have HN:Hid (∀k,jn (m+1) { ye g ga de en ow mt rg m with row:=v } k→w.heap.size≤k∧¬gbS g b k):=λk hk=>by
  rcases hn9 k hk with h|h
  ·have:=HF0.out _ h
   exact⟨by omega,λh=>by rcases h with h|h<;>omega⟩
  ·have:=T1.out.lt
   exact⟨by omega,λh=>by rcases h with h|h<;>omega⟩
 clear h9 hf9 hn9 hgS hbS hmS
 go_wp2_with fail
 go_ret
 exact⟨m+1,g,b,m,ga,de,en,ow,mt,rg,v,rfl,HH.out,HSP.out,HMP.out,HN.out,λh=>by rcases h with h|h<;>omega,hg,hb,HBP.out⟩
end
section
def Zs.sett(z:Zs)(now:St)(m':Rm)(ew rv ev:Value)(F':Nat→Prop):Zs:=
 { z with pe:=now,rm:=m',rF:=F',ew:=ew,eL:=shr (now.tb:Int) z.eL,eM:=now.tb,lim:=true,low:=V0 z.lim z.low now.tb,rep:=z.rep+1,row:=rv,R:=z.R++zh akF,ev:=ev,es:=z.es++[evS] }
def z1e(w:World)(z:Zs)(now:St)(m':Rm)(x:Ending)(w':World):Prop:=x=.returned .nilIface∧∃ew rv ev F',ZP w z (z.sett now m' ew rv ev F') w'
theorem zx7(w:World)(s:St):∃w',(w.alloc (.cells #[.int .u32 0,.bool false,.int .u32 0,.int .u32 0,.int .u32 0,.int .u32 0,.bool false] 59)).setRow w.heap.size s.c=w'∧
  Row (w.alloc (.cells #[.int .u32 0,.bool false,.int .u32 0,.int .u32 0,.int .u32 0,.int .u32 0,.bool false] 59)) w.heap.size 59 zS.c∧Row w' w.heap.size 59 s.c∧Below w.heap.size w w'∧w'.heap.size=w.heap.size+1:=by
 have h1:Row (w.alloc (.cells #[.int .u32 0,.bool false,.int .u32 0,.int .u32 0,.int .u32 0,.int .u32 0,.bool false] 59)) w.heap.size 59 zS.c:=by rw[show zS.c=#[.int .u32 0,.bool false,.int .u32 0,.int .u32 0,.int .u32 0,.int .u32 0,.bool false] from by unfold St.c;rfl];exact Row.new w _ _
 exact⟨_,rfl,h1,h1.setRow _,zd ((Below.refl _ _).alloc (Nat.le_refl _) _) _ _ (Nat.le_refl _),by simp⟩
theorem td0:tdc 0=ftc 0 0:=by unfold tdc;rw[if_pos rfl];unfold zy ftc;rfl
theorem sgG:enl zbk=enl sgc:=rfl
attribute [local irreducible] Cc.c evc Fm.c knc mtc ftc St.c
theorem zu3{w:World}{z:Zs}(h:Sd14 w z)(X:Fm){l:List (Nat × Nat)}(hXn:X.sn=l.length)(hR:RdS w (λk=>k<w.heap.size) X.sA (enl sgc l))(hll:l.length≤1000000){now:St}(hap:apN z.pe z.pe l=(now,0)){m':Rm}(hsh:Yh z.rm ((now.wn:Int)-z.pe.wn)=(m',0))(hpw:z.pe.wn<4294967296)(hnw:now.wn<4294967296)(hrm:z.rm.Ok)(hsm:z.rm.Sm)
  (htb:now.tb≤4096) (hM:z.eM≤4096) (hL:tot z.eL≤z.eM) (hlow:z.low≤4096) (hl:z.R.length≤100000000000) (hrp:z.rep≤1000000000) (hes:z.es.length≤100000) :
  Calls Tryz.prog 108 #[.pointer (some ⟨z.c,0,none⟩),.agg X.c] w (z1e w z now m'):=by
 have hb1:Below w.heap.size w (w.alloc (.cells X.c 66)):=(Below.refl _ _).alloc (Nat.le_refl _) _
 have HX1:Hid (Row (w.alloc (.cells X.c 66)) w.heap.size 66 X.c):=Row.new w _ _
 have H1:=z2w (ZP.of_below h hb1)
 have HPN:Hid (∀k,zi z.ps k→k<w.heap.size):=λk hk=>h.1.lt hk
 have HQ5:Hid (w.heap.size<(w.alloc (.cells X.c 66)).heap.size):=HX1.out.lt
 have HR1:Hid (RdS (w.alloc (.cells X.c 66)) (λk=>k<w.heap.size) X.sA (enl sgc l)):=hR.below hb1
 clear h hb1 hR
 go_enter Tryz.func108,Tryz.ntmps108
 go_upto_region 1 with fail
 have hpz:w.heap.size<(w.alloc (.cells X.c 66)).heap.size:=HX1.out.lt
 generalize w.alloc (.cells X.c 66)=w1 at *
 obtain⟨w2,hw2,s0,s1,hb2,hs2⟩:=zx7 w1 z.pe
 have S0:=z2w s0
 have S1:=z2w s1
 have HW2:=z2w hw2
 have HPE:Hid (w1.rangeAt z.c 6 z.pe.c.toList):=zf5 H1.out.sd.row
 have HPE':Hid ((w1.alloc (.cells #[.int .u32 0,.bool false,.int .u32 0,.int .u32 0,.int .u32 0,.int .u32 0,.bool false] 59)).rangeAt z.c 6 z.pe.c.toList):=zf5 (H1.out.sd.below ((Below.refl _ _).alloc (Nat.le_refl _) _)).row
 have H2:=z2w (H1.out.then_below hb2)
 have HX2:=z2w (HX1.out.below hb2 HX1.out.lt)
 have HR2:Hid (RdS w2 (λk=>k<w.heap.size) X.sA (enl sgc l)):=HR1.out.below (hb2.mono (Nat.le_of_lt hpz))
 clear s0 s1 hw2
 go_upto_region 2 with (first|(refine xn (cs:=z.pe.c) rfl _ rfl rfl HPE.out (St.ok _) ?_)|(refine xn (cs:=z.pe.c) rfl _ rfl rfl HPE'.out (St.ok _) ?_)|(refine ze (cs:=z.pe.c) rfl _ _ rfl rfl rfl S0.out (St.sz _ _) (St.ok _) ?_))
 rw[HW2.out]
 clear S0 HPE HPE' HW2 HX1 HR1 hb2
 obtain⟨p,hp⟩:∃p,w.heap.size=p:=⟨_,rfl⟩
 rw[hp] at HX2 HR2 hpz HPN HQ5 ⊢
 generalize w1.heap.size=q5 at *
 have hq:q5<w2.heap.size:=S1.out.lt
 have f10:w2.cell? ⟨p,10,none⟩=some (.slice X.sA l.length X.sc):=HX2.out.cell (by unfold Fm.c;rw[hXn];rfl)
 have hpl:=HX2.out.lt
 have hapl:=ze3 (c:=X.sc) z.pe (l:=l) (w:=w2) (A:=X.sA) (by rw[sgG];exact HR2.out.imp λk hk hl=>hl) (by omega)
 rw[hap] at hapl
 go_wp2_with (refine zj rfl _ rfl rfl S1.out (St.ok _) ?_)
 refine hapl.mono ?_
 rintro x3 w3 ⟨rfl,hb3⟩
 have H3:=z2w (H2.out.then_below hb3)
 have S3:=z2w (S1.out.below hb3 S1.out.lt)
 clear f10 hapl HR2 HX2
 rw[show (zk (if (0:Nat)=0 then 0 else 1) 0)=ftc 0 0 from by rw[if_pos rfl];exact zkh]
 obtain⟨r2,r3,hb4⟩:=zoh w3
 have R2:=z2w r2
 have r4:=r3.setRow' (k:=w3.heap.size) (by omega) now.c
 have R4:=z2w r4
 have hb5:=zd (zd hb4 w3.heap.size now.c (Nat.le_refl _)) (w3.heap.size+1) (ftc 0 0) (by omega)
 have R5:=z2w (r4.setRow (ftc 0 0))
 have R6:=z2w ((r2.setRow now.c).setRow' (k:=w3.heap.size+1) (by omega) (ftc 0 0))
 have H4:=z2w (H3.out.then_below hb5)
 have S4:=z2w (S3.out.below hb5 S3.out.lt)
 have HAG:=z2w (Zo 0 0)
 have hq3:w2.heap.size≤w3.heap.size:=hb3.size
 clear r2 r3 r4 hb4 hb5 hb3 S3 S1 H2 H3
 go_upto_region 3 with (first|(refine ze (cs:=now.c) rfl _ _ rfl rfl rfl R2.out (St.sz _ _) (St.ok _) ?_)|(refine ze (cs:=ftc 0 0) rfl _ _ rfl rfl rfl R4.out rfl HAG.out ?_))
 generalize (((w3.alloc (.cells #[.int .u32 0,.bool false,.int .u32 0,.int .u32 0,.int .u32 0,.int .u32 0,.bool false] 59)).alloc (.cells #[.int .u8 0,.int .u32 0] 29)).setRow w3.heap.size now.c).setRow (w3.heap.size+1) (ftc 0 0)=w4 at *
 clear R2 R4
 generalize w3.heap.size+1=q7 at *
 generalize w3.heap.size=q6 at *
 have hnw0:=λW=>Zq 0 0 rfl W
 rw[show (#[.agg #[.int .u8 0,.int .u32 0]]:Array Value)=#[.agg (ftc 0 0)] from by rw[z9];rfl] at hnw0
 go_wp2_with (refine zj rfl _ rfl rfl R5.out HAG.out ?_)
 refine(hnw0 _).mono ?_
 rintro x9 w9 ⟨rfl,hb9⟩
 have H9:=z2w (H4.out.then_below hb9)
 have S9:=z2w (S4.out.below hb9 S4.out.lt)
 have R9:=z2w (R6.out.below hb9 R6.out.lt)
 clear hb9 S4 R6 R5 H4
 go_upto_region 6 with fail
 have HN5:Hid (¬zi z.ps q5∧¬zi z.ps q6):=⟨λhk=>by have:=HPN.out _ hk;omega,λhk=>by have:=HPN.out _ hk;omega⟩
 have HL5:Hid (q5<w9.heap.size∧q6<w9.heap.size):=⟨S9.out.lt,R9.out.lt⟩
 have hpe:=ZP.peer H9.out.sd now
 have hth:=zqm H9.out.sd.row now
 have S10:=z2w (hpe.fs.row HN5.out.1 S9.out)
 have R10:=z2w (hpe.fs.row HN5.out.2 R9.out)
 have H10:=z2w hpe
 clear hpe
 go_upto_region 7 with (first|(refine zj rfl _ rfl rfl R9.out (St.ok _) ?_)|(refine zko (cs:=now.c) rfl _ _ rfl rfl rfl hth (St.ok _) ?_))
 clear hth S9 R9
 generalize w9.setCells z.c 6 now.c.toList=w10 at *
 have c18:w10.drew.cell? ⟨z.c,18,none⟩=some (pa0 z.rg):=Vz H10.out.sd.row
 unfold pa0 at c18
 have s3:w10.drew.cell? ⟨q5,3,none⟩=some (.int .u32 (z.pe.wn:Int)):=S10.out.cell (by unfold St.c;rfl)
 have r3:w10.drew.cell? ⟨q6,3,none⟩=some (.int .u32 (now.wn:Int)):=R10.out.cell (by unfold St.c;rfl)
 have HD:=z2w (H10.out.then_below ((Below.refl _ _).drew))
 have SD:Hid (Row w10.drew q5 59 z.pe.c):=S10.out
 have RD:Hid (Row w10.drew q6 59 now.c):=R10.out
 clear S10 R10 H10
 refine wp_region_held_drew (S:=λw'=>w'.cell? ⟨z.c,18,none⟩=some (.pointer (some ⟨z.rg,0,none⟩))∧w'.cell? ⟨q5,3,none⟩=some (.int .u32 (z.pe.wn:Int))∧w'.cell? ⟨q6,3,none⟩=some (.int .u32 (now.wn:Int))) (by kernel_rfl) ⟨c18,s3,r3⟩ (λhHeld=>?_)
 generalize w10.drew=w11 at *
 refine tkH 0 ?_
 refine tkH 1 ?_
 refine tkH 2 ?_
 refine tkH 3 ?_
 refine tkH 4 ?_
 refine tkH 5 ?_
 refine tkH 6 ?_
 refine tkH 7 ?_
 refine rdH 8 λK hK=>?_
 go_simp
 go_at_call 137
 have hsf:=zk3 (HD.out.sd.1.ok .rg) hrm hsm z.pe.wn now.wn hpw hnw
 rw[hsh] at hsf
 refine hsf.mono ?_
 rintro x12 w12 ⟨rfl,F',hT,hF,hn⟩
 have hrg:=ZP.ring HD.out.sd hT hF hn
 have H12:Hid (ZP w9 z { z with pe:=now,rm:=m',rF:=F' } w12):=HD.out.trans hrg
 have hn5:¬zi ({ z with pe:=now }:Zs).ps q5∧¬zi ({ z with pe:=now }:Zs).ps q6:=⟨λhk=>(HD.out.new _ hk).elim HN5.out.1 λh=>by have:=HL5.out.1;omega,λhk=>(HD.out.new _ hk).elim HN5.out.2 λh=>by have:=HL5.out.2;omega⟩
 have S12:=z2w (hrg.fs.row hn5.1 SD.out)
 have R12:=z2w (hrg.fs.row hn5.2 RD.out)
 clear hsf hT hF hn hrg hn5 HD SD RD hHeld c18 s3 r3
 have c18:w12.cell? ⟨z.c,18,none⟩=some (pa0 z.rg):=Vz H12.out.sd.row
 unfold pa0 at c18
 have s3:w12.cell? ⟨q5,3,none⟩=some (.int .u32 (z.pe.wn:Int)):=S12.out.cell (by unfold St.c;rfl)
 have r3:w12.cell? ⟨q6,3,none⟩=some (.int .u32 (now.wn:Int)):=R12.out.cell (by unfold St.c;rfl)
 refine hK.out _ _ ⟨c18,s3,r3⟩ (λhHeld=>?_)
 clear hK K
 try refine ptk ?_
 refine rdH 9 λK hK=>?_
 go_simp
 go_at_call 65
 rw[td0]
 refine(hnw0 _).mono ?_
 rintro x13 w13 ⟨rfl,hb13⟩
 have H13:=z2w (H12.out.then_below hb13)
 have R13:=z2w (R12.out.below hb13 R12.out.lt)
 have S13:=z2w (S12.out.below hb13 S12.out.lt)
 have c18':w13.cell? ⟨z.c,18,none⟩=some (pa0 z.rg):=Vz H13.out.sd.row
 unfold pa0 at c18'
 have s3':w13.cell? ⟨q5,3,none⟩=some (.int .u32 (z.pe.wn:Int)):=S13.out.cell (by unfold St.c;rfl)
 have r3':w13.cell? ⟨q6,3,none⟩=some (.int .u32 (now.wn:Int)):=R13.out.cell (by unfold St.c;rfl)
 clear hb13 H12 R12 S12 hHeld c18 s3 r3 hnw0
 refine hK.out _ _ ⟨c18',s3',r3'⟩ (λhHeld=>?_)
 clear hK K
 try refine ptk ?_
 refine tkH 10 ?_
 refine dnH ?_
 clear hHeld c18' s3' r3' S13
 go_upto_region 10 with fail
 have c4:w13.drew.cell? ⟨z.c,4,none⟩=some (pa0 z.en):=cc4 H13.out.sd.row
 unfold pa0 at c4
 have r0:w13.drew.cell? ⟨q6,0,none⟩=some (.int .u32 (now.tb:Int)):=R13.out.cell (by unfold St.c;rfl)
 have HD:=z2w (H13.out.then_below ((Below.refl _ _).drew))
 have RD:Hid (Row w13.drew q6 59 now.c):=R13.out
 clear R13 H13
 refine wp_region_held_drew (S:=λw'=>w'.cell? ⟨z.c,4,none⟩=some (.pointer (some ⟨z.en,0,none⟩))∧w'.cell? ⟨q6,0,none⟩=some (.int .u32 (now.tb:Int))) (by kernel_rfl) ⟨c4,r0⟩ (λhHeld=>?_)
 generalize w13.drew=w14 at *
 refine tkH 0 ?_
 refine tkH 1 ?_
 refine tkH 2 ?_
 refine tkH 3 ?_
 refine tkH 4 ?_
 refine tkH 5 ?_
 refine rdH 6 λK hK=>?_
 go_simp
 go_at_call 138
 refine(zxa HD.out.sd now.tb htb hM hL hlow).mono ?_
 rintro x15 w15 ⟨rfl,ew,h15⟩
 have hn6:¬zi ({ z with pe:=now,rm:=m',rF:=F' }:Zs).ps q6:=λhk=>(HD.out.new _ hk).elim HN5.out.2 λh=>by have:=HL5.out.2;omega
 have R15:=z2w (h15.fs.row hn6 RD.out)
 have H15:=z2w (HD.out.trans h15)
 have c4':w15.cell? ⟨z.c,4,none⟩=some (pa0 z.en):=cc4 H15.out.sd.row
 unfold pa0 at c4'
 have r0':w15.cell? ⟨q6,0,none⟩=some (.int .u32 (now.tb:Int)):=R15.out.cell (by unfold St.c;rfl)
 clear h15 hn6 HD RD hHeld c4 r0
 refine hK.out _ _ ⟨c4',r0'⟩ (λhHeld=>?_)
 clear hK K
 try refine ptk ?_
 refine dnH ?_
 clear hHeld c4' r0' R15
 have hre:=zjg H15.out.sd hl hrp akF zl3 zg9 rfl (dA:=none) (sA:=none) (dc:=0) (sc:=0) (q:=0) rfl RdS.nil RdS.nil
 rw[zz7] at hre
 go_wp2_with fail
 refine hre.mono ?_
 rintro x16 w16 ⟨rfl,rv,h16⟩
 have H16:=z2w (H15.out.trans h16)
 have hte:=zhj h16.sd hes evS
 rw[zz9] at hte
 clear h16 hre H15
 go_wp2_with fail
 refine hte.mono ?_
 rintro x17 w17 ⟨rfl,ev,h17⟩
 have H17:Hid (ZP w z (z.sett now m' ew rv ev F') w17):=H9.out.trans (H16.out.trans h17)
 clear h17 hte H16 H9
 go_wp2_with fail
 go_ret
 exact⟨rfl,ew,rv,ev,F',H17.out⟩
end
section
def ja(n:Nat):List (Nat × Nat):=[(2,0),(4,n),(6,4096)]
theorem zgx{n:Nat}(h:n<4294967296):(stF (ja n)).Ok:=⟨(by decide:4<256),(by decide:0<256),(by decide:0<4294967296),(by decide:0<256),λs hs=>by
 have hs:s∈ja n:=hs
 simp only[ja,List.mem_cons,List.not_mem_nil,or_false] at hs
 rcases hs with rfl|rfl|rfl
 ·decide
 ·exact⟨by show 4<65536;decide,h⟩
 ·decide⟩
theorem zdk(n:Nat):(stF (ja n)).May:=by show zmc 4 0 0 0 (-1) 0 0 0 false 0 3;decide +kernel
theorem zd8{w:World}{b n:Nat}(h:Row w b 164 #[.int .u16 2,.int .u32 0,.int .u16 4,.int .u32 n,.int .u16 6,.int .u32 4096]):RdS w (·<w.heap.size) (some ⟨b,0,none⟩) (enl sgc (ja n)):=λ_=>⟨b,0,rfl,h.lt,λj u hj=>by
 rw[Nat.zero_add]
 exact h.cell (by simpa [enl,ja,sgc] using hj)⟩
def Zs.told(z:Zs)(l:List (Nat × Nat))(ou rv:Value):Zs:={ z with ou:=ou,ol:=(Jw z.on z.ol l).1,row:=rv,R:=z.R++zh (stF l) }
attribute [local irreducible] Cc.c evc Fm.c St.c knc mtc
theorem ziv{w:World}{z:Zs}(h:Sd14 w z)(hsv:z.srv=true)(hwn:z.wn<4294967296)(hl:z.R.length≤100000000000)(hol:z.ol.length≤100000) :
  Calls Tryz.prog 58 #[.pointer (some ⟨z.c,0,none⟩)] w (ji λw'=>∃ou rv,ZP w z (z.told jr ou rv) w'):=by
 have c0:w.cell? ⟨z.c,0,none⟩=some (.bool z.srv):=cc0 h.row
 rw[hsv] at c0
 have c15:w.cell? ⟨z.c,15,none⟩=some (.int .u32 (z.wn:Int)):=zh6 h.row
 have hlt:=h.row.lt
 have hbs:=zf4
 have hbc:=zhi (z.wn:Int)
 have H:=z2w h
 have HPN:Hid (∀k,zi z.ps k→k<w.heap.size):=λk hk=>h.1.lt hk
 clear h hsv
 go_enter Tryz.func58,Tryz.ntmps58
 go_upto_region 3 with fail
 obtain⟨w1,hw1⟩:∃w1,(w.alloc (.cells #[.int .u16 2,.int .u32 0,.int .u16 4,.int .u32 z.wn,.int .u16 6,.int .u32 4096] 164)).alloc (.cells #[.int .u16 3,.int .u32 16,.int .u16 6,.int .u32 4096,.int .u16 8,.int .u32 1] 164)=w1:=⟨_,rfl⟩
 have hb1:Below w.heap.size w w1:=by rw[←hw1];exact((Below.refl _ _).alloc (Nat.le_refl _) _).alloc (by simp) _
 have hX1:Row w1 (w.heap.size+1) 164 #[.int .u16 3,.int .u32 16,.int .u16 6,.int .u32 4096,.int .u16 8,.int .u32 1]:=by rw[←hw1];exact Row.made _ _ _ (by simp)
 rw[hw1]
 clear hw1 hbs hbc c0 c15
 have H1:=z2w (ZP.of_below H.out hb1)
 have hsd:Sd w1 z.B z.ow z.on z.ou z.ol:=H1.out.sd.1.ok .own
 have hsnd:=za2 hsd H1.out.sd.size hol (A:=some ⟨(w.heap.size+1),0,none⟩) (c:=3) (l:=jr) (Xt hX1) (by show (3:Nat)≤1000000000000;decide)
 have c5:w1.cell? ⟨z.c,5,none⟩=some (pa0 z.ow):=cc5 H1.out.sd.row
 unfold pa0 at c5
 have HX:=z2w hX1
 have hq:¬zi z.ps ((w.heap.size+1)):=λhk=>by have:=HPN.out _ hk;omega
 clear hb1 hX1 hsd H hlt HPN
 generalize (w.heap.size+1)=q at *
 go_wp2_with fail
 refine hsnd.mono ?_
 rintro e w2 ⟨rfl,ou,h2,hf2,hn2⟩
 have hzp:=ZP.owned H1.out.sd h2 hf2 hn2
 have hX2:=hzp.fs.row hq HX.out
 have H2:=z2w (H1.out.trans hzp)
 have hse:=zhr hzp.sd hl (stF (jr)) (zcn) (V9) rfl (dA:=none) (dc:=0) (sA:=some ⟨q,0,none⟩) (sc:=3) (q:=0) RdB.nil (Xt hX2)
 rw[zgm] at hse
 clear h2 hf2 hn2 hzp hX2 hsnd c5 HX H1
 go_wp2_with fail
 refine hse.mono ?_
 rintro e w3 ⟨rfl,rv,h3⟩
 have H3:Hid (ZP w z (z.told jr ou rv) w3):=H2.out.trans h3
 clear h3 hse H2
 go_wp2_with fail
 go_end0
 exact⟨rfl,ou,rv,H3.out⟩
end
section
def qj(srv:Bool)(B c g b ga de dt en et ow mt wn rg sm:Nat)(F:Nat→Prop):Zs where
 B:=B
 c:=c
 srv:=srv
 g:=g
 b:=b
 l:=[]
 wt:=srv
 bad:=false
 ga:=ga
 gm:=gm0
 gA:=none
 gc:=0
 gr:=none
 de:=de
 dt:=dt
 dv:=.slice none 0 0
 dL:=[]
 dM:=4096
 en:=en
 et:=et
 ew:=.slice none 0 0
 eL:=[]
 eM:=4096
 lim:=false
 low:=0
 ow:=ow
 on:=ju
 ou:=.slice none 0 0
 ol:=[]
 pe:=ju
 ev:=.slice none 0 0
 es:=[]
 mt:=mt
 mz:=65535
 ml:=65535
 mu:=0
 wn:=wn
 row:=.slice none 0 0
 R:=[]
 rep:=0
 rg:=rg
 rF:=F
 rm:=Jx 65535
 sm:=sm
 ss:=[]
 ov:=.slice none 0 0
 ol2:=[]
 lv:=0
 la:=0
 be:=false
 aw:=false
 pa:=false
 go:=false
theorem Xb(k:Nat):¬ob (.slice none 0 0) k:=λh=>by cases h
def rgP(s:Nat→Nat):Pt→Nat × Nat
 |.spl=>(s 0,s 1)
 |.gat=>(s 1,s 2)
 |.dec=>(s 2,s 3)
 |.enc=>(s 3,s 4)
 |.own=>(s 4,s 5)
 |.mt=>(s 5,s 6)
 |.rg=>(s 6,s 7)
 |.sm=>(s 7,s 8)
 |.row=>(s 8,s 9)
 |.ev=>(1,0)
 |.out=>(1,0)
 |.ov=>(1,0)
theorem Sd14.made{w:World}{srv:Bool}{B c g b ga de dt en et ow mt wn rg sm:Nat}{F:Nat→Prop}(s:Nat→Nat)(h0:0<B)(hB:B≤s 0)(h1:s 0≤s 1)(h2:s 1≤s 2)(h3:s 2≤s 3)(h4:s 3≤s 4)(h5:s 4≤s 5)(h6:s 5≤s 6)(h7:s 6≤s 7)(h8:s 7≤s 8)
  (hspl:Spl w g b [] srv false) (rspl:(s 0≤g∧g<s 1)∧s 0≤b∧b<s 1) (hgat:Ga w B ga gm0 none 0 none) (rgat:s 1≤ga∧ga<s 2) (hdec:Dn w B de dt (.slice none 0 0) [] 4096 4096) (rdec:(s 2≤de∧de<s 3)∧s 2≤dt∧dt<s 3)
  (henc:En w B en et (.slice none 0 0) [] 4096 false 0) (renc:(s 3≤en∧en<s 4)∧s 3≤et∧et<s 4) (hown:Sd w B ow ju (.slice none 0 0) []) (rown:s 4≤ow∧ow<s 5) (hmt:Row w mt 162 (mtc 65535 65535 1 0)) (rmt:s 5≤mt∧mt<s 6)
  (hrg:Tr w F rg (Jx 65535)) (rrg:∀k,F k→s 6≤k∧k<s 7) (hsm:MapM w sm []) (rsm:s 7≤sm∧sm<s 8) (hc:Row w c 86 (qj srv B c g b ga de dt en et ow mt wn rg sm F).x.c) (rc:s 8≤c∧c<s 9):Sd14 w (qj srv B c g b ga de dt en et ow mt wn rg sm F):=by
 have hR:∀i k,((qj srv B c g b ga de dt en et ow mt wn rg sm F).ps i).fp k→(rgP s i).1≤k∧k<(rgP s i).2:=λi k hk=>by
  cases i
  ·have hk:k=c:=hk
   subst hk;exact rc
  ·have hk:k=g∨k=b:=hk
   rcases hk with rfl|rfl
   ·exact rspl.1
   ·exact rspl.2
  ·have hk:k=ga∨ob (.slice none 0 0) k∨none=some k:=hk
   rcases hk with rfl|hk|hk
   ·exact rgat
   ·exact absurd hk (Xb k)
   ·cases hk
  ·have hk:k=de∨k=dt∨ob (.slice none 0 0) k:=hk
   rcases hk with rfl|rfl|hk
   ·exact rdec.1
   ·exact rdec.2
   ·exact absurd hk (Xb k)
  ·have hk:k=en∨k=et∨ob (.slice none 0 0) k:=hk
   rcases hk with rfl|rfl|hk
   ·exact renc.1
   ·exact renc.2
   ·exact absurd hk (Xb k)
  ·have hk:k=ow∨ob (.slice none 0 0) k:=hk
   rcases hk with rfl|hk
   ·exact rown
   ·exact absurd hk (Xb k)
  ·exact absurd hk (Xb k)
  ·have hk:k=mt:=hk
   subst hk;exact rmt
  ·exact absurd hk (Xb k)
  ·exact rrg k hk
  ·have hk:k=sm∨∃e∈([]:List Ks),e.fp k:=hk
   rcases hk with rfl|⟨e,he,_⟩
   ·exact rsm
   ·cases he
  ·exact absurd hk (Xb k)
 refine⟨⟨λi=>?_,λi j hij k h1' h2'=>?_⟩,h0,λk hk=>?_⟩
 ·cases i
  ·exact hc
  ·exact hspl
  ·exact hgat
  ·exact hdec
  ·exact henc
  ·exact hown
  ·exact EvL.nil _
  ·exact⟨hmt,(⟨by decide,by decide,by decide,by decide⟩:MtOk 65535 65535 0)⟩
  ·exact Bo.nil
  ·exact hrg
  ·exact⟨hsm,(λe he=>by cases he),(λi j a b ha=>by cases ha)⟩
  ·exact OwS.nil
 ·have a:=hR i k h1'
  have b:=hR j k h2'
  cases i<;>cases j<;>first|exact absurd rfl hij|(simp only[rgP] at a b;omega)
 ·obtain⟨i,hi⟩:=hk
  have a:=hR i k hi
  show B≤k
  cases i<;>(simp only[rgP] at a;omega)
end
end Go.Proofs.YtooaajnkiokpnaaGreatDoor
