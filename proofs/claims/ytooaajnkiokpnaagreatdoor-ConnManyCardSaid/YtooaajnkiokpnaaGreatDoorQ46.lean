/-
  Part of a proof: A side that goes on: r streams were opened and are over, m were opened: mathematics alone. No conditions but those that each theorem names. Conditions: those that each theorem names.
-/
import Derived.Test.YtooaajnkiokpnaaGreatDoorQ43
import Derived.Test.YtooaajnkiokpnaaGreatDoorQ44
import Derived.Test.YtooaajnkiokpnaaGreatDoorQ05
import Derived.Test.YtooaajnkiokpnaaGreatDoorQ01
import Derived.Test.YtooaajnkiokpnaaGreatDoorQ45
import Derived.Test.YtooaajnkiokpnaaGreatDoorQ40
import Derived.Test.YtooaajnkiokpnaaGreatDoorQ39
import Derived.Test.YtooaajnkiokpnaaGreatDoorQ42
namespace Go.Proofs.YtooaajnkiokpnaaGreatDoor
open Go.RowKit Go.WideShapes
set_option maxHeartbeats 8000000
set_option maxRecDepth 100000
section
structure SdR(w:World)(g c:Nat)(cs:Array Value):Prop where
 r:Row w g 54 cs
 c:cs[0]?=some (.pointer (some ⟨c,0,none⟩))
structure Pair(w0 w:World)(a b:Zs)(ga gb:Nat)(ca cb:Array Value):Prop where
 sa:Sd14 w a
 sb:Sd14 w b
 ap:∀k,zi a.ps k→¬zi b.ps k
 ra:SdR w ga a.c ca
 rb:SdR w gb b.c cb
 na:¬zi a.ps ga∧¬zi b.ps ga
 nb:¬zi a.ps gb∧¬zi b.ps gb
 bl:Below w0.heap.size w0 w
 lo:∀k,zi a.ps k∨zi b.ps k→w0.heap.size≤k
section
variable {w0 w w':World}{a b a' b':Zs}{ga gb:Nat}{ca cb:Array Value}
theorem Pair.swap(h:Pair w0 w a b ga gb ca cb):Pair w0 w b a gb ga cb ca:=⟨h.sb,h.sa,λk hk h2=>h.ap k h2 hk,h.rb,h.ra,⟨h.nb.2,h.nb.1⟩,⟨h.na.2,h.na.1⟩,h.bl,λk hk=>h.lo k hk.symm⟩
theorem Pair.left(h:Pair w0 w a b ga gb ca cb)(hz:ZP w a a' w')(hc:a'.c=a.c):Pair w0 w' a' b ga gb ca cb:=by
 have hn:∀g,¬zi a.ps g→g<w.heap.size→¬zi a'.ps g:=λg h1 h2 hk=>(hz.new g hk).elim h1 λh=>by omega
 refine⟨hz.sd,⟨h.sb.1.of_fs hz.fs λk hk h2=>h.ap k h2 hk,h.sb.2⟩,λk hk h2=>?_,⟨hz.fs.row h.na.1 h.ra.r,by rw[hc];exact h.ra.c⟩,⟨hz.fs.row h.nb.1 h.rb.r,h.rb.c⟩,⟨hn ga h.na.1 h.ra.r.lt,h.na.2⟩,⟨hn gb h.nb.1 h.rb.r.lt,h.nb.2⟩,h.bl.trans (hz.fs.below (λk hk _=>h.lo k (.inl hk)) h.bl.size),λk hk=>?_⟩
 ·rcases hz.new k hk with h3|h3
  ·exact h.ap k h3 h2
  ·have:=h.sb.1.lt h2
   omega
 ·rcases hk with hk|hk
  ·exact(hz.new k hk).elim (λh1=>h.lo k (.inl h1)) λh1=>Nat.le_trans h.bl.size h1
  ·exact h.lo k (.inr hk)
theorem Pair.right(h:Pair w0 w a b ga gb ca cb)(hz:ZP w b b' w')(hc:b'.c=b.c):Pair w0 w' a b' ga gb ca cb:=(h.swap.left hz hc).swap
theorem Pair.below(h:Pair w0 w a b ga gb ca cb)(hb:Below w.heap.size w w'):Pair w0 w' a b ga gb ca cb:=
 ⟨h.sa.below hb,h.sb.below hb,h.ap,⟨h.ra.r.below hb h.ra.r.lt,h.ra.c⟩,⟨h.rb.r.below hb h.rb.r.lt,h.rb.c⟩,h.na,h.nb,h.bl.trans (hb.mono h.bl.size),h.lo⟩
end
def ztv(w:World)(z:Zs)(J:Nat→List Frm→Zs→Prop)(e:Ending)(w':World):Prop:=e=.returned (.bool true)∧∃m z',ZP w z z' w'∧J m [] z'∧z'.es=[]
def zrc(J:Nat→List Frm→Zs→Prop):Prop:=∀n Fs z y r,J n Fs z→z.es=y :: r→y.kd≠6∧y.kd≠2∧y.kd<256
attribute [local irreducible] Cc.c evc Fm.c ftc knc
structure PoI(w wr:World)(z:Zs)(J:Nat→List Frm→Zs→Prop)(gs:Nat)(cs:Array Value)(k:Nat):Prop where
 r:SdR wr gs z.c cs
 s:∃Fs' z',ZP w z z' wr∧J k Fs' z'
theorem zd6{w:World}{z:Zs}{J:Nat→List Frm→Zs→Prop}(hJ:Feeds z.c J)(hM:zrc J){n:Nat}{Fs0:List Frm}(h:Sd14 w z)(hG:GlobE w)(hj:J n Fs0 z){gs:Nat}{cs:Array Value}(hs:SdR w gs z.c cs)(hn:¬zi z.ps gs) :
  Calls Tryz.prog 28 #[.pointer (some ⟨gs,0,none⟩)] w (ztv w z J):=by
 have HJ:=z2w hJ
 have HM:=z2w hM
 have H0:=z2w h
 have HG0:=z2w hG
 have HN:Hid (¬zi z.ps gs∧gs<w.heap.size):=⟨hn,hs.r.lt⟩
 obtain⟨w1,hw1⟩:∃w1,w1=w:=⟨w,rfl⟩
 suffices H:Calls Tryz.prog 28 #[.pointer (some ⟨gs,0,none⟩)] w1 (ztv w z J) by rw[hw1] at H;exact H
 have HI:Hid (PoI w w1 z J gs cs n):=by rw[hw1];exact⟨hs,Fs0,z,ZP.refl h,hj⟩
 clear hJ hM h hG hj hs hn hw1
 go_enter Tryz.func28,Tryz.ntmps28
 go_upto_region 1 with fail
 go_loopg [3,4] n (λk a3 a4 wr=>a3=a3∧a4=a4∧Hid (PoI w wr z J gs cs k))
 case atStart=>exact⟨rfl,rfl,HI⟩
 case round=>
  clear HI
  obtain⟨_,_,HI⟩:=hrel
  obtain⟨Fs',z',hz,hj⟩:=HI.out.s
  have HR:=z2w HI.out.r
  obtain⟨hc,_⟩:=HJ.out.c hj
  have c0:wr.cell? ⟨gs,0,none⟩=some (.pointer (some ⟨z.c,0,none⟩)):=HR.out.r.cell HR.out.c
  have hpo:=zy8 (by rw[hc];exact HJ.out) hz.sd (hz.glob H0.out HG0.out) hj
  rw[hc] at hpo
  have HPO:=z2w hpo
  have HZ:=z2w hz
  have HNZ:Hid (¬zi z'.ps gs):=λhk=>(hz.new gs hk).elim HN.out.1 λh=>by have:=HN.out.2;omega
  clear hz hj hc hpo HI
  go_wp2_with fail
  refine HPO.out.mono ?_
  rintro e w2 hP
  rcases hP with ⟨y,m,Fs2,zq,z2,hm,rfl,hz2,hj2,hq⟩|⟨z2,rfl,hz2,hj2,hes⟩
  ·have hr2:=hz2.fs.row HNZ.out HR.out.r
   obtain⟨w3,hw3,t1,t2,t3⟩:=Vj w2 y
   have HW3:=z2w hw3
   have T1:=z2w t1
   have T3:=z2w t3
   have HI2:Hid (PoI w w3 z J gs cs m):=⟨⟨hr2.below t2 hr2.lt,HR.out.c⟩,Fs2,z2,(HZ.out.trans hz2).then_below t2,hj2⟩
   obtain⟨k,v,r,hj3,hes3,_⟩:=hq
   obtain⟨q1,q2,q3⟩:=HM.out k Fs2 zq y r hj3 hes3
   have HLT:Hid (m<gk):=hm
   have s1:((y.kd:Int) == 6)=false:=by rw[beq_eq_false_iff_ne];omega
   have s2:((y.kd:Int) == 2)=false:=by rw[beq_eq_false_iff_ne];omega
   clear hr2 hw3 t1 t2 t3 hj3 hes3 hz2 hj2 HPO HZ HNZ HR c0 hm q1 q2 q3
   go_upto_region 2 with (refine ze (cs:=evc y) rfl _ _ rfl rfl rfl T3.out (Jp _ _) (j5 _) ?_)
   rw[HW3.out]
   clear HW3 T3
   generalize w2.heap.size=q at *
   have e0:w3.cell? ⟨q,0,none⟩=some (.int .u8 y.kd):=T1.out.cell (by unfold evc;rfl)
   clear T1
   go_wp2_with fail
   go_roundg m
   case measure=>exact HLT.out
   case rel=>exact⟨trivial,trivial,HI2⟩
  ·obtain⟨w3,hw3,t1,t2,t3⟩:=Vj w2 ev0
   have HW3:=z2w hw3
   have T3:=z2w t3
   have HZ3:=z2w ((HZ.out.trans hz2).then_below t2)
   have HE:=z2w (And.intro hj2 hes)
   clear hw3 t1 t2 t3 hz2 hj2 hes HPO HZ HNZ HR c0
   go_upto_region 2 with (refine ze (cs:=evc ev0) rfl _ _ rfl rfl rfl T3.out (Jp _ _) (j5 _) ?_)
   rw[HW3.out]
   clear HW3 T3
   generalize w2.heap.size=q at *
   go_wp2_with fail
   go_ret
   exact⟨rfl,_,z2,HZ3.out,HE.out.1,HE.out.2⟩
inductive GoI (w0 wr:World) (a' b:Zs) (R:List UInt8) (ga gb:Nat) (ca cb:Array Value) (J:Nat→List Frm→Zs→Prop) (n0:Nat) (Fs0:List Frm):Nat→Value→Prop
 |one (A:Option Addr) (c:Nat) (hp:Pair w0 wr a' b ga gb ca cb) (hc:R.length≤c) (hR:R≠[]) (hr:RdS wr (λk=>k<wr.heap.size∧¬zi b.ps k) A (byc R)):GoI w0 wr a' b R ga gb ca cb J n0 Fs0 1 (.slice A R.length c)
 |two (A:Option Addr) (c:Nat) (b':Zs) (m:Nat) (Fs':List Frm) (hp:Pair w0 wr a' b' ga gb ca cb) (hj:J m Fs' b'):GoI w0 wr a' b R ga gb ca cb J n0 Fs0 0 (.slice A 0 c)
theorem zvm{R:List UInt8}(h:R.length≤16393):zby [] false R=R.length∧vj [] false R=R:=by
 unfold zby vj
 rw[if_neg (by simp),if_neg (by simp)]
 simp only[List.length_nil,Nat.sub_zero,List.nil_append]
 exact⟨Nat.min_eq_left h,List.take_of_length_le h⟩
theorem Jk{w0 w:World}{a b:Zs}{ga gb:Nat}{ca cb:Array Value}(hp:Pair w0 w a b ga gb ca cb)(hG:GlobE w){n:Nat}(hn:1≤n∧n≤16000)(hR:a.R.length≤n)(hgo:a.go=false)(hrm:a.rm.Ok)(hsm:a.rm.Sm)(hno:Zp a.rm 16384=none)
  (hbl:b.l=[]∧b.bad=false∧b.go=false) {J:Nat→List Frm→Zs→Prop} (hJ:Feeds b.c J) (hM:zrc J) {n0:Nat} {Fs0:List Frm} (hj:J n0 Fs0 { b with l:=a.R }) :
  Calls Tryz.prog 24 #[.pointer (some ⟨ga,0,none⟩),.pointer (some ⟨gb,0,none⟩),.int .i64 (n:Int)] w (λe w'=>e=.returned (.bool true)∧∃v rep F' m b',rep≤a.rep∧Pair w0 w' (a.outd n v rep F') b' ga gb ca cb∧J m [] b'∧b'.es=[]∧GlobE w'∧b'.c=b.c):=by
 have c0:w.cell? ⟨ga,0,none⟩=some (.pointer (some ⟨a.c,0,none⟩)):=hp.ra.r.cell hp.ra.c
 have HO:=z2w (z0s hp.sa (most:=n) ⟨hn.1,by omega⟩ (by omega) hgo hrm hsm hno)
 have HP:=z2w hp
 have HG:=z2w hG
 have HJ:=z2w hJ
 have HM:=z2w hM
 have HJ0:=z2w hj
 have HR:=z2w hR
 have HBL:=z2w hbl
 have HBLT:Hid (∀k,zi b.ps k→k<w.heap.size):=λk hk=>hp.sb.1.lt hk
 clear hp hG hR hgo hrm hsm hno hJ hM hj hbl
 go_enter Tryz.func24,Tryz.ntmps24
 go_wp2_with fail
 refine HO.out.mono ?_
 rintro e w1 ⟨bv,v,rep,F',rfl,hbo,hna,hrep,hz⟩
 rw[List.take_of_length_le HR.out] at hbo
 have HP1:=z2w (HP.out.left hz rfl)
 have HG1:=z2w (hz.glob HP.out.sa HG.out)
 have HREP:=z2w hrep
 obtain⟨A,c,rfl,hlc⟩:=Bo.shape hbo
 have hrd:RdS w1 (λk=>k<w1.heap.size∧¬zi b.ps k) A (byc a.R):=(OwS.up hbo).imp λk hk _=>⟨hk.2,λhb=>by have:=HBLT.out k hb;have:=hk.1;omega⟩
 have HI:Hid (∃k,k≤1∧GoI w0 w1 (a.outd n v rep F') b a.R ga gb ca cb J n0 Fs0 k (.slice A a.R.length c)):=by
  by_cases h0:a.R=[]
  ·have hj0:=HJ0.out
   rw[h0] at hj0 ⊢
   have e:({ b with l:=[] }:Zs)=b:=by
    have:=HBL.out.1
    cases b
    simp only at this
    subst this
    rfl
   rw[e] at hj0
   exact⟨0,by omega,.two A c b n0 Fs0 HP1.out hj0⟩
  ·exact⟨1,by omega,.one A c HP1.out hlc h0 hrd⟩
 obtain⟨k0,hk0,HI⟩:=HI.out
 have HI:=z2w HI
 clear hbo hna hrep hz hlc hrd HO c0 HP HG
 go_upto_region 2 with fail
 go_loopg [7,8] k0 (λk v7 v8 wr=>v8=v8∧Hid (GlobE wr)∧Hid (GoI w0 wr (a.outd n v rep F') b a.R ga gb ca cb J n0 Fs0 k v7))
 case atStart=>exact⟨rfl,HG1,HI⟩
 case round=>
  clear HI HP1 HG1
  obtain⟨_,HG2,HI⟩:=hrel
  cases HI.out with
  |one A2 c2 hp hc hne hr=>
   have h0:0<a.R.length:=List.length_pos_iff.2 hne
   have e1:(0:Int)<(a.R.length:Int):=by omega
   have c0:wr.cell? ⟨gb,0,none⟩=some (.pointer (some ⟨b.c,0,none⟩)):=hp.rb.r.cell hp.rb.c
   obtain⟨hbl,hbb,hbg⟩:=HBL.out
   have hfe:=zx1 hp.sb hbg (n:=c2) hr
   obtain⟨hf1,hf2⟩:=zvm (R:=a.R) (by have:=HR.out;omega)
   rw[show zby b.l b.bad a.R=a.R.length by rw[hbl,hbb,hf1],show vj b.l b.bad a.R=a.R by rw[hbl,hbb,hf2]] at hfe
   have HFE:=z2w hfe
   have HP2:=z2w hp
   obtain⟨A3,hcut,_⟩:=zhe (P:=Tryz.prog) (A:=A2) (n:=a.R.length) (c:=c2) (k:=a.R.length) Tryz.underlying22 (Classical.choose_spec (zr qk)).1 (Classical.choose_spec (zr qk)).2.2.1 hc (Nat.le_refl _)
   rw[Nat.sub_self] at hcut
   have k0:((a.R.length:Int) == 0)=false:=by rw[beq_eq_false_iff_ne];omega
   clear hfe hf1 hf2 hbl hbb hbg hp hr hne HI
   go_wp2_with fail
   refine HFE.out.mono ?_
   rintro e w2 ⟨rfl,hz⟩
   have HP3:=z2w (HP2.out.right hz rfl)
   have HG3:=z2w (hz.glob HP2.out.sb HG2.out)
   have hpo:=zd6 (z:={ b with l:=a.R }) HJ.out HM.out HP3.out.sb HG3.out HJ0.out HP3.out.rb HP3.out.nb.2
   have HPO:=z2w hpo
   clear hz HP2 HG2 hpo HFE
   go_wp2_with fail
   refine HPO.out.mono ?_
   rintro e w3 ⟨rfl,m,b',hz3,hj3,hes3⟩
   obtain⟨hc3,_⟩:=HJ.out.c hj3
   have HG4:=z2w (hz3.glob HP3.out.sb HG3.out)
   have HI4:Hid (GoI w0 w3 (a.outd n v rep F') b a.R ga gb ca cb J n0 Fs0 0 (.slice A3 0 (c2-a.R.length))):=.two A3 _ b' m [] (HP3.out.right hz3 hc3) hj3
   clear hz3 hj3 hes3 hc3 HP3 HG3 HPO
   go_wp2_with fail
   go_roundg 0
   case measure=>omega
   case rel=>exact⟨trivial,HG4,HI4⟩
  |two A2 c2 b' m Fs' hp hj=>
   obtain⟨hc2,_⟩:=HJ.out.c hj
   have hpo:=zd6 (by rw[hc2];exact HJ.out) HM.out hp.sb HG2.out hj hp.rb hp.nb.2
   have HPO:=z2w hpo
   have HP2:=z2w hp
   have HC2:=z2w hc2
   clear hpo hp hj hc2 HI
   go_wp2_with fail
   refine HPO.out.mono ?_
   rintro e w3 ⟨rfl,m3,b3,hz3,hj3,hes3⟩
   obtain⟨hc3,_⟩:=HJ.out.c hj3
   have HP3:=z2w (HP2.out.right hz3 (by rw[hc3,HC2.out]))
   have HG4:=z2w (hz3.glob HP2.out.sb HG2.out)
   have HE:=z2w (And.intro hj3 (And.intro hes3 hc3))
   clear hz3 hj3 hes3 hc3 HPO HP2 HG2
   go_wp2_with fail
   go_ret
   exact⟨rfl,v,rep,F',m3,b3,HREP.out,HP3.out,HE.out.1,HE.out.2.1,HG4.out,HE.out.2.2⟩
end
section
attribute [local irreducible] Cc.c evc Fm.c knc mtc x6
def zt1(w:World)(z:Zs)(e:Int)(x:Ending)(w':World):Prop:=x=.returned (.tuple #[.int .u32 0,.int .i64 e])∧ZP w z z w'
theorem zmq{w:World}{z:Zs}(h:Sd14 w z)(hsv:z.srv=false)(hgo:z.go=false)(haw:z.aw=false)(hpa:z.pa=false)(hla:z.la≤1000000000)(hno:z.be=false∨z.be=true∧z.pe.st≤z.lv)(hps:z.pe.st≤4294967295){v:Value}{en:Bool} :
  Calls Tryz.prog 10 #[.pointer (some ⟨z.c,0,none⟩),v,.bool en] w (zt1 w z 8):=by
 have c0:w.cell? ⟨z.c,0,none⟩=some (.bool z.srv):=cc0 h.row
 have c24:w.cell? ⟨z.c,24,none⟩=some (.bool z.aw):=zqg h.row
 have c25:w.cell? ⟨z.c,25,none⟩=some (.bool z.pa):=zyb h.row
 have c26:w.cell? ⟨z.c,26,none⟩=some (.bool z.go):=Y3 h.row
 rw[hsv] at c0
 rw[haw] at c24
 rw[hpa] at c25
 rw[hgo] at c26
 have hnx:=zcr h.row (by show z.la≤2147483647;omega)
 rw[show z.x.la=z.la from rfl] at hnx
 have H:=z2w h
 clear h
 go_enter Tryz.func10,Tryz.ntmps10
 go_wp2_with fail
 refine hnx.mono ?_
 rintro e1 w1 ⟨rfl,rfl⟩
 clear c0 c24 c25 c26 hnx
 go_upto_region 8 with fail
 have c23:w1.drew.cell? ⟨z.c,23,none⟩=some (.bool z.be):=zkj H.out.row
 have c21:w1.drew.cell? ⟨z.c,21,none⟩=some (.int .i64 (z.lv:Int)):=zdc H.out.row
 have c8:w1.drew.cell? ⟨z.c,8,none⟩=some (.int .u32 (z.pe.st:Int)):=cc8 H.out.row
 have HD:=z2w (ZP.of_below H.out ((Below.refl _ _).drew))
 clear H
 rcases hno with hbe|⟨hbe,hle⟩
 ·rw[hbe] at c23
  refine wp_region_held_drew (S:=λw'=>w'.cell? ⟨z.c,23,none⟩=some (.bool false)) (by kernel_rfl) c23 (λhHeld=>?_)
  generalize w1.drew=w2 at *
  refine tkH 0 ?_
  refine tkH 1 ?_
  refine tkH 2 ?_
  refine tkH 3 ?_
  refine tkH 4 ?_
  refine tkH 5 ?_
  refine tkS 6 ?_
  refine tkS 7 ?_
  refine tkS 8 ?_
  refine tkS 9 ?_
  refine tkS 10 ?_
  refine tkS 11 ?_
  refine tkS 12 ?_
  refine tkS 13 ?_
  refine tkS 14 ?_
  refine tkS 15 ?_
  refine tkS 16 ?_
  refine tkH 17 ?_
  refine tkH 18 ?_
  refine tkS 19 ?_
  refine tkS 20 ?_
  refine tkS 21 ?_
  refine tkS 22 ?_
  refine tkS 23 ?_
  refine tkS 24 ?_
  refine tkS 25 ?_
  refine tkH 26 ?_
  refine dnH ?_
  clear hHeld c23 c21 c8
  go_wp2_with fail
  go_ret2
  exact⟨rfl,HD.out⟩
 ·rw[hbe] at c23
  have hwp:IntKind.i64.wrap (z.pe.st:Int)=z.pe.st:=IntWalk.i64_in _ (by omega)
  have hd3:decide (z.pe.st≤z.lv)=true:=decide_eq_true (by omega)
  refine wp_region_held_drew (S:=λw'=>w'.cell? ⟨z.c,23,none⟩=some (.bool true)∧w'.cell? ⟨z.c,21,none⟩=some (.int .i64 (z.lv:Int))∧w'.cell? ⟨z.c,8,none⟩=some (.int .u32 (z.pe.st:Int))) (by kernel_rfl) ⟨c23,c21,c8⟩ (λhHeld=>?_)
  generalize w1.drew=w2 at *
  refine tkH 0 ?_
  refine tkH 1 ?_
  refine tkH 2 ?_
  refine tkH 3 ?_
  refine tkH 4 ?_
  refine tkH 5 ?_
  refine tkH 6 ?_
  refine tkH 7 ?_
  refine tkH 8 ?_
  refine tkH 9 ?_
  refine tkH 10 ?_
  refine tkH 11 ?_
  refine tkH 12 ?_
  refine tkH 13 ?_
  refine tkH 14 ?_
  refine tkH 15 ?_
  refine tkH 16 ?_
  refine tkH 17 ?_
  refine tkH 18 ?_
  refine tkS 19 ?_
  refine tkS 20 ?_
  refine tkS 21 ?_
  refine tkS 22 ?_
  refine tkS 23 ?_
  refine tkS 24 ?_
  refine tkS 25 ?_
  refine tkH 26 ?_
  refine dnH ?_
  clear hHeld c23 c21 c8
  go_wp2_with fail
  go_ret2
  exact⟨rfl,HD.out⟩
end
section
theorem z09{w:World}{z:Zs}(h:Sd14 w z)(hM:z.dM≤4096)(hL:tot z.dL≤z.dM){S:Nat→Prop}{A:Option Addr}{c:Nat}{l:List UInt8}(hR:RdS w S A (byc l))(hc:l.length≤c)(hS:∀k,S k→k<w.heap.size∧¬zi z.ps k)(hl:l.length≤12000)
  {s:RdK} (hs:xc 4096 l.length ⟨z.dL,z.dM,[]⟩ l=some s) (ho:tot s.out≤4096) :
  Calls Tryz.prog 130 #[.pointer (some ⟨z.de,0,none⟩),.slice A l.length c] w (zto w z s.tb s.mx s.out):=by
 have hD:Dn w z.B z.de z.dt z.dv z.dL z.dM 4096:=h.1.ok .dec
 have hg:=zss hD (by decide) hM hL h.size hR hc (λk hk=>⟨(hS k hk).1,λhE=>(hS k hk).2 ⟨.dec,hE⟩⟩) hl
 rw[hs] at hg
 refine hg.mono ?_
 rintro e w' ⟨hf,v',hd,hn,-,-,h3⟩
 rcases h3 with ⟨h4,-⟩|⟨-,A',c',rfl,hO,hN⟩
 ·omega
 ·have hz:ZP w z (z.decd v' s.tb s.mx) w':=ZP.of h (h.1.one .dec hf hd (λk hk=>by
   rcases hk with hk|hk|hk
   ·exact .inl (.inl hk)
   ·exact .inl (.inr (.inl hk))
   ·exact(hn.own hk).imp (λh=>.inr (.inr h)) id) (λm hm=>by cases m<;>first|rfl|exact absurd rfl hm)) rfl
  have h5:=hN
  refine⟨A',c',v',rfl,hz,(OwS.reads hO).imp λk hk _=>?_⟩
  have h6:=hN k hk
  refine⟨h6.1,(OwS.lt hO k hk).2,?_⟩
  rintro⟨m,hm⟩
  by_cases hmd:m=.dec
  ·subst hmd
   exact h6.2 hm
  ·have hm2:(z.ps m).fp k:=by
    have:(z.decd v' s.tb s.mx).ps m=z.ps m:=by cases m<;>first|rfl|exact absurd rfl hmd
    rw[this] at hm
    exact hm
   have:=(z.ps m).lt (h.1.ok m) k hm2
   omega
theorem zta(L:List Fd)(M:Nat):xc 4096 ([]:List UInt8).length ⟨L,M,[]⟩ []=some ⟨L,M,[]⟩:=rfl
theorem zm6:xc 4096 ([63,225,31]:List UInt8).length ⟨[],4096,[]⟩ [63,225,31]=some ⟨[],4096,[]⟩:=by
 have hg:zs 5 ([63,225,31]:List UInt8)=(4096,3,0):=by decide +kernel
 have hk:xe ((([63,225,31]:List UInt8).headD 0).toNat)=32:=by decide +kernel
 have hp:xl 4096 ⟨[],4096,[]⟩ [63,225,31]=some (⟨[],4096,[]⟩,[]):=by
  unfold xl
  simp only[hk]
  rw[show qy 32=5 from rfl,hg]
  rfl
 rw[show ([63,225,31]:List UInt8).length=2+1 from rfl,zcc (by simp) hp]
 rfl
end
section
def Ev.mild(y:Ev):Prop:=y.kd≠6∧y.kd≠2∧y.kd<256
def z1g(P:List Frm→Zs→Prop)(W:World)(z:Zs)(Fs:List Frm)(w':World):Prop:=∃z',ZP W z z' w'∧P Fs z'∧z'.es.length≤1∧∀y∈z'.es,y.mild
structure Keeps(c:Nat)(P:List Frm→Zs→Prop):Prop where
 c:∀{Fs z},P Fs z→z.c=c∧z.go=false
 ev:∀{Fs z} (v:Value) (r:List Ev),P Fs z→P Fs { z with ev:=v,es:=r }
 last:∀{z},P [] z→nsN z.l z.wt z.bad=(none,z.l,z.wt,z.bad)
 next:∀{F Fs z},P (F :: Fs) z→∃l' wt',nsN z.l z.wt z.bad=(some (F,0,0),l',wt',false)∧∀(W:World) (X:Fm) (base:Nat),z.es=[]→Sd14 W (z.nxd l' wt')→GlobE W→FmIs W base X F→(∀k,zi (z.nxd l' wt').ps k→k<base)→
  Calls Tryz.prog 31 #[.pointer (some ⟨z.c,0,none⟩),.agg X.c,.agg (ftc 0 0)] W (ji (z1g P W (z.nxd l' wt') Fs))
def Vu(P:List Frm→Zs→Prop)(n:Nat)(Fs:List Frm)(z:Zs):Prop:=P Fs z∧(∀y∈z.es,y.mild)∧z.es.length+Fs.length≤n
theorem Keeps.mild{P:List Frm→Zs→Prop}:zrc (Vu P):=λ_ _ _ y _ h he=>h.2.1 y (by rw[he];exact List.mem_cons_self)
theorem Keeps.feeds{c:Nat}{P:List Frm→Zs→Prop}(h:Keeps c P):Feeds c (Vu P) where
 c hj:=h.c hj.1
 pop {n Fs z y r} v hj he:=by
  have hl:=hj.2.2
  rw[he,List.length_cons] at hl
  exact⟨n-1,by omega,h.ev v r hj.1,λy hy=>hj.2.1 y (by rw[he];exact List.mem_cons_of_mem _ hy),by show r.length+_≤_;omega⟩
 last hj _:=h.last hj.1
 next {n F Fs z} hj he:=by
  obtain⟨l',wt',h1,h2⟩:=h.next hj.1
  refine⟨l',wt',h1,λW X base hs hG hF hk=>(h2 W X base he hs hG hF hk).mono ?_⟩
  rintro e w' ⟨he,z',h3,h4,h5,h6⟩
  have hl:=hj.2.2
  rw[List.length_cons] at hl
  exact⟨he,z',h3,h4,h6,by omega⟩
end
section
theorem zt8(en:Bool):cm 0 1 en=(((if en=true then 3 else 1:Nat):Int),0,0):=by cases en<;>decide
def Zs.opnd(z:Zs)(y:Ev)(k g:Nat)(ev:Value)(F':Nat→Prop):Zs:=
 { z with ss:=z.ss++[y4 y.st (if y.en=true then 3 else 1) k g z.wn],la:=y.st,lv:=z.lv+1,rm:=(xy z.rm y.st z.pe.wn).1,rF:=F',ev:=ev,es:=z.es++[y] }
def z0m(w:World)(z:Zs)(y:Ev)(x:Ending)(w':World):Prop:=x=.returned .nilIface∧∃k g ev F',ZP w z (z.opnd y k g ev F') w'
theorem ev1{w:World}{p:Nat}{y:Ev}(h:Row w p 31 (evc y)):w.cell? ⟨p,1,none⟩=some (.int .u32 y.st)∧w.cell? ⟨p,4,none⟩=some (.bool y.en):=⟨h.cell (by unfold evc;rfl),h.cell (by unfold evc;rfl)⟩
attribute [local irreducible] Cc.c evc Fm.c knc mtc ftc
theorem zue{w:World}{z:Zs}(h:Sd14 w z)(hG:GlobE w)(y:Ev)(haw:z.aw=false)(hwas:Xp z.la y.st=false)(hnum:zbd y.st z.la true=true)(hyn:y.st≤2147483647)(hlv:z.lv<16)(hl:z.es.length≤100000)
  (hfr:atM (z.ss.map λe=>(e.nu,e.k)) y.st 0=none) (hwn:z.wn≤2147483647) (hpw:z.pe.wn≤4294967295) (hrm:z.rm.Ok) (hsm:z.rm.Sm) :
  Calls Tryz.prog 132 #[.pointer (some ⟨z.c,0,none⟩),.agg (evc y)] w (z0m w z y):=by
 have hb1:Below w.heap.size w (w.alloc (.cells (evc y) 31)):=(Below.refl _ _).alloc (Nat.le_refl _) _
 have HX1:Hid (Row (w.alloc (.cells (evc y) 31)) w.heap.size 31 (evc y)):=Row.new w _ _
 have H1:=z2w (ZP.of_below h hb1)
 have HPN:Hid (¬zi z.ps w.heap.size):=λhk=>by have:=h.1.lt hk;omega
 have HG1:=z2w (hG.below hb1)
 clear h hG hb1
 go_enter Tryz.func132,Tryz.ntmps132
 go_upto_region 1 with fail
 generalize w.alloc (.cells (evc y) 31)=w1 at *
 obtain⟨p,hp⟩:∃p,w.heap.size=p:=⟨_,rfl⟩
 rw[hp] at HX1 HPN ⊢
 clear hp
 obtain⟨e1,e4⟩:=ev1 HX1.out
 have hw:=zjz H1.out.sd.row y.st
 rw[show z.x.la=z.la from rfl,hwas] at hw
 go_wp2_with fail
 refine hw.mono ?_
 rintro x2 w2 ⟨rfl,rfl⟩
 go_upto_region 3 with fail
 clear hw
 have c22:w2.drew.cell? ⟨z.c,22,none⟩=some (.int .u32 (z.la:Int)):=zdx H1.out.sd.row
 have e1':w2.drew.cell? ⟨p,1,none⟩=some (.int .u32 (y.st:Int)):=e1
 have HD:=z2w (ZP.of_below H1.out.sd ((Below.refl _ _).drew))
 have HXD:Hid (Row w2.drew p 31 (evc y)):=HX1.out
 have HGD:Hid (GlobE w2.drew):=HG1.out
 have hnb:=λW=>zas (y.st:Int) (z.la:Int) true (by omega) W
 rw[hnum] at hnb
 refine wp_region_held_drew (S:=λw'=>w'.cell? ⟨z.c,22,none⟩=some (.int .u32 (z.la:Int))∧w'.cell? ⟨p,1,none⟩=some (.int .u32 (y.st:Int))) (by kernel_rfl) ⟨c22,e1'⟩ (λhHeld=>?_)
 have HLP:Hid (p<w2.heap.size):=HX1.out.lt
 have HW2:=z2w H1
 clear HX1 HG1 e1 e4
 generalize hw3:w2.drew=w3 at *
 clear hw3
 refine tkH 0 ?_
 refine tkH 1 ?_
 refine tkH 2 ?_
 refine tkH 3 ?_
 refine tkH 4 ?_
 refine tkH 5 ?_
 refine rdH 6 λK hK=>?_
 go_simp
 go_at_call 33
 refine(hnb _).mono ?_
 rintro x9 w7 ⟨rfl,rfl⟩
 refine hK.out _ _ ⟨c22,e1'⟩ (λhHeld=>?_)
 clear hK K
 try refine ptk ?_
 refine tkH 7 ?_
 refine dnH ?_
 clear hHeld c22 e1' hnb
 obtain⟨_,e4⟩:=ev1 HXD.out
 have hcm:=zes 0 1 y.en HGD.out
 rw[zt8] at hcm
 obtain⟨st,hst⟩:∃st:Nat,(if y.en=true then 3 else 1)=st:=⟨_,rfl⟩
 rw[hst] at hcm
 go_wp2_with fail
 refine hcm.mono ?_
 rintro x3 w8 ⟨rfl,hb8⟩
 have H8:=z2w (HD.out.then_below hb8)
 have HX8:=z2w (HXD.out.below hb8 HXD.out.lt)
 have HV8:Hid (Row (w8.alloc (.cells #[.int .u8 0,.int .u32 0] 29)) w8.heap.size 29 (ftc 0 0)):=zju w8
 have HAG:=z2w (Zo 0 0)
 rw[zi7]
 clear hcm hb8 HXD e4
 go_upto_region 6 with (refine ze (cs:=ftc 0 0) rfl _ _ rfl rfl rfl HV8.out rfl HAG.out ?_)
 have hb9:Below w8.heap.size w8 ((w8.alloc (.cells #[.int .u8 0,.int .u32 0] 29)).setRow w8.heap.size (ftc 0 0)):=zd ((Below.refl _ _).alloc (Nat.le_refl _) _) _ _ (Nat.le_refl _)
 have H9:=z2w (H8.out.then_below hb9)
 have HX9:=z2w (HX8.out.below hb9 HX8.out.lt)
 clear hb9 HV8 HX8 H8
 generalize (w8.alloc (.cells #[.int .u8 0,.int .u32 0] 29)).setRow w8.heap.size (ftc 0 0)=w9 at *
 obtain⟨e1,_⟩:=ev1 HX9.out
 have had:=zt7 (st:=st) H9.out.sd hfr hwn hpw (by omega) hrm hsm
 go_wp2_with fail
 refine had.mono ?_
 rintro x4 w10 ⟨k,g,F',rfl,h10⟩
 have HX10:=z2w (h10.fs.row HPN.out HX9.out)
 have HLP9:Hid (p<w9.heap.size):=HX9.out.lt
 have H10:=z2w h10
 have c24:w10.cell? ⟨z.c,24,none⟩=some (.bool z.aw):=zqg h10.sd.row
 rw[haw] at c24
 have c21:w10.cell? ⟨z.c,21,none⟩=some (.int .i64 ((z.lv+1:Nat):Int)):=zdc h10.sd.row
 have h16:((z.lv+1:Nat):Int)≤16:=by omega
 have h16':decide (((z.lv+1:Nat):Int) > 16)=false:=decide_eq_false (by omega)
 have ht:=zhj h10.sd hl y
 clear h10 had e1 HX9
 go_wp2_with (refine zj rfl _ rfl rfl HX10.out (j5 _) ?_)
 refine ht.mono ?_
 rintro x5 w11 ⟨rfl,ev,h11⟩
 have H11:Hid (ZP w z (z.opnd y k g ev F') w11):=by
  show ZP _ _ _ _
  unfold Zs.opnd
  rw[hst]
  exact(HW2.out.trans H9.out).trans (H10.out.trans h11)
 clear h11 ht H10 HX10 H9 HW2 HD
 go_wp2_with fail
 go_ret
 exact⟨rfl,k,g,ev,F',H11.out⟩
end
section
structure StrI(r m:Nat)(L:List Ks):Prop where
 len:L.length=m
 le:r≤m
 nu:∀i e,L[i]?=some e→e.nu=2*i+1
 lv:∀i e,L[i]?=some e→r≤i→e.st=1∧∃m,e.me=some m∧m.2.1-m.2.2.1-m.2.2.2=0
section
variable {r m:Nat}{L:List Ks}
theorem zgt:∀(L:List Ks) (j:Nat),(∀(i:Nat) (e:Ks),L[i]?=some e→e.nu=2*(j+i)+1)→∀n,(∀(i:Nat) (e:Ks),L[i]?=some e→e.nu=n→atM (L.map λe=>(e.nu,e.k)) n j=some (j+i,e.k))∧((∀(i:Nat) (e:Ks),L[i]?=some e→e.nu≠n)→atM (L.map λe=>(e.nu,e.k)) n j=none)
 |[],j,_,n=>⟨λi e h=>by simp at h,λ_=>rfl⟩
 |a :: L,j,h,n=>by
  have ih:=zgt L (j+1) (λi e he=>by rw[h (i+1) e (by simpa using he)];omega) n
  have ha:=h 0 a rfl
  refine⟨λi e hi he=>?_,λhn=>?_⟩
  ·show (if a.nu=n then some (j,a.k) else atM (L.map λe=>(e.nu,e.k)) n (j+1))=_
   cases i with
   |zero=>
    have:a=e:=by simpa using hi
    subst this
    rw[if_pos he];rfl
   |succ i=>
    have hi':L[i]?=some e:=by simpa using hi
    have:=h (i+1) e (by simpa using hi)
    rw[if_neg (by omega),ih.1 i e hi' he,show j+1+i=j+(i+1) by omega]
  ·show (if a.nu=n then some (j,a.k) else atM (L.map λe=>(e.nu,e.k)) n (j+1))=_
   rw[if_neg (hn 0 a rfl),ih.2 λi e hi=>hn (i+1) e (by simpa using hi)]
theorem StrI.at(h:StrI r m L){i:Nat}{e:Ks}(hi:L[i]?=some e):atM (L.map λe=>(e.nu,e.k)) e.nu 0=some (i,e.k):=by
 have:=(zgt L 0 (λi e he=>by rw[h.nu i e he];omega) e.nu).1 i e hi rfl
 rwa [Nat.zero_add] at this
theorem StrI.no(h:StrI r m L){n:Nat}(hn:2*m<n):atM (L.map λe=>(e.nu,e.k)) n 0=none:=
 (zgt L 0 (λi e he=>by rw[h.nu i e he];omega) n).2 λi e he=>by
  have:=h.nu i e he
  have:=(List.getElem?_eq_some_iff.1 he).1
  have:=h.len
  omega
theorem StrI.first(h:StrI r m L)(hr:r<m):∃e,L[r]?=some e:=⟨_,List.getElem?_eq_getElem (by rw[h.len];exact hr)⟩
theorem StrI.open(h:StrI r m L)(k g:Nat)(wn:Int)(b:Bool):StrI r (m+1) (L++[{ y4 (2*m+1) 1 k g wn with sh:=b }]):=by
 have hm:=h.len
 have hc:∀i e,(L++[{ y4 (2*m+1) 1 k g wn with sh:=b }])[i]?=some e→L[i]?=some e∨i=m∧e={ y4 (2*m+1) 1 k g wn with sh:=b }:=λi e he=>by
  by_cases hi:i<L.length
  ·rw[List.getElem?_append_left hi] at he
   exact .inl he
  ·rw[List.getElem?_append_right (by omega)] at he
   have h0:i-L.length=0:=by
    have:=(List.getElem?_eq_some_iff.1 he).1
    simpa using this
   rw[h0] at he
   exact .inr ⟨by omega,by simpa using he.symm⟩
 refine⟨by simp[hm],Nat.le_succ_of_le h.le,λi e he=>?_,λi e he hr=>?_⟩
 ·rcases hc i e he with h1|⟨rfl,rfl⟩
  ·exact h.nu i e h1
  ·rfl
 ·rcases hc i e he with h1|⟨rfl,rfl⟩
  ·exact h.lv i e h1 hr
  ·exact⟨rfl,_,rfl,by show wn-wn-0=0;omega⟩
theorem StrI.over(h:StrI r m L){e:Ks}(hi:L[r]?=some e)(st:Nat):StrI (r+1) m (L.set r { e with st:=st,me:=none }):=by
 have hl:=(List.getElem?_eq_some_iff.1 hi).1
 have hm:=h.len
 refine⟨by rw[List.length_set];exact h.len,by omega,λi x hx=>?_,λi x hx hr=>?_⟩
 ·by_cases hir:i=r
  ·subst hir
   rw[List.getElem?_set_self hl] at hx
   have:{ e with st:=st,me:=none }=x:=by simpa using hx
   rw[←this]
   exact h.nu _ e hi
  ·rw[List.getElem?_set_ne (by omega)] at hx
   exact h.nu i x hx
 ·rw[List.getElem?_set_ne (by omega)] at hx
  exact h.lv i x hx (by omega)
end
def laN(m:Nat):Nat:=if m=0 then 0 else 2*m-1
theorem zwr(m:Nat):x6 (laN m)=2*m+1:=by
 unfold x6 laN
 by_cases h:m=0
 ·subst h;rfl
 ·rw[if_neg h,if_neg (by omega)];omega
theorem zn6(m:Nat)(hm:m≤1000):zbd ((2*m+1:Nat):Int) ((laN m:Nat):Int) true=true:=by
 have h1:((2*m+1:Nat):Int)%2=1:=by omega
 have h2:((laN m:Nat):Int)<((2*m+1:Nat):Int):=by unfold laN;split<;>omega
 unfold zbd
 rw[h1]
 simp only[decide_true,beq_self_eq_true,Bool.true_and,Bool.and_eq_true,decide_eq_true_eq]
 exact⟨h2,by omega⟩
theorem zz1(m:Nat):Xp (laN m) (2*m+1)=false:=by
 unfold Xp laN
 rw[decide_eq_false_iff_not]
 split<;>omega
structure Stdy(c:Nat)(srv:Bool)(r m:Nat)(z:Zs):Prop where
 c:z.c=c
 srv:z.srv=srv
 go:z.go=false
 aw:z.aw=false
 pa:z.pa=false
 be:z.be=true
 bad:z.bad=false
 wt:z.wt=false
 gm:z.gm=gm0
 ss:StrI r m z.ss
 la:z.la=laN m
 lv:z.lv=m-r
 ov:z.ol2.length=r
 wn:z.wn≤2147483647
 pw:z.pe.wn≤4294967295
 ok:z.rm.Ok
 idle:Y0 z.rm
 few:z.rm.l.length≤m
 mu:Yc z.mz z.ml z.mu 0=(0,z.ml,z.mu)
 rep:z.rep≤64
 dL:z.dL=[]
 dM:z.dM=4096
theorem Stdy.sm{c:Nat}{srv:Bool}{r m:Nat}{z:Zs}(h:Stdy c srv r m z)(hm:m≤1000):z.rm.Sm:=zdq h.idle (Nat.le_trans h.few hm)
end
end Go.Proofs.YtooaajnkiokpnaaGreatDoor
