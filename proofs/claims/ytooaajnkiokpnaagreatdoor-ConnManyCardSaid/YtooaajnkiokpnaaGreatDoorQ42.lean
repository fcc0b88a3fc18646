/-
  Part of a proof: A side resets a stream that is live, of whose bytes none were told: by its contract. Conditions: those that each theorem names.
-/
import Derived.Test.YtooaajnkiokpnaaGreatDoorQ01
import Derived.Test.YtooaajnkiokpnaaGreatDoorQ28
import Derived.Test.YtooaajnkiokpnaaGreatDoorQ33
import Derived.Test.YtooaajnkiokpnaaGreatDoorQ30
import Derived.Test.YtooaajnkiokpnaaGreatDoorQ40
import Derived.Test.YtooaajnkiokpnaaGreatDoorQ41
import Derived.Test.YtooaajnkiokpnaaGreatDoorQ21
import Derived.Test.YtooaajnkiokpnaaGreatDoorQ36
import Derived.Test.YtooaajnkiokpnaaGreatDoorQ24
namespace Go.Proofs.YtooaajnkiokpnaaGreatDoor
open Go.RowKit Go.WideShapes
set_option maxHeartbeats 4000000
set_option maxRecDepth 100000
section
theorem zfx:evc ev0=#[.int .u8 0,.int .u32 0,.slice none 0 0,.slice none 0 0,.bool false,.int .u32 0,.int .u8 0,.int .u32 0]:=by unfold evc ev0;rfl
def evN:Option Value→Nat
 |some (.slice _ n _)=>if n=0 then 1 else 0
 |_=>0
def evM(w:World)(c:Nat):Nat:=evN (w.cell? ⟨c,13,none⟩)
theorem zsa{w:World}{c:Nat}{A:Option Addr}{n:Nat}(h:w.cell? ⟨c,13,none⟩=some (.slice A 0 n)):evM w c=1:=by unfold evM;rw[h];rfl
theorem zxc{w:World}{c:Nat}{A:Option Addr}{n:Nat}(h:w.cell? ⟨c,13,none⟩=some (.slice A 1 n)):evM w c=0:=by unfold evM;rw[h];rfl
def PoR(w w1:World)(c g b p:Nat)(x:Cc)(R:List UInt8)(wr:World):Prop:=Row wr p 31 (evc ev0)∧(wr=w1∨∃v u,Hot wr c { x with row:=v,ev:=u,go:=true } (R++zh (awF 1 (awO x))) [evF 1]∧Fs (λk=>jn c x k∨gbS g b k) w wr∧∀k,jn c { x with row:=v,ev:=u,go:=true } k→jn c x k∨w.heap.size≤k)
theorem zmh(w:World)(X:Fm)(s c:Nat):∃w',((((w.alloc (.cells z2x 66)).alloc (.cells #[.int .u8 0,.int .u32 0] 29)).setRow w.heap.size X.c).setRow (w.heap.size+1) (ftc s c))=w'∧
  Row w' w.heap.size 66 X.c∧Row w' (w.heap.size+1) 29 (ftc s c)∧Below w.heap.size w w'∧
  Row ((w.alloc (.cells z2x 66)).alloc (.cells #[.int .u8 0,.int .u32 0] 29)) w.heap.size 66 (fm0 0 0 0 0).c∧
  Row (((w.alloc (.cells z2x 66)).alloc (.cells #[.int .u8 0,.int .u32 0] 29)).setRow w.heap.size X.c) (w.heap.size+1) 29 (ftc 0 0):=by
 have h1:Row ((w.alloc (.cells z2x 66)).alloc (.cells #[.int .u8 0,.int .u32 0] 29)) w.heap.size 66 (fm0 0 0 0 0).c:=by rw[z_c];exact(Row.new w _ _).alloc _
 have h2:Row ((w.alloc (.cells z2x 66)).alloc (.cells #[.int .u8 0,.int .u32 0] 29)) (w.heap.size+1) 29 (ftc 0 0):=by rw[z9];exact Row.made _ _ _ (by simp)
 have h3:=h2.setRow' (k:=w.heap.size) (by omega) X.c
 refine⟨_,rfl,(h1.setRow _).setRow' (by omega) _,h3.setRow _,?_,h1,h3⟩
 exact zd (zd (((Below.refl _ _).alloc (Nat.le_refl _) _).alloc (by simp) _) _ _ (Nat.le_refl _)) _ _ (by omega)
theorem Vj(w:World)(y:Ev):∃w',(w.alloc (.cells #[.int .u8 0,.int .u32 0,.slice none 0 0,.slice none 0 0,.bool false,.int .u32 0,.int .u8 0,.int .u32 0] 31)).setRow w.heap.size (evc y)=w'∧Row w' w.heap.size 31 (evc y)∧Below w.heap.size w w'∧
  Row (w.alloc (.cells #[.int .u8 0,.int .u32 0,.slice none 0 0,.slice none 0 0,.bool false,.int .u32 0,.int .u8 0,.int .u32 0] 31)) w.heap.size 31 (evc ev0):=by
 have h1:Row (w.alloc (.cells #[.int .u8 0,.int .u32 0,.slice none 0 0,.slice none 0 0,.bool false,.int .u32 0,.int .u8 0,.int .u32 0] 31)) w.heap.size 31 (evc ev0):=by rw[zfx];exact Row.new w _ _
 exact⟨_,rfl,h1.setRow _,zd ((Below.refl _ _).alloc (Nat.le_refl _) _) _ _ (Nat.le_refl _),h1⟩
theorem Hot.cleared{w:World}{c:Nat}{x:Cc}{R:List UInt8}{L:List Ev}(h:Hot w c x R L)(v:Value):Hot ((w.setCell ⟨c,13,none⟩ v).setCell ⟨c,13,none⟩ (.slice none 0 0)) c { x with ev:=.slice none 0 0 } R []∧Fs (jn c x) w ((w.setCell ⟨c,13,none⟩ v).setCell ⟨c,13,none⟩ (.slice none 0 0)):=
 ⟨⟨zab (zab h.row v) _,OwS.setCell (a:=⟨c,13,none⟩) (OwS.setCell (a:=⟨c,13,none⟩) h.bo (Jy h.row h.bo) _) (Jy h.row h.bo) _,EvL.nil _⟩,((Fs.refl _ _).setCell (λ_=>.inl rfl) _ _).setCell (λ_=>.inl rfl) _ _⟩
def z1r(w:World)(c g b:Nat)(x:Cc)(R:List UInt8)(e:Ending)(w':World):Prop:=
 e=.returned (.tuple #[.agg (evc (evF 1)),.bool true])∧∃v u,Hot w' c { x with row:=v,ev:=u,go:=true } (R++zh (awF 1 (awO x))) []∧Fs (λk=>jn c x k∨gbS g b k) w w'
attribute [local irreducible] Cc.c evc Fm.c ftc
theorem zle{w:World}{c g b:Nat}{x:Cc}{R:List UInt8}(h:Hot w c x R [])(hl:R.length≤100000000000)(hla:x.la≤2147483647)(hG:GlobE w)(hF:¬jn c x 0)(hgo:x.go=false)(hbe:x.be=false)(hsp:x.sp=.pointer (some ⟨g,0,none⟩)){l r:List UInt8}{wt bad w2 bad2:Bool}{F:Frm}
  (hS:Spl w g b l wt bad) (hns:nsN l wt bad=(some (F,0,0),r,w2,bad2)) (hty:F.ty≠4) (hfl:F.fl<256) {m:Nat} {T:List (Nat × Nat)} (hsm:x.sm=.map (some m)) (hM:MapM w m T) (hat:atM T F.st 0=none) (hmd:¬gbS g b m) (hd:∀k,jn c x k→¬gbS g b k) (hgE:¬gbS g b 0) :
  Calls Tryz.prog 9 #[.pointer (some ⟨c,0,none⟩)] w (z1r w c g b x R):=by
 obtain⟨A0,c0,hev⟩:=h.shape
 have hb1:Below w.heap.size w (w.alloc (.cells #[.int .u8 0,.int .u32 0,.slice none 0 0,.slice none 0 0,.bool false,.int .u32 0,.int .u8 0,.int .u32 0] 31)):=(Below.refl _ _).alloc (Nat.le_refl _) _
 have hX1:Row (w.alloc (.cells #[.int .u8 0,.int .u32 0,.slice none 0 0,.slice none 0 0,.bool false,.int .u32 0,.int .u8 0,.int .u32 0] 31)) w.heap.size 31 (evc ev0):=by rw[zfx];exact Row.new w _ _
 have HB1:=z2w hb1
 have HX1:=z2w hX1
 have H1:=z2w (HP.of_below h hb1)
 have HS1:=z2w (hS.below hb1)
 have HG1:=z2w (hG.below hb1)
 have HEV:=z2w hev
 have HNS:=z2w hns
 have HSM:=z2w hsm
 have HM1:=z2w (hM.below hb1)
 have HAT:=z2w hat
 have HD:=z2w hd
 have HGO:=z2w hgo
 have HBE:=z2w hbe
 have HSP:=z2w hsp
 have HLS:Hid (∀k,gbS g b k→k<w.heap.size):=λk hk=>by rcases hk with rfl|rfl;exact hS.lts.1;exact hS.lts.2.1
 have HLH:Hid (∀k,jn c x k→k<w.heap.size):=λk hk=>h.lt hk
 clear h hS hG hev hns hsm hM hat hd hgo hbe hsp hb1 hX1
 go_enter Tryz.func9,Tryz.ntmps9
 go_upto_region 1 with fail
 generalize w.alloc (.cells #[.int .u8 0,.int .u32 0,.slice none 0 0,.slice none 0 0,.bool false,.int .u32 0,.int .u8 0,.int .u32 0] 31)=w1 at *
 obtain⟨p,hpp⟩:∃p,w.heap.size=p:=⟨_,rfl⟩
 rw[hpp] at HB1 HX1 ⊢
 have HPQ:=z2w hpp
 clear hpp
 go_wp2_with fail
 go_loopw [] (λwr=>PoR w w1 c g b p x R wr) (λwr=>evM wr c)
 case atStart=>exact⟨HX1.out,.inl rfl⟩
 case round=>
  obtain⟨hxp,hr⟩:=hrel
  have HXP:=z2w hxp
  clear hxp
  rcases hr with hr|hr
  ·obtain rfl:wr=w1:=hr
   have c13:wr.cell? ⟨c,13,none⟩=some (.slice A0 0 c0):=by rw[Xj H1.out.hot.row,HEV.out];rfl
   have c26:=Y3 H1.out.hot.row
   rw[HGO.out] at c26
   have c1:=cc1 H1.out.hot.row
   rw[HSP.out] at c1
   have hn:=zh0 HS1.out HG1.out
   rw[HNS.out] at hn
   have HM:=z2w (zsa c13)
   go_wp2_with fail
   refine hn.mono ?_
   rintro e w2 ⟨v,rfl,⟨X,s,cc,ok,rfl,rfl,rfl,rfl,hX⟩,_,hf2⟩
   have H2:Hid (Hot w2 c x R []):=H1.out.hot.of_fs hf2 HD.out
   have HF2:Hid (Fs (λk=>jn c x k∨gbS g b k) w w2):=(H1.out.fs.mono λk _ hk=>.inl hk).trans hf2 λk _ hk=>.inr hk
   have HG2:=z2w (HG1.out.fs hf2 hgE)
   have hst2:=StOk.no H2.out.row HSM.out (HM1.out.fs hf2 hmd) HAT.out
   obtain⟨w3,hw3,t1,t2,t3,t4,t5⟩:=zmh w2 X 0 0
   have HW3:=z2w hw3
   have TX:=z2w t1
   have TF:=z2w t2
   have TX0:=z2w t4
   have TF0:=z2w t5
   have H3:=z2w (H2.out.below t3)
   have HF3:=z2w (HF2.out.then_below t3)
   have HG3:=z2w (HG2.out.below t3)
   have HS3:=z2w (hst2.below t3)
   have HXP3:Hid (Row w3 p 31 (evc ev0)):=((hf2.row (λhk=>by have:=HLS.out p hk;have:=HPQ.out;omega) HXP.out).below t3 (hf2.row (λhk=>by have:=HLS.out p hk;have:=HPQ.out;omega) HXP.out).lt)
   have HXst:Hid (X.st=F.st):=by show _=_;rw[hX.eq];rfl
   have HFB:Hid (zb0 x X):=⟨HBE.out,by rw[hX.eq];exact hfl,by rw[hX.eq];exact hty⟩
   clear hX hf2 hn hst2 hw3 t1 t2 t3 t4 t5 H2 HF2 HG2 c13 c26 c1
   go_upto_region 7 with (first|(refine qe (x:=X) rfl _ _ rfl rfl rfl TX0.out ?_)|(refine qf (s:=0) (c:=0) rfl _ _ rfl rfl rfl TF0.out ?_))
   rw[HW3.out]
   clear HW3 TX0 TF0
   generalize w2.heap.size=q at *
   have htk:=zmg H3.out hl (by simp) hla HG3.out hF X (by rw[HXst.out];exact HS3.out) HFB.out
   go_wp2_with (first|(refine zg rfl _ rfl rfl TX.out ?_)|(refine zj rfl _ rfl rfl TF.out (Zo 0 0) ?_))
   refine htk.mono ?_
   rintro e w4 ⟨rfl,v,u,h4⟩
   have HR:Hid (PoR w wr c g b p x R w4):=⟨h4.fs.row (λhk=>by have:=HLH.out p hk;have:=HPQ.out;omega) HXP3.out,.inr ⟨v,u,h4.hot,HF3.out.trans h4.fs λk _ hk=>.inl hk,λk hk=>(h4.new k hk).imp id λh5=>Nat.le_trans HF3.out.size h5⟩⟩
   have HM4:Hid (evM w4 c=0):=by
    show _=_
    obtain⟨A5,c5,h5⟩:=h4.hot.shape
    have:=Xj h4.hot.row
    rw[h5] at this
    exact zxc this
   clear h4 htk TX TF H3 HF3 HG3 HS3
   go_wp2_with fail
   go_roundw
   case rel=>exact HR.out
   case measure=>rw[HM4.out,HM.out];omega
  ·obtain⟨v,u,h1,hf,hnw⟩:=hr
   obtain⟨A5,c5,h5⟩:=h1.shape
   have c13:wr.cell? ⟨c,13,none⟩=some (.slice A5 1 c5):=by rw[Xj h1.row,h5];rfl
   have ho:OwS wr 0 31 8 (.slice A5 1 c5) 1 (enl evl [evF 1]):=by
    have h6:=h1.ev
    rw[h5] at h6
    exact h6
   obtain⟨i0,hi0,hz0,hz1,hz2⟩:=zr zdr
   obtain⟨A6,hcut,_,_⟩:=Ji (P:=Tryz.prog) wr 0 81 31 i0 8 Tryz.underlying81 hi0 hz1 ho 1 (Nat.le_refl _)
   have hcut':∀W,(Instr.slice 81 (.slice A5 1 c5) (some (.int .i64 1)) none none).run Tryz.prog W=.ok (.slice A6 0 (c5-1)) W:=hcut
   obtain⟨bb,q,rfl,_,hrg⟩:=ho.reads.elem zac (i:=0) (by simp) (by omega)
   rw[Nat.zero_mul,Nat.add_zero] at hrg
   have hrg':wr.rangeAt bb q (evc (evF 1)).toList:=hrg
   obtain⟨w6,hw6,t1,t2,t3⟩:=Vj wr (evF 1)
   have HW6:=z2w hw6
   have T1:=z2w t1
   have T3:=z2w t3
   have HRG:=z2w hrg'
   have H6:=z2w (h1.below t2)
   have HF6:=z2w (hf.then_below t2)
   have HX6:=z2w (HXP.out.below t2 HXP.out.lt)
   have k13:=Xj H6.out.row
   rw[show ({ x with row:=v,ev:=u,go:=true }:Cc).ev=.slice (some ⟨bb,q,none⟩) 1 c5 from h5] at k13
   have z13:=H6.out.row.thawed 13
   obtain⟨h7,hf7⟩:=H6.out.cleared (.slice A6 0 (c5-1))
   have H7:=z2w h7
   have HF7:Hid (Fs (λk=>jn c x k∨gbS g b k) w _):=HF6.out.trans hf7 (λk hk h8=>by
    rcases hnw k h8 with h9|h9
    ·exact .inl h9
    ·omega)
   have hcp:c≠p:=λe=>by
    have:=HLH.out c (.inl rfl)
    have:=HPQ.out
    omega
   have y13:((w6.setCell ⟨c,13,none⟩ (.slice A6 0 (c5-1))).cell? ⟨c,13,none⟩)=some (.slice A6 0 (c5-1)):=Xj (zab H6.out.row _)
   have yz13:((w6.setCell ⟨c,13,none⟩ (.slice A6 0 (c5-1))).frozen? ⟨c,13,none⟩)=false:=(zab H6.out.row _).thawed 13
   have HX7:Hid (Row ((w6.setCell ⟨c,13,none⟩ (.slice A6 0 (c5-1))).setCell ⟨c,13,none⟩ (.slice none 0 0)) p 31 (evc ev0)):=(HX6.out.stored' (a:=⟨c,13,none⟩) (Ne.symm hcp) _).stored' (a:=⟨c,13,none⟩) (Ne.symm hcp) _
   have HT7:Hid (Row ((w6.setCell ⟨c,13,none⟩ (.slice A6 0 (c5-1))).setCell ⟨c,13,none⟩ (.slice none 0 0)) wr.heap.size 31 (evc (evF 1))):=by
    have hne:wr.heap.size≠c:=by have:=h1.row.lt;omega
    exact(T1.out.stored' (a:=⟨c,13,none⟩) hne _).stored' (a:=⟨c,13,none⟩) hne _
   clear ho hi0 hz0 hz1 hz2 hcut hrg hrg' hw6 t1 t2 t3 h1 h5 hf hnw h7 hf7 H6 HF6 HX6
   go_upto_region 11 with (first|(refine xn (cs:=evc (evF 1)) rfl _ rfl rfl HRG.out (j5 _) ?_)|(refine ze (cs:=evc (evF 1)) rfl _ _ rfl rfl rfl T3.out (Jp _ _) (j5 _) ?_))
   rw[HW6.out]
   clear HW6 T3 T1 HRG c13
   go_upto_region 14 with fail
   clear k13 z13 y13 yz13 hcut'
   generalize (w6.setCell ⟨c,13,none⟩ (.slice A6 0 (c5-1))).setCell ⟨c,13,none⟩ (.slice none 0 0)=w7 at *
   generalize wr.heap.size=q7 at *
   go_wp2_with (first|(refine zj rfl _ rfl rfl HT7.out (j5 _) ?_)|(refine ze (cs:=evc (evF 1)) rfl _ _ rfl rfl rfl HX7.out (Jp _ _) (j5 _) ?_))
   refine bodyPost_ret (zag rfl _ rfl (HX7.out.setRow _) (j5 _) rfl) rfl ?_
   refine⟨rfl,v,.slice none 0 0,?_,?_⟩
   ·exact H7.out.of_fs (S:=λk=>k=p) ((Fs.refl (λk=>k=p) w7).setRow (g:=p) (λ_=>rfl) _) λk hk e=>by
     subst e
     rcases hk with hk|hk|hk
     ·exact hcp hk.symm
     ·obtain⟨cur,h4⟩:=Qq H7.out.bo hk
      exact Jd h4 HX7.out (by decide) rfl
     ·simp[ob,Value.ownBlock] at hk
   ·exact HF7.out.setRow (g:=p) (λhk=>by have:=HPQ.out;omega) _
end
section
theorem zmi{ops:Array Oper}{rest:List Oper}{o:Oper}{a:Act}{w:World}{Q:Exit→Act→World→Prop}(hw:Region.wanted o (yielded ops a.tmps)=true)(y:Operand)(ho:o.op=.load 66 y){g p:Nat}(hy:a.eval y=.pointer (some ⟨g,p,none⟩)){x:Fm}(h:w.rangeAt g p x.c.toList)
  (hk:wpList Tryz.prog ops Q rest (a.put o.dst (.agg x.c)) w):wpList Tryz.prog ops Q (o :: rest) a w:=
 BigFrame.wpList_want hw λ_ hK=>wp_load_mid 66 y ho g p hy x.c.toList _ h Tryz.underlying66 rfl (by rw[Fm.size x];simp) (hK _ _ (by simpa using hk))
def hdF(n:Nat)(b:List UInt8)(en:Bool):Frm:=⟨1,(if en=true then 1 else 0)+4,n,b,-1,0,0,0,false,0,[]⟩
theorem zkq(n:Nat)(b:List UInt8)(en:Bool):(hdF n b en).Ok:=⟨(by decide:1<256),by show (if en=true then 1 else 0)+4<256;split<;>decide,(by decide:0<4294967296),(by decide:0<256),λs hs=>by cases hs⟩
theorem zt9(en:Bool)(k:Nat):yo 1 ((if en=true then 1 else 0)+4) k (-1) 0=k:=by cases en<;>(unfold yo;simp[jl,yq,Q1,zu,ya])
theorem zgc{n:Nat}{b:List UInt8}{en:Bool}(h2:n≤2147483647)(hb:b.length≤16384):(hdF n b en).May:=
 ⟨⟨h2,Nat.zero_le _,Nat.zero_le _⟩,λh=>absurd h (by show ¬1=6;decide),by show Qf 1 ((if en=true then 1 else 0)+4) (-1);cases en<;>decide,
  ⟨λh=>absurd rfl h,(λh=>by cases h),λh=>absurd rfl h,λh=>absurd rfl h,λh=>absurd rfl h,λh=>absurd rfl h,λ_=>(by show ¬(1=2∨1=3∨1=4∨1=8);decide)⟩,by show yo 1 ((if en=true then 1 else 0)+4) b.length (-1) 0≤16384;rw[zt9];omega⟩
theorem zz2(n:Nat)(b:List UInt8)(en:Bool)(A:Option Addr)(c:Nat):({ (hdF n b en).fm A c none 0 with pad:=-1 }:Fm)=(fcx 1 ((if en=true then 1 else 0)+4) n).ownd A b.length c:=rfl
def Zs.blk(z:Zs)(F:List Fd):List UInt8:=Xe z.lim z.low z.eM++xr z.eM z.eL F
attribute [local irreducible] Cc.c evc Fm.c knc mtc Zs.blk jk Xe xr
theorem zvw{w:World}{z:Zs}(h:Sd14 w z){A:Option Addr}{c n:Nat}{F:List Fd}{en:Bool}(hR:RdS w (λk=>k<w.heap.size∧¬zi z.ps k) A (enl fdc F))(hF:∀f∈F,f.nm.length≤9000∧f.vl.length≤9000)(hn:F.length≤1000)(hM:z.eM≤4096)(hL:tot z.eL≤z.eM)(hlow:z.low≤4096)(hb:(z.blk F).length≤1000)(hst:n≤2147483647)(hl:z.R.length≤100000000000) :
  Calls Tryz.prog 36 #[.pointer (some ⟨z.c,0,none⟩),.int .u32 n,.slice A F.length c,.bool en] w (ji λw'=>∃vr rv,ZP w z { z with ew:=vr,eL:=jk z.eM z.eL F,lim:=false,row:=rv,R:=z.R++zh (hdF n (z.blk F) en) } w'):=by
 have c4:w.cell? ⟨z.c,4,none⟩=some (pa0 z.en):=cc4 h.row
 unfold pa0 at c4
 have hen:En w z.B z.en z.et z.ew z.eL z.eM z.lim z.low:=h.1.ok .enc
 have hput:=zuv (c:=c) hen hM hL hlow hR (λk hk=>⟨hk.1,λe=>hk.2 ⟨.enc,.inl e⟩,λe=>hk.2 ⟨.enc,.inr (.inl e)⟩,λe=>hk.2 ⟨.enc,.inr (.inr e)⟩⟩) hF hn
 unfold pt at hput
 have HBL:=z2w hb
 have H:=z2w h
 clear h hen hR
 go_enter Tryz.func36,Tryz.ntmps36
 go_wp2_with fail
 refine hput.mono ?_
 rintro e1 w1 ⟨bv,vr,rfl,hpu⟩
 have hbo:Bo w1 w.heap.size 5 bv (z.blk F):=by unfold Zs.blk;exact hpu.bo
 have H1:Hid (ZP w z { z with ew:=vr,eL:=jk z.eM z.eL F,lim:=false } w1):=ZP.of H.out (H.out.1.one .enc (hpu.fs.mono λk _ hk=>hk) hpu.en (λk hk=>by
  rcases hk with hk|hk|hk
  ·exact .inl (.inl hk)
  ·exact .inl (.inr (.inl hk))
  ·exact(hpu.nx.own hk).imp (λh=>.inr (.inr h)) id) (λm hm=>by cases m<;>first|rfl|exact absurd rfl hm)) rfl
 clear hput hpu c4 H
 obtain⟨A1,c1,rfl,hc1⟩:=Bo.shape hbo
 obtain⟨b,hbb⟩:∃b,z.blk F=b:=⟨_,rfl⟩
 rw[hbb] at hbo hc1 HBL ⊢
 have HBO:=z2w hbo
 have HBB:=z2w hbb
 clear hbo hbb
 have HW2:Hid (Row (w1.alloc (.cells #[.int .u32 0,.slice none 0 0,.bool false] 128)) w1.heap.size 128 (whc 0 none 0 0 false)):=Row.new w1 _ _
 go_upto_region 1 with (refine ze (cs:=whc n A1 b.length c1 en) rfl _ _ rfl rfl rfl HW2.out (j4 _ _ _ _ _ _ _ _ _ _) (qd _ _ _ _ _) ?_)
 have HW3:Hid (Row ((w1.alloc (.cells #[.int .u32 0,.slice none 0 0,.bool false] 128)).setRow w1.heap.size (whc n A1 b.length c1 en)) w1.heap.size 128 (whc n A1 b.length c1 en)):=HW2.out.setRow _
 have hb3:Below w1.heap.size w1 ((w1.alloc (.cells #[.int .u32 0,.slice none 0 0,.bool false] 128)).setRow w1.heap.size (whc n A1 b.length c1 en)):=zd ((Below.refl _ _).alloc (Nat.le_refl _) _) _ _ (Nat.le_refl _)
 have H3:=z2w (H1.out.then_below hb3)
 have HR3:=z2w ((Bo.reads HBO.out).below hb3)
 have hs3:w1.heap.size≤((w1.alloc (.cells #[.int .u32 0,.slice none 0 0,.bool false] 128)).setRow w1.heap.size (whc n A1 b.length c1 en)).heap.size:=hb3.size
 clear hb3 HW2 H1 HBO
 generalize (w1.alloc (.cells #[.int .u32 0,.slice none 0 0,.bool false] 128)).setRow w1.heap.size (whc n A1 b.length c1 en)=w3 at *
 generalize w1.heap.size=p at *
 have hcut:=zv6 (en:=en) (st:=n) (HR3.out.more hs3) hc1 HBL.out (n:=16384) (by omega) (by have:=HBL.out;omega) (by omega)
 have HCUT:=z2w hcut
 clear hcut
 go_wp2_with (refine zj rfl _ rfl rfl HW3.out (qd _ _ _ _ _) ?_)
 refine HCUT.out.mono ?_
 rintro e2 w4 ⟨⟨v,rfl,x,A2,c2,hfr,hx,hd⟩,hb4⟩
 obtain⟨A4,c4,hv,hc4,_⟩:=OwS.shape hfr.own
 have hv:v=.slice A4 1 c4:=hv
 subst hv
 have H4:=z2w (H3.out.then_below hb4)
 obtain⟨g4,q4,hA4,_,hrg⟩:=RdS.elem zja (OwS.reads hfr.own) (i:=0) (by simp) (by omega)
 have hrg:w4.rangeAt g4 (q4+0*11) x.x.c.toList:=hrg
 have hin:=hfr.ins x (by simp)
 subst hA4
 have HRG:=z2w hrg
 have HIN:=z2w hin
 have HX:=z2w hx
 have HD:=z2w hd
 have HS4:Hid (w3.heap.size≤w4.heap.size):=hb4.size
 clear HCUT HR3 HW3 H3 hfr hrg hin hx hd hb4 hs3
 go_upto_region 2 with fail
 go_loopw [23] (λiv wr=>∃k:Nat,k≤1∧iv=.int .i64 k∧Hid (k=0→wr=w4)∧Hid (k=1→∃vr rv,ZP w z { z with ew:=vr,eL:=jk z.eM z.eL F,lim:=false,row:=rv,R:=z.R++zh (hdF n b en) } wr)) (λiv _=>1-(intOf iv).toNat)
 case atStart=>exact⟨0,by omega,rfl,λ_=>rfl,λh=>absurd h (by omega)⟩
 case round=>
  obtain⟨k,hk,rfl,H0,HZ⟩:=hrel
  by_cases hk0:k=0
  ·subst hk0
   obtain rfl:=H0.out rfl
   clear H0 HZ
   have i0:(0:Int)≤0:=by omega
   have i1:(0:Int)<1:=by omega
   obtain⟨w5,hw5,R4,R5,hb5,hs5⟩:=zxy wr x.x
   have HR4:=z2w R4
   have HR5:=z2w R5
   have HW5:=z2w hw5
   have H5:=z2w (H4.out.then_below hb5)
   have HIN5:Hid (RdB w5 w5.heap.size x.x.dA x.d):=RdB.ofS (HIN.out.keep λk hk=>hb5.block k hk.2.1) (λk hk hl=>hl)
   clear R4 R5 hb5 hw5 HIN H4
   go_upto_region 4 with (first|(refine zmi (by rfl) _ rfl rfl HRG.out ?_)|(refine ze (cs:=x.x.c) rfl _ _ rfl rfl rfl HR4.out (ztu _ _) (zlr _) ?_))
   rw[HW5.out]
   clear HR4 HRG HW5
   generalize wr.heap.size=q5 at *
   have hsd:=zhr H5.out.sd hl (hdF n b en) (zkq n b en) (zgc hst (by have:=HBL.out;omega)) rfl (dA:=A2) (sA:=none) (dc:=c2) (sc:=0) (q:=-1) (by have h1:=HIN5.out;rw[HX.out,HD.out] at h1;exact h1) RdS.nil
   rw[zz2,←HX.out] at hsd
   have HSD:=z2w hsd
   clear hsd HIN5 HX HD
   go_wp2_with (refine zg rfl _ rfl rfl HR5.out ?_)
   refine HSD.out.mono ?_
   rintro e w6 ⟨rfl,rv,h6⟩
   have H6:Hid (ZP w z { z with ew:=vr,eL:=jk z.eM z.eL F,lim:=false,row:=rv,R:=z.R++zh (hdF n b en) } w6):=H5.out.trans h6
   clear h6 HSD H5
   go_wp2_with fail
   go_roundw
   case rel=>exact⟨1,by omega,rfl,λh=>absurd h (by omega),λ_=>⟨vr,rv,H6.out⟩⟩
   case measure=>simp[intOf]
  ·obtain rfl:k=1:=by omega
   obtain⟨vr2,rv,h6⟩:=HZ.out rfl
   have H6:=z2w h6
   have i1:decide ((1:Int)<1)=false:=by decide
   clear h6 HZ H0
   go_wp2_with fail
   go_end0
   exact⟨rfl,vr2,rv,by rw[HBB.out];exact H6.out⟩
end
section
def z2b(w:World)(e:Ending)(w':World):Prop:=∃z,Sd14 w' z∧z.B=w.heap.size∧e=.returned (.pointer (some ⟨z.c,0,none⟩))∧Below w.heap.size w w'∧
 ∃c g b ga de dt en et ow mt rg sm F ou rv,z=(qj true w.heap.size c g b ga de dt en et ow mt 65535 rg sm F).told jr ou rv
theorem Ym(srv:Bool)(B c g b ga de dt en et ow mt wn rg sm:Nat)(F:Nat→Prop):(qj srv B c g b ga de dt en et ow mt wn rg sm F).x={ ye g ga de en ow mt rg sm with srv:=srv,wn:=wn }:=rfl
attribute [local irreducible] Cc.c evc Fm.c St.c knc mtc qj
theorem zm0(w:World)(hG:GlobE w):Calls Tryz.prog 23 #[.bool true,.int .u32 0] w (z2b w):=by
 have hgl:0<w.heap.size:=jf hG
 have hn:=zdz w true hG
 have HG:=z2w hG
 clear hG
 go_enter Tryz.func23,Tryz.ntmps23
 go_wp2_with fail
 refine hn.mono ?_
 rintro e w1 ⟨g,rfl,b,h1,hg,hb,hb1⟩
 have HS:Hid (Spl w1 g b [] true false):=by show Spl _ _ _ _ _ _;have:=h1.spl;rwa [Vi] at this
 have RS:Hid ((w.heap.size≤g∧g<w1.heap.size)∧w.heap.size≤b∧b<w1.heap.size):=⟨⟨hg,HS.out.lts.1⟩,hb,HS.out.lts.2.1⟩
 have HB:=z2w hb1
 have HG1:=z2w (HG.out.below hb1)
 have hz1:w.heap.size≤w1.heap.size:=hb1.size
 clear h1 hb1 hn hg hb HG
 go_wp2_with fail
 refine(zg6 HG1.out).mono ?_
 rintro e w2 ⟨rfl,hga,hb2⟩
 have hz2:w1.heap.size≤w2.heap.size:=hb2.size
 replace HS:=z2w (HS.out.below hb2)
 have HGA:Hid (Ga w2 w.heap.size w1.heap.size gm0 none 0 none):=⟨hga.row,Bo.nil,hga.idle,hga.err,hga.ok,hgl,hz1⟩
 have RG:Hid (w1.heap.size≤w1.heap.size∧w1.heap.size<w2.heap.size):=⟨Nat.le_refl _,hga.row.lt⟩
 have HB2:=z2w (HB.out.trans (hb2.mono (by omega)))
 clear hga hb2 HB HG1
 have hd:=zgy 4096 (by omega) w2 w.heap.size (by omega)
 rw[show min 4096 4096=4096 from rfl] at hd
 unfold pt at hd
 go_wp2_with fail
 refine hd.mono ?_
 rintro e w3 ⟨de,dt,rfl,hdn,hde,hdt,hb3⟩
 have hz3:w2.heap.size≤w3.heap.size:=hb3.size
 replace HS:=z2w (HS.out.below hb3)
 replace HGA:=z2w (HGA.out.below hb3)
 have HDN:=z2w hdn
 have RD:Hid ((w2.heap.size≤de∧de<w3.heap.size)∧w2.heap.size≤dt∧dt<w3.heap.size):=⟨⟨hde,Row.lt hdn.d⟩,hdt,hdn.t.lt⟩
 have HB3:=z2w (HB2.out.trans (hb3.mono (by omega)))
 clear hdn hd hde hdt hb3 HB2
 have he:=zf0 4096 (by omega) w3 w.heap.size (by omega)
 rw[show min 4096 4096=4096 from rfl] at he
 unfold pt at he
 go_wp2_with fail
 refine he.mono ?_
 rintro e w4 ⟨en,et,rfl,hen,hee,het,hb4⟩
 have hz4:w3.heap.size≤w4.heap.size:=hb4.size
 replace HS:=z2w (HS.out.below hb4)
 replace HGA:=z2w (HGA.out.below hb4)
 replace HDN:=z2w (HDN.out.below hb4)
 have HEN:=z2w hen
 have RE:Hid ((w3.heap.size≤en∧en<w4.heap.size)∧w3.heap.size≤et∧et<w4.heap.size):=⟨⟨hee,Row.lt hen.e⟩,het,hen.t.lt⟩
 have HB4:=z2w (HB3.out.trans (hb4.mono (by omega)))
 clear hen he hee het hb4 HB3
 go_wp2_with fail
 refine(za5 _).mono ?_
 rintro e w5 ⟨ow,rfl,hsd,hb5⟩
 have hz5:w4.heap.size≤w5.heap.size:=hb5.size
 replace HS:=z2w (HS.out.below hb5)
 replace HGA:=z2w (HGA.out.below hb5)
 replace HDN:=z2w (HDN.out.below hb5)
 replace HEN:=z2w (HEN.out.below hb5)
 have HOW:Hid (Sd w5 w.heap.size ow ju (.slice none 0 0) []):=⟨hsd.row,OwS.nil,by have:=hsd.gl;omega,hsd.ne⟩
 have how1:=hsd.gl
 have how2:=hsd.row.lt
 have HB5:=z2w (HB4.out.trans (hb5.mono (by omega)))
 clear hsd hb5 HB4
 go_wp2_with fail
 refine(Y6 _).mono ?_
 rintro e w6 ⟨rfl,hb6⟩
 have hz6:w5.heap.size≤w6.heap.size:=hb6.size
 replace HS:=z2w (HS.out.below hb6)
 replace HGA:=z2w (HGA.out.below hb6)
 replace HDN:=z2w (HDN.out.below hb6)
 replace HEN:=z2w (HEN.out.below hb6)
 replace HOW:=z2w (HOW.out.below hb6)
 have HB6:=z2w (HB5.out.trans (hb6.mono (by omega)))
 have RO:Hid (w4.heap.size≤ow∧ow<w6.heap.size):=⟨how1,by omega⟩
 clear hb6 HB5 how1 how2
 go_wp2_with fail
 refine(V6 (n:=65535) (by omega) false _).mono ?_
 rintro e w7 ⟨mt,rfl,hmt,hb7,hmg⟩
 have hz7:w6.heap.size≤w7.heap.size:=hb7.size
 replace HS:=z2w (HS.out.below hb7)
 replace HGA:=z2w (HGA.out.below hb7)
 replace HDN:=z2w (HDN.out.below hb7)
 replace HEN:=z2w (HEN.out.below hb7)
 replace HOW:=z2w (HOW.out.below hb7)
 have HMT:Hid (Row w7 mt 162 (mtc 65535 65535 1 0)):=hmt
 have RM:Hid (w6.heap.size≤mt∧mt<w7.heap.size):=⟨hmg,hmt.lt⟩
 have HB7:=z2w (HB6.out.trans (hb7.mono (by omega)))
 clear hmt hmg hb7 HB6
 go_wp2_with fail
 refine(zf3 65535 _).mono ?_
 rintro e w8 ⟨rg,F,rfl,hrg,hF,hb8⟩
 have hz8:w7.heap.size≤w8.heap.size:=hb8.size
 replace HS:=z2w (HS.out.below hb8)
 replace HGA:=z2w (HGA.out.below hb8)
 replace HDN:=z2w (HDN.out.below hb8)
 replace HEN:=z2w (HEN.out.below hb8)
 replace HOW:=z2w (HOW.out.below hb8)
 replace HMT:=z2w (HMT.out.below hb8 HMT.out.lt)
 have HRG:=z2w hrg
 have RR:Hid (∀k,F k→w7.heap.size≤k∧k<w8.heap.size):=λk hk=>⟨hF k hk,hrg.lts k hk⟩
 have HB8:=z2w (HB7.out.trans (hb8.mono (by omega)))
 clear hrg hF hb8 HB7
 have hmk:=Xh
 have hM:=MapM.new w8
 have hmb:Below w8.heap.size w8 (w8.alloc (.map #[] 0)):=(Below.refl _ _).alloc (Nat.le_refl _) _
 have hms:(w8.alloc (.map #[] 0)).heap.size=w8.heap.size+1:=by simp
 obtain⟨wc,hwc,t1,t2,t3⟩:=zbr (w8.alloc (.map #[] 0)) (ye g w1.heap.size de en ow mt rg w8.heap.size)
 rw[hms] at hwc t1 t3
 have HWC:=z2w hwc
 have T1:=z2w t1
 have T3:=z2w t3
 have hbc:=hmb.trans (t2.mono (by omega))
 have hcs:w8.heap.size≤wc.heap.size:=hbc.size
 replace HS:=z2w (HS.out.below hbc)
 replace HGA:=z2w (HGA.out.below hbc)
 replace HDN:=z2w (HDN.out.below hbc)
 replace HEN:=z2w (HEN.out.below hbc)
 replace HOW:=z2w (HOW.out.below hbc)
 replace HMT:=z2w (HMT.out.below hbc HMT.out.lt)
 replace HRG:=z2w (Tr.keep HRG.out λk hk=>hbc.block k (Tr.lts HRG.out k hk))
 have HSM:=z2w (hM.below t2)
 have HB9:=z2w (HB8.out.trans (hbc.mono (by omega)))
 have hsz:=zdb (ye g w1.heap.size de en ow mt rg w8.heap.size)
 have HSZ:=z2w hsz
 clear hwc t1 t2 t3 hmb hms hM HB8 hsz hbc
 go_upto_region 2 with (first|(refine zn rfl 86 _ rfl (ye g w1.heap.size de en ow mt rg w8.heap.size).c (by kernel_rfl) ?_)|(refine ze rfl _ _ rfl rfl rfl T3.out (by rw[HSZ.out];rfl) (znd _ _ _ _ _ _ _ _) ?_))
 rw[HWC.out]
 clear HWC T3 HSZ hmk
 have hs:=Sd14.made (w:=wc) (srv:=true) (wn:=65535) (B:=w.heap.size) (c:=w8.heap.size+1) (sm:=w8.heap.size) (ga:=w1.heap.size) (g:=g) (b:=b) (de:=de) (dt:=dt) (en:=en) (et:=et) (ow:=ow) (mt:=mt) (rg:=rg) (F:=F) (λn=>match n with|0=>w.heap.size|1=>w1.heap.size|2=>w2.heap.size|3=>w3.heap.size|4=>w4.heap.size|5=>w6.heap.size|6=>w7.heap.size|7=>w8.heap.size|8=>w8.heap.size+1|_=>w8.heap.size+2) hgl (Nat.le_refl _) hz1 hz2 hz3 hz4 (by show w4.heap.size≤w6.heap.size;omega) hz7 hz8 (Nat.le_succ _)
  HS.out RS.out HGA.out RG.out HDN.out RD.out HEN.out RE.out HOW.out RO.out HMT.out RM.out HRG.out RR.out HSM.out ⟨Nat.le_refl _,Nat.lt_succ_self _⟩ (by rw[Ym];exact T1.out) ⟨Nat.le_refl _,Nat.lt_succ_self _⟩
 have HZ:=z2w hs
 have c0:Hid (wc.cell? ⟨w8.heap.size+1,0,none⟩=some (.bool true)):=cc0 T1.out
 have hst:=ziv hs (by unfold qj;rfl) (by unfold qj;show (65535:Nat)<4294967296;decide) (by unfold qj;simp) (by unfold qj;simp)
 have hst2:=hst
 rw[show (qj true w.heap.size (w8.heap.size+1) g b w1.heap.size de dt en et ow mt 65535 rg w8.heap.size F).c=w8.heap.size+1 from by unfold qj;rfl] at hst
 have HST:=z2w hst
 clear hst hst2 hs HS HGA HDN HEN HOW HMT HRG HSM T1
 go_wp2_with fail
 refine HST.out.mono ?_
 rintro e w9 ⟨rfl,ou,rv,h9⟩
 have H9:=z2w h9
 clear h9 HST
 go_wp2_with fail
 go_ret
 have hB:(qj true w.heap.size (w8.heap.size+1) g b w1.heap.size de dt en et ow mt 65535 rg w8.heap.size F).B=w.heap.size:=by unfold qj;rfl
 have hC:(qj true w.heap.size (w8.heap.size+1) g b w1.heap.size de dt en et ow mt 65535 rg w8.heap.size F).c=w8.heap.size+1:=by unfold qj;rfl
 have hbl:=H9.out.fs.below (B:=w.heap.size) (λk hk _=>by have:=HZ.out.2.2 k hk;rw[hB] at this;exact this) HB9.out.size
 exact⟨_,H9.out.sd,hB,by show Ending.returned _=Ending.returned (.pointer (some ⟨(qj true w.heap.size (w8.heap.size+1) g b w1.heap.size de dt en et ow mt 65535 rg w8.heap.size F).c,0,none⟩));rw[hC];rfl,HB9.out.trans hbl,w8.heap.size+1,g,b,w1.heap.size,de,dt,en,et,ow,mt,rg,w8.heap.size,F,ou,rv,rfl⟩
end
section
attribute [local irreducible] Cc.c evc Fm.c knc mtc
def Zs.rset(z:Zs)(i:Nat)(e:Ks)(code:Nat)(rv v:Value)(F':Nat→Prop):Zs:=
 { z with rep:=z.rep+1,row:=rv,R:=z.R++zh (rsF e.nu code),ss:=z.ss.set i { e with st:=5,me:=none },lv:=z.lv-1,rm:=xw z.rm e.nu,rF:=F',ov:=v,ol2:=z.ol2++[e.nu] }
theorem zjk{w:World}{P:Nat→Prop}{n code:Nat}:RdS w P none (byc (rsF n code).dat)∧RdS w P none (enl sgc (rsF n code).sets):=⟨RdS.nil,RdS.nil⟩
theorem zvg{w:World}{z:Zs}{i:Nat}{e:Ks}(h:Sd14 w z)(hi:z.ss[i]?=some e){m:Nat × Int × Int × Int}(hme:e.me=some m)(h0:m.2.1-m.2.2.1-m.2.2.2=0)(hu:Yc z.mz z.ml z.mu 0=(0,z.ml,z.mu))(hlv:1≤z.lv∧z.lv≤1000000)(hov:z.ol2.length<64)(hrm:z.rm.Ok)(hsm:z.rm.Sm)
  (hst:1≤e.st∧e.st≤3) (hl:z.R.length≤100000000000) (hrp:z.rep≤1000000000) (hnu:e.nu≤2147483647) {code:Nat} (hcd:code<4294967296) :
  Calls Tryz.prog 46 #[.pointer (some ⟨z.c,0,none⟩),.pointer (some ⟨e.k,0,none⟩),.int .u32 code] w (ji λw'=>∃rv v F',ZP w z (z.rset i e code rv v F') w'):=by
 have k0:w.cell? ⟨e.k,0,none⟩=some (.int .u32 (e.nu:Int)):=kn0 (h.ks hi).r
 have hrep:=zjg h hl hrp (rsF e.nu code) (zkp hcd) (zhd hnu) rfl (dA:=none) (sA:=none) (dc:=0) (sc:=0) (q:=0) rfl zjk.1 zjk.2
 rw[z0r] at hrep
 go_enter Tryz.func46,Tryz.ntmps46
 go_wp2_with fail
 refine hrep.mono ?_
 rintro e1 w1 ⟨rfl,rv,h1⟩
 have H1:Hid (ZP w z { z with rep:=z.rep+1,row:=rv,R:=z.R++zh (rsF e.nu code) } w1):=h1
 have k1:w1.cell? ⟨e.k,1,none⟩=some (.int .u8 (e.st:Int)):=kn1 (h1.sd.ks hi).r
 have hsd:=zel (e.st:Int) 3 false
 rw[show sd (e.st:Int) 3 false=(5,true) from by
  unfold sd
  rw[if_neg (by omega),if_neg (by omega),if_pos (by omega)]] at hsd
 have hmv:=zpn h1.sd hi hme h0 hu hlv hov hrm hsm 5 (by decide)
 clear h1 hrep k0 h
 go_wp2_with (refine(hsd _).mono ?_;rintro e2 w2 ⟨rfl,rfl⟩)
 refine hmv.mono ?_
 rintro e3 w3 ⟨rfl,v,F',h3⟩
 have H3:Hid (ZP w z (z.rset i e code rv v F') w3):=H1.out.trans h3
 clear h3 hmv H1 hsd k1
 go_wp2_with fail
 go_end0
 exact⟨rfl,rv,v,F',H3.out⟩
theorem zxp{w:World}{z:Zs}{i:Nat}{e:Ks}(h:Sd14 w z)(hgo:z.go=false)(hi:z.ss[i]?=some e)(hat:atM (z.ss.map λe=>(e.nu,e.k)) e.nu 0=some (i,e.k)){m:Nat × Int × Int × Int}(hme:e.me=some m)(h0:m.2.1-m.2.2.1-m.2.2.2=0)(hu:Yc z.mz z.ml z.mu 0=(0,z.ml,z.mu))(hlv:1≤z.lv∧z.lv≤1000000)(hov:z.ol2.length<64)(hrm:z.rm.Ok)(hsm:z.rm.Sm)
  (hst:1≤e.st∧e.st≤3) (hl:z.R.length≤100000000000) (hrp:z.rep≤1000000000) (hnu:e.nu≤2147483647) {code:Nat} (hcd:code<4294967296) :
  Calls Tryz.prog 17 #[.pointer (some ⟨z.c,0,none⟩),.int .u32 e.nu,.int .u32 code] w (λx w'=>x=.returned (.int .i64 0)∧∃rv v F',ZP w z (z.rset i e code rv v F') w'):=by
 have hg:=X2 h.row
 have hM:SmIn w z.sm z.ss:=h.1.ok .sm
 have hS:=zd7 h.row rfl hM.m hat (h.ks hi).r
 have hL:=zbg e.st
 rw[show decide (1≤(e.st:Int)∧(e.st:Int)≤3)=true from decide_eq_true (by omega)] at hL
 have hlk:=zdn hM.m hat
 have c19:w.cell? ⟨z.c,19,none⟩=some (.map (some z.sm)):=zbp h.row
 have hr:=zvg h hi hme h0 hu hlv hov hrm hsm hst hl hrp hnu hcd
 clear hM
 rw[show z.x.go=false from hgo] at hg
 rw[show e.kn.st=e.st from rfl] at hS
 go_enter Tryz.func17,Tryz.ntmps17
 go_wp2_with (refine hg.mono ?_;rintro e2 w2 ⟨rfl,rfl⟩)
 refine hS.mono ?_
 rintro e2 w3 ⟨rfl,rfl⟩
 go_wp2_with (refine(hL _).mono ?_;rintro e2 w3 ⟨rfl,rfl⟩)
 refine hr.mono ?_
 rintro e3 w4 ⟨rfl,rv,v,F',h4⟩
 have H4:=z2w h4
 clear h4 hr hlk c19 hL hS hg h
 go_wp2_with fail
 go_ret
 exact⟨rfl,rv,v,F',H4.out⟩
end
end Go.Proofs.YtooaajnkiokpnaaGreatDoor
