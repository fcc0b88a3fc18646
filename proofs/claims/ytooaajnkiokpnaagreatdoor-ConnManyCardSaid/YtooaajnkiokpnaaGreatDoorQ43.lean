/-
  Part of a proof: Poll of a side, out of what take leaves of each frame that came: by its contract. Conditions: those that each theorem names.
-/
import Derived.Test.YtooaajnkiokpnaaGreatDoorQ01
import Derived.Test.YtooaajnkiokpnaaGreatDoorQ35
import Derived.Test.YtooaajnkiokpnaaGreatDoorQ25
import Derived.Test.YtooaajnkiokpnaaGreatDoorQ42
import Derived.Test.YtooaajnkiokpnaaGreatDoorQ41
import Derived.Test.YtooaajnkiokpnaaGreatDoorQ38
import Derived.Deep.LoopGhost
namespace Go.Proofs.YtooaajnkiokpnaaGreatDoor
open Go.RowKit Go.WideShapes
set_option maxHeartbeats 8000000
set_option maxRecDepth 100000
section
def TNP(w:World)(F:Nat→Prop)(g:Nat)(m:Rm)(r:Option (Sn × Nat × Rm))(e:Ending)(w':World):Prop:=
 match r with
 |none=>TP w F g m (.tuple #[.int .u32 0,.slice none 0 0,.bool false,.bool false]) e w'
 |some (x,N,m')=>∃A c,e=.returned (.tuple #[.int .u32 x.st,.slice A N c,.bool (snY N x).ov,.bool true])∧Bo w' w.heap.size 5 (.slice A N c) (x.b.take N)∧∃F',Tr w' F' g m'∧Fs F w w'∧(∀k,F' k→F k∨w.heap.size≤k)∧∀k,ob (.slice A N c) k→¬F' k
theorem Vy{fn:Func}{t u v z:Tmp}(h:fn.results=#[.tmp t,.tmp u,.tmp v,.tmp z])(tmps:Array Value)(P:Program)(w:World) :
  (results fn tmps).run P w=.ok (.tuple #[tmps.getD t undef,tmps.getD u undef,tmps.getD v undef,tmps.getD z undef]) w:=by
 simp[results,h]
theorem TF.set{g q:Nat}{A:Option Addr}{c:Nat}{L:List Se}{i:Nat}{e e':Se}(hi:L[i]?=some e)(h:∀k,e'.fp k→e.fp k):∀k,TF g q A c (L.set i e') k→TF g q A c L k:=by
 intro k hk
 unfold TF at hk
 rw[List.length_set] at hk
 rcases hk with h3|h3|h3|⟨a,ha,h3⟩
 ·exact .inl h3
 ·exact .inr (.inl h3)
 ·exact .inr (.inr (.inl h3))
 ·rcases List.mem_or_eq_of_mem_set ha with ha|rfl
  ·exact TF.of_e ha h3
  ·exact TF.of_e (List.mem_of_getElem? hi) (h k h3)
attribute [local irreducible] Qj rgc fd wnc btw can fc snN
section
variable {w:World}{F:Nat→Prop}{g:Nat}{m:Rm}
theorem zmo(h:Tr w F g m)(hm:m.Ok)(hs:m.Sm)(most:Int):Calls Tryz.prog 80 #[.pointer (some ⟨g,0,none⟩),.int .i64 most] w (TNP w F g m (Zp m most)):=by
 have HSAME:=λ(w':World) (hb:Below w.heap.size w w') (v:Value)=>zdf (v:=v) h hb
 obtain⟨q,A,c,L,hml,ht,hF,htl,hL⟩:=h.of hm hs
 have hll:=Yi hml
 have HC:=z2w (zlt hml ht htl hL hs.b)
 unfold nxP at HC
 unfold Zp
 cases hx:(rot m.l m.t)[fc m.w (rot m.l m.t)]? with
 |none=>
  have hno:¬fc m.w (rot m.l m.t)<m.l.length:=λh1=>by
   rw[←zi3 m.l m.t] at h1
   rw[List.getElem?_eq_getElem h1] at hx
   cases hx
  rw[if_neg hno] at HC
  have HS:=z2w HSAME
  clear ht hml hs hm htl h HSAME hF hx hno
  go_enter Tryz.func80,Tryz.ntmps80
  go_wp2_with fail
  refine HC.out.mono ?_
  rintro r w2 ⟨rfl,hb⟩
  have HP:=z2w (HS.out _ hb (.tuple #[.int .u32 0,.slice none 0 0,.bool false,.bool false]))
  clear hb HC HS
  go_wp2_with fail
  refine bodyPost_ret (Vy rfl _ _ _) rfl ?_
  exact HP.out
 |some x=>
  have hfl:fc m.w (rot m.l m.t)<m.l.length:=by rw[←zi3 m.l m.t];exact(List.getElem?_eq_some_iff.1 hx).1
  have hcx:=zhg hx
  rw[if_pos hfl] at HC
  rw[zj5 (by omega) hfl] at hx
  generalize hk:(m.t+fc m.w (rot m.l m.t))%m.l.length=k at *
  obtain⟨e,he,hex⟩:=z0h hml hx
  subst hex
  have hkl:k<L.length:=(List.getElem?_eq_some_iff.1 he).1
  have hlf:=hm.lf e.x (List.mem_of_getElem? hx)
  have hbl:=hs.b e.x (List.mem_of_getElem? hx)
  have hN:=zo1 (most:=most) hcx
  have HTK:=z2w (λ(w1:World) (h:TrL w1 g q A c L m.t m.w)=>zn9 h he hcx hlf hm.wn hbl most)
  dsimp only
  generalize snN m.w most e.x=N at *
  have e1:((k:Int) == -1)=false:=by rw[beq_eq_false_iff_ne];omega
  have hwk:IntKind.i64.wrap ((k:Int)+1)=(k:Int)+1:=IntWalk.i64_in _ (by omega)
  have e0:((L.length:Int) == 0)=false:=by rw[beq_eq_false_iff_ne];omega
  have HT:=z2w ht
  have HML:=z2w hml
  have HFF:=z2w hF
  have HE:=z2w he
  rw[hll]
  obtain⟨t',ht'⟩:∃t',t'=(k+1)%L.length:=⟨_,rfl⟩
  rw[←ht']
  have hmod:Int.tmod ((k:Int)+1) (L.length:Int)=(t':Int):=by rw[ht'];rfl
  have HTT:=z2w ht'
  clear ht'
  clear ht hml hs hm htl h HSAME hF hx hfl hcx he hlf hbl hk hll
  go_enter Tryz.func80,Tryz.ntmps80
  go_wp2_with fail
  refine HC.out.mono ?_
  rintro r w2 ⟨rfl,hb⟩
  have HT2:=z2w (HT.out.below hb)
  have HW:=z2w hb
  have c0:=(jh HT2.out).1
  obtain⟨b,o,hA,hcc,_,_⟩:=HT2.out.at HE.out
  subst hA
  clear hb HC HT
  go_wp2_with fail
  refine(HTK.out w2 HT2.out).mono ?_
  rintro r w3 ⟨vA,vc,e',rfl,hv,hx',hs',hT3,hF3,hN3⟩
  have hi3:(L.set k e')[k]?=some e':=zce HE.out
  have hse3:=hT3.i e' (List.mem_of_getElem? hi3)
  obtain⟨s0,s1,s2,s3,_⟩:w3.cell? ⟨e.sb,0,none⟩=some (.int .u32 e.x.st)∧w3.cell? ⟨e.sb,1,none⟩=some (.slice e'.A (e.x.b.drop N).length e'.c)∧w3.cell? ⟨e.sb,2,none⟩=some (.bool e.x.en)∧w3.cell? ⟨e.sb,3,none⟩=some (.bool e.x.ov)∧True:=by
   have h9:=yj hse3
   rw[hs',hx'] at h9
   exact⟨h9.1,h9.2.1,h9.2.2.1,h9.2.2.2.1,trivial⟩
  have z3:w3.frozen? ⟨e.sb,3,none⟩=false:=by have h9:=hse3.s.thawed 3;rw[hs'] at h9;exact h9
  obtain⟨v,hv9⟩:∃v:Bool,v=(e.x.en&&decide (e.x.b.drop N=[])):=⟨_,rfl⟩
  obtain⟨hse4,hf4⟩:=hse3.ov v
  rw[hs'] at hse4 hf4
  have hT4:=hT3.upd hi3 hf4 hse4 rfl (λk hk=>.inl hk)
  rw[List.set_set] at hT4
  have hN4:∀b',TF g q (some ⟨b,o,none⟩) c (L.set k (e'.upOv v)) b'→TF g q (some ⟨b,o,none⟩) c L b':=λb' hb'=>hN3 b' (TF.set hi3 (e':=e'.upOv v) (λ_ h=>h) b' (by rw[List.set_set];exact hb'))
  have hF4:Fs (TF g q (some ⟨b,o,none⟩) c L) w2 (w3.setCell ⟨e.sb,3,none⟩ (.bool v)):=hF3.trans (hf4.mono (S':=TF g q (some ⟨b,o,none⟩) c L) λk' _ hk'=>hN3 k' (TF.of_e (List.mem_of_getElem? hi3) hk')) λ_ _ h=>h
  have hsbF:TF g q (some ⟨b,o,none⟩) c L e.sb:=TF.of_e (List.mem_of_getElem? HE.out) (.inl rfl)
  have hFl:∀k',TF g q (some ⟨b,o,none⟩) c L k'→k'<w2.heap.size:=λk' hk'=>HT2.out.lt hk'
  have hvl:∀k',ob (.slice vA N vc) k'→w2.heap.size≤k':=λk' hk'=>(OwS.lt hv k' hk').1
  have hv4:Bo (w3.setCell ⟨e.sb,3,none⟩ (.bool v)) w2.heap.size 5 (.slice vA N vc) (e.x.b.take N):=OwS.setCell (a:=⟨e.sb,3,none⟩) hv (λh=>by have:=hvl _ h;have h2:=hFl _ hsbF;have h3:(⟨e.sb,3,none⟩:Addr).block=e.sb:=rfl;omega) _
  have hx4:(e'.upOv v).x=snY N e.x:=by
   show ({ e'.x with ov:=v }:Sn)=_
   rw[hx',hv9]
   rfl
  have hst4:(w3.setCell ⟨e.sb,3,none⟩ (.bool v)).cell? ⟨e.sb,0,none⟩=some (.int .u32 e.x.st)∧(w3.setCell ⟨e.sb,3,none⟩ (.bool v)).cell? ⟨e.sb,3,none⟩=some (.bool v):=by
   have h9:=yj hse4
   have e9:(e'.upOv v).sb=e.sb:=hs'
   rw[e9] at h9
   have h10:(e'.upOv v).x.st=e.x.st:=by rw[hx4];rfl
   rw[h10] at h9
   exact⟨h9.1,h9.2.2.2.1⟩
  have HT4:=z2w hT4
  have HF4:=z2w hF4
  have HN4:=z2w hN4
  have HV4:=z2w hv4
  have HX4:=z2w hx4
  have HV9:=z2w hv9
  have HFL:=z2w hFl
  have HVL:=z2w hvl
  have HC4:=z2w hst4
  have HS':=z2w hs'
  have HSB:=z2w hsbF
  clear hT3 hF3 hN3 hi3 hse3 hse4 hf4 hT4 hN4 hF4 hsbF hFl hvl hv4 hx4 hst4 hv hx' hs' HTK HT2 hcc c0 hv9
  go_upto_region 6 with fail
  go_cut [] from 27 to 61 (λwx=>wx=w3.setCell ⟨e.sb,3,none⟩ (.bool v))
  case first=>
   have hv:=HV9.out
   clear s0
   generalize e.x.b.drop N=Bd at *
   cases hen:e.x.en
   ·rw[hen] at s2 hv
    go_wp2_with fail
    go_meet
    case rel=>rw[hv];rfl
   ·rw[hen] at s2 hv
    by_cases hbd:Bd=[]
    ·have hv':v=true:=by rw[hv];simp[hbd]
     rw[hbd] at s1
     clear hv hbd
     go_wp2_with fail
     go_meet
     case rel=>rw[hv']
    ·have hbn:=List.length_pos_iff.2 hbd
     have hv':v=false:=by rw[hv];simp[hbd]
     have e9:((Bd.length:Int) == 0)=false:=by rw[beq_eq_false_iff_ne];omega
     clear hv hbd
     go_wp2_with fail
     go_meet
     case rel=>rw[hv']
  case rest=>
   obtain rfl:=hcut
   clear s0 s1 s2 s3 z3
   generalize w3.setCell ⟨e.sb,3,none⟩ (.bool v)=w4 at *
   have hr4:=HT4.out.r
   rw[List.length_set] at hr4
   obtain⟨c0,c1⟩:w4.cell? ⟨g,0,none⟩=some (.slice (some ⟨b,o,none⟩) L.length c)∧w4.cell? ⟨g,1,none⟩=some (.int .i64 m.t):=⟨hr4.cell (by unfold rgc;rfl),hr4.cell (by unfold rgc;rfl)⟩
   have z1:=hr4.thawed 1
   have HT5:Hid (TrL (w4.setCell ⟨g,1,none⟩ (.int .i64 t')) g q (some ⟨b,o,none⟩) c (L.set k (e'.upOv v)) t' (m.w-N)):=HT4.out.turn (Vs _ _ _ _) (zae HT4.out.r)
   have HF5:Hid (Fs (TF g q (some ⟨b,o,none⟩) c L) w2 (w4.setCell ⟨g,1,none⟩ (.int .i64 t'))):=HF4.out.setCell (λ_=>.inl rfl) _ _
   have hgF:TF g q (some ⟨b,o,none⟩) c L g:=.inl rfl
   have hge:g≠e.sb:=λh=>by
    have hi9:(L.set k (e'.upOv v))[k]?=some (e'.upOv v):=zce HE.out
    exact HT4.out.r.ne_type (HT4.out.i _ (List.mem_of_getElem? hi9)).s (by decide) (h.trans HS'.out.symm)
   have HV5:Hid (Bo (w4.setCell ⟨g,1,none⟩ (.int .i64 t')) w2.heap.size 5 (.slice vA N vc) (e.x.b.take N)):=OwS.setCell (a:=⟨g,1,none⟩) HV4.out (λh=>by have:=HVL.out _ h;have h2:=HFL.out _ hgF;have h3:(⟨g,1,none⟩:Addr).block=g:=rfl;omega) _
   have d0:(w4.setCell ⟨g,1,none⟩ (.int .i64 t')).cell? ⟨e.sb,0,none⟩=some (.int .u32 e.x.st)∧(w4.setCell ⟨g,1,none⟩ (.int .i64 t')).cell? ⟨e.sb,3,none⟩=some (.bool v):=by
    refine⟨?_,?_⟩
    ·exact(World.cell?_of_block (a:=⟨e.sb,0,none⟩) (Below.heap_setCell w4 ⟨g,1,none⟩ _ e.sb λh=>hge h.symm)).trans HC4.out.1
    ·exact(World.cell?_of_block (a:=⟨e.sb,3,none⟩) (Below.heap_setCell w4 ⟨g,1,none⟩ _ e.sb λh=>hge h.symm)).trans HC4.out.2
   clear hr4
   go_upto_region 8 with fail
   clear c0 c1 z1
   generalize w4.setCell ⟨g,1,none⟩ (.int .i64 t')=w5 at *
   obtain⟨d0,d3⟩:=d0
   have HP:Hid (∀n,TNP w F g m (some (e.x,N,⟨m.l.set k (snY N e.x),t',m.w-N⟩)) (.returned (.tuple #[.int .u32 e.x.st,.slice vA N vc,.bool v,.bool true])) (w5.drewN n)):=λn=>by
    refine⟨vA,vc,?_,?_,_,⟨q,some ⟨b,o,none⟩,c,L.set k (e'.upOv v),?_,HT5.out.keep λ_ _=>rfl,rfl⟩,?_,?_,?_⟩
    ·have:(snY N e.x).ov=v:=by rw[HV9.out];rfl
     rw[this]
    ·exact(OwS.keep (w':=w5.drewN n) HV5.out λ_ _=>rfl).mono HW.out.size
    ·show m.l.set k (snY N e.x)=_
     rw[List.map_set,HML.out,HX4.out]
    ·rw[HFF.out]
     exact((Fs.of_below HW.out).trans HF5.out λ_ _ h=>h).drewN n
    ·rw[HFF.out]
     exact λk' hk'=>.inl (HN4.out k' hk')
    ·exact λk' hk' h9=>by
      have h1:=HVL.out k' hk'
      have h2:=HFL.out k' (HN4.out k' h9)
      omega
   clear HT4 HF4 HN4 HV4 HX4 HV9 HFL HVL HC4 HS' HSB HT5 HF5 HV5 HW HML HFF HE hgF hge
   go_quiet (fail)
   go_wp2_with fail
   refine bodyPost_ret (Vy rfl _ _ _) rfl ?_
   exact HP.out _
end
end
section
theorem Vt{f:Frm}(hk:f.Ok)(hm:f.May)(h1:¬yu f.ty f.st=true)(h2:Yf f.ty f.fl (zw f++f.dat).length=true)(h3:j7 f.ty f.st f.win=0):Zu (zh f)=(f,0,0):=by
 have hs:=J2 f hm
 have hb:=zid f hk hm
 have hp:=zpd f hm.2.2.1
 unfold zh
 rw[zoe _ _ _ _ _ (by omega) hk.ty hk.fl hm.1.1 rfl]
 unfold jt
 rw[if_neg (by omega),hp,if_neg h1]
 simp only[hb]
 rw[if_neg (by rw[h2];simp),if_pos h3]
structure OkF(f:Frm):Prop where
 ok:f.Ok
 may:f.May
 got:Zu (zh f)=(f,0,0)
theorem zcy{f:Frm}(h:OkF f)(m:List UInt8):nsN (zh f++m) false false=(some (f,0,0),m,false,false):=by
 refine zho ?_ (by simp)
 unfold nxN
 rw[if_neg (by simp),zpj h.may h.got]
theorem zq8{f:Frm}(h:OkF f)(m:List UInt8):nsN (qo++(zh f++m)) true false=(some (f,0,0),m,false,false):=by
 have h24:¬(qo++(zh f++m)).length<24:=by rw[List.length_append,y8];omega
 refine zho ?_ (by simp)
 unfold nxN
 rw[if_pos rfl,if_neg (by
  unfold Jb
  rw[show min (qo++(zh f++m)).length 24=24 by omega,List.take_append_of_le_length (by decide)]
  simp),if_neg h24,show (qo++(zh f++m)).drop 24=zh f++m from List.drop_left' rfl,zpj h.may h.got]
theorem zb7:nsN [] false false=(none,[],false,false):=zh2 (by unfold nxN nfN;simp)
theorem z02{n:Nat}{b:List UInt8}{en:Bool}(h1:1≤n)(h2:n≤2147483647)(hb:b.length≤16384):OkF (hdF n b en):=
 ⟨zkq n b en,zgc h2 hb,Vt (zkq n b en) (zgc h2 hb) (by
  unfold yu
  rw[decide_eq_true_eq]
  show ¬Yp 1 n
  unfold Yp
  omega) (decide_eq_true (by
   show jb 1 ((if en=true then 1 else 0)+4) _
   unfold jb
   refine⟨λh=>?_,by omega,by omega,by omega,by omega,by omega,by omega⟩
   exfalso
   have:=h.2
   cases en<;>simp at this)) (by show j7 1 n 0=0;unfold j7;rw[if_neg (by omega)])⟩
theorem z0z{n code:Nat}(h1:1≤n)(h2:n≤2147483647)(hc:code<4294967296):OkF (rsF n code):=
 ⟨zkp hc,zhd h2,Vt (zkp hc) (zhd h2) (by
  unfold yu
  rw[decide_eq_true_eq]
  show ¬Yp 3 n
  unfold Yp
  omega) (decide_eq_true (by
   show jb 3 0 ((be 4 code)++[]).length
   rw[List.append_nil,zl]
   unfold jb
   omega)) (by show j7 3 n 0=0;unfold j7;rw[if_neg (by omega)])⟩
theorem zt5:OkF akF:=⟨zl3,zg9,Vt zl3 zg9 (by show ¬yu 4 0=true;decide) (by show Yf 4 1 0=true;decide) (by show j7 4 0 0=0;decide)⟩
theorem zze:OkF (stF jr):=⟨zcn,V9,Vt zcn V9 (by show ¬yu 4 0=true;decide) (by show Yf 4 0 18=true;decide) (by show j7 4 0 0=0;decide)⟩
theorem zzx{n:Nat}(h:n<4294967296):OkF (stF (ja n)):=
 ⟨zgx h,zdk n,Vt (zgx h) (zdk n) (by
  show ¬yu 4 0=true
  decide) (decide_eq_true (by
   show jb 4 0 (zw (stF (ja n))++[]).length
   rw[List.append_nil,show zw (stF (ja n))=qt (ja n) from rfl,Jc]
   exact(by decide:jb 4 0 18))) (by show j7 4 0 0=0;decide)⟩
def Y0(m:Rm):Prop:=∀x∈m.l,x.b=[]∧x.en=false
theorem V2{m:Rm}(h:Y0 m)(most:Int):Zp m most=none:=by
 cases hn:Zp m most with
 |none=>rfl
 |some r=>
  obtain⟨x,N,m'⟩:=r
  obtain⟨i,hi,hx,_,_⟩:=zih hn
  have hc:=zhg (by rw[←hi];exact hx)
  have hm:x∈m.l:=zw5.1 (List.mem_of_getElem? hx)
  obtain⟨h1,h2⟩:=h x hm
  unfold can at hc
  rw[if_pos h1,h2] at hc
  simp at hc
theorem zeh{m:Rm}(h:Y0 m)(s:Nat)(lf:Int):Y0 (xy m s lf).1:=by
 unfold xy
 split
 ·exact h
 ·intro x hx
  rcases List.mem_append.1 hx with h1|h1
  ·exact h x h1
  ·rw[List.mem_singleton] at h1
   subst h1
   exact⟨rfl,rfl⟩
theorem ze1{m:Rm}(h:Y0 m)(s:Nat):Y0 (xw m s):=by
 unfold xw
 split
 ·exact λx hx=>h x (zds hx)
 ·exact h
theorem zdq{m:Rm}(h:Y0 m)(hl:m.l.length≤1000):m.Sm:=⟨hl,λx hx=>by rw[(h x hx).1];simp⟩
theorem zhk(m:Rm)(s:Nat)(lf:Int):(xy m s lf).1.l.length≤m.l.length+1:=by
 unfold xy
 split
 ·exact Nat.le_succ _
 ·simp
theorem zg8(m:Rm)(s:Nat):(xw m s).l.length≤m.l.length:=by
 unfold xw
 split
 ·rename_i h
  have:=zjt h
  show (m.l.take (fd s m.l)++m.l.drop (fd s m.l+1)).length≤_
  omega
 ·exact Nat.le_refl _
theorem zwv(m:Rm)(h:m.l=[])(d:Int):Yh m d=(m,0):=by
 obtain⟨l,t,w⟩:=m
 have h:l=[]:=h
 subst h
 rfl
end
section
def Zs.nxd(z:Zs)(l:List UInt8)(wt:Bool):Zs:={ z with l:=l,wt:=wt,bad:=false }
structure Feeds(c:Nat)(J:Nat→List Frm→Zs→Prop):Prop where
 c:∀{n Fs z},J n Fs z→z.c=c∧z.go=false
 pop:∀{n Fs z y r} (v:Value),J n Fs z→z.es=y :: r→∃m,n=m+1∧J m Fs { z with ev:=v,es:=r }
 last:∀{n z},J n [] z→z.es=[]→nsN z.l z.wt z.bad=(none,z.l,z.wt,z.bad)
 next:∀{n F Fs z},J n (F :: Fs) z→z.es=[]→∃l' wt',nsN z.l z.wt z.bad=(some (F,0,0),l',wt',false)∧∀(W:World) (X:Fm) (base:Nat),Sd14 W (z.nxd l' wt')→GlobE W→FmIs W base X F→(∀k,zi (z.nxd l' wt').ps k→k<base)→
  Calls Tryz.prog 31 #[.pointer (some ⟨z.c,0,none⟩),.agg X.c,.agg (ftc 0 0)] W (ji λw'=>∃z',ZP W (z.nxd l' wt') z' w'∧J n Fs z')
theorem ZP.spl{w w':World}{z:Zs}{l':List UInt8}{wt' bad':Bool}(h:Sd14 w z)(hs:Spl w' z.g z.b l' wt' bad')(hf:Fs (gbS z.g z.b) w w'):ZP w z { z with l:=l',wt:=wt',bad:=bad' } w':=
 ZP.of h (h.1.one .spl hf hs (λk hk=>.inl hk) (λm hm=>by cases m<;>first|rfl|exact absurd rfl hm)) rfl
theorem ZP.evs{w:World}{z:Zs}{v:Value}{L:List Ev}(h:Sd14 w z)(he:EvL w v L)(hn:∀k,ob v k→ob z.ev k):ZP w z { z with ev:=v,es:=L } (w.setCell ⟨z.c,13,none⟩ v):=by
 have hne:∀k,ob v k→k≠z.c:=λk hk e=>zaf h.row (h.1.ok .ev) (e▸hn k hk)
 refine ZP.of h (h.1.two .row .ev ?_ (zab h.row v) ?_ (λk hk=>.inl hk) (λk hk=>.inr (.inl (hn k hk))) (λk hk hk2=>?_) (λm hm hm2=>?_)) rfl
 ·exact(Fs.refl (λk=>(zbf z).fp k∨(aEv z).fp k) w).setCell (λ_=>.inl rfl) _ _
 ·exact OwS.setCell (a:=⟨z.c,13,none⟩) he (λhk=>hne z.c hk rfl) _
 ·exact hne k hk2 hk
 ·cases m<;>first|rfl|exact absurd rfl hm|exact absurd rfl hm2
theorem zj9{z:Zs}{v:Value}{L:List Ev}{k:Nat}(hv:∀k,ob v k→ob z.ev k)(hk:zi ({ z with ev:=v,es:=L }:Zs).ps k):zi z.ps k:=by
 obtain⟨i,hi⟩:=hk
 exact⟨i,by cases i<;>first|exact hi|exact hv k hi⟩
theorem zy2{z:Zs}{L:List Ev}{k:Nat}(hk:zi ({ z with ev:=.slice none 0 0,es:=L }:Zs).ps k):zi z.ps k:=zj9 (λk hk=>by cases hk) hk
def z08(w:World)(z:Zs)(J:Nat→List Frm→Zs→Prop)(n:Nat)(e:Ending)(w':World):Prop:=
 (∃y m Fs' zq z',m<n∧e=.returned (.tuple #[.agg (evc y),.bool true])∧ZP w z z' w'∧J m Fs' z'∧(∃k v r,J k Fs' zq∧zq.es=y :: r∧z'={ zq with ev:=v,es:=r }))∨
 (∃z',e=.returned (.tuple #[.agg (evc ev0),.bool false])∧ZP w z z' w'∧J n [] z'∧z'.es=[])
attribute [local irreducible] Cc.c evc Fm.c ftc knc
structure PlJ(w1 wr:World)(z:Zs)(J:Nat→List Frm→Zs→Prop)(n p:Nat)(k:Nat):Prop where
 r:Row wr p 31 (evc ev0)
 s:∃Fs' z',Fs'.length=k∧ZP w1 z z' wr∧J n Fs' z'
theorem zy8{w:World}{z:Zs}{J:Nat→List Frm→Zs→Prop}(hJ:Feeds z.c J){n:Nat}{Fs0:List Frm}(h:Sd14 w z)(hG:GlobE w)(hj:J n Fs0 z) :
  Calls Tryz.prog 9 #[.pointer (some ⟨z.c,0,none⟩)] w (z08 w z J n):=by
 have hb1:Below w.heap.size w (w.alloc (.cells #[.int .u8 0,.int .u32 0,.slice none 0 0,.slice none 0 0,.bool false,.int .u32 0,.int .u8 0,.int .u32 0] 31)):=(Below.refl _ _).alloc (Nat.le_refl _) _
 have hX1:Row (w.alloc (.cells #[.int .u8 0,.int .u32 0,.slice none 0 0,.slice none 0 0,.bool false,.int .u32 0,.int .u8 0,.int .u32 0] 31)) w.heap.size 31 (evc ev0):=by rw[zfx];exact Row.new w _ _
 have hI:PlJ (w.alloc (.cells #[.int .u8 0,.int .u32 0,.slice none 0 0,.slice none 0 0,.bool false,.int .u32 0,.int .u8 0,.int .u32 0] 31)) (w.alloc (.cells #[.int .u8 0,.int .u32 0,.slice none 0 0,.slice none 0 0,.bool false,.int .u32 0,.int .u8 0,.int .u32 0] 31)) z J n w.heap.size Fs0.length:=⟨hX1,Fs0,z,rfl,ZP.refl (h.below hb1),hj⟩
 have HI:=z2w hI
 have HPN:Hid (¬zi z.ps w.heap.size∧w.heap.size<(w.alloc (.cells #[.int .u8 0,.int .u32 0,.slice none 0 0,.slice none 0 0,.bool false,.int .u32 0,.int .u8 0,.int .u32 0] 31)).heap.size):=⟨λhk=>by have:=h.1.lt hk;omega,hX1.lt⟩
 have HZ1:=z2w (ZP.of_below h hb1)
 have H0:=z2w h
 have HG0:=z2w hG
 have HJ:=z2w hJ
 have HB1:=z2w hb1
 clear hb1 hX1 h hG hj hJ hI
 go_enter Tryz.func9,Tryz.ntmps9
 go_upto_region 1 with fail
 generalize w.alloc (.cells #[.int .u8 0,.int .u32 0,.slice none 0 0,.slice none 0 0,.bool false,.int .u32 0,.int .u8 0,.int .u32 0] 31)=w1 at *
 obtain⟨p,hpp⟩:∃p,w.heap.size=p:=⟨_,rfl⟩
 rw[hpp] at HI HPN ⊢
 have HPQ:=z2w hpp
 clear hpp
 go_wp2_with fail
 go_loopg [] (Fs0.length) (λk wr=>Hid (PlJ w1 wr z J n p k))
 case atStart=>exact HI
 case round=>
  clear HI
  have HI:=hrel
  clear hrel
  obtain⟨Fs',z',hlen,hz,hj⟩:=HI.out.s
  have HZ:=z2w hz
  have HR:=z2w HI.out.r
  have HLEN:=z2w hlen
  obtain⟨hc,hgo⟩:=HJ.out.c hj
  have HJ':=z2w hj
  have HC:=z2w hc
  obtain⟨A0,c0,hev⟩:=hz.sd.evs
  have c13:wr.cell? ⟨z'.c,13,none⟩=some (.slice A0 z'.es.length c0):=by rw[Xj hz.sd.row,show z'.x.ev=z'.ev from rfl,hev]
  have c26:wr.cell? ⟨z'.c,26,none⟩=some (.bool z'.go):=Y3 hz.sd.row
  have c1:wr.cell? ⟨z'.c,1,none⟩=some (pa0 z'.g):=cc1 hz.sd.row
  unfold pa0 at c1
  rw[hc] at c13 c26 c1
  rw[hgo] at c26
  have HEV:=z2w hev
  clear hz hj hc hgo hlen hev HI
  have HPZ:Hid (¬zi z'.ps p):=λhk=>(HZ.out.new p hk).elim HPN.out.1 λh=>by have:=HPN.out.2;omega
  cases hes:z'.es with
  |nil=>
   rw[hes] at c13
   have HES:=z2w hes
   have hn:=zh0 (HZ.out.sd.1.ok .spl) (HZ.out.glob HZ1.out.sd (HG0.out.below HB1.out))
   cases Fs' with
   |nil=>
    rw[HJ.out.last HJ'.out hes] at hn
    clear hes
    go_wp2_with fail
    refine hn.mono ?_
    rintro e w2 ⟨v,rfl,⟨X,s,cc,ok,rfl,rfl,rfl,rfl,rfl⟩,hsp,hf2⟩
    have H2:Hid (ZP w1 z z' w2):=HZ.out.trans (ZP.spl HZ.out.sd hsp hf2)
    have HXP2:=z2w (hf2.row (λhk=>HPZ.out ⟨.spl,hk⟩) HR.out)
    obtain⟨w3,hw3,t1,t2,t3,t4,t5⟩:=zmh w2 (fm0 0 0 0 0) 0 0
    have HW3:=z2w hw3
    have TX0:=z2w t4
    have TF0:=z2w t5
    have H3:=z2w (H2.out.then_below t3)
    have HXP3:=z2w (HXP2.out.below t3 HXP2.out.lt)
    clear hsp hf2 hn hw3 t1 t2 t3 t4 t5 H2 HXP2 c13 c26 c1
    go_upto_region 7 with (first|(refine qe (x:=fm0 0 0 0 0) rfl _ _ rfl rfl rfl TX0.out ?_)|(refine qf (s:=0) (c:=0) rfl _ _ rfl rfl rfl TF0.out ?_))
    rw[HW3.out]
    clear HW3 TX0 TF0
    generalize w2.heap.size=q at *
    have HE0:=z2w zfx
    go_wp2_with (refine ze (cs:=evc ev0) rfl _ _ rfl rfl (by rw[HE0.out];rfl) HXP3.out (Jp _ _) (j5 _) ?_)
    refine bodyPost_ret (zag rfl _ rfl (HXP3.out.setRow _) (j5 _) rfl) rfl ?_
    exact .inr ⟨z',rfl,xd (HZ1.out.trans H3.out) HPZ.out (by rw[HPQ.out];exact Nat.le_refl _) _,HJ'.out,HES.out⟩
   |cons F Fs2=>
    obtain⟨l',wt',hns,htk⟩:=HJ.out.next HJ'.out hes
    rw[hns] at hn
    have HTK:=z2w htk
    have HLN:Hid (Fs2.length+1=gk):=HLEN.out
    clear hes hns htk
    go_wp2_with fail
    refine hn.mono ?_
    rintro e w2 ⟨v,rfl,⟨X,s,cc,ok,rfl,rfl,rfl,rfl,hX⟩,hsp,hf2⟩
    have h2:ZP wr z' (z'.nxd l' wt') w2:=ZP.spl HZ.out.sd hsp hf2
    have HXP2:=z2w (hf2.row (λhk=>HPZ.out ⟨.spl,hk⟩) HR.out)
    have hsz2:wr.heap.size≤w2.heap.size:=hf2.size
    obtain⟨w3,hw3,t1,t2,t3,t4,t5⟩:=zmh w2 X 0 0
    have HW3:=z2w hw3
    have TX:=z2w t1
    have TF:=z2w t2
    have TX0:=z2w t4
    have TF0:=z2w t5
    have H2:=z2w h2
    have H3:=z2w (H2.out.then_below t3)
    have HXP3:=z2w (HXP2.out.below t3 HXP2.out.lt)
    have HX3:Hid (FmIs w3 wr.heap.size X F):=FmIs.below hX t3
    have hG3:GlobE w3:=(HZ.out.trans H3.out).glob HZ1.out.sd (HG0.out.below HB1.out)
    have hlt3:∀k,zi (z'.nxd l' wt').ps k→k<wr.heap.size:=λk hk=>by
     obtain⟨i,hi⟩:=hk
     exact HZ.out.sd.1.lt ⟨i,by cases i<;>exact hi⟩
    have HT:=z2w (HTK.out w3 X wr.heap.size H3.out.sd hG3 HX3.out hlt3)
    have HPZ2:Hid (¬zi (z'.nxd l' wt').ps p):=λhk=>HPZ.out (by
     obtain⟨i,hi⟩:=hk
     exact⟨i,by cases i<;>exact hi⟩)
    rw[HC.out] at HT
    clear hX hf2 hn hsp h2 hsz2 hw3 t1 t2 t3 t4 t5 hG3 hlt3 HTK HX3 HXP2 c13 c26 c1
    go_upto_region 7 with (first|(refine qe (x:=X) rfl _ _ rfl rfl rfl TX0.out ?_)|(refine qf (s:=0) (c:=0) rfl _ _ rfl rfl rfl TF0.out ?_))
    rw[HW3.out]
    clear HW3 TX0 TF0
    generalize w2.heap.size=q at *
    go_wp2_with (first|(refine zg rfl _ rfl rfl TX.out ?_)|(refine zj rfl _ rfl rfl TF.out (Zo 0 0) ?_))
    refine HT.out.mono ?_
    rintro e w4 ⟨rfl,z2,h4,hj4⟩
    have HI4:Hid (PlJ w1 w4 z J n p Fs2.length):=⟨h4.fs.row HPZ2.out HXP3.out,Fs2,z2,rfl,HZ.out.trans (H3.out.trans h4),hj4⟩
    clear h4 hj4 HT TX TF H3 H2 HXP3
    go_wp2_with fail
    go_roundg Fs2.length
    case measure=>have:=HLN.out;omega
    case rel=>exact HI4
  |cons y r=>
   rw[hes] at c13
   have hEv:EvL wr z'.ev z'.es:=HZ.out.sd.1.ok .ev
   rw[HEV.out,hes] at hEv
   have HES:=z2w hes
   obtain⟨i0,hi0,hz0,hz1,hz2⟩:=zr zdr
   have ho:OwS wr 0 31 8 (.slice A0 (r.length+1) c0) (r.length+1) (enl evl (y :: r)):=by
    have h6:=hEv
    unfold EvL at h6
    rw[List.length_cons] at h6
    exact h6
   obtain⟨A6,hcut,ho6,hob6⟩:=Ji (P:=Tryz.prog) wr 0 81 31 i0 8 Tryz.underlying81 hi0 hz1 ho 1 (by omega)
   have hcut':∀W,(Instr.slice 81 (.slice A0 (r.length+1) c0) (some (.int .i64 1)) none none).run Tryz.prog W=.ok (.slice A6 r.length (c0-1)) W:=hcut
   have hdr:(enl evl (y :: r)).drop (1*8)=enl evl r:=by rw[Jj zac];rfl
   have ho7:EvL wr (.slice A6 r.length (c0-1)) r:=by
    rw[hdr] at ho6
    exact ho6
   have hob7:∀k,ob (.slice A6 r.length (c0-1)) k→ob z'.ev k:=λk hk=>by
    rw[HEV.out,HES.out]
    unfold ob at hk ⊢
    rw[←hk]
    exact hob6.symm
   obtain⟨bb,q,rfl,_,hrg⟩:=ho.reads.elem zac (i:=0) (by simp) (by simp)
   rw[Nat.zero_mul,Nat.add_zero] at hrg
   have hrg':wr.rangeAt bb q (evc y).toList:=hrg
   obtain⟨w6,hw6,t1,t2,t3⟩:=Vj wr y
   have HW6:=z2w hw6
   have T1:=z2w t1
   have T3:=z2w t3
   have HRG:=z2w hrg'
   have H6:=z2w (HZ.out.then_below t2)
   have HX6:=z2w (HR.out.below t2 HR.out.lt)
   have HO6:=z2w (ho7.below t2)
   have HOB:=z2w hob7
   have k13:w6.cell? ⟨z'.c,13,none⟩=some z'.ev:=Xj H6.out.sd.row
   have z13:=H6.out.sd.row.thawed 13
   rw[HC.out] at k13 z13
   rw[HEV.out,hes,List.length_cons] at k13
   have HAD:Hid ((⟨z'.c,13,none⟩:Addr)=⟨z.c,13,none⟩):=by show _=_;rw[HC.out]
   have h7:=ZP.evs H6.out.sd HO6.out HOB.out
   rw[HAD.out] at h7
   have H7:=z2w (H6.out.trans h7)
   have HCN:Hid (z.c≠p):=λe=>HPZ.out (by rw[←e];exact⟨.row,HC.out.symm⟩)
   have HQN:Hid (wr.heap.size≠z.c):=by have:=HZ.out.sd.row.lt;have:=HC.out;show _≠_;omega
   have HX7:=z2w (HX6.out.stored' (a:=⟨z.c,13,none⟩) (Ne.symm HCN.out) (.slice A6 r.length (c0-1)))
   have HT7:=z2w (T1.out.stored' (a:=⟨z.c,13,none⟩) HQN.out (.slice A6 r.length (c0-1)))
   rw[List.length_cons] at c13
   clear hEv ho hi0 hz0 hz1 hz2 hcut ho6 hob6 hdr ho7 hob7 hrg hrg' hw6 t1 t2 t3 h7 c26 c1 hes
   go_upto_region 11 with (first|(refine xn (cs:=evc y) rfl _ rfl rfl HRG.out (j5 _) ?_)|(refine ze (cs:=evc y) rfl _ _ rfl rfl rfl T3.out (Jp _ _) (j5 _) ?_))
   rw[HW6.out]
   clear HW6 T3 T1 HRG c13
   go_upto_region 12 with fail
   clear k13 z13 hcut'
   generalize w6.setCell ⟨z.c,13,none⟩ (.slice A6 r.length (c0-1))=w7 at *
   generalize wr.heap.size=q7 at *
   obtain⟨m,hm1,hm2⟩:=HJ.out.pop (.slice A6 r.length (c0-1)) HJ'.out HES.out
   have j13:w7.cell? ⟨z'.c,13,none⟩=some (.slice A6 r.length (c0-1)):=Xj H7.out.sd.row
   have y13:=H7.out.sd.row.thawed 13
   have y13:w7.frozen? ⟨z.c,13,none⟩=false:=by rw[←HAD.out];exact y13
   rw[HC.out] at j13
   cases r with
   |nil=>
    obtain⟨m2,hm3,hm4⟩:=HJ.out.pop (.slice none 0 0) HJ'.out HES.out
    have h8:=ZP.evs (v:=.slice none 0 0) (L:=[]) H7.out.sd (EvL.nil _) (λk hk=>by cases hk)
    have H8:Hid (ZP w1 z { z' with ev:=.slice none 0 0,es:=[] } (w7.setCell ⟨z.c,13,none⟩ (.slice none 0 0))):=by
     show ZP _ _ _ _
     rw[←HAD.out]
     exact H7.out.trans h8
    have HX8:=z2w (HX7.out.stored' (a:=⟨z.c,13,none⟩) (Ne.symm HCN.out) (.slice none 0 0))
    have HT8:=z2w (HT7.out.stored' (a:=⟨z.c,13,none⟩) HQN.out (.slice none 0 0))
    have HM:=z2w (And.intro hm3 hm4)
    clear h8 hm1 hm2 hm3 hm4
    go_upto_region 14 with fail
    clear j13 y13
    generalize w7.setCell ⟨z.c,13,none⟩ (.slice none 0 0)=w8 at *
    go_wp2_with (first|(refine zj rfl _ rfl rfl HT8.out (j5 _) ?_)|(refine ze (cs:=evc y) rfl _ _ rfl rfl rfl HX8.out (Jp _ _) (j5 _) ?_))
    refine bodyPost_ret (zag rfl _ rfl (HX8.out.setRow _) (j5 _) rfl) rfl ?_
    exact .inl ⟨y,m2,Fs',z',_,by have:=HM.out.1;omega,rfl,xd (HZ1.out.trans H8.out) (λhk=>HPZ.out (zy2 hk)) (by rw[HPQ.out];exact Nat.le_refl _) _,HM.out.2,n,_,[],HJ'.out,HES.out,rfl⟩
   |cons y2 r2=>
    have HM:=z2w (And.intro hm1 hm2)
    clear hm1 hm2
    go_upto_region 14 with fail
    clear j13 y13
    go_wp2_with (first|(refine zj rfl _ rfl rfl HT7.out (j5 _) ?_)|(refine ze (cs:=evc y) rfl _ _ rfl rfl rfl HX7.out (Jp _ _) (j5 _) ?_))
    refine bodyPost_ret (zag rfl _ rfl (HX7.out.setRow _) (j5 _) rfl) rfl ?_
    exact .inl ⟨y,m,Fs',z',_,by have:=HM.out.1;omega,rfl,xd (HZ1.out.trans H7.out) (λhk=>HPZ.out (zj9 HOB.out hk)) (by rw[HPQ.out];exact Nat.le_refl _) _,HM.out.2,n,_,y2 :: r2,HJ'.out,HES.out,rfl⟩
end
end Go.Proofs.YtooaajnkiokpnaaGreatDoor
