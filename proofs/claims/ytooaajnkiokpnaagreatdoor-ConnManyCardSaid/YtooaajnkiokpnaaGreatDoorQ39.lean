/-
  Part of a proof: RST_STREAM of a live stream comes, of whose bytes none were told: by its contract. Conditions: those that each theorem names.
-/
import Derived.Test.YtooaajnkiokpnaaGreatDoorQ36
import Derived.Test.YtooaajnkiokpnaaGreatDoorQ06
import Derived.Test.YtooaajnkiokpnaaGreatDoorQ01
import Derived.Test.YtooaajnkiokpnaaGreatDoorQ07
import Derived.Test.YtooaajnkiokpnaaGreatDoorQ31
namespace Go.Proofs.YtooaajnkiokpnaaGreatDoor
open Go.RowKit Go.WideShapes
set_option maxHeartbeats 4000000
set_option maxRecDepth 100000
section
def CmP(p:Int × Int × Int)(w:World)(e:Ending)(w':World):Prop:=
 ∃v,e=.returned (.tuple #[.int .u8 p.1,v])∧Below w.heap.size w w'∧((p.2.1=0∧p.2.2=0∧v=.nilIface)∨∃g,v=.iface 172 (.pointer (some ⟨g,0,none⟩))∧Row w' g 174 #[.int .u8 p.2.1,.int .u32 p.2.2])
theorem CmP.none(s:Int)(w:World):CmP (s,0,0) w (.returned (.tuple #[.int .u8 s,.nilIface])) w:=⟨_,rfl,Below.refl _ _,.inl ⟨rfl,rfl,rfl⟩⟩
theorem CmP.of{s a b:Int}{w w':World}{v:Value}(h:Err a b w (.returned v) w'):CmP (s,a,b) w (.returned (.tuple #[.int .u8 s,v])) w':=by
 obtain⟨g,h1,h2,h3⟩:=h
 obtain rfl:=Ending.returned.inj h1
 exact⟨_,rfl,h3,.inr ⟨g,rfl,h2⟩⟩
theorem zdv(s k:Int)(e:Bool)(w:World):Calls Tryz.prog 224 #[.int .u8 s,.int .u8 k,.bool e] w (CmP (Z8 s k e) w):=by
 by_cases k1:k=1
 ·subst k1
  cases e
  ·rw[show Z8 s 1 false=(s,2,1) by simp[Z8]]
   go_enter Tryz.func224,Tryz.ntmps224
   go_wp2_with fail
   refine(Q9 1 _).mono ?_
   rintro e' w1 ⟨g,rfl,hr,hb⟩
   have HE:=z2w (CmP.of (s:=s) ⟨g,rfl,hr,hb⟩)
   clear hr hb
   go_wp2
   go_ret2
   exact HE.out
  ·rw[show Z8 s 1 true=(za3 s true,0,0) by simp[Z8]]
   go_enter Tryz.func224,Tryz.ntmps224
   go_wp2_with fail
   refine(zj3 s true _).mono ?_
   rintro e' w1 ⟨rfl,rfl⟩
   go_wp2
   go_ret2
   exact CmP.none _ _
 by_cases k0:k=0
 ·subst k0
  clear k1
  rw[show Z8 s 0 e=(za3 s e,0,0) by simp[Z8]]
  go_enter Tryz.func224,Tryz.ntmps224
  go_wp2_with fail
  refine(zj3 s e _).mono ?_
  rintro e' w1 ⟨rfl,rfl⟩
  go_wp2
  go_ret2
  exact CmP.none _ _
 by_cases k3:k=3
 ·subst k3
  clear k1 k0
  rw[show Z8 s 3 e=(6,0,0) by simp[Z8]]
  go_enter Tryz.func224,Tryz.ntmps224
  go_wp2
  go_ret2
  exact CmP.none _ _
 rw[show Z8 s k e=(s,0,0) by simp[Z8,k1,k0,k3]]
 have e1:=je k1
 have e0:=je k0
 have e3:=je k3
 clear k1 k0 k3
 go_enter Tryz.func224,Tryz.ntmps224
 go_wp2
 go_ret2
 exact CmP.none _ _
theorem zai(s k:Int)(e:Bool)(w:World):Calls Tryz.prog 202 #[.int .u8 s,.int .u8 k,.bool e] w (CmP (jm s k e) w):=by
 by_cases s0:s=0
 ·subst s0
  by_cases k1:k=1
  ·subst k1
   cases e
   ·rw[show jm 0 1 false=(1,0,0) by simp[jm]]
    go_enter Tryz.func202,Tryz.ntmps202
    go_wp2
    go_ret2
    exact CmP.none _ _
   ·rw[show jm 0 1 true=Z8 0 1 true by simp[jm,Z8,za3]]
    go_enter Tryz.func202,Tryz.ntmps202
    go_wp2_with fail
    refine(zdv 0 1 true _).mono ?_
    rintro e' w1 ⟨v,rfl,hv⟩
    have HV:=z2w hv
    clear hv
    go_wp2
    go_ret2
    exact⟨_,rfl,HV.out⟩
  rw[show jm 0 k e=(0,1,1) by simp[jm,k1]]
  have e1:=je k1
  clear k1
  go_enter Tryz.func202,Tryz.ntmps202
  go_wp2_with fail
  refine(qw 1 _).mono ?_
  rintro e' w1 ⟨g,rfl,hr,hb⟩
  have HE:=z2w (CmP.of (s:=0) ⟨g,rfl,hr,hb⟩)
  clear hr hb
  go_wp2
  go_ret2
  exact HE.out
 by_cases s1:s=1
 ·subst s1
  clear s0
  rw[show jm 1 k e=Z8 1 k e by simp[jm]]
  go_enter Tryz.func202,Tryz.ntmps202
  go_wp2_with fail
  refine(zdv 1 k e _).mono ?_
  rintro e' w1 ⟨v,rfl,hv⟩
  have HV:=z2w hv
  clear hv
  go_wp2
  go_ret2
  exact⟨_,rfl,HV.out⟩
 by_cases s2:s=2
 ·subst s2
  clear s0 s1
  rw[show jm 2 k e=Z8 2 k e by simp[jm]]
  go_enter Tryz.func202,Tryz.ntmps202
  go_wp2_with fail
  refine(zdv 2 k e _).mono ?_
  rintro e' w1 ⟨v,rfl,hv⟩
  have HV:=z2w hv
  clear hv
  go_wp2
  go_ret2
  exact⟨_,rfl,HV.out⟩
 by_cases s3:s=3
 ·subst s3
  clear s0 s1 s2
  by_cases k3:k=3
  ·subst k3
   rw[show jm 3 3 e=(6,0,0) by simp[jm]]
   go_enter Tryz.func202,Tryz.ntmps202
   go_wp2
   go_ret2
   exact CmP.none _ _
  have e3:=je k3
  by_cases hc:k=1∨k=0
  ·rw[show jm 3 k e=(3,2,5) by simp[jm,k3,hc]]
   have HC:=z2w (Qw hc)
   clear hc k3
   go_enter Tryz.func202,Tryz.ntmps202
   go_wp2_with fail
   refine(HC.out _).mono ?_
   rintro e' w1 ⟨rfl,rfl⟩
   go_wp2_with fail
   refine(Q9 5 _).mono ?_
   rintro e' w1 ⟨g,rfl,hr,hb⟩
   have HE:=z2w (CmP.of (s:=3) ⟨g,rfl,hr,hb⟩)
   clear hr hb
   go_wp2
   go_ret2
   exact HE.out
  rw[show jm 3 k e=(3,0,0) by simp[jm,k3,hc]]
  have HC:=z2w (Q6 (k:=k) (by omega) (by omega))
  clear hc k3
  go_enter Tryz.func202,Tryz.ntmps202
  go_wp2_with fail
  refine(HC.out _).mono ?_
  rintro e' w1 ⟨rfl,rfl⟩
  go_wp2
  go_ret2
  exact CmP.none _ _
 by_cases s6:s=6
 ·subst s6
  clear s0 s1 s2 s3
  by_cases hc:k=1∨k=0
  ·rw[show jm 6 k e=(6,2,5) by simp[jm,hc]]
   have HC:=z2w (Qw hc)
   clear hc
   go_enter Tryz.func202,Tryz.ntmps202
   go_wp2_with fail
   refine(HC.out _).mono ?_
   rintro e' w1 ⟨rfl,rfl⟩
   go_wp2_with fail
   refine(Q9 5 _).mono ?_
   rintro e' w1 ⟨g,rfl,hr,hb⟩
   have HE:=z2w (CmP.of (s:=6) ⟨g,rfl,hr,hb⟩)
   clear hr hb
   go_wp2
   go_ret2
   exact HE.out
  rw[show jm 6 k e=(6,0,0) by simp[jm,hc]]
  have HC:=z2w (Q6 (k:=k) (by omega) (by omega))
  clear hc
  go_enter Tryz.func202,Tryz.ntmps202
  go_wp2_with fail
  refine(HC.out _).mono ?_
  rintro e' w1 ⟨rfl,rfl⟩
  go_wp2
  go_ret2
  exact CmP.none _ _
 by_cases s4:s=4
 ·subst s4
  clear s0 s1 s2 s3 s6
  by_cases hc:k=1∨k=0
  ·rw[show jm 4 k e=(4,1,5) by simp[jm,hc]]
   have HC:=z2w (Qw hc)
   clear hc
   go_enter Tryz.func202,Tryz.ntmps202
   go_wp2_with fail
   refine(HC.out _).mono ?_
   rintro e' w1 ⟨rfl,rfl⟩
   go_wp2_with fail
   refine(qw 5 _).mono ?_
   rintro e' w1 ⟨g,rfl,hr,hb⟩
   have HE:=z2w (CmP.of (s:=4) ⟨g,rfl,hr,hb⟩)
   clear hr hb
   go_wp2
   go_ret2
   exact HE.out
  rw[show jm 4 k e=(4,0,0) by simp[jm,hc]]
  have HC:=z2w (Q6 (k:=k) (by omega) (by omega))
  clear hc
  go_enter Tryz.func202,Tryz.ntmps202
  go_wp2_with fail
  refine(HC.out _).mono ?_
  rintro e' w1 ⟨rfl,rfl⟩
  go_wp2
  go_ret2
  exact CmP.none _ _
 rw[show jm s k e=(s,0,0) by simp[jm,s0,s1,s2,s3,s4,s6]]
 have e0:=je s0
 have e1:=je s1
 have e2:=je s2
 have e3:=je s3
 have e4:=je s4
 have e6:=je s6
 clear s0 s1 s2 s3 s4 s6
 go_enter Tryz.func202,Tryz.ntmps202
 go_wp2
 go_ret2
 exact CmP.none _ _
theorem zqc(s k:Int)(e:Bool)(w:World):Calls Tryz.prog 167 #[.int .u8 s,.int .u8 k,.bool e] w (CmP (cm s k e) w):=by
 by_cases hs:6<s
 ·rw[show cm s k e=(s,1,2) by simp[cm,hs]]
  go_enter Tryz.func167,Tryz.ntmps167
  go_wp2_with fail
  refine(qw 2 _).mono ?_
  rintro e' w1 ⟨g,rfl,hr,hb⟩
  have HE:=z2w (CmP.of (s:=s) ⟨g,rfl,hr,hb⟩)
  clear hr hb
  go_wp2
  go_ret2
  exact HE.out
 have d6:decide (6<s)=false:=decide_eq_false hs
 by_cases k1:k=1
 ·subst k1
  rw[show cm s 1 e=jm s 1 e by simp[cm,hs]]
  clear hs
  go_enter Tryz.func167,Tryz.ntmps167
  go_wp2_with fail
  refine(zai s 1 e _).mono ?_
  rintro e' w1 ⟨v,rfl,hv⟩
  have HV:=z2w hv
  clear hv
  go_wp2
  go_ret2
  exact⟨_,rfl,HV.out⟩
 by_cases k0:k=0
 ·subst k0
  rw[show cm s 0 e=jm s 0 e by simp[cm,hs]]
  clear hs k1
  go_enter Tryz.func167,Tryz.ntmps167
  go_wp2_with fail
  refine(zai s 0 e _).mono ?_
  rintro e' w1 ⟨v,rfl,hv⟩
  have HV:=z2w hv
  clear hv
  go_wp2
  go_ret2
  exact⟨_,rfl,HV.out⟩
 by_cases k3:k=3
 ·subst k3
  rw[show cm s 3 e=jm s 3 e by simp[cm,hs]]
  clear hs k1 k0
  go_enter Tryz.func167,Tryz.ntmps167
  go_wp2_with fail
  refine(zai s 3 e _).mono ?_
  rintro e' w1 ⟨v,rfl,hv⟩
  have HV:=z2w hv
  clear hv
  go_wp2
  go_ret2
  exact⟨_,rfl,HV.out⟩
 by_cases k8:k=8
 ·subst k8
  rw[show cm s 8 e=jm s 8 e by simp[cm,hs]]
  clear hs k1 k0 k3
  go_enter Tryz.func167,Tryz.ntmps167
  go_wp2_with fail
  refine(zai s 8 e _).mono ?_
  rintro e' w1 ⟨v,rfl,hv⟩
  have HV:=z2w hv
  clear hv
  go_wp2
  go_ret2
  exact⟨_,rfl,HV.out⟩
 by_cases k2:k=2
 ·subst k2
  rw[show cm s 2 e=(s,0,0) by simp[cm,hs]]
  clear hs k1 k0 k3 k8
  go_enter Tryz.func167,Tryz.ntmps167
  go_wp2
  go_ret2
  exact CmP.none _ _
 rw[show cm s k e=(s,1,1) by simp[cm,hs,k0,k1,k2,k3,k8]]
 have e0:=je k0
 have e1:=je k1
 have e2:=je k2
 have e3:=je k3
 have e8:=je k8
 clear hs k1 k0 k3 k8 k2
 go_enter Tryz.func167,Tryz.ntmps167
 go_wp2_with fail
 refine(qw 1 _).mono ?_
 rintro e' w1 ⟨g,rfl,hr,hb⟩
 have HE:=z2w (CmP.of (s:=s) ⟨g,rfl,hr,hb⟩)
 clear hr hb
 go_wp2
 go_ret2
 exact HE.out
def CmF(p:Int × Int × Int)(w:World)(e:Ending)(w':World):Prop:=e=.returned (.tuple #[.int .u8 p.1,.agg (Zl p.2.1 p.2.2)])∧Below w.heap.size w w'
theorem zxm{P:Program}{T:TypeId}{fn:Func}{u q:Tmp}{v:Value}{w:World}{g:Nat}{cs:Array Value}(h:fn.results=#[.tmp u,.cell q T])(tmps:Array Value)(hu:tmps.getD u undef=v)(hq:tmps.getD q undef=.pointer (some ⟨g,0,none⟩))(hR:Row w g T cs)(hk:AgOk P T cs) :
  (results fn tmps).run P w=.ok (.tuple #[v,.agg cs]) w:=by
 have hv:=Q3 hk hR
 have hu':tmps[u]?.getD undef=v:=by simpa using hu
 have hq':tmps[q]?.getD undef=.pointer (some ⟨g,0,none⟩):=by simpa using hq
 simp only[results,h]
 simp[hu',hq',asAddr,hv]
theorem z1j(w:World):Calls Tryz.prog 111 #[.nilIface] w λe w'=>e=.returned (.agg (Zl 0 0))∧Below w.heap.size w w':=zhh w
theorem z2r{g:Nat}{s c:Int}{w:World}(hR:Row w g 174 #[.int .u8 s,.int .u32 c])(hG:GlobE w):Calls Tryz.prog 111 #[.iface 172 (.pointer (some ⟨g,0,none⟩))] w λe w'=>e=.returned (.agg (Zl s c))∧Below w.heap.size w w':=Xq hR hG
attribute [local irreducible] Zl
theorem zes(s k:Int)(e:Bool){w:World}(hG:GlobE w):Calls Tryz.prog 135 #[.int .u8 s,.int .u8 k,.bool e] w (CmF (cm s k e) w):=by
 have HC:=z2w (zqc s k e)
 unfold CmF
 generalize cm s k e=p at *
 obtain⟨w1,hw1,t1,t2,t3⟩:∃w1,w.alloc (.cells #[.int .u8 0,.int .u32 0] 29)=w1∧Row w1 w.heap.size 29 (Zl 0 0)∧Below w.heap.size w w1∧w1.heap.size=w.heap.size+1:=⟨_,rfl,zkw w⟩
 have HG1:=z2w (hG.below t2)
 have T1:=z2w t1
 have T2:=z2w t2
 have T7:=z2w hw1
 clear t1 t2 hw1 hG
 go_enter Tryz.func135,Tryz.ntmps135
 go_upto_region 1 with fail
 rw[T7.out]
 go_wp2_with fail
 refine(HC.out _).mono ?_
 rintro e' w2 ⟨v,rfl,hb2,hv⟩
 have HG2:=z2w (HG1.out.below hb2)
 have HR2:Hid (Row w2 w.heap.size 29 (Zl 0 0)):=T1.out.below hb2 (by omega)
 have HB2:=z2w (T2.out.trans (hb2.mono (by omega)))
 have HO:Hid (Calls Tryz.prog 111 #[v] w2 λe w'=>e=.returned (.agg (Zl p.2.1 p.2.2))∧Below w2.heap.size w2 w'):=by
  rcases hv with ⟨h1,h2,rfl⟩|⟨g,rfl,hr⟩
  ·rw[h1,h2];exact z1j w2
  ·exact z2r hr HG2.out
 clear hb2 hv HC HG1 T1 T2 T7
 go_wp2_with fail
 refine HO.out.mono ?_
 rintro e' w3 ⟨rfl,hb3⟩
 have HR3:Hid (Row w3 w.heap.size 29 (Zl 0 0)):=HR2.out.below hb3 HR2.out.lt
 have HB3:=z2w (HB2.out.trans (hb3.mono HB2.out.size))
 clear hb3
 go_wp2_with (refine ze (cs:=Zl p.2.1 p.2.2) rfl _ _ rfl rfl rfl HR3.out (zyk _ _ _ _) (zm8 _ _) ?_)
 exact bodyPost_ret (zxm rfl _ rfl rfl (HR3.out.setRow _) (zm8 _ _)) rfl ⟨rfl,zd HB3.out _ _ (Nat.le_refl _)⟩
end
section
def zkf(w:World)(base g:Nat)(v:Value)(r:St × List St × Nat)(e:Ending)(w':World):Prop:=
 e=.returned (.tuple #[.agg r.1.c,.agg (zk r.2.2 r.2.2)])∧∃v',Sd w' base g r.1 v' r.2.1∧Fs (sb g v) w w'∧Nx w v v'
theorem Va{w:World}{b q k:Nat}{cs:List Value}(h:w.rangeAt b q cs)(hne:b≠k)(c:Array Value):(w.setRow k c).rangeAt b q cs:=λj v hj=>(World.cell?_of_block (a:=⟨b,q+j,none⟩) (setRow_other w k b c hne)).trans (h j v hj)
def zlf(cs:Array Value):Nat→List Value→Array Value
 |_,[]=>cs
 |o,v :: r=>zlf (cs.setIfInBounds o v) (o+1) r
theorem zc1{g:Nat}{t:TypeId}:∀(vs:List Value) (o:Nat) (w:World) (cs:Array Value),Row w g t cs→Row (w.setCells g o vs) g t (zlf cs o vs)
 |[],_,_,_,h=>h
 |v :: r,o,_,_,h=>zc1 r (o+1) _ _ (h.stored o v)
theorem znx{w:World}{g:Nat}{n x:St}{v:Value}(h:Row w g 157 (sdc n v)):Row (w.setCells g 0 x.c.toList) g 157 (sdc x v):=by
 have e:zlf (sdc n v) 0 x.c.toList=sdc x v:=by kernel_rfl
 have h1:=zc1 x.c.toList 0 w _ h
 rw[e] at h1
 exact h1
theorem zr2{w:World}{g:Nat}{n:St}{v:Value}(h:Row w g 157 (sdc n v))(x:St):w.there g 0 x.c.size:=λj hj=>by
 have hj7:j<7:=hj
 rw[Nat.zero_add]
 refine⟨?_,h.thawed j⟩
 rw[h.cell (v:=(sdc n v)[j]'(by show j<8;omega)) (Array.getElem?_eq_getElem _)]
 rfl
theorem Vk(x:List Value):∀(w:World) (g k o:Nat),k≠g→(w.setCells g o x).heap[k]?=w.heap[k]?:=by
 induction x with
 |nil=>intros;rfl
 |cons v r ih=>intro w g k o hk;rw[World.setCells,ih _ _ _ _ hk];exact Below.heap_setCell w _ v k hk
theorem zpe{S:Nat→Prop}{w w':World}(h:Fs S w w'){g:Nat}(hg:g<w.heap.size→S g):∀(x:List Value) (o:Nat),Fs S w (w'.setCells g o x):=by
 intro x
 induction x generalizing w' with
 |nil=>intro o;exact h
 |cons v r ih=>intro o;rw[World.setCells];exact ih (h.setCell hg o v) _
theorem zqn{P:Program}{T:TypeId}{cs:Array Value}{ops:Array Oper}{o:Oper}{a:Act}{w:World}{K:Act→World→Prop}{Q:Exit→Act→World→Prop}{E:Prop}(hgd:o.guard=none)(p q:Operand)(ho:o.op=.store T p q){b i:Nat}(hp:a.eval p=.pointer (some ⟨b,i,none⟩))(hv:a.eval q=.agg cs)(ht:w.there b i cs.size)(hk:AgOk P T cs)
  (hq:K (a.put o.dst undef) (w.setCells b i cs.toList)):if Region.wanted o (yielded ops a.tmps)=true then Oper.wp P o a w K Q else E:=by
 have hw:Region.wanted o (yielded ops a.tmps)=true:=by simp[Region.wanted,hgd]
 rw[if_pos hw]
 exact wp_store_mid T p q ho b i cs hp hv ht hk.s hk.o hq
attribute [local irreducible] St.c zk sec
theorem z2d{w:World}{base g:Nat}{n:St}{v:Value}(h:Sd w base g n v []) :
  Calls Tryz.prog 136 #[.pointer (some ⟨g,0,none⟩)] w (zkf w base g v (n,[],1)):=by
 obtain⟨r2,r3,rb,rs⟩:=zj0 w
 have H2:=z2w r2
 have H3:=z2w r3
 have HB:=z2w rb
 have H:=z2w (h.below rb)
 have hgl:=h.row.lt
 have HLT:=z2w h.lts
 obtain⟨A1,c1,rfl⟩:=h.shape
 have hsn:=H.out.sent
 clear r2 r3 rb rs h
 go_enter Tryz.func136,Tryz.ntmps136
 go_upto_region 1 with fail
 generalize (w.alloc (.cells #[.int .u32 0,.bool false,.int .u32 0,.int .u32 0,.int .u32 0,.int .u32 0,.bool false] 59)).alloc (.cells #[.int .u8 0,.int .u32 0] 29)=w1 at *
 go_wp2_with fail
 clear hsn
 refine wp_region_held_drew (S:=λw'=>w'.rangeAt g 0 n.c.toList) (by kernel_rfl) H.out.now (λhHeld=>?_)
 refine tkH 0 ?_
 refine tkH 1 ?_
 refine tkH 2 ?_
 refine tkY 3 rfl (zcw (by rfl) _ rfl rfl (St.ok _) (λ_ hSw=>hSw)) ?_
 refine rdH 4 λK hK=>?_
 go_simp
 go_at_call 122
 refine(Z1 1 _).mono ?_
 rintro e w4 ⟨rfl,hb4⟩
 have hb4':Below w1.heap.size w1 w4:=hb4.mono (Nat.le_refl _) |> λh=>((Below.refl _ _).drew).trans h
 have H4:=z2w (H.out.below hb4')
 have H24:=z2w (H2.out.below hb4' H2.out.lt)
 have H34:=z2w (H3.out.below hb4' H3.out.lt)
 have HB4:=z2w (HB.out.trans (hb4'.mono HB.out.size))
 clear hb4 hb4' H H2 H3 HB hHeld
 go_simp
 refine hK.out _ _ H4.out.now (λhHeld=>?_)
 clear hK K
 try refine ptk ?_
 refine rdH 5 λK hK=>?_
 refine qq (cs:=n.c) rfl (.tmp 2) (.tmp 17) rfl rfl rfl H24.out (St.sz _ _) (St.ok _) ?_
 refine hK.out _ _ (Va hHeld (by omega) _) (λhHeld=>?_)
 clear hK K
 try refine ptk ?_
 refine rdH 6 λK hK=>?_
 refine qq (cs:=zk 1 1) rfl (.tmp 3) (.tmp 18) rfl rfl rfl (H34.out.setRow' (k:=w.heap.size) (by omega) n.c) (Zi _ _ _ _) (qv _ _) ?_
 refine hK.out _ _ (Va hHeld (by omega) _) (λhHeld=>?_)
 clear hK K
 try refine ptk ?_
 refine dnH ?_
 go_wp2_with fail
 have hf:Fs (λk=>k=w.heap.size∨k=w.heap.size+1) w4 ((w4.setRow w.heap.size n.c).setRow (w.heap.size+1) (zk 1 1)):=Fs.setRow (Fs.setRow (Fs.refl _ w4) (λ_=>.inl rfl) n.c) (λ_=>.inr rfl) (zk 1 1)
 refine bodyPost_ret (Yl rfl _ rfl ((H24.out.setRow n.c).setRow' (k:=w.heap.size+1) (by omega) (zk 1 1)) (St.ok _) rfl ((H34.out.setRow' (k:=w.heap.size) (by omega) n.c).setRow (zk 1 1)) (qv _ _)) rfl ?_
 exact⟨rfl,_,H4.out.fs hf (λk hk e=>by have:=HLT.out k hk;omega),(Fs.of_below HB4.out).trans hf (λk hk e=>by omega),Nx.refl _ _⟩
theorem zp6{w:World}{base g:Nat}{n a:St}{v:Value}{L:List St}(h:Sd w base g n v (a :: L))(hl:L.length≤100000) :
  Calls Tryz.prog 136 #[.pointer (some ⟨g,0,none⟩)] w (zkf w base g v (a,L,0)):=by
 obtain⟨r2,r3,rb,rs⟩:=zj0 w
 have H2:=z2w r2
 have H3:=z2w r3
 have HB:=z2w rb
 have H:=z2w (h.below rb)
 have hgl:=h.row.lt
 have HLT:=z2w h.lts
 obtain⟨A1,c1,rfl⟩:=h.shape
 have hsn:=H.out.sent
 obtain⟨b,q,rfl,hbo,hrg⟩:=H.out.own.reads.elem zdu (i:=0) (by simp) (by omega)
 simp only[List.getElem_cons_zero,Nat.zero_mul,Nat.add_zero] at hrg
 rw[←St.cl a] at hrg
 have HRG:=z2w hrg
 have hbg:¬b=g:=λe=>H.out.ne (by rw[hbo,e])
 obtain⟨i0,hi0,hz0,hz1,hz2⟩:=zaz zi9
 obtain⟨A2,hcut,hown2,hob2⟩:=Ji (P:=Tryz.prog) _ base 155 59 i0 7 Tryz.underlying155 hi0 hz1 H.out.own 1 (by simp)
 rw[Nat.one_mul] at hown2
 have hdr:(enl St.l (a :: L)).drop 7=enl St.l L:=by have:=Jj zdu (a :: L) 1;rw[Nat.one_mul] at this;exact this
 rw[hdr] at hown2
 rw[show (a :: L).length-1=L.length from rfl] at hcut hown2 hob2
 rw[show (a :: L).length=L.length+1 from rfl] at *
 have HO2:=z2w hown2
 have HOB:=z2w hob2
 have k1:(0:Int)<((L.length+1:Nat):Int):=by omega
 have e1:((L.length:Int)+1 == 0)=false:=(show (((L.length+1:Nat):Int) == 0)=false from (Xo (L.length+1) 0).trans (decide_eq_false (by omega)))
 have hcut':∀W,(Instr.slice 155 (.slice (some ⟨b,q,none⟩) (L.length+1) c1) (some (.int .i64 1)) none none).run Tryz.prog W=.ok (.slice A2 L.length (c1-1)) W:=hcut
 clear r2 r3 rb rs h hrg hbo hown2 hob2 hdr hcut hi0 hz0 hz1 hz2
 go_enter Tryz.func136,Tryz.ntmps136
 go_upto_region 1 with fail
 generalize (w.alloc (.cells #[.int .u32 0,.bool false,.int .u32 0,.int .u32 0,.int .u32 0,.int .u32 0,.bool false] 59)).alloc (.cells #[.int .u8 0,.int .u32 0] 29)=w1 at *
 go_wp2_with fail
 refine qg 18 (λw'=>w'.cell? ⟨g,7,none⟩=some (.slice (some ⟨b,q,none⟩) (L.length+1) c1)∧w'.rangeAt b q a.c.toList) (by kernel_rfl) ⟨hsn,HRG.out⟩ (λhHeld=>?_)
 refine tkE 0 ?_
 refine tkE 1 ?_
 refine tkE 2 ?_
 refine tkE 3 ?_
 refine tkE 4 ?_
 refine tkE 5 ?_
 refine tkE 6 ?_
 refine zht 7 rfl (zcw (by rfl) _ rfl rfl (St.ok _) (λ_ hSw=>hSw.2)) ?_
 refine tkE 8 ?_
 refine tkE 9 ?_
 refine tkE 10 ?_
 refine tkE 11 ?_
 refine tkE 12 ?_
 refine tkE 13 ?_
 refine tkE 14 ?_
 refine zm (i:=15) (by kernel_rfl) rfl (λK hK=>?_)
 have hbd:Below w1.heap.size w1 w1.drew:=(Below.refl _ _).drew
 have hfs:=zpe (S:=λk=>k=g) (g:=g) (Fs.refl _ w1.drew) (λ_=>rfl) a.c.toList 0
 have hrow:=znx (x:=a) (H.out.below hbd).row
 have hth:=zr2 (H.out.below hbd).row a
 have hc7:=hrow.cell (j:=7) rfl
 have hrg2:(w1.drew.setCells g 0 a.c.toList).rangeAt b q a.c.toList:=λj u hj=>(World.cell?_of_block (a:=⟨b,q+j,none⟩) (Vk _ _ _ _ _ hbg)).trans (HRG.out j u hj)
 have z7:=hrow.thawed 7
 have hobs:∀k,(Value.slice A2 L.length (c1-1)).ownBlock=some k→k≠g∧k<w.heap.size:=λk hk=>by
  rw[HOB.out] at hk
  exact⟨λe=>H.out.ne (by rw[hk,e]),(HLT.out k (.inr hk)).2⟩
 have hown6:OwS (w1.drew.setCells g 0 a.c.toList) base 59 7 (.slice A2 L.length (c1-1)) L.length (enl St.l L):=(HO2.out.below hbd).keep λk hk=>Vk _ _ _ _ _ (hobs k hk).1
 have H7:Hid (Sd ((w1.drew.setCells g 0 a.c.toList).setCell ⟨g,7,none⟩ (.slice A2 L.length (c1-1))) base g a (.slice A2 L.length (c1-1)) L):=
  ⟨hrow.stored 7 _,hown6.setCell (by rw[HOB.out];exact H.out.ne) _,H.out.gl,by rw[HOB.out];exact H.out.ne⟩
 have hfs7:=hfs.setCell (g:=g) (λ_=>rfl) 7 (.slice A2 L.length (c1-1))
 have HF7:Hid (Fs (sb g (.slice (some ⟨b,q,none⟩) (L.length+1) c1)) w ((w1.drew.setCells g 0 a.c.toList).setCell ⟨g,7,none⟩ (.slice A2 L.length (c1-1)))):=((Fs.of_below HB.out).drewN 1).trans hfs7 (λk _ e=>.inl e)
 have H27:=z2w (hfs7.row (by omega) (show Row w1.drew _ _ _ from H2.out))
 have H37:=z2w (hfs7.row (by omega) (show Row w1.drew _ _ _ from H3.out))
 have HBL:=z2w hobs
 clear hbd hfs hown6 hfs7 hobs HRG HO2 H H2 H3 HB hsn hHeld
 refine zqn (cs:=a.c) rfl (.tmp 33) (.tmp 26) rfl rfl rfl hth (St.ok _) ?_
 refine hK.out _ _ ⟨hc7,hrg2⟩ (λhHeld=>?_)
 clear hK K hth
 try refine ptk ?_
 refine tkE 16 ?_
 refine tkE 17 ?_
 refine qh (by kernel_rfl) rfl (by kernel_rfl) (λK hK=>?_)
 go_simp
 refine hK.out _ _ ?_
 clear hK K hHeld hc7 hrg2 z7 hrow hcut'
 try refine ptk ?_
 generalize (w1.drew.setCells g 0 a.c.toList).setCell ⟨g,7,none⟩ (.slice A2 L.length (c1-1))=w7 at *
 have hsn:=H7.out.sent
 have hzf:zk 0 0=#[.int .u8 0,.int .u32 0]:=by unfold zk;rfl
 have HZF:=z2w hzf
 have HX:=z2w (Nx.of_new (w:=w) (Or.inl HOB.out))
 clear hzf
 by_cases h0:L.length=0
 ·have hL:L=[]:=List.eq_nil_of_length_eq_zero h0
  subst hL
  have z7:=H7.out.row.thawed 7
  have H8:Hid (Sd (w7.setCell ⟨g,7,none⟩ (.slice none 0 0)) base g a (.slice none 0 0) []):=⟨H7.out.row.stored 7 _,OwS.nil,H7.out.gl,by simp[Value.ownBlock]⟩
  have HF8:=z2w (HF7.out.setCell (g:=g) (λ_=>.inl rfl) 7 (.slice none 0 0))
  have H28:=z2w (H27.out.stored' (a:=⟨g,7,none⟩) (by show w.heap.size≠g;omega) (.slice none 0 0))
  have H38:=z2w (H37.out.stored' (a:=⟨g,7,none⟩) (by show w.heap.size+1≠g;omega) (.slice none 0 0))
  have HN8:=z2w H8.out.now
  clear h0
  go_upto_region 8 with fail
  clear z7 hsn H7 HF7 H27 H37
  generalize w7.setCell ⟨g,7,none⟩ (.slice none 0 0)=w8 at *
  go_wp2_with (first|(refine xn (cs:=a.c) rfl _ rfl rfl HN8.out (St.ok _) ?_)|(refine ze (cs:=a.c) rfl _ _ rfl rfl rfl H28.out (St.sz _ _) (St.ok _) ?_)|(refine ze (cs:=zk 0 0) rfl _ _ rfl rfl (by rw[HZF.out];rfl) (H38.out.setRow' (k:=w.heap.size) (by omega) a.c) (Zi _ _ _ _) (qv _ _) ?_))
  have hf:Fs (λk=>k=w.heap.size∨k=w.heap.size+1) w8 ((w8.setRow w.heap.size a.c).setRow (w.heap.size+1) (zk 0 0)):=Fs.setRow (Fs.setRow (Fs.refl _ w8) (λ_=>.inl rfl) a.c) (λ_=>.inr rfl) (zk 0 0)
  refine bodyPost_ret (Yl rfl _ rfl ((H28.out.setRow a.c).setRow' (k:=w.heap.size+1) (by omega) (zk 0 0)) (St.ok _) rfl ((H38.out.setRow' (k:=w.heap.size) (by omega) a.c).setRow (zk 0 0)) (qv _ _)) rfl ?_
  refine⟨rfl,_,H8.out.fs hf (λk hk e=>?_),HF8.out.trans hf (λk hk e=>by omega),.inr (λk hk=>by simp[Value.ownBlock] at hk)⟩
  rcases hk with rfl|hk
  ·omega
  ·simp[ob,Value.ownBlock] at hk
 ·have e0:((L.length:Int) == 0)=false:=(Xo L.length 0).trans (decide_eq_false h0)
  have HN8:=z2w H7.out.now
  clear h0
  go_wp2_with (first|(refine xn (cs:=a.c) rfl _ rfl rfl HN8.out (St.ok _) ?_)|(refine ze (cs:=a.c) rfl _ _ rfl rfl rfl H27.out (St.sz _ _) (St.ok _) ?_)|(refine ze (cs:=zk 0 0) rfl _ _ rfl rfl (by rw[HZF.out];rfl) (H37.out.setRow' (k:=w.heap.size) (by omega) a.c) (Zi _ _ _ _) (qv _ _) ?_))
  have hf:Fs (λk=>k=w.heap.size∨k=w.heap.size+1) w7 ((w7.setRow w.heap.size a.c).setRow (w.heap.size+1) (zk 0 0)):=Fs.setRow (Fs.setRow (Fs.refl _ w7) (λ_=>.inl rfl) a.c) (λ_=>.inr rfl) (zk 0 0)
  refine bodyPost_ret (Yl rfl _ rfl ((H27.out.setRow a.c).setRow' (k:=w.heap.size+1) (by omega) (zk 0 0)) (St.ok _) rfl ((H37.out.setRow' (k:=w.heap.size) (by omega) a.c).setRow (zk 0 0)) (qv _ _)) rfl ?_
  refine⟨rfl,_,H7.out.fs hf (λk hk e=>?_),HF7.out.trans hf (λk hk e=>by omega),HX.out⟩
  rcases hk with rfl|hk
  ·omega
  ·have:=(HBL.out k hk).2
   omega
end
section
def evR(st code:Nat):Ev:=⟨3,st,none,0,0,none,0,0,false,code,0,0⟩
theorem z04(st code:Nat):evc (evR st code)=#[.int .u8 3,.int .u32 st,.slice none 0 0,.slice none 0 0,.bool false,.int .u32 code,.int .u8 0,.int .u32 0]:=by unfold evc evR;rfl
theorem zrx{s:Nat}(h:1≤s∧s≤3):cm (s:Int) 3 false=(6,0,0):=by
 obtain rfl|rfl|rfl:s=1∨s=2∨s=3:=by omega
 all_goals decide
def Zs.gone1(z:Zs)(i:Nat)(e:Ks)(code:Nat)(ev ov:Value)(F':Nat→Prop):Zs:=
 { z with ev:=ev,es:=z.es++[evR e.nu code],ss:=z.ss.set i { e with st:=6,me:=none },lv:=z.lv-1,rm:=xw z.rm e.nu,rF:=F',ov:=ov,ol2:=z.ol2++[e.nu] }
theorem zi7:Zl 0 0=ftc 0 0:=by unfold Zl ftc;rfl
theorem zju(w:World):Row (w.alloc (.cells #[.int .u8 0,.int .u32 0] 29)) w.heap.size 29 (ftc 0 0):=by rw[z9];exact Row.new w _ _
attribute [local irreducible] Cc.c evc Fm.c knc mtc ftc evR
theorem zvy{w:World}{z:Zs}{i:Nat}{e:Ks}(h:Sd14 w z)(hG:GlobE w)(hi:z.ss[i]?=some e)(hat:atM (z.ss.map λe=>(e.nu,e.k)) e.nu 0=some (i,e.k)){m:Nat × Int × Int × Int}(hme:e.me=some m)(h0:m.2.1-m.2.2.1-m.2.2.2=0)(hu:Yc z.mz z.ml z.mu 0=(0,z.ml,z.mu))(hlv:1≤z.lv∧z.lv≤1000000)(hov:z.ol2.length<64)(hrm:z.rm.Ok)(hsm:z.rm.Sm)
  (hst:1≤e.st∧e.st≤3) (hl:z.es.length≤100000) (X:Fm) (hX:X.st=e.nu) :
  Calls Tryz.prog 106 #[.pointer (some ⟨z.c,0,none⟩),.agg X.c] w (λx w'=>x=.returned .nilIface∧∃ev ov F',ZP w z (z.gone1 i e X.code ev ov F') w'):=by
 have hb1:Below w.heap.size w (w.alloc (.cells X.c 66)):=(Below.refl _ _).alloc (Nat.le_refl _) _
 have HX1:Hid (Row (w.alloc (.cells X.c 66)) w.heap.size 66 X.c):=Row.new w _ _
 have H1:=z2w (ZP.of_below h hb1)
 have HPN:Hid (¬zi z.ps w.heap.size):=λhk=>by have:=h.1.lt hk;omega
 have HG1:=z2w (hG.below hb1)
 clear h hG hb1
 go_enter Tryz.func106,Tryz.ntmps106
 go_upto_region 1 with fail
 have hpz:w.heap.size<(w.alloc (.cells X.c 66)).heap.size:=HX1.out.lt
 generalize w.alloc (.cells X.c 66)=w1 at *
 have hcp:∀k,zi z.ps k→k<w1.heap.size:=λk hk=>H1.out.sd.1.lt hk
 obtain⟨_,_,f2,_,_,f5,_⟩:=zf HX1.out
 rw[hX] at f2
 have hM:SmIn w1 z.sm z.ss:=H1.out.sd.1.ok .sm
 have hS:=zd7 H1.out.sd.row rfl hM.m hat (H1.out.sd.ks hi).r
 rw[show e.kn.st=e.st from rfl] at hS
 clear hM
 go_wp2_with fail
 refine hS.mono ?_
 rintro x2 w2 ⟨rfl,rfl⟩
 have hcm:=zes (e.st:Int) 3 false HG1.out
 rw[zrx hst] at hcm
 clear hS
 go_wp2_with fail
 refine hcm.mono ?_
 rintro x3 w3 ⟨rfl,hb3⟩
 have H3:=z2w (ZP.of_below H1.out.sd hb3)
 have HP1:=z2w H1
 have HX3:=z2w (HX1.out.below hb3 HX1.out.lt)
 have hs3:w2.heap.size≤w3.heap.size:=hb3.size
 have hlf:=zbg e.st
 rw[show decide (1≤(e.st:Int)∧(e.st:Int)≤3)=true from decide_eq_true (by omega)] at hlf
 have HV4:Hid (Row (w3.alloc (.cells #[.int .u8 0,.int .u32 0] 29)) w3.heap.size 29 (ftc 0 0)):=zju w3
 have HAG:=z2w (Zo 0 0)
 rw[zi7]
 clear hcm hb3 HX1 f2 f5
 go_upto_region 3 with (refine ze (cs:=ftc 0 0) rfl _ _ rfl rfl rfl HV4.out rfl HAG.out ?_)
 have hb4:Below w3.heap.size w3 ((w3.alloc (.cells #[.int .u8 0,.int .u32 0] 29)).setRow w3.heap.size (ftc 0 0)):=zd ((Below.refl _ _).alloc (Nat.le_refl _) _) _ _ (Nat.le_refl _)
 have H4:=z2w (H3.out.then_below hb4)
 have HX4:=z2w (HX3.out.below hb4 HX3.out.lt)
 have HF4:=z2w (HV4.out.setRow (ftc 0 0))
 have HQN:Hid (¬zi z.ps w3.heap.size):=λhk=>by have:=H3.out.sd.1.lt hk;omega
 clear hb4 HX3 HV4 H3
 generalize (w3.alloc (.cells #[.int .u8 0,.int .u32 0] 29)).setRow w3.heap.size (ftc 0 0)=w4 at *
 generalize w3.heap.size=q at *
 obtain⟨p,hp⟩:∃p,w.heap.size=p:=⟨_,rfl⟩
 rw[hp] at HX4 HPN ⊢
 clear hs3 hcp hpz hp
 have ht:=zhj H4.out.sd hl (evR e.nu X.code)
 rw[z04] at ht
 obtain⟨_,_,f2,_,_,f5,_⟩:=zf HX4.out
 rw[hX] at f2
 go_wp2_with (refine(hlf _).mono ?_;rintro x5 w5 ⟨rfl,rfl⟩)
 refine ht.mono ?_
 rintro x5 w6 ⟨rfl,ev,h6⟩
 have hX6:=h6.fs.row HPN.out HX4.out
 have hF6:=h6.fs.row HQN.out HF4.out
 have HN6:Hid (∀k,zi ({ z with ev:=ev,es:=z.es++[evR e.nu X.code] }:Zs).ps k→zi z.ps k∨w5.heap.size≤k):=h6.new
 have HLP:Hid (p<w5.heap.size∧q<w5.heap.size):=⟨HX4.out.lt,HF4.out.lt⟩
 have H6:Hid (ZP w5 z { z with ev:=ev,es:=z.es++[evR e.nu X.code] } w6):=h6
 have HX6:=z2w hX6
 have HF6:=z2w hF6
 clear ht h6 hX6 hF6 f2 f5 HX4 HF4 hlf
 go_upto_region 5 with fail
 have hM6:SmIn w6 z.sm z.ss:=H6.out.sd.1.ok .sm
 have hlk:(Instr.lookup 84 (.map (some z.sm)) (.int .u32 (e.nu:Int)) false).run Tryz.prog w6.drew=.ok (.pointer (some ⟨e.k,0,none⟩)) w6.drew:=zdn (w:=w6.drew) hM6.m hat
 have c19:w6.drew.cell? ⟨z.c,19,none⟩=some (.map (some z.sm)):=zbp H6.out.sd.row
 have f2:w6.drew.cell? ⟨p,2,none⟩=some (.int .u32 X.st):=(zf HX6.out).2.2.1
 rw[hX] at f2
 have HD:=z2w (H6.out.then_below ((Below.refl _ _).drew))
 have HXD:Hid (Row w6.drew p 66 X.c):=HX6.out
 have HFD:Hid (Row w6.drew q 29 (ftc 0 0)):=HF6.out
 clear hM6 H6 HX6 HF6
 refine wp_region_held_drew (S:=λw'=>w'.cell? ⟨z.c,19,none⟩=some (.map (some z.sm))∧w'.cell? ⟨p,2,none⟩=some (.int .u32 e.nu)) (by kernel_rfl) ⟨c19,f2⟩ (λhHeld=>?_)
 generalize w6.drew=w7 at *
 refine tkH 0 ?_
 refine tkH 1 ?_
 refine tkH 2 ?_
 refine tkH 3 ?_
 refine tkH 4 ?_
 refine tkH 5 ?_
 refine tkH 6 ?_
 refine tkH 8 ?_
 refine rdH 7 λK hK=>?_
 go_simp
 refine hK.out _ _ ⟨c19,f2⟩ (λhHeld=>?_)
 clear hK K
 try refine ptk ?_
 refine rdH 9 λK hK=>?_
 go_simp
 go_at_call 42
 refine(zpn HD.out.sd hi hme h0 hu hlv hov hrm hsm 6 (by decide)).mono ?_
 rintro x8 w8 ⟨rfl,ov,F',h8⟩
 have hpn2:¬zi ({ z with ev:=ev,es:=z.es++[evR e.nu X.code] }:Zs).ps p:=λhk=>(HN6.out p hk).elim HPN.out λh=>by have:=HLP.out.1;omega
 have hqn2:¬zi ({ z with ev:=ev,es:=z.es++[evR e.nu X.code] }:Zs).ps q:=λhk=>(HN6.out q hk).elim HQN.out λh=>by have:=HLP.out.2;omega
 have HX8:=z2w (h8.fs.row hpn2 HXD.out)
 have HF8:=z2w (h8.fs.row hqn2 HFD.out)
 have H8:Hid (ZP w5 z (z.gone1 i e X.code ev ov F') w8):=HD.out.trans h8
 have c19':w8.cell? ⟨z.c,19,none⟩=some (.map (some z.sm)):=zbp H8.out.sd.row
 have f2':w8.cell? ⟨p,2,none⟩=some (.int .u32 X.st):=(zf HX8.out).2.2.1
 rw[hX] at f2'
 clear h8 hpn2 hqn2 HXD HFD HD hHeld hlk c19 f2
 refine hK.out _ _ ⟨c19',f2'⟩ (λhHeld=>?_)
 clear hK K
 try refine ptk ?_
 refine dnH ?_
 clear hHeld c19' f2'
 have hnw:=λW=>Zq 0 0 rfl W
 have HZ:Hid (ftc 0 0=#[.int .u8 0,.int .u32 0]):=z9 0 0
 rw[show (#[.agg #[.int .u8 0,.int .u32 0]]:Array Value)=#[.agg (ftc 0 0)] from by rw[HZ.out]] at hnw
 clear HZ
 go_wp2_with (refine zj rfl _ rfl rfl HF8.out HAG.out ?_)
 refine(hnw _).mono ?_
 rintro x9 w9 ⟨rfl,hb9⟩
 have H9:=z2w ((HP1.out.trans (H4.out.trans H8.out)).then_below hb9)
 clear hb9 hnw HF8 HX8 H8
 go_wp2_with fail
 go_ret
 exact⟨rfl,ev,ov,F',H9.out⟩
end
end Go.Proofs.YtooaajnkiokpnaaGreatDoor
