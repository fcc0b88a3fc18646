/-
  Part of a proof: The first rounds of a pair: what each side takes, and what it leaves. Conditions: those that each theorem names.
-/
import Derived.Test.YtooaajnkiokpnaaGreatDoorQ01
import Derived.Test.YtooaajnkiokpnaaGreatDoorQ46
import Derived.Test.YtooaajnkiokpnaaGreatDoorQ36
import Derived.Test.YtooaajnkiokpnaaGreatDoorQ38
import Derived.Test.YtooaajnkiokpnaaGreatDoorQ39
namespace Go.Proofs.YtooaajnkiokpnaaGreatDoor
open Go.RowKit Go.WideShapes
section
def xo(m:Nat):List UInt8:=if m=0 then [63,225,31] else []
theorem vb(m:Nat):(xo m).length≤3:=by unfold xo;split<;>decide
theorem zsc(m:Nat):xc 4096 (xo m).length ⟨[],4096,[]⟩ (xo m)=some ⟨[],4096,[]⟩:=by
 unfold xo
 split
 ·exact zm6
 ·exact zta [] 4096
def zl1(c:Nat)(srv:Bool)(r m:Nat)(l:List UInt8)(z':Zs):Prop:=Stdy c srv r m z'∧z'.l=l∧z'.es.length≤1∧∀y∈z'.es,y.mild
theorem zqz{z:Zs}{m:Gm}{c:Nat}{k:Nat}(h:zi (z.took m none c none).ps k):zi z.ps k:=by
 obtain⟨i,hi⟩:=h
 cases i
 case gat=>
  have hi:k=z.ga∨ob (.slice none m.blk.length c) k∨none=some k:=hi
  rcases hi with h|h|h
  ·exact⟨.gat,.inl h⟩
  ·exact absurd h (by unfold ob;simp[Value.ownBlock])
  ·cases h
 all_goals first|exact⟨.out,hi⟩|exact⟨.row,hi⟩|exact⟨.spl,hi⟩|exact⟨.dec,hi⟩|exact⟨.enc,hi⟩|exact⟨.own,hi⟩|exact⟨.ev,hi⟩|exact⟨.mt,hi⟩|exact⟨.rg,hi⟩|exact⟨.sm,hi⟩|exact⟨.ov,hi⟩
attribute [local irreducible] Cc.c evc Fm.c ftc knc whc xo
theorem zsz{w:World}{z:Zs}{c r m base:Nat}{X:Fm}(h:Sd14 w z)(hG:GlobE w)(hs:Stdy c true r m z)(he:z.es=[])(hr:m-r<16)(hm:m≤500)(hF:FmIs w base X (hdF (2*m+1) (xo m) false))(hk:∀k,zi z.ps k→k<base) :
  Calls Tryz.prog 31 #[.pointer (some ⟨z.c,0,none⟩),.agg X.c,.agg (ftc 0 0)] w (ji λw'=>∃z',ZP w z z' w'∧zl1 c true r (m+1) z.l z'):=by
 have hXe:=hF.eq
 have hty:X.ty=1:=by rw[hXe];rfl
 have hfl:X.fl=4:=by rw[hXe];rfl
 have hst:X.st=2*m+1:=by rw[hXe];rfl
 have hdn:X.dn=(xo m).length:=by rw[hXe];rfl
 have hbl:=vb m
 have hdat:Bo w base 5 (.slice X.dA (xo m).length X.dc) (xo m):=hF.dat
 have hgk:gtk z.gm X.ty X.fl X.st (xo m)=(gm0,true,zkk 4 (2*m+1) (xo m)):=by
  rw[hs.gm,hty,hfl,hst]
  unfold gtk y3
  rw[if_neg (show ¬gm0.bad≠0 by decide),if_pos (show gm0.busy=false from rfl),if_neg (show ¬1=9 by decide),if_pos (show 1=1 from rfl),if_neg (by show ¬(8192<(xo m).length∨16<0);omega),if_pos (show 4 / 4%2=1 from rfl)]
 refine zcq h X (Q:=zl1 c true r (m+1) z.l) (λW hb=>?_) (λz' hq=>⟨hq.1.c.trans hs.c.symm,hq.1.go,hq.1.rep⟩)
 refine zcz (h.below hb) (hG.below hb) X (xo m) (by rw[hfl];decide) (.inl hs.be) (λ_=>⟨hdn,by omega,?_⟩) hgk rfl (.block rfl λW2 A2 c2 o2 A' c' hG2 hz2 hbo hnew hil=>?_)
 ·refine((OwS.reads hdat).keep λk hk=>hb.block k (OwS.lt hdat k hk).2).imp λk hk1 hlt=>⟨hlt,λhk2=>?_⟩
  have:=(OwS.lt hdat k hk1).1
  have:=hk k hk2
  omega
 ·obtain⟨rfl,rfl⟩:=hil rfl
  have hbz:z.gm.busy=false:=by rw[hs.gm];rfl
  have hnw:=hnew hbz
  have hcl:(xo m).length≤c':=by
   obtain⟨A9,c9,h9,h10⟩:=Bo.shape hbo
   simp only[Value.slice.injEq] at h9
   have h13:=h9.2.2
   have h12:(xo m).length≤c9:=h10
   omega
  have hob:∀k,ob (.slice A' (xo m).length c') k→k<W2.heap.size∧¬zi (z.took gm0 none c2 none).ps k:=λk hk1=>by
   refine⟨(OwS.lt hbo k hk1).2,λhk2=>?_⟩
   have h1:=(h.below hb).1.lt (zqz hk2)
   have h2:=hnw k hk1
   omega
  refine zvi hz2.sd hG2 (fs:=[]) (L:=[]) (M:=4096) hs.srv (hs.ss.no (by show 2*m<2*m+1;omega)) (λW3 hG3 hz3=>?_) (λW4 v fA fc hG4 hz4 hrd=>?_)
  ·exact z09 (l:=xo m) (s:=⟨[],4096,[]⟩) hz3.sd (by show z.dM≤4096;rw[hs.dM];decide) (by show tot z.dL≤z.dM;rw[hs.dL,hs.dM];decide) (S:=λk=>k<W2.heap.size∧¬zi (z.took gm0 none c2 none).ps k) ((hz3.fs.reads ((OwS.reads hbo).imp λk hk _=>hob k hk) λk hk=>hk)) hcl (λk hk=>⟨Nat.lt_of_lt_of_le hk.1 hz3.fs.size,hk.2⟩) (by omega)
    (by show xc 4096 (xo m).length ⟨z.dL,z.dM,[]⟩ (xo m)=_;rw[hs.dL,hs.dM];exact zsc m) (by decide)
  ·refine(zue hz4.sd hG4 (evH (2*m+1) fA 0 fc false) hs.aw (by show Xp z.la (2*m+1)=false;rw[hs.la];exact zz1 m) (by show zbd ((2*m+1:Nat):Int) z.la true=true;rw[hs.la];exact zn6 m (by omega)) (by show 2*m+1≤_;omega) (by show z.lv<16;rw[hs.lv];exact hr) (by show z.es.length≤_;rw[he];simp)
    (hs.ss.no (by show 2*m<2*m+1;omega)) hs.wn hs.pw hs.ok (hs.sm (by omega))).mono ?_
   rintro e w5 ⟨rfl,k,g,ev,F',hz5⟩
   refine⟨rfl,_,hz5,⟨hs.c,hs.srv,hs.go,hs.aw,hs.pa,rfl,hs.bad,hs.wt,rfl,hs.ss.open k g z.wn false,?_,?_,hs.ov,hs.wn,hs.pw,zd9 hs.ok _ (by show 2*m+1<_;omega) _,zeh hs.idle _ _,Nat.le_trans (zhk _ _ _) (Nat.succ_le_succ hs.few),hs.mu,hs.rep,rfl,rfl⟩,rfl,?_,?_⟩
   ·show 2*m+1=laN (m+1)
    unfold laN
    rw[if_neg (by omega)]
    omega
   ·show z.lv+1=m+1-r
    have:=hs.lv
    have:=hs.ss.le
    omega
   ·show (z.es++[_]).length≤1
    rw[he];exact Nat.le_refl _
   ·intro y hy
    have hy:y∈z.es++[evH (2*m+1) fA 0 fc false]:=hy
    rw[he,List.nil_append,List.mem_singleton] at hy
    subst hy
    exact⟨by show 1≠6;decide,by show 1≠2;decide,by show 1<256;decide⟩
theorem zv8{w:World}{z:Zs}{c r m base:Nat}{X:Fm}(h:Sd14 w z)(hG:GlobE w)(hs:Stdy c true r m z)(he:z.es=[])(hr:r<m)(hr6:r<60)(hm:m≤500)(hF:FmIs w base X (rsF (2*r+1) 8)) :
  Calls Tryz.prog 31 #[.pointer (some ⟨z.c,0,none⟩),.agg X.c,.agg (ftc 0 0)] w (ji λw'=>∃z',ZP w z z' w'∧zl1 c true (r+1) m z.l z'):=by
 have hXe:=hF.eq
 have hty:X.ty=3:=by rw[hXe];rfl
 have hfl:X.fl=0:=by rw[hXe];rfl
 have hst:X.st=2*r+1:=by rw[hXe];rfl
 have hgk:gtk z.gm X.ty X.fl X.st []=(gm0,false,gm0):=by
  rw[hs.gm,hty]
  rfl
 obtain⟨e,hi⟩:=hs.ss.first hr
 have hnu:=hs.ss.nu r e hi
 obtain⟨hs1,mm,hmm,hm0⟩:=hs.ss.lv r e hi (Nat.le_refl _)
 have hlv:=hs.lv
 refine zcq h X (Q:=zl1 c true (r+1) m z.l) (λW hb=>?_) (λz' hq=>⟨hq.1.c.trans hs.c.symm,hq.1.go,hq.1.rep⟩)
 refine zcz (h.below hb) (hG.below hb) X [] (by rw[hfl];decide) (.inl hs.be) (λe=>absurd e (by omega)) hgk rfl (.reset hty rfl λW2 A2 c2 o2 hG2 hz2=>?_)
 refine(zvy (i:=r) (e:=e) (m:=mm) hz2.sd hG2 hi (hs.ss.at hi) hmm hm0 hs.mu (by show 1≤z.lv∧z.lv≤_;omega) (by show z.ol2.length<64;rw[hs.ov];omega) hs.ok (hs.sm (by omega)) (by omega) (by show z.es.length≤_;rw[he];simp) X (by rw[hst,hnu])).mono ?_
 rintro x w5 ⟨rfl,ev,ov,F',hz5⟩
 refine⟨rfl,_,hz5,⟨hs.c,hs.srv,hs.go,hs.aw,hs.pa,rfl,hs.bad,hs.wt,rfl,hs.ss.over hi 6,hs.la,?_,?_,hs.wn,hs.pw,zed hs.ok _,ze1 hs.idle _,Nat.le_trans (zg8 _ _) hs.few,hs.mu,hs.rep,hs.dL,hs.dM⟩,rfl,?_,?_⟩
 ·show z.lv-1=m-(r+1)
  omega
 ·show (z.ol2++[_]).length=r+1
  rw[List.length_append,hs.ov];rfl
 ·show (z.es++[_]).length≤1
  rw[he];exact Nat.le_refl _
 ·intro y hy
  have hy:y∈z.es++[evR e.nu X.code]:=hy
  rw[he,List.nil_append,List.mem_singleton] at hy
  subst hy
  exact⟨by show 3≠6;decide,by show 3≠2;decide,by show 3<256;decide⟩
end
section
def frO(m:Nat):Frm:=hdF (2*m+1) (xo m) false
def frR(r:Nat):Frm:=rsF (2*r+1) 8
theorem zyl{m:Nat}(h:m≤500):OkF (frO m):=z02 (by omega) (by omega) (by have:=vb m;omega)
theorem zx8{r:Nat}(h:r≤500):OkF (frR r):=z0z (by omega) (by omega) (by decide)
inductive Cont:Nat→Nat→List Frm→Nat→Nat→Prop
 |nil {r m}:Cont r m [] r m
 |op {r m Fs r' m'} (h:m-r<16) (hm:m<500) (hc:Cont r (m+1) Fs r' m'):Cont r m (frO m :: Fs) r' m'
 |rs {r m Fs r' m'} (h:r<m) (hr:r<60) (hm:m≤500) (hc:Cont (r+1) m Fs r' m'):Cont r m (frR r :: Fs) r' m'
theorem Cont.trans{r m r' m' r2 m2:Nat}{Fs Gs:List Frm}(h:Cont r m Fs r' m')(h2:Cont r' m' Gs r2 m2):Cont r m (Fs++Gs) r2 m2:=by
 induction h with
 |nil=>exact h2
 |op h1 h2' _ ih=>exact .op h1 h2' (ih h2)
 |rs h1 h2' h3 _ ih=>exact .rs h1 h2' h3 (ih h2)
def yv(Fs:List Frm):List UInt8:=(Fs.map zh).flatten
theorem zl7(F:Frm)(Fs:List Frm):yv (F :: Fs)=zh F++yv Fs:=rfl
theorem zc3(F:Frm)(Fs:List Frm):yv (Fs++[F])=yv Fs++zh F:=by unfold yv;simp
theorem Stdy.nxd{c:Nat}{srv:Bool}{r m:Nat}{z:Zs}(h:Stdy c srv r m z)(l:List UInt8):Stdy c srv r m (z.nxd l false):={ h with bad:=rfl,wt:=rfl }
theorem Stdy.evs{c:Nat}{srv:Bool}{r m:Nat}{z:Zs}(h:Stdy c srv r m z)(v:Value)(L:List Ev):Stdy c srv r m { z with ev:=v,es:=L }:={ h with }
theorem Stdy.fed{c:Nat}{srv:Bool}{r m:Nat}{z:Zs}(h:Stdy c srv r m z)(l:List UInt8):Stdy c srv r m { z with l:=l }:={ h with }
theorem Stdy.outd{c:Nat}{srv:Bool}{r m:Nat}{z:Zs}(h:Stdy c srv r m z){n:Nat}{v:Value}{rep:Nat}{F':Nat→Prop}(hr:rep≤z.rep):Stdy c srv r m (z.outd n v rep F'):={ h with rep:=Nat.le_trans hr h.rep }
def zx0(c r' m':Nat)(Fs:List Frm)(z:Zs):Prop:=∃r m,Stdy c true r m z∧z.l=yv Fs∧Cont r m Fs r' m'
theorem zm9(c r' m':Nat):Keeps c (zx0 c r' m') where
 c h:=by
  obtain⟨r,m,h1,_⟩:=h
  exact⟨h1.c,h1.go⟩
 ev v L h:=by
  obtain⟨r,m,h1,h2,h3⟩:=h
  exact⟨r,m,h1.evs v L,h2,h3⟩
 last {z} h:=by
  obtain⟨r,m,h1,h2,_⟩:=h
  rw[show z.l=[] from h2,h1.wt,h1.bad]
  exact zb7
 next {F Fs z} h:=by
  obtain⟨r,m,h1,h2,h3⟩:=h
  rw[zl7] at h2
  have hc0:=h1.c
  cases h3 with
  |op hl hm hc=>
   refine⟨yv Fs,false,by rw[h2,h1.wt,h1.bad];exact zcy (zyl (by omega)) _,λW X base he hs hG hF hk=>?_⟩
   refine(zsz hs hG (h1.nxd _) he hl (by omega) hF hk).mono ?_
   rintro e w' ⟨h4,z',h5,h6,h7,h8,h9⟩
   exact⟨h4,z',h5,⟨r,m+1,h6,h7,hc⟩,h8,h9⟩
  |rs hl hr hm hc=>
   refine⟨yv Fs,false,by rw[h2,h1.wt,h1.bad];exact zcy (zx8 (by omega)) _,λW X base he hs hG hF hk=>?_⟩
   refine(zv8 hs hG (h1.nxd _) he hl hr hm hF).mono ?_
   rintro e w' ⟨h4,z',h5,h6,h7,h8,h9⟩
   exact⟨h4,z',h5,⟨r+1,m,h6,h7,hc⟩,h8,h9⟩
structure CliS(c r m:Nat)(z:Zs):Prop where
 s:Stdy c false r m z
 ps:z.pe.st=16
 eL:z.eL=[]
 eM:z.eM=4096
 low:z.low=4096
 lim:z.lim=decide (m=0)
 rep:z.rep≤1+r
theorem CliS.blk{c r m:Nat}{z:Zs}(h:CliS c r m z):z.blk []=xo m:=by
 unfold Zs.blk xo
 rw[h.lim,h.low,h.eM,h.eL]
 by_cases hm:m=0
 ·subst hm
  rw[if_pos rfl]
  decide +kernel
 ·rw[if_neg hm,decide_eq_false hm]
  rfl
theorem zs2{w:World}{z:Zs}{c r m:Nat}(h:Sd14 w z)(hs:CliS c r m z)(hr:m-r<16)(hm:m<500)(hl:z.R.length≤100000) :
  Calls Tryz.prog 10 #[.pointer (some ⟨z.c,0,none⟩),.slice none 0 0,.bool false] w λx w'=>x=.returned (.tuple #[.int .u32 ((2*m+1:Nat):Int),.int .i64 0])∧∃z',ZP w z z' w'∧CliS c r (m+1) z'∧z'.R=z.R++zh (frO m)∧z'.l=z.l∧z'.es=z.es:=by
 have hlv:=hs.s.lv
 have hnx:x6 z.la=2*m+1:=by rw[hs.s.la];exact zwr m
 have hb:=hs.blk
 have hbl:=vb m
 have hle:=hs.s.ss.le
 refine(zzy h (F:=[]) (en:=false) (A:=none) (c:=0) hs.s.srv hs.s.go hs.s.aw hs.s.pa hs.s.be (by rw[hs.s.la];unfold laN;split<;>omega) (by rw[hs.ps,hlv];exact hr) (by rw[hnx,hs.s.la];exact zn6 m (by omega)) (by rw[hnx];exact hs.s.ss.no (by omega)) hs.s.wn hs.s.pw (by rw[hs.ps];decide) (by omega) hs.s.ok (hs.s.sm (by omega)) RdS.nil (λf hf=>by cases hf) (by simp)
  (by rw[hs.eM];decide) (by rw[hs.eL,hs.eM];decide) (by rw[hs.low];decide) (by rw[hb];omega) (by omega)).mono ?_
 rintro x w' ⟨rfl,k,g,F',vr,rv,hz⟩
 rw[hnx,hb] at hz
 rw[hnx]
 refine⟨rfl,_,hz,⟨⟨hs.s.c,hs.s.srv,hs.s.go,hs.s.aw,hs.s.pa,hs.s.be,hs.s.bad,hs.s.wt,hs.s.gm,hs.s.ss.open k g z.wn true,?_,?_,hs.s.ov,hs.s.wn,hs.s.pw,zd9 hs.s.ok _ (by omega) _,zeh hs.s.idle _ _,Nat.le_trans (zhk _ _ _) (Nat.succ_le_succ hs.s.few),hs.s.mu,hs.s.rep,hs.s.dL,hs.s.dM⟩,hs.ps,?_,hs.eM,hs.low,?_,hs.rep⟩,rfl,rfl,rfl⟩
 ·show 2*m+1=laN (m+1)
  unfold laN
  rw[if_neg (by omega)]
  omega
 ·show z.lv+1=m+1-r
  omega
 ·show jk z.eM z.eL []=[]
  rw[hs.eL];rfl
 ·show false=decide (m+1=0)
  rw[decide_eq_false (by omega)]
theorem zox{w:World}{z:Zs}{c r m:Nat}(h:Sd14 w z)(hs:CliS c r m z)(hr:r<m)(hr6:r<60)(hm:m≤500)(hl:z.R.length≤100000) :
  Calls Tryz.prog 17 #[.pointer (some ⟨z.c,0,none⟩),.int .u32 ((2*r+1:Nat):Int),.int .u32 ((8:Nat):Int)] w λx w'=>x=.returned (.int .i64 0)∧∃z',ZP w z z' w'∧CliS c (r+1) m z'∧z'.R=z.R++zh (frR r)∧z'.l=z.l∧z'.es=z.es:=by
 have hlv:=hs.s.lv
 obtain⟨e,hi⟩:=hs.s.ss.first hr
 have hnu:=hs.s.ss.nu r e hi
 obtain⟨hs1,mm,hmm,hm0⟩:=hs.s.ss.lv r e hi (Nat.le_refl _)
 have hrep:=hs.rep
 rw[←hnu]
 refine(zxp h hs.s.go hi (hs.s.ss.at hi) hmm hm0 hs.s.mu (by omega) (by rw[hs.s.ov];omega) hs.s.ok (hs.s.sm (by omega)) (by omega) (by omega) (by omega) (by omega) (code:=8) (by decide)).mono ?_
 rintro x w' ⟨rfl,rv,v,F',hz⟩
 refine⟨rfl,_,hz,⟨⟨hs.s.c,hs.s.srv,hs.s.go,hs.s.aw,hs.s.pa,hs.s.be,hs.s.bad,hs.s.wt,hs.s.gm,hs.s.ss.over hi 5,hs.s.la,?_,?_,hs.s.wn,hs.s.pw,zed hs.s.ok _,ze1 hs.s.idle _,Nat.le_trans (zg8 _ _) hs.s.few,hs.s.mu,?_,hs.s.dL,hs.s.dM⟩,hs.ps,hs.eL,hs.eM,hs.low,hs.lim,?_⟩,?_,rfl,rfl⟩
 ·show z.lv-1=m-(r+1)
  omega
 ·show (z.ol2++[_]).length=r+1
  rw[List.length_append,hs.s.ov];rfl
 ·show z.rep+1≤64
  omega
 ·show z.rep+1≤1+(r+1)
  omega
 ·show z.R++zh (rsF e.nu 8)=_
  rw[hnu];rfl
theorem zr0{w:World}{z:Zs}{c r m:Nat}(h:Sd14 w z)(hs:CliS c r m z)(hr:16≤m-r)(hm:m≤500) :
  Calls Tryz.prog 10 #[.pointer (some ⟨z.c,0,none⟩),.slice none 0 0,.bool false] w (zt1 w z 8):=
 zmq h hs.s.srv hs.s.go hs.s.aw hs.s.pa (by rw[hs.s.la];unfold laN;split<;>omega) (.inr ⟨hs.s.be,by rw[hs.ps,hs.s.lv];exact hr⟩) (by rw[hs.ps];decide)
end
section
structure PreS(c:Nat)(srv:Bool)(z:Zs):Prop where
 c:z.c=c
 wt:z.wt=srv
 srv:z.srv=srv
 go:z.go=false
 aw:z.aw=false
 pa:z.pa=false
 be:z.be=false
 bad:z.bad=false
 gm:z.gm=gm0
 ss:z.ss=[]
 la:z.la=0
 lv:z.lv=0
 ov:z.ol2=[]
 wn:z.wn≤2147483647
 pe:z.pe=ju
 rm:z.rm=Jx 65535
 mt:z.mz=65535∧z.ml=65535∧z.mu=0
 rep:z.rep=0
 dL:z.dL=[]
 dM:z.dM=4096
 eL:z.eL=[]
 eM:z.eM=4096
 lim:z.lim=false
 low:z.low=0
 ol:z.ol.length=1
theorem zmt{n:Nat}(hn:n≤2147483647):apN ju ju (ja n)=({ ju with pu:=false,wn:=n,hd:=4096 },0):=by
 unfold ja
 have h1:wrN ju 2 0=0:=by decide
 have h2:wrN (stN ju 2 0) 4 n=0:=by
  unfold wrN
  rw[if_neg (by omega),if_neg (by omega)]
 have h3:wrN (stN (stN ju 2 0) 4 n) 6 4096=0:=by
  unfold wrN
  rw[if_neg (by omega),if_neg (by omega)]
 unfold apN
 rw[if_pos h1]
 unfold apN
 rw[if_pos h2]
 unfold apN
 rw[if_pos h3]
 rfl
theorem zq0{n:Nat}(hn:n≤2147483647):(Jw ju [] (ja n)).1.length=1:=by
 unfold Jw
 rw[show xz ju []=ju from rfl,zmt hn]
 rfl
theorem zzs:apN ju ju jr=({ ju with st:=16,hd:=4096,co:=true },0):=by decide
theorem zrt:(Jw ju [] jr).1.length=1:=by decide
theorem zw2{B c g b ga de dt en et ow mt rg sm:Nat}{F:Nat→Prop}{ou rv:Value}:PreS c true ((qj true B c g b ga de dt en et ow mt 65535 rg sm F).told jr ou rv)∧((qj true B c g b ga de dt en et ow mt 65535 rg sm F).told jr ou rv).R=zh (stF jr)∧((qj true B c g b ga de dt en et ow mt 65535 rg sm F).told jr ou rv).l=[]∧((qj true B c g b ga de dt en et ow mt 65535 rg sm F).told jr ou rv).es=[]:=
 ⟨⟨rfl,rfl,rfl,rfl,rfl,rfl,rfl,rfl,rfl,rfl,rfl,rfl,rfl,(by show 65535≤2147483647;decide),rfl,rfl,⟨rfl,rfl,rfl⟩,rfl,rfl,rfl,rfl,rfl,rfl,rfl,zrt⟩,rfl,rfl,rfl⟩
theorem zu6{B c g b ga de dt en et ow mt rg sm n:Nat}{F:Nat→Prop}{ou rv:Value}(hn:n≤2147483647):PreS c false ((qj false B c g b ga de dt en et ow mt n rg sm F).toldM (ja n) ou rv)∧((qj false B c g b ga de dt en et ow mt n rg sm F).toldM (ja n) ou rv).R=qo++zh (stF (ja n))∧((qj false B c g b ga de dt en et ow mt n rg sm F).toldM (ja n) ou rv).l=[]∧((qj false B c g b ga de dt en et ow mt n rg sm F).toldM (ja n) ou rv).es=[]:=
 ⟨⟨rfl,rfl,rfl,rfl,rfl,rfl,rfl,rfl,rfl,rfl,rfl,rfl,rfl,hn,rfl,rfl,⟨rfl,rfl,rfl⟩,rfl,rfl,rfl,rfl,rfl,rfl,rfl,by unfold Zs.toldM qj;exact zq0 hn⟩,rfl,rfl,rfl⟩
theorem vh:Y0 (Jx 65535):=λx hx=>by cases hx
structure SetD(c:Nat)(srv:Bool)(now:St)(R:List UInt8)(k:Nat)(z:Zs):Prop where
 s:Stdy c srv 0 0 z
 R:z.R=R
 ol:z.ol.length=k
 pe:z.pe=now
 eL:z.eL=[]
 eM:z.eM=4096
 low:z.low=4096
 lim:z.lim=true
 rep:z.rep≤1
theorem SetD.evs{c:Nat}{srv:Bool}{now:St}{R:List UInt8}{k:Nat}{z:Zs}(h:SetD c srv now R k z)(v:Value)(L:List Ev):SetD c srv now R k { z with ev:=v,es:=L }:={ h with s:=h.s.evs v L }
theorem SetD.fed{c:Nat}{srv:Bool}{now:St}{R:List UInt8}{k:Nat}{z:Zs}(h:SetD c srv now R k z)(l:List UInt8):SetD c srv now R k { z with l:=l }:={ h with s:=h.s.fed l }
theorem SetD.nxd{c:Nat}{srv:Bool}{now:St}{R:List UInt8}{k:Nat}{z:Zs}(h:SetD c srv now R k z)(l:List UInt8):SetD c srv now R k (z.nxd l false):={ h with s:=h.s.nxd l }
theorem SetD.outd{c:Nat}{srv:Bool}{now:St}{R:List UInt8}{k:Nat}{z:Zs}(h:SetD c srv now R k z){n:Nat}{v:Value}{rep:Nat}{F':Nat→Prop}(hr:rep≤z.rep)(hn:R.length≤n):SetD c srv now [] k (z.outd n v rep F'):=
 { h with s:=h.s.outd hr,R:=by show z.R.drop n=[];rw[h.R];exact List.drop_eq_nil_of_le hn,rep:=Nat.le_trans hr h.rep }
theorem SetD.cli{c:Nat}{now:St}{R:List UInt8}{k:Nat}{z:Zs}(h:SetD c false now R k z)(hst:now.st=16):CliS c 0 0 z:=⟨h.s,by rw[h.pe];exact hst,h.eL,h.eM,h.low,h.lim,h.rep⟩
attribute [local irreducible] Cc.c evc Fm.c ftc knc whc St.c
theorem zh9{w:World}{z:Zs}{c base:Nat}{srv:Bool}{X:Fm}{L:List (Nat × Nat)}{now:St}{l:List UInt8}(h:Sd14 w (z.nxd l false))(hG:GlobE w)(hs:PreS c srv z)(he:z.es=[])(hap:apN ju ju L=(now,0))(htb:now.tb=4096)(hnw:now.wn≤2147483647)(hL:L.length≤100)(hR:z.R.length≤100000)(hF:FmIs w base X (stF L))(hk:∀k,zi (z.nxd l false).ps k→k<base) :
  Calls Tryz.prog 31 #[.pointer (some ⟨z.c,0,none⟩),.agg X.c,.agg (ftc 0 0)] w (ji λw'=>∃z',ZP w (z.nxd l false) z' w'∧SetD c srv now (z.R++zh akF) 1 z'∧z'.l=l∧z'.es=[evS]):=by
 have hXe:=hF.eq
 have hty:X.ty=4:=by rw[hXe];rfl
 have hfl:X.fl=0:=by rw[hXe];rfl
 have hsn:X.sn=L.length:=by rw[hXe];rfl
 have hgk:gtk (z.nxd l false).gm X.ty X.fl X.st []=(gm0,false,gm0):=by
  rw[show (z.nxd l false).gm=gm0 from hs.gm,hty]
  rfl
 have hset:OwS w base 164 2 (.slice X.sA L.length X.sc) L.length (enl sgc L):=hF.sets
 have hwn:z.pe.wn=65535:=by rw[hs.pe];rfl
 refine zcq h X (Q:=λz'=>SetD c srv now (z.R++zh akF) 1 z'∧z'.l=l∧z'.es=[evS]) (λW hb=>?_) (λz' hq=>⟨hq.1.s.c.trans hs.c.symm,hq.1.s.go,hq.1.s.rep⟩)
 refine zcz (h.below hb) (hG.below hb) X [] (by rw[hfl];decide) (.inr ⟨hs.be,hty,by rw[hfl]⟩) (λe=>absurd e (by omega)) hgk rfl (.sets ⟨hty,by rw[hfl]⟩ rfl λW2 A2 c2 o2 hG2 hz2=>?_)
 refine(zu3 (l:=L) (now:=now) (m':=z.rm) hz2.sd X hsn ?_ (by omega) (by show apN z.pe z.pe L=_;rw[hs.pe];exact hap) (zwv _ (by show z.rm.l=[];rw[hs.rm];rfl) _) (by show z.pe.wn<_;omega) (by omega) (by show z.rm.Ok;rw[hs.rm];exact za9 _) (by show z.rm.Sm;rw[hs.rm];exact zdq vh (Nat.zero_le _)) (by rw[htb];decide) (by show z.eM≤4096;rw[hs.eM];decide) (by show tot z.eL≤z.eM;rw[hs.eL,hs.eM];decide) (by show z.low≤4096;rw[hs.low];decide) (by show z.R.length≤_;omega) (by show z.rep≤_;rw[hs.rep];decide) (by show z.es.length≤_;rw[he];decide)).mono ?_
 ·have h1:RdS W (λk=>k<W.heap.size∧¬zi (z.nxd l false).ps k) X.sA (enl sgc L):=((OwS.reads hset).keep λk hk=>hb.block k (OwS.lt hset k hk).2).imp λk hk1 hlt=>⟨hlt,λhk2=>by
   have:=(OwS.lt hset k hk1).1
   have:=hk k hk2
   omega⟩
  exact(hz2.fs.reads h1 λk hk=>hk).imp λk _ hl=>hl
 ·rintro x w5 ⟨rfl,ew,rv,ev,F',hz5⟩
  refine⟨rfl,_,hz5,⟨⟨hs.c,hs.srv,hs.go,hs.aw,hs.pa,rfl,rfl,rfl,rfl,⟨by show z.ss.length=0;rw[hs.ss];rfl,Nat.le_refl _,λi e he=>?_,λi e he=>?_⟩,hs.la,hs.lv,by show z.ol2.length=0;rw[hs.ov];rfl,hs.wn,by show now.wn≤_;omega,by show z.rm.Ok;rw[hs.rm];exact za9 _,by show Y0 z.rm;rw[hs.rm];exact vh,by show z.rm.l.length≤0;rw[hs.rm];exact Nat.le_refl _,?_,?_,hs.dL,hs.dM⟩,rfl,hs.ol,rfl,?_,htb,?_,rfl,?_⟩,rfl,?_⟩
  ·have he:z.ss[i]?=some e:=he
   rw[hs.ss] at he
   simp at he
  ·have he:z.ss[i]?=some e:=he
   rw[hs.ss] at he
   simp at he
  ·show Yc z.mz z.ml z.mu 0=(0,z.ml,z.mu)
   rw[hs.mt.1,hs.mt.2.1,hs.mt.2.2]
   decide
  ·show z.rep+1≤64
   rw[hs.rep];decide
  ·show shr (now.tb:Int) z.eL=[]
   rw[hs.eL]
   rfl
  ·show V0 z.lim z.low now.tb=4096
   rw[hs.lim,htb]
   rfl
  ·show z.rep+1≤1
   rw[hs.rep];decide
  ·show z.es++[evS]=[evS]
   rw[he];rfl
theorem zg3{w:World}{z:Zs}{c base:Nat}{srv:Bool}{X:Fm}{now:St}{R l:List UInt8}(h:Sd14 w (z.nxd l false))(hG:GlobE w)(hs:SetD c srv now R 1 z)(he:z.es=[])(hF:FmIs w base X akF) :
  Calls Tryz.prog 31 #[.pointer (some ⟨z.c,0,none⟩),.agg X.c,.agg (ftc 0 0)] w (ji λw'=>∃z',ZP w (z.nxd l false) z' w'∧SetD c srv now R 0 z'∧z'.l=l∧z'.es=[]):=by
 have hXe:=hF.eq
 have hty:X.ty=4:=by rw[hXe];rfl
 have hfl:X.fl=1:=by rw[hXe];rfl
 have hgk:gtk (z.nxd l false).gm X.ty X.fl X.st []=(gm0,false,gm0):=by
  rw[show (z.nxd l false).gm=gm0 from hs.s.gm,hty]
  rfl
 obtain⟨a,ha⟩:∃a,z.ol=[a]:=List.length_eq_one_iff.1 hs.ol
 refine zcq h X (Q:=λz'=>SetD c srv now R 0 z'∧z'.l=l∧z'.es=[]) (λW hb=>?_) (λz' hq=>⟨hq.1.s.c.trans hs.s.c.symm,hq.1.s.go,hq.1.s.rep⟩)
 refine zcz (h.below hb) (hG.below hb) X [] (by rw[hfl];decide) (.inl hs.s.be) (λe=>absurd e (by omega)) hgk rfl (.ack ⟨hty,by rw[hfl]⟩ rfl λW2 A2 c2 o2 hG2 hz2=>?_)
 refine(zo6 (a:=a) (L:=[]) hz2.sd ha (by simp)).mono ?_
 rintro x w5 ⟨rfl,v,hz5⟩
 exact⟨rfl,_,hz5,{ hs.nxd l with s:={ hs.s.nxd l with be:=rfl,gm:=rfl },ol:=rfl },rfl,he⟩
end
section
theorem PreS.evs{c:Nat}{srv:Bool}{z:Zs}(h:PreS c srv z)(v:Value)(L:List Ev):PreS c srv { z with ev:=v,es:=L }:={ h with }
theorem PreS.fed{c:Nat}{srv:Bool}{z:Zs}(h:PreS c srv z)(l:List UInt8):PreS c srv { z with l:=l }:={ h with }
theorem PreS.outd{c:Nat}{srv:Bool}{z:Zs}(h:PreS c srv z){n:Nat}{v:Value}{rep:Nat}{F':Nat→Prop}(hr:rep≤z.rep):PreS c srv (z.outd n v rep F'):={ h with rep:=Nat.le_zero.1 (by have:=h.rep;show rep≤0;omega) }
def Ys(n:Nat):St:={ ju with pu:=false,wn:=n,hd:=4096 }
def zbe:St:={ ju with st:=16,hd:=4096,co:=true }
theorem znq:∀y∈[evS],y.mild:=λy hy=>by
 rw[List.mem_singleton] at hy
 subst hy
 exact⟨by decide,by decide,by decide⟩
def Hs1(c n:Nat)(R:List UInt8)(Fs:List Frm)(z:Zs):Prop:=
 (Fs=[stF (ja n)]∧PreS c true z∧z.l=qo++(zh (stF (ja n))++[])∧z.R=R)∨(Fs=[]∧SetD c true (Ys n) (R++zh akF) 1 z∧z.l=[])
theorem zni(c:Nat){n:Nat}(hn:n≤2147483647){R:List UInt8}(hR:R.length≤1000):Keeps c (Hs1 c n R) where
 c h:=by
  rcases h with ⟨_,h,_⟩|⟨_,h,_⟩
  ·exact⟨h.c,h.go⟩
  ·exact⟨h.s.c,h.s.go⟩
 ev v L h:=by
  rcases h with ⟨h1,h,h2⟩|⟨h1,h,h2⟩
  ·exact .inl ⟨h1,h.evs v L,h2⟩
  ·exact .inr ⟨h1,h.evs v L,h2⟩
 last {z} h:=by
  rcases h with ⟨h1,_⟩|⟨_,h,h2⟩
  ·cases h1
  ·rw[h2,h.s.wt,h.s.bad]
   exact zb7
 next {F Fs z} h:=by
  rcases h with ⟨h1,h,h2,h3⟩|⟨h1,_⟩
  ·obtain⟨rfl,rfl⟩:=List.cons.inj h1
   refine⟨[],false,by rw[h2,h.wt,h.bad];exact zq8 (zzx (by omega)) _,λW X base he hs hG hF hk=>?_⟩
   refine(zh9 hs hG h he (zmt hn) rfl (by show n≤_;exact hn) (by simp[ja]) (by rw[h3];omega) hF hk).mono ?_
   rintro e w' ⟨h4,z',h5,h6,h7,h8⟩
   rw[h3] at h6
   exact⟨h4,z',h5,.inr ⟨rfl,h6,h7⟩,by rw[h8];exact Nat.le_refl _,by rw[h8];exact znq⟩
  ·cases h1
def Hs2(c:Nat)(R:List UInt8)(Fs:List Frm)(z:Zs):Prop:=
 (Fs=[stF jr,akF]∧PreS c false z∧z.l=zh (stF jr)++(zh akF++[])∧z.R=R)∨(Fs=[akF]∧SetD c false zbe (R++zh akF) 1 z∧z.l=zh akF++[])∨(Fs=[]∧SetD c false zbe (R++zh akF) 0 z∧z.l=[])
theorem zos(c:Nat){R:List UInt8}(hR:R.length≤1000):Keeps c (Hs2 c R) where
 c h:=by
  rcases h with ⟨_,h,_⟩|⟨_,h,_⟩|⟨_,h,_⟩
  ·exact⟨h.c,h.go⟩
  ·exact⟨h.s.c,h.s.go⟩
  ·exact⟨h.s.c,h.s.go⟩
 ev v L h:=by
  rcases h with ⟨h1,h,h2⟩|⟨h1,h,h2⟩|⟨h1,h,h2⟩
  ·exact .inl ⟨h1,h.evs v L,h2⟩
  ·exact .inr (.inl ⟨h1,h.evs v L,h2⟩)
  ·exact .inr (.inr ⟨h1,h.evs v L,h2⟩)
 last {z} h:=by
  rcases h with ⟨h1,_⟩|⟨h1,_⟩|⟨_,h,h2⟩
  ·cases h1
  ·cases h1
  ·rw[h2,h.s.wt,h.s.bad]
   exact zb7
 next {F Fs z} h:=by
  rcases h with ⟨h1,h,h2,h3⟩|⟨h1,h,h2⟩|⟨h1,_⟩
  ·obtain⟨rfl,rfl⟩:=List.cons.inj h1
   refine⟨zh akF++[],false,by rw[h2,h.wt,h.bad];exact zcy zze _,λW X base he hs hG hF hk=>?_⟩
   refine(zh9 hs hG h he zzs rfl (by decide) (by decide) (by rw[h3];omega) hF hk).mono ?_
   rintro e w' ⟨h4,z',h5,h6,h7,h8⟩
   rw[h3] at h6
   exact⟨h4,z',h5,.inr (.inl ⟨rfl,h6,h7⟩),by rw[h8];exact Nat.le_refl _,by rw[h8];exact znq⟩
  ·obtain⟨rfl,rfl⟩:=List.cons.inj h1
   refine⟨[],false,by rw[h2,h.s.wt,h.s.bad];exact zcy zt5 _,λW X base he hs hG hF hk=>?_⟩
   refine(zg3 hs hG h he hF).mono ?_
   rintro e w' ⟨h4,z',h5,h6,h7,h8⟩
   exact⟨h4,z',h5,.inr (.inr ⟨rfl,h6,h7⟩),by rw[h8];exact Nat.zero_le _,by rw[h8];exact λy hy=>by cases hy⟩
  ·cases h1
def Hs3(c:Nat)(srv:Bool)(now:St)(R:List UInt8)(Fs:List Frm)(z:Zs):Prop:=
 (Fs=[akF]∧SetD c srv now R 1 z∧z.l=zh akF++[])∨(Fs=[]∧SetD c srv now R 0 z∧z.l=[])
theorem Ve(c:Nat){srv:Bool}{now:St}{R:List UInt8}:Keeps c (Hs3 c srv now R) where
 c h:=by
  rcases h with ⟨_,h,_⟩|⟨_,h,_⟩
  ·exact⟨h.s.c,h.s.go⟩
  ·exact⟨h.s.c,h.s.go⟩
 ev v L h:=by
  rcases h with ⟨h1,h,h2⟩|⟨h1,h,h2⟩
  ·exact .inl ⟨h1,h.evs v L,h2⟩
  ·exact .inr ⟨h1,h.evs v L,h2⟩
 last {z} h:=by
  rcases h with ⟨h1,_⟩|⟨_,h,h2⟩
  ·cases h1
  ·rw[h2,h.s.wt,h.s.bad]
   exact zb7
 next {F Fs z} h:=by
  rcases h with ⟨h1,h,h2⟩|⟨h1,_⟩
  ·obtain⟨rfl,rfl⟩:=List.cons.inj h1
   refine⟨[],false,by rw[h2,h.s.wt,h.s.bad];exact zcy zt5 _,λW X base he hs hG hF hk=>?_⟩
   refine(zg3 hs hG h he hF).mono ?_
   rintro e w' ⟨h4,z',h5,h6,h7,h8⟩
   exact⟨h4,z',h5,.inr ⟨rfl,h6,h7⟩,by rw[h8];exact Nat.zero_le _,by rw[h8];exact λy hy=>by cases hy⟩
  ·cases h1
end
end Go.Proofs.YtooaajnkiokpnaaGreatDoor
