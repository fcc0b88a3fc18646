/-
  Part of a proof: A ring's operations as functions of a model: what they keep. No conditions but those that each theorem names. Conditions: those that each theorem names.
-/
import Derived.Test.YtooaajnkiokpnaaGreatDoorQ01
import Derived.Test.YtooaajnkiokpnaaGreatDoorQ20
import Derived.BigQuiet
import Derived.Lib.MinMax
namespace Go.Proofs.YtooaajnkiokpnaaGreatDoor
open Go.RowKit Go.WideShapes
set_option maxHeartbeats 2000000
set_option maxRecDepth 100000
section
structure Se where
 x:Sn
 sb:Nat
 p:Nat
 A:Option Addr
 c:Nat
def Se.v(e:Se):Value:=.slice e.A e.x.b.length e.c
def Qj(e:Se):Array Value:=#[.int .u32 e.x.st,e.v,.bool e.x.en,.bool e.x.ov,.pointer (some ⟨e.p,0,none⟩)]
def rgc(A:Option Addr)(n c t q:Nat):Array Value:=#[.slice A n c,.int .i64 t,.pointer (some ⟨q,0,none⟩)]
def sep(e:Se):List Value:=[.pointer (some ⟨e.sb,0,none⟩)]
theorem V8(e:Se):(sep e).length=1:=rfl
theorem zjh(e:Se):∀u∈sep e,u.oneCell'=true:=by
 intro u hu
 rw[List.mem_singleton.1 hu];rfl
def Se.fp(e:Se)(k:Nat):Prop:=k=e.sb∨k=e.p∨ob e.v k
structure SeIn(w:World)(e:Se):Prop where
 s:Row w e.sb 142 (Qj e)
 n:Row w e.p 160 (wnc e.x.lf 2)
 b:Bo w 0 5 e.v e.x.b
structure TrL(w:World)(g q:Nat)(A:Option Addr)(c:Nat)(L:List Se)(t:Nat)(W:Int):Prop where
 r:Row w g 145 (rgc A L.length c t q)
 n:Row w q 160 (wnc W 1)
 s:OwS w 0 138 1 (.slice A L.length c) L.length (enl sep L)
 i:∀e∈L,SeIn w e
 d:∀(i j:Nat) (a b:Se),L[i]?=some a→L[j]?=some b→∀k,a.fp k→b.fp k→i=j
 q:∀e∈L,e.p≠q
def TF(g q:Nat)(A:Option Addr)(c:Nat)(L:List Se)(k:Nat):Prop:=k=g∨k=q∨ob (.slice A L.length c) k∨∃e∈L,e.fp k
def Tr(w:World)(F:Nat→Prop)(g:Nat)(m:Rm):Prop:=∃q A c L,m.l=L.map (·.x)∧TrL w g q A c L m.t m.w∧F=TF g q A c L
theorem Row.ne_type{w:World}{g k:Nat}{T U:TypeId}{cs ds:Array Value}(h:Row w g T cs)(h2:Row w k U ds)(hn:T≠U):g≠k:=by
 rintro rfl
 unfold Row at h h2
 rw[h] at h2
 injection h2 with h2
 injection h2 with _ h2
 exact hn h2
theorem OwS.row{w:World}{base:Nat}{e:TypeId}{k n:Nat}{v:Value}{cs:List Value}(h:OwS w base e k v n cs){g:Nat}(hg:ob v g):∃cur,Row w g e cur:=by
 unfold ob at hg
 rcases h.2 with ⟨rfl,_⟩|⟨g',o,c,cur,rfl,_,hr,_⟩
 ·simp[Value.ownBlock] at hg
 ·simp[Value.ownBlock] at hg
  subst hg
  exact⟨cur,hr⟩
section
variable {w w':World}{g q:Nat}{A A':Option Addr}{c c':Nat}{L:List Se}{t t':Nat}{W W':Int}{e e':Se}
theorem SeIn.keep(h:SeIn w e)(hk:∀k,e.fp k→w'.heap[k]?=w.heap[k]?):SeIn w' e:=
 ⟨(hk _ (.inl rfl)).trans h.s,(hk _ (.inr (.inl rfl))).trans h.n,OwS.keep h.b λk hk'=>hk k (.inr (.inr hk'))⟩
theorem SeIn.lt(h:SeIn w e){k:Nat}(hk:e.fp k):k<w.heap.size:=by
 rcases hk with rfl|rfl|hk
 ·exact h.s.lt
 ·exact h.n.lt
 ·exact(OwS.lt h.b k hk).2
theorem TrL.lt(h:TrL w g q A c L t W){k:Nat}(hk:TF g q A c L k):k<w.heap.size:=by
 rcases hk with rfl|rfl|hk|⟨e,he,hk⟩
 ·exact h.r.lt
 ·exact h.n.lt
 ·exact(OwS.lt h.s k hk).2
 ·exact(h.i e he).lt hk
theorem TrL.keep(h:TrL w g q A c L t W)(hk:∀k,TF g q A c L k→w'.heap[k]?=w.heap[k]?):TrL w' g q A c L t W:=
 ⟨(hk _ (.inl rfl)).trans h.r,(hk _ (.inr (.inl rfl))).trans h.n,OwS.keep h.s λk hk'=>hk k (.inr (.inr (.inl hk'))),λe he=>(h.i e he).keep λk hk'=>hk k (.inr (.inr (.inr ⟨e,he,hk'⟩))),h.d,h.q⟩
theorem TrL.below(h:TrL w g q A c L t W)(hb:Below w.heap.size w w'):TrL w' g q A c L t W:=h.keep λk hk=>hb.block k (h.lt hk)
theorem SeIn.not(h:SeIn w e){k:Nat}{T:TypeId}{cs:Array Value}(hr:Row w k T cs)(h1:T≠142)(h2:T≠160∨k≠e.p)(h3:T≠5):¬e.fp k:=by
 rintro(rfl|rfl|hk)
 ·exact hr.ne_type h.s h1 rfl
 ·rcases h2 with h2|h2
  ·exact hr.ne_type h.n h2 rfl
  ·exact h2 rfl
 ·obtain⟨cur,h4⟩:=OwS.row h.b hk
  exact hr.ne_type h4 h3 rfl
theorem TrL.not_g(h:TrL w g q A c L t W)(he:e∈L):¬e.fp g:=(h.i e he).not h.r (by decide) (.inl (by decide)) (by decide)
theorem TrL.not_q(h:TrL w g q A c L t W)(he:e∈L):¬e.fp q:=(h.i e he).not h.n (by decide) (.inr λe1=>h.q e he e1.symm) (by decide)
theorem TrL.not_s(h:TrL w g q A c L t W)(he:e∈L):∀k,ob (.slice A L.length c) k→¬e.fp k:=λk hk=>by
 obtain⟨cur,h4⟩:=OwS.row h.s hk
 exact(h.i e he).not h4 (by decide) (.inl (by decide)) (by decide)
theorem TrL.g_q(h:TrL w g q A c L t W):g≠q:=h.r.ne_type h.n (by decide)
theorem TrL.s_g(h:TrL w g q A c L t W):¬ob (.slice A L.length c) g:=λhk=>by
 obtain⟨cur,h4⟩:=OwS.row h.s hk
 exact h.r.ne_type h4 (by decide) rfl
theorem TrL.s_q(h:TrL w g q A c L t W):¬ob (.slice A L.length c) q:=λhk=>by
 obtain⟨cur,h4⟩:=OwS.row h.s hk
 exact h.n.ne_type h4 (by decide) rfl
theorem TrL.cap(h:TrL w g q A c L t W):L.length≤c∧c≤maxLen:=by
 obtain⟨_,_,e,h1,h2⟩:=h.s.shape
 injection e with _ _ e
 subst e
 exact⟨h1,h2⟩
theorem TrL.turn(h:TrL w g q A c L t W)(hf:Fs (λk=>k=g) w w')(hr:Row w' g 145 (rgc A L.length c t' q)):TrL w' g q A c L t' W:=
 ⟨hr,hf.row (λe=>h.g_q e.symm) h.n,hf.owns h.s λk hk e=>h.s_g (by rw[←show k=g from e];exact hk),λe he=>(h.i e he).keep λk hk=>hf.block k ((h.i e he).lt hk) λe1=>h.not_g he (by rw[←show k=g from e1];exact hk),h.d,h.q⟩
theorem TrL.win(h:TrL w g q A c L t W)(hf:Fs (λk=>k=q) w w')(hr:Row w' q 160 (wnc W' 1)):TrL w' g q A c L t W':=
 ⟨hf.row h.g_q h.r,hr,hf.owns h.s λk hk e=>h.s_q (by rw[←show k=q from e];exact hk),λe he=>(h.i e he).keep λk hk=>hf.block k ((h.i e he).lt hk) λe1=>h.not_q he (by rw[←show k=q from e1];exact hk),h.d,h.q⟩
theorem zil{i:Nat}(hi:L[i]?=some e)(hs:e'.sb=e.sb):enl sep (L.set i e')=enl sep L:=by
 obtain⟨hl,rfl⟩:=List.getElem?_eq_some_iff.1 hi
 have h1:∀l:List Se,enl sep l=l.map λe=>Value.pointer (some ⟨e.sb,0,none⟩):=λl=>by
  induction l with
  |nil=>rfl
  |cons a l ih=>rw[Xa,ih];rfl
 rw[h1,h1]
 apply List.ext_getElem?
 intro j
 rw[List.getElem?_map,List.getElem?_map,List.getElem?_set]
 by_cases he:i=j
 ·subst he
  rw[if_pos rfl,if_pos hl,List.getElem?_eq_getElem hl,Option.map_some,Option.map_some,hs]
 ·rw[if_neg he]
theorem TrL.upd(h:TrL w g q A c L t W){i:Nat}(hi:L[i]?=some e)(hf:Fs e.fp w w')(hn:SeIn w' e')(hs:e'.sb=e.sb)(hp:∀k,e'.fp k→e.fp k∨w.heap.size≤k):TrL w' g q A c (L.set i e') t W:=by
 have he:e∈L:=List.mem_of_getElem? hi
 have hil:=(List.getElem?_eq_some_iff.1 hi).1
 have hlen:(L.set i e').length=L.length:=List.length_set
 have hoth:∀(j:Nat) (a:Se),j≠i→L[j]?=some a→∀k,a.fp k→¬e.fp k∧k<w.heap.size:=λj a hj ha k hk=>⟨λh1=>hj (h.d j i a e ha hi k hk h1),(h.i a (List.mem_of_getElem? ha)).lt hk⟩
 refine⟨by rw[hlen];exact hf.row (h.not_g he) h.r,hf.row (h.not_q he) h.n,?_,?_,?_,?_⟩
 ·rw[hlen,zil hi hs]
  exact hf.owns h.s (h.not_s he)
 ·intro a ha
  obtain⟨j,hj⟩:=List.getElem?_of_mem ha
  rw[List.getElem?_set] at hj
  split at hj
  ·cases hj;exact hn
  ·rename_i hne
   exact(h.i a (List.mem_of_getElem? hj)).keep λk hk=>hf.block k (hoth j a (λe=>hne e.symm) hj k hk).2 (hoth j a (λe=>hne e.symm) hj k hk).1
 ·have hx:∀(j:Nat) (b:Se),(L.set i e')[j]?=some b→j=i∧b=e'∨j≠i∧L[j]?=some b:=λj b hj=>by
   rw[List.getElem?_set] at hj
   split at hj
   ·rename_i he1
    cases hj;exact .inl ⟨he1.symm,rfl⟩
   ·rename_i hne
    exact .inr ⟨λe=>hne e.symm,hj⟩
  have hno:∀(j:Nat) (b:Se),j≠i→L[j]?=some b→∀k,b.fp k→¬e'.fp k:=λj b hj hb k hk h1=>by
   have h2:=hoth j b hj hb k hk
   rcases hp k h1 with h3|h3
   ·exact h2.1 h3
   ·omega
  intro j1 j2 a b ha hb k hka hkb
  rcases hx j1 a ha with ⟨rfl,rfl⟩|⟨h1,h2⟩<;>rcases hx j2 b hb with ⟨h3,h4⟩|⟨h3,h4⟩
  ·exact h3.symm
  ·exact absurd hka (hno j2 b h3 h4 k hkb)
  ·subst h4;exact absurd hkb (hno j1 a h1 h2 k hka)
  ·exact h.d j1 j2 a b h2 h4 k hka hkb
 ·intro a ha
  obtain⟨j,hj⟩:=List.getElem?_of_mem ha
  rw[List.getElem?_set] at hj
  split at hj
  ·cases hj
   intro e1
   rcases hp e'.p (.inr (.inl rfl)) with h3|h3
   ·exact h.not_q he (by rw[←e1];exact h3)
   ·have:=h.n.lt;omega
  ·exact h.q a (List.mem_of_getElem? hj)
theorem TF.upd{i:Nat}(hi:L[i]?=some e)(hp:∀k,e'.fp k→e.fp k∨w.heap.size≤k):∀k,TF g q A c (L.set i e') k→TF g q A c L k∨w.heap.size≤k:=by
 intro k hk
 unfold TF at *
 rw[List.length_set] at hk
 rcases hk with h1|h1|h1|⟨a,ha,h1⟩
 ·exact .inl (.inl h1)
 ·exact .inl (.inr (.inl h1))
 ·exact .inl (.inr (.inr (.inl h1)))
 ·rcases List.mem_or_eq_of_mem_set ha with ha|rfl
  ·exact .inl (.inr (.inr (.inr ⟨a,ha,h1⟩)))
  ·rcases hp k h1 with h2|h2
   ·exact .inl (.inr (.inr (.inr ⟨e,List.mem_of_getElem? hi,h2⟩)))
   ·exact .inr h2
theorem TF.of_e(he:e∈L){k:Nat}(hk:e.fp k):TF g q A c L k:=.inr (.inr (.inr ⟨e,he,hk⟩))
end
theorem Tr.keep{w w':World}{F:Nat→Prop}{g:Nat}{m:Rm}(h:Tr w F g m)(hk:∀k,F k→w'.heap[k]?=w.heap[k]?):Tr w' F g m:=by
 obtain⟨q,A,c,L,h1,h2,rfl⟩:=h
 exact⟨q,A,c,L,h1,h2.keep hk,rfl⟩
theorem Tr.lts{w:World}{F:Nat→Prop}{g:Nat}{m:Rm}(h:Tr w F g m):∀k,F k→k<w.heap.size:=by
 obtain⟨q,A,c,L,h1,h2,rfl⟩:=h
 exact λk hk=>h2.lt hk
structure Rm.Sm(m:Rm):Prop where
 few:m.l.length≤1000
 b:∀x∈m.l,x.b.length≤1000000
theorem zn3{L:List Se}{l:List Sn}(h:l=L.map (·.x))(k:Nat):l[k]?=(L[k]?).map (·.x):=by rw[h];simp
theorem Yi{L:List Se}{l:List Sn}(h:l=L.map (·.x)):l.length=L.length:=by rw[h];simp
section
variable {w:World}{g q:Nat}{A:Option Addr}{c:Nat}{L:List Se}{t:Nat}{W:Int}
theorem jh(h:TrL w g q A c L t W):w.cell? ⟨g,0,none⟩=some (.slice A L.length c)∧w.cell? ⟨g,1,none⟩=some (.int .i64 t)∧w.cell? ⟨g,2,none⟩=some (.pointer (some ⟨q,0,none⟩)):=⟨h.r.cell rfl,h.r.cell rfl,h.r.cell rfl⟩
theorem yj{e:Se}(h:SeIn w e):w.cell? ⟨e.sb,0,none⟩=some (.int .u32 e.x.st)∧w.cell? ⟨e.sb,1,none⟩=some (.slice e.A e.x.b.length e.c)∧w.cell? ⟨e.sb,2,none⟩=some (.bool e.x.en)∧w.cell? ⟨e.sb,3,none⟩=some (.bool e.x.ov)∧w.cell? ⟨e.sb,4,none⟩=some (.pointer (some ⟨e.p,0,none⟩)):=
 ⟨h.s.cell rfl,h.s.cell rfl,h.s.cell rfl,h.s.cell rfl,h.s.cell rfl⟩
theorem TrL.at(h:TrL w g q A c L t W){k:Nat}{e:Se}(hk:L[k]?=some e):∃b o,A=some ⟨b,o,none⟩∧w.cell? ⟨b,o+k,none⟩=some (.pointer (some ⟨e.sb,0,none⟩))∧SeIn w e∧k<L.length:=by
 obtain⟨hl,rfl⟩:=List.getElem?_eq_some_iff.1 hk
 have hr:=OwS.reads h.s
 obtain⟨b,o,e1,_,hc⟩:=hr (zxv V8 (by omega) (by omega))
 refine⟨b,o,e1,hc k _ ?_,h.i _ (List.getElem_mem hl),hl⟩
 have:=Q7 (enc:=sep) V8 hl (j:=0) (by omega)
 rw[Nat.mul_one,Nat.add_zero] at this
 rw[this]
 rfl
end
end
section
attribute [local irreducible] Qj rgc fd wnc
theorem zq4{w:World}{e:Se}{kb s:Nat}(h:SeIn w e)(hk:w.cell? ⟨kb,0,none⟩=some (.int .u32 s)) :
  Calls Tryz.prog 157 #[.pointer (some ⟨e.sb,0,none⟩),.pointer (some ⟨kb,0,none⟩)] w λr w'=>r=.returned (.bool (decide (e.x.st=s)))∧Below w.heap.size w w':=by
 have c0:=(yj h).1
 have e1:=zdi e.x.st s
 generalize decide (e.x.st=s)=z at *
 generalize e.x.st=y at *
 clear h
 go_enter Tryz.func157,Tryz.ntmps157
 go_wp2_with fail
 go_quiet (fail)
 go_wp2_with fail
 go_ret
 exact⟨rfl,qu (Below.refl _ _) _⟩
def fdP(s:Nat)(L:List Se):Int:=if fd s (L.map (·.x))<L.length then (fd s (L.map (·.x)):Int) else -1
theorem zrk{w:World}{g q:Nat}{A:Option Addr}{c:Nat}{L:List Se}{t:Nat}{W:Int}(h:TrL w g q A c L t W)(hL:L.length≤100000){kb s:Nat}(hk:w.cell? ⟨kb,0,none⟩=some (.int .u32 s)) :
  Calls Tryz.prog 156 #[.slice A L.length c,.func (.func 157) #[] #[.pointer (some ⟨kb,0,none⟩)]] w λr w'=>r=.returned (.int .i64 (fdP s L))∧Below w.heap.size w w':=by
 have H:=z2w h
 have HK:=z2w hk
 have hkl:kb<w.heap.size:=World.block_lt_of_cell? w _ hk
 clear h hk
 go_enter Tryz.func156,Tryz.ntmps156
 go_wp2_with fail
 go_loopw [8] (λi wr=>∃k:Nat,k≤L.length∧i=.int .i64 k∧Hid (k≤fd s (L.map (·.x)))∧Hid (Below w.heap.size w wr)) (λi _=>L.length-(intOf i).toNat)
 case atStart=>exact⟨0,Nat.zero_le _,rfl,Nat.zero_le _,Below.refl _ _⟩
 case round=>
  obtain⟨k,hk,rfl,hF,hB⟩:=hrel
  have hkk:wr.cell? ⟨kb,0,none⟩=some (.int .u32 s):=(hB.out.cell (p:=⟨kb,0,none⟩) hkl).trans HK.out
  by_cases hlt:k<L.length
  ·have hxk:=List.getElem?_eq_getElem hlt
   obtain⟨b,o,rfl,hc,hse,_⟩:=(H.out.below hB.out).at hxk
   have hle:(L.map (·.x)).length=L.length:=by simp
   have hst:(L.map (·.x))[k]'(by omega)=L[k].x:=by simp
   have HC:=z2w (zq4 hse hkk)
   by_cases hs:L[k].x.st=s
   ·simp only[hs,decide_true] at HC
    have hE:Hid (fdP s L=k):=by
     show _=_
     unfold fdP
     rw[zha (by omega) hF.out (by rw[hst];exact hs),if_pos hlt]
    clear hse hs hF hst hkk hxk
    generalize L[k]=e at *
    go_wp2_with fail
    refine HC.out.mono ?_
    rintro r w1 ⟨rfl,hb⟩
    have HB2:=z2w (hB.out.trans (hb.mono hB.out.size))
    clear hb hB HC hc
    go_wp2_with fail
    go_ret
    rw[hE.out]
    exact⟨rfl,HB2.out⟩
   ·simp only[hs,decide_false] at HC
    have hE:Hid (k+1≤fd s (L.map (·.x))):=zkb (by omega) hF.out (by rw[hst];exact hs)
    clear hse hs hF hst hkk hxk
    generalize L[k]=e at *
    go_wp2_with fail
    refine HC.out.mono ?_
    rintro r w1 ⟨rfl,hb⟩
    have HB2:=z2w (hB.out.trans (hb.mono hB.out.size))
    clear hb hB HC hc
    go_wp2_with fail
    go_roundw
    case rel=>exact⟨k+1,by omega,by go_num,hE,HB2⟩
    case measure=>simp[intOf];omega
  ·obtain rfl:k=L.length:=by omega
   have hE:Hid (fdP s L = -1):=by
    show _=_
    unfold fdP
    rw[if_neg (by have:=hF.out;omega)]
   clear hF hkk
   go_wp2_with fail
   go_ret
   rw[hE.out]
   exact⟨rfl,hB.out⟩
section
variable {w:World}{g q:Nat}{A:Option Addr}{c:Nat}{L:List Se}{t:Nat}{W:Int}
theorem Y4(h:TrL w g q A c L t W)(hL:L.length≤100000)(s:Nat):Calls Tryz.prog 119 #[.pointer (some ⟨g,0,none⟩),.int .u32 s] w λr w'=>r=.returned (.int .i64 (fdP s L))∧Below w.heap.size w w':=by
 have HB:Hid (Below w.heap.size w (w.alloc (.cells #[.int .u32 s] 24))):=(Below.refl _ _).alloc (Nat.le_refl _) _
 have H:=z2w (h.below HB.out)
 have hk:(w.alloc (.cells #[.int .u32 s] 24)).cell? ⟨w.heap.size,0,none⟩=some (.int .u32 s):=(Row.new w 24 #[.int .u32 s]).cell rfl
 have c0:=(jh H.out).1
 have hmf:∀(fn:Fn) (first cap:Array Value) (w:World),(Instr.makeFunc fn first cap).run Tryz.prog w=.ok (.func fn first cap) w:=λ_ _ _ _=>rfl
 go_enter Tryz.func119,Tryz.ntmps119
 go_upto_region 1 with fail
 generalize w.alloc (.cells #[.int .u32 s] 24)=w1 at *
 have HC:=z2w (zrk H.out hL hk)
 clear h H hk
 go_wp2_with fail
 refine HC.out.mono ?_
 rintro r w2 ⟨rfl,hb⟩
 have HB2:=z2w (HB.out.trans (hb.mono HB.out.size))
 clear hb HB HC c0
 go_wp2_with fail
 go_ret
 exact⟨rfl,HB2.out⟩
theorem zqt(h:TrL w g q A c L t W)(hL:L.length≤100000){s:Nat}(hn:¬fd s (L.map (·.x))<L.length):Calls Tryz.prog 82 #[.pointer (some ⟨g,0,none⟩),.int .u32 s] w λr w'=>r=.returned (.pointer none)∧Below w.heap.size w w':=by
 have HC:=z2w (Y4 h hL s)
 have hE:fdP s L = -1:=by unfold fdP;rw[if_neg hn]
 rw[hE] at HC
 clear h hn hE
 go_enter Tryz.func82,Tryz.ntmps82
 go_wp2_with fail
 refine HC.out.mono ?_
 rintro r w2 ⟨rfl,hb⟩
 have HB:=z2w hb
 clear hb HC
 go_wp2_with fail
 go_ret
 exact⟨rfl,HB.out⟩
theorem zo0(h:TrL w g q A c L t W)(hL:L.length≤100000){s:Nat}{e:Se}(hk:L[fd s (L.map (·.x))]?=some e):Calls Tryz.prog 82 #[.pointer (some ⟨g,0,none⟩),.int .u32 s] w λr w'=>r=.returned (.pointer (some ⟨e.sb,0,none⟩))∧Below w.heap.size w w':=by
 have HC:=z2w (Y4 h hL s)
 obtain⟨b,o,rfl,hc,hse,hlt⟩:=h.at hk
 have hE:fdP s L=(fd s (L.map (·.x)):Int):=by unfold fdP;rw[if_pos hlt]
 rw[hE] at HC
 generalize fd s (L.map (·.x))=k at *
 have H:=z2w h
 have HK:=z2w hk
 have e1:((k:Int) == -1)=false:=by rw[beq_eq_false_iff_ne];omega
 clear h hE hc hse
 go_enter Tryz.func82,Tryz.ntmps82
 go_wp2_with fail
 refine HC.out.mono ?_
 rintro r w2 ⟨rfl,hb⟩
 have H2:=H.out.below hb
 have HB:=z2w hb
 have c0:=(jh H2).1
 obtain⟨b',o',e2,hc,_,_⟩:=H2.at hk
 injection e2 with e2
 injection e2 with e2 e3
 subst e2 e3
 clear hb HC H2 H hk
 go_wp2_with fail
 go_ret
 exact⟨rfl,HB.out⟩
end
end
section
def TP(w:World)(F:Nat→Prop)(g:Nat)(m':Rm)(v:Value)(e:Ending)(w':World):Prop:=
 e=.returned v∧∃F',Tr w' F' g m'∧Fs F w w'∧∀k,F' k→F k∨w.heap.size≤k
theorem z0h{l:List Sn}{L:List Se}(h:l=L.map (·.x)){k:Nat}{x:Sn}(hk:l[k]?=some x):∃e,L[k]?=some e∧e.x=x:=by
 rw[zn3 h] at hk
 cases hx:L[k]? with
 |none=>rw[hx] at hk;cases hk
 |some e=>rw[hx] at hk;exact⟨e,rfl,Option.some.inj hk⟩
theorem zdf{w w':World}{F:Nat→Prop}{g:Nat}{m:Rm}{v:Value}(h:Tr w F g m)(hb:Below w.heap.size w w'):TP w F g m v (.returned v) w':=
 ⟨rfl,F,h.keep λk hk=>hb.block k (h.lts k hk),Fs.of_below hb,λ_ hk=>.inl hk⟩
attribute [local irreducible] Qj rgc fd wnc
section
variable {w:World}{F:Nat→Prop}{g:Nat}{m:Rm}
end
end
section
attribute [local irreducible] Qj rgc fd wnc can fc
section
variable {w:World}{g q:Nat}{A:Option Addr}{c:Nat}{L:List Se}{t:Nat}{W:Int}
theorem zoz(l:Int)(x:Sn):can l x=if x.b=[] then x.en&&!x.ov else decide (0<x.lf)&&decide (0<l):=by unfold can;rfl
theorem zpb(h:TrL w g q A c L t W){e:Se}(he:e∈L)(hb:e.x.b.length≤1000000):Calls Tryz.prog 121 #[.pointer (some ⟨g,0,none⟩),.pointer (some ⟨e.sb,0,none⟩)] w λr w'=>r=.returned (.bool (can W e.x))∧Below w.heap.size w w':=by
 have hse:=h.i e he
 obtain⟨_,_,r2⟩:=jh h
 obtain⟨_,s1,s2,s3,s4⟩:=yj hse
 have HN:=z2w hse.n
 have HQ:=z2w h.n
 have hcan:=z2w (zoz W e.x)
 clear h hse he
 by_cases hb0:e.x.b=[]
 ·have hcan:=hcan.out
  rw[if_pos hb0] at hcan
  rw[hb0] at s1
  have HC:=z2w hcan
  clear hcan r2 s4 hb0 hb
  generalize e.x.en=a at *
  generalize e.x.ov=b at *
  cases a<;>cases b
  all_goals
   go_enter Tryz.func121,Tryz.ntmps121
   go_wp2_with fail
   go_ret
   rw[HC.out]
   exact⟨rfl,Below.refl _ _⟩
 ·have hcan:=hcan.out
  rw[if_neg hb0] at hcan
  have h1:0<e.x.b.length:=List.length_pos_iff.2 hb0
  have e0:((e.x.b.length:Int) == 0)=false:=by rw[beq_eq_false_iff_ne];omega
  generalize e.x.b.length=n at *
  clear s2 s3 hb0
  generalize e.x.lf=a at *
  by_cases h2:0<a
  ·simp only[h2,decide_true,Bool.true_and] at hcan
   have HC:=z2w hcan
   clear hcan
   go_enter Tryz.func121,Tryz.ntmps121
   go_wp2_with fail
   refine(Xs HN.out).mono ?_
   rintro r w3 ⟨rfl,rfl⟩
   go_wp2_with fail
   refine(Xs HQ.out).mono ?_
   rintro r w3 ⟨rfl,rfl⟩
   go_wp2_with fail
   go_ret
   rw[HC.out]
   exact⟨rfl,Below.refl _ _⟩
  ·have h1':decide (0<a)=false:=by simp;omega
   simp only[h1',Bool.false_and] at hcan
   have HC:=z2w hcan
   clear hcan
   go_enter Tryz.func121,Tryz.ntmps121
   go_wp2_with fail
   refine(Xs HN.out).mono ?_
   rintro r w3 ⟨rfl,rfl⟩
   go_wp2_with fail
   go_ret
   rw[HC.out]
   exact⟨rfl,Below.refl _ _⟩
def nxP(W:Int)(l:List Sn)(t:Nat):Int:=if fc W (rot l t)<l.length then (((t+fc W (rot l t))%l.length:Nat):Int) else -1
theorem zj5{l:List Sn}{t k:Nat}(ht:t<l.length)(hk:k<l.length):(rot l t)[k]?=l[(t+k)%l.length]?:=by
 obtain⟨j,hj,hr,he⟩:=zyc ht hk
 rw[←he,←zyz ht hj,hr]
theorem zlt{l:List Sn}(hl:l=L.map (·.x))(h:TrL w g q A c L t W)(ht:t<L.length∨L.length=0)(hL:L.length≤1000)(hb:∀x∈l,x.b.length≤1000000):Calls Tryz.prog 85 #[.pointer (some ⟨g,0,none⟩)] w λr w'=>r=.returned (.int .i64 (nxP W l t))∧Below w.heap.size w w':=by
 have hll:=Yi hl
 have H:=z2w h
 have HL:=z2w hl
 have HBL:=z2w hb
 have c0:=(jh h).1
 clear h hl hb
 go_enter Tryz.func85,Tryz.ntmps85
 go_wp2_with fail
 clear c0
 go_loopw [12] (λi wr=>∃k:Nat,k≤L.length∧i=.int .i64 k∧Hid (k≤fc W (rot l t))∧Hid (Below w.heap.size w wr)) (λi _=>L.length-(intOf i).toNat)
 case atStart=>exact⟨0,Nat.zero_le _,rfl,Nat.zero_le _,Below.refl _ _⟩
 case round=>
  obtain⟨k,hk,rfl,hF,hB⟩:=hrel
  have HR:=z2w (H.out.below hB.out)
  obtain⟨c0,c1,_⟩:=jh HR.out
  by_cases hlt:k<L.length
  ·have htl:t<L.length:=by omega
   have hM:(t+k)%L.length<L.length:=Nat.mod_lt _ (by omega)
   have hmod:Int.tmod ((t:Int)+(k:Int)) (L.length:Int)=(((t+k)%L.length:Nat):Int):=by rw[←Int.natCast_add];rfl
   have hwr:IntKind.i64.wrap ((t:Int)+(k:Int))=(t:Int)+(k:Int):=IntWalk.i64_in _ (by omega)
   have e0:((L.length:Int) == 0)=false:=by rw[beq_eq_false_iff_ne];omega
   have hrm:=zj5 (l:=l) (t:=t) (k:=k) (by omega) (by omega)
   rw[hll] at hrm
   obtain⟨M,hMM⟩:∃M,M=(t+k)%L.length:=⟨_,rfl⟩
   rw[←hMM] at hM hmod hrm
   have hxk:=List.getElem?_eq_getElem hM
   have hlx:l[M]?=some L[M].x:=by rw[zn3 HL.out,hxk];rfl
   rw[hlx] at hrm
   obtain⟨hkr,hrx⟩:=List.getElem?_eq_some_iff.1 hrm
   have hbe:L[M].x.b.length≤1000000:=HBL.out _ (List.mem_of_getElem? hlx)
   have HC:=z2w (λ(w':World) (h:TrL w' g q A c L t W)=>zpb h (List.getElem_mem hM) hbe)
   have HMM:=z2w hMM
   have HXK:=z2w hxk
   clear hMM hxk hlx hrm hbe
   obtain⟨e,he⟩:∃e,e=L[M]:=⟨_,rfl⟩
   rw[←he] at hrx HC HXK
   by_cases hc:can W e.x=true
   ·simp only[hc] at HC
    have hE:Hid (nxP W l t=(M:Int)):=by
     show _=_
     unfold nxP
     have h1:=zn5 hkr hF.out (by rw[hrx];exact hc)
     rw[h1,if_pos (by omega),hll,HMM.out]
    clear hF hrx hc HMM he
    obtain⟨b,o,rfl,hcc,_,_⟩:=HR.out.at HXK.out
    have c0:=(jh HR.out).1
    go_upto_region 6 with fail
    go_quiet (fail)
    go_wp2_with fail
    refine(HC.out (wr.drewN _) (TrL.keep (w':=wr.drewN _) HR.out λ_ _=>rfl)).mono ?_
    rintro r w3 ⟨rfl,hb⟩
    have HB2:=z2w ((qu hB.out _).trans (hb.mono (qu hB.out _).size))
    clear hb HR HC c0 c1 hcc hB
    go_wp2_with fail
    go_ret
    rw[hE.out]
    exact⟨rfl,HB2.out⟩
   ·have hc':can W e.x=false:=by simpa using hc
    simp only[hc'] at HC
    have HF2:Hid (k+1≤fc W (rot l t)):=zje hkr hF.out (by rw[hrx];exact hc')
    clear hF hrx hc hc' HMM he
    obtain⟨b,o,rfl,hcc,_,_⟩:=HR.out.at HXK.out
    have c0:=(jh HR.out).1
    go_upto_region 6 with fail
    go_quiet (fail)
    go_wp2_with fail
    refine(HC.out (wr.drewN _) (TrL.keep (w':=wr.drewN _) HR.out λ_ _=>rfl)).mono ?_
    rintro r w3 ⟨rfl,hb⟩
    have HB2:=z2w ((qu hB.out _).trans (hb.mono (qu hB.out _).size))
    clear hb HR HC c0 c1 hcc hB
    go_wp2_with fail
    go_roundw
    case rel=>exact⟨k+1,by omega,by go_num,HF2,HB2⟩
    case measure=>simp[intOf];omega
  ·obtain rfl:k=L.length:=by omega
   have hE:Hid (nxP W l t = -1):=by
    show _=_
    unfold nxP
    rw[if_neg (by have:=hF.out;omega)]
   clear hF
   go_wp2_with fail
   go_ret
   rw[hE.out]
   exact⟨rfl,hB.out⟩
end
theorem Tr.of{w:World}{F:Nat→Prop}{g:Nat}{m:Rm}(h:Tr w F g m)(hm:m.Ok)(hs:m.Sm):∃q A c L,m.l=L.map (·.x)∧TrL w g q A c L m.t m.w∧F=TF g q A c L∧(m.t<L.length∨L.length=0)∧L.length≤1000:=by
 obtain⟨q,A,c,L,hl,ht,hF⟩:=h
 have h1:=Yi hl
 refine⟨q,A,c,L,hl,ht,hF,?_,by have:=hs.few;omega⟩
 rcases hm.tn with h2|⟨h2,_⟩
 ·exact .inl (by omega)
 ·exact .inr (by rw[←h1,h2];rfl)
end
section
theorem zxw{l:List Sn}{k:Nat}(hk:k<l.length)(i:Nat):(l.take k++l.drop (k+1))[i]?=if i<k then l[i]? else l[i+1]?:=by
 rw[List.getElem?_append]
 simp only[List.length_take,Nat.min_eq_left (Nat.le_of_lt hk),List.getElem?_take,List.getElem?_drop]
 split
 ·rfl
 ·congr 1
  omega
theorem Uniq.ers{l:List Sn}(h:Uniq l){k:Nat}(hk:k<l.length):Uniq (l.take k++l.drop (k+1)):=by
 intro i j x y hi hj hs
 rw[zxw hk] at hi hj
 split at hi<;>split at hj
 ·exact h _ _ _ _ hi hj hs
 ·have:=h _ _ _ _ hi hj hs;omega
 ·have:=h _ _ _ _ hi hj hs;omega
 ·have:=h _ _ _ _ hi hj hs;omega
theorem zds{l:List Sn}{k:Nat}{x:Sn}(h:x∈l.take k++l.drop (k+1)):x∈l:=by
 rcases List.mem_append.1 h with h|h
 ·exact List.mem_of_mem_take h
 ·exact List.mem_of_mem_drop h
theorem zjt{l:List Sn}{k:Nat}(hk:k<l.length):(l.take k++l.drop (k+1)).length+1=l.length:=by
 simp only[List.length_append,List.length_take,List.length_drop]
 omega
theorem Uniq.snoc{l:List Sn}(h:Uniq l){y:Sn}(hn:¬fd y.st l<l.length):Uniq (l++[y]):=by
 have hno:∀(i:Nat) (x:Sn),l[i]?=some x→x.st≠y.st:=λi x hi he=>by
  have h1:=zzn h hi he
  have h2:=(List.getElem?_eq_some_iff.1 hi).1
  omega
 intro i j a b hi hj hs
 rw[List.getElem?_append] at hi hj
 split at hi<;>split at hj
 ·exact h _ _ _ _ hi hj hs
 ·rename_i h1 h2
  have hb:b=y:=by
   rw[List.getElem?_singleton] at hj
   split at hj
   ·exact(Option.some.inj hj).symm
   ·cases hj
  subst hb
  exact absurd hs (hno _ _ hi)
 ·rename_i h1 h2
  have ha:a=y:=by
   rw[List.getElem?_singleton] at hi
   split at hi
   ·exact(Option.some.inj hi).symm
   ·cases hi
  subst ha
  exact absurd hs.symm (hno _ _ hj)
 ·rename_i h1 h2
  rw[List.getElem?_singleton] at hi hj
  split at hi
  ·split at hj
   ·omega
   ·cases hj
  ·cases hi
theorem zd9{m:Rm}(hm:m.Ok)(s:Nat)(hs:s<4294967296)(lf:Int):(xy m s lf).1.Ok:=by
 unfold xy
 split
 ·exact hm
 ·rename_i h
  refine⟨hm.uq.snoc (y:=⟨s,[],false,false,btw lf⟩) (λh1=>h (.inr h1)),?_,?_,hm.wn,?_⟩
  ·show m.t<(m.l++[_]).length∨_
   rw[List.length_append,List.length_singleton]
   have:=hm.le
   exact .inl (by omega)
  ·intro x hx
   rcases List.mem_append.1 hx with h1|h1
   ·exact hm.lf x h1
   ·rw[List.mem_singleton] at h1
    subst h1
    exact znb lf
  ·intro x hx
   rcases List.mem_append.1 hx with h1|h1
   ·exact hm.st x h1
   ·rw[List.mem_singleton] at h1
    subst h1
    exact⟨by show 0<s;have:s≠0:=λe=>h (.inl e);omega,hs⟩
theorem zed{m:Rm}(hm:m.Ok)(s:Nat):(xw m s).Ok:=by
 unfold xw
 split
 ·rename_i hi
  have hlen:=zjt hi
  have ht:=hm.lt (by omega)
  refine⟨hm.uq.ers hi,?_,λx hx=>hm.lf x (zds hx),hm.wn,λx hx=>hm.st x (zds hx)⟩
  show drT m.l.length m.t (fd s m.l)<_∨_=[]∧drT m.l.length m.t (fd s m.l)=0
  by_cases h0:(m.l.take (fd s m.l)++m.l.drop (fd s m.l+1)).length=0
  ·right
   refine⟨List.eq_nil_of_length_eq_zero h0,?_⟩
   unfold drT
   rw[if_neg (by omega),if_pos (by omega)]
  ·left
   show drT m.l.length m.t (fd s m.l)<(m.l.take (fd s m.l)++m.l.drop (fd s m.l+1)).length
   unfold drT
   split
   ·omega
   ·split<;>omega
 ·exact hm
theorem zih{m:Rm}{most:Int}{x:Sn}{N:Nat}{m':Rm}(h:Zp m most=some (x,N,m')) :
  ∃i,i=fc m.w (rot m.l m.t)∧(rot m.l m.t)[i]?=some x∧N=snN m.w most x∧m'=⟨m.l.set ((m.t+i)%m.l.length) (snY N x),((m.t+i)%m.l.length+1)%m.l.length,m.w-N⟩:=by
 unfold Zp at h
 cases hx:(rot m.l m.t)[fc m.w (rot m.l m.t)]? with
 |none=>rw[hx] at h;cases h
 |some y=>
  rw[hx] at h
  have h1:=Option.some.inj h
  injection h1 with h1 h2
  injection h2 with h2 h3
  subst h1 h2 h3
  exact⟨_,rfl,hx,rfl,rfl⟩
theorem zhg{l:Int}:∀{L:List Sn} {x:Sn},L[fc l L]?=some x→can l x=true
 |y :: L,x,h=>by
  by_cases hy:can l y=true
  ·have e:fc l (y :: L)=0:=by rw[fc,if_pos hy]
   rw[e] at h
   have h1:y=x:=Option.some.inj h
   rw[←h1];exact hy
  ·have e:fc l (y :: L)=fc l L+1:=by rw[fc,if_neg hy]
   rw[e,List.getElem?_cons_succ] at h
   exact zhg h
end
end Go.Proofs.YtooaajnkiokpnaaGreatDoor
