/-
  Part of a proof: hpack's Encoder.Limit, by its contract. Conditions: those that each theorem names.
-/
import Derived.Test.YtooaajnkiokpnaaGreatDoorQ01
import Derived.Test.YtooaajnkiokpnaaGreatDoorQ05
import Derived.Test.YtooaajnkiokpnaaGreatDoorQ04
import Derived.Test.YtooaajnkiokpnaaGreatDoorQ28
import Derived.Test.YtooaajnkiokpnaaGreatDoorQ31
import Derived.Test.YtooaajnkiokpnaaGreatDoorQ25
import Derived.Test.YtooaajnkiokpnaaGreatDoorQ21
import Derived.Test.YtooaajnkiokpnaaGreatDoorQ30
import Derived.Test.YtooaajnkiokpnaaGreatDoorQ23
import Derived.Test.YtooaajnkiokpnaaGreatDoorQ20
namespace Go.Proofs.YtooaajnkiokpnaaGreatDoor
open Go.RowKit Go.WideShapes
set_option maxHeartbeats 2000000
set_option maxRecDepth 100000
section
structure As where
 fp:Nat→Prop
 ok:World→Prop
 keep:∀{w w':World},ok w→w.heap.size≤w'.heap.size→(∀k,fp k→w'.heap[k]?=w.heap[k]?)→ok w'
 lt:∀{w:World},ok w→∀k,fp k→k<w.heap.size
structure Sep{I:Type}(w:World)(cs:I→As):Prop where
 ok:∀i,(cs i).ok w
 ap:∀i j,i≠j→∀k,(cs i).fp k→¬(cs j).fp k
def zi{I:Type}(cs:I→As)(k:Nat):Prop:=∃i,(cs i).fp k
structure SepP{I:Type}(w:World)(cs cs':I→As)(w':World):Prop where
 sep:Sep w' cs'
 fs:Fs (zi cs) w w'
 new:∀k,zi cs' k→zi cs k∨w.heap.size≤k
section
variable {I:Type}{w w' w2:World}{cs cs' cs2:I→As}
theorem As.below{a:As}(h:a.ok w)(hb:Below w.heap.size w w'):a.ok w':=a.keep h hb.size λk hk=>hb.block k (a.lt h k hk)
theorem As.fs{a:As}{S:Nat→Prop}(h:a.ok w)(hf:Fs S w w')(hS:∀k,a.fp k→¬S k):a.ok w':=a.keep h hf.size λk hk=>hf.block k (a.lt h k hk) (hS k hk)
theorem Sep.below(h:Sep w cs)(hb:Below w.heap.size w w'):Sep w' cs:=⟨λi=>As.below (h.ok i) hb,h.ap⟩
theorem Sep.of_fs{S:Nat→Prop}(h:Sep w cs)(hf:Fs S w w')(hS:∀k,zi cs k→¬S k):Sep w' cs:=⟨λi=>As.fs (h.ok i) hf λk hk=>hS k ⟨i,hk⟩,h.ap⟩
theorem Sep.lt(h:Sep w cs){k:Nat}(hk:zi cs k):k<w.heap.size:=by
 obtain⟨i,hi⟩:=hk
 exact(cs i).lt (h.ok i) k hi
theorem SepP.refl(h:Sep w cs):SepP w cs cs w:=⟨h,Fs.refl _ _,λ_ h=>.inl h⟩
theorem SepP.trans(h:SepP w cs cs' w')(h2:SepP w' cs' cs2 w2):SepP w cs cs2 w2:=
 ⟨h2.sep,h.fs.trans h2.fs λk hk h1=>(h.new k h1).elim id λh3=>absurd hk (by omega),λk hk=>(h2.new k hk).elim (h.new k) λh3=>.inr (Nat.le_trans h.fs.size h3)⟩
theorem SepP.then_below(h:SepP w cs cs' w')(hb:Below w'.heap.size w' w2):SepP w cs cs' w2:=⟨h.sep.below hb,h.fs.then_below hb,h.new⟩
theorem SepP.of_below(h:Sep w cs)(hb:Below w.heap.size w w'):SepP w cs cs w':=(SepP.refl h).then_below hb
theorem Sep.turn(h:Sep w cs)(J:I→Prop)(hf:Fs (λk=>∃i,J i∧(cs i).fp k) w w')(ho:∀i,J i→(cs' i).ok w')(hn:∀i,J i→∀k,(cs' i).fp k→(∃j,J j∧(cs j).fp k)∨w.heap.size≤k)
  (ha:∀i j,J i→J j→i≠j→∀k,(cs' i).fp k→¬(cs' j).fp k) (hs:∀i,¬J i→cs' i=cs i):SepP w cs cs' w':=by
 have hok:∀i,(cs' i).ok w':=λi=>by
  by_cases hi:J i
  ·exact ho i hi
  ·rw[hs i hi]
   refine As.fs (h.ok i) hf λk hk=>?_
   rintro⟨j,hj,hjk⟩
   exact h.ap i j (λe=>hi (e▸hj)) k hk hjk
 have hout:∀i j,J i→¬J j→∀k,(cs' i).fp k→¬(cs j).fp k:=λi j hi hj k h1 h2=>by
  rcases hn i hi k h1 with ⟨m,hm,hmk⟩|hge
  ·exact h.ap m j (λe=>hj (e▸hm)) k hmk h2
  ·have:=(cs j).lt (h.ok j) k h2
   omega
 refine⟨⟨hok,λi j hij k h1 h2=>?_⟩,hf.mono λk _ hk=>?_,λk hk=>?_⟩
 ·by_cases hi:J i
  ·by_cases hj:J j
   ·exact ha i j hi hj hij k h1 h2
   ·rw[hs j hj] at h2
    exact hout i j hi hj k h1 h2
  ·rw[hs i hi] at h1
   by_cases hj:J j
   ·exact hout j i hj hi k h2 h1
   ·rw[hs j hj] at h2
    exact h.ap i j hij k h1 h2
 ·obtain⟨i,_,hi⟩:=hk
  exact⟨i,hi⟩
 ·obtain⟨i,hi⟩:=hk
  by_cases hJ:J i
  ·rcases hn i hJ k hi with ⟨j,_,hj⟩|hge
   ·exact .inl ⟨j,hj⟩
   ·exact .inr hge
  ·rw[hs i hJ] at hi
   exact .inl ⟨i,hi⟩
theorem Sep.one(h:Sep w cs)(i:I)(hf:Fs (cs i).fp w w')(ho:(cs' i).ok w')(hn:∀k,(cs' i).fp k→(cs i).fp k∨w.heap.size≤k)(hs:∀j,j≠i→cs' j=cs j):SepP w cs cs' w':=
 h.turn (·=i) (hf.mono λk _ hk=>⟨i,rfl,hk⟩) (λj hj=>by subst hj;exact ho) (λj hj k hk=>by subst hj;exact(hn k hk).imp (λh=>⟨j,rfl,h⟩) id) (λa b ha hb hab=>absurd (ha.trans hb.symm) hab) hs
theorem Sep.two(h:Sep w cs)(i j:I)(hf:Fs (λk=>(cs i).fp k∨(cs j).fp k) w w')(hoi:(cs' i).ok w')(hoj:(cs' j).ok w')(hni:∀k,(cs' i).fp k→(cs i).fp k∨(cs j).fp k∨w.heap.size≤k)(hnj:∀k,(cs' j).fp k→(cs i).fp k∨(cs j).fp k∨w.heap.size≤k)
  (ha:∀k,(cs' i).fp k→¬(cs' j).fp k) (hs:∀m,m≠i→m≠j→cs' m=cs m):SepP w cs cs' w':=by
 have hn:∀k,(cs i).fp k∨(cs j).fp k∨w.heap.size≤k→(∃m,(m=i∨m=j)∧(cs m).fp k)∨w.heap.size≤k:=λk hk=>by
  rcases hk with hk|hk|hk
  ·exact .inl ⟨i,.inl rfl,hk⟩
  ·exact .inl ⟨j,.inr rfl,hk⟩
  ·exact .inr hk
 refine h.turn (λm=>m=i∨m=j) (hf.mono λk _ hk=>hk.elim (λh=>⟨i,.inl rfl,h⟩) λh=>⟨j,.inr rfl,h⟩) (λm hm=>?_) (λm hm k hk=>?_) (λa b ha' hb' hab k h1 h2=>?_) (λm hm=>hs m (λe=>hm (.inl e)) λe=>hm (.inr e))
 ·rcases hm with rfl|rfl
  ·exact hoi
  ·exact hoj
 ·rcases hm with rfl|rfl
  ·exact hn k (hni k hk)
  ·exact hn k (hnj k hk)
 ·rcases ha' with rfl|rfl<;>rcases hb' with rfl|rfl
  ·exact hab rfl
  ·exact ha k h1 h2
  ·exact ha k h2 h1
  ·exact hab rfl
end
end
section
section
variable {P:Program}
theorem zs4{cur:List Value}{o n k:Nat}{cs:List Value}{z:Value}(hfit:o+n≤cur.length)(hk:k<n)(hcs:(cur.drop o).take n=cs) :
  let cur1:=cur.take (o+k)++cs.drop (k+1)++cur.drop (o+k+(cs.drop (k+1)).length)
  cur1.length=cur.length∧((cur1.take (o+(n-1))++[z]++cur1.drop (o+(n-1)+1)).drop o).take (n-1)=cs.take k++cs.drop (k+1)∧(cur1.take (o+(n-1))++[z]++cur1.drop (o+(n-1)+1)).length=cur.length:=by
 intro cur1
 have hcl:cs.length=n:=by rw[←hcs,List.length_take,List.length_drop];omega
 have hnl:(cs.drop (k+1)).length=n-(k+1):=by rw[List.length_drop,hcl]
 have h1:cur1.length=cur.length:=by
  show (cur.take (o+k)++cs.drop (k+1)++cur.drop (o+k+(cs.drop (k+1)).length)).length=_
  rw[List.length_append,List.length_append,hnl,List.length_take,List.length_drop]
  omega
 refine⟨h1,?_,?_⟩
 ·have e1:(cur1.take (o+(n-1))++[z]++cur1.drop (o+(n-1)+1)).drop o=(cur1.drop o).take (n-1)++[z]++cur1.drop (o+(n-1)+1):=by
   rw[List.append_assoc,List.drop_append_of_le_length (by rw[List.length_take];omega),List.drop_take,Nat.add_sub_cancel_left,List.append_assoc]
  have e2:((cur1.drop o).take (n-1)).length=n-1:=by rw[List.length_take,List.length_drop];omega
  rw[e1,List.append_assoc,List.take_append_of_le_length (by omega),List.take_of_length_le (by omega)]
  have e3:cur1.drop o=(cur.drop o).take k++cs.drop (k+1)++cur.drop (o+k+(cs.drop (k+1)).length):=by
   show (cur.take (o+k)++cs.drop (k+1)++cur.drop (o+k+(cs.drop (k+1)).length)).drop o=_
   rw[List.append_assoc,List.drop_append_of_le_length (by rw[List.length_take];omega),List.drop_take,Nat.add_sub_cancel_left,List.append_assoc]
  have e4:(cur.drop o).take k=cs.take k:=by rw[←hcs,List.take_take,Nat.min_eq_left (by omega)]
  rw[e3,e4]
  have e5:(cs.take k++cs.drop (k+1)).length=n-1:=by rw[List.length_append,hnl,List.length_take,hcl];omega
  rw[List.take_append_of_le_length (by omega),List.take_of_length_le (by omega)]
 ·rw[List.length_append,List.length_append,List.length_take,List.length_drop,h1]
  simp
  omega
theorem zqx{w:World}{t e:TypeId}{i:TypeInfo}{z:Value}(ht:P.underlying t=some (.slice e))(hi:P.info? e=some i)(hz:i.zero=some z)(hsize:i.size=1)(hzc:z.cells=#[z])(hz1:z.oneCell'=true)
  {A:Option Addr} {n c:Nat} {cs:List Value} {base:Nat} (hown:OwS w base e 1 (.slice A n c) n cs) (h1:∀u∈cs,u.oneCell'=true) {k:Nat} (hk:k<n) :
  ∃A0 A1 A2 w1 w2,
   (∀W,(Instr.slice t (.slice A n c) (some (.int .i64 (k:Int))) (some (.int .i64 ((k:Int)+1))) (some (.int .i64 (n:Int)))).run P W=.ok (.slice A0 1 (n-k)) W)∧
   (∀W,(Instr.slice t (.slice A n c) none (some (.int .i64 (k:Int))) none).run P W=.ok (.slice A k c) W)∧
   (∀W,(Instr.slice t (.slice A n c) (some (.int .i64 ((k:Int)+1))) none none).run P W=.ok (.slice A1 (n-(k+1)) (c-(k+1))) W)∧
   (∀ty,(Builtin.append_ #[t,t] ty #[.slice A k c,.slice A1 (n-(k+1)) (c-(k+1))]).run P w=.ok (.slice A (n-1) c) w1)∧
   (∀W,(Instr.slice t (.slice A (n-1) c) (some (.int .i64 ((n:Int)-1))) (some (.int .i64 (n:Int))) none).run P W=.ok (.slice A2 1 (c-(n-1))) W)∧
   (∀ty,(Builtin.clear_ #[t] ty #[.slice A2 1 (c-(n-1))]).run P w1=.ok (.tuple #[]) w2)∧
   OwS w2 base e 1 (.slice A (n-1) c) (n-1) (cs.take k++cs.drop (k+1))∧Fs (ob (.slice A n c)) w w2:=by
 have ht':P.underlying t=some (.slice (P.elem t)):=by simp[Program.elem,ht]
 have he:P.elem t=e:=by simp[Program.elem,ht]
 have hso:∀W,(sizeOf (P.elem t)).run P W=.ok 1 W:=λW=>by rw[he];simp[sizeOf,typeInfo,hi,hsize]
 rcases hown.2 with ⟨e1,h0⟩|⟨g,o,c',cur,e1,hbg,hg,hnc,hcm,hfit,htake⟩
 ·omega
 injection e1 with e1 e2 e3
 subst e1 e3
 rw[Nat.mul_one] at hfit htake
 have hcl:cs.length=n:=by have h:=hown.1;rw[Nat.mul_one] at h;exact h
 have hA:∀A:Option Addr,A.map (λx=>x.add 0)=A:=λA=>by
  cases A with
  |none=>rfl
  |some a=>simp[Addr.add]
 obtain⟨d1,d2,d3⟩:=zs4 (z:=z) (cur:=cur.toList) (o:=o) (n:=n) (k:=k) (cs:=cs) (by rw[Array.length_toList];omega) hk htake
 have hnl:(cs.drop (k+1)).length=n-(k+1):=by rw[List.length_drop,hcl]
 obtain⟨cur1,hc1⟩:∃cur1:List Value,cur1=cur.toList.take (o+k)++cs.drop (k+1)++cur.toList.drop (o+k+(cs.drop (k+1)).length):=⟨_,rfl⟩
 simp only[←hc1] at d1 d2 d3
 rw[show cur.toList.length=cur.size from Array.length_toList] at d1 d3
 have hadd:(if c=k+1 then (some ⟨g,o,none⟩:Option Addr) else (some (⟨g,o,none⟩:Addr)).map (·.add ((k+1)*1)))=some (if c=k+1 then ⟨g,o,none⟩ else ⟨g,o+(k+1),none⟩):=by
  split
  ·rfl
  ·simp[add_plain]
 have hrow1:Row (w.setRow g cur1.toArray) g e cur1.toArray:=hg.setRow _
 have happ:∀ty,(Builtin.append_ #[t,t] ty #[.slice (some ⟨g,o,none⟩) k c,.slice (some (if c=k+1 then ⟨g,o,none⟩ else ⟨g,o+(k+1),none⟩)) (n-(k+1)) (c-(k+1))]).run P w=.ok (.slice (some ⟨g,o,none⟩) (n-1) c) (w.setRow g cur1.toArray):=λty=>by
  have hr:=vt (P:=P) w t ty e i ht hi g o k c cur hg (if c=k+1 then ⟨g,o,none⟩ else ⟨g,o+(k+1),none⟩) (n-(k+1)) (c-(k+1)) (cs.drop (k+1)) (by rw[hnl,hsize,Nat.mul_one]) (λj u hj=>by
    have hjl:=(List.getElem?_eq_some_iff.1 hj).1
    rw[hnl] at hjl
    rw[if_neg (by omega),add_plain]
    rw[List.getElem?_drop,←htake,List.getElem?_take,if_pos (by omega),List.getElem?_drop] at hj
    exact hg.cell (j:=o+(k+1)+j) (by rw[←hj,Nat.add_assoc];simp)) (λu hu=>h1 u (List.mem_of_mem_drop hu)) (by omega) (by rw[hsize];omega)
  rw[hsize,Nat.mul_one,←hc1,show k+(n-(k+1))=n-1 by omega] at hr
  exact hr
 have hz9:(Builtin.zeroCells z.cells 1).toList=[z]:=by rw[hzc];simp[Builtin.zeroCells]
 have hst:=run_storeCells_at P g (o+(n-1)) e (Builtin.zeroCells z.cells 1).toList 0 cur1.toArray (w.setRow g cur1.toArray) hrow1 (by rw[hz9,List.size_toArray,d1];show _+1≤_;omega) (by
  intro u hu
  rw[hz9,List.mem_singleton] at hu
  rw[hu];exact hz1)
 rw[hz9] at hst
 simp only[Nat.add_zero,List.length_singleton] at hst
 refine⟨some ⟨g,o+k,none⟩,some (if c=k+1 then ⟨g,o,none⟩ else ⟨g,o+(k+1),none⟩),some ⟨g,o+(n-1),none⟩,w.setRow g cur1.toArray,(w.setRow g cur1.toArray).setRow g (cur1.take (o+(n-1))++[z]++cur1.drop (o+(n-1)+1)).toArray,λW=>?_,λW=>?_,λW=>?_,happ,λW=>?_,λty=>?_,?_,?_⟩
 ·
  rw[run_slice_lhm (P:=P) W t (some ⟨g,o,none⟩) n c ht' .i64 .i64 .i64 (k:Int) ((k:Int)+1) (n:Int) (by omega) (by omega) (by omega) (by omega),hso]
  simp only[Result.andThen_ok,sliced]
  rw[show (((k:Int)+1).toNat-(k:Int).toNat)=1 by omega,show ((n:Int).toNat-(k:Int).toNat)=n-k by omega,if_neg (by omega),show (k:Int).toNat=k by omega]
  simp[add_plain]
 ·
  rw[run_slice_h W t _ n c ht' .i64 (k:Int) (by omega) (by omega),hso]
  simp[sliced,hA]
 ·
  rw[run_slice_l W t _ n c ht' .i64 ((k:Int)+1) (by omega) (by omega),hso]
  simp only[Result.andThen_ok,sliced]
  rw[show ((k:Int)+1).toNat=k+1 by omega,hadd]
 ·
  rw[run_slice_lh W t _ (n-1) c ht' .i64 .i64 ((n:Int)-1) (n:Int) (by omega) (by omega) (by omega),hso]
  simp only[Result.andThen_ok,sliced]
  rw[show ((n:Int)-1).toNat=n-1 by omega,if_neg (by omega),show ((n:Int).toNat-(n-1))=1 by omega]
  simp[add_plain]
 ·
  simp[Builtin.clear_,run_underlying ht,zeroValue,typeInfo,hi,hz,hz9,hst]
 ·refine⟨by rw[List.length_append,hnl,List.length_take,hcl];omega,.inr ⟨g,o,c,_,rfl,hbg,hrow1.setRow _,by omega,hcm,?_,?_⟩⟩
  ·rw[List.size_toArray,Nat.mul_one]
   rw[←d3] at hfit
   exact hfit
  ·rw[Nat.mul_one]
   exact d2
 ·exact((Fs.refl (ob (.slice (some ⟨g,o,none⟩) n c)) w).setRow (g:=g) (λ_=>rfl) _).setRow (λ_=>rfl) _
theorem Vw{ops:Array Oper}{o:Oper}{a:Act}{w w':World}{K:Act→World→Prop}{Q:Exit→Act→World→Prop}{E:Prop}(hgd:o.guard=none)(s x:Operand)(t:TypeId)
  (ho:o.op=.call { callee:=.builtin .append,args:=#[s,x],argTypes:=#[t,t] }) {v1 v2 v:Value} (hs:a.eval s=v1) (hx:a.eval x=v2) (hrun:(Builtin.append_ #[t,t] o.type #[v1,v2]).run P w=.ok v w') (h:K (a.put o.dst v) w') :
  if Region.wanted o (yielded ops a.tmps)=true then Oper.wp P o a w K Q else E:=by
 have hw:Region.wanted o (yielded ops a.tmps)=true:=by simp[Region.wanted,hgd]
 rw[if_pos hw]
 unfold Oper.wp execOp
 simp only[ho,resolve,invoke,builtin,Sem.run_bind,Sem.run_pure,Result.andThen_ok,List.map_toArray,List.map_cons,List.map_nil,hs,hx,hrun]
 exact h
end
end
section
structure Ks where
 nu:Nat
 st:Nat
 k:Nat
 me:Option (Nat × Int × Int × Int)
 en:Bool
 sh:Bool
 gh:Bool
def Ks.mv(e:Ks):Value:=.pointer (e.me.map λm=>⟨m.1,0,none⟩)
def Ks.kn(e:Ks):Kn:=⟨e.nu,e.st,e.mv,e.en,e.sh,e.gh⟩
structure KsIn(w:World)(e:Ks):Prop where
 r:Row w e.k 95 (knc e.kn)
 m:∀m,e.me=some m→Row w m.1 162 (mtc m.2.1 m.2.2.1 2 m.2.2.2)∧MtOk m.2.1 m.2.2.1 m.2.2.2
def Ks.fp(e:Ks)(k:Nat):Prop:=k=e.k∨∃m,e.me=some m∧k=m.1
theorem KsIn.keep{w w':World}{e:Ks}(h:KsIn w e)(hk:∀k,e.fp k→w'.heap[k]?=w.heap[k]?):KsIn w' e:=⟨(hk _ (.inl rfl)).trans h.r,λm hm=>⟨(hk _ (.inr ⟨m,hm,rfl⟩)).trans (h.m m hm).1,(h.m m hm).2⟩⟩
theorem KsIn.lt{w:World}{e:Ks}(h:KsIn w e){k:Nat}(hk:e.fp k):k<w.heap.size:=by
 rcases hk with rfl|⟨m,hm,rfl⟩
 ·exact h.r.lt
 ·exact(h.m m hm).1.lt
structure SmIn(w:World)(g:Nat)(L:List Ks):Prop where
 m:MapM w g (L.map λe=>(e.nu,e.k))
 i:∀e∈L,KsIn w e
 d:∀(i j:Nat) (a b:Ks),L[i]?=some a→L[j]?=some b→∀k,a.fp k→b.fp k→i=j
def SmF(g:Nat)(L:List Ks)(k:Nat):Prop:=k=g∨∃e∈L,e.fp k
structure Zs where
 B:Nat
 c:Nat
 srv:Bool
 g:Nat
 b:Nat
 l:List UInt8
 wt:Bool
 bad:Bool
 ga:Nat
 gm:Gm
 gA:Option Addr
 gc:Nat
 gr:Option Nat
 de:Nat
 dt:Nat
 dv:Value
 dL:List Fd
 dM:Nat
 en:Nat
 et:Nat
 ew:Value
 eL:List Fd
 eM:Nat
 lim:Bool
 low:Nat
 ow:Nat
 on:St
 ou:Value
 ol:List St
 pe:St
 ev:Value
 es:List Ev
 mt:Nat
 mz:Int
 ml:Int
 mu:Int
 wn:Nat
 row:Value
 R:List UInt8
 rep:Nat
 rg:Nat
 rF:Nat→Prop
 rm:Rm
 sm:Nat
 ss:List Ks
 ov:Value
 ol2:List Nat
 lv:Nat
 la:Nat
 be:Bool
 aw:Bool
 pa:Bool
 go:Bool
def pa0(k:Nat):Value:=.pointer (some ⟨k,0,none⟩)
def Zs.x(z:Zs):Cc:=⟨z.srv,pa0 z.g,pa0 z.ga,pa0 z.de,pa0 z.en,pa0 z.ow,z.pe,z.ev,pa0 z.mt,z.wn,z.row,z.rep,pa0 z.rg,.map (some z.sm),z.ov,z.lv,z.la,z.be,z.aw,z.pa,z.go⟩
def u3l(n:Nat):List Value:=[.int .u32 (n:Int)]
inductive Pt where
 |row|spl|gat|dec|enc|own|ev|mt|out|rg|sm|ov
  deriving DecidableEq
def zbf(z:Zs):As:=⟨λk=>k=z.c,λw=>Row w z.c 86 z.x.c,λh _ hk=>(hk _ rfl).trans h,λh k hk=>by subst hk;exact Row.lt h⟩
def z2k(z:Zs):As:=⟨gbS z.g z.b,λw=>Spl w z.g z.b z.l z.wt z.bad,λh hs hk=>h.keep hs (hk _ (.inl rfl)) (hk _ (.inr rfl)),λh k hk=>by rcases hk with rfl|rfl;exact h.lts.1;exact h.lts.2.1⟩
def z2q(z:Zs):As:=⟨λk=>k=z.ga∨ob (.slice z.gA z.gm.blk.length z.gc) k∨z.gr=some k,λw=>Ga w z.B z.ga z.gm z.gA z.gc z.gr,λh _ hk=>h.keep (hk _ (.inl rfl)) (λk h1=>hk k (.inr (.inl h1))) λk h1=>hk k (.inr (.inr h1)),λh k hk=>by
 rcases hk with rfl|hk|hk
 ·exact h.lts.1
 ·exact(h.lts.2.1 k hk).2
 ·exact h.lts.2.2 k hk⟩
def z1m(z:Zs):As:=⟨λk=>k=z.de∨k=z.dt∨ob z.dv k,λw=>Dn w z.B z.de z.dt z.dv z.dL z.dM 4096,λh _ hk=>⟨h.t.keep (hk _ (.inr (.inl rfl))) λk h1=>hk k (.inr (.inr h1)),(hk _ (.inl rfl)).trans h.d,h.ne,h.nv,h.lo⟩,λh k hk=>by
 rcases hk with rfl|rfl|hk
 ·exact Row.lt h.d
 ·exact h.t.lt
 ·exact(h.t.row.lt k hk).2⟩
def z2g(z:Zs):As:=⟨λk=>k=z.en∨k=z.et∨ob z.ew k,λw=>En w z.B z.en z.et z.ew z.eL z.eM z.lim z.low,λh _ hk=>⟨h.t.keep (hk _ (.inr (.inl rfl))) λk h1=>hk k (.inr (.inr h1)),(hk _ (.inl rfl)).trans h.e,h.ne,h.nv,h.lo⟩,λh k hk=>by
 rcases hk with rfl|rfl|hk
 ·exact Row.lt h.e
 ·exact h.t.lt
 ·exact(h.t.row.lt k hk).2⟩
def z1t(z:Zs):As:=⟨sb z.ow z.ou,λw=>Sd w z.B z.ow z.on z.ou z.ol,λh _ hk=>h.keep (hk _ (.inl rfl)) λk h1=>hk k (.inr h1),λh k hk=>(h.lts k hk).2⟩
def aEv(z:Zs):As:=⟨ob z.ev,λw=>EvL w z.ev z.es,λh _ hk=>OwS.keep h λk h1=>hk k h1,λh k hk=>(OwS.lt h k hk).2⟩
def aMt(z:Zs):As:=⟨λk=>k=z.mt,λw=>Row w z.mt 162 (mtc z.mz z.ml 1 z.mu)∧MtOk z.mz z.ml z.mu,λh _ hk=>⟨(hk _ rfl).trans h.1,h.2⟩,λh k hk=>by subst hk;exact h.1.lt⟩
def z2j(z:Zs):As:=⟨ob z.row,λw=>Bo w 0 5 z.row z.R,λh _ hk=>OwS.keep h λk h1=>hk k h1,λh k hk=>(OwS.lt h k hk).2⟩
def aRg(z:Zs):As:=⟨z.rF,λw=>Tr w z.rF z.rg z.rm,λh _ hk=>h.keep hk,λh k hk=>h.lts k hk⟩
def aSm(z:Zs):As:=⟨SmF z.sm z.ss,λw=>SmIn w z.sm z.ss,λh _ hk=>⟨h.m.keep (hk _ (.inl rfl)),λe he=>(h.i e he).keep λk h1=>hk k (.inr ⟨e,he,h1⟩),h.d⟩,λh k hk=>by
 rcases hk with rfl|⟨e,he,hk⟩
 ·exact h.m.lt
 ·exact(h.i e he).lt hk⟩
def aOv(z:Zs):As:=⟨ob z.ov,λw=>OwS w 0 24 1 z.ov z.ol2.length (enl u3l z.ol2),λh _ hk=>OwS.keep h λk h1=>hk k h1,λh k hk=>(OwS.lt h k hk).2⟩
def Zs.ps(z:Zs):Pt→As
 |.row=>zbf z
 |.spl=>z2k z
 |.gat=>z2q z
 |.dec=>z1m z
 |.enc=>z2g z
 |.own=>z1t z
 |.ev=>aEv z
 |.mt=>aMt z
 |.out=>z2j z
 |.rg=>aRg z
 |.sm=>aSm z
 |.ov=>aOv z
def Sd14(w:World)(z:Zs):Prop:=Sep w z.ps∧0<z.B∧∀k,zi z.ps k→z.B≤k
end
section
structure ZP(w:World)(z z':Zs)(w':World):Prop where
 sd:Sd14 w' z'
 fs:Fs (zi z.ps) w w'
 new:∀k,zi z'.ps k→zi z.ps k∨w.heap.size≤k
section
variable {w w' w2:World}{z z' z2:Zs}
theorem Sd14.size(h:Sd14 w z):z.B≤w.heap.size:=Nat.le_of_lt (Nat.lt_of_le_of_lt (h.2.2 z.c ⟨.row,rfl⟩) ((zbf z).lt (h.1.ok .row) z.c rfl))
theorem ZP.of(h:Sd14 w z)(hp:SepP w z.ps z'.ps w')(hB:z'.B=z.B):ZP w z z' w':=
 ⟨⟨hp.sep,by rw[hB];exact h.2.1,λk hk=>by
  rw[hB]
  rcases hp.new k hk with h1|h1
  ·exact h.2.2 k h1
  ·exact Nat.le_trans h.size h1⟩,hp.fs,hp.new⟩
theorem ZP.refl(h:Sd14 w z):ZP w z z w:=⟨h,Fs.refl _ _,λ_ h=>.inl h⟩
theorem ZP.sep(h:ZP w z z' w'):SepP w z.ps z'.ps w':=⟨h.sd.1,h.fs,h.new⟩
theorem ZP.trans(h:ZP w z z' w')(h2:ZP w' z' z2 w2):ZP w z z2 w2:=⟨h2.sd,(h.sep.trans h2.sep).fs,(h.sep.trans h2.sep).new⟩
theorem Sd14.below(h:Sd14 w z)(hb:Below w.heap.size w w'):Sd14 w' z:=⟨h.1.below hb,h.2⟩
theorem ZP.then_below(h:ZP w z z' w')(hb:Below w'.heap.size w' w2):ZP w z z' w2:=⟨h.sd.below hb,h.fs.then_below hb,h.new⟩
theorem ZP.of_below(h:Sd14 w z)(hb:Below w.heap.size w w'):ZP w z z w':=(ZP.refl h).then_below hb
theorem ZP.eq(h:ZP w z z' w')(he:z'=z2):ZP w z z2 w':=he▸h
theorem Sd14.row(h:Sd14 w z):Row w z.c 86 z.x.c:=h.1.ok .row
theorem Sd14.glob(h:Sd14 w z):¬zi z.ps 0:=λhk=>by
 have:=h.2.2 _ hk
 have:=h.2.1
 omega
theorem ZP.glob(h:ZP w z z' w')(hz:Sd14 w z)(hG:GlobE w):GlobE w':=(World.cell?_of_block (a:=⟨0,0,none⟩) (h.fs.block _ (jf hG) hz.glob)).trans hG
theorem ZP.cell(h:Sd14 w z)(j:Nat)(v:Value)(hr:Row (w.setCell ⟨z.c,j,none⟩ v) z.c 86 z'.x.c)(hc:z'.c=z.c)(hB:z'.B=z.B)(hs:∀m,m≠Pt.row→z'.ps m=z.ps m):ZP w z z' (w.setCell ⟨z.c,j,none⟩ v):=by
 refine ZP.of h (h.1.one .row ((Fs.refl (zbf z).fp w).setCell (g:=z.c) (λ_=>rfl) j v) ?_ (λk hk=>.inl (hk.trans hc)) hs) hB
 show Row _ z'.c _ _
 rw[hc]
 exact hr
theorem ZP.sent{R':List UInt8}(h:Sd14 w z)(hs:zfv w z.c z.x R' w'):∃v,ZP w z { z with row:=v,R:=R' } w':=by
 obtain⟨v,h1,h2,h3,h4⟩:=hs
 refine⟨v,ZP.of h (h.1.two .row .out h3 h1 h2 (λk hk=>.inl hk) (λk hk=>(h4.own hk).elim (λh=>.inr (.inl h)) λh=>.inr (.inr h)) (λk hk hk2=>?_) (λm hm hm2=>?_)) rfl⟩
 ·have hk':k=z.c:=hk
  subst hk'
  exact Jy h1 h2 hk2
 ·cases m<;>first|rfl|exact absurd rfl hm|exact absurd rfl hm2
theorem ZP.teld{L':List Ev}(h:Sd14 w z)(hs:zft w z.c z.x L' w'):∃v,ZP w z { z with ev:=v,es:=L' } w':=by
 obtain⟨v,h1,h2,h3,h4⟩:=hs
 refine⟨v,ZP.of h (h.1.two .row .ev h3 h1 h2 (λk hk=>.inl hk) (λk hk=>(h4.own hk).elim (λh=>.inr (.inl h)) λh=>.inr (.inr h)) (λk hk hk2=>?_) (λm hm hm2=>?_)) rfl⟩
 ·have hk':k=z.c:=hk
  subst hk'
  exact zaf h1 h2 hk2
 ·cases m<;>first|rfl|exact absurd rfl hm|exact absurd rfl hm2
theorem zhr(h:Sd14 w z)(hl:z.R.length≤100000000000)(f:Frm)(hk:f.Ok)(hm:f.May)(hp:f.pad = -1){dA sA:Option Addr}{dc sc:Nat}{q:Int}
  (hD:RdB w w.heap.size dA f.dat) (hS:RdS w (·<w.heap.size) sA (enl sgc f.sets)) :
  Calls Tryz.prog 74 #[.pointer (some ⟨z.c,0,none⟩),.agg ({ f.fm dA dc sA sc with pad:=q }:Fm).c] w (ji λw'=>∃v,ZP w z { z with row:=v,R:=z.R++zh f } w'):=
 (ze8 h.row (h.1.ok .out) hl f hk hm hp hD hS).mono λ_ _ ⟨h1,h2⟩=>⟨h1,ZP.sent h h2⟩
theorem Sd14.evs(h:Sd14 w z):∃A c1,z.ev=.slice A z.es.length c1:=by
 obtain⟨A,c1,h1,_⟩:=OwS.shape (h.1.ok .ev)
 exact⟨A,c1,h1⟩
theorem zhj(h:Sd14 w z)(hl:z.es.length≤100000)(y:Ev) :
  Calls Tryz.prog 112 #[.pointer (some ⟨z.c,0,none⟩),.agg (evc y)] w (ji λw'=>∃v,ZP w z { z with ev:=v,es:=z.es++[y] } w'):=by
 obtain⟨A,c1,hv⟩:=h.evs
 exact(zfc h.row hv (h.1.ok .ev) hl y).mono λ_ _ ⟨h1,h2⟩=>⟨h1,ZP.teld h h2⟩
end
end
section
attribute [local irreducible] Cc.c evc Fm.c knc
theorem zjg{w:World}{z:Zs}(h:Sd14 w z)(hl:z.R.length≤100000000000)(hrp:z.rep≤1000000000)(f:Frm)(hk:f.Ok)(hm:f.May)(hp:f.pad = -1){dA sA:Option Addr}{dc sc:Nat}{q:Int}{X:Fm}(hX:({ f.fm dA dc sA sc with pad:=q }:Fm)=X)
  (hD:RdS w (λk=>k<w.heap.size∧k≠z.c) dA (byc f.dat)) (hS:RdS w (λk=>k<w.heap.size∧k≠z.c) sA (enl sgc f.sets)) :
  Calls Tryz.prog 84 #[.pointer (some ⟨z.c,0,none⟩),.agg X.c] w (ji λw'=>∃v,ZP w z { z with rep:=z.rep+1,row:=v,R:=z.R++zh f } w'):=by
 have hb:Below w.heap.size w (w.alloc (.cells X.c 66)):=(Below.refl _ _).alloc (Nat.le_refl _) _
 have HX:Hid (Row (w.alloc (.cells X.c 66)) w.heap.size 66 X.c):=Row.new w _ _
 have h1:=h.below hb
 have HZ1:=z2w (ZP.of_below h hb)
 have H1:=z2w h1
 have HF:Hid (Fs (λk=>k=z.c) w ((w.alloc (.cells X.c 66)).setCell ⟨z.c,17,none⟩ (.int .i64 ((z.rep:Int)+1)))):=(Fs.of_below (S:=λk=>k=z.c) hb).setCell (g:=z.c) (λ_=>rfl) _ _
 have HD2:=z2w (RdB.ofS (B:=w.heap.size) (HF.out.reads hD λk hk=>hk) λk hk _=>hk.1)
 have HS2:=z2w (HF.out.reads hS λk hk=>hk)
 have hcl:z.c≠w.heap.size:=by have:=h.row.lt;omega
 clear hb h1 h hD hS HF
 go_enter Tryz.func84,Tryz.ntmps84
 go_upto_region 1 with fail
 generalize w.alloc (.cells X.c 66)=w1 at *
 obtain⟨p,hpp⟩:∃p,w.heap.size=p:=⟨_,rfl⟩
 rw[hpp] at HX hcl HD2 HS2 ⊢
 have HPQ:=z2w hpp
 clear hpp
 have c17:w1.cell? ⟨z.c,17,none⟩=some (.int .i64 (z.rep:Int)):=zlb H1.out.row
 have z17:=H1.out.row.thawed 17
 have hw:IntKind.i64.wrap ((z.rep:Int)+1)=(z.rep:Int)+1:=IntWalk.i64_in _ (by omega)
 have h2:=ZP.cell (z':={ z with rep:=z.rep+1 }) H1.out 17 (.int .i64 ((z.rep:Int)+1)) (znu H1.out.row (z.rep+1)) rfl rfl (λm hm=>by cases m<;>first|rfl|exact absurd rfl hm)
 have H2:=z2w (HZ1.out.trans h2)
 have HX2:=z2w (HX.out.stored' (a:=⟨z.c,17,none⟩) (Ne.symm hcl) (.int .i64 ((z.rep:Int)+1)))
 have hps:p≤(w1.setCell ⟨z.c,17,none⟩ (.int .i64 ((z.rep:Int)+1))).heap.size:=Nat.le_of_lt HX2.out.lt
 clear h2 HX HZ1
 go_upto_region 2 with fail
 generalize w1.setCell ⟨z.c,17,none⟩ (.int .i64 ((z.rep:Int)+1))=w2 at *
 clear c17 z17 hw
 have hsd:=zhr H2.out.sd hl f hk hm hp (dc:=dc) (sc:=sc) (q:=q) (HD2.out.more hps) (HS2.out.imp λk hk hl=>hl)
 rw[hX] at hsd
 clear hX
 go_wp2_with (refine zg rfl _ rfl rfl HX2.out ?_)
 refine hsd.mono ?_
 rintro e w3 ⟨rfl,v,h3⟩
 have H3:=z2w (H2.out.trans h3)
 clear h3 hsd
 go_wp2_with fail
 go_end0
 exact⟨rfl,v,H3.out⟩
def rsF(n code:Nat):Frm:=⟨3,0,n,[],-1,code,0,0,false,0,[]⟩
theorem zkp{n code:Nat}(h:code<4294967296):(rsF n code).Ok:=⟨(by decide:3<256),(by decide:0<256),h,(by decide:0<256),λs hs=>by cases hs⟩
theorem zhd{n code:Nat}(h2:n≤2147483647):(rsF n code).May:=
 ⟨⟨h2,Nat.zero_le _,Nat.zero_le _⟩,λh=>absurd h (by show ¬3=6;decide),(by decide:Qf 3 0 (-1)),⟨λh=>absurd rfl h,(λh=>by cases h),λh=>absurd rfl h,λ_=>.inl rfl,λh=>absurd rfl h,λh=>absurd rfl h,λh=>absurd rfl h⟩,(by decide +kernel:yo 3 0 0 (-1) 0≤16384)⟩
theorem z0r(n code:Nat):({ (rsF n code).fm none 0 none 0 with pad:=0 }:Fm).c=#[.int .u8 3,.int .u8 0,.int .u32 n,.slice none 0 0,.int .i64 0,.int .u32 code,.int .u32 0,.int .u8 0,.bool false,.int .u32 0,.slice none 0 0]:=by unfold Fm.c;rfl
theorem zuf(a:Addr)(n:Int)(w:World):Calls Tryz.prog 78 #[.pointer (some a),.int .u32 n,.int .u32 0] w λe w'=>e=.returned (.tuple #[])∧w'=w:=by
 go_enter Tryz.func78,Tryz.ntmps78
 go_wp2_with fail
 go_end0
 exact⟨rfl,rfl⟩
theorem zs1{w:World}{z:Zs}(h:Sd14 w z){n:Int}{l u:Int}(hu:Yc z.mz z.ml z.mu n=(0,l,u))(hok:MtOk z.mz l u) :
  Calls Tryz.prog 76 #[.pointer (some ⟨z.c,0,none⟩),.int .i64 n] w (ji λw'=>ZP w z { z with ml:=l,mu:=u } w'):=by
 have hm:Row w z.mt 162 (mtc z.mz z.ml 1 z.mu)∧MtOk z.mz z.ml z.mu:=h.1.ok .mt
 have hus:=zu8 hm.1 hm.2 n
 rw[hu] at hus
 have c14:w.cell? ⟨z.c,14,none⟩=some (pa0 z.mt):=z1y h.row
 unfold pa0 at c14
 have H:=z2w h
 have HOK:=z2w hok
 clear h hm hu hok
 go_enter Tryz.func76,Tryz.ntmps76
 go_wp2_with fail
 refine hus.mono ?_
 rintro e w1 ⟨rfl,hr,hf⟩
 have H1:Hid (ZP w z { z with ml:=l,mu:=u } w1):=ZP.of H.out (H.out.1.one .mt hf ⟨hr,HOK.out⟩ (λk hk=>.inl hk) (λm hm=>by cases m<;>first|rfl|exact absurd rfl hm)) rfl
 clear hr hf hus c14
 go_wp2_with fail
 refine(zuf _ _ _).mono ?_
 rintro e w2 ⟨rfl,rfl⟩
 go_wp2_with fail
 go_end0
 exact⟨rfl,H1.out⟩
end
section
def V0(lim:Bool)(low m:Nat):Nat:=if lim=true∧low≤m then low else m
attribute [local irreducible] tot shr sz Qi Ja Jh yw Z9 Zf nOf hOf xr jk
section
variable {w w':World}{B ge g:Nat}{v v':Value}{L L':List Fd}{M M':Nat}{lim:Bool}{low:Nat}
theorem En.set1(h:En w B ge g v L M lim low):En (w.setCell ⟨ge,1,none⟩ (.bool true)) B ge g v L M true low:=
 ⟨h.t.keep (Below.heap_setCell w _ _ g (λe=>h.ne e.symm)) λk hk=>Below.heap_setCell w _ _ k (λe=>h.nv (by subst e;exact hk)),Row.stored h.e 1 _,h.ne,h.nv,h.lo⟩
theorem En.set2(h:En w B ge g v L M lim low)(x:Nat):En (w.setCell ⟨ge,2,none⟩ (.int .u32 (x:Int))) B ge g v L M lim x:=
 ⟨h.t.keep (Below.heap_setCell w _ _ g (λe=>h.ne e.symm)) λk hk=>Below.heap_setCell w _ _ k (λe=>h.nv (by subst e;exact hk)),Row.stored h.e 2 _,h.ne,h.nv,h.lo⟩
theorem En.limd(h:En w B ge g v L M lim low)(hT:Tb w' B g v' L' M')(hF:Fs (λk=>k=g∨ob v k) w w')(hv:v'.ownBlock=v.ownBlock):En w' B ge g v' L' M' lim low:=
 ⟨hT,hF.row (λe=>e.elim h.ne h.nv) h.e,h.ne,λe=>h.nv (by unfold ob at *;rw[←hv];exact e),h.lo⟩
end
theorem zlj{w:World}{B ge g:Nat}{v:Value}{L:List Fd}{M:Nat}{lim:Bool}{low:Nat}(h:En w B ge g v L M lim low)(m:Nat)(hm:m≤4096)(hM:M≤4096)(hL:tot L≤M)(_hlow:low≤4096) :
  Calls Tryz.prog 138 #[pt ge,.int .u32 (m:Int)] w λe w'=>e=.returned (.tuple #[])∧∃v',En w' B ge g v' (shr (m:Int) L) m true (V0 lim low m)∧Fs (EB ge g v) w w'∧Nx w v v':=by
 have hat:=λW=>vi m (by omega) W
 rw[show min m 4096=m by omega] at hat
 have hsz:∀f∈L,sz f≤2147483648:=λf hf=>by have:=Yj hf;omega
 have c0:=h.c0
 have c1:=h.c1
 have c2:=h.c2
 have hth1:=Row.thawed h.e 1
 have hth2:=Row.thawed h.e 2
 have H:=z2w h
 obtain⟨LW,hLW⟩:∃LW,LW=V0 lim low m:=⟨_,rfl⟩
 rw[←hLW]
 have HLW:=z2w hLW
 unfold pt at *
 clear h hLW
 go_enter Tryz.func138,Tryz.ntmps138
 go_wp2_with fail
 refine(hat _).mono ?_
 rintro e w1 ⟨rfl,hw⟩
 subst hw
 have key:lim=false∨(lim=true∧m<low)∨(lim=true∧low≤m):=by
  cases lim with
  |false=>exact .inl rfl
  |true=>
   by_cases h:m<low
   ·exact .inr (.inl ⟨rfl,h⟩)
   ·exact .inr (.inr ⟨rfl,by omega⟩)
 rcases key with rfl|⟨rfl,hlt⟩|⟨rfl,hle⟩
 ·have hlo:LW=m:=by
   rw[HLW.out]
   unfold V0
   rw[if_neg]
   rintro⟨h1,h2⟩
   first|(cases h1;done)|omega
  have HLO:=z2w hlo
  have HE:=z2w ((H.out.set2 m).set1)
  have HF:Hid (Fs (λk=>k=ge) w ((w.setCell ⟨ge,2,none⟩ (.int .u32 (m:Int))).setCell ⟨ge,1,none⟩ (.bool true))):=((Fs.refl (λk=>k=ge) w).setCell (λ_=>rfl) _ _).setCell (λ_=>rfl) _ _
  have e0:=HE.out.c0
  have hli:=X3 m (by omega) (by omega) hsz HE.out.t
  have hd:(m:Int)<(low:Int)∨True:=.inr trivial
  try have hd:=(by omega:(m:Int)<(low:Int))
  unfold pt at hli
  clear H hlo
  go_wp2_with fail
  refine hli.mono ?_
  rintro e w3 ⟨rfl,v',hT,hfr,hv⟩
  have hF3:=Fs.of_fr hfr
  have HE3:=z2w (HE.out.limd hT hF3 hv)
  have HF3:Hid (Fs (EB ge g v) w w3):=(HF.out.mono (S':=EB ge g v) λk _ e=>.inl e).trans hF3 λk _ e=>.inr e
  have HN3:Hid (Nx w v v'):=.inl hv
  clear hT hfr hv hF3 HE HF
  go_wp2_with fail
  go_end0
  refine⟨rfl,v',?_,HF3.out,HN3.out⟩
  rw[HLO.out]
  exact HE3.out
 ·have hlo:LW=m:=by
   rw[HLW.out]
   unfold V0
   rw[if_neg]
   rintro⟨h1,h2⟩
   first|(cases h1;done)|omega
  have HLO:=z2w hlo
  have HE:=z2w ((H.out.set2 m).set1)
  have HF:Hid (Fs (λk=>k=ge) w ((w.setCell ⟨ge,2,none⟩ (.int .u32 (m:Int))).setCell ⟨ge,1,none⟩ (.bool true))):=((Fs.refl (λk=>k=ge) w).setCell (λ_=>rfl) _ _).setCell (λ_=>rfl) _ _
  have e0:=HE.out.c0
  have hli:=X3 m (by omega) (by omega) hsz HE.out.t
  have hd:(m:Int)<(low:Int)∨True:=.inr trivial
  try have hd:=(by omega:(m:Int)<(low:Int))
  unfold pt at hli
  clear H hlo
  go_wp2_with fail
  refine hli.mono ?_
  rintro e w3 ⟨rfl,v',hT,hfr,hv⟩
  have hF3:=Fs.of_fr hfr
  have HE3:=z2w (HE.out.limd hT hF3 hv)
  have HF3:Hid (Fs (EB ge g v) w w3):=(HF.out.mono (S':=EB ge g v) λk _ e=>.inl e).trans hF3 λk _ e=>.inr e
  have HN3:Hid (Nx w v v'):=.inl hv
  clear hT hfr hv hF3 HE HF
  go_wp2_with fail
  go_end0
  refine⟨rfl,v',?_,HF3.out,HN3.out⟩
  rw[HLO.out]
  exact HE3.out
 ·have hlo:LW=low:=by rw[HLW.out];unfold V0;rw[if_pos ⟨rfl,hle⟩]
  have HLO:=z2w hlo
  have hd:decide ((m:Int)<(low:Int))=false:=by simp;omega
  have HE:=z2w H.out.set1
  have HF:Hid (Fs (λk=>k=ge) w (w.setCell ⟨ge,1,none⟩ (.bool true))):=(Fs.refl (λk=>k=ge) w).setCell (λ_=>rfl) _ _
  have e0:=HE.out.c0
  have hli:=X3 m (by omega) (by omega) hsz HE.out.t
  unfold pt at hli
  clear H hlo
  go_wp2_with fail
  refine hli.mono ?_
  rintro e w3 ⟨rfl,v',hT,hfr,hv⟩
  have hF3:=Fs.of_fr hfr
  have HE3:=z2w (HE.out.limd hT hF3 hv)
  have HF3:Hid (Fs (EB ge g v) w w3):=(HF.out.mono (S':=EB ge g v) λk _ e=>.inl e).trans hF3 λk _ e=>.inr e
  have HN3:Hid (Nx w v v'):=.inl hv
  clear hT hfr hv hF3 HE HF
  go_wp2_with fail
  go_end0
  refine⟨rfl,v',?_,HF3.out,HN3.out⟩
  rw[HLO.out]
  exact HE3.out
end
end Go.Proofs.YtooaajnkiokpnaaGreatDoor
