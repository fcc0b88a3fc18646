/-
  Part of a proof: strings.Clone, by its contract: the same text; below what was there nothing has turned. Conditions: those that each theorem names.
-/
import Derived.Test.YtooaajnkiokpnaaGreatDoorQ04
import Derived.Lib.AppendStr
import Derived.Lib.AppendZeros
import Derived.Laws.CopyOwn
import Derived.Test.YtooaajnkiokpnaaGreatDoorProg
import Derived.Test.YtooaajnkiokpnaaGreatDoorQ01
import Derived.Lib.UnsafeStr
import Derived.Lib.BufferWrite
import Derived.Laws.MakeOwn
namespace Go.Proofs.YtooaajnkiokpnaaGreatDoor
open Go.RowKit Go.WideShapes
set_option maxHeartbeats 1000000
set_option maxRecDepth 100000
section
def Nx(w:World)(v v':Value):Prop:=v'.ownBlock=v.ownBlock∨∀k,v'.ownBlock=some k→w.heap.size≤k
structure Fs(S:Nat→Prop)(w w':World):Prop where
 os:w'.os=w.os
 tape:w'.tape=w.tape
 output:w'.output=w.output
 size:w.heap.size≤w'.heap.size
 block:∀k,k<w.heap.size→¬S k→w'.heap[k]?=w.heap[k]?
def ob(v:Value)(k:Nat):Prop:=v.ownBlock=some k
section
variable {S S':Nat→Prop}{w w' w'':World}{v v' v'':Value}
theorem Fs.refl(S:Nat→Prop)(w:World):Fs S w w:=⟨rfl,rfl,rfl,Nat.le_refl _,λ_ _ _=>rfl⟩
theorem Fs.of_below(h:Below w.heap.size w w'):Fs S w w':=⟨h.os,h.tape,h.output,h.size,λk hk _=>h.block k hk⟩
theorem Fs.of_grown(h:w.grownBy w' v.ownBlock):Fs (ob v) w w':=⟨h.os,h.tape,h.output,h.size,λk hk hn=>h.block k hk λe=>hn e.symm⟩
theorem Fs.mono(h:Fs S w w')(hS:∀k,k<w.heap.size→S k→S' k):Fs S' w w':=⟨h.os,h.tape,h.output,h.size,λk hk hn=>h.block k hk λhs=>hn (hS k hk hs)⟩
theorem Fs.trans(h:Fs S w w')(h2:Fs S' w' w'')(hS:∀k,k<w.heap.size→S' k→S k):Fs S w w'':=
 ⟨h2.os.trans h.os,h2.tape.trans h.tape,h2.output.trans h.output,Nat.le_trans h.size h2.size,λk hk hn=>(h2.block k (Nat.lt_of_lt_of_le hk h.size) λhs=>hn (hS k hk hs)).trans (h.block k hk hn)⟩
theorem Fs.then_below(h:Fs S w w')(h2:Below w'.heap.size w' w''):Fs S w w'':=h.trans (S':=S) (Fs.of_below h2) λ_ _ h=>h
theorem Fs.alloc(h:Fs S w w')(x:Obj):Fs S w (w'.alloc x):=h.then_below ((Below.refl _ _).alloc (Nat.le_refl _) _)
theorem Fs.setCell(h:Fs S w w'){g:Nat}(hg:g<w.heap.size→S g)(j:Nat)(x:Value):Fs S w (w'.setCell ⟨g,j,none⟩ x):=
 h.trans (S':=λk=>k=g) ⟨rfl,rfl,rfl,by simp[World.setCell],λk _ hn=>Below.heap_setCell w' _ x k hn⟩ λk hk e=>by subst e;exact hg hk
theorem Fs.setRow(h:Fs S w w'){g:Nat}(hg:g<w.heap.size→S g)(x:Array Value):Fs S w (w'.setRow g x):=
 h.trans (S':=λk=>k=g) ⟨rfl,rfl,rfl,by simp,λk _ hn=>setRow_other w' g k x hn⟩ λk hk e=>by subst e;exact hg hk
theorem Fs.drewN(h:Fs S w w')(n:Nat):Fs S w (w'.drewN n):=⟨h.os,h.tape,h.output,h.size,h.block⟩
theorem Fs.row(h:Fs S w w'){b:Nat}(hb:¬S b){t:TypeId}{cs:Array Value}(hr:Row w b t cs):Row w' b t cs:=(h.block b hr.lt hb).trans hr
theorem Fs.below(h:Fs S w w'){B:Nat}(hS:∀k,S k→k<w.heap.size→B≤k)(hB:B≤w.heap.size):Below B w w':=
 ⟨h.os,h.tape,h.output,h.size,λk hk=>h.block k (by omega) λhs=>by have:=hS k hs (by omega);omega⟩
theorem Fs.reads(h:Fs S w w'){R:Nat→Prop}{A:Option Addr}{cs:List Value}(hr:RdS w R A cs)(hR:∀k,R k→k<w.heap.size∧¬S k):RdS w' R A cs:=
 hr.keep λg hg=>h.block g (hR g hg).1 (hR g hg).2
theorem Fs.owns(h:Fs S w w'){base:Nat}{e:TypeId}{k n:Nat}{cs:List Value}(ho:OwS w base e k v n cs)(hv:∀k,ob v k→¬S k):OwS w' base e k v n cs:=
 ho.keep λg hg=>h.block g (ho.lt g hg).2 (hv g hg)
theorem Nx.refl(w:World)(v:Value):Nx w v v:=.inl rfl
theorem Nx.trans(h:Nx w v v')(h2:Nx w' v' v'')(hw:w.heap.size≤w'.heap.size):Nx w v v'':=by
 rcases h2 with h2|h2
 ·rcases h with h|h
  ·exact .inl (h2.trans h)
  ·exact .inr λk hk=>h k (by rw[←h2];exact hk)
 ·exact .inr λk hk=>Nat.le_trans hw (h2 k hk)
theorem Nx.own(h:Nx w v v'){k:Nat}(hk:ob v' k):ob v k∨w.heap.size≤k:=by
 rcases h with h|h
 ·exact .inl (by unfold ob at *;rw[←h];exact hk)
 ·exact .inr (h k hk)
theorem Nx.of_new(h:v'.ownBlock=v.ownBlock∨v'.ownBlock=some w.heap.size):Nx w v v':=by
 rcases h with h|h
 ·exact .inl h
 ·refine .inr λk hk=>?_
  rw[h] at hk
  injection hk with hk
  omega
theorem Fs.next(h:Fs (ob v) w w')(hn:Nx w v v')(h2:Fs (ob v') w' w''):Fs (ob v) w w'':=h.trans h2 λk hk h3=>by
 rcases hn.own h3 with h4|h4
 ·exact h4
 ·omega
end
def Bo(w:World)(base:Nat)(e:TypeId)(v:Value)(l:List UInt8):Prop:=OwS w base e 1 v l.length (byc l)
theorem Bo.below{w w':World}{base:Nat}{e:TypeId}{v:Value}{l:List UInt8}(h:Bo w base e v l)(hb:Below w.heap.size w w'):Bo w' base e v l:=OwS.below h hb
section
variable {P:Program}{w:World}{base:Nat}{e:TypeId}{v:Value}{l m:List UInt8}
theorem Bo.nil:Bo w base e (.slice none 0 0) []:=OwS.nil
theorem Bo.shape(h:Bo w base e v l):∃A c,v=.slice A l.length c∧l.length≤c:=by
 obtain⟨A,c,h1,h2,_⟩:=OwS.shape h
 exact⟨A,c,h1,h2⟩
theorem Bo.reads{A:Option Addr}{n c:Nat}(h:Bo w base e (.slice A n c) l):RdB w w.heap.size A l:=λhl=>by
 obtain⟨g,o,h1,h2,h3⟩:=OwS.reads h (by intro e0;exact hl (List.eq_nil_of_length_eq_zero (by rw[←qi,e0];rfl)))
 exact⟨g,o,h1,(OwS.lt h g h2).2,λj hj=>h3 j _ (Qb hj)⟩
theorem Bo.low{A:Option Addr}{n c:Nat}(h:Bo w base e (.slice A n c) l):RdS w (λb=>base≤b∧b<w.heap.size) A (byc l):=OwS.up h
theorem RdB.toS{B:Nat}{A:Option Addr}(h:RdB w B A l):RdS w (·<B) A (byc l):=λhl=>by
 obtain⟨g,o,e1,e2,hc⟩:=h (by rintro rfl;exact hl rfl)
 refine⟨g,o,e1,e2,λj u hu=>?_⟩
 obtain⟨hj,rfl⟩:=J8 hu
 exact hc j hj
theorem RdB.ofS{B:Nat}{S:Nat→Prop}{A:Option Addr}(h:RdS w S A (byc l))(hS:∀g,S g→g<w.heap.size→g<B):RdB w B A l:=λhl=>by
 obtain⟨g,o,h1,h2,h3⟩:=h (by intro e0;exact hl (List.eq_nil_of_length_eq_zero (by rw[←qi,e0];rfl)))
 have h0:0<l.length:=List.length_pos_iff.2 hl
 exact⟨g,o,h1,hS g h2 (World.block_lt_of_cell? w _ (h3 0 _ (Qb h0))),λj hj=>h3 j _ (Qb hj)⟩
theorem OwB.toBo(h:OwB w base e v l):Bo w base e v l:=OwS.of_row h
theorem qx{ops:Array Oper}{rest:List Oper}{o:Oper}{a:Act}{Q:Exit→Act→World→Prop}(hgd:o.guard=none)(s x:Operand)(t:TypeId)
  (ho:o.op=.call { callee:=.builtin .append,args:=#[s,x],argTypes:=#[t,t] })
  (base:Nat) (e:TypeId) (i:TypeInfo) (ht:P.underlying t=some (.slice e)) (hi:P.info? e=some i) (hz:i.zero=some (.int .u8 0)) (hsize:i.size=1) (hby:i.bytes=1)
  (v:Value) (l:List UInt8) (hs:a.eval s=v) (hown:Bo w base e v l) (B:Nat) (A:Option Addr) (m:List UInt8) (n c:Nat) (hx:a.eval x=.slice A n c) (hn:n=m.length) (hr:RdB w B A m)
  (h63:l.length+m.length≤1099511627776) (hbase:base≤w.heap.size)
  (h:∀v' w',Bo w' base e v' (l++m)→Fs (ob v) w w'→Nx w v v'→wpList P ops Q rest (a.put o.dst v') w'):wpList P ops Q (o :: rest) a w:=by
 subst hn
 refine zcx hgd s x t ho base e i _ 1 1 ht hi hz hsize hby rfl (by omega) v l.length (byc l) hs hown (·<B) A m.length c (byc m) hx (by simp[qi]) hr.toS (V7 m) (by simp only[maxLen];omega) (by omega) hbase λA' c' w' h1 h2 h3=>?_
 refine h _ w' ?_ (Fs.of_grown h2) (Nx.of_new h3)
 unfold Bo
 rw[Z3,List.length_append]
 exact h1
theorem jp{ops:Array Oper}{o:Oper}{a:Act}{K:Act→World→Prop}{Q:Exit→Act→World→Prop}{E:Prop}(hgd:o.guard=none)(s x:Operand)(t:TypeId)
  (ho:o.op=.call { callee:=.builtin .append,args:=#[s,x],argTypes:=#[t,t] })
  (base:Nat) (e:TypeId) (i:TypeInfo) (ht:P.underlying t=some (.slice e)) (hi:P.info? e=some i) (hz:i.zero=some (.int .u8 0)) (hsize:i.size=1) (hby:i.bytes=1)
  (v:Value) (l:List UInt8) (hs:a.eval s=v) (hown:Bo w base e v l) (B:Nat) (A:Option Addr) (m:List UInt8) (n c:Nat) (hx:a.eval x=.slice A n c) (hn:n=m.length) (hr:RdB w B A m)
  (h63:l.length+m.length≤1099511627776) (hbase:base≤w.heap.size)
  (h:∀v' w',Bo w' base e v' (l++m)→Fs (ob v) w w'→Nx w v v'→K (a.put o.dst v') w'):if Region.wanted o (yielded ops a.tmps)=true then Oper.wp P o a w K Q else E:=by
 subst hn
 have hw:Region.wanted o (yielded ops a.tmps)=true:=by simp[Region.wanted,hgd]
 rw[if_pos hw]
 obtain⟨A',c',w',hrun,h2,h3,h4⟩:=Vc (P:=P) w base t o.type e i _ 1 1 ht hi hz hsize hby rfl (by omega) hown (S:=(·<B)) (A:=A) m.length c (news:=byc m) (by simp[qi]) hr.toS (V7 m) (by simp only[maxLen];omega) (by omega) hbase
 unfold Oper.wp execOp
 simp only[ho,resolve,invoke,builtin,Sem.run_bind,Sem.run_pure,Result.andThen_ok,List.map_toArray,List.map_cons,List.map_nil,hs,hx,hrun]
 refine h _ w' ?_ (Fs.of_grown h3) (Nx.of_new h4)
 unfold Bo
 rw[Z3,List.length_append]
 exact h2
theorem zhb(l:List UInt8):Lib.strCells ⟨l.toArray⟩=byc l:=by simp[Lib.strCells,byc]
theorem zgv(l:List UInt8):(ByteArray.mk l.toArray).size=l.length:=by simp[ByteArray.size]
theorem zk7(w:World)(base:Nat)(t u ty e:TypeId)(i:TypeInfo)(ht:P.underlying t=some (.slice e))(hu:P.underlying u=some .string)(hi:P.info? e=some i)(hz:i.zero=some (.int .u8 0))(hsize:i.size=1)(hby:i.bytes=1)
  {v:Value} {n:Nat} {cs:List Value} (hown:OwS w base e 1 v n cs) (s:ByteArray)
  (h63:n+s.size≤1099511627776) (hbase:base≤w.heap.size) :
  ∃A' c' w',(Builtin.append_ #[t,u] ty #[v,.string s]).run P w=.ok (.slice A' (n+s.size) c') w'∧OwS w' base e 1 (.slice A' (n+s.size) c') (n+s.size) (cs++Lib.strCells s)∧w.grownBy w' v.ownBlock∧
   ((Value.slice A' (n+s.size) c').ownBlock=v.ownBlock∨(Value.slice A' (n+s.size) c').ownBlock=some w.heap.size):=by
 have hsl:=Lib.strCells_length s
 have hcl:cs.length=n:=by simpa using hown.1
 have hmx:n+s.size≤maxLen:=by simp only[maxLen];omega
 have hlen:(cs++Lib.strCells s).length=(n+s.size)*1:=by rw[List.length_append,hcl,hsl,Nat.mul_one]
 have hz1:(Value.int IntKind.u8 0).cells.size=1:=rfl
 have grown:∀(old:Nat),old<n+s.size→∀row:Option Nat,
   OwS (w.drew.alloc (.cells (cs.toArray++(Lib.strCells s).toArray++Builtin.zeroCells (Value.int .u8 0).cells (grownCap w (n+s.size) old e-(n+s.size))) e)) base e 1 (.slice (some ⟨w.heap.size,0,none⟩) (n+s.size) (grownCap w (n+s.size) old e)) (n+s.size) (cs++Lib.strCells s)∧
   w.grownBy (w.drew.alloc (.cells (cs.toArray++(Lib.strCells s).toArray++Builtin.zeroCells (Value.int .u8 0).cells (grownCap w (n+s.size) old e-(n+s.size))) e)) row:=by
  intro old _ row
  have hge:=grownCap_ge w (n+s.size) old e
  have hcm:grownCap w (n+s.size) old e≤maxLen:=grownCap_le_maxLen w (n+s.size) old e hmx
  refine⟨⟨hlen,.inr ⟨w.heap.size,0,_,_,rfl,hbase,heap_alloc_new w.drew _,hge,hcm,?_,?_⟩⟩,⟨rfl,rfl,rfl,by simp,λk hk _=>Below.heap_alloc w.drew _ k hk⟩⟩
  ·simp only[Array.size_append,List.size_toArray,size_zeroCells,hz1,hcl,hsl]
   omega
  ·simp only[List.drop_zero,Array.toList_append,List.append_assoc]
   rw[←List.append_assoc,←hlen]
   exact List.take_left
 rcases hown.2 with ⟨rfl,rfl⟩|⟨g,o,cap,cur,rfl,hbg,hg,hnc,hcm,hcs,htake⟩
 ·have hx:cs=[]:=List.eq_nil_of_length_eq_zero hcl
  subst hx
  by_cases hm:s.size=0
  ·have hn:Lib.strCells s=[]:=List.eq_nil_of_length_eq_zero (by rw[hsl];exact hm)
   have hf:=Lib.run_firstCells_string (P:=P) w 1 s
   rw[hm] at hf
   refine⟨none,0,w,?_,by rw[hm,hn];exact OwS.nil,⟨rfl,rfl,rfl,Nat.le_refl _,λ_ _ _=>rfl⟩,.inl rfl⟩
   rw[hm]
   simp[Builtin.append_,run_underlying ht,run_underlying hu,sizeOf,typeInfo,hi,hsize,Builtin.lenOf,hm,hf]
  ·have hr:=run_append_nil_string (P:=P) w t u ty e i (.int .u8 0) ht hu hi hz s (by omega) (by omega) (by rw[hby];omega)
   have hgr:=grown 0 (by omega) (Value.ownBlock (.slice none 0 0))
   simp only[Nat.zero_add,List.nil_append,Array.empty_append] at hgr ⊢
   have e1:(s.data.map λb=>Value.int .u8 b.toNat)=(Lib.strCells s).toArray:=by
    apply Array.ext'
    simp[Lib.strCells]
   rw[e1] at hr
   exact⟨_,_,_,hr,hgr.1,hgr.2,.inr rfl⟩
 ·by_cases hroom:n+s.size≤cap
  ·have hf:=Lib.run_firstCells_string (P:=P) w 1 s
   have hst:=run_storeCells_at P g (o+n) e (Lib.strCells s) 0 cur w hg (by rw[hsl];omega) (Lib.strCells_oneCell s)
   simp only[Nat.add_zero] at hst
   have hadd:(⟨g,o,none⟩:Addr).add n=⟨g,o+n,none⟩:=add_plain ..
   have hr:(Builtin.append_ #[t,u] ty #[.slice (some ⟨g,o,none⟩) n cap,.string s]).run P w =
     .ok (.slice (some ⟨g,o,none⟩) (n+s.size) cap) (w.setRow g (cur.toList.take (o+n)++Lib.strCells s++cur.toList.drop (o+n+(Lib.strCells s).length)).toArray):=by
    simp[Builtin.append_,run_underlying ht,run_underlying hu,sizeOf,typeInfo,hi,hsize,Builtin.lenOf,hroom,hf,hadd,hst]
   refine⟨_,_,_,hr,⟨hlen,.inr ⟨g,o,cap,_,rfl,hbg,hg.setRow _,hroom,hcm,?_,?_⟩⟩,⟨rfl,rfl,rfl,by simp,λk _ hk=>setRow_other w g k _ (λe1=>hk (by simp[Value.ownBlock,e1]))⟩,Or.inl rfl⟩
   ·simp only[List.size_toArray,List.length_append,List.length_take,List.length_drop,Array.length_toList,hsl]
    omega
   ·have e1:(cur.toList.take (o+n)++Lib.strCells s++cur.toList.drop (o+n+(Lib.strCells s).length)).drop o=(cur.toList.drop o).take (n*1)++Lib.strCells s++cur.toList.drop (o+n+(Lib.strCells s).length):=by
     rw[List.append_assoc,List.drop_append_of_le_length (by simp;omega),List.drop_take,Nat.add_sub_cancel_left,List.append_assoc,Nat.mul_one]
    show ((cur.toList.take (o+n)++Lib.strCells s++cur.toList.drop (o+n+(Lib.strCells s).length)).drop o).take ((n+s.size)*1)=cs++Lib.strCells s
    rw[e1,htake,←hlen]
    exact List.take_left
  ·have holds:∀j u,cs[j]?=some u→w.cell? ((⟨g,o,none⟩:Addr).add j)=some u:=by
    intro j u hu
    rw[add_plain]
    have hne:cs≠[]:=by rintro rfl;simp at hu
    obtain⟨g',o',e1,_,hc⟩:=hown.reads hne
    injection e1 with e1
    injection e1 with e1 e2
    subst e1 e2
    exact hc j u hu
   have hr:=Lib.run_append_grow_string (P:=P) w t u ty e i (.int .u8 0) ht hu hi hz ⟨g,o,none⟩ n cap cs (by rw[hsize];simpa using hcl) holds s (by omega) (by omega) (by rw[hby];exact growslice_fits (by omega) (by omega))
   have hgr:=grown cap (by omega) (Value.ownBlock (.slice (some ⟨g,o,none⟩) n cap))
   exact⟨_,_,_,hr,hgr.1,hgr.2,Or.inr rfl⟩
theorem zfn{ops:Array Oper}{rest:List Oper}{o:Oper}{a:Act}{Q:Exit→Act→World→Prop}(hgd:o.guard=none)(s x:Operand)(t u:TypeId)
  (ho:o.op=.call { callee:=.builtin .append,args:=#[s,x],argTypes:=#[t,u] })
  (base:Nat) (e:TypeId) (i:TypeInfo) (ht:P.underlying t=some (.slice e)) (hu:P.underlying u=some .string) (hi:P.info? e=some i) (hz:i.zero=some (.int .u8 0)) (hsize:i.size=1) (hby:i.bytes=1)
  (v:Value) (l:List UInt8) (hs:a.eval s=v) (hown:Bo w base e v l) (m:List UInt8) (hx:a.eval x=.string ⟨m.toArray⟩)
  (h63:l.length+m.length≤1099511627776) (hbase:base≤w.heap.size)
  (h:∀v' w',Bo w' base e v' (l++m)→Fs (ob v) w w'→Nx w v v'→wpList P ops Q rest (a.put o.dst v') w'):wpList P ops Q (o :: rest) a w:=by
 have hsz:=zgv m
 refine wpList_plain hgd λK hK=>?_
 obtain⟨A',c',w',hrun,h2,h3,h4⟩:=zk7 (P:=P) w base t u o.type e i ht hu hi hz hsize hby hown ⟨m.toArray⟩ (by rw[hsz];exact h63) hbase
 unfold Oper.wp execOp
 simp only[ho,resolve,invoke,builtin,Sem.run_bind,Sem.run_pure,Result.andThen_ok,List.map_toArray,List.map_cons,List.map_nil,hs,hx,hrun]
 refine hK _ _ (h _ w' ?_ (Fs.of_grown h3) (Nx.of_new h4))
 unfold Bo
 rw[Z3,List.length_append,←zhb m,←hsz]
 exact h2
end
end
section
theorem zik(m:Nat):Builtin.zeroCells #[Value.int .u8 0] m=(List.replicate m (Value.int .u8 0)).toArray:=by
 apply Array.ext'
 unfold Builtin.zeroCells
 simp only[Array.toList_map,Array.toList_range,List.size_toArray,List.length_cons,List.length_nil,Nat.zero_add,Nat.mul_one,Nat.mod_one]
 apply List.ext_getElem
 ·simp
 ·intro i h1 h2
  simp
theorem znr(m:Nat):byc (List.replicate m 0)=List.replicate m (Value.int .u8 0):=by simp[byc]
section
variable {P:Program}
theorem zh5(w:World)(base:Nat)(t tn ty e:TypeId)(i:TypeInfo)(kn:IntKind)(ht:P.underlying t=some (.slice e))(htn:P.underlying tn=some (.int kn))(hi:P.info? e=some i)(hz:i.zero=some (.int .u8 0))(hsize:i.size=1)(hby:i.bytes=1)
  {v:Value} {n:Nat} {cs:List Value} (hown:OwS w base e 1 v n cs) (m:Nat) (h63:n+m≤1099511627776) (hbase:base≤w.heap.size) :
  ∃A' c' w',(Builtin.append_ #[t,tn] ty #[v,.int .i64 (m:Int)]).run P w=.ok (.slice A' (n+m) c') w'∧OwS w' base e 1 (.slice A' (n+m) c') (n+m) (cs++List.replicate m (Value.int .u8 0))∧w.grownBy w' v.ownBlock∧
   ((Value.slice A' (n+m) c').ownBlock=v.ownBlock∨(Value.slice A' (n+m) c').ownBlock=some w.heap.size):=by
 have hcl:cs.length=n:=by simpa using hown.1
 have hmx:n+m≤maxLen:=by simp only[maxLen];omega
 have hw:IntKind.i64.wrap (m:Int)=m:=by rw[IntKind.wrap_i64];omega
 have hw0:IntKind.i64.wrap 0=0:=by rw[IntKind.wrap_i64];omega
 have hneg:¬((m:Int)<0):=by omega
 have h48:¬(281474976710656<(m:Int)*(i.bytes:Int)):=by rw[hby];omega
 have hlen:(cs++List.replicate m (Value.int .u8 0)).length=(n+m)*1:=by rw[List.length_append,hcl,List.length_replicate,Nat.mul_one]
 have hz1:(Value.int IntKind.u8 0).cells.size=1:=rfl
 have grown:∀(old:Nat),old<n+m→∀row:Option Nat,
   OwS (w.drew.alloc (.cells (cs.toArray++(List.replicate m (Value.int .u8 0)).toArray++Builtin.zeroCells (Value.int .u8 0).cells (grownCap w (n+m) old e-(n+m))) e)) base e 1 (.slice (some ⟨w.heap.size,0,none⟩) (n+m) (grownCap w (n+m) old e)) (n+m) (cs++List.replicate m (Value.int .u8 0))∧
   w.grownBy (w.drew.alloc (.cells (cs.toArray++(List.replicate m (Value.int .u8 0)).toArray++Builtin.zeroCells (Value.int .u8 0).cells (grownCap w (n+m) old e-(n+m))) e)) row:=by
  intro old _ row
  have hge:=grownCap_ge w (n+m) old e
  have hcm:grownCap w (n+m) old e≤maxLen:=grownCap_le_maxLen w (n+m) old e hmx
  refine⟨⟨hlen,.inr ⟨w.heap.size,0,_,_,rfl,hbase,heap_alloc_new w.drew _,hge,hcm,?_,?_⟩⟩,⟨rfl,rfl,rfl,by simp,λk hk _=>Below.heap_alloc w.drew _ k hk⟩⟩
  ·simp only[Array.size_append,List.size_toArray,size_zeroCells,hz1,hcl,List.length_replicate]
   omega
  ·simp only[List.drop_zero,Array.toList_append,List.append_assoc]
   rw[←List.append_assoc,←hlen]
   exact List.take_left
 have hzc:Builtin.zeroCells (Value.int IntKind.u8 0).cells m=(List.replicate m (Value.int .u8 0)).toArray:=zik m
 rcases hown.2 with ⟨rfl,rfl⟩|⟨g,o,cap,cur,rfl,hbg,hg,hnc,hcm,hcs,htake⟩
 ·have hx:cs=[]:=List.eq_nil_of_length_eq_zero hcl
  subst hx
  by_cases hm:m=0
  ·subst hm
   refine⟨none,0,w,?_,OwS.nil,⟨rfl,rfl,rfl,Nat.le_refl _,λ_ _ _=>rfl⟩,.inl rfl⟩
   simp[Builtin.append_,run_underlying ht,run_underlying htn,sizeOf,typeInfo,hi,hby,asInt,asIntOf,hw0]
  ·have hr:=Lib.run_append_nil_zeros (P:=P) w t tn ty e i (.int .u8 0) .i64 kn ht htn hi hz m (by omega) (by omega) (by omega) (by rw[hby];omega)
   have hgr:=grown 0 (by omega) (Value.ownBlock (.slice none 0 0))
   simp only[Nat.zero_add,List.nil_append,Array.empty_append] at hgr ⊢
   rw[hzc] at hr
   exact⟨_,_,_,hr,hgr.1,hgr.2,.inr rfl⟩
 ·by_cases hroom:n+m≤cap
  ·have hst:=run_storeCells_at P g (o+n) e (List.replicate m (Value.int .u8 0)) 0 cur w hg (by rw[List.length_replicate];omega) (λu hu=>by rw[(List.mem_replicate.1 hu).2];rfl)
   simp only[Nat.add_zero] at hst
   have hadd:(⟨g,o,none⟩:Addr).add n=⟨g,o+n,none⟩:=add_plain ..
   have hr:(Builtin.append_ #[t,tn] ty #[.slice (some ⟨g,o,none⟩) n cap,.int .i64 (m:Int)]).run P w =
     .ok (.slice (some ⟨g,o,none⟩) (n+m) cap) (w.setRow g (cur.toList.take (o+n)++List.replicate m (Value.int .u8 0)++cur.toList.drop (o+n+(List.replicate m (Value.int IntKind.u8 0)).length)).toArray):=by
    by_cases hm:m=0
    ·subst hm
     have hst0:(storeCells ⟨g,o+n,none⟩ []).run P w=.ok () (w.setRow g (cur.toList.take (o+n)++List.replicate 0 (Value.int .u8 0)++cur.toList.drop (o+n+(List.replicate 0 (Value.int IntKind.u8 0)).length)).toArray):=hst
     simp[Builtin.append_,run_underlying ht,run_underlying htn,sizeOf,typeInfo,hi,hsize,hby,asInt,asIntOf,hw0,hadd,hnc,hst0]
    ·simp[Builtin.append_,run_underlying ht,run_underlying htn,sizeOf,typeInfo,zeroValue,hi,hz,hsize,asInt,asIntOf,hw,hneg,h48,hm,hroom,hadd,hzc,hst]
   refine⟨_,_,_,hr,⟨hlen,.inr ⟨g,o,cap,_,rfl,hbg,hg.setRow _,hroom,hcm,?_,?_⟩⟩,⟨rfl,rfl,rfl,by simp,λk _ hk=>setRow_other w g k _ (λe1=>hk (by simp[Value.ownBlock,e1]))⟩,Or.inl rfl⟩
   ·simp only[List.size_toArray,List.length_append,List.length_take,List.length_drop,Array.length_toList,List.length_replicate]
    omega
   ·have e1:(cur.toList.take (o+n)++List.replicate m (Value.int .u8 0)++cur.toList.drop (o+n+(List.replicate m (Value.int IntKind.u8 0)).length)).drop o=(cur.toList.drop o).take (n*1)++List.replicate m (Value.int .u8 0)++cur.toList.drop (o+n+(List.replicate m (Value.int IntKind.u8 0)).length):=by
     rw[List.append_assoc,List.drop_append_of_le_length (by simp;omega),List.drop_take,Nat.add_sub_cancel_left,List.append_assoc,Nat.mul_one]
    show ((cur.toList.take (o+n)++List.replicate m (Value.int .u8 0)++cur.toList.drop (o+n+(List.replicate m (Value.int IntKind.u8 0)).length)).drop o).take ((n+m)*1)=cs++List.replicate m (Value.int .u8 0)
    rw[e1,htake,←hlen]
    exact List.take_left
  ·have holds:∀j u,cs[j]?=some u→w.cell? ((⟨g,o,none⟩:Addr).add j)=some u:=by
    intro j u hu
    rw[add_plain]
    have hne:cs≠[]:=by rintro rfl;simp at hu
    obtain⟨g',o',e1,_,hc⟩:=hown.reads hne
    injection e1 with e1
    injection e1 with e1 e2
    subst e1 e2
    exact hc j u hu
   have hfo:=run_firstCells_some (P:=P) w.drew i.size n ⟨g,o,none⟩ n cap cs (by rw[hsize];simpa using hcl) (by simpa using holds)
   have hm:m≠0:=by omega
   have h63':¬(9223372036854775807<((n:Int)+(m:Int))):=by omega
   have hfit:¬(281474976710656<Builtin.nextslicecap (n+m) cap*i.bytes):=by
    have:=growslice_fits (need:=n+m) (old:=cap) (bytes:=1) (by omega) (by omega)
    rw[hby]
    omega
   have hr:(Builtin.append_ #[t,tn] ty #[.slice (some ⟨g,o,none⟩) n cap,.int .i64 (m:Int)]).run P w =
     .ok (.slice (some ⟨w.heap.size,0,none⟩) (n+m) (grownCap w (n+m) cap e)) (w.drew.alloc (.cells (cs.toArray++(List.replicate m (Value.int .u8 0)).toArray++Builtin.zeroCells (Value.int .u8 0).cells (grownCap w (n+m) cap e-(n+m))) e)):=by
    rw[hsize] at hfo
    simp[Builtin.append_,run_underlying ht,run_underlying htn,sizeOf,typeInfo,zeroValue,hi,hz,hsize,asInt,asIntOf,hw,hneg,h48,hm,hroom,h63',hfit,Question.forced,hfo,hzc,newRow,grownCap]
   have hgr:=grown cap (by omega) (Value.ownBlock (.slice (some ⟨g,o,none⟩) n cap))
   exact⟨_,_,_,hr,hgr.1,hgr.2,Or.inr rfl⟩
theorem X1{ops:Array Oper}{rest:List Oper}{o:Oper}{a:Act}{w:World}{Q:Exit→Act→World→Prop}(hgd:o.guard=none)(s x:Operand)(t tn:TypeId)
  (ho:o.op=.call { callee:=.builtin .append,args:=#[s,x],argTypes:=#[t,tn] })
  (base:Nat) (e:TypeId) (i:TypeInfo) (kn:IntKind) (ht:P.underlying t=some (.slice e)) (htn:P.underlying tn=some (.int kn)) (hi:P.info? e=some i) (hz:i.zero=some (.int .u8 0)) (hsize:i.size=1) (hby:i.bytes=1)
  (v:Value) (l:List UInt8) (hs:a.eval s=v) (hown:Bo w base e v l) (m:Nat) (z:Int) (hx:a.eval x=.int .i64 z) (hzm:z=(m:Int))
  (h63:l.length+m≤1099511627776) (hbase:base≤w.heap.size)
  (h:∀v' w',Bo w' base e v' (l++List.replicate m 0)→Fs (ob v) w w'→Nx w v v'→wpList P ops Q rest (a.put o.dst v') w'):wpList P ops Q (o :: rest) a w:=by
 subst hzm
 refine wpList_plain hgd λK hK=>?_
 obtain⟨A',c',w',hrun,h2,h3,h4⟩:=zh5 (P:=P) w base t tn o.type e i kn ht htn hi hz hsize hby hown m h63 hbase
 unfold Oper.wp execOp
 simp only[ho,resolve,invoke,builtin,Sem.run_bind,Sem.run_pure,Result.andThen_ok,List.map_toArray,List.map_cons,List.map_nil,hs,hx,hrun]
 refine hK _ _ (h _ w' ?_ (Fs.of_grown h3) (Nx.of_new h4))
 unfold Bo
 rw[Z3,znr,List.length_append,List.length_replicate]
 exact h2
end
end
section
def xm(L:List UInt8)(off:Nat)(m:List UInt8):List UInt8:=L.take off++(m++L.drop (off+m.length))
theorem Ya{L m:List UInt8}{off:Nat}(h:off+m.length≤L.length):(xm L off m).length=L.length:=by
 unfold xm
 simp only[List.length_append,List.length_take,List.length_drop]
 omega
theorem zey{L m:List UInt8}{off:Nat}(h:off≤L.length):(xm L off m).take (off+m.length)=L.take off++m:=by
 unfold xm
 rw[←List.append_assoc]
 exact take_len (by simp;omega)
  where take_len {α:Type} {a b:List α} {k:Nat} (h:a.length=k):(a++b).take k=a:=by subst h;simp
theorem zql(L:List UInt8)(off:Nat):xm L off []=L:=by simp[xm]
theorem zww(L m:List UInt8)(off:Nat):byc (xm L off m)=(byc L).take off++(byc m++(byc L).drop (off+(byc m).length)):=by
 unfold xm byc
 simp only[List.map_append,List.map_take,List.map_drop,List.length_map]
section
variable {P:Program}
theorem zfb{w:World}{dT elem:TypeId}(hu:P.underlying dT=some (.slice elem))(hsz:(P.info? elem).map (·.size)=some 1){b off dLen dCap:Nat}{dp:Option Addr}{A:Option Addr}{m:List UInt8}{sCap:Nat}{L:List UInt8}{t:TypeId}
  (hdp:0<dLen→dp=some ⟨b,off,none⟩) {B:Nat} (hr:RdB w B A m) (hb:Row w b t (byc L).toArray) (hfit:off+dLen≤L.length) :
  ∃w',(∀ty,(Builtin.copy_ #[dT,dT] ty #[.slice dp dLen dCap,.slice A m.length sCap]).run P w=.ok (.int .i64 ((min m.length dLen:Nat):Int)) w')∧Row w' b t (byc (xm L off (m.take dLen))).toArray∧Fs (λk=>k=b) w w':=by
 rcases Nat.eq_zero_or_pos (min m.length dLen) with h0|h0
 ·refine⟨w,λty=>?_,?_,Fs.refl _ _⟩
  ·rw[h0]
   exact run_copy_none w dT dT ty elem dp A dLen dCap m.length sCap hu hsz h0
  ·have:m.take dLen=[]:=List.eq_nil_of_length_eq_zero (by rw[List.length_take];omega)
   rw[this,zql]
   exact hb
 ·have hdp:=hdp (by omega)
  subst hdp
  obtain⟨g,o,rfl,_,hc⟩:=hr (by intro e;rw[e] at h0;simp at h0)
  have hl:(byc (m.take dLen)).length=Nat.min m.length dLen:=by rw[qi,List.length_take,Nat.min_comm]
  have hL:(byc L).toArray.size=L.length:=by simp[qi]
  refine⟨w.setRow b (byc (xm L off (m.take dLen))).toArray,λty=>?_,hb.setRow _,⟨rfl,rfl,rfl,by simp,λk _ hn=>setRow_other w b k _ hn⟩⟩
  have:=run_copy_row (P:=P) w dT dT ty elem b off dLen dCap ⟨g,o,none⟩ m.length sCap (byc L).toArray t (byc (m.take dLen)) hu hsz hb hl (λj v hj=>?_) (by rw[hl,hL];have:Nat.min m.length dLen≤dLen:=Nat.min_le_right _ _;omega) (V7 _)
  ·rw[this,hl,zww,hl,List.append_assoc]
   rfl
  ·obtain⟨hj',rfl⟩:=J8 hj
   rw[List.getElem_take,add_plain]
   exact hc j (by rw[List.length_take] at hj';omega)
theorem zc4{ops:Array Oper}{o:Oper}{a:Act}{w:World}{K:Act→World→Prop}{Q:Exit→Act→World→Prop}{E:Prop}(hgd:o.guard=none)(d s:Operand)(dT:TypeId)
  (ho:o.op=.call { callee:=.builtin .copy,args:=#[d,s],argTypes:=#[dT,dT] }) (elem:TypeId) (hu:P.underlying dT=some (.slice elem)) (hsz:(P.info? elem).map (·.size)=some 1)
  (b off dLen dCap:Nat) (dp A:Option Addr) (m:List UInt8) (sCap:Nat) (L:List UInt8) (t:TypeId) (hd:a.eval d=.slice dp dLen dCap) (hs:a.eval s=.slice A m.length sCap) (hdp:0<dLen→dp=some ⟨b,off,none⟩) (B:Nat) (hr:RdB w B A m) (hb:Row w b t (byc L).toArray) (hfit:off+dLen≤L.length)
  (h:∀w',Row w' b t (byc (xm L off (m.take dLen))).toArray→Fs (λk=>k=b) w w'→K (a.put o.dst (.int .i64 ((min m.length dLen:Nat):Int))) w'):if Region.wanted o (yielded ops a.tmps)=true then Oper.wp P o a w K Q else E:=by
 have hw:Region.wanted o (yielded ops a.tmps)=true:=by simp[Region.wanted,hgd]
 rw[if_pos hw]
 obtain⟨w',hrun,h1,h2⟩:=zfb (P:=P) (w:=w) hu hsz (dCap:=dCap) (sCap:=sCap) hdp hr hb hfit
 unfold Oper.wp execOp
 simp only[ho,resolve,invoke,builtin,Sem.run_bind,Sem.run_pure,Result.andThen_ok,List.map_toArray,List.map_cons,List.map_nil,hd,hs,hrun]
 exact h w' h1 h2
theorem zhe{A:Option Addr}{n c k:Nat}{t e:TypeId}{ti:TypeInfo}(ht:P.underlying t=some (.slice e))(hi:P.info? e=some ti)(hs:ti.size=1)(_hc:n≤c)(hk:k≤n) :
  ∃A',(∀W,(Instr.slice t (.slice A n c) (some (.int .i64 (k:Int))) none none).run P W=.ok (.slice A' (n-k) (c-k)) W)∧(k<c→A'=A.map (·.add k)):=by
 have ht':P.underlying t=some (.slice (P.elem t)):=by simp[Program.elem,ht]
 have he:P.elem t=e:=by simp[Program.elem,ht]
 refine⟨if c=k then A else A.map (·.add k),λW=>?_,λh=>by rw[if_neg (by omega)]⟩
 rw[run_slice_l W t A n c ht' .i64 k (by omega) (by omega),he]
 simp[sizeOf,typeInfo,hi,hs,sliced,Result.andThen]
theorem zp2{w:World}{B:Nat}{A:Option Addr}{l:List UInt8}{c i j:Nat}{t e:TypeId}{ti:TypeInfo}(ht:P.underlying t=some (.slice e))(hi:P.info? e=some ti)(hs:ti.size=1)(h:RdB w B A l)(hc:l.length≤c)(hij:i≤j)(hj:j≤l.length) :
  ∃A',(∀W,(Instr.slice t (.slice A l.length c) (some (.int .i64 (i:Int))) (some (.int .i64 (j:Int))) none).run P W=.ok (.slice A' (j-i) (c-i)) W)∧RdB w B A' ((l.drop i).take (j-i))∧(i<c→A'=A.map (·.add i)):=by
 have ht':P.underlying t=some (.slice (P.elem t)):=by simp[Program.elem,ht]
 have he:P.elem t=e:=by simp[Program.elem,ht]
 refine⟨if c=i then A else A.map (·.add i),λW=>?_,λhne=>?_,λh=>by rw[if_neg (by omega)]⟩
 ·rw[run_slice_lh W t A l.length c ht' .i64 .i64 i j (by omega) (by omega) (by omega),he]
  simp[sizeOf,typeInfo,hi,hs,sliced,Result.andThen]
 ·have hlt:i<j:=by
   rcases Nat.lt_or_ge i j with h1|h1
   ·exact h1
   ·exact absurd (by rw[show j-i=0 by omega];rfl) hne
  obtain⟨g,o,rfl,hg,hcell⟩:=h (by rintro rfl;simp at hj;omega)
  refine⟨g,o+i,by rw[if_neg (by omega)];simp[add_plain],hg,λk hk=>?_⟩
  rw[List.getElem_take,List.getElem_drop]
  have:=hcell (i+k) (by simp at hk;omega)
  simpa [Nat.add_assoc] using this
end
end
section
theorem zr1:∃i,Tryz.prog.info? 5=some i∧i.zero=some (.int .u8 0)∧i.size=1∧i.bytes=1:=by
 have h:(Tryz.prog.info? 5).map (λi=>(i.zero,i.size,i.bytes))=some (some (.int .u8 0),1,1):=by kernel_rfl
 cases hi:Tryz.prog.info? 5 with
 |none=>rw[hi] at h;simp at h
 |some i=>rw[hi] at h;simp at h;exact⟨i,rfl,h.1,h.2.1,h.2.2⟩
theorem ztc:Tryz.prog.cellsOf 5=1:=by kernel_rfl
theorem zit(l:List UInt8)(hl:l.length≤1099511627776)(w:World):Calls Tryz.prog 216 #[.string ⟨l.toArray⟩] w λe w'=>e=.returned (.string ⟨l.toArray⟩)∧Below w.heap.size w w':=by
 have hz:=show (ByteArray.mk l.toArray).size=l.length by simp[ByteArray.size]
 cases l with
 |nil=>
  go_enter Tryz.func216,Tryz.ntmps216
  go_wp2_with fail
  go_ret
  exact⟨rfl,Below.refl _ _⟩
 |cons b r=>
  obtain⟨i0,hi,hz0,hz1,hz2⟩:=zr1
  have hne:b :: r≠[]:=by simp
  have h0:0<(b :: r).length:=by simp
  generalize b :: r=l at hl hz hne h0 ⊢
  obtain⟨M,hM⟩:∃M,M=madeCells (Value.int .u8 0).cells (((l.length:Nat):Int).toNat*i0.size):=⟨_,rfl⟩
  have hMs:M.size=l.length:=by rw[hM,size_madeCells,hz1];simp
  have hmk:∀W:World,(Instr.makeSlice 22 (.int .i64 (l.length:Int)) (.int .i64 (l.length:Int))).run Tryz.prog W=.ok (.slice (some ⟨W.heap.size,0,none⟩) l.length l.length) (W.alloc (.cells M 5)):=λW=>by
   have h:=run_make (P:=Tryz.prog) W 22 5 i0 (.int .u8 0) Tryz.underlying22 hi hz0 .i64 .i64 (l.length:Int) (l.length:Int) (by omega) (by omega) (by rw[hz2];omega) (by omega)
   rw[←hM] at h
   simpa using h
  clear hM
  have hR0:Row (w.alloc (.cells M 5)) w.heap.size 5 M:=Row.new w 5 M
  have hcp:=Lib.run_copy_row_string (P:=Tryz.prog) (w.alloc (.cells M 5)) 22 9 3 5 w.heap.size 0 l.length l.length ⟨l.toArray⟩ M 5 Tryz.underlying22 (by rw[hi];simp[hz1]) hR0 (by rw[hz];exact Nat.le_refl _) (by rw[hz];omega)
  rw[hz] at hcp
  obtain⟨Y,hY⟩:∃Y,Y=(M.toList.take 0++Lib.byteCells (ByteArray.mk l.toArray).data.toList++M.toList.drop (0+l.length)).toArray:=⟨_,rfl⟩
  rw[←hY] at hcp
  have hYl:Y.toList=Lib.byteCells l:=by
   rw[hY,List.toList_toArray,List.take_zero,List.nil_append,List.drop_of_length_le (by rw[Array.length_toList];omega),List.append_nil]
  have hYs:Y.size=l.length:=by rw[←Array.length_toList,hYl,Lib.byteCells_length]
  have hR1:Row ((w.alloc (.cells M 5)).setRow w.heap.size Y) w.heap.size 5 Y:=hR0.setRow Y
  clear hY
  have hUS:=Lib.run_unsafeString_row (P:=Tryz.prog) ((w.alloc (.cells M 5)).setRow w.heap.size Y) 303 3 9 5 Tryz.underlying303 ztc w.heap.size Y.size (by unfold World.shape?;rw[show ((w.alloc (.cells M 5)).setRow w.heap.size Y).heap[w.heap.size]?=_ from hR1]) l hne (by omega) (by omega)
   (λj x hx=>by
    rw[add_plain,Nat.zero_add]
    exact hR1.cell (by
     have:Y.toList[j]?=some (.int .u8 x.toNat):=by rw[hYl];simp[Lib.byteCells,hx]
     simpa using this))
  have hb1:Below w.heap.size w ((w.alloc (.cells M 5)).setRow w.heap.size Y):=zd ((Below.refl _ w).alloc (Nat.le_refl _) _) _ _ (Nat.le_refl _)
  have HB:=z2w (Lib.below_freeze hb1 (p:=⟨w.heap.size,0,none⟩) (Nat.le_refl _) l.length)
  clear hb1 hR0 hR1 hYs hYl hMs
  have h0i:(0:Int)<(l.length:Int):=by omega
  have h1:((l.length:Int) == 0)=false:=by rw[beq_eq_false_iff_ne];omega
  go_enter Tryz.func216,Tryz.ntmps216
  go_wp2_with (simp only[hcp])
  go_ret
  exact⟨rfl,HB.out⟩
theorem zfg(l:List UInt8)(hl:l.length≤1099511627776)(w:World):Calls Tryz.prog 184 #[.string ⟨l.toArray⟩] w λe w'=>e=.returned (.string ⟨l.toArray⟩)∧Below w.heap.size w w':=by
 have h:=zit l hl
 go_enter Tryz.func184,Tryz.ntmps184
 go_wp2_with fail
 refine(h _).mono ?_
 rintro e w1 ⟨rfl,hb⟩
 go_wp2_with fail
 go_ret
 exact⟨rfl,hb⟩
end
end Go.Proofs.YtooaajnkiokpnaaGreatDoor
