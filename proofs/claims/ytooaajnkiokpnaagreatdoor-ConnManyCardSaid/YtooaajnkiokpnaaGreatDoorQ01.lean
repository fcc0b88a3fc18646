/-
  Part of a proof: Frames as bytes, in plain mathematics: numbers of several bytes, what a frame's bytes are, which frame bytes are; there and back. No program is spoken of. Conditions: those that each theorem names.
-/
import Derived.Orders
import Derived.Deep.RegionHeld
import Derived.KernelRfl
import Derived.Tactics
import Derived.WalkKit
import Derived.Below
import Derived.Laws.OwnMore
import Derived.Laws.BytesArg
import Derived.Deep.AppendLies
import Derived.Deep.Draws
import Derived.Maps.AppendAt
import Derived.WideShapes
import Derived.Lib.Hide
import Derived.Deep.WholeRow
import Derived.IntWalk
namespace Go.Proofs.YtooaajnkiokpnaaGreatDoor
open Go.RowKit Go.WideShapes
section
theorem z2w {p:Prop}(h:p):Hid p:=Lib.hid h
abbrev z2x:Array Value:=#[.int .u8 0,.int .u8 0,.int .u32 0,.slice none 0 0,.int .i64 0,.int .u32 0,.int .u32 0,.int .u8 0,.bool false,.int .u32 0,.slice none 0 0]
end
section
section
variable {P:Program}{ops:Array Oper}{Q:Exit→Act→World→Prop}{md:Region.Mode}{S:World→Prop}
theorem tkH(i:Nat){oi:Oper}{v:Value}{fuel:Nat}{listed:Array Bool}{a a':Act}{w:World}(h:wpAnyH P md ops Q S fuel (listed.setIfInBounds i true) a' w)
  (hi:ops[i]?=some oi:=by rfl) (hs:Region.noSelect ops=true:=by kernel_rfl) (hf:Region.free md ops listed i=true:=by kernel_rfl) (hr:(Region.ready md ops listed).contains i=true:=by kernel_rfl)
  (hw:Region.wanted oi (yielded ops a.tmps)=true:=by rfl)
  (hy:∀w,S w→(execOp a.eval oi).run P w=.ok (.value v) w:=by(intro w hSw;(try dsimp only at hSw);go_simp<;>with_reducible rfl))
  (hQ:∀c a w,Q (.panic c) (a.put oi.dst v) w→Q (.panic c) a w:=by exact λ_ _ _ h=>h) (hS:S w:=by assumption)
  (ha:a.put oi.dst v=a':=by(simp only[Act.put,List.getElem_toArray,List.getElem_cons_zero,List.getElem_cons_succ,List.setIfInBounds_toArray,List.set_cons_zero,List.set_cons_succ]<;>rfl)):wpAnyH P md ops Q S (fuel+1) listed a w:=by
 subst ha
 exact wpAnyH_take hi hs hf hr hQ (.inl ⟨hw,hy⟩) hS h
theorem tkS(i:Nat){oi:Oper}{fuel:Nat}{listed:Array Bool}{a a':Act}{w:World}(h:wpAnyH P md ops Q S fuel (listed.setIfInBounds i true) a' w)
  (hi:ops[i]?=some oi:=by rfl) (hs:Region.noSelect ops=true:=by kernel_rfl) (hf:Region.free md ops listed i=true:=by kernel_rfl) (hr:(Region.ready md ops listed).contains i=true:=by kernel_rfl)
  (hw:Region.wanted oi (yielded ops a.tmps)=false:=by rfl)
  (hQ:∀c a w,Q (.panic c) (a.put oi.dst undef) w→Q (.panic c) a w:=by exact λ_ _ _ h=>h) (hS:S w:=by assumption)
  (ha:a.put oi.dst undef=a':=by(simp only[Act.put,List.getElem_toArray,List.getElem_cons_zero,List.getElem_cons_succ,List.setIfInBounds_toArray,List.set_cons_zero,List.set_cons_succ]<;>rfl)):wpAnyH P md ops Q S (fuel+1) listed a w:=by
 subst ha
 exact wpAnyH_take hi hs hf hr hQ (.inr ⟨hw,rfl⟩) hS h
theorem tkY(i:Nat){oi:Oper}{v:Value}{fuel:Nat}{listed:Array Bool}{a a':Act}{w:World}(hi:ops[i]?=some oi)(hy:YieldsIf P ops S oi v a)(h:wpAnyH P md ops Q S fuel (listed.setIfInBounds i true) a' w)
  (hs:Region.noSelect ops=true:=by kernel_rfl) (hf:Region.free md ops listed i=true:=by kernel_rfl) (hr:(Region.ready md ops listed).contains i=true:=by kernel_rfl)
  (hQ:∀c a w,Q (.panic c) (a.put oi.dst v) w→Q (.panic c) a w:=by exact λ_ _ _ h=>h) (hS:S w:=by assumption)
  (ha:a.put oi.dst v=a':=by(simp only[Act.put,List.getElem_toArray,List.getElem_cons_zero,List.getElem_cons_succ,List.setIfInBounds_toArray,List.set_cons_zero,List.set_cons_succ]<;>rfl)):wpAnyH P md ops Q S (fuel+1) listed a w:=by
 subst ha
 exact wpAnyH_take hi hs hf hr hQ hy hS h
theorem ptk{F:Act→World→Prop}{a a':Act}{w:World}(h:F a' w)(ha:a=a':=by(first|(simp only[Act.put,List.getElem_toArray,List.getElem_cons_zero,List.getElem_cons_succ,List.setIfInBounds_toArray,List.set_cons_zero,List.set_cons_succ]<;>rfl)|rfl)):F a w:=ha▸h
theorem rdH(i:Nat){o:Oper}{fuel:Nat}{listed:Array Bool}{a:Act}{w:World}
  (h:∀K':Act→World→Prop,Shut (∀a w,S w→(S w→wpAnyH P md ops Q S fuel (listed.setIfInBounds i true) a w)→K' a w)→if Region.wanted o (yielded ops a.tmps)=true then Oper.wp P o a w K' Q else K' (a.put o.dst undef) w)
  (ho:ops[i]?=some o:=by rfl) (hr:Region.ready md ops listed=[i]:=by kernel_rfl):wpAnyH P md ops Q S (fuel+1) listed a w:=
 wpAnyH_ready hr (by simp) (AllReadyH.cons ho h AllReadyH.nil)
theorem dnH{listed:Array Bool}{fuel:Nat}{a:Act}{w:World}(h:Q .normal a w)(hr:Region.ready md ops listed=[]:=by kernel_rfl):wpAnyH P md ops Q S fuel listed a w:=wpAnyH_done hr h fuel
end
end
section
def byc(l:List UInt8):List Value:=l.map λb=>Value.int .u8 (b.toNat:Int)
theorem qi(l:List UInt8):(byc l).length=l.length:=by simp[byc]
theorem Z3(l m:List UInt8):byc (l++m)=byc l++byc m:=by simp[byc]
theorem V7(l:List UInt8):∀u∈byc l,u.oneCell'=true:=by
 intro u hu
 obtain⟨b,_,rfl⟩:=List.mem_map.1 hu
 rfl
theorem Qb{l:List UInt8}{j:Nat}(h:j<l.length):(byc l)[j]?=some (.int .u8 (l[j].toNat:Int)):=by simp[byc,h]
theorem J8{l:List UInt8}{j:Nat}{u:Value}(h:(byc l)[j]?=some u):∃hj:j<l.length,u=.int .u8 (l[j].toNat:Int):=by
 have hj:j<l.length:=by
  rcases Nat.lt_or_ge j l.length with h1|h1
  ·exact h1
  ·rw[List.getElem?_eq_none (by rw[qi];exact h1)] at h;cases h
 rw[Qb hj] at h
 exact⟨hj,(Option.some.inj h).symm⟩
def RdB(w:World)(B:Nat)(A:Option Addr)(l:List UInt8):Prop:=
 l≠[]→∃g o,A=some ⟨g,o,none⟩∧g<B∧∀j,(h:j<l.length)→w.cell? ⟨g,o+j,none⟩=some (.int .u8 (l[j].toNat:Int))
def OwB(w:World)(base:Nat)(e:TypeId)(v:Value)(l:List UInt8):Prop:=w.ownsRow base e 1 v l.length (byc l)
section
variable {w w':World}{B B' base:Nat}{A:Option Addr}{l m:List UInt8}{e:TypeId}{v:Value}
theorem RdB.nil:RdB w B A []:=λh=>absurd rfl h
theorem RdB.keep(h:RdB w B A l)(hk:∀p:Addr,p.block<B→w'.cell? p=w.cell? p):RdB w' B A l:=λhl=>by
 obtain⟨g,o,e,hg,hc⟩:=h hl
 exact⟨g,o,e,hg,λj hj=>(hk _ hg).trans (hc j hj)⟩
theorem RdB.more(h:RdB w B A l)(hB:B≤B'):RdB w B' A l:=λhl=>by
 obtain⟨g,o,e,hg,hc⟩:=h hl
 exact⟨g,o,e,by omega,hc⟩
theorem RdB.below(h:RdB w B A l)(hb:Below B w w'):RdB w' B A l:=h.keep λ_ hp=>hb.cell hp
theorem RdB.alloc(h:RdB w B A l)(hB:B≤w.heap.size)(o:Obj):RdB (w.alloc o) B A l:=h.keep λp hp=>World.cell?_alloc_lt w o p (by omega)
theorem RdB.upto(h:RdB w B A (l++m)):RdB w B A l:=λhl=>by
 obtain⟨g,o,e,hg,hc⟩:=h (by simp[hl])
 exact⟨g,o,e,hg,λj hj=>by
  have:=hc j (by simp;omega)
  rwa [List.getElem_append_left hj] at this⟩
theorem RdB.adds{g o:Nat}(h:RdB w B (some ⟨g,o,none⟩) l):∀j u,(byc l)[j]?=some u→w.cell? ((⟨g,o,none⟩:Addr).add j)=some u:=by
 intro j u hu
 obtain⟨hj,rfl⟩:=J8 hu
 have hne:l≠[]:=by rintro rfl;simp at hj
 obtain⟨g',o',e,_,hc⟩:=h hne
 injection e with e
 injection e with e1 e2
 subst e1 e2
 rw[add_plain]
 exact hc j hj
theorem OwB.nil:OwB w base e (.slice none 0 0) []:=World.ownsRow_nil _ _ _ _
theorem OwB.shape(h:OwB w base e v l):∃A c,v=.slice A l.length c∧l.length≤c∧c≤maxLen∧RdB w w.heap.size A l:=by
 rcases h.2 with ⟨rfl,hn⟩|⟨g,cap,cur,rfl,hb,hg,hle,hm,hs,htake⟩
 ·have:l=[]:=List.eq_nil_of_length_eq_zero hn
  subst this
  exact⟨none,0,rfl,Nat.le_refl _,by simp[maxLen],RdB.nil⟩
 ·refine⟨some ⟨g,0,none⟩,cap,rfl,hle,hm,λ_=>⟨g,0,rfl,(Array.getElem?_eq_some_iff.1 hg).1,λj hj=>?_⟩⟩
  have:=World.ownsRow.cells (w:=w) (v:=.slice (some ⟨g,0,none⟩) l.length cap) h (g:=g) rfl j _ (Qb hj)
  rwa [add_plain] at this
theorem OwB.mono{base':Nat}(h:OwB w base e v l)(hb:base'≤base):OwB w base' e v l:=by
 refine⟨h.1,?_⟩
 rcases h.2 with hn|⟨g,cap,cur,e1,e2,rest⟩
 ·exact .inl hn
 ·exact .inr ⟨g,cap,cur,e1,by omega,rest⟩
theorem OwB.fresh(w:World)(e:TypeId)(cs:Array Value)(c:Nat)(hc:cs.size=c)(hm:c≤maxLen)(hb:base≤w.heap.size):OwB (w.alloc (.cells cs e)) base e (.slice (some ⟨w.heap.size,0,none⟩) 0 c) []:=
 World.ownsRow_made w cs c hb hm (by simp[hc])
end
theorem zuc(l:List UInt8)(j:Nat)(b:UInt8):byc (l.set j b)=(byc l).set j (.int .u8 (b.toNat:Int)):=by simp[byc,List.map_set]
section
variable {w:World}{base:Nat}{l:List UInt8}{e:TypeId}{v:Value}
end
theorem zej{n:Int}(h0:0≤n)(h1:n<256):((UInt8.ofNat n.toNat).toNat:Int)=n:=by
 obtain⟨k,rfl⟩:=Int.eq_ofNat_of_zero_le h0
 simp
 omega
section
variable {P:Program}
theorem y0{w:World}{B:Nat}{A:Option Addr}{l:List UInt8}{c:Nat}{src e dst:TypeId}(hs:P.underlying src=some (.slice e))(he:P.underlying e=some (.int .u8))(hd:P.underlying dst=some .string)(h:RdB w B A l) :
  (convert src dst (.slice A l.length c)).run P w=.ok (.string ⟨l.toArray⟩) w:=by
 cases l with
 |nil=>
  cases A with
  |none=>rw[run_convert_bytes_nil w src e hs he _ _ dst hd];rfl
  |some a=>
   rw[run_convert_bytes_string w src dst e _ _ c hs he hd,run_bytesToString w _ _ c [] (by simpa using run_loadCells_list (P:=P) w a [] (λj v hj=>by simp at hj))]
   rfl
 |cons b l=>
  obtain⟨g,o,rfl,_,hc⟩:=h (by simp)
  rw[run_convert_bytes_arg w src e hs he g o (b :: l).length c ((b :: l).map λx=>(x.toNat:Int)) (by simp) (λi hi=>by rw[hc i hi,List.getD_eq_getElem?_getD,List.getElem?_map,List.getElem?_eq_getElem hi];rfl) dst hd]
  congr 2
  apply ByteArray.ext
  apply Array.toList_inj.1
  rw[strOfNums_data,List.map_map]
  show _=b :: l
  conv=>rhs;rw[←List.map_id (b :: l)]
  apply List.map_congr_left
  intro x _
  simp
theorem y6{w:World}{B:Nat}{A:Option Addr}{l:List UInt8}{c k:Nat}{t e:TypeId}{i:TypeInfo}(ht:P.underlying t=some (.slice e))(hi:P.info? e=some i)(hs:i.size=1)(h:RdB w B A l)(hc:l.length≤c)(hk:k≤l.length) :
  ∃A',(∀W,(Instr.slice t (.slice A l.length c) (some (.int .i64 (k:Int))) none none).run P W=.ok (.slice A' (l.length-k) (c-k)) W)∧RdB w B A' (l.drop k):=by
 have ht':P.underlying t=some (.slice (P.elem t)):=by simp[Program.elem,ht]
 have he:P.elem t=e:=by simp[Program.elem,ht]
 refine⟨if c=k then A else A.map (·.add k),λW=>?_,λhne=>?_⟩
 ·rw[run_slice_l W t A l.length c ht' .i64 k (by omega) (by omega),he]
  simp[sizeOf,typeInfo,hi,hs,sliced,Result.andThen]
 ·have hlt:k<l.length:=by
   rcases Nat.lt_or_ge k l.length with h1|h1
   ·exact h1
   ·exact absurd (List.drop_of_length_le h1) hne
  obtain⟨g,o,rfl,hg,hcell⟩:=h (by rintro rfl;simp at hlt)
  refine⟨g,o+k,by rw[if_neg (by omega)];simp[add_plain],hg,λj hj=>?_⟩
  rw[List.getElem_drop]
  have:=hcell (k+j) (by simp at hj;omega)
  simpa [Nat.add_assoc] using this
theorem xi{w:World}{B:Nat}{A:Option Addr}{l:List UInt8}{c k:Nat}{t e:TypeId}{i:TypeInfo}(ht:P.underlying t=some (.slice e))(hi:P.info? e=some i)(hs:i.size=1)(h:RdB w B A l)(hc:l.length≤c)(hk:k≤l.length) :
  (∀W,(Instr.slice t (.slice A l.length c) none (some (.int .i64 (k:Int))) none).run P W=.ok (.slice A k c) W)∧RdB w B A (l.take k):=by
 have ht':P.underlying t=some (.slice (P.elem t)):=by simp[Program.elem,ht]
 have he:P.elem t=e:=by simp[Program.elem,ht]
 have hA:∀A:Option Addr,A.map (λx=>x.add 0)=A:=λA=>by
  cases A with
  |none=>rfl
  |some a=>simp[Addr.add]
 refine⟨λW=>?_,λhne=>?_⟩
 ·rw[run_slice_h W t A l.length c ht' .i64 k (by omega) (by omega),he]
  simp[sizeOf,typeInfo,hi,hs,sliced,Result.andThen,hA]
 ·obtain⟨g,o,rfl,hg,hcell⟩:=h (by rintro rfl;simp at hne)
  refine⟨g,o,rfl,hg,λj hj=>?_⟩
  rw[List.getElem_take]
  exact hcell j (by simp at hj;omega)
theorem zg7(w:World)(base:Nat)(t ty e:TypeId)(i:TypeInfo)(ht:P.underlying t=some (.slice e))(hi:P.info? e=some i)(hz:i.zero=some (.int .u8 0))(hsize:i.size=1)(hby:i.bytes=1)
  {v:Value} {l:List UInt8} (hown:OwB w base e v l) {B:Nat} {A:Option Addr} {m:List UInt8} {c:Nat} (hr:RdB w B A m) (h63:l.length+m.length≤1099511627776) (hbase:base≤w.heap.size) :
  ∃A' c' w',(Builtin.append_ #[t,t] ty #[v,.slice A m.length c]).run P w=.ok (.slice A' (l++m).length c') w'∧OwB w' base e (.slice A' (l++m).length c') (l++m)∧Below base w w':=by
 rcases A with _|a
 ·have hm:m=[]:=by
   rcases List.eq_nil_or_concat m with h0|⟨x,y,h0⟩
   ·exact h0
   ·obtain⟨g,o,e,_⟩:=hr (by rw[h0];simp)
    cases e
  subst hm
  obtain⟨A',c',rfl,_,_,_⟩:=hown.shape
  refine⟨A',c',w,?_,by simpa using hown,Below.refl _ _⟩
  rcases hown.2 with ⟨e1,e2⟩|⟨g,cap,cur,e1,_,_,hnc,_⟩
  ·injection e1 with e1 e2' e3
   subst e1 e3
   simp[Builtin.append_,run_underlying ht,sizeOf,typeInfo,hi,Builtin.lenOf,Builtin.firstCells,e2]
  ·injection e1 with e1 e2 e3
   subst e1 e3
   simp[Builtin.append_,run_underlying ht,sizeOf,typeInfo,hi,Builtin.lenOf,Builtin.firstCells,hnc,storeCells]
 ·have hcells:∀j u,(byc m)[j]?=some u→w.cell? (a.add j)=some u:=by
   intro j u hu
   obtain⟨hj,_⟩:=J8 hu
   have hne:m≠[]:=by rintro rfl;simp at hj
   obtain⟨g,o,e,_,_⟩:=hr hne
   injection e with e
   subst e
   exact hr.adds j u hu
  obtain⟨v',w',hrun,h2,h3,_,h5⟩:=run_append_own_at (P:=P) w base t ty e i (.int .u8 0) 1 1 ht hi hz hsize hby rfl (by omega) v l.length (byc l) hown a m.length c (byc m) (by simp[qi]) hcells (V7 m) (by simp only[maxLen];omega) (by omega) hbase
  have h2':OwB w' base e v' (l++m):=by
   unfold OwB
   rw[Z3,List.length_append]
   exact h2
  obtain⟨A',c',rfl,_,_,_⟩:=h2'.shape
  refine⟨A',c',w',hrun,h2',(Below.refl _ _).grown h3 hbase (λk hk=>(World.ownsRow.lt hown k hk).1)⟩
theorem X6{ops:Array Oper}{rest:List Oper}{o:Oper}{a:Act}{w:World}{Q:Exit→Act→World→Prop}(hgd:o.guard=none)(s x:Operand)(t:TypeId)
  (ho:o.op=.call { callee:=.builtin .append,args:=#[s,x],argTypes:=#[t,t] })
  (base:Nat) (e:TypeId) (i:TypeInfo) (ht:P.underlying t=some (.slice e)) (hi:P.info? e=some i) (hz:i.zero=some (.int .u8 0)) (hsize:i.size=1) (hby:i.bytes=1)
  (v:Value) (l:List UInt8) (hs:a.eval s=v) (hown:OwB w base e v l) (B:Nat) (A:Option Addr) (m:List UInt8) (n c:Nat) (hx:a.eval x=.slice A n c) (hn:n=m.length) (hr:RdB w B A m)
  (h63:l.length+m.length≤1099511627776) (hbase:base≤w.heap.size)
  (h:∀A' c' L w',Hid (L=l++m)→OwB w' base e (.slice A' L.length c') L→Below base w w'→wpList P ops Q rest (a.put o.dst (.slice A' L.length c')) w'):wpList P ops Q (o :: rest) a w:=by
 subst hn
 refine wpList_plain hgd λK hK=>?_
 obtain⟨A',c',w',hrun,h2,h3⟩:=zg7 (P:=P) w base t o.type e i ht hi hz hsize hby hown (c:=c) hr h63 hbase
 unfold Oper.wp execOp
 simp only[ho,resolve,invoke,builtin,Sem.run_bind,Sem.run_pure,Result.andThen_ok,List.map_toArray,List.map_cons,List.map_nil,hs,hx,hrun]
 exact hK _ _ (h A' c' _ w' rfl h2 h3)
theorem yy{ops:Array Oper}{rest:List Oper}{o:Oper}{a:Act}{w:World}{Q:Exit→Act→World→Prop}(hgd:o.guard=none)(s x:Operand)(t:TypeId)
  (ho:o.op=.call { callee:=.builtin .append,args:=#[s,x],argTypes:=#[t,t] })
  (base:Nat) (e:TypeId) (i:TypeInfo) (ht:P.underlying t=some (.slice e)) (hi:P.info? e=some i) (hz:i.zero=some (.int .u8 0)) (hsize:i.size=1) (hby:i.bytes=1)
  (v:Value) (l:List UInt8) (hs:a.eval s=v) (hown:OwB w base e v l) (g c:Nat) (n:Int) (hx:a.eval x=.slice (some ⟨g,0,none⟩) 1 c) (hr:w.cell? ⟨g,0,none⟩=some (.int .u8 n)) (h0:0≤n) (h1:n<256)
  (h63:l.length<1099511627775) (hbase:base≤w.heap.size)
  (h:∀A' c' L w',Hid (L=l++[UInt8.ofNat n.toNat])→OwB w' base e (.slice A' L.length c') L→Below base w w'→wpList P ops Q rest (a.put o.dst (.slice A' L.length c')) w'):wpList P ops Q (o :: rest) a w:=
 X6 hgd s x t ho base e i ht hi hz hsize hby v l hs hown w.heap.size (some ⟨g,0,none⟩) [UInt8.ofNat n.toNat] 1 c hx rfl
  (λ_=>⟨g,0,rfl,World.block_lt_of_cell? w _ hr,λj hj=>by
   have hj0:j=0:=by simpa using hj
   subst hj0
   rw[Nat.add_zero,hr]
   simp only[List.getElem_cons_zero]
   rw[zej h0 h1]⟩) (by simp;omega) hbase h
end
theorem zve(l m:List UInt8):((ByteArray.mk l.toArray).toList == (ByteArray.mk m.toArray).toList)=decide (l=m):=by
 rw[ByteArray.toList_mk,ByteArray.toList_mk,Bool.eq_iff_iff];simp
end
section
def Row(w:World)(g:Nat)(t:TypeId)(cs:Array Value):Prop:=w.heap[g]?=some (.cells cs t (0,0))
section
variable {w w':World}{g:Nat}{t:TypeId}{cs:Array Value}{B:Nat}
theorem Row.lt(h:Row w g t cs):g<w.heap.size:=(Array.getElem?_eq_some_iff.1 h).1
theorem Row.new(w:World)(t:TypeId)(cs:Array Value):Row (w.alloc (.cells cs t)) w.heap.size t cs:=heap_alloc_last w _
theorem Row.made(w:World)(t:TypeId)(cs:Array Value)(hg:g=w.heap.size):Row (w.alloc (.cells cs t)) g t cs:=by rw[hg];exact Row.new w t cs
theorem Row.alloc(h:Row w g t cs)(o:Obj):Row (w.alloc o) g t cs:=(heap_alloc_old w o h.lt).trans h
theorem Row.cell(h:Row w g t cs){j:Nat}{v:Value}(hj:cs[j]?=some v):w.cell? ⟨g,j,none⟩=some v:=(cell_of_row w g j cs t (0,0) h).trans hj
theorem Row.thawed(h:Row w g t cs)(j:Nat):w.frozen? ⟨g,j,none⟩=false:=by simp[World.frozen?,show w.heap[g]?=_ from h]
theorem Row.stored(h:Row w g t cs)(j:Nat)(v:Value):Row (w.setCell ⟨g,j,none⟩ v) g t (cs.setIfInBounds j v):=by
 unfold Row
 rw[setCell_eq_setRow w g j cs t (0,0) v h]
 exact setRow_heap w g cs _ t _ h
theorem Row.stored'(h:Row w g t cs){a:Addr}(hne:g≠a.block)(v:Value):Row (w.setCell a v) g t cs:=by
 unfold Row World.setCell
 simp only[Array.getElem?_modify]
 rw[if_neg (λe=>hne e.symm)]
 exact h
theorem Row.below(h:Row w g t cs)(hb:Below B w w')(hg:g<B):Row w' g t cs:=(hb.block g hg).trans h
theorem Row.setRow(h:Row w g t cs)(c':Array Value):Row (w.setRow g c') g t c':=setRow_heap w g cs c' t _ h
theorem Row.setRow'(h:Row w g t cs){k:Nat}(hne:g≠k)(c':Array Value):Row (w.setRow k c') g t cs:=(setRow_other w k g c' hne).trans h
end
theorem qu{w w':World}{B:Nat}(h:Below B w w')(n:Nat):Below B w (w'.drewN n):=h.trans ⟨rfl,rfl,rfl,Nat.le_refl _,λ_ _=>rfl⟩
theorem zgs{k:IntKind}{a b:Int}(h:a=b):Ending.returned (.int k a)=.returned (.int k b):=by rw[h]
theorem zd{w w':World}{B:Nat}(h:Below B w w')(g:Nat)(c:Array Value)(hg:B≤g):Below B w (w'.setRow g c):=by
 refine⟨h.os,h.tape,h.output,by simpa using h.size,λk hk=>?_⟩
 exact(setRow_other w' g k c (by omega)).trans (h.block k hk)
section
variable {P:Program}
theorem zn{ops:Array Oper}{rest:List Oper}{o:Oper}{a:Act}{w:World}{Q:Exit→Act→World→Prop}(hg:o.guard=none)(t:TypeId)(parts:Array (Nat × Operand))(ho:o.op=.build t parts)
  (cells:Array Value) (hf:P.built t (parts.map λ(i,x)=>(i,a.eval x)).toList=some cells)
  (h:wpList P ops Q rest (a.put o.dst (.agg cells)) w):wpList P ops Q (o :: rest) a w:=
 wpList_build hg t parts ho (by rw[hf];rfl) (by rw[hf];exact h)
theorem zfj{t e:TypeId}{n:Nat}{cs:Array Value}{v:Value}(hu:P.underlying t=some (.array n e))(i:TypeInfo)(hi:P.info? e=some i)(hs:i.size=1)(d:TypeDesc)(he:P.underlying e=some d)
  (hd:(match d with|.struct _|.array _ _=>true|_=>false)=false) (k:IntKind) (j:Nat) (hj:j<n) (hv:cs[j]?=some v) (w:World) :
  (Instr.index t (.agg cs) (.int k (j:Int))).run P w=.ok v w:=by
 have hagg:∀w:World,(isAgg e).run P w=.ok false w:=λw=>by
  unfold isAgg
  rw[Sem.run_bind,run_underlying he w]
  cases d<;>simp_all
 simp[Instr.index,Sem.run_bind,asIntOf,run_underlying hu,sizeOf,typeInfo,hi,hs,part,hagg,hv,hj]
theorem vq{t e:TypeId}{n:Nat}{cs:Array Value}(hu:P.underlying t=some (.array n e))(i:TypeInfo)(hi:P.info? e=some i)(d:TypeDesc)(he:P.underlying e=some d)
  (hd:(match d with|.struct _|.array _ _=>true|_=>false)=true) (k:IntKind) (j:Nat) (hj:j<n) (w:World) :
  (Instr.index t (.agg cs) (.int k (j:Int))).run P w=.ok (.agg (cs.extract (j*i.size) (j*i.size+i.size))) w:=by
 have hagg:∀w:World,(isAgg e).run P w=.ok true w:=λw=>by
  unfold isAgg
  rw[Sem.run_bind,run_underlying he w]
  cases d<;>simp_all
 simp[Instr.index,Sem.run_bind,asIntOf,run_underlying hu,sizeOf,typeInfo,hi,part,hagg,hj]
end
theorem OwB.setCell{w:World}{base:Nat}{e:TypeId}{v:Value}{l:List UInt8}(h:OwB w base e v l){a:Addr}(hb:a.block<base)(x:Value):OwB (w.setCell a x) base e v l:=by
 refine⟨h.1,?_⟩
 rcases h.2 with hn|⟨g,cap,cur,e1,e2,hg,rest⟩
 ·exact .inl hn
 ·exact .inr ⟨g,cap,cur,e1,e2,(heap_setCell_other w a g x (by omega)).trans hg,rest⟩
theorem zly{P:Program}{ops:Array Oper}{o:Oper}{a:Act}{w:World}{K:Act→World→Prop}{Q:Exit→Act→World→Prop}{E:Prop}(hgd:o.guard=none)(s x:Operand)(t:TypeId)
  (ho:o.op=.call { callee:=.builtin .append,args:=#[s,x],argTypes:=#[t,t] })
  (base:Nat) (e:TypeId) (i:TypeInfo) (ht:P.underlying t=some (.slice e)) (hi:P.info? e=some i) (hz:i.zero=some (.int .u8 0)) (hsize:i.size=1) (hby:i.bytes=1)
  (v:Value) (l:List UInt8) (hs:a.eval s=v) (hown:OwB w base e v l) (g c:Nat) (n:Int) (hx:a.eval x=.slice (some ⟨g,0,none⟩) 1 c) (hr:w.cell? ⟨g,0,none⟩=some (.int .u8 n)) (h0:0≤n) (h1:n<256)
  (h63:l.length<1099511627775) (hbase:base≤w.heap.size)
  (h:∀A' c' L w',Hid (L=l++[UInt8.ofNat n.toNat])→OwB w' base e (.slice A' L.length c') L→Below base w w'→K (a.put o.dst (.slice A' L.length c')) w') :
  if Region.wanted o (yielded ops a.tmps)=true then Oper.wp P o a w K Q else E:=by
 have hw:Region.wanted o (yielded ops a.tmps)=true:=by simp[Region.wanted,hgd]
 rw[if_pos hw]
 have hr1:RdB w w.heap.size (some ⟨g,0,none⟩) [UInt8.ofNat n.toNat]:=λ_=>⟨g,0,rfl,World.block_lt_of_cell? w _ hr,λj hj=>by
   have hj0:j=0:=by simpa using hj
   subst hj0
   rw[Nat.add_zero,hr]
   simp only[List.getElem_cons_zero]
   rw[zej h0 h1]⟩
 obtain⟨A',c',w',hrun,h2,h3⟩:=zg7 (P:=P) w base t o.type e i ht hi hz hsize hby hown (c:=c) hr1 (by simp;omega) hbase
 unfold Oper.wp execOp
 simp only[List.length_cons,List.length_nil,Nat.zero_add] at hrun
 simp only[ho,resolve,invoke,builtin,Sem.run_bind,Sem.run_pure,Result.andThen_ok,List.map_toArray,List.map_cons,List.map_nil,hs,hx,hrun]
 exact h A' c' _ w' rfl h2 h3
def Ze(N:Nat)(f:Nat→Value):Array Value:=((List.range N).map f).toArray
theorem Zm(N:Nat)(f:Nat→Value):(Ze N f).size=N:=by simp[Ze]
theorem yh{N:Nat}(f:Nat→Value){j:Nat}(h:j<N):(Ze N f)[j]?=some (f j):=by simp[Ze,h]
theorem Yw{N:Nat}{f g:Nat→Value}(h:∀j,j<N→f j=g j):Ze N f=Ze N g:=by
 unfold Ze
 congr 1
 exact List.map_congr_left λj hj=>h j (List.mem_range.1 hj)
theorem za8{N:Nat}(f:Nat→Value)(i:Nat)(v:Value):(Ze N f).setIfInBounds i v=Ze N λj=>if j=i then v else f j:=by
 apply Array.ext_getElem?
 intro j
 rw[Array.getElem?_setIfInBounds]
 by_cases hj:j<N
 ·rw[yh _ hj,yh _ hj,Zm]
  by_cases e:i=j
  ·subst e;simp[hj]
  ·rw[if_neg e,if_neg (λh=>e h.symm)]
 ·have h1:(Ze N f)[j]?=none:=by rw[Array.getElem?_eq_none];rw[Zm];omega
  have h2:(Ze N λj=>if j=i then v else f j)[j]?=none:=by rw[Array.getElem?_eq_none];rw[Zm];omega
  rw[h1,h2,Zm]
  by_cases e:i=j
  ·subst e;simp[hj]
  ·rw[if_neg e]
theorem zgk{N:Nat}{f:Nat→Value}(h:∀j,j<N→(f j).oneCell'=true):(Ze N f).all (·.oneCell')=true:=by
 rw[Array.all_eq_true_iff_forall_mem]
 intro x hx
 obtain⟨j,hj,rfl⟩:∃a,a<N∧f a=x:=by simpa [Ze] using hx
 exact h j hj
theorem zfq{N:Nat}(f:Nat→Value){j:Nat}(h:j+2≤N):(Ze N f).extract j (j+2)=#[f j,f (j+1)]:=by
 apply Array.ext_getElem?
 intro i
 rw[Array.getElem?_extract,Zm]
 match i with
 |0=>simp[yh f (show j<N by omega)];omega
 |1=>simp[yh f (show j+1<N by omega)];omega
 |i+2=>simp;omega
end
section
def be:Nat→Nat→List UInt8
 |0,_=>[]
 |k+1,n=>UInt8.ofNat (n / 256 ^ k) :: be k n
def zt(l:List UInt8):Nat:=l.foldl (λa b=>256*a+b.toNat) 0
theorem zl:∀k n,(be k n).length=k
 |0,_=>rfl
 |k+1,n=>by simp[be,zl k n]
theorem zdw:∀k n,be (k+1) n=be k (n / 256)++[UInt8.ofNat n]
 |0,n=>by simp[be]
 |k+1,n=>by
  have h:=zdw k n
  show UInt8.ofNat (n / 256 ^ (k+1)) :: be (k+1) n=(UInt8.ofNat (n / 256 / 256 ^ k) :: be k (n / 256))++[UInt8.ofNat n]
  rw[h,Nat.div_div_eq_div_mul,Nat.pow_succ,Nat.mul_comm (256 ^ k) 256]
  rfl
theorem vw(l:List UInt8)(b:UInt8):zt (l++[b])=256*zt l+b.toNat:=by simp[zt]
theorem zi5{P:List UInt8→Prop}(h0:P [])(h1:∀l b,P l→P (l++[b])):∀l,P l:=by
 have:∀n (l:List UInt8),l.length=n→P l:=by
  intro n
  induction n with
  |zero=>intro l hl;rw[List.eq_nil_of_length_eq_zero hl];exact h0
  |succ n ih=>
   intro l hl
   rcases List.eq_nil_or_concat l with h|⟨x,b,h⟩
   ·rw[h] at hl;simp at hl
   ·subst h
    rw[List.concat_eq_append] at hl ⊢
    exact h1 x b (ih x (by simpa using hl))
 exact λl=>this _ l rfl
theorem jx(n:Nat):(UInt8.ofNat n).toNat=n%256:=by simp
theorem zfr(a:Nat)(b:UInt8):UInt8.ofNat (256*a+b.toNat)=b:=by
 apply UInt8.toNat_inj.1
 rw[jx]
 have:=b.toNat_lt
 omega
theorem zjj(l:List UInt8):zt l<256 ^ l.length:=by
 induction l using zi5 with
 |h0=>simp[zt]
 |h1 l b ih=>
  rw[vw,List.length_append,List.length_singleton,Nat.pow_succ]
  have:=b.toNat_lt
  omega
theorem yf:∀k n,n<256 ^ k→zt (be k n)=n
 |0,n,h=>by simp at h;subst h;rfl
 |k+1,n,h=>by
  rw[zdw,vw,yf k (n / 256) (by rw[Nat.pow_succ] at h;omega),jx]
  omega
theorem zke(l:List UInt8):be l.length (zt l)=l:=by
 induction l using zi5 with
 |h0=>rfl
 |h1 l b ih=>
  have h:=b.toNat_lt
  rw[vw,List.length_append,List.length_singleton,zdw,show (256*zt l+b.toNat) / 256=zt l by omega,ih,zfr]
theorem zbv{l:List UInt8}{k:Nat}(h:l.length=k):zt l<256 ^ k:=by subst h;exact zjj l
theorem xx{α:Type}{k:Nat}{a b:List α}(h:a.length=k):(a++b).take k=a:=by subst h;simp
theorem Qo{α:Type}{k:Nat}{a b:List α}(h:a.length=k):(a++b).drop k=b:=by subst h;simp
structure Frm where
 ty:Nat
 fl:Nat
 st:Nat
 dat:List UInt8
 pad:Int
 code:Nat
 oth:Nat
 wt:Nat
 al:Bool
 win:Nat
 sets:List (Nat × Nat)
def Q1(ty fl:Nat):Prop:=(ty=0∨ty=1∨ty=5)∧fl / 8%2=1
def zu(ty fl:Nat):Prop:=ty=2∨ty=1∧fl / 32%2=1
instance(a b:Nat):Decidable (Q1 a b):=inferInstanceAs (Decidable (_∧_))
instance(a b:Nat):Decidable (zu a b):=inferInstanceAs (Decidable (_∨_))
def yq(ty fl:Nat):Bool:=decide (Q1 ty fl)
def ya(ty fl:Nat):Bool:=decide (zu ty fl)
def jl(ty fl:Nat):Nat:=if ya ty fl=true then 5 else if ty=3∨ty=5∨ty=8 then 4 else if ty=7 then 8 else 0
def qt(l:List (Nat × Nat)):List UInt8:=l.flatMap λs=>be 2 s.1++be 4 s.2
def zw(f:Frm):List UInt8:=
 if ya f.ty f.fl=true then be 4 (f.oth+if f.al=true then 2147483648 else 0)++[UInt8.ofNat f.wt]
 else if f.ty=3 then be 4 f.code
 else if f.ty=4 then qt f.sets
 else if f.ty=5 then be 4 f.oth
 else if f.ty=7 then be 4 f.oth++be 4 f.code
 else if f.ty=8 then be 4 f.win
 else []
def j6(f:Frm):List UInt8:=if 0≤f.pad then UInt8.ofNat f.pad.toNat :: (zw f++f.dat++List.replicate f.pad.toNat 0) else zw f++f.dat
def ym(n ty fl st:Nat):List UInt8:=be 3 n++[UInt8.ofNat ty,UInt8.ofNat fl]++be 4 st
def zh(f:Frm):List UInt8:=ym (j6 f).length f.ty f.fl f.st++j6 f
def Qf(ty fl:Nat)(pad:Int):Prop:=(Q1 ty fl→0≤pad∧pad≤255)∧(¬Q1 ty fl→pad = -1)
def qc(ty fl dn code oth wt:Nat)(al:Bool)(win sn:Nat):Prop:=
 (wt≠0→zu ty fl)∧(al=true→zu ty fl)∧(oth≠0→zu ty fl∨ty=5∨ty=7)∧(code≠0→ty=3∨ty=7)∧(win≠0→ty=8)∧(sn≠0→ty=4)∧(dn≠0→¬(ty=2∨ty=3∨ty=4∨ty=8))
def yo(ty fl dn:Nat)(pad:Int)(sn:Nat):Int:=jl ty fl+6*sn+dn+if yq ty fl=true then 1+pad else 0
def zmc(ty fl st dn:Nat)(pad:Int)(code oth wt:Nat)(al:Bool)(win sn:Nat):Prop:=
 (st≤2147483647∧oth≤2147483647∧win≤2147483647)∧(ty=6→dn=8)∧Qf ty fl pad∧qc ty fl dn code oth wt al win sn∧yo ty fl dn pad sn≤16384
instance(a b:Nat)(c:Int):Decidable (Qf a b c):=inferInstanceAs (Decidable (_∧_))
instance(a b c d e f:Nat)(g:Bool)(h i:Nat):Decidable (qc a b c d e f g h i):=inferInstanceAs (Decidable (_∧_))
instance(a b c d:Nat)(e:Int)(f g h:Nat)(i:Bool)(j k:Nat):Decidable (zmc a b c d e f g h i j k):=inferInstanceAs (Decidable (_∧_))
def hdN(ty fl st:Nat):Frm:=⟨ty,fl,st,[],-1,0,0,0,false,0,[]⟩
def Yp(ty st:Nat):Prop:=((ty=0∨ty=1∨ty=2∨ty=3∨ty=5∨ty=9)∧st=0)∨((ty=4∨ty=6∨ty=7)∧st≠0)
instance(a b:Nat):Decidable (Yp a b):=inferInstanceAs (Decidable (_∨_))
def yu(ty st:Nat):Bool:=decide (Yp ty st)
def jb(ty fl n:Nat):Prop:=(ty=1∧fl / 32%2=1→5≤n)∧(ty=2→n=5)∧(ty=3∨ty=8→n=4)∧(ty=4→n%6=0∧(fl%2=1→n=0))∧(ty=5→4≤n)∧(ty=6→n=8)∧(ty=7→8≤n)
instance(a b c:Nat):Decidable (jb a b c):=inferInstanceAs (Decidable (_∧_))
def Yf(ty fl n:Nat):Bool:=decide (jb ty fl n)
def Zk(ty fl:Nat)(s:List UInt8):Except Nat (Int × List UInt8):=
 if yq ty fl=true then
  match s with
  |[]=>.error 6
  |p :: r=>if r.length<p.toNat then .error 1 else .ok (p.toNat,r.take (r.length-p.toNat))
 else .ok (-1,s)
def jd:List UInt8→List (Nat × Nat)
 |a :: b :: c :: d :: e :: f :: r=>(zt [a,b],zt [c,d,e,f]) :: jd r
 |_=>[]
def q9(ty fl st:Nat)(pad:Int)(s:List UInt8):Frm:=
 if ya ty fl=true then ⟨ty,fl,st,s.drop 5,pad,0,zt (s.take 4)%2147483648,(s.getD 4 0).toNat,decide (2147483648≤zt (s.take 4)),0,[]⟩
 else if ty=3 then ⟨ty,fl,st,[],pad,zt (s.take 4),0,0,false,0,[]⟩
 else if ty=4 then ⟨ty,fl,st,[],pad,0,0,0,false,0,jd s⟩
 else if ty=5 then ⟨ty,fl,st,s.drop 4,pad,0,zt (s.take 4)%2147483648,0,false,0,[]⟩
 else if ty=7 then ⟨ty,fl,st,s.drop 8,pad,zt ((s.drop 4).take 4),zt (s.take 4)%2147483648,0,false,0,[]⟩
 else if ty=8 then ⟨ty,fl,st,[],pad,0,0,0,false,zt (s.take 4)%2147483648,[]⟩
 else ⟨ty,fl,st,s,pad,0,0,0,false,0,[]⟩
def j7(ty st win:Nat):Nat:=if ty=8∧win=0 then (if st=0 then 1 else 2) else 0
def jt(ty fl st:Nat)(s:List UInt8):Frm × Nat × Nat:=
 if 16384<s.length then (hdN ty fl st,1,6)
 else if yu ty st=true then (hdN ty fl st,1,1)
 else match Zk ty fl s with
  |.error c=>(hdN ty fl st,1,c)
  |.ok (pad,r)=>
   if Yf ty fl r.length=false then (hdN ty fl st,if ty=2 then 2 else 1,6)
   else if j7 ty st (q9 ty fl st pad r).win=0 then (q9 ty fl st pad r,0,0)
   else (hdN ty fl st,j7 ty st (q9 ty fl st pad r).win,1)
def Zu(b:List UInt8):Frm × Nat × Nat:=
 if b.length<9∨b.length≠9+zt (b.take 3) then (hdN 0 0 0,1,6)
 else jt (b.getD 3 0).toNat (b.getD 4 0).toNat (zt ((b.drop 5).take 4)%2147483648) (b.drop 9)
theorem zoc:qt []=[]:=rfl
theorem vk(s:Nat × Nat)(l:List (Nat × Nat)):qt (s :: l)=be 2 s.1++be 4 s.2++qt l:=by simp[qt]
theorem zlh(l:List (Nat × Nat))(s:Nat × Nat):qt (l++[s])=qt l++(be 2 s.1++be 4 s.2):=by simp[qt]
theorem Jc(l:List (Nat × Nat)):(qt l).length=6*l.length:=by
 induction l with
 |nil=>rfl
 |cons s l ih=>rw[vk,List.length_append,List.length_append,zl,zl,ih,List.length_cons];omega
theorem six{l:List UInt8}(h:6≤l.length):∃a b c d e f r,l=a :: b :: c :: d :: e :: f :: r:=by
 match l,h with
 |a :: b :: c :: d :: e :: f :: r,_=>exact⟨a,b,c,d,e,f,r,rfl⟩
theorem be2(n:Nat):be 2 n=[UInt8.ofNat (n / 256),UInt8.ofNat n]:=by simp[be]
theorem be3(n:Nat):be 3 n=[UInt8.ofNat (n / 65536),UInt8.ofNat (n / 256),UInt8.ofNat n]:=by simp[be]
theorem be4(n:Nat):be 4 n=[UInt8.ofNat (n / 16777216),UInt8.ofNat (n / 65536),UInt8.ofNat (n / 256),UInt8.ofNat n]:=by simp[be]
theorem zan:∀l:List (Nat × Nat),(∀s∈l,s.1<65536∧s.2<4294967296)→jd (qt l)=l
 |[],_=>rfl
 |s :: l,h=>by
  have hs:=h s (by simp)
  rw[vk,be2,be4]
  show (zt _,zt _) :: jd (qt l)=_
  rw[zan l λx hx=>h x (by simp[hx]),←be2,←be4,yf 2 _ hs.1,yf 4 _ hs.2]
theorem Jt:∀(n:Nat) (l:List UInt8),l.length=6*n→qt (jd l)=l∧(jd l).length=n
 |0,l,h=>by
  have:l=[]:=List.eq_nil_of_length_eq_zero (by omega)
  subst this
  exact⟨rfl,rfl⟩
 |n+1,l,h=>by
  obtain⟨a,b,c,d,e,f,r,rfl⟩:=six (l:=l) (by omega)
  have ih:=Jt n r (by simp at h;omega)
  show qt ((zt [a,b],zt [c,d,e,f]) :: jd r)=_∧(jd r).length+1=n+1
  rw[vk,ih.1,ih.2]
  have h1:=zke [a,b]
  have h2:=zke [c,d,e,f]
  simp only[List.length_cons,List.length_nil,Nat.zero_add,Nat.reduceAdd] at h1 h2
  exact⟨by rw[h1,h2];rfl,rfl⟩
theorem J4(f:Frm)(h:f.sets.length≠0→f.ty=4):(zw f).length=jl f.ty f.fl+6*f.sets.length:=by
 unfold zw jl
 by_cases hl:ya f.ty f.fl=true
 ·have:f.sets.length=0:=by
   rcases Nat.eq_zero_or_pos f.sets.length with h0|h0
   ·exact h0
   ·have h4:=h (by omega)
    have:=of_decide_eq_true hl
    unfold zu at this
    omega
  rw[if_pos hl,if_pos hl,List.length_append,zl,this]
  rfl
 ·rw[if_neg hl,if_neg hl]
  by_cases h4:f.ty=4
  ·rw[if_neg (by omega),if_pos h4,if_neg (by omega),if_neg (by omega),Jc]
   omega
  ·have:f.sets.length=0:=Classical.byContradiction λh0=>h4 (h h0)
   rw[this]
   repeat' split
   all_goals first|omega|simp[zl]
theorem zao(f:Frm)(h:f.sets.length≠0→f.ty=4)(hp:Qf f.ty f.fl f.pad):((j6 f).length:Int)=yo f.ty f.fl f.dat.length f.pad f.sets.length:=by
 have hf:=J4 f h
 unfold j6 yo
 by_cases hb:Q1 f.ty f.fl
 ·have h0:=hp.1 hb
  rw[if_pos h0.1,if_pos (show yq f.ty f.fl=true from decide_eq_true hb)]
  simp only[List.length_cons,List.length_append,List.length_replicate,hf]
  omega
 ·have h0:=hp.2 hb
  rw[if_neg (by omega),if_neg (by simpa [yq] using hb)]
  simp only[List.length_append,hf]
  omega
end
end Go.Proofs.YtooaajnkiokpnaaGreatDoor
