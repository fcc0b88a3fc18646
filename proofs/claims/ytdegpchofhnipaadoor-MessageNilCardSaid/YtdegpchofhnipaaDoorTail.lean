/-
  A slice that the call made, over whatever program: what it is without its first elements; an element's cells; a block whose first cells are stored anew. No conditions but those that each theorem names.
-/
import Derived.Test.YtdegpchofhnipaaDoorAg
namespace Go.Proofs.YtdegpchofhnipaaDoor
open Go.RowKit Go.WideShapes

section
variable {P : Program}
/-- 's[m:]'. -/
theorem run_tail (w : World) (base : Nat) (t e : TypeId) (i : TypeInfo) (k : Nat) (ht : P.underlying t = some (.slice e)) (hi : P.info? e = some i) (hsize : i.size = k)
    {A : Option Addr} {n c : Nat} {cs : List Value} (hown : OwS w base e k (.slice A n c) n cs) (m : Nat) (hmn : m ≤ n) :
    ∃ A', (∀ W, (Instr.slice t (.slice A n c) (some (.int .i64 (m : Int))) none none).run P W = .ok (.slice A' (n - m) (c - m)) W) ∧
      OwS w base e k (.slice A' (n - m) (c - m)) (n - m) (cs.drop (m * k)) ∧ (Value.slice A' (n - m) (c - m)).ownBlock = (Value.slice A n c).ownBlock := by
  subst hsize
  have ht' : P.underlying t = some (.slice (P.elem t)) := by simp [Program.elem, ht]
  have he : P.elem t = e := by simp [Program.elem, ht]
  obtain ⟨_, _, e0, hnc, _⟩ := hown.shape
  injection e0 with _ _ e0
  subst e0
  have hfrom : ∀ W, (Instr.slice t (.slice A n c) (some (.int .i64 (m : Int))) none none).run P W = .ok (.slice (if c = m then A else A.map (·.add (m * i.size))) (n - m) (c - m)) W := fun W => by
    rw [run_slice_l W t A n c ht' .i64 m (by omega) (by omega), he]
    simp [sizeOf, typeInfo, hi, sliced, Result.andThen]
  rcases hown.2 with ⟨e1, rfl⟩ | ⟨g, o, c', cur, e1, hbg, hg, _, hcm, hfit, htake⟩
  · injection e1 with e1 e2 e3
    subst e1 e3
    obtain rfl : m = 0 := by omega
    have hx : cs = [] := List.eq_nil_of_length_eq_zero (by simpa using hown.1)
    subst hx
    refine ⟨none, fun W => ?_, by simpa using OwS.nil, rfl⟩
    rw [hfrom]; simp
  · injection e1 with e1 e2 e3
    subst e1 e3
    have hle : m * i.size ≤ n * i.size := Nat.mul_le_mul_right _ hmn
    have hle2 : n * i.size ≤ c * i.size := Nat.mul_le_mul_right _ hnc
    have hblk : (Value.slice (if c = m then some ⟨g, o, none⟩ else (some (⟨g, o, none⟩ : Addr)).map (·.add (m * i.size))) (n - m) (c - m)).ownBlock = some g := by
      split <;> simp [Value.ownBlock, add_plain]
    refine ⟨_, hfrom, ?_, hblk⟩
    have hm1 : (c - m) * i.size = c * i.size - m * i.size := Nat.sub_mul ..
    have hm2 : (n - m) * i.size = n * i.size - m * i.size := Nat.sub_mul ..
    refine ⟨by rw [List.length_drop, hown.1, hm2], ?_⟩
    by_cases hcm' : c = m
    · subst hcm'
      obtain rfl : n = c := by omega
      rw [if_pos rfl]
      refine .inr ⟨g, o, n - n, cur, rfl, hbg, hg, by omega, by omega, by rw [hm1]; omega, ?_⟩
      rw [Nat.sub_self, Nat.zero_mul, List.take_zero, List.drop_of_length_le (by rw [hown.1]; omega)]
    · rw [if_neg hcm']
      refine .inr ⟨g, o + m * i.size, c - m, cur, by rw [Option.map_some, add_plain], hbg, hg, by omega, by omega, by rw [hm1]; omega, ?_⟩
      rw [← htake, List.drop_take, List.drop_drop, hm2]
end
/-- Element number i, whole. -/
theorem RdS.elem {α : Type} {enc : α → List Value} {k : Nat} (hk : ∀ x, (enc x).length = k) {w : World} {S : Nat → Prop} {A : Option Addr} {L : List α} (h : RdS w S A (enl enc L)) {i : Nat} (hi : i < L.length) (hk0 : 0 < k) :
    ∃ b q, A = some ⟨b, q, none⟩ ∧ S b ∧ w.rangeAt b (q + i * k) (enc L[i]) := by
  have hne : enl enc L ≠ [] := by
    intro e
    have h1 := enl_length hk L
    have h2 : 0 < L.length * k := Nat.mul_pos (by omega) hk0
    rw [e] at h1
    simp only [List.length_nil] at h1
    omega
  obtain ⟨b, q, hA, hb, hc⟩ := h hne
  refine ⟨b, q, hA, hb, fun j u hj => ?_⟩
  have hjk : j < k := by have := (List.getElem?_eq_some_iff.1 hj).1; rwa [hk] at this
  rw [Nat.add_assoc]
  exact hc (i * k + j) u (by rw [enl_at hk hi hjk]; exact hj)
/-- A literal of one struct. -/
theorem wpList_bs1 {P : Program} {T E : TypeId} {cs : Array Value} (hrun : ∀ w, (Instr.buildSlice T 1 #[(0, .agg cs)]).run P w = .ok (.slice (some ⟨w.heap.size, 0, none⟩) 1 1) (w.alloc (.cells cs E))) {ops : Array Oper} {rest : List Oper} {o : Oper} {a : Act} {w : World} {Q : Exit → Act → World → Prop} (hg : o.guard = none) (y : Operand) (ho : o.op = .buildSlice T 1 #[(0, y)]) (hy : a.eval y = .agg cs)
    (h : wpList P ops Q rest (a.put o.dst (.slice (some ⟨w.heap.size, 0, none⟩) 1 1)) (w.alloc (.cells cs E))) : wpList P ops Q (o :: rest) a w := by
  refine wpList_plain hg fun K' hK' => ?_
  unfold Oper.wp execOp
  simp only [ho, Sem.run_bind, List.map_toArray, List.map_cons, List.map_nil, hy, hrun, Result.andThen_ok]
  exact hK' _ _ h
theorem step_bs1 {P : Program} {T E : TypeId} {cs : Array Value} (hrun : ∀ w, (Instr.buildSlice T 1 #[(0, .agg cs)]).run P w = .ok (.slice (some ⟨w.heap.size, 0, none⟩) 1 1) (w.alloc (.cells cs E))) {ops : Array Oper} {o : Oper} {a : Act} {w : World} {K : Act → World → Prop} {Q : Exit → Act → World → Prop} {F : Prop} (hgd : o.guard = none) (y : Operand) (ho : o.op = .buildSlice T 1 #[(0, y)]) (hy : a.eval y = .agg cs)
    (h : K (a.put o.dst (.slice (some ⟨w.heap.size, 0, none⟩) 1 1)) (w.alloc (.cells cs E))) : if Region.wanted o (yielded ops a.tmps) = true then Oper.wp P o a w K Q else F := by
  have hw : Region.wanted o (yielded ops a.tmps) = true := by simp [Region.wanted, hgd]
  rw [if_pos hw]
  unfold Oper.wp execOp
  simp only [ho, Sem.run_bind, List.map_toArray, List.map_cons, List.map_nil, hy, hrun, Result.andThen_ok]
  exact h
/-- A literal of several structs. -/
theorem step_bsn {P : Program} {T E : TypeId} {n : Nat} {parts : Array (Nat × Operand)} {vs : Array (Nat × Value)} {cs : Array Value} (hrun : ∀ w, (Instr.buildSlice T n vs).run P w = .ok (.slice (some ⟨w.heap.size, 0, none⟩) n n) (w.alloc (.cells cs E))) {ops : Array Oper} {o : Oper} {a : Act} {w : World} {K : Act → World → Prop} {Q : Exit → Act → World → Prop} {F : Prop} (hgd : o.guard = none) (ho : o.op = .buildSlice T n parts) (hv : (parts.map fun (i, x) => (i, a.eval x)) = vs)
    (h : K (a.put o.dst (.slice (some ⟨w.heap.size, 0, none⟩) n n)) (w.alloc (.cells cs E))) : if Region.wanted o (yielded ops a.tmps) = true then Oper.wp P o a w K Q else F := by
  have hw : Region.wanted o (yielded ops a.tmps) = true := by simp [Region.wanted, hgd]
  rw [if_pos hw]
  unfold Oper.wp execOp
  simp only [ho, Sem.run_bind]
  rw [hv, hrun]
  simp only [Result.andThen_ok]
  exact h
end Go.Proofs.YtdegpchofhnipaaDoor
