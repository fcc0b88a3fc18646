/-
  Whole arrays in memory and by value, over whatever program: a block's row of cells; an array built from parts, stored, loaded, handed back. No conditions but those that each theorem names.
-/
import Derived.Test.YtdegpchofhnipaaDoorBytes
import Derived.Deep.WholeRow
import Derived.IntWalk
import Derived.KernelRfl
namespace Go.Proofs.YtdegpchofhnipaaDoor
open Go.RowKit Go.WideShapes

/-- A block is this row of cells, and may be written. -/
def Row (w : World) (g : Nat) (t : TypeId) (cs : Array Value) : Prop := w.heap[g]? = some (.cells cs t (0, 0))

section
variable {w w' : World} {g : Nat} {t : TypeId} {cs : Array Value} {B : Nat}
theorem Row.lt (h : Row w g t cs) : g < w.heap.size := (Array.getElem?_eq_some_iff.1 h).1
theorem Row.new (w : World) (t : TypeId) (cs : Array Value) : Row (w.alloc (.cells cs t)) w.heap.size t cs := heap_alloc_last w _
theorem Row.made (w : World) (t : TypeId) (cs : Array Value) (hg : g = w.heap.size) : Row (w.alloc (.cells cs t)) g t cs := by rw [hg]; exact Row.new w t cs
theorem Row.alloc (h : Row w g t cs) (o : Obj) : Row (w.alloc o) g t cs := (heap_alloc_old w o h.lt).trans h
theorem Row.cell (h : Row w g t cs) {j : Nat} {v : Value} (hj : cs[j]? = some v) : w.cell? ⟨g, j, none⟩ = some v := (cell_of_row w g j cs t (0, 0) h).trans hj
theorem Row.thawed (h : Row w g t cs) (j : Nat) : w.frozen? ⟨g, j, none⟩ = false := by simp [World.frozen?, show w.heap[g]? = _ from h]
theorem Row.stored (h : Row w g t cs) (j : Nat) (v : Value) : Row (w.setCell ⟨g, j, none⟩ v) g t (cs.setIfInBounds j v) := by
  unfold Row
  rw [setCell_eq_setRow w g j cs t (0, 0) v h]
  exact setRow_heap w g cs _ t _ h
theorem Row.stored' (h : Row w g t cs) {a : Addr} (hne : g ≠ a.block) (v : Value) : Row (w.setCell a v) g t cs := by
  unfold Row World.setCell
  simp only [Array.getElem?_modify]
  rw [if_neg (fun e => hne e.symm)]
  exact h
theorem Row.below (h : Row w g t cs) (hb : Below B w w') (hg : g < B) : Row w' g t cs := (hb.block g hg).trans h
theorem Row.setRow (h : Row w g t cs) (c' : Array Value) : Row (w.setRow g c') g t c' := setRow_heap w g cs c' t _ h
theorem Row.setRow' (h : Row w g t cs) {k : Nat} (hne : g ≠ k) (c' : Array Value) : Row (w.setRow k c') g t cs := (setRow_other w k g c' hne).trans h
end
theorem below_dN {w w' : World} {B : Nat} (h : Below B w w') (n : Nat) : Below B w (w'.drewN n) := h.trans ⟨rfl, rfl, rfl, Nat.le_refl _, fun _ _ => rfl⟩
theorem ret1 {k : IntKind} {a b : Int} (h : a = b) : Ending.returned (.int k a) = .returned (.int k b) := by rw [h]
theorem below_setRow {w w' : World} {B : Nat} (h : Below B w w') (g : Nat) (c : Array Value) (hg : B ≤ g) : Below B w (w'.setRow g c) := by
  refine ⟨h.os, h.tape, h.output, by simpa using h.size, fun k hk => ?_⟩
  exact (setRow_other w' g k c (by omega)).trans (h.block k hk)

section
variable {P : Program}
theorem wpList_build_is {ops : Array Oper} {rest : List Oper} {o : Oper} {a : Act} {w : World} {Q : Exit → Act → World → Prop} (hg : o.guard = none) (t : TypeId) (parts : Array (Nat × Operand)) (ho : o.op = .build t parts)
    (cells : Array Value) (hf : P.built t (parts.map fun (i, x) => (i, a.eval x)).toList = some cells)
    (h : wpList P ops Q rest (a.put o.dst (.agg cells)) w) : wpList P ops Q (o :: rest) a w :=
  wpList_build hg t parts ho (by rw [hf]; rfl) (by rw [hf]; exact h)

/-- An element of one cell, of an array by value. -/
theorem run_index_one {t e : TypeId} {n : Nat} {cs : Array Value} {v : Value} (hu : P.underlying t = some (.array n e)) (i : TypeInfo) (hi : P.info? e = some i) (hs : i.size = 1) (d : TypeDesc) (he : P.underlying e = some d)
    (hd : (match d with | .struct _ | .array _ _ => true | _ => false) = false) (k : IntKind) (j : Nat) (hj : j < n) (hv : cs[j]? = some v) (w : World) :
    (Instr.index t (.agg cs) (.int k (j : Int))).run P w = .ok v w := by
  have hagg : ∀ w : World, (isAgg e).run P w = .ok false w := fun w => by
    unfold isAgg
    rw [Sem.run_bind, run_underlying he w]
    cases d <;> simp_all
  simp [Instr.index, Sem.run_bind, asIntOf, run_underlying hu, sizeOf, typeInfo, hi, hs, part, hagg, hv, hj]
/-- An element that is a struct or an array, of an array by value. -/
theorem run_index_agg {t e : TypeId} {n : Nat} {cs : Array Value} (hu : P.underlying t = some (.array n e)) (i : TypeInfo) (hi : P.info? e = some i) (d : TypeDesc) (he : P.underlying e = some d)
    (hd : (match d with | .struct _ | .array _ _ => true | _ => false) = true) (k : IntKind) (j : Nat) (hj : j < n) (w : World) :
    (Instr.index t (.agg cs) (.int k (j : Int))).run P w = .ok (.agg (cs.extract (j * i.size) (j * i.size + i.size))) w := by
  have hagg : ∀ w : World, (isAgg e).run P w = .ok true w := fun w => by
    unfold isAgg
    rw [Sem.run_bind, run_underlying he w]
    cases d <;> simp_all
  simp [Instr.index, Sem.run_bind, asIntOf, run_underlying hu, sizeOf, typeInfo, hi, part, hagg, hj]
end

theorem OwB.setCell {w : World} {base : Nat} {e : TypeId} {v : Value} {l : List UInt8} (h : OwB w base e v l) {a : Addr} (hb : a.block < base) (x : Value) : OwB (w.setCell a x) base e v l := by
  refine ⟨h.1, ?_⟩
  rcases h.2 with hn | ⟨g, cap, cur, e1, e2, hg, rest⟩
  · exact .inl hn
  · exact .inr ⟨g, cap, cur, e1, e2, (heap_setCell_other w a g x (by omega)).trans hg, rest⟩
/-- An append of one byte that was just laid in a block of its own, at a step of a region that draws its order. -/
theorem step_appB1 {P : Program} {ops : Array Oper} {o : Oper} {a : Act} {w : World} {K : Act → World → Prop} {Q : Exit → Act → World → Prop} {E : Prop} (hgd : o.guard = none) (s x : Operand) (t : TypeId)
    (ho : o.op = .call { callee := .builtin .append, args := #[s, x], argTypes := #[t, t] })
    (base : Nat) (e : TypeId) (i : TypeInfo) (ht : P.underlying t = some (.slice e)) (hi : P.info? e = some i) (hz : i.zero = some (.int .u8 0)) (hsize : i.size = 1) (hby : i.bytes = 1)
    (v : Value) (l : List UInt8) (hs : a.eval s = v) (hown : OwB w base e v l) (g c : Nat) (n : Int) (hx : a.eval x = .slice (some ⟨g, 0, none⟩) 1 c) (hr : w.cell? ⟨g, 0, none⟩ = some (.int .u8 n)) (h0 : 0 ≤ n) (h1 : n < 256)
    (h63 : l.length < 1099511627775) (hbase : base ≤ w.heap.size)
    (h : ∀ A' c' L w', Hid (L = l ++ [UInt8.ofNat n.toNat]) → OwB w' base e (.slice A' L.length c') L → Below base w w' → K (a.put o.dst (.slice A' L.length c')) w') :
    if Region.wanted o (yielded ops a.tmps) = true then Oper.wp P o a w K Q else E := by
  have hw : Region.wanted o (yielded ops a.tmps) = true := by simp [Region.wanted, hgd]
  rw [if_pos hw]
  have hr1 : RdB w w.heap.size (some ⟨g, 0, none⟩) [UInt8.ofNat n.toNat] := fun _ => ⟨g, 0, rfl, World.block_lt_of_cell? w _ hr, fun j hj => by
      have hj0 : j = 0 := by simpa using hj
      subst hj0
      rw [Nat.add_zero, hr]
      simp only [List.getElem_cons_zero]
      rw [byte_back h0 h1]⟩
  obtain ⟨A', c', w', hrun, h2, h3⟩ := run_appB (P := P) w base t o.type e i ht hi hz hsize hby hown (c := c) hr1 (by simp; omega) hbase
  unfold Oper.wp execOp
  simp only [List.length_cons, List.length_nil, Nat.zero_add] at hrun
  simp only [ho, resolve, invoke, builtin, Sem.run_bind, Sem.run_pure, Result.andThen_ok, List.map_toArray, List.map_cons, List.map_nil, hs, hx, hrun]
  exact h A' c' _ w' rfl h2 h3

/-- A row of cells by a function of the place. -/
def rowF (N : Nat) (f : Nat → Value) : Array Value := ((List.range N).map f).toArray
theorem rowF_size (N : Nat) (f : Nat → Value) : (rowF N f).size = N := by simp [rowF]
theorem rowF_at {N : Nat} (f : Nat → Value) {j : Nat} (h : j < N) : (rowF N f)[j]? = some (f j) := by simp [rowF, h]
theorem rowF_congr {N : Nat} {f g : Nat → Value} (h : ∀ j, j < N → f j = g j) : rowF N f = rowF N g := by
  unfold rowF
  congr 1
  exact List.map_congr_left fun j hj => h j (List.mem_range.1 hj)
theorem rowF_set {N : Nat} (f : Nat → Value) (i : Nat) (v : Value) : (rowF N f).setIfInBounds i v = rowF N fun j => if j = i then v else f j := by
  apply Array.ext_getElem?
  intro j
  rw [Array.getElem?_setIfInBounds]
  by_cases hj : j < N
  · rw [rowF_at _ hj, rowF_at _ hj, rowF_size]
    by_cases e : i = j
    · subst e; simp [hj]
    · rw [if_neg e, if_neg (fun h => e h.symm)]
  · have h1 : (rowF N f)[j]? = none := by rw [Array.getElem?_eq_none]; rw [rowF_size]; omega
    have h2 : (rowF N fun j => if j = i then v else f j)[j]? = none := by rw [Array.getElem?_eq_none]; rw [rowF_size]; omega
    rw [h1, h2, rowF_size]
    by_cases e : i = j
    · subst e; simp [hj]
    · rw [if_neg e]
theorem rowF_one {N : Nat} {f : Nat → Value} (h : ∀ j, j < N → (f j).oneCell' = true) : (rowF N f).all (·.oneCell') = true := by
  rw [Array.all_eq_true_iff_forall_mem]
  intro x hx
  obtain ⟨j, hj, rfl⟩ : ∃ a, a < N ∧ f a = x := by simpa [rowF] using hx
  exact h j hj
theorem rowF_extract2 {N : Nat} (f : Nat → Value) {j : Nat} (h : j + 2 ≤ N) : (rowF N f).extract j (j + 2) = #[f j, f (j + 1)] := by
  apply Array.ext_getElem?
  intro i
  rw [Array.getElem?_extract, rowF_size]
  match i with
  | 0 => simp [rowF_at f (show j < N by omega)]; omega
  | 1 => simp [rowF_at f (show j + 1 < N by omega)]; omega
  | i + 2 => simp; omega
end Go.Proofs.YtdegpchofhnipaaDoor
