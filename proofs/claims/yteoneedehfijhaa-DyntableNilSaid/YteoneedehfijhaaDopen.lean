/-
  A field, a slice of fields, a slice of operations, as they come in.
-/
import Derived.Test.YteoneedehfijhaaOpenS
import Derived.Test.YteoneedehfijhaaDtab
import Derived.Test.YteoneedehfijhaaDgo
import Derived.Lib.SmallJoins
import Derived.SizedLaws
namespace Go.Proofs.Yteoneedehfijhaa
open Go.ChangeShapes Go.WideShapes Go.RowKit Go.Deep Go.Joins

section
variable {H : Type} {hc : TypeId × Value → H}
theorem cells_field : Try.prog.cellsOf 32 = 3 := by kernel_rfl
theorem cells_str : Try.prog.cellsOf 9 = 1 := by kernel_rfl
theorem cells_bool : Try.prog.cellsOf 4 = 1 := by kernel_rfl
theorem cells_i64 : Try.prog.cellsOf 3 = 1 := by kernel_rfl
theorem cells_u32 : Try.prog.cellsOf 22 = 1 := by kernel_rfl
theorem cells_op : Try.prog.cellsOf 34 = 6 := by kernel_rfl

theorem len_max {n c : Nat} (h1 : n ≤ c) (h2 : c ≤ maxLen) : n ≤ 9223372036854775807 := by simp only [maxLen] at h2; omega
theorem field_cells3 {W : World} {n : Nat} {cs : List Value} {x : DataW H × List MemPlace} (h : DataW.trod hc Try.prog W 0 (fun _ => true) true n 32 cs = some x) : ∃ f : Fd, cs = fdc f := by
  obtain ⟨xs, m, _, _, hl, hxl, hf⟩ := DataW.trod_struct Try.underlying32 h
  rw [cells_field] at hl
  match cs, hl with
  | [a, b, c], _ =>
    have hxl' : xs.length = 3 := hxl
    have h0 : DataW.trod hc Try.prog W 0 (fun _ => true) true m 9 (List.take (Try.prog.cellsOf 9) (List.drop 0 [a, b, c])) = xs[0]? := hf 0 _ rfl
    have h1 : DataW.trod hc Try.prog W 0 (fun _ => true) true m 9 (List.take (Try.prog.cellsOf 9) (List.drop 1 [a, b, c])) = xs[1]? := hf 1 _ rfl
    have h2 : DataW.trod hc Try.prog W 0 (fun _ => true) true m 4 (List.take (Try.prog.cellsOf 4) (List.drop 2 [a, b, c])) = xs[2]? := hf 2 _ rfl
    rw [List.getElem?_eq_getElem (by omega)] at h0 h1 h2
    simp only [cells_str, cells_bool, List.drop_succ_cons, List.drop_zero, List.take_succ_cons, List.take_zero] at h0 h1 h2
    obtain ⟨s0, e0, _, _⟩ := DataW.trod_string Try.underlying9 h0
    obtain ⟨s1, e1, _, _⟩ := DataW.trod_string Try.underlying9 h1
    obtain ⟨t, e2, _⟩ := DataW.trod_bool Try.underlying4 h2
    refine ⟨⟨s0.data.toList, s1.data.toList, t⟩, ?_⟩
    simp only [List.cons.injEq, and_true] at e0 e1 e2
    subst e0 e1 e2
    simp [fdc, tx]
theorem open_fields {W : World} {base : Nat} {v : Value} {d : DataW H} {p : List MemPlace} (hv : Value.okWide Try.prog W .any base 28 v) (h : DataW.Trod hc Try.prog W 0 (fun _ => true) true 28 v d p) :
    ∃ (A : Option Addr) (c : Nat) (L : List Fd), v = .slice A L.length c ∧ L.length ≤ c ∧ c ≤ maxLen ∧ RdS W (· < W.heap.size) A (enl fdc L) :=
  open_rows fdc_len (by omega) Try.underlying28 cells_field (fun _ _ _ h => field_cells3 h) hv h
theorem open_field {W : World} {base : Nat} {v : Value} {d : DataW H} {p : List MemPlace} (hv : Value.okWide Try.prog W .any base 32 v) (h : DataW.Trod hc Try.prog W 0 (fun _ => true) true 32 v d p) : ∃ f : Fd, v = fv f := by
  obtain ⟨cs, rfl, _⟩ := okWide_struct Try.underlying32 hv
  obtain ⟨fuel, hf⟩ := h
  obtain ⟨f, hcs⟩ := field_cells3 hf
  refine ⟨f, ?_⟩
  have : cs.toList = fdc f := hcs
  unfold fv
  congr 1
  apply Array.toList_inj.1
  rw [this]
  rfl
theorem oper_cells {W : World} {n : Nat} {cs : List Value} {x : DataW H × List MemPlace} (h : DataW.trod hc Try.prog W 0 (fun _ => true) true n 34 cs = some x) : ∃ o : Opv, cs = opc o := by
  obtain ⟨xs, m, _, _, hl, hxl, hf⟩ := DataW.trod_struct Try.underlying34 h
  rw [cells_op] at hl
  match cs, hl with
  | [a, b, c, d, e, g], _ =>
    have hxl' : xs.length = 4 := hxl
    have h0 : DataW.trod hc Try.prog W 0 (fun _ => true) true m 3 (List.take (Try.prog.cellsOf 3) (List.drop 0 [a, b, c, d, e, g])) = xs[0]? := hf 0 _ rfl
    have h1 : DataW.trod hc Try.prog W 0 (fun _ => true) true m 32 (List.take (Try.prog.cellsOf 32) (List.drop 1 [a, b, c, d, e, g])) = xs[1]? := hf 1 _ rfl
    have h2 : DataW.trod hc Try.prog W 0 (fun _ => true) true m 22 (List.take (Try.prog.cellsOf 22) (List.drop 4 [a, b, c, d, e, g])) = xs[2]? := hf 2 _ rfl
    have h3 : DataW.trod hc Try.prog W 0 (fun _ => true) true m 3 (List.take (Try.prog.cellsOf 3) (List.drop 5 [a, b, c, d, e, g])) = xs[3]? := hf 3 _ rfl
    rw [List.getElem?_eq_getElem (by omega)] at h0 h1 h2 h3
    simp only [cells_i64, cells_field, cells_u32, List.drop_succ_cons, List.drop_zero, List.take_succ_cons, List.take_zero] at h0 h1 h2 h3
    obtain ⟨n0, e0, _, _⟩ := DataW.trod_int Try.underlying3 h0
    obtain ⟨f, e1⟩ := field_cells3 h1
    obtain ⟨n2, e2, _, w2⟩ := DataW.trod_int Try.underlying22 h2
    obtain ⟨n3, e3, _, w3⟩ := DataW.trod_int Try.underlying3 h3
    refine ⟨⟨n0, f, n2, n3, wf_u32 w2, (wf_i64 w3).2⟩, ?_⟩
    unfold fdc at e1
    simp only [List.cons.injEq, and_true] at e0 e1 e2 e3
    obtain ⟨e10, e11, e12⟩ := e1
    subst e0 e10 e11 e12 e2 e3
    rfl
theorem open_ops {W : World} {base : Nat} {v : Value} {d : DataW H} {p : List MemPlace} (hv : Value.okWide Try.prog W .any base 23 v) (h : DataW.Trod hc Try.prog W 0 (fun _ => true) true 23 v d p) :
    ∃ (A : Option Addr) (c : Nat) (L : List Opv), v = .slice A L.length c ∧ L.length ≤ c ∧ c ≤ maxLen ∧ RdS W (· < W.heap.size) A (enl opc L) :=
  open_rows opc_len (by omega) Try.underlying23 cells_op (fun _ _ _ h => oper_cells h) hv h
/-- The same, with what the reach says: an operation takes 64 bytes. -/
theorem open_ops' {W : World} {base : Nat} {v : Value} {d : DataW H} {p : List MemPlace} (hv : Value.okWide Try.prog W .any base 23 v) (h : DataW.Trod hc Try.prog W 0 (fun _ => true) true 23 v d p)
    {ts : List TypeId} {ds : List (DataW H)} {j : Nat} (hs : (DataW.weightsEach Try.prog ts ds).all (· ≤ reachBytes) = true) (hj : ts[j]? = some 23) (hd : ds[j]? = some d) :
    ∃ (A : Option Addr) (c : Nat) (L : List Opv), v = .slice A L.length c ∧ L.length ≤ 2199023255552 ∧ RdS W (· < W.heap.size) A (enl opc L) := by
  obtain ⟨A, c, L, h1, _, _, h4, h5⟩ := open_rows' opc_len (by omega) Try.underlying23 cells_op (fun _ _ _ h => oper_cells h) hv h
  refine ⟨A, c, L, h1, ?_, h4⟩
  rcases h5 with h0 | ⟨E, S, rfl, hE⟩
  · omega
  · have hb : Try.prog.bytesOf 34 = 64 := by kernel_rfl
    have := sized_slice hs hj hd Try.underlying23
    rw [hb] at this
    simp only [reachBytes] at this
    omega
end
end Go.Proofs.Yteoneedehfijhaa
