/-
  A field, a slice of fields, a slice of operations, as they come in.
-/
import Derived.Test.YtfajffchnnalaaaOpenS
import Derived.Test.YtfajffchnnalaaaDtab
import Derived.Lib.SmallJoins
import Derived.SizedLaws
namespace Go.Proofs.Ytfajffchnnalaaa
open Go.ChangeShapes Go.WideShapes Go.RowKit Go.Deep Go.Joins

section
variable {H : Type} {hc : TypeId × Value → H}
set_option maxRecDepth 100000 in
theorem cells_field : Try.prog.cellsOf 52 = 3 := by kernel_rfl
set_option maxRecDepth 100000 in
theorem cells_str : Try.prog.cellsOf 9 = 1 := by kernel_rfl
set_option maxRecDepth 100000 in
theorem cells_bool : Try.prog.cellsOf 4 = 1 := by kernel_rfl
set_option maxRecDepth 100000 in
theorem cells_i64 : Try.prog.cellsOf 3 = 1 := by kernel_rfl
set_option maxRecDepth 100000 in
theorem cells_u32 : Try.prog.cellsOf 22 = 1 := by kernel_rfl

set_option maxRecDepth 100000 in
theorem len_max {n c : Nat} (h1 : n ≤ c) (h2 : c ≤ maxLen) : n ≤ 9223372036854775807 := by simp only [maxLen] at h2; omega
set_option maxRecDepth 100000 in
theorem field_cells3 {W : World} {n : Nat} {cs : List Value} {x : DataW H × List MemPlace} (h : DataW.trod hc Try.prog W 0 (fun _ => true) true n 52 cs = some x) : ∃ f : Fd, cs = fdc f := by
  obtain ⟨xs, m, _, _, hl, hxl, hf⟩ := DataW.trod_struct Try.underlying52 h
  rw [cells_field] at hl
  match cs, hl with
  | [a, b, c], _ =>
    have hxl' : xs.length = 3 := hxl
    have h0 : DataW.trod hc Try.prog W 0 (fun _ => true) true m 9 (List.take (Try.prog.cellsOf 9) (List.drop 0 [a, b, c])) = xs[0]? := hf 0 _ rfl
    have h1 : DataW.trod hc Try.prog W 0 (fun _ => true) true m 9 (List.take (Try.prog.cellsOf 9) (List.drop 1 [a, b, c])) = xs[1]? := hf 1 _ rfl
    have h2 : DataW.trod hc Try.prog W 0 (fun _ => true) true m 4 (List.take (Try.prog.cellsOf 4) (List.drop 2 [a, b, c])) = xs[2]? := hf 2 _ rfl
    rw [List.getElem?_eq_getElem (by omega)] at h0 h1 h2
    simp only [cells_str, cells_bool, List.drop_succ_cons, List.drop_zero, List.take_succ_cons, List.take_zero] at h0 h1 h2
    obtain ⟨s0, e0, _, _⟩ := DataW.trod_string Try.underlying9 h0
    obtain ⟨s1, e1, _, _⟩ := DataW.trod_string Try.underlying9 h1
    obtain ⟨t, e2, _⟩ := DataW.trod_bool Try.underlying4 h2
    refine ⟨⟨s0.data.toList, s1.data.toList, t⟩, ?_⟩
    simp only [List.cons.injEq, and_true] at e0 e1 e2
    subst e0 e1 e2
    simp [fdc, tx]
set_option maxRecDepth 100000 in
theorem open_fields {W : World} {base : Nat} {v : Value} {d : DataW H} {p : List MemPlace} (hv : Value.okWide Try.prog W .any base 31 v) (h : DataW.Trod hc Try.prog W 0 (fun _ => true) true 31 v d p) :
    ∃ (A : Option Addr) (c : Nat) (L : List Fd), v = .slice A L.length c ∧ L.length ≤ c ∧ c ≤ maxLen ∧ RdS W (· < W.heap.size) A (enl fdc L) :=
  open_rows fdc_len (by omega) Try.underlying31 cells_field (fun _ _ _ h => field_cells3 h) hv h
set_option maxRecDepth 100000 in
theorem open_field {W : World} {base : Nat} {v : Value} {d : DataW H} {p : List MemPlace} (hv : Value.okWide Try.prog W .any base 52 v) (h : DataW.Trod hc Try.prog W 0 (fun _ => true) true 52 v d p) : ∃ f : Fd, v = fv f := by
  obtain ⟨cs, rfl, _⟩ := okWide_struct Try.underlying52 hv
  obtain ⟨fuel, hf⟩ := h
  obtain ⟨f, hcs⟩ := field_cells3 hf
  refine ⟨f, ?_⟩
  have : cs.toList = fdc f := hcs
  unfold fv
  congr 1
  apply Array.toList_inj.1
  rw [this]
  rfl
end
end Go.Proofs.Ytfajffchnnalaaa
