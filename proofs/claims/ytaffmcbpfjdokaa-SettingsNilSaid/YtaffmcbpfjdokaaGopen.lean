/-
  Settings, a list of settings, a row of operations, as they come in. No conditions.
-/
import Derived.Test.YtaffmcbpfjdokaaOpenN
import Derived.Test.YtaffmcbpfjdokaaGst
import Derived.Lib.SmallJoins
namespace Go.Proofs.Ytaffmcbpfjdokaa
open Go.ChangeShapes Go.WideShapes Go.RowKit Go.Deep Go.Joins

/-- An operation: its kind and its list. -/
structure Op9 (W : World) where
  kd : Int
  hd : Hd W (Nat × Nat) sgc
def oc9 {W : World} (o : Op9 W) : List Value := [.int .i64 o.kd, .slice o.hd.at_ o.hd.els.length o.hd.room]
theorem oc9_len {W : World} (o : Op9 W) : (oc9 o).length = 2 := rfl
/-- Operation number i, as it lies in memory. -/
theorem RdS.op9 {W w : World} {S : Nat → Prop} {A : Option Addr} {O : List (Op9 W)} (h : RdS w S A (enl oc9 O)) {i : Nat} (hi : i < O.length) : ∃ b q, A = some ⟨b, q, none⟩ ∧ S b ∧
    w.cell? ⟨b, q + i * 2, none⟩ = some (.int .i64 O[i].kd) ∧ w.cell? ⟨b, q + i * 2 + 1, none⟩ = some (.slice O[i].hd.at_ O[i].hd.els.length O[i].hd.room) := by
  have hne : enl oc9 O ≠ [] := by
    intro e
    have := enl_length oc9_len O
    rw [e] at this
    simp at this
    omega
  obtain ⟨b, q, hA, hb, hc⟩ := h hne
  have h0 := hc (i * 2 + 0) _ (by rw [enl_at oc9_len hi (by omega)]; rfl)
  have h1 := hc (i * 2 + 1) _ (by rw [enl_at oc9_len hi (by omega)]; rfl)
  exact ⟨b, q, hA, hb, by simpa using h0, by rw [Nat.add_assoc]; exact h1⟩

section
variable {H : Type} {hc : TypeId × Value → H}
theorem cells_settings : Try.prog.cellsOf 24 = 7 := by kernel_rfl
theorem cells_set : Try.prog.cellsOf 39 = 2 := by kernel_rfl
theorem cells_u16 : Try.prog.cellsOf 37 = 1 := by kernel_rfl
theorem cells_u32 : Try.prog.cellsOf 22 = 1 := by kernel_rfl
theorem cells_i64 : Try.prog.cellsOf 3 = 1 := by kernel_rfl
theorem cells_bool : Try.prog.cellsOf 4 = 1 := by kernel_rfl
theorem cells_sets : Try.prog.cellsOf 25 = 1 := by kernel_rfl
theorem cells_op9 : Try.prog.cellsOf 46 = 2 := by kernel_rfl
theorem nat_of {x : Int} {b : Int} (h : 0 ≤ x ∧ x < b) : ∃ n : Nat, x = (n : Int) := ⟨x.toNat, by omega⟩
set_option maxRecDepth 100000 in
theorem set_cells {W : World} {n : Nat} {cs : List Value} {x : DataW H × List MemPlace} (h : DataW.trod hc Try.prog W 0 (fun _ => true) true n 39 cs = some x) : ∃ s : Nat × Nat, cs = sgc s := by
  obtain ⟨xs, m, _, _, hl, hxl, hf⟩ := DataW.trod_struct Try.underlying39 h
  rw [cells_set] at hl
  match cs, hl with
  | [a, b], _ =>
    have hxl' : xs.length = 2 := hxl
    have h0 : DataW.trod hc Try.prog W 0 (fun _ => true) true m 37 (List.take (Try.prog.cellsOf 37) (List.drop 0 [a, b])) = xs[0]? := hf 0 _ rfl
    have h1 : DataW.trod hc Try.prog W 0 (fun _ => true) true m 22 (List.take (Try.prog.cellsOf 22) (List.drop 1 [a, b])) = xs[1]? := hf 1 _ rfl
    rw [List.getElem?_eq_getElem (by omega)] at h0 h1
    simp only [cells_u16, cells_u32, List.drop_succ_cons, List.drop_zero, List.take_succ_cons, List.take_zero] at h0 h1
    obtain ⟨n0, e0, _, w0⟩ := DataW.trod_int Try.underlying37 h0
    obtain ⟨n1, e1, _, w1⟩ := DataW.trod_int Try.underlying22 h1
    obtain ⟨k0, rfl⟩ := nat_of (wf_u16 w0)
    obtain ⟨k1, rfl⟩ := nat_of (wf_u32 w1)
    simp only [List.cons.injEq, and_true] at e0 e1
    subst e0 e1
    exact ⟨(k0, k1), rfl⟩
set_option maxRecDepth 100000 in
theorem st_cellsT {W : World} {n : Nat} {cs : List Value} {x : DataW H × List MemPlace} (h : DataW.trod hc Try.prog W 0 (fun _ => true) true n 24 cs = some x) : ∃ s : St, cs = s.l := by
  obtain ⟨xs, m, _, _, hl, hxl, hf⟩ := DataW.trod_struct Try.underlying24 h
  rw [cells_settings] at hl
  match cs, hl with
  | [a, b, c, d, e, f, g], _ =>
    have hxl' : xs.length = 7 := hxl
    have h0 : DataW.trod hc Try.prog W 0 (fun _ => true) true m 22 (List.take (Try.prog.cellsOf 22) (List.drop 0 [a, b, c, d, e, f, g])) = xs[0]? := hf 0 _ rfl
    have h1 : DataW.trod hc Try.prog W 0 (fun _ => true) true m 4 (List.take (Try.prog.cellsOf 4) (List.drop 1 [a, b, c, d, e, f, g])) = xs[1]? := hf 1 _ rfl
    have h2 : DataW.trod hc Try.prog W 0 (fun _ => true) true m 22 (List.take (Try.prog.cellsOf 22) (List.drop 2 [a, b, c, d, e, f, g])) = xs[2]? := hf 2 _ rfl
    have h3 : DataW.trod hc Try.prog W 0 (fun _ => true) true m 22 (List.take (Try.prog.cellsOf 22) (List.drop 3 [a, b, c, d, e, f, g])) = xs[3]? := hf 3 _ rfl
    have h4 : DataW.trod hc Try.prog W 0 (fun _ => true) true m 22 (List.take (Try.prog.cellsOf 22) (List.drop 4 [a, b, c, d, e, f, g])) = xs[4]? := hf 4 _ rfl
    have h5 : DataW.trod hc Try.prog W 0 (fun _ => true) true m 22 (List.take (Try.prog.cellsOf 22) (List.drop 5 [a, b, c, d, e, f, g])) = xs[5]? := hf 5 _ rfl
    have h6 : DataW.trod hc Try.prog W 0 (fun _ => true) true m 4 (List.take (Try.prog.cellsOf 4) (List.drop 6 [a, b, c, d, e, f, g])) = xs[6]? := hf 6 _ rfl
    rw [List.getElem?_eq_getElem (by omega)] at h0 h1 h2 h3 h4 h5 h6
    simp only [cells_u32, cells_bool, List.drop_succ_cons, List.drop_zero, List.take_succ_cons, List.take_zero] at h0 h1 h2 h3 h4 h5 h6
    obtain ⟨n0, e0, _, w0⟩ := DataW.trod_int Try.underlying22 h0
    obtain ⟨n1, e1, _⟩ := DataW.trod_bool Try.underlying4 h1
    obtain ⟨n2, e2, _, w2⟩ := DataW.trod_int Try.underlying22 h2
    obtain ⟨n3, e3, _, w3⟩ := DataW.trod_int Try.underlying22 h3
    obtain ⟨n4, e4, _, w4⟩ := DataW.trod_int Try.underlying22 h4
    obtain ⟨n5, e5, _, w5⟩ := DataW.trod_int Try.underlying22 h5
    obtain ⟨n6, e6, _⟩ := DataW.trod_bool Try.underlying4 h6
    obtain ⟨k0, rfl⟩ := nat_of (wf_u32 w0)
    obtain ⟨k2, rfl⟩ := nat_of (wf_u32 w2)
    obtain ⟨k3, rfl⟩ := nat_of (wf_u32 w3)
    obtain ⟨k4, rfl⟩ := nat_of (wf_u32 w4)
    obtain ⟨k5, rfl⟩ := nat_of (wf_u32 w5)
    simp only [List.cons.injEq, and_true] at e0 e1 e2 e3 e4 e5 e6
    subst e0 e1 e2 e3 e4 e5 e6
    exact ⟨⟨k0, n1, k2, k3, k4, k5, n6⟩, rfl⟩
set_option maxRecDepth 100000 in
theorem open_sets {W : World} {base : Nat} {v : Value} {d : DataW H} {p : List MemPlace} (hv : Value.okWide Try.prog W .any base 25 v) (h : DataW.Trod hc Try.prog W 0 (fun _ => true) true 25 v d p) :
    ∃ (A : Option Addr) (c : Nat) (L : List (Nat × Nat)), v = .slice A L.length c ∧ L.length ≤ c ∧ c ≤ maxLen ∧ RdS W (· < W.heap.size) A (enl sgc L) :=
  open_rows sgc_len (by omega) Try.underlying25 cells_set (fun _ _ _ h => set_cells h) hv h
set_option maxRecDepth 100000 in
theorem open_settings {W : World} {base : Nat} {v : Value} {d : DataW H} {p : List MemPlace} (hv : Value.okWide Try.prog W .any base 24 v) (h : DataW.Trod hc Try.prog W 0 (fun _ => true) true 24 v d p) : ∃ s : St, v = .agg s.c := by
  obtain ⟨cs, rfl, _⟩ := okWide_struct Try.underlying24 hv
  obtain ⟨fuel, hf⟩ := h
  obtain ⟨s, hcs⟩ := st_cellsT hf
  refine ⟨s, ?_⟩
  have : cs.toList = s.l := hcs
  congr 1
  apply Array.toList_inj.1
  rw [this]
  rfl
set_option maxRecDepth 100000 in
theorem op9_cells {W : World} {n : Nat} {cs : List Value} {x : DataW H × List MemPlace} (h : DataW.trod hc Try.prog W 0 (fun _ => true) true n 46 cs = some x) : ∃ o : Op9 W, cs = oc9 o := by
  obtain ⟨xs, m, _, _, hl, hxl, hf⟩ := DataW.trod_struct Try.underlying46 h
  rw [cells_op9] at hl
  match cs, hl with
  | [a, b], _ =>
    have hxl' : xs.length = 2 := hxl
    have h0 : DataW.trod hc Try.prog W 0 (fun _ => true) true m 3 (List.take (Try.prog.cellsOf 3) (List.drop 0 [a, b])) = xs[0]? := hf 0 _ rfl
    have h1 : DataW.trod hc Try.prog W 0 (fun _ => true) true m 25 (List.take (Try.prog.cellsOf 25) (List.drop 1 [a, b])) = xs[1]? := hf 1 _ rfl
    rw [List.getElem?_eq_getElem (by omega)] at h0 h1
    simp only [cells_i64, cells_sets, List.drop_succ_cons, List.drop_zero, List.take_succ_cons, List.take_zero] at h0 h1
    obtain ⟨n0, e0, _, _⟩ := DataW.trod_int Try.underlying3 h0
    obtain ⟨A, c, L, e1, h2, h3, h4⟩ := rows_of_trod sgc_len (by omega) Try.underlying25 cells_set (fun _ _ _ h => set_cells h) h1
    simp only [List.cons.injEq, and_true] at e0 e1
    subst e0 e1
    exact ⟨⟨n0, ⟨A, c, L, h2, h3, h4⟩⟩, rfl⟩
set_option maxRecDepth 100000 in
theorem open_ops9 {W : World} {base : Nat} {v : Value} {d : DataW H} {p : List MemPlace} (hv : Value.okWide Try.prog W .any base 41 v) (h : DataW.Trod hc Try.prog W 0 (fun _ => true) true 41 v d p) :
    ∃ (A : Option Addr) (c : Nat) (L : List (Op9 W)), v = .slice A L.length c ∧ L.length ≤ c ∧ c ≤ maxLen ∧ RdS W (· < W.heap.size) A (enl oc9 L) :=
  open_rows oc9_len (by omega) Try.underlying41 cells_op9 (fun _ _ _ h => op9_cells h) hv h
end
end Go.Proofs.Ytaffmcbpfjdokaa
