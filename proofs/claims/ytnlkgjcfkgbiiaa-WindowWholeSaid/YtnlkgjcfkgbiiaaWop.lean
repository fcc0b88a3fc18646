/-
  A row of operations, a row of numbers, as they come in. No conditions.
-/
import Derived.Test.YtnlkgjcfkgbiiaaOpenS
import Derived.Test.YtnlkgjcfkgbiiaaWst
import Derived.Lib.SmallJoins
namespace Go.Proofs.Ytnlkgjcfkgbiiaa
open Go.ChangeShapes Go.WideShapes Go.RowKit Go.Deep Go.Joins

/-- An operation: its kind, its number, its growths. -/
structure Op10 where
  kd : Int
  n : Int
  x : Int
  y : Int
  hx : 0 ≤ x ∧ x ≤ 4294967295
  hy : 0 ≤ y ∧ y ≤ 4294967295
def oc10 (o : Op10) : List Value := [.int .i64 o.kd, .int .i64 o.n, .int .u32 o.x, .int .u32 o.y]
theorem oc10_len (o : Op10) : (oc10 o).length = 4 := rfl
/-- A number of two bytes. -/
structure N16 where
  v : Int
  hv : 0 ≤ v ∧ v ≤ 65535
def nc16 (o : N16) : List Value := [.int .u16 o.v]
theorem nc16_len (o : N16) : (nc16 o).length = 1 := rfl
/-- Operation number i, as it lies in memory. -/
theorem RdS.op10 {w : World} {S : Nat → Prop} {A : Option Addr} {O : List Op10} (h : RdS w S A (enl oc10 O)) {i : Nat} (hi : i < O.length) : ∃ b q, A = some ⟨b, q, none⟩ ∧ S b ∧
    w.cell? ⟨b, q + i * 4, none⟩ = some (.int .i64 O[i].kd) ∧ w.cell? ⟨b, q + i * 4 + 1, none⟩ = some (.int .i64 O[i].n) ∧ w.cell? ⟨b, q + i * 4 + 2, none⟩ = some (.int .u32 O[i].x) ∧ w.cell? ⟨b, q + i * 4 + 3, none⟩ = some (.int .u32 O[i].y) := by
  have hne : enl oc10 O ≠ [] := by
    intro e
    have := enl_length oc10_len O
    rw [e] at this
    simp at this
    omega
  obtain ⟨b, q, hA, hb, hc⟩ := h hne
  have h0 := hc (i * 4 + 0) _ (by rw [enl_at oc10_len hi (by omega)]; rfl)
  have h1 := hc (i * 4 + 1) _ (by rw [enl_at oc10_len hi (by omega)]; rfl)
  have h2 := hc (i * 4 + 2) _ (by rw [enl_at oc10_len hi (by omega)]; rfl)
  have h3 := hc (i * 4 + 3) _ (by rw [enl_at oc10_len hi (by omega)]; rfl)
  exact ⟨b, q, hA, hb, by simpa using h0, by rw [Nat.add_assoc]; exact h1, by rw [Nat.add_assoc]; exact h2, by rw [Nat.add_assoc]; exact h3⟩
theorem RdS.n16 {w : World} {S : Nat → Prop} {A : Option Addr} {O : List N16} (h : RdS w S A (enl nc16 O)) {i : Nat} (hi : i < O.length) : ∃ b q, A = some ⟨b, q, none⟩ ∧ S b ∧ w.cell? ⟨b, q + i, none⟩ = some (.int .u16 O[i].v) := by
  have hne : enl nc16 O ≠ [] := by
    intro e
    have := enl_length nc16_len O
    rw [e] at this
    simp at this
    omega
  obtain ⟨b, q, hA, hb, hc⟩ := h hne
  have h0 := hc (i * 1 + 0) _ (by rw [enl_at nc16_len hi (by omega)]; rfl)
  exact ⟨b, q, hA, hb, by simpa using h0⟩

section
variable {H : Type} {hc : TypeId × Value → H}
theorem cells_u16 : Try.prog.cellsOf 60 = 1 := by kernel_rfl
theorem cells_u32 : Try.prog.cellsOf 29 = 1 := by kernel_rfl
theorem cells_i64 : Try.prog.cellsOf 3 = 1 := by kernel_rfl
theorem cells_op10 : Try.prog.cellsOf 31 = 4 := by kernel_rfl
set_option maxRecDepth 100000 in
theorem op10_cells {W : World} {n : Nat} {cs : List Value} {x : DataW H × List MemPlace} (h : DataW.trod hc Try.prog W 0 (fun _ => true) true n 31 cs = some x) : ∃ o : Op10, cs = oc10 o := by
  obtain ⟨xs, m, _, _, hl, hxl, hf⟩ := DataW.trod_struct Try.underlying31 h
  rw [cells_op10] at hl
  match cs, hl with
  | [a, b, c, d], _ =>
    have hxl' : xs.length = 4 := hxl
    have h0 : DataW.trod hc Try.prog W 0 (fun _ => true) true m 3 (List.take (Try.prog.cellsOf 3) (List.drop 0 [a, b, c, d])) = xs[0]? := hf 0 _ rfl
    have h1 : DataW.trod hc Try.prog W 0 (fun _ => true) true m 3 (List.take (Try.prog.cellsOf 3) (List.drop 1 [a, b, c, d])) = xs[1]? := hf 1 _ rfl
    have h2 : DataW.trod hc Try.prog W 0 (fun _ => true) true m 29 (List.take (Try.prog.cellsOf 29) (List.drop 2 [a, b, c, d])) = xs[2]? := hf 2 _ rfl
    have h3 : DataW.trod hc Try.prog W 0 (fun _ => true) true m 29 (List.take (Try.prog.cellsOf 29) (List.drop 3 [a, b, c, d])) = xs[3]? := hf 3 _ rfl
    rw [List.getElem?_eq_getElem (by omega)] at h0 h1 h2 h3
    simp only [cells_i64, cells_u32, List.drop_succ_cons, List.drop_zero, List.take_succ_cons, List.take_zero] at h0 h1 h2 h3
    obtain ⟨n0, e0, _, _⟩ := DataW.trod_int Try.underlying3 h0
    obtain ⟨n1, e1, _, _⟩ := DataW.trod_int Try.underlying3 h1
    obtain ⟨n2, e2, _, w2⟩ := DataW.trod_int Try.underlying29 h2
    obtain ⟨n3, e3, _, w3⟩ := DataW.trod_int Try.underlying29 h3
    have b2 := wf_u32 w2
    have b3 := wf_u32 w3
    simp only [List.cons.injEq, and_true] at e0 e1 e2 e3
    subst e0 e1 e2 e3
    exact ⟨⟨n0, n1, n2, n3, by omega, by omega⟩, rfl⟩
set_option maxRecDepth 100000 in
theorem open_ops10 {W : World} {base : Nat} {v : Value} {d : DataW H} {p : List MemPlace} (hv : Value.okWide Try.prog W .any base 22 v) (h : DataW.Trod hc Try.prog W 0 (fun _ => true) true 22 v d p) :
    ∃ (A : Option Addr) (c : Nat) (L : List Op10), v = .slice A L.length c ∧ L.length ≤ c ∧ c ≤ maxLen ∧ RdS W (· < W.heap.size) A (enl oc10 L) :=
  open_rows oc10_len (by omega) Try.underlying22 cells_op10 (fun _ _ _ h => op10_cells h) hv h
set_option maxRecDepth 100000 in
theorem open_u16s {W : World} {base : Nat} {v : Value} {d : DataW H} {p : List MemPlace} (hv : Value.okWide Try.prog W .any base 59 v) (h : DataW.Trod hc Try.prog W 0 (fun _ => true) true 59 v d p) :
    ∃ (A : Option Addr) (c : Nat) (L : List N16), v = .slice A L.length c ∧ L.length ≤ c ∧ c ≤ maxLen ∧ RdS W (· < W.heap.size) A (enl nc16 L) :=
  open_rows nc16_len (by omega) Try.underlying59 cells_u16 (fun _ cs _ h => by
    obtain ⟨n0, e0, _, w0⟩ := DataW.trod_int Try.underlying60 h
    have b0 := wf_u16 w0
    exact ⟨⟨n0, by omega⟩, e0⟩) hv h
end
end Go.Proofs.Ytnlkgjcfkgbiiaa
