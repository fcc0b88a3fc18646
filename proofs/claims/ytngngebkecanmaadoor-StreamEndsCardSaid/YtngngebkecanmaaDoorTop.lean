/-
  A row of frames, as it comes in. No conditions.
-/
import Derived.Test.YtngngebkecanmaaDoorOpenS
import Derived.Test.YtngngebkecanmaaDoorPost
import Derived.Lib.SmallJoins
namespace Go.Proofs.YtngngebkecanmaaDoor
open Go.ChangeShapes Go.WideShapes Go.RowKit Go.Deep Go.Joins

/-- A frame that came, or is sent. -/
structure Op11 where
  st : Bool
  kd : Int
  en : Bool
  hk : 0 ≤ kd ∧ kd ≤ 255
def oc11 (o : Op11) : List Value := [.bool o.st, .int .u8 o.kd, .bool o.en]
theorem oc11_len (o : Op11) : (oc11 o).length = 3 := rfl
/-- Operation number i, as it lies in memory. -/
theorem RdS.op11 {w : World} {S : Nat → Prop} {A : Option Addr} {O : List Op11} (h : RdS w S A (enl oc11 O)) {i : Nat} (hi : i < O.length) : ∃ b q, A = some ⟨b, q, none⟩ ∧ S b ∧
    w.cell? ⟨b, q + i * 3, none⟩ = some (.bool O[i].st) ∧ w.cell? ⟨b, q + i * 3 + 1, none⟩ = some (.int .u8 O[i].kd) ∧ w.cell? ⟨b, q + i * 3 + 2, none⟩ = some (.bool O[i].en) := by
  have hne : enl oc11 O ≠ [] := by
    intro e
    have := enl_length oc11_len O
    rw [e] at this
    simp at this
    omega
  obtain ⟨b, q, hA, hb, hc⟩ := h hne
  have h0 := hc (i * 3 + 0) _ (by rw [enl_at oc11_len hi (by omega)]; rfl)
  have h1 := hc (i * 3 + 1) _ (by rw [enl_at oc11_len hi (by omega)]; rfl)
  have h2 := hc (i * 3 + 2) _ (by rw [enl_at oc11_len hi (by omega)]; rfl)
  exact ⟨b, q, hA, hb, by simpa using h0, by rw [Nat.add_assoc]; exact h1, by rw [Nat.add_assoc]; exact h2⟩
theorem nat_of {x : Int} {b : Int} (h : 0 ≤ x ∧ x < b) : ∃ n : Nat, x = (n : Int) ∧ (n : Int) < b := ⟨x.toNat, by omega, by omega⟩
section
variable {H : Type} {hc : TypeId × Value → H}
theorem cells_u8o : Tryd.prog.cellsOf 5 = 1 := by kernel_rfl
theorem cells_bo : Tryd.prog.cellsOf 4 = 1 := by kernel_rfl
theorem cells_op11 : Tryd.prog.cellsOf 28 = 3 := by kernel_rfl
set_option maxRecDepth 100000 in
theorem op11_cells {W : World} {n : Nat} {cs : List Value} {x : DataW H × List MemPlace} (h : DataW.trod hc Tryd.prog W 0 (fun _ => true) true n 28 cs = some x) : ∃ o : Op11, cs = oc11 o := by
  obtain ⟨xs, m, _, _, hl, hxl, hf⟩ := DataW.trod_struct Tryd.underlying28 h
  rw [cells_op11] at hl
  match cs, hl with
  | [a, b, c], _ =>
    have hxl' : xs.length = 3 := hxl
    have h0 : DataW.trod hc Tryd.prog W 0 (fun _ => true) true m 4 (List.take (Tryd.prog.cellsOf 4) (List.drop 0 [a, b, c])) = xs[0]? := hf 0 _ rfl
    have h1 : DataW.trod hc Tryd.prog W 0 (fun _ => true) true m 5 (List.take (Tryd.prog.cellsOf 5) (List.drop 1 [a, b, c])) = xs[1]? := hf 1 _ rfl
    have h2 : DataW.trod hc Tryd.prog W 0 (fun _ => true) true m 4 (List.take (Tryd.prog.cellsOf 4) (List.drop 2 [a, b, c])) = xs[2]? := hf 2 _ rfl
    rw [List.getElem?_eq_getElem (by omega)] at h0 h1 h2
    simp only [cells_u8o, cells_bo, List.drop_succ_cons, List.drop_zero, List.take_succ_cons, List.take_zero] at h0 h1 h2
    obtain ⟨n0, e0, _⟩ := DataW.trod_bool Tryd.underlying4 h0
    obtain ⟨n1, e1, _, w1⟩ := DataW.trod_int Tryd.underlying5 h1
    obtain ⟨n2, e2, _⟩ := DataW.trod_bool Tryd.underlying4 h2
    have b1 := wf_u8 w1
    simp only [List.cons.injEq, and_true] at e0 e1 e2
    subst e0 e1 e2
    exact ⟨⟨n0, n1, n2, by omega⟩, rfl⟩
set_option maxRecDepth 100000 in
theorem open_ops11 {W : World} {base : Nat} {v : Value} {d : DataW H} {p : List MemPlace} (hv : Value.okWide Tryd.prog W .any base 26 v) (h : DataW.Trod hc Tryd.prog W 0 (fun _ => true) true 26 v d p) :
    ∃ (A : Option Addr) (c : Nat) (L : List Op11), v = .slice A L.length c ∧ L.length ≤ c ∧ c ≤ maxLen ∧ RdS W (· < W.heap.size) A (enl oc11 L) :=
  open_rows oc11_len (by omega) Tryd.underlying26 cells_op11 (fun _ _ _ h => op11_cells h) hv h
end
end Go.Proofs.YtngngebkecanmaaDoor
