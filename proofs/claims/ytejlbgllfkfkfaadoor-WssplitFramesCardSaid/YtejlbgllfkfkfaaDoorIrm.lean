/-
  The document's known and May; the law's told, by their contracts. No conditions but those that each theorem names.
-/
import Derived.Test.YtejlbgllfkfkfaaDoorIma
import Derived.Test.YtejlbgllfkfkfaaDoorIhd
namespace Go.Proofs.YtejlbgllfkfkfaaDoor
open Go.RowKit Go.WideShapes

theorem rknownI_any (op : Nat) (w : World) : Calls Tryd.prog 22 #[.int .u8 op] w fun e w' => e = .returned (.bool (decide (okOp op))) ∧ w = w' := by
  have h1 : decide ((op : Int) < 3) = decide (op < 3) := by rw [decide_eq_decide]; omega
  have h2 : decide ((7 : Int) < (op : Int)) = decide (7 < op) := by rw [decide_eq_decide]; omega
  have h3 : decide ((op : Int) < 11) = decide (op < 11) := by rw [decide_eq_decide]; omega
  have e : decide (okOp op) = (decide (op < 3) || (decide (7 < op) && decide (op < 11))) := by
    rw [Bool.eq_iff_iff, decide_eq_true_iff]; unfold okOp; simp
  rw [e]
  by_cases c1 : op < 3
  · have d1 : (op : Int) < 3 := by omega
    have r : (decide (op < 3) || (decide (7 < op) && decide (op < 11))) = true := by simp [c1]
    rw [r]
    clear h1 h2 h3 e r c1
    go_enter Tryd.func22, Tryd.ntmps22
    go_wp2_with fail
    go_ret
    exact ⟨rfl, rfl⟩
  have d1 : ¬ (op : Int) < 3 := by omega
  by_cases c2 : 7 < op
  · have d2 : (7 : Int) < (op : Int) := by omega
    have r : (decide (op < 3) || (decide (7 < op) && decide (op < 11))) = decide (op < 11) := by simp [c1, c2]
    rw [r, ← h3]
    clear h1 h2 e r c1 c2 h3
    go_enter Tryd.func22, Tryd.ntmps22
    go_wp2_with fail
    go_ret
    exact ⟨rfl, rfl⟩
  · have d2 : ¬ (7 : Int) < (op : Int) := by omega
    have r : (decide (op < 3) || (decide (7 < op) && decide (op < 11))) = false := by simp [c1, c2]
    rw [r]
    clear h1 h2 h3 e r c1 c2
    go_enter Tryd.func22, Tryd.ntmps22
    go_wp2_with fail
    go_ret
    exact ⟨rfl, rfl⟩

set_option maxRecDepth 100000 in
set_option maxHeartbeats 1000000 in
theorem rmayI_w (fin : Bool) (op : Nat) (mask : Bool) (key : Nat) (A : Option Addr) (n c : Nat) (ok lo : Bool) (hok : ∀ w, Calls Tryd.prog 22 #[.int .u8 op] w fun e w' => e = .returned (.bool ok) ∧ w = w')
    (hlo : decide ((op : Int) < 8) = lo) (w : World) :
    Calls Tryd.prog 15 #[.agg (pcC fin op mask key A n c)] w fun e w' => e = .returned (.bool (ok && (mask || decide (key = 0)) && decide (n ≤ 4096) && (lo || (fin && decide (n ≤ 125))))) ∧ Below w.heap.size w w' := by
  have HB : Hid (Below w.heap.size w (w.alloc (.cells (pcC fin op mask key A n c) 31))) := (Below.refl _ _).alloc (Nat.le_refl _) _
  obtain ⟨c0, c1, c2, c3, c4⟩ := pc_cells (Row.new w 31 (pcC fin op mask key A n c))
  have hk2 : (((key : Nat) : Int) != 0) = !decide (key = 0) := by rw [Bool.eq_iff_iff]; simp
  have hn' : decide ((4096 : Int) < (n : Int)) = !decide (n ≤ 4096) := by rw [Bool.eq_iff_iff]; simp; omega
  have hm' : decide ((n : Int) ≤ 125) = decide (n ≤ 125) := by rw [decide_eq_decide]; omega
  generalize decide (n ≤ 4096) = nk at *
  generalize decide (n ≤ 125) = nm at *
  generalize decide (key = 0) = kk at *
  cases ok
  case false =>
    cases nk
    all_goals
      simp only [Bool.false_and]
      go_enter Tryd.func15, Tryd.ntmps15
      go_wp2_with (go_at_call 22; refine (hok _).mono ?_; rintro e w' ⟨rfl, rfl⟩)
      go_ret
      exact ⟨rfl, HB.out⟩
  case true =>
    cases mask
    all_goals cases kk
    all_goals cases nk
    all_goals cases lo
    all_goals cases fin
    all_goals
      go_enter Tryd.func15, Tryd.ntmps15
      go_wp2_with (go_at_call 22; refine (hok _).mono ?_; rintro e w' ⟨rfl, rfl⟩)
      go_ret
      exact ⟨rfl, HB.out⟩
theorem rmayI_eq (fin : Bool) (op : Nat) (mask : Bool) (key n : Nat) : (decide (okOp op) && (mask || decide (key = 0)) && decide (n ≤ 4096) && (decide (op < 8) || (fin && decide (n ≤ 125)))) = decide (MayI fin op mask key n) := by
  rw [Bool.eq_iff_iff]
  unfold MayI
  cases fin <;> cases mask <;> simp <;> (try unfold okOp) <;> omega
theorem rmayI_any (fin : Bool) (op : Nat) (mask : Bool) (key : Nat) (A : Option Addr) (n c : Nat) (w : World) :
    Calls Tryd.prog 15 #[.agg (pcC fin op mask key A n c)] w fun e w' => e = .returned (.bool (decide (MayI fin op mask key n))) ∧ Below w.heap.size w w' := by
  have h := rmayI_w fin op mask key A n c _ (decide (op < 8)) (rknownI_any op) (by rw [decide_eq_decide]; omega) w
  rw [rmayI_eq] at h
  exact h
end Go.Proofs.YtejlbgllfkfkfaaDoor
