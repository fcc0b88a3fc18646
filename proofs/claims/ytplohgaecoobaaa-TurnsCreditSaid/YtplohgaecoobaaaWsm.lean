/-
  A window's functions, the program's and the document's, by their contracts. Conditions: the bounds of a window.
-/
import Derived.Test.YtplohgaecoobaaaWst
import Derived.Lib.MinMax
import Derived.Deep.CutBlock
import Derived.Deep.DeepCutAuto
namespace Go.Proofs.Ytplohgaecoobaaa
open Go.RowKit Go.WideShapes

set_option maxRecDepth 100000 in
theorem btw_any (n : Int) (w : World) : Calls Try.prog 39 #[.int .i64 n] w fun e w' => e = .returned (.int .i64 (btw n)) ∧ w' = w := by
  unfold btw
  by_cases h1 : 2147483647 < n
  · rw [if_pos h1]
    go_enter Try.func39, Try.ntmps39
    go_wp2
    go_ret
    exact ⟨rfl, rfl⟩
  rw [if_neg h1]
  have d1 : decide (2147483647 < n) = false := by simp; omega
  clear h1
  by_cases h2 : n < -2147483648
  · rw [if_pos h2]
    go_enter Try.func39, Try.ntmps39
    go_wp2
    go_ret
    exact ⟨rfl, rfl⟩
  rw [if_neg h2]
  have d2 : decide (n < -2147483648) = false := by simp; omega
  clear h2
  go_enter Try.func39, Try.ntmps39
  go_wp2
  go_ret
  exact ⟨rfl, rfl⟩
set_option maxRecDepth 100000 in
set_option maxHeartbeats 1000000 in
theorem wint_any (w : World) : Calls Try.prog 53 #[] w fun e w' => e = .returned (.agg (ftc 1 2)) ∧ Below w.heap.size w w' := by
  have HR : Hid (Row (w.alloc (.cells #[.int .u8 0, .int .u32 0] 56)) w.heap.size 56 (ftc 0 0)) := Row.new w _ _
  go_enter Try.func53, Try.ntmps53
  go_wp2_with (first | (refine wpList_build_is rfl 56 _ rfl (ftc 1 2) (by kernel_rfl) ?_) | (refine wpList_sw (cs := ftc 1 2) rfl _ _ rfl rfl rfl HR.out rfl (ft_ok _ _) ?_))
  exact bodyPost_ret (ret_ag rfl _ rfl (HR.out.setRow _) (ft_ok _ _)) rfl ⟨rfl, below_setRow ((Below.refl _ _).alloc (Nat.le_refl _) _) _ _ (Nat.le_refl _)⟩
set_option maxRecDepth 100000 in
theorem left_nil (w : World) : Calls Try.prog 37 #[.pointer none] w fun e w' => e = .returned (.int .i64 0) ∧ w' = w := by
  go_enter Try.func37, Try.ntmps37
  go_wp2
  go_ret
  exact ⟨rfl, rfl⟩
set_option maxRecDepth 100000 in
theorem left_any {w : World} {g : Nat} {l : Int} {s : Nat} (h : Row w g 93 (wnc l s)) : Calls Try.prog 37 #[.pointer (some ⟨g, 0, none⟩)] w fun e w' => e = .returned (.int .i64 l) ∧ w' = w := by
  obtain ⟨c0, c1⟩ := wn_cells h
  clear h
  go_enter Try.func37, Try.ntmps37
  go_wp2
  go_ret
  exact ⟨rfl, rfl⟩
theorem btw_mm (l : Int) : min (max l (-2147483648)) 2147483647 = btw l := by unfold btw; omega
theorem one_win (w : World) (l : Int) : ∃ w', w.alloc (.cells #[.int .i64 l, .int .u8 1] 93) = w' ∧ Row w' w.heap.size 93 (wnc l 1) ∧ Below w.heap.size w w' :=
  ⟨_, rfl, Row.new w _ _, (Below.refl _ _).alloc (Nat.le_refl _) _⟩
attribute [local irreducible] wnc rwc mtc rmc ftc btw
set_option maxRecDepth 100000 in
set_option maxHeartbeats 1000000 in
theorem wnew_any (l : Int) (b : Bool) (w : World) : Calls Try.prog 27 #[.int .i64 l, .bool b] w fun e w' => ∃ g, e = .returned (.pointer (some ⟨g, 0, none⟩)) ∧ Row w' g 93 (wnc (btw l) (sco b)) ∧ Below w.heap.size w w' ∧ w.heap.size ≤ g := by
  have hm := btw_mm l
  obtain ⟨w1, hw1, t2, t3⟩ := one_win w (btw l)
  have T2 := Lib.hid t2
  have T3 := Lib.hid t3
  have T7 := Lib.hid hw1
  have HS := Lib.hid (wn_sets (s' := 2) t2)
  have hth := t2.thawed 1
  have hc1 := (wn_cells t2).2
  clear t2 t3 hw1
  cases b
  all_goals
    go_enter Try.func27, Try.ntmps27
    go_upto_region 2 with fail
    rw [T7.out]
    go_wp2_with fail
    go_ret
  · exact ⟨w.heap.size, rfl, T2.out, T3.out, Nat.le_refl _⟩
  · exact ⟨w.heap.size, rfl, HS.out, T3.out.setCell (Nat.le_refl _) _, Nat.le_refl _⟩
/-- The document's New. -/
theorem ret_rw {l : Int} {b : Bool} (w : World) : Row (w.alloc (.cells #[.int .i64 l, .bool b] 29)) w.heap.size 29 (rwc l b) := by unfold rwc; exact Row.new w _ _
set_option maxRecDepth 100000 in
set_option maxHeartbeats 1000000 in
theorem rnew_any (l : Int) (b : Bool) (w : World) : Calls Try.prog 19 #[.int .i64 l, .bool b] w fun e w' => e = .returned (.agg (rwc (btw l) b)) ∧ Below w.heap.size w w' := by
  have HR : Hid (Row (w.alloc (.cells #[.int .i64 0, .bool false] 29)) w.heap.size 29 (rwc 0 false)) := ret_rw w
  have hz : rwc (btw l) b = #[.int .i64 (btw l), .bool b] := by unfold rwc; rfl
  have HZ := Lib.hid hz
  clear hz
  go_enter Try.func19, Try.ntmps19
  go_wp2_with fail
  refine (btw_any l _).mono ?_
  rintro e w1 ⟨rfl, rfl⟩
  go_wp2_with (refine wpList_sw (cs := rwc (btw l) b) rfl _ _ rfl rfl (by rw [HZ.out]; rfl) HR.out (rw_sz _ _ _ _) (rw_ok _ _) ?_)
  exact bodyPost_ret (ret_ag rfl _ rfl (HR.out.setRow _) (rw_ok _ _)) rfl ⟨rfl, below_setRow ((Below.refl _ _).alloc (Nat.le_refl _) _) _ _ (Nat.le_refl _)⟩
end Go.Proofs.Ytplohgaecoobaaa
