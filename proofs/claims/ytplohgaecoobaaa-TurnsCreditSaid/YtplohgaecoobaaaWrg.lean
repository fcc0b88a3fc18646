/-
  Grow, the document's, by contract. Conditions: the bounds of a window.
-/
import Derived.Test.YtplohgaecoobaaaWtk
namespace Go.Proofs.Ytplohgaecoobaaa
open Go.RowKit Go.WideShapes

theorem rw_box (w : World) (l : Int) (b : Bool) : Row ((w.alloc (.cells (rwc l b) 29)).alloc (.cells #[.int .i64 0, .bool false] 29)) w.heap.size 29 (rwc l b) ∧ Row ((w.alloc (.cells (rwc l b) 29)).alloc (.cells #[.int .i64 0, .bool false] 29)) (w.heap.size + 1) 29 (rwc 0 false) ∧
    Below w.heap.size w ((w.alloc (.cells (rwc l b) 29)).alloc (.cells #[.int .i64 0, .bool false] 29)) := by
  refine ⟨(Row.new w _ _).alloc _, Row.made _ _ _ (by simp), ((Below.refl _ _).alloc (Nat.le_refl _) _).alloc (by simp) _⟩
theorem ne_1 (n : Nat) : Hid (n ≠ n + 1) := by show _ ≠ _; omega
attribute [local irreducible] wnc rwc mtc rmc btw ftc
/-- What the document says of a window that is too great: whose fault it is. -/
def scN (b sh : Bool) : Int := if b && !sh then 2 else 1
set_option maxRecDepth 100000 in
set_option maxHeartbeats 1000000 in
theorem rgrow_no {l : Int} {b : Bool} (hl : -2147483648 ≤ l ∧ l ≤ 2147483647) {n : Int} (hn : -4294967296 ≤ n ∧ n ≤ 4294967296) (sh : Bool) (hg : 2147483647 < l + n) (w : World) : Calls Try.prog 49 #[.agg (rwc l b), .int .i64 n, .bool sh] w fun e w' => e = .returned (.tuple #[.agg (rwc l b), .int .i64 (scN b sh)]) ∧ Below w.heap.size w w' := by
  obtain ⟨t1, t2, t3⟩ := rw_box w l b
  have T1 := Lib.hid t1
  have T2 := Lib.hid t2
  have T3 := Lib.hid t3
  obtain ⟨c0, c1⟩ := rw_cells t1
  have hw : IntKind.i64.wrap (l + n) = l + n := IntWalk.i64_in _ (by omega)
  clear t1 t2 t3 hl hn
  cases b <;> cases sh
  all_goals
    go_enter Try.func49, Try.ntmps49
    go_upto_region 1 with fail
  all_goals
    generalize (w.alloc (.cells (rwc l _) 29)).alloc (.cells #[.int .i64 0, .bool false] 29) = w1 at *
    go_wp2_with (first | (refine wpList_ld rfl _ rfl rfl T1.out (rw_ok _ _) ?_) | (refine wpList_sw (cs := rwc l _) rfl _ _ rfl rfl rfl T2.out (rw_sz _ _ _ _) (rw_ok _ _) ?_))
    exact bodyPost_ret (ret_agv rfl _ rfl (T2.out.setRow _) (rw_ok _ _) rfl) rfl ⟨rfl, below_setRow T3.out _ _ (by omega)⟩
set_option maxRecDepth 100000 in
set_option maxHeartbeats 1000000 in
theorem rgrow_yes {l : Int} {b : Bool} (hl : -2147483648 ≤ l ∧ l ≤ 2147483647) {n : Int} (hn : -4294967296 ≤ n ∧ n ≤ 4294967296) (sh : Bool) (hg : ¬ 2147483647 < l + n) (w : World) : Calls Try.prog 49 #[.agg (rwc l b), .int .i64 n, .bool sh] w fun e w' => e = .returned (.tuple #[.agg (rwc (max (l + n) (-2147483648)) b), .int .i64 0]) ∧ Below w.heap.size w w' := by
  have he : btw (l + n) = max (l + n) (-2147483648) := by unfold btw; omega
  rw [← he]
  obtain ⟨t1, t2, t3⟩ := rw_box w l b
  have hth := t1.thawed 0
  have T1 := Lib.hid (rw_set (l' := btw (l + n)) t1)
  have T2 := Lib.hid (t2.stored' (a := ⟨w.heap.size, 0, none⟩) (by simp) (.int .i64 (btw (l + n))))
  have T3 := Lib.hid (t3.setCell (p := ⟨w.heap.size, 0, none⟩) (Nat.le_refl _) (.int .i64 (btw (l + n))))
  obtain ⟨c0, _⟩ := rw_cells t1
  have hw : IntKind.i64.wrap (l + n) = l + n := IntWalk.i64_in _ (by omega)
  have d0 : decide (2147483647 < l + n) = false := by simp; omega
  clear t1 t2 t3 hl hn hg he
  go_enter Try.func49, Try.ntmps49
  go_upto_region 1 with fail
  generalize (w.alloc (.cells (rwc l b) 29)).alloc (.cells #[.int .i64 0, .bool false] 29) = w1 at *
  go_wp2_with fail
  refine (btw_any (l + n) _).mono ?_
  rintro e w2 ⟨rfl, rfl⟩
  go_wp2_with (first | (refine wpList_ld rfl _ rfl rfl T1.out (rw_ok _ _) ?_) | (refine wpList_sw (cs := rwc (btw (l + n)) b) rfl _ _ rfl rfl rfl T2.out (rw_sz _ _ _ _) (rw_ok _ _) ?_))
  exact bodyPost_ret (ret_agv rfl _ rfl (T2.out.setRow _) (rw_ok _ _) rfl) rfl ⟨rfl, below_setRow T3.out _ _ (by omega)⟩
end Go.Proofs.Ytplohgaecoobaaa
