/-
  Come and Use, the document's, by contract. Condition: what a meter is.
-/
import Derived.Test.YtnlkgjcfkgbiiaaWmt
namespace Go.Proofs.Ytnlkgjcfkgbiiaa
open Go.RowKit Go.WideShapes

theorem rm_box (w : World) (z l o u : Int) : Row ((w.alloc (.cells (rmc z l o u) 46)).alloc (.cells #[.int .i64 0, .int .i64 0, .int .i64 0, .int .i64 0] 46)) w.heap.size 46 (rmc z l o u) ∧ Row ((w.alloc (.cells (rmc z l o u) 46)).alloc (.cells #[.int .i64 0, .int .i64 0, .int .i64 0, .int .i64 0] 46)) (w.heap.size + 1) 46 (rmc 0 0 0 0) ∧
    Below w.heap.size w ((w.alloc (.cells (rmc z l o u) 46)).alloc (.cells #[.int .i64 0, .int .i64 0, .int .i64 0, .int .i64 0] 46)) := by
  refine ⟨(Row.new w _ _).alloc _, Row.made _ _ _ (by simp), ((Below.refl _ _).alloc (Nat.le_refl _) _).alloc (by simp) _⟩
theorem max_comm0 (n : Int) : max 0 n = max n 0 := by omega
attribute [local irreducible] wnc rwc mtc rmc btw ftc
set_option maxRecDepth 100000 in
set_option maxHeartbeats 1000000 in
theorem rcome_no {z l o u : Int} {n : Int} (hn : l < max n 0) (w : World) : Calls Try.prog 20 #[.agg (rmc z l o u), .int .i64 n] w fun e w' => e = .returned (.tuple #[.agg (rmc z l o u), .bool false]) ∧ Below w.heap.size w w' := by
  obtain ⟨t1, t2, t3⟩ := rm_box w z l o u
  have T1 := Lib.hid t1
  have T2 := Lib.hid t2
  have T3 := Lib.hid t3
  obtain ⟨c0, c1, c2, c3⟩ := rm_cells t1
  have hmx := max_comm0 n
  clear t1 t2 t3
  go_enter Try.func20, Try.ntmps20
  go_upto_region 1 with fail
  generalize (w.alloc (.cells (rmc z l o u) 46)).alloc (.cells #[.int .i64 0, .int .i64 0, .int .i64 0, .int .i64 0] 46) = w1 at *
  go_wp2_with (first | (refine wpList_ld rfl _ rfl rfl T1.out (rm_ok _ _ _ _) ?_) | (refine wpList_sw (cs := rmc z l o u) rfl _ _ rfl rfl rfl T2.out (rm_sz _ _ _ _ _ _ _ _) (rm_ok _ _ _ _) ?_))
  exact bodyPost_ret (ret_agv rfl _ rfl (T2.out.setRow _) (rm_ok _ _ _ _) rfl) rfl ⟨rfl, below_setRow T3.out _ _ (by omega)⟩
set_option maxRecDepth 100000 in
set_option maxHeartbeats 1000000 in
theorem rcome_yes {z l u : Int} (hk : MtOk z l u) {n : Int} (hn : ¬ l < max n 0) (w : World) : Calls Try.prog 20 #[.agg (rmc z l (z - l - u) u), .int .i64 n] w fun e w' => e = .returned (.tuple #[.agg (rmc z (l - max n 0) (z - (l - max n 0) - u) u), .bool true]) ∧ Below w.heap.size w w' := by
  obtain ⟨k1, k2, k3, k4⟩ := hk
  obtain ⟨o, ho⟩ : ∃ o, z - l - u = o := ⟨_, rfl⟩
  obtain ⟨m, hm⟩ : ∃ m, max n 0 = m := ⟨_, rfl⟩
  rw [ho, hm, show z - (l - m) - u = o + m by omega]
  rw [hm] at hn
  have hmx := (max_comm0 n).trans hm
  have hw : IntKind.i64.wrap (l - m) = l - m := IntWalk.i64_in _ (by omega)
  have hw2 : IntKind.i64.wrap (o + m) = o + m := IntWalk.i64_in _ (by omega)
  have d0 : decide (l < m) = false := by simp; omega
  clear hm ho k1 k2 k3 k4 hn
  obtain ⟨t1, t2, t3⟩ := rm_box w z l o u
  obtain ⟨c0, c1, c2, c3⟩ := rm_cells t1
  have hth1 := t1.thawed 1
  have T1 := Lib.hid (rm_setl (l' := l - m) t1)
  have T2 := Lib.hid (t2.stored' (a := ⟨w.heap.size, 1, none⟩) (by simp) (.int .i64 (l - m)))
  have T3 := Lib.hid (t3.setCell (p := ⟨w.heap.size, 1, none⟩) (Nat.le_refl _) (.int .i64 (l - m)))
  clear t1 t2 t3
  go_enter Try.func20, Try.ntmps20
  go_upto_region 1 with fail
  generalize (w.alloc (.cells (rmc z l o u) 46)).alloc (.cells #[.int .i64 0, .int .i64 0, .int .i64 0, .int .i64 0] 46) = w1 at *
  go_upto_region 5 with fail
  generalize w1.setCell ⟨w.heap.size, 1, none⟩ (.int .i64 (l - m)) = w2 at *
  clear c0 c1 c2 c3 hth1
  obtain ⟨c0, c1, c2, c3⟩ := rm_cells T1.out
  have hth2 := T1.out.thawed 2
  have U1 := Lib.hid (rm_seto (o' := o + m) T1.out)
  have U2 := Lib.hid (T2.out.stored' (a := ⟨w.heap.size, 2, none⟩) (by simp) (.int .i64 (o + m)))
  have U3 := Lib.hid (T3.out.setCell (p := ⟨w.heap.size, 2, none⟩) (Nat.le_refl _) (.int .i64 (o + m)))
  clear T1 T2 T3
  go_upto_region 6 with fail
  generalize w2.setCell ⟨w.heap.size, 2, none⟩ (.int .i64 (o + m)) = w3 at *
  clear c0 c1 c2 c3 hth2
  go_wp2_with (first | (refine wpList_ld rfl _ rfl rfl U1.out (rm_ok _ _ _ _) ?_) | (refine wpList_sw (cs := rmc z (l - m) (o + m) u) rfl _ _ rfl rfl rfl U2.out (rm_sz _ _ _ _ _ _ _ _) (rm_ok _ _ _ _) ?_))
  exact bodyPost_ret (ret_agv rfl _ rfl (U2.out.setRow _) (rm_ok _ _ _ _) rfl) rfl ⟨rfl, below_setRow U3.out _ _ (by omega)⟩
end Go.Proofs.Ytnlkgjcfkgbiiaa
