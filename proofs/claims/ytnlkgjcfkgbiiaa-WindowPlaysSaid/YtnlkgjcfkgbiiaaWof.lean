/-
  A meter's Of, by contract. No conditions.
-/
import Derived.Test.YtnlkgjcfkgbiiaaWmt
namespace Go.Proofs.Ytnlkgjcfkgbiiaa
open Go.RowKit Go.WideShapes

attribute [local irreducible] btw
set_option maxRecDepth 100000 in
set_option maxHeartbeats 1000000 in
theorem mof_any {n : Int} (hn : 0 ≤ n ∧ n ≤ 4294967295) (b : Bool) (w : World) : Calls Try.prog 18 #[.int .u32 n, .bool b] w fun e w' => ∃ g, e = .returned (.pointer (some ⟨g, 0, none⟩)) ∧ Row w' g 68 (mtc (btw n) (btw n) (sco b) 0) ∧ Below w.heap.size w w' ∧ w.heap.size ≤ g := by
  have hw : IntKind.i64.wrap n = n := IntWalk.i64_in _ (by omega)
  clear hn
  go_enter Try.func18, Try.ntmps18
  go_wp2_with fail
  refine (wnew_any n b _).mono ?_
  rintro e w1 ⟨g, rfl, hr, hb, hg⟩
  obtain ⟨c0, c1⟩ := wn_cells hr
  have HB := Lib.hid hb
  clear hr hb hg
  go_wp2_with fail
  go_region
  go_wp2_with fail
  go_ret
  exact ⟨w1.heap.size, rfl, by show Row _ _ _ _; exact Row.new w1 _ _, below_dN (HB.out.alloc HB.out.size _) 1, HB.out.size⟩
theorem rm_var (w : World) : Row (w.alloc (.cells #[.int .i64 0, .int .i64 0, .int .i64 0, .int .i64 0] 46)) w.heap.size 46 (rmc 0 0 0 0) := Row.new w _ _
attribute [local irreducible] rmc
set_option maxRecDepth 100000 in
set_option maxHeartbeats 1000000 in
theorem rmof_any {n : Int} (hn : 0 ≤ n ∧ n ≤ 4294967295) (w : World) : Calls Try.prog 19 #[.int .u32 n] w fun e w' => e = .returned (.agg (rmc (btw n) (btw n) 0 0)) ∧ Below w.heap.size w w' := by
  have hw : IntKind.i64.wrap n = n := IntWalk.i64_in _ (by omega)
  have HR := Lib.hid (rm_var w)
  have hz : rmc (btw n) (btw n) 0 0 = #[.int .i64 (btw n), .int .i64 (btw n), .int .i64 0, .int .i64 0] := by unfold rmc; rfl
  have HZ := Lib.hid hz
  clear hn hz
  go_enter Try.func19, Try.ntmps19
  go_wp2_with fail
  refine (btw_any n _).mono ?_
  rintro e w1 ⟨rfl, rfl⟩
  go_wp2_with (refine wpList_sw (cs := rmc (btw n) (btw n) 0 0) rfl _ _ rfl rfl (by rw [HZ.out]; rfl) HR.out (rm_sz _ _ _ _ _ _ _ _) (rm_ok _ _ _ _) ?_)
  exact bodyPost_ret (ret_ag rfl _ rfl (HR.out.setRow _) (rm_ok _ _ _ _)) rfl ⟨rfl, below_setRow ((Below.refl _ _).alloc (Nat.le_refl _) _) _ _ (Nat.le_refl _)⟩
end Go.Proofs.Ytnlkgjcfkgbiiaa
