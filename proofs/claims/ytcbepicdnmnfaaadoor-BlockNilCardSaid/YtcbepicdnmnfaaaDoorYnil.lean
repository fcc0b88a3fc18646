/-
  BlockNil: the law's walk. Condition: errors.errorType as the program's text lays it.
-/
import Derived.Test.YtcbepicdnmnfaaaDoorYfx
namespace Go.Proofs.YtcbepicdnmnfaaaDoor
open Go.RowKit Go.WideShapes

theorem tk_nilb (x : Fm) {w : World} (hG : GlobE w) : Calls Tryd.prog 8 #[.pointer none, .agg x.c] w fun e w' => e = .returned (.tuple #[.agg (whc 0 none 0 0 false), .bool false, .agg (ftb 2)]) ∧ Below w.heap.size w w' := tk_nil x hG
attribute [local irreducible] Fm.c whc ftc ftb gac
set_option maxRecDepth 100000 in
set_option maxHeartbeats 4000000 in
theorem nil_law (x : Fm) {w : World} (hG : GlobE w) : Calls Tryd.prog 4 #[.agg x.c] w fun e w' => e = .returned (.bool true) ∧ Below w.heap.size w w' := by
  have HR : Hid (Row (w.alloc (.cells x.c 32)) w.heap.size 32 x.c) := Row.new w _ _
  have HB : Hid (Below w.heap.size w (w.alloc (.cells x.c 32))) := (Below.refl _ _).alloc (Nat.le_refl _) _
  have HG := Lib.hid (hG.below HB.out)
  clear hG
  go_enter Tryd.func4, Tryd.ntmps4
  go_upto_region 2 with fail
  generalize w.alloc (.cells x.c 32) = w1 at *
  generalize hp : w.heap.size = p at *
  have HP := Lib.hid hp
  clear hp
  go_wp2_with (refine wpList_fm rfl _ rfl rfl HR.out ?_)
  refine (tk_nilb x HG.out).mono ?_
  rintro e w2 ⟨rfl, hb2⟩
  have HB2 := Lib.hid (HB.out.trans (hb2.mono (by have := HB.out.size; have := HP.out; omega)))
  have HG2 := Lib.hid (HG.out.below hb2)
  obtain ⟨w3, hw3, t1, t2, t3, t4, t5, t6⟩ := tk_two w2 0 none 0 0 false 2
  have T7 := Lib.hid hw3
  have T1 := Lib.hid t1
  have T2 := Lib.hid t2
  have TW := Lib.hid t3
  have TF := Lib.hid t4
  have HB3 := Lib.hid (HB2.out.trans (t5.mono (by have := HB2.out.size; have := HP.out; omega)))
  have HG3 := Lib.hid (HG2.out.below t5)
  clear hb2 hw3 t1 t2 t3 t4 t5 t6 HR HB HG HB2 HG2
  go_upto_region 3 with (first | (refine wpList_sw (cs := whc 0 none 0 0 false) rfl _ _ rfl rfl rfl T1.out (wh_sz _ _ _ _ _ _ _ _ _ _) (wh_ok _ _ _ _ _) ?_) | (refine wpList_sw (cs := ftb 2) rfl _ _ rfl rfl rfl T2.out (ftb_sz _) (ftb_ok _) ?_))
  rw [T7.out]
  clear T7 T1 T2
  generalize w2.heap.size = p2 at *
  go_wp2_with fail
  refine (fixed_any HG3.out).mono ?_
  rintro e w4 ⟨rfl, hb4⟩
  have TW4 := Lib.hid (TW.out.below hb4 TW.out.lt)
  have TF4 := Lib.hid (TF.out.below hb4 TF.out.lt)
  have HB4 := Lib.hid (HB3.out.trans (hb4.mono (by have := HB3.out.size; have := HP.out; omega)))
  clear hb4 HB3 HG3 TW TF
  have q1 := ftq 2 1 2 (by simp)
  have c1 := (wh_cells TW4.out).2.1
  go_wp2_with (refine wpList_ldg (by rfl) _ rfl rfl TF4.out (ftb_ok _) ?_)
  refine (busy_nil _).mono ?_
  rintro e w5 ⟨rfl, rfl⟩
  go_wp2_with fail
  refine (bheld_nil _).mono ?_
  rintro e w6 ⟨rfl, rfl⟩
  go_wp2_with fail
  go_ret
  exact ⟨rfl, by rw [HP.out]; exact HB4.out⟩
end Go.Proofs.YtcbepicdnmnfaaaDoor
