/-
  The law's own example: fixed answers true. Condition: errors.errorType as the program's text lays it.
-/
import Derived.Test.YtngngebkecanmaaDoorTcm
namespace Go.Proofs.YtngngebkecanmaaDoor
open Go.RowKit Go.WideShapes

theorem ft_q11 (w : World) : (binOp .eql 31 (.agg (ftc 1 1)) (.agg #[.int .u8 1, .int .u32 1])).run Tryd.prog w = .ok (.bool true) w := ft_eql 1 1 1 1 w
theorem ft_q00 (w : World) : (binOp .eql 31 (.agg (ftc 0 0)) (.agg #[.int .u8 0, .int .u32 0])).run Tryd.prog w = .ok (.bool true) w := ft_eql 0 0 0 0 w
theorem cm_x1 : cm 0 0 false = (0, 1, 1) := by decide
theorem cm_x2 : cm 0 1 true = (3, 0, 0) := by decide
attribute [local irreducible] ftc cm
set_option maxRecDepth 100000 in
set_option maxHeartbeats 4000000 in
theorem fixed_any {w : World} (hG : GlobE w) : Calls Tryd.prog 10 #[] w fun e w' => e = .returned (.bool true) ∧ Below w.heap.size w w' := by
  have HG := Lib.hid hG
  clear hG
  go_enter Tryd.func10, Tryd.ntmps10
  go_wp2_with fail
  refine (comeF_any 0 0 false HG.out).mono ?_
  rintro e w1 ⟨rfl, hb⟩
  rw [cm_x1]
  have HB1 := Lib.hid hb
  have HG1 := Lib.hid (HG.out.below hb)
  obtain ⟨w3, hw3, t1, t2, t3⟩ := one_fault w1 1 1
  have T1 := Lib.hid t1
  have T2 := Lib.hid t2
  have T7 := Lib.hid hw3
  have HB3 := Lib.hid (HB1.out.trans (t3.mono HB1.out.size))
  have HG3 := Lib.hid (HG1.out.below t3)
  clear hb t1 t2 t3 hw3 HB1 HG1
  go_upto_region 2 with (refine wpList_sw (cs := ftc 1 1) rfl _ _ rfl rfl rfl T1.out (ft_sz _ _ _ _) (ft_ok _ _) ?_)
  rw [T7.out]
  clear T1 T7
  generalize w1.heap.size = p at *
  go_wp2_with fail
  refine (comeF_any 0 1 true HG3.out).mono ?_
  rintro e w4 ⟨rfl, hb⟩
  rw [cm_x2]
  have HB4 := Lib.hid (HB3.out.trans (hb.mono HB3.out.size))
  have HT4 : Hid (Row w4 p 31 (ftc 1 1)) := T2.out.below hb T2.out.lt
  obtain ⟨w5, hw5, t1, t2, t3⟩ := one_fault w4 0 0
  have T1 := Lib.hid t1
  have HU5 := Lib.hid t2
  have T7 := Lib.hid hw5
  have HB5 := Lib.hid (HB4.out.trans (t3.mono HB4.out.size))
  have HT5 : Hid (Row w5 p 31 (ftc 1 1)) := HT4.out.below t3 HT4.out.lt
  clear hb t1 t2 t3 hw5 HB4 HB3 HT4 T2
  go_upto_region 3 with (refine wpList_sw (cs := ftc 0 0) rfl _ _ rfl rfl rfl T1.out (ft_sz _ _ _ _) (ft_ok _ _) ?_)
  rw [T7.out]
  clear T1 T7
  generalize w4.heap.size = p2 at *
  have hf1 := ft_q11
  have hf0 := ft_q00
  go_wp2_with (first | (refine wpList_ldg (by rfl) _ rfl rfl HT5.out (ft_ok _ _) ?_) | (refine wpList_ldg (by rfl) _ rfl rfl HU5.out (ft_ok _ _) ?_))
  go_ret
  exact ⟨rfl, HB5.out⟩
end Go.Proofs.YtngngebkecanmaaDoor
