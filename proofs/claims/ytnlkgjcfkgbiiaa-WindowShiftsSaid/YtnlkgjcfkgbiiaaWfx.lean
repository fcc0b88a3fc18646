/-
  The law's own example: fixed answers true. No conditions.
-/
import Derived.Test.YtnlkgjcfkgbiiaaWof
import Derived.Test.YtnlkgjcfkgbiiaaWus
namespace Go.Proofs.Ytnlkgjcfkgbiiaa
open Go.RowKit Go.WideShapes

theorem ft_00 (w : World) : (binOp .eql 33 (.agg (ftc 0 0)) (.agg #[.int .u8 0, .int .u32 0])).run Try.prog w = .ok (.bool true) w := ft_eql 0 0 0 0 w
theorem ft_n00 (w : World) : (binOp .neq 33 (.agg (ftc 0 0)) (.agg #[.int .u8 0, .int .u32 0])).run Try.prog w = .ok (.bool false) w := ft_neq 0 0 0 0 w
theorem ft_n13 (w : World) : (binOp .neq 33 (.agg (ftc 1 3)) (.agg #[.int .u8 0, .int .u32 0])).run Try.prog w = .ok (.bool true) w := ft_neq 1 3 0 0 w
theorem half_pos (z : Int) : 0 < halfM z := by unfold halfM; omega
theorem un1 : useN 10 4 0 4 = (0, 4, 4) := by decide
theorem un2 : useN 10 4 4 1 = (5, 9, 0) := by decide
theorem bt10 : btw 10 = 10 := by decide
attribute [local irreducible] wnc rwc mtc rmc btw ftc
set_option maxRecDepth 100000 in
set_option maxHeartbeats 4000000 in
theorem fixed_any (w : World) : Calls Try.prog 9 #[] w fun e w' => e = .returned (.bool true) ∧ Below w.heap.size w w' := by
  have hf0 := ft_00
  go_enter Try.func9, Try.ntmps9
  go_wp2_with fail
  refine (mof_any (n := 10) (by omega) true _).mono ?_
  rintro e w1 ⟨g, rfl, hr, hb, hg⟩
  rw [bt10] at hr
  have hc := come_yes hr ⟨by omega, by omega, by omega, by omega⟩ (n := 6) (by omega)
  have HB1 := Lib.hid hb
  have HG := Lib.hid hg
  clear hr hb hg
  go_upto_region 2 with fail
  go_wp2_with fail
  refine hc.mono ?_
  rintro e w2 ⟨rfl, hr, hf⟩
  have HB2 := Lib.hid (HB1.out.trans (fs_below hf HG.out HB1.out.size))
  obtain ⟨w3, hw3, t1, t2, t3⟩ := one_fault w2 0 0
  have T1 := Lib.hid t1
  have T2 := Lib.hid t2
  have T7 := Lib.hid hw3
  have HR3 : Hid (Row w3 g 68 (mtc 10 4 2 0)) := hr.below t3 hr.lt
  have HB3 := Lib.hid (HB2.out.trans (t3.mono HB2.out.size))
  clear hr hf hc HB1 HB2 t1 t2 t3 hw3
  go_upto_region 3 with (refine wpList_sw (cs := ftc 0 0) rfl _ _ rfl rfl rfl T1.out (ft_sz _ _ _ _) (ft_ok _ _) ?_)
  rw [T7.out]
  clear T1 T7
  generalize w2.heap.size = p at *
  have hu := use_any HR3.out ⟨by omega, by omega, by omega, by omega⟩ 4
  rw [un1] at hu
  unfold UsePost at hu
  go_wp2_with (refine wpList_ldg (by rfl) _ rfl rfl T2.out (ft_ok _ _) ?_)
  refine hu.mono ?_
  rintro e w4 ⟨rfl, hr, hf⟩
  have HB4 := Lib.hid (HB3.out.trans (fs_below hf HG.out HB3.out.size))
  have hu := use_any hr ⟨by omega, by omega, by omega, by omega⟩ 1
  rw [un2] at hu
  unfold UsePost at hu
  clear hr hf HB3 T2 HR3
  go_wp2_with fail
  refine hu.mono ?_
  rintro e w5 ⟨rfl, hr, hf⟩
  have HB5 := Lib.hid (HB4.out.trans (fs_below hf HG.out HB4.out.size))
  have hl := mleft_any hr
  have ho := mowed_any hr ⟨by omega, by omega, by omega, by omega⟩
  clear hr hf HB4
  go_wp2_with fail
  refine hl.mono ?_
  rintro e w6 ⟨rfl, rfl⟩
  go_wp2_with fail
  refine ho.mono ?_
  rintro e w7 ⟨rfl, hb⟩
  have HB7 := Lib.hid (HB5.out.trans (hb.mono HB5.out.size))
  clear hb HB5
  go_wp2_with fail
  go_ret
  exact ⟨rfl, HB7.out⟩
end Go.Proofs.Ytnlkgjcfkgbiiaa
