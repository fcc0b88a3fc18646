/-
  WindowShifts: the law's walk. No conditions but the bounds of its arguments.
-/
import Derived.Test.YtnlkgjcfkgbiiaaWfx
namespace Go.Proofs.Ytnlkgjcfkgbiiaa
open Go.RowKit Go.WideShapes

attribute [local irreducible] wnc rwc mtc rmc btw ftc
set_option maxRecDepth 100000 in
set_option maxHeartbeats 4000000 in
theorem shifts_law (l : Int) {n m : Int} (hn : 0 ≤ n ∧ n ≤ 4294967295) (hm : 0 ≤ m ∧ m ≤ 4294967295) (w : World) : Calls Try.prog 7 #[.int .i64 l, .int .u32 n, .int .u32 m] w fun e w' => e = .returned (.bool true) ∧ Below w.heap.size w w' := by
  have hL := btw_in l
  have HNew := Lib.hid (fun W => wnew_any l true W)
  generalize btw l = L at *
  have hw1 : IntKind.i64.wrap n = n := IntWalk.i64_in _ (by omega)
  have hw2 : IntKind.i64.wrap m = m := IntWalk.i64_in _ (by omega)
  have hw3 : IntKind.i64.wrap (L + m) = L + m := IntWalk.i64_in _ (by omega)
  have hw4 : IntKind.i64.wrap (L + m - n) = L + m - n := IntWalk.i64_in _ (by omega)
  go_enter Try.func7, Try.ntmps7
  go_wp2_with fail
  refine (HNew.out _).mono ?_
  rintro e w1 ⟨g, rfl, hr, hb, hg⟩
  have HB1 := Lib.hid hb
  have HG := Lib.hid hg
  have HR1 : Hid (Row w1 g 63 (wnc L 2)) := hr
  clear hr hb hg HNew
  go_wp2_with fail
  refine (left_any HR1.out).mono ?_
  rintro e wq ⟨rfl, rfl⟩
  by_cases hg : 2147483647 < L + (m - n)
  · have hsh := shift_no HR1.out hL hn hm hg
    have HSH := Lib.hid hsh
    have hgt : 2147483647 < L + m - n := by omega
    clear hsh hL hn hm hg
    go_wp2_with fail
    refine HSH.out.mono ?_
    rintro e w2 ⟨rfl, hb⟩
    obtain ⟨w3, hw3', t1, t2, t3⟩ := one_fault w2 1 3
    have T1 := Lib.hid t1
    have T2 := Lib.hid t2
    have T7 := Lib.hid hw3'
    have hb3 := hb.trans (t3.mono hb.size)
    have HR3 := Lib.hid (HR1.out.below hb3 HR1.out.lt)
    have HB3 := Lib.hid (HB1.out.trans (hb3.mono HB1.out.size))
    clear hb hb3 t1 t2 t3 hw3' HR1 HB1 HSH
    go_upto_region 4 with (refine wpList_sw (cs := ftc 1 3) rfl _ _ rfl rfl rfl T1.out (ft_sz _ _ _ _) (ft_ok _ _) ?_)
    rw [T7.out]
    clear T1 T7
    generalize w2.heap.size = p at *
    go_wp2_with fail
    refine (left_any HR3.out).mono ?_
    rintro e wq ⟨rfl, rfl⟩
    have e1 := ft_n13
    go_wp2_with (refine wpList_ld rfl _ rfl rfl T2.out (ft_ok _ _) ?_)
    refine (fixed_any _).mono ?_
    rintro e w4 ⟨rfl, hb⟩
    have HB4 := Lib.hid (HB3.out.trans (hb.mono HB3.out.size))
    clear hb HB3 HR3 T2 e1
    go_wp2_with fail
    go_ret
    exact ⟨rfl, HB4.out⟩
  · have hsh := shift_yes HR1.out hL hn hm hg
    have HSH := Lib.hid hsh
    have hL1 : -2147483648 ≤ max (L + (m - n)) (-2147483648) ∧ max (L + (m - n)) (-2147483648) ≤ 2147483647 := by omega
    have hg2 : ¬ 2147483647 < max (L + (m - n)) (-2147483648) + (n - m) := by omega
    have hlow : (L + m - n < -2147483648 ∧ max (L + (m - n)) (-2147483648) = -2147483648) ∨ (¬ L + m - n < -2147483648 ∧ max (max (L + (m - n)) (-2147483648) + (n - m)) (-2147483648) = L) := by omega
    have HL := Lib.hid hlow
    generalize max (L + (m - n)) (-2147483648) = L1 at *
    have HSH2 : Hid (∀ W : World, Row W g 63 (wnc L1 2) → Calls Try.prog 16 #[.pointer (some ⟨g, 0, none⟩), .int .u32 m, .int .u32 n] W fun e w' => e = .returned (.agg (ftc 0 0)) ∧ Row w' g 63 (wnc (max (L1 + (n - m)) (-2147483648)) 2) ∧ Fs (fun k => k = g) W w') := fun W hW => shift_yes hW hL1 hm hn hg2
    clear hsh hL hn hm hg hL1 hg2 hlow
    generalize max (L1 + (n - m)) (-2147483648) = L2 at *
    have e1 := ft_n00
    have e2 := ft_00
    go_wp2_with fail
    refine HSH.out.mono ?_
    rintro e w2 ⟨rfl, hr, hf⟩
    have hbf := fs_below hf HG.out HB1.out.size
    obtain ⟨w3, hw3', t1, t2, t3⟩ := one_fault w2 0 0
    have T1 := Lib.hid t1
    have T2 := Lib.hid t2
    have T7 := Lib.hid hw3'
    have HR3 := Lib.hid (hr.below t3 hr.lt)
    have HB2 := HB1.out.trans hbf
    have HB3 := Lib.hid (HB2.trans (t3.mono HB2.size))
    have HPG : Hid (w2.heap.size ≠ g) := by have := hr.lt; show _ ≠ _; omega
    clear hr hf hbf t1 t2 t3 hw3' HR1 HB1 HB2 HSH
    go_upto_region 4 with (refine wpList_sw (cs := ftc 0 0) rfl _ _ rfl rfl rfl T1.out (ft_sz _ _ _ _) (ft_ok _ _) ?_)
    rw [T7.out]
    clear T1 T7
    generalize w2.heap.size = p at *
    go_wp2_with fail
    refine (left_any HR3.out).mono ?_
    rintro e wq ⟨rfl, rfl⟩
    go_wp2_with (refine wpList_ld rfl _ rfl rfl T2.out (ft_ok _ _) ?_)
    refine (HSH2.out _ HR3.out).mono ?_
    rintro e w4 ⟨rfl, hr, hf⟩
    have hbf := fs_below hf HG.out HB3.out.size
    obtain ⟨w5, hw5, t1, t2, t3⟩ := one_fault w4 0 0
    have U1 := Lib.hid t1
    have U2 := Lib.hid t2
    have U7 := Lib.hid hw5
    have HR5 := Lib.hid (hr.below t3 hr.lt)
    have HB4 := HB3.out.trans hbf
    have HB5 := Lib.hid (HB4.trans (t3.mono HB4.size))
    clear hr hf hbf t1 t2 t3 hw5 HR3 HB3 HB4 HSH2 T2
    go_upto_region 8 with (refine wpList_sw (cs := ftc 0 0) rfl _ _ rfl rfl rfl U1.out (ft_sz _ _ _ _) (ft_ok _ _) ?_)
    rw [U7.out]
    clear U1 U7
    generalize w4.heap.size = p2 at *
    rcases HL.out with ⟨h1, h2⟩ | ⟨h1, h2⟩
    · subst h2
      clear HL
      go_wp2_with fail
      refine (fixed_any _).mono ?_
      rintro e w6 ⟨rfl, hb⟩
      have HB6 := Lib.hid (HB5.out.trans (hb.mono HB5.out.size))
      clear hb HB5 HR5 U2
      go_wp2_with fail
      go_ret
      exact ⟨rfl, HB6.out⟩
    · subst h2
      clear HL
      have d1 : decide (L2 + m - n < -2147483648) = false := by simp; omega
      clear h1
      go_wp2_with fail
      refine (fixed_any _).mono ?_
      rintro e w6 ⟨rfl, hb⟩
      have HB6 := Lib.hid (HB5.out.trans (hb.mono HB5.out.size))
      have HR6 := Lib.hid (HR5.out.below hb HR5.out.lt)
      have U6 := Lib.hid (U2.out.below hb U2.out.lt)
      clear hb HB5 HR5 U2
      go_wp2_with (refine wpList_ldg (by rfl) _ rfl rfl U6.out (ft_ok _ _) ?_)
      refine (left_any HR6.out).mono ?_
      rintro e wq ⟨rfl, rfl⟩
      go_wp2_with fail
      go_ret
      exact ⟨rfl, HB6.out⟩
end Go.Proofs.Ytnlkgjcfkgbiiaa
