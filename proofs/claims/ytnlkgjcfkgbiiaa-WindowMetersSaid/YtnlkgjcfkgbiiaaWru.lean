/-
  Use, the document's, by contract. Condition: what a meter is.
-/
import Derived.Test.YtnlkgjcfkgbiiaaWrm
import Derived.Test.YtnlkgjcfkgbiiaaWus
namespace Go.Proofs.Ytnlkgjcfkgbiiaa
open Go.RowKit Go.WideShapes

/-- The ways of what is untold: told, nothing there, less than half. -/
theorem useW (z l u n : Int) (hk : MtOk z l u) : (usU z l u n < halfM z ∧ (usU z l u n = 0 ∨ (0 < usU z l u n ∧ 2 * usU z l u n < z))) ∨ (¬ usU z l u n < halfM z ∧ 0 < usU z l u n ∧ z ≤ 2 * usU z l u n) := by
  have := usU_in hk n
  have := hk.u0
  unfold halfM
  omega
/-- What the document's Use answers. -/
def rusV (z : Int) (r : Int × Int × Int) : Value := .tuple #[.agg (rmc z r.2.1 (z - r.2.1 - r.2.2) r.2.2), .int .i64 r.1]
theorem decF {p : Prop} [Decidable p] (h : ¬ p) : decide p = false := decide_eq_false h
theorem wrI {n : Int} (h : -9223372036854775808 ≤ n ∧ n ≤ 9223372036854775807) : IntKind.i64.wrap n = n := IntWalk.i64_in _ h
attribute [local irreducible] wnc rwc mtc rmc btw ftc
set_option maxRecDepth 100000 in
set_option maxHeartbeats 4000000 in
theorem ruse_anyA {z l u o N U : Int} (hk : MtOk z l u) (ho : z - l - u = o) {n : Int} (hN : max n 0 = N) (hA : o < N) (hU : u + o = U) (hUz : U ≤ z) (hv : (U = 0 ∨ (0 < U ∧ 2 * U < z)) ∨ (0 < U ∧ z ≤ 2 * U)) (w : World) :
    Calls Try.prog 22 #[.agg (rmc z l o u), .int .i64 n] w fun e w' => ∃ L V T, e = .returned (.tuple #[.agg (rmc z L 0 V), .int .i64 T]) ∧ (((0 < U ∧ z ≤ 2 * U) ∧ T = U ∧ L = l + U ∧ V = 0) ∨ ((U = 0 ∨ (0 < U ∧ 2 * U < z)) ∧ T = 0 ∧ L = l ∧ V = U)) ∧ Below w.heap.size w w' := by
  obtain ⟨k1, k2, k3, k4⟩ := hk
  have hmx := (max_comm0 n).trans hN
  have hN0 : 0 ≤ N := by omega
  have hA' := hA
  have hA'' := hA
  have hw2 : IntKind.i64.wrap U = U := wrI (by omega)
  have hw3 : IntKind.i64.wrap (2 * U) = 2 * U := wrI (by omega)
  have hw4 : IntKind.i64.wrap (l + U) = l + U := wrI (by omega)
  obtain ⟨t1, t2, t3⟩ := rm_box w z l o u
  obtain ⟨c0, c1, c2, c3⟩ := rm_cells t1
  have hth2 := t1.thawed 2
  have T1 := Lib.hid (rm_seto (o' := 0) t1)
  have T2 := Lib.hid (t2.stored' (a := ⟨w.heap.size, 2, none⟩) (by simp) (.int .i64 0))
  have T3 := Lib.hid (t3.setCell (p := ⟨w.heap.size, 2, none⟩) (Nat.le_refl _) (.int .i64 0))
  clear t1 t2 t3 hN ho k1 k2 k3 k4 hN0 hA hUz
  have HV := Lib.hid hv
  clear hv
  go_enter Try.func22, Try.ntmps22
  go_upto_region 1 with fail
  generalize (w.alloc (.cells (rmc z l o u) 46)).alloc (.cells #[.int .i64 0, .int .i64 0, .int .i64 0, .int .i64 0] 46) = w1 at *
  go_upto_region 5 with fail
  generalize w1.setCell ⟨w.heap.size, 2, none⟩ (.int .i64 0) = w2 at *
  clear c0 c1 c2 c3 hth2
  obtain ⟨c0, c1, c2, c3⟩ := rm_cells T1.out
  have hth3 := T1.out.thawed 3
  have U1 := Lib.hid (rm_setu (u' := U) T1.out)
  have U2 := Lib.hid (T2.out.stored' (a := ⟨w.heap.size, 3, none⟩) (by simp) (.int .i64 U))
  have U3 := Lib.hid (T3.out.setCell (p := ⟨w.heap.size, 3, none⟩) (Nat.le_refl _) (.int .i64 U))
  clear T1 T2 T3
  go_upto_region 6 with fail
  generalize w2.setCell ⟨w.heap.size, 3, none⟩ (.int .i64 U) = w3 at *
  clear c0 c1 c2 c3 hth3 hw2 hU
  obtain ⟨c0, c1, c2, c3⟩ := rm_cells U1.out
  rcases HV.out with (h0 | ⟨h0, h1⟩) | ⟨h0, h1⟩
  · have d0 : decide (0 < U) = false := by simp; omega
    clear HV
    have H0 := Lib.hid h0
    clear h0
    go_wp2_with (first | (refine wpList_ld rfl _ rfl rfl U1.out (rm_ok _ _ _ _) ?_) | (refine wpList_sw (cs := rmc z l 0 U) rfl _ _ rfl rfl rfl U2.out (rm_sz _ _ _ _ _ _ _ _) (rm_ok _ _ _ _) ?_))
    exact bodyPost_ret (ret_agv rfl _ rfl (U2.out.setRow _) (rm_ok _ _ _ _) rfl) rfl ⟨l, U, 0, rfl, .inr ⟨.inl H0.out, rfl, rfl, rfl⟩, below_setRow U3.out _ _ (by omega)⟩
  · have d0 : decide (z ≤ 2 * U) = false := by simp; omega
    clear HV
    have H0 := Lib.hid h1
    clear h1
    go_wp2_with (first | (refine wpList_ld rfl _ rfl rfl U1.out (rm_ok _ _ _ _) ?_) | (refine wpList_sw (cs := rmc z l 0 U) rfl _ _ rfl rfl rfl U2.out (rm_sz _ _ _ _ _ _ _ _) (rm_ok _ _ _ _) ?_))
    exact bodyPost_ret (ret_agv rfl _ rfl (U2.out.setRow _) (rm_ok _ _ _ _) rfl) rfl ⟨l, U, 0, rfl, .inr ⟨.inr ⟨h0, H0.out⟩, rfl, rfl, rfl⟩, below_setRow U3.out _ _ (by omega)⟩
  · clear HV
    have hth1 := U1.out.thawed 1
    have V1 := Lib.hid (rm_setl (l' := l + U) U1.out)
    have V2 := Lib.hid (U2.out.stored' (a := ⟨w.heap.size, 1, none⟩) (by simp) (.int .i64 (l + U)))
    have V3 := Lib.hid (U3.out.setCell (p := ⟨w.heap.size, 1, none⟩) (Nat.le_refl _) (.int .i64 (l + U)))
    clear U1 U2 U3
    go_upto_region 10 with fail
    generalize w3.setCell ⟨w.heap.size, 1, none⟩ (.int .i64 (l + U)) = w4 at *
    clear c0 c1 c2 c3 hth1
    obtain ⟨c0, c1, c2, c3⟩ := rm_cells V1.out
    have hth3 := V1.out.thawed 3
    have X1 := Lib.hid (rm_setu (u' := 0) V1.out)
    have X2 := Lib.hid (V2.out.stored' (a := ⟨w.heap.size, 3, none⟩) (by simp) (.int .i64 0))
    have X3 := Lib.hid (V3.out.setCell (p := ⟨w.heap.size, 3, none⟩) (Nat.le_refl _) (.int .i64 0))
    clear V1 V2 V3
    go_upto_region 11 with fail
    generalize w4.setCell ⟨w.heap.size, 3, none⟩ (.int .i64 0) = w5 at *
    clear c0 c1 c2 c3 hth3
    go_wp2_with (first | (refine wpList_ld rfl _ rfl rfl X1.out (rm_ok _ _ _ _) ?_) | (refine wpList_sw (cs := rmc z (l + U) 0 0) rfl _ _ rfl rfl rfl X2.out (rm_sz _ _ _ _ _ _ _ _) (rm_ok _ _ _ _) ?_))
    exact bodyPost_ret (ret_agv rfl _ rfl (X2.out.setRow _) (rm_ok _ _ _ _) rfl) rfl ⟨l + U, 0, U, rfl, .inl ⟨⟨h0, h1⟩, rfl, rfl, rfl⟩, below_setRow X3.out _ _ (by omega)⟩
set_option maxRecDepth 100000 in
set_option maxHeartbeats 4000000 in
theorem ruse_anyB {z l u o N U : Int} (hk : MtOk z l u) (ho : z - l - u = o) {n : Int} (hN : max n 0 = N) (hA : ¬ o < N) (hU : u + N = U) (hUz : U ≤ z) (hv : (U = 0 ∨ (0 < U ∧ 2 * U < z)) ∨ (0 < U ∧ z ≤ 2 * U)) (w : World) :
    Calls Try.prog 22 #[.agg (rmc z l o u), .int .i64 n] w fun e w' => ∃ L V T, e = .returned (.tuple #[.agg (rmc z L (o - N) V), .int .i64 T]) ∧ (((0 < U ∧ z ≤ 2 * U) ∧ T = U ∧ L = l + U ∧ V = 0) ∨ ((U = 0 ∨ (0 < U ∧ 2 * U < z)) ∧ T = 0 ∧ L = l ∧ V = U)) ∧ Below w.heap.size w w' := by
  obtain ⟨k1, k2, k3, k4⟩ := hk
  have hmx := (max_comm0 n).trans hN
  have hN0 : 0 ≤ N := by omega
  have dA := decF hA
  have hw : IntKind.i64.wrap (o - N) = o - N := wrI (by omega)
  have hw2 : IntKind.i64.wrap U = U := wrI (by omega)
  have hw3 : IntKind.i64.wrap (2 * U) = 2 * U := wrI (by omega)
  have hw4 : IntKind.i64.wrap (l + U) = l + U := wrI (by omega)
  obtain ⟨t1, t2, t3⟩ := rm_box w z l o u
  obtain ⟨c0, c1, c2, c3⟩ := rm_cells t1
  have hth2 := t1.thawed 2
  have T1 := Lib.hid (rm_seto (o' := (o - N)) t1)
  have T2 := Lib.hid (t2.stored' (a := ⟨w.heap.size, 2, none⟩) (by simp) (.int .i64 (o - N)))
  have T3 := Lib.hid (t3.setCell (p := ⟨w.heap.size, 2, none⟩) (Nat.le_refl _) (.int .i64 (o - N)))
  clear t1 t2 t3 hN ho k1 k2 k3 k4 hN0 hA hUz
  have HV := Lib.hid hv
  clear hv
  go_enter Try.func22, Try.ntmps22
  go_upto_region 1 with fail
  generalize (w.alloc (.cells (rmc z l o u) 46)).alloc (.cells #[.int .i64 0, .int .i64 0, .int .i64 0, .int .i64 0] 46) = w1 at *
  go_upto_region 5 with fail
  generalize w1.setCell ⟨w.heap.size, 2, none⟩ (.int .i64 (o - N)) = w2 at *
  clear c0 c1 c2 c3 hth2
  obtain ⟨c0, c1, c2, c3⟩ := rm_cells T1.out
  have hth3 := T1.out.thawed 3
  have U1 := Lib.hid (rm_setu (u' := U) T1.out)
  have U2 := Lib.hid (T2.out.stored' (a := ⟨w.heap.size, 3, none⟩) (by simp) (.int .i64 U))
  have U3 := Lib.hid (T3.out.setCell (p := ⟨w.heap.size, 3, none⟩) (Nat.le_refl _) (.int .i64 U))
  clear T1 T2 T3
  go_upto_region 6 with fail
  generalize w2.setCell ⟨w.heap.size, 3, none⟩ (.int .i64 U) = w3 at *
  clear c0 c1 c2 c3 hth3 hw2 hU
  obtain ⟨c0, c1, c2, c3⟩ := rm_cells U1.out
  rcases HV.out with (h0 | ⟨h0, h1⟩) | ⟨h0, h1⟩
  · have d0 : decide (0 < U) = false := by simp; omega
    clear HV
    have H0 := Lib.hid h0
    clear h0
    go_wp2_with (first | (refine wpList_ld rfl _ rfl rfl U1.out (rm_ok _ _ _ _) ?_) | (refine wpList_sw (cs := rmc z l (o - N) U) rfl _ _ rfl rfl rfl U2.out (rm_sz _ _ _ _ _ _ _ _) (rm_ok _ _ _ _) ?_))
    exact bodyPost_ret (ret_agv rfl _ rfl (U2.out.setRow _) (rm_ok _ _ _ _) rfl) rfl ⟨l, U, 0, rfl, .inr ⟨.inl H0.out, rfl, rfl, rfl⟩, below_setRow U3.out _ _ (by omega)⟩
  · have d0 : decide (z ≤ 2 * U) = false := by simp; omega
    clear HV
    have H0 := Lib.hid h1
    clear h1
    go_wp2_with (first | (refine wpList_ld rfl _ rfl rfl U1.out (rm_ok _ _ _ _) ?_) | (refine wpList_sw (cs := rmc z l (o - N) U) rfl _ _ rfl rfl rfl U2.out (rm_sz _ _ _ _ _ _ _ _) (rm_ok _ _ _ _) ?_))
    exact bodyPost_ret (ret_agv rfl _ rfl (U2.out.setRow _) (rm_ok _ _ _ _) rfl) rfl ⟨l, U, 0, rfl, .inr ⟨.inr ⟨h0, H0.out⟩, rfl, rfl, rfl⟩, below_setRow U3.out _ _ (by omega)⟩
  · clear HV
    have hth1 := U1.out.thawed 1
    have V1 := Lib.hid (rm_setl (l' := l + U) U1.out)
    have V2 := Lib.hid (U2.out.stored' (a := ⟨w.heap.size, 1, none⟩) (by simp) (.int .i64 (l + U)))
    have V3 := Lib.hid (U3.out.setCell (p := ⟨w.heap.size, 1, none⟩) (Nat.le_refl _) (.int .i64 (l + U)))
    clear U1 U2 U3
    go_upto_region 10 with fail
    generalize w3.setCell ⟨w.heap.size, 1, none⟩ (.int .i64 (l + U)) = w4 at *
    clear c0 c1 c2 c3 hth1
    obtain ⟨c0, c1, c2, c3⟩ := rm_cells V1.out
    have hth3 := V1.out.thawed 3
    have X1 := Lib.hid (rm_setu (u' := 0) V1.out)
    have X2 := Lib.hid (V2.out.stored' (a := ⟨w.heap.size, 3, none⟩) (by simp) (.int .i64 0))
    have X3 := Lib.hid (V3.out.setCell (p := ⟨w.heap.size, 3, none⟩) (Nat.le_refl _) (.int .i64 0))
    clear V1 V2 V3
    go_upto_region 11 with fail
    generalize w4.setCell ⟨w.heap.size, 3, none⟩ (.int .i64 0) = w5 at *
    clear c0 c1 c2 c3 hth3
    go_wp2_with (first | (refine wpList_ld rfl _ rfl rfl X1.out (rm_ok _ _ _ _) ?_) | (refine wpList_sw (cs := rmc z (l + U) (o - N) 0) rfl _ _ rfl rfl rfl X2.out (rm_sz _ _ _ _ _ _ _ _) (rm_ok _ _ _ _) ?_))
    exact bodyPost_ret (ret_agv rfl _ rfl (X2.out.setRow _) (rm_ok _ _ _ _) rfl) rfl ⟨l + U, 0, U, rfl, .inl ⟨⟨h0, h1⟩, rfl, rfl, rfl⟩, below_setRow X3.out _ _ (by omega)⟩
theorem ruse_any {z l u : Int} (hk : MtOk z l u) (n : Int) (w : World) : Calls Try.prog 22 #[.agg (rmc z l (z - l - u) u), .int .i64 n] w fun e w' => e = .returned (rusV z (useN z l u n)) ∧ Below w.heap.size w w' := by
  have hv := useW z l u n hk
  have hin := usU_in hk n
  have hul := hk.l0
  have huu := hk.u0
  have hle := hk.le
  have hfin : ∀ {O L V T : Int}, (((0 < usU z l u n ∧ z ≤ 2 * usU z l u n) ∧ T = usU z l u n ∧ L = l + usU z l u n ∧ V = 0) ∨ ((usU z l u n = 0 ∨ (0 < usU z l u n ∧ 2 * usU z l u n < z)) ∧ T = 0 ∧ L = l ∧ V = usU z l u n)) → O = z - l - u - (usU z l u n - u) → Value.tuple #[.agg (rmc z L O V), .int .i64 T] = rusV z (useN z l u n) := by
    intro O L V T h hO
    have hN : useN z l u n = (T, L, V) := by
      rcases h with ⟨h0, rfl, rfl, rfl⟩ | ⟨h0, rfl, rfl, rfl⟩
      · exact useN_tell (by omega)
      · exact useN_keep (by omega)
    unfold rusV
    rw [hN]
    have : O = z - L - V := by
      rcases h with ⟨h0, rfl, rfl, rfl⟩ | ⟨h0, rfl, rfl, rfl⟩ <;> omega
    rw [this]
  by_cases hA : z - l - u < max n 0
  · have hu : u + (z - l - u) = usU z l u n := by unfold usU; omega
    refine (ruse_anyA hk rfl rfl hA hu (by omega) (by omega) w).mono ?_
    rintro e w' ⟨L, V, T, rfl, h, hb⟩
    refine ⟨?_, hb⟩
    rw [hfin h (by omega)]
  · have hu : u + max n 0 = usU z l u n := by unfold usU; omega
    refine (ruse_anyB hk rfl rfl hA hu (by omega) (by omega) w).mono ?_
    rintro e w' ⟨L, V, T, rfl, h, hb⟩
    refine ⟨?_, hb⟩
    rw [hfin h (by omega)]
end Go.Proofs.Ytnlkgjcfkgbiiaa
