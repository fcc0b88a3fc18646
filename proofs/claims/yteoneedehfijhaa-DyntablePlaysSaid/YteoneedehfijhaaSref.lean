/-
  The document's At and Find, by their contracts.
-/
import Derived.Test.YteoneedehfijhaaSrtab
import Derived.BigQuiet
namespace Go.Proofs.Yteoneedehfijhaa
open Go.RowKit Go.WideShapes

attribute [local irreducible] first fndN fndB isN isB nmL vlL tab rtabC

set_option maxRecDepth 100000 in
set_option maxHeartbeats 1000000 in
theorem rat_no (n : Int) (hn : n < 1 ∨ 61 < n) (w : World) : Calls Try.prog 30 #[.int .i64 n] w fun e w' => e = .returned (.tuple #[tx [], tx [], .bool false]) ∧ Below w.heap.size w w' := by
  have hs : n < 1 ∨ (decide (n < 1) = false ∧ (61 : Int) < n) := by
    by_cases h : n < 1
    · exact .inl h
    · exact .inr ⟨by simpa using h, by omega⟩
  clear hn
  unfold tx
  rcases hs with h | ⟨h, h'⟩
  all_goals
    go_enter Try.func30, Try.ntmps30
    go_wp2_with fail
    refine (rtable_any _).mono ?_
    rintro e w1 ⟨rfl, rfl⟩
    go_wp2_with fail
    go_ret3
    exact ⟨rfl, (Below.refl _ _).alloc (Nat.le_refl _) _⟩

set_option maxRecDepth 100000 in
set_option maxHeartbeats 1000000 in
theorem rat_yes (k : Nat) (hk : k < 61) (w : World) : Calls Try.prog 30 #[.int .i64 ((k : Int) + 1)] w fun e w' => e = .returned (.tuple #[tx (nmL k), tx (vlL k), .bool true]) ∧ Below w.heap.size w w' := by
  have h1 : decide ((k : Int) + 1 < 1) = false := by simp; omega
  have h2 : decide ((61 : Int) < (k : Int) + 1) = false := by simp; omega
  go_enter Try.func30, Try.ntmps30
  go_wp2_with fail
  refine (rtable_any _).mono ?_
  rintro e w1 ⟨rfl, rfl⟩
  have HR := Row.new w 9 rtabC
  have hc1 := HR.cell (rtab_even hk)
  have hc2 := HR.cell (rtab_odd hk)
  have HB : Below w.heap.size w (w.alloc (.cells rtabC 9)) := (Below.refl _ _).alloc (Nat.le_refl _) _
  have m1 : (2 : Int) * ((k : Int) + 1) - 2 = ((2 * k : Nat) : Int) := by omega
  have m2 : (2 : Int) * ((k : Int) + 1) - 1 = ((2 * k + 1 : Nat) : Int) := by omega
  generalize w.alloc (.cells rtabC 9) = w1 at HR HB hc1 hc2 ⊢
  go_wp2_with fail
  go_quiet (fail)
  go_wp2_with fail
  go_ret3
  exact ⟨rfl, below_dN HB _⟩

set_option maxRecDepth 100000 in
set_option maxHeartbeats 1000000 in
theorem rfind_any (a b : List UInt8) (w : World) : Calls Try.prog 32 #[tx a, tx b] w fun e w' => e = .returned (.tuple #[.int .i64 (fndN a b : Int), .bool (fndB a b)]) ∧ Below w.heap.size w w' := by
  unfold tx
  go_enter Try.func32, Try.ntmps32
  go_wp2_with fail
  refine (rtable_any _).mono ?_
  rintro e w1 ⟨rfl, rfl⟩
  have HR := Row.new w 9 rtabC
  have HB : Below w.heap.size w (w.alloc (.cells rtabC 9)) := (Below.refl _ _).alloc (Nat.le_refl _) _
  generalize w.alloc (.cells rtabC 9) = w1 at HR HB ⊢
  go_wp2_with fail
  go_loop [7] (fun i => ∃ i' : Nat, i' ≤ 61 ∧ i = .int .i64 (2 * i' : Nat) ∧ Hid (first (isB a b) i' = 0)) (fun i => 122 - (intOf i).toNat)
  case atStart => exact ⟨0, by omega, rfl, first_zero⟩
  case round =>
    obtain ⟨i, hi, rfl, hB⟩ := hrel
    by_cases hlt : i < 61
    · have hc1 := HR.cell (rtab_even hlt)
      have hc2 := HR.cell (rtab_odd hlt)
      unfold tx at hc1 hc2
      by_cases hn1 : nmL i = a
      · have e1 : (nmL i == a) = true := by rw [hn1, beq_self_eq_true]
        have hA : isN a i = true := by simp [isN, hn1]
        by_cases hv1 : vlL i = b
        · have e2 : (vlL i == b) = true := by rw [hv1, beq_self_eq_true]
          have hF := fnd_hit hlt hB.out (isB_of hA hv1)
          have HF := Lib.hid hF
          clear hn1 hv1 hF hA
          go_wp2_with fail
          go_ret2
          refine ⟨?_, HB⟩
          rw [HF.out.1, HF.out.2]; rfl
        · have e2 : (vlL i == b) = false := by rw [beq_eq_false_iff_ne]; exact hv1
          have hB2 : Hid (first (isB a b) (i + 1) = 0) := by
            show _ = _
            rw [first_miss (isB_no' hv1)]
            exact hB.out
          clear hn1 hv1 hA hB
          go_wp2_with fail
          go_round
          case rel => exact ⟨i + 1, by omega, by go_num, hB2⟩
          case measure => simp [intOf]; omega
      · have e1 : (nmL i == a) = false := by rw [beq_eq_false_iff_ne]; exact hn1
        have hA : isN a i = false := by simp [isN, hn1]
        have hB2 : Hid (first (isB a b) (i + 1) = 0) := by
          show _ = _
          rw [first_miss (isB_no hA)]
          exact hB.out
        clear hn1 hA hB
        go_wp2_with fail
        go_round
        case rel => exact ⟨i + 1, by omega, by go_num, hB2⟩
        case measure => simp [intOf]; omega
    · obtain rfl : i = 61 := by omega
      have hF := fnd_miss hB.out
      have HF := Lib.hid hF
      clear hF hB
      go_wp2_with fail
      go_loop [8] (fun i => ∃ i' : Nat, i' ≤ 61 ∧ i = .int .i64 (2 * i' : Nat) ∧ Hid (first (isN a) i' = 0)) (fun i => 122 - (intOf i).toNat)
      case atStart => exact ⟨0, by omega, rfl, first_zero⟩
      case round =>
        obtain ⟨i, hi, rfl, hN⟩ := hrel
        by_cases hlt : i < 61
        · have hc1 := HR.cell (rtab_even hlt)
          unfold tx at hc1
          by_cases hn1 : nmL i = a
          · have e1 : (nmL i == a) = true := by rw [hn1, beq_self_eq_true]
            have hA : isN a i = true := by simp [isN, hn1]
            have h1 := first_hit hN.out hA
            have h2 := first_more (p := isN a) (k := i + 1) (m := 61) (by omega) (by omega)
            have HE := Lib.hid (h2.trans h1)
            clear hn1 hA h1 h2 hN
            go_wp2_with fail
            go_ret2
            refine ⟨?_, HB⟩
            rw [HF.out.1, HF.out.2, HE.out]; rfl
          · have e1 : (nmL i == a) = false := by rw [beq_eq_false_iff_ne]; exact hn1
            have hA : isN a i = false := by simp [isN, hn1]
            have hN2 : Hid (first (isN a) (i + 1) = 0) := by
              show _ = _
              rw [first_miss hA]
              exact hN.out
            clear hn1 hA hN
            go_wp2_with fail
            go_round
            case rel => exact ⟨i + 1, by omega, by go_num, hN2⟩
            case measure => simp [intOf]; omega
        · obtain rfl : i = 61 := by omega
          have HE := hN
          clear hN
          go_wp2_with fail
          go_ret2
          refine ⟨?_, HB⟩
          rw [HF.out.1, HF.out.2, HE.out]; rfl
end Go.Proofs.Yteoneedehfijhaa
