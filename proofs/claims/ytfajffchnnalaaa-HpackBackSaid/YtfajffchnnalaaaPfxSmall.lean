/-
  The small functions below Put and Get, by their contracts: isPrefix, ones, the document's top. No conditions but those that each theorem names.
-/
import Derived.Test.YtfajffchnnalaaaProg
import Derived.Test.YtfajffchnnalaaaBytes
import Derived.Test.YtfajffchnnalaaaPfxMath
import Derived.IntWalk
namespace Go.Proofs.Ytfajffchnnalaaa
open Go.RowKit Go.WideShapes

theorem is_yes (k : Int) (w : World) (h1 : 1 ≤ k) (h8 : k ≤ 8) : Calls Try.prog 68 #[.int .i64 k] w fun e w' => e = .returned (.bool true) ∧ w = w' := by
  go_enter Try.func68, Try.ntmps68
  go_wp2
  go_ret
  exact ⟨rfl, rfl⟩
theorem is_no (k : Int) (w : World) (h : ¬ (1 ≤ k ∧ k ≤ 8)) : Calls Try.prog 68 #[.int .i64 k] w fun e w' => e = .returned (.bool false) ∧ w = w' := by
  by_cases h1 : 1 ≤ k
  · have h8 : ¬ k ≤ 8 := fun h8 => h ⟨h1, h8⟩
    have h9 : decide (k ≤ 8) = false := by simpa using h8
    clear h
    go_enter Try.func68, Try.ntmps68
    go_wp2
    go_ret
    exact ⟨rfl, rfl⟩
  · have h9 : decide (1 ≤ k) = false := by simpa using h1
    clear h
    go_enter Try.func68, Try.ntmps68
    go_wp2
    go_ret
    exact ⟨rfl, rfl⟩

theorem eight {k : Nat} (h1 : 1 ≤ k) (h8 : k ≤ 8) {P : Nat → Prop} (a1 : P 1) (a2 : P 2) (a3 : P 3) (a4 : P 4) (a5 : P 5) (a6 : P 6) (a7 : P 7) (a8 : P 8) : P k := by
  have hk : k = 1 ∨ k = 2 ∨ k = 3 ∨ k = 4 ∨ k = 5 ∨ k = 6 ∨ k = 7 ∨ k = 8 := by omega
  rcases hk with rfl | rfl | rfl | rfl | rfl | rfl | rfl | rfl <;> assumption

/-! ### Bits, as the walk spells them -/
theorem and_127 {n : Nat} (h : n < 256) : bits .and .u8 (n : Int) 127 = ((n % 128 : Nat) : Int) := by
  rw [show (127 : Int) = ((127 : Nat) : Int) from rfl, u8_and_nat n 127 h (by omega), nat_mask7]
theorem and_128_no {n : Nat} (h : n < 128) : bits .and .u8 (n : Int) 128 = 0 := by
  rw [show (128 : Int) = ((128 : Nat) : Int) from rfl, u8_and_nat n 128 (by omega) (by omega), nat_bit7]
  omega
theorem and_128_yes {n : Nat} (h : ¬ n < 128) (h1 : n < 256) : bits .and .u8 (n : Int) 128 = 128 := by
  rw [show (128 : Int) = ((128 : Nat) : Int) from rfl, u8_and_nat n 128 (by omega) (by omega), nat_bit7]
  omega
theorem or_128 {n : Nat} (h : n < 128) : bits .or .u8 128 (n : Int) = ((n + 128 : Nat) : Int) := by
  rw [show (128 : Int) = ((128 : Nat) : Int) from rfl, u8_or_nat 128 n (by omega) (by omega)]
  have := Nat.two_pow_add_eq_or_of_lt (i := 7) (show n < 2 ^ 7 by omega) 1
  rw [show 2 ^ 7 * 1 = 128 from rfl] at this
  omega
theorem and32_127 {n : Nat} (h : n < 4294967296) : bits .and .u32 (n : Int) 127 = ((n % 128 : Nat) : Int) := by
  rw [show (127 : Int) = ((127 : Nat) : Int) from rfl, u32_and_nat n 127 h (by omega), nat_mask7]
theorem or32 {r d i : Nat} (hr : r < 2 ^ i) (h : d * 2 ^ i < 4294967296) (h' : r < 4294967296) : bits .or .u32 (r : Int) ((d * 2 ^ i : Nat) : Int) = ((r + d * 2 ^ i : Nat) : Int) := by
  rw [u32_or_nat r _ h' h, Nat.or_comm, Nat.mul_comm]
  have := Nat.two_pow_add_eq_or_of_lt hr d
  omega
theorem andNot_hi {k a : Nat} (h1 : 1 ≤ k) (h8 : k ≤ 8) (ha : a < 256) : bits .andNot .u8 (a : Int) ((2 ^ k - 1 : Nat) : Int) = (hiN k a : Int) := by
  have hp := pow_le h1 h8
  rw [u8_andNot_nat a _ ha (by omega)]
  unfold hiN
  refine eight h1 h8 (P := fun k => ((a &&& (255 - (2 ^ k - 1)) : Nat) : Int) = ((a / 2 ^ k * 2 ^ k : Nat) : Int)) ?_ ?_ ?_ ?_ ?_ ?_ ?_ ?_
  · rw [show 255 - (2 ^ 1 - 1) = 254 from rfl, nat_hi8_1]; omega
  · rw [show 255 - (2 ^ 2 - 1) = 252 from rfl, nat_hi8_2]; omega
  · rw [show 255 - (2 ^ 3 - 1) = 248 from rfl, nat_hi8_3]; omega
  · rw [show 255 - (2 ^ 4 - 1) = 240 from rfl, nat_hi8_4]; omega
  · rw [show 255 - (2 ^ 5 - 1) = 224 from rfl, nat_hi8_5]; omega
  · rw [show 255 - (2 ^ 6 - 1) = 192 from rfl, nat_hi8_6]; omega
  · rw [show 255 - (2 ^ 7 - 1) = 128 from rfl, nat_hi8_7]; omega
  · rw [show 255 - (2 ^ 8 - 1) = 0 from rfl, Nat.and_zero]; omega
theorem or_hi {k a m : Nat} (h1 : 1 ≤ k) (h8 : k ≤ 8) (ha : a < 256) (hm : m ≤ 2 ^ k - 1) : bits .or .u8 (hiN k a : Int) (m : Int) = ((hiN k a + m : Nat) : Int) := by
  have hp := pow_le h1 h8
  have hl := hiN_lt h1 h8 ha
  rw [u8_or_nat _ m (by omega) (by omega)]
  have := Nat.two_pow_add_eq_or_of_lt (show m < 2 ^ k by omega) (a / 2 ^ k)
  unfold hiN
  rw [Nat.mul_comm, ← this]
theorem and32_low {k b : Nat} (h1 : 1 ≤ k) (h8 : k ≤ 8) (hb : b < 256) : bits .and .u32 (b : Int) ((2 ^ k - 1 : Nat) : Int) = ((b % 2 ^ k : Nat) : Int) := by
  have hp := pow_le h1 h8
  rw [u32_and_nat b _ (by omega) (by omega), Nat.and_two_pow_sub_one_eq_mod]

theorem ret_int {k : IntKind} {a b : Int} (h : a = b) : Ending.returned (.int k a) = .returned (.int k b) := by rw [h]
theorem ones_any (k : Nat) (w : World) (h1 : 1 ≤ k) (h8 : k ≤ 8) : Calls Try.prog 69 #[.int .i64 (k : Int)] w fun e w' => e = .returned (.int .u32 ((2 ^ k - 1 : Nat) : Int)) ∧ w = w' := by
  go_enter Try.func69, Try.ntmps69
  go_wp2
  go_ret
  refine ⟨ret_int ?_, rfl⟩
  refine eight h1 h8 (P := fun k => (2 ^ (k : Int).toNat % 4294967296 - 1) % 4294967296 = ((2 ^ k - 1 : Nat) : Int)) ?_ ?_ ?_ ?_ ?_ ?_ ?_ ?_ <;> decide

theorem top_any (k : Nat) (w : World) (h1 : 1 ≤ k) (h8 : k ≤ 8) : Calls Try.prog 49 #[.int .i64 (k : Int)] w fun e w' => e = .returned (.int .u64 ((2 ^ k - 1 : Nat) : Int)) ∧ w = w' := by
  go_enter Try.func49, Try.ntmps49
  go_wp2
  go_loop [3, 4] (fun n i => ∃ j p : Nat, j ≤ k ∧ Hid (p = 2 ^ j) ∧ i = .int .i64 j ∧ n = .int .u64 p) (fun _ i => k - (intOf i).toNat)
  case atStart => exact ⟨0, 1, Nat.zero_le _, rfl, rfl, rfl⟩
  case round =>
    obtain ⟨j, p, hj, hp, rfl, rfl⟩ := hrel
    have hp8 : p ≤ 256 := by rw [hp.out]; exact Nat.le_trans (Nat.pow_le_pow_right (by omega) (show j ≤ 8 by omega)) (by decide)
    have hp1 : 1 ≤ p := by rw [hp.out]; exact Nat.pow_pos (by omega)
    by_cases hlt : j < k
    · go_wp2
      go_round
      case rel => exact ⟨j + 1, p * 2, by omega, by rw [hp.out]; exact (Nat.pow_succ ..).symm, by go_num, by go_num⟩
      case measure => simp [intOf]; omega
    · go_wp2
      go_ret
      refine ⟨ret_int ?_, rfl⟩
      have : j = k := by omega
      subst this
      rw [hp.out]
      have := Nat.pow_pos (a := 2) (n := j) (by omega)
      omega
end Go.Proofs.Ytfajffchnnalaaa
