/-
  the program's getRest, by its contract: what the bytes behind the first one tell. Conditions: at most 65536 bytes.
-/
import Derived.Test.YtfajffchnnalaaaPfxSmall
namespace Go.Proofs.Ytfajffchnnalaaa
open Go.RowKit Go.WideShapes

theorem ret3 {k1 k2 k3 : IntKind} {a b c a' b' c' : Int} (h1 : a = a') (h2 : b = b') (h3 : c = c') : Ending.returned (.tuple #[.int k1 a, .int k2 b, .int k3 c]) = .returned (.tuple #[.int k1 a', .int k2 b', .int k3 c']) := by rw [h1, h2, h3]

theorem pow_seven (j : Nat) : 128 ^ j = 2 ^ (7 * j) := by rw [Nat.pow_mul]
theorem digit_u32 {n j : Nat} (hn : n < 256) (hj : j ≤ 3) : bits .and .u8 (n : Int) 127 % 4294967296 * 2 ^ (7 * j) % 4294967296 = ((n % 128 * 128 ^ j : Nat) : Int) := by
  rw [and_127 hn]
  have hk : j = 0 ∨ j = 1 ∨ j = 2 ∨ j = 3 := by omega
  rcases hk with rfl | rfl | rfl | rfl <;> simp <;> omega
theorem digit_bd {n j : Nat} (hj : j ≤ 3) : n % 128 * 128 ^ j < 128 ^ (j + 1) ∧ 128 ^ (j + 1) ≤ 268435456 := by
  have hk : j = 0 ∨ j = 1 ∨ j = 2 ∨ j = 3 := by omega
  rcases hk with rfl | rfl | rfl | rfl <;> simp <;> omega
theorem digit_sum {r n j : Nat} (hr : r < 128 ^ j) (hj : j ≤ 3) : r + n % 128 * 128 ^ j < 128 ^ (j + 1) := by
  have hk : j = 0 ∨ j = 1 ∨ j = 2 ∨ j = 3 := by omega
  rcases hk with rfl | rfl | rfl | rfl <;> simp at hr ⊢ <;> omega

set_option maxHeartbeats 2000000 in
theorem rest_any (A : Option Addr) (c : Nat) (l : List UInt8) (hl : l.length ≤ 65536) (w : World) (B : Nat) (hr : RdB w B A l) :
    Calls Try.prog 74 #[.slice A l.length c] w fun e w' => e = .returned (.tuple #[.int .u32 ((getR 0 0 l).1 : Int), .int .i64 ((getR 0 0 l).2.1 : Int), .int .i64 ((getR 0 0 l).2.2 : Int)]) ∧ w = w' := by
  generalize hG : getR 0 0 l = G
  obtain ⟨x, y, z⟩ := G
  have HG := Lib.hid hG
  clear hG
  go_enter Try.func74, Try.ntmps74
  go_wp2
  go_loop [5, 10] (fun r i => ∃ j r' : Nat, j ≤ l.length ∧ j ≤ 4 ∧ i = .int .i64 j ∧ r = .int .u32 r' ∧ Hid (r' < 128 ^ j) ∧ Hid (getR j r' (l.drop j) = (x, y, z))) (fun _ i => l.length - (intOf i).toNat)
  case atStart => exact ⟨0, 0, Nat.zero_le _, Nat.zero_le _, rfl, rfl, by show _ < _; decide, by simpa using HG⟩
  case round =>
    obtain ⟨j, r', hj, hj4, rfl, rfl, hr', hE⟩ := hrel
    by_cases hlt : j < l.length
    · obtain ⟨g, o, rfl, _, hc⟩ := hr (by rintro rfl; simp at hlt)
      have hcell := hc j hlt
      have hE' : Hid (getR j r' (l[j] :: l.drop (j + 1)) = (x, y, z)) := by rw [← List.drop_eq_getElem_cons hlt]; exact hE
      generalize l[j] = b at hcell hE'
      have hb := b.toNat_lt
      clear hE hc hr
      by_cases h4 : j = 4
      · subst h4
        obtain ⟨rfl, rfl, rfl⟩ : x = 0 ∧ y = 0 ∧ z = 4 := by
          have := hE'.out
          rw [getR_four] at this
          simp only [Prod.mk.injEq] at this
          omega
        clear hE'
        go_wp2
        go_ret3
        exact ⟨rfl, rfl⟩
      · have hj3 : j ≤ 3 := by omega
        have h4b : ((j : Int) == 4) = false := by rw [beq_eq_false_iff_ne]; omega
        have hbd := digit_bd (n := b.toNat) hj3
        have hsum := digit_sum (n := b.toNat) hr'.out hj3
        have hrl : r' < 128 ^ j := hr'.out
        have hle : 128 ^ j ≤ 128 ^ (j + 1) := Nat.pow_le_pow_right (by omega) (by omega)
        have hdig := digit_u32 (n := b.toNat) (by omega) hj3
        obtain ⟨D, hD⟩ : ∃ D, D = b.toNat % 128 * 128 ^ j := ⟨_, rfl⟩
        have hor : bits .or .u32 (r' : Int) (D : Int) = ((r' + D : Nat) : Int) := by
          rw [hD, pow_seven]
          exact or32 (by rw [← pow_seven]; exact hrl) (by rw [← pow_seven]; omega) (by omega)
        rw [← hD] at hbd hsum hdig
        have hS : Hid (r' + D < 128 ^ (j + 1)) := hsum
        have hS32 : r' + D < 268435456 := by omega
        have HD := Lib.hid hD
        clear hD hbd hsum hrl hle
        by_cases hlast : b.toNat < 128
        · have hz := and_128_no hlast
          obtain ⟨rfl, rfl, rfl⟩ : x = r' + D ∧ y = j + 1 ∧ z = 0 := by
            have := hE'.out
            rw [getR_last h4 _ hlast, ← HD.out] at this
            simp only [Prod.mk.injEq] at this
            omega
          clear hE'
          go_wp2
          go_ret3
          exact ⟨ret3 (by omega) (by omega) rfl, rfl⟩
        · have hz := and_128_yes hlast (by omega)
          have hE2 : Hid (getR (j + 1) (r' + D) (l.drop (j + 1)) = (x, y, z)) := by
            have := hE'.out
            rw [getR_more h4 _ hlast, ← HD.out] at this
            exact this
          clear hE' hr'
          go_wp2
          go_round
          case rel => exact ⟨j + 1, r' + D, by omega, by omega, by go_num, by go_num, hS, hE2⟩
          case measure => simp [intOf]; omega
    · obtain rfl : j = l.length := by omega
      obtain ⟨rfl, rfl, rfl⟩ : x = 0 ∧ y = 0 ∧ z = 2 := by
        have := hE.out
        rw [List.drop_length, getR] at this
        simp only [Prod.mk.injEq] at this
        omega
      clear hE hr'
      go_wp2
      go_ret3
      exact ⟨rfl, rfl⟩
end Go.Proofs.Ytfajffchnnalaaa
