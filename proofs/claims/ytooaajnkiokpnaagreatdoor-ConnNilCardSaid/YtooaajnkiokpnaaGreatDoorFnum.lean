/-
  frame's getNumber, getStream, Head, by their contracts. Conditions: the bytes are read.
-/
import Derived.Test.YtooaajnkiokpnaaGreatDoorProg
import Derived.Test.YtooaajnkiokpnaaGreatDoorFs
import Derived.Test.YtooaajnkiokpnaaGreatDoorFback
import Derived.Deep.QuietTactic
import Derived.BigQuiet
namespace Go.Proofs.YtooaajnkiokpnaaGreatDoor
open Go.RowKit Go.WideShapes

theorem or_step {a b k : Nat} (hb : b < 2 ^ k) (h : a * 2 ^ k + b < 4294967296) : bits .or .u32 ((a * 2 ^ k : Nat) : Int) (b : Int) = ((a * 2 ^ k + b : Nat) : Int) := by
  have h2 : a * 2 ^ k < 4294967296 := by omega
  rw [u32_or_nat _ b h2 (by omega), Nat.mul_comm]
  have := Nat.two_pow_add_eq_or_of_lt hb a
  omega

theorem or4 {n0 n1 n2 n3 : Nat} (b0 : n0 < 256) (b1 : n1 < 256) (b2 : n2 < 256) (b3 : n3 < 256) :
    bits .or .u32 (bits .or .u32 (bits .or .u32 ((n0 : Int) * 16777216) ((n1 : Int) * 65536)) ((n2 : Int) * 256)) (n3 : Int) = ((n0 * 16777216 + n1 * 65536 + n2 * 256 + n3 : Nat) : Int) := by
  have h1 := or_step (a := n0) (b := n1 * 65536) (k := 24) (by omega) (by omega)
  have h2 := or_step (a := n0 * 256 + n1) (b := n2 * 256) (k := 16) (by omega) (by omega)
  have h3 := or_step (a := n0 * 65536 + n1 * 256 + n2) (b := n3) (k := 8) (by omega) (by omega)
  rw [show ((n0 * 2 ^ 24 : Nat) : Int) = (n0 : Int) * 16777216 by omega, show ((n1 * 65536 : Nat) : Int) = (n1 : Int) * 65536 by omega, show ((n0 * 2 ^ 24 + n1 * 65536 : Nat)) = (n0 * 256 + n1) * 2 ^ 16 by omega] at h1
  rw [show ((n2 * 256 : Nat) : Int) = (n2 : Int) * 256 by omega, show (((n0 * 256 + n1) * 2 ^ 16 + n2 * 256 : Nat)) = (n0 * 65536 + n1 * 256 + n2) * 2 ^ 8 by omega] at h2
  rw [h1, h2, h3]
  omega
theorem or2 {n0 n1 : Nat} (b0 : n0 < 256) (b1 : n1 < 256) : bits .or .u16 ((n0 : Int) * 256) (n1 : Int) = ((n0 * 256 + n1 : Nat) : Int) := by
  rw [show (n0 : Int) * 256 = ((n0 * 256 : Nat) : Int) by omega, u16_or_nat _ n1 (by omega) (by omega), Nat.mul_comm]
  have h : 256 * n0 + n1 = 256 * n0 ||| n1 := Nat.two_pow_add_eq_or_of_lt (i := 8) (show n1 < 2 ^ 8 by omega) n0
  omega
theorem and31 {n : Nat} (h : n < 4294967296) : bits .and .u32 (n : Int) 2147483647 = ((n % 2147483648 : Nat) : Int) := by
  rw [show (2147483647 : Int) = ((2 ^ 31 - 1 : Nat) : Int) from rfl, u32_and_nat n _ h (by omega), Nat.and_two_pow_sub_one_eq_mod]
theorem alone31 {n : Nat} (h : n < 4294967296) : bits .and .u32 (n : Int) 2147483648 = ((n / 2147483648 * 2147483648 : Nat) : Int) := by
  rw [show (2147483648 : Int) = ((2147483648 : Nat) : Int) from rfl, u32_and_nat n _ h (by omega)]
  congr 1
  have h1 : n / 2147483648 = 0 ∨ n / 2147483648 = 1 := by omega
  have h2 : n &&& 2147483648 = (n / 2 ^ 31 &&& 1) * 2 ^ 31 + (n % 2 ^ 31 &&& 0) := by
    apply Nat.eq_of_testBit_eq
    intro i
    rw [Nat.and_zero, Nat.add_zero, Nat.testBit_and, Nat.testBit_mul_two_pow, Nat.testBit_and, Nat.testBit_div_two_pow]
    rw [show (2147483648 : Nat) = 2 ^ 31 from rfl, Nat.testBit_two_pow]
    by_cases hi : 31 = i
    · subst hi; simp
    · by_cases h31 : 31 ≤ i
      · have : (1 : Nat).testBit (i - 31) = false := by
          rw [show (1 : Nat) = 2 ^ 0 from rfl, Nat.testBit_two_pow]
          simp
          omega
        simp [hi, this]
      · simp [hi, h31]
  rw [h2, Nat.and_zero, Nat.add_zero, Nat.and_one_is_mod]
  omega

set_option maxRecDepth 100000 in
set_option maxHeartbeats 2000000 in
theorem getNumber_any {B : Nat} {A : Option Addr} {c : Nat} {l : List UInt8} {w : World} (hr : RdB w B A l) (hl : 4 ≤ l.length) (hc : l.length ≤ 1099511627776) :
    Calls Tryz.prog 189 #[.slice A l.length c] w fun e w' => e = .returned (.int .u32 (valL (l.take 4) : Nat)) ∧ ∃ n, w' = w.drewN n := by
  obtain ⟨g, o, rfl, _, hcell⟩ := hr (by intro e; rw [e] at hl; simp at hl)
  obtain ⟨a0, a1, a2, a3, r, hL⟩ := four hl
  have c0 : w.cell? ⟨g, o, none⟩ = some (.int .u8 (a0.toNat : Int)) := by have := hcell 0 (by omega); simpa [hL] using this
  have c1 : w.cell? ⟨g, o + 1, none⟩ = some (.int .u8 (a1.toNat : Int)) := by have := hcell 1 (by omega); simpa [hL] using this
  have c2 : w.cell? ⟨g, o + 2, none⟩ = some (.int .u8 (a2.toNat : Int)) := by have := hcell 2 (by omega); simpa [hL] using this
  have c3 : w.cell? ⟨g, o + 3, none⟩ = some (.int .u8 (a3.toNat : Int)) := by have := hcell 3 (by omega); simpa [hL] using this
  have hv : valL (l.take 4) = a0.toNat * 16777216 + a1.toNat * 65536 + a2.toNat * 256 + a3.toNat := by rw [hL]; exact val4 a0 a1 a2 a3
  rw [hv]
  have b0 := a0.toNat_lt
  have b1 := a1.toNat_lt
  have b2 := a2.toNat_lt
  have b3 := a3.toNat_lt
  clear hcell hr hL hv
  generalize l.length = n at *
  generalize a0.toNat = n0 at *
  generalize a1.toNat = n1 at *
  generalize a2.toNat = n2 at *
  generalize a3.toNat = n3 at *
  have m0 : (0 : Int) < (n : Int) := by omega
  have m1 : (1 : Int) < (n : Int) := by omega
  have m2 : (2 : Int) < (n : Int) := by omega
  have m3 : (3 : Int) < (n : Int) := by omega
  go_enter Tryz.func189, Tryz.ntmps189
  go_wp2
  go_quiet (fail)
  go_wp2
  go_ret
  exact ⟨ret1 (or4 b0 b1 b2 b3), _, rfl⟩
theorem head4 (l : List UInt8) : valL (l.take 4) < 4294967296 := by
  have h1 := valL_lt (l.take 4)
  have h2 : 256 ^ (l.take 4).length ≤ 256 ^ 4 := Nat.pow_le_pow_right (by omega) (by simp; omega)
  omega
set_option maxRecDepth 100000 in
set_option maxHeartbeats 2000000 in
theorem getStream_any {B : Nat} {A : Option Addr} {c : Nat} {l : List UInt8} {w : World} (hr : RdB w B A l) (hl : 4 ≤ l.length) (hc : l.length ≤ 1099511627776) :
    Calls Tryz.prog 162 #[.slice A l.length c] w fun e w' => e = .returned (.int .u32 (valL (l.take 4) % 2147483648 : Nat)) ∧ ∃ n, w' = w.drewN n := by
  have hn := getNumber_any (c := c) hr hl hc
  have ha := and31 (head4 l)
  generalize valL (l.take 4) = v at *
  clear hr
  go_enter Tryz.func162, Tryz.ntmps162
  go_wp2_with fail
  refine hn.mono ?_
  rintro e w1 ⟨rfl, nq, rfl⟩
  go_wp2_with fail
  go_ret
  exact ⟨ret1 (by omega), nq, rfl⟩

theorem val3 (a b c : UInt8) : valL [a, b, c] = a.toNat * 65536 + b.toNat * 256 + c.toNat := by simp only [valL, List.foldl_cons, List.foldl_nil]; omega
theorem three {l : List UInt8} (h : 3 ≤ l.length) : ∃ a b c r, l = a :: b :: c :: r := by
  match l, h with
  | a :: b :: c :: r, _ => exact ⟨a, b, c, r, rfl⟩
set_option maxRecDepth 100000 in
theorem head_no {A : Option Addr} {c n : Nat} {w : World} (hl : n < 9) :
    Calls Tryz.prog 125 #[.slice A n c] w fun e w' => e = .returned (.tuple #[.int .i64 0, .bool false]) ∧ w' = w := by
  have h : (n : Int) < 9 := by omega
  go_enter Tryz.func125, Tryz.ntmps125
  go_wp2
  go_ret2
  exact ⟨rfl, rfl⟩
theorem ret2i {a b : Int} {v : Value} (h : a = b) : Ending.returned (.tuple #[.int .i64 a, v]) = .returned (.tuple #[.int .i64 b, v]) := by rw [h]
set_option maxRecDepth 100000 in
set_option maxHeartbeats 2000000 in
theorem head_yes {B : Nat} {A : Option Addr} {c : Nat} {l : List UInt8} {w : World} (hr : RdB w B A l) (hl : 9 ≤ l.length) (hc : l.length ≤ 1099511627776) :
    Calls Tryz.prog 125 #[.slice A l.length c] w fun e w' => e = .returned (.tuple #[.int .i64 (9 + valL (l.take 3) : Nat), .bool true]) ∧ ∃ n, w' = w.drewN n := by
  obtain ⟨g, o, rfl, _, hcell⟩ := hr (by intro e; rw [e] at hl; simp at hl)
  obtain ⟨a0, a1, a2, r, hL⟩ := three (l := l) (by omega)
  have c0 : w.cell? ⟨g, o, none⟩ = some (.int .u8 (a0.toNat : Int)) := by have := hcell 0 (by omega); simpa [hL] using this
  have c1 : w.cell? ⟨g, o + 1, none⟩ = some (.int .u8 (a1.toNat : Int)) := by have := hcell 1 (by omega); simpa [hL] using this
  have c2 : w.cell? ⟨g, o + 2, none⟩ = some (.int .u8 (a2.toNat : Int)) := by have := hcell 2 (by omega); simpa [hL] using this
  have hv : valL (l.take 3) = a0.toNat * 65536 + a1.toNat * 256 + a2.toNat := by rw [hL]; exact val3 a0 a1 a2
  rw [hv]
  have b0 := a0.toNat_lt
  have b1 := a1.toNat_lt
  have b2 := a2.toNat_lt
  clear hcell hr hL hv
  generalize l.length = n at *
  generalize a0.toNat = n0 at *
  generalize a1.toNat = n1 at *
  generalize a2.toNat = n2 at *
  have m0 : (0 : Int) < (n : Int) := by omega
  have m1 : (1 : Int) < (n : Int) := by omega
  have m2 : (2 : Int) < (n : Int) := by omega
  have m9 : decide ((n : Int) < 9) = false := by simp; omega
  go_enter Tryz.func125, Tryz.ntmps125
  go_wp2
  go_quiet (fail)
  go_wp2
  go_ret2
  exact ⟨ret2i (by omega), _, rfl⟩
end Go.Proofs.YtooaajnkiokpnaaGreatDoor
