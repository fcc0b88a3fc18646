/-
  The bits that Encode and Decode shift, as the walk spells them. No conditions but those that each theorem names.
-/
import Derived.Test.YtfajffchnnalaaaHmath
import Derived.WalkKit
import Derived.IntWalk
namespace Go.Proofs.Ytfajffchnnalaaa
open Go.RowKit

theorem held_more {h nb x n v : Nat} (_hh : h < 18446744073709551616) (hnb : nb ≤ 30) (hx : x < 2 ^ nb) (hn : n < 8) (hv : h % 2 ^ n = v) :
    ∃ H : Nat, H < 18446744073709551616 ∧ bits .or .u64 (IntKind.u64.wrap ((h : Int) * 2 ^ nb)) (x : Int) = (H : Int) ∧ H % 2 ^ (n + nb) = v * 2 ^ nb + x := by
  have hp : 0 < 2 ^ nb := Nat.two_pow_pos nb
  have hp30 : 2 ^ nb ≤ 1073741824 := Nat.le_trans (Nat.pow_le_pow_right (by omega) hnb) (by decide)
  have h64 : 18446744073709551616 = 2 ^ nb * 2 ^ (64 - nb) := by rw [← Nat.pow_add, show nb + (64 - nb) = 64 by omega]
  have hA : IntKind.u64.wrap ((h : Int) * 2 ^ nb) = ((2 ^ nb * (h % 2 ^ (64 - nb)) : Nat) : Int) := by
    rw [IntKind.wrap_u64]
    have e1 : ((h : Int) * 2 ^ nb) = ((2 ^ nb * h : Nat) : Int) := by rw [Nat.mul_comm]; simp
    rw [e1, ← Nat.mul_mod_mul_left, ← h64]
    simp
  have hlt : 2 ^ nb * (h % 2 ^ (64 - nb)) + x < 18446744073709551616 := by
    have h1 : h % 2 ^ (64 - nb) < 2 ^ (64 - nb) := Nat.mod_lt _ (Nat.two_pow_pos _)
    have h2 : 2 ^ nb * (h % 2 ^ (64 - nb) + 1) ≤ 2 ^ nb * 2 ^ (64 - nb) := Nat.mul_le_mul_left _ (by omega)
    rw [← h64, Nat.mul_add, Nat.mul_one] at h2
    omega
  refine ⟨2 ^ nb * (h % 2 ^ (64 - nb)) + x, hlt, ?_, ?_⟩
  · rw [hA, u64_or_nat _ _ (by omega) (by omega), ← Nat.two_pow_add_eq_or_of_lt hx]
  · rw [Nat.add_comm n nb, Nat.pow_add, Nat.mod_mul]
    have h1 : (2 ^ nb * (h % 2 ^ (64 - nb)) + x) % 2 ^ nb = x := by rw [Nat.mul_add_mod, Nat.mod_eq_of_lt hx]
    have h2 : (2 ^ nb * (h % 2 ^ (64 - nb)) + x) / 2 ^ nb = h % 2 ^ (64 - nb) := by
      rw [Nat.mul_add_div hp, Nat.div_eq_of_lt hx, Nat.add_zero]
    have h3 : h % 2 ^ (64 - nb) % 2 ^ n = v := by
      rw [Nat.mod_mod_of_dvd _ (Nat.pow_dvd_pow 2 (by omega)), hv]
    rw [h1, h2, h3, Nat.mul_comm v]
    omega
theorem held_out {H m : Nat} {p : List Bool} (hp : p.length = m + 8) (hv : H % 2 ^ (m + 8) = val p) :
    H / 2 ^ m % 256 = val (p.take 8) ∧ H % 2 ^ m = val (p.drop 8) := by
  have h1 : val p = val (p.take 8) * 2 ^ m + val (p.drop 8) := by
    conv => lhs; rw [← List.take_append_drop 8 p]
    rw [val_append, List.length_drop, show p.length - 8 = m by omega]
  have h2 : val (p.drop 8) < 2 ^ m := by
    have := val_lt (p.drop 8)
    rwa [List.length_drop, show p.length - 8 = m by omega] at this
  have h3 : 0 < 2 ^ m := Nat.two_pow_pos m
  rw [Nat.pow_add, Nat.mod_mul] at hv
  have h4 : H % 2 ^ m < 2 ^ m := Nat.mod_lt _ h3
  rw [h1, Nat.mul_comm (val (p.take 8))] at hv
  have e1 : (H % 2 ^ m + 2 ^ m * (H / 2 ^ m % 2 ^ 8)) / 2 ^ m = H / 2 ^ m % 2 ^ 8 := by
    rw [Nat.add_mul_div_left _ _ h3, Nat.div_eq_of_lt h4, Nat.zero_add]
  have e2 : (2 ^ m * val (p.take 8) + val (p.drop 8)) / 2 ^ m = val (p.take 8) := by
    rw [Nat.mul_add_div h3, Nat.div_eq_of_lt h2, Nat.add_zero]
  have e3 : (H % 2 ^ m + 2 ^ m * (H / 2 ^ m % 2 ^ 8)) % 2 ^ m = H % 2 ^ m := by
    rw [Nat.add_mul_mod_self_left, Nat.mod_eq_of_lt h4]
  have e4 : (2 ^ m * val (p.take 8) + val (p.drop 8)) % 2 ^ m = val (p.drop 8) := by
    rw [Nat.mul_add_mod, Nat.mod_eq_of_lt h2]
  exact ⟨by rw [show 256 = 2 ^ 8 from rfl, ← e1, hv, e2], by rw [← e3, hv, e4]⟩
/-- The last byte: what is held, and ones. -/
theorem held_last {h n r : Nat} {p : List Bool} (hp : p.length = n) (hr : n + r = 8) (hv : h % 2 ^ n = val p) :
    bits .or .u8 (IntKind.u8.wrap (IntKind.u64.wrap ((h : Int) * 2 ^ r))) (IntKind.u8.wrap ((2 ^ r - 1 : Nat) : Int)) = ((val (p ++ List.replicate r true) : Nat) : Int) := by
  have h3 : 0 < 2 ^ r := Nat.two_pow_pos r
  have hr8 : 2 ^ r ≤ 256 := Nat.le_trans (Nat.pow_le_pow_right (by omega) (show r ≤ 8 by omega)) (by decide)
  have hvl := val_lt p
  rw [hp] at hvl
  have hpr : 2 ^ n * 2 ^ r = 256 := by rw [← Nat.pow_add, hr]
  have e0 : IntKind.u8.wrap (IntKind.u64.wrap ((h : Int) * 2 ^ r)) = ((2 ^ r * val p : Nat) : Int) := by
    rw [IntKind.wrap_u64, IntKind.wrap_u8']
    have e1 : ((h : Int) * 2 ^ r) = ((2 ^ r * h : Nat) : Int) := by rw [Nat.mul_comm]; simp
    rw [e1]
    have e2 : 2 ^ r * h % 256 = 2 ^ r * val p := by
      rw [← hpr, Nat.mul_comm (2 ^ n), Nat.mul_mod_mul_left, hv]
    omega
  have e1 : IntKind.u8.wrap ((2 ^ r - 1 : Nat) : Int) = ((2 ^ r - 1 : Nat) : Int) := by rw [IntKind.wrap_u8']; omega
  have hb : 2 ^ r * val p < 256 := by
    have : 2 ^ r * (val p + 1) ≤ 2 ^ r * 2 ^ n := Nat.mul_le_mul_left _ (by omega)
    rw [Nat.mul_comm (2 ^ r) (2 ^ n), hpr, Nat.mul_add, Nat.mul_one] at this
    omega
  rw [e0, e1, u8_or_nat _ _ hb (by omega), ← Nat.two_pow_add_eq_or_of_lt (show 2 ^ r - 1 < 2 ^ r by omega), val_append, List.length_replicate, val_ones, Nat.mul_comm (val p)]
theorem bits_len {L : List UInt8} {p : List Bool} {s : List UInt8} (h : unpack L ++ p = encB s) (hs : s.length ≤ 9000) : L.length ≤ 33750 := by
  have h1 := congrArg List.length h
  rw [List.length_append, unpack_len, encB_len] at h1
  have := (bitsN_bd s).2
  omega
/-- A byte's bit. -/
theorem bit_at {x : UInt8} {j e : Nat} (hj : j + e = 7) : ∃ h : j < (byteB x).length, (x.toNat / 2 ^ e) % 2 = ((byteB x)[j]'h).toNat := by
  have h8 : j < (byteB x).length := by rw [byteB_len]; omega
  refine ⟨h8, ?_⟩
  have hv := byteB_val x
  have h1 : byteB x = (byteB x).take j ++ ((byteB x)[j] :: (byteB x).drop (j + 1)) := by
    rw [← List.drop_eq_getElem_cons h8, List.take_append_drop]
  have hd : ((byteB x).drop (j + 1)).length = e := by rw [List.length_drop, byteB_len]; omega
  generalize (byteB x)[j] = b at h1
  generalize (byteB x).take j = p at h1
  generalize (byteB x).drop (j + 1) = q at h1 hd
  rw [← hv, h1, val_append, val_cons, List.length_cons, hd, Nat.pow_succ]
  have hq := val_lt q
  rw [hd] at hq
  have hp : 0 < 2 ^ e := Nat.two_pow_pos e
  have e1 : val p * (2 ^ e * 2) + (b.toNat * 2 ^ e + val q) = 2 ^ e * (val p * 2 + b.toNat) + val q := by
    rw [Nat.mul_add, Nat.mul_comm b.toNat, ← Nat.mul_assoc, ← Nat.mul_assoc, Nat.mul_comm (val p)]
    omega
  rw [e1, Nat.mul_add_div hp, Nat.div_eq_of_lt hq, Nat.add_zero]
  cases b <;> simp
theorem bit_walk {x : UInt8} {j e : Nat} (hj : j + e = 7) (h : j < (byteB x).length) : bits .and .u8 ((x.toNat : Int) / 2 ^ e) 1 = (((byteB x)[j]).toNat : Int) := by
  obtain ⟨_, h1⟩ := bit_at (x := x) hj
  have hx := x.toNat_lt
  have h2 : x.toNat / 2 ^ e ≤ x.toNat := Nat.div_le_self _ _
  rw [show ((x.toNat : Int) / 2 ^ e) = ((x.toNat / 2 ^ e : Nat) : Int) by simp, show (1 : Int) = ((1 : Nat) : Int) from rfl, u8_and_nat _ 1 (by omega) (by omega), Nat.and_one_is_mod, h1]
/-- A code that grows by a bit, in 32 bits. -/
theorem num_walk (p : List Bool) (b : Bool) : bits .or .u32 (IntKind.u32.wrap (((val p % 4294967296 : Nat) : Int) * 2)) (b.toNat : Int) = ((val (p ++ [b]) % 4294967296 : Nat) : Int) := by
  have hb : b.toNat < 2 := by cases b <;> decide
  have e0 : IntKind.u32.wrap (((val p % 4294967296 : Nat) : Int) * 2) = ((2 ^ 1 * (val p % 2147483648) : Nat) : Int) := by
    rw [IntKind.wrap_u32]; omega
  rw [e0, u32_or_nat _ _ (by omega) (by omega), ← Nat.two_pow_add_eq_or_of_lt (i := 1) (by omega), val_append]
  simp only [List.length_cons, List.length_nil, Nat.zero_add, Nat.pow_one]
  have : val [b] = b.toNat := by cases b <;> rfl
  rw [this]
  omega
end Go.Proofs.Ytfajffchnnalaaa
