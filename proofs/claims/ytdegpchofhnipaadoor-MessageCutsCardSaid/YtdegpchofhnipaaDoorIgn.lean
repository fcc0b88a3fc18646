/-
  wsframe's getNumber, length, mayFirst, maySecond, and fault.Socket, by their contracts. Conditions: the bytes are read.
-/
import Derived.Test.YtdegpchofhnipaaDoorIsm
import Derived.Test.YtdegpchofhnipaaDoorFerr
import Derived.Deep.QuietTactic
import Derived.BigQuiet
namespace Go.Proofs.YtdegpchofhnipaaDoor
open Go.RowKit Go.WideShapes

theorem socket_any (c : Int) (w : World) : Calls Tryd.prog 32 #[.int .u32 c] w (Err 3 c w) := by
  have hn := new_some 3 c (by omega)
  go_enter Tryd.func32, Tryd.ntmps32
  go_wp2_with fail
  refine (hn _).mono ?_
  rintro e w1 ⟨rfl, rfl⟩
  go_wp2_with fail
  go_ret
  exact ⟨_, rfl, Row.made _ _ _ (by simp), (((Below.refl _ _).alloc (Nat.le_refl _) _).alloc (by simp) _).alloc (by simp <;> omega) _⟩

theorem valL_takeG (l : List UInt8) {k : Nat} (h : k < l.length) : valL (l.take (k + 1)) = 256 * valL (l.take k) + l[k].toNat := by
  rw [List.take_add_one, List.getElem?_eq_getElem h]
  exact valL_snoc _ _
theorem or_u64 {v b : Nat} (hb : b < 256) (hv : v < 72057594037927936) : bits .or .u64 ((v : Int) * 256) (b : Int) = ((256 * v + b : Nat) : Int) := by
  rw [show (v : Int) * 256 = ((v * 256 : Nat) : Int) by omega, u64_or_nat _ b (by omega) (by omega), Nat.mul_comm]
  have h : 256 * v + b = 256 * v ||| b := Nat.two_pow_add_eq_or_of_lt (i := 8) (show b < 2 ^ 8 by omega) v
  omega
/-- A length by its form and the bytes behind it. -/
def lenN (f : Nat) (l : List UInt8) : Nat := if l.length = 0 then f else valL l
theorem andNot128 {b : Nat} (h : b < 256) : bits .andNot .u8 (b : Int) 128 = ((b % 128 : Nat) : Int) := by
  rw [show (128 : Int) = ((128 : Nat) : Int) from rfl, u8_andNot_nat _ _ h (by omega), show 255 - 128 = 2 ^ 7 - 1 from rfl, Nat.and_two_pow_sub_one_eq_mod]
set_option maxRecDepth 100000 in
theorem and128 {b : Nat} (h : b < 256) : bits .and .u8 (b : Int) 128 = ((b / 128 * 128 : Nat) : Int) := by
  rw [show (128 : Int) = ((128 : Nat) : Int) from rfl, u8_and_nat _ _ h (by omega)]
  congr 1
  have hh : ∀ b : Fin 256, b.val &&& 128 = b.val / 128 * 128 := by decide
  exact hh ⟨b, h⟩
theorem ne128 (b : Nat) (h : b < 256) : (((b / 128 * 128 : Nat) : Int) != 0) = decide (127 < b) := by
  rw [Bool.eq_iff_iff]; simp; omega
theorem first_eq {b : Nat} (h : b < 256) : okB (b % 128) (decide (127 < b)) = !decide (badFirst b) := by
  rw [Bool.eq_iff_iff]
  unfold okB badFirst okOp
  simp
  omega
theorem second_eq {b s : Nat} (_hb : b < 256) (hs : s < 256) (h0 : ¬ badFirst b) (m : Bool) : (!(decide (8 ≤ b % 128) && decide (125 < s % 128)) && (decide (127 < s) == m)) = !decide (badSecond b s m) := by
  rw [Bool.eq_iff_iff]
  unfold badFirst okOp at h0
  unfold badSecond
  cases m <;> simp <;> omega
end Go.Proofs.YtdegpchofhnipaaDoor
