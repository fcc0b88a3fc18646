/-
  wsframe's getNumber, length, mayFirst, maySecond, and fault.Socket, by their contracts. Conditions: the bytes are read.
-/
import Derived.Test.YtejlbgllfkfkfaaDoorIsm
import Derived.Test.YtejlbgllfkfkfaaDoorFerr
import Derived.Deep.QuietTactic
import Derived.BigQuiet
namespace Go.Proofs.YtejlbgllfkfkfaaDoor
open Go.RowKit Go.WideShapes

theorem socket_any (c : Int) (w : World) : Calls Tryd.prog 27 #[.int .u32 c] w (Err 3 c w) := by
  have hn := new_some 3 c (by omega)
  go_enter Tryd.func27, Tryd.ntmps27
  go_wp2_with fail
  refine (hn _).mono ?_
  rintro e w1 ⟨rfl, rfl⟩
  go_wp2_with fail
  go_ret
  exact ⟨_, rfl, Row.made _ _ _ (by simp), (((Below.refl _ _).alloc (Nat.le_refl _) _).alloc (by simp) _).alloc (by simp <;> omega) _⟩

theorem valL_takeG (l : List UInt8) {k : Nat} (h : k < l.length) : valL (l.take (k + 1)) = 256 * valL (l.take k) + l[k].toNat := by
  rw [List.take_add_one, List.getElem?_eq_getElem h]
  exact valL_snoc _ _
theorem or_u64 {v b : Nat} (hb : b < 256) (hv : v < 72057594037927936) : bits .or .u64 ((v : Int) * 256) (b : Int) = ((256 * v + b : Nat) : Int) := by
  rw [show (v : Int) * 256 = ((v * 256 : Nat) : Int) by omega, u64_or_nat _ b (by omega) (by omega), Nat.mul_comm]
  have h : 256 * v + b = 256 * v ||| b := Nat.two_pow_add_eq_or_of_lt (i := 8) (show b < 2 ^ 8 by omega) v
  omega
set_option maxRecDepth 100000 in
set_option maxHeartbeats 1000000 in
theorem igetN_any {B : Nat} {A : Option Addr} {c : Nat} {l : List UInt8} {w : World} (hr : RdB w B A l) (hl : l.length ≤ 8) :
    Calls Tryd.prog 29 #[.slice A l.length c] w fun e w' => e = .returned (.int .u64 (valL l : Nat)) ∧ w = w' := by
  go_enter Tryd.func29, Tryd.ntmps29
  go_wp2_with fail
  go_loop [3, 8] (fun a i => ∃ (k v : Nat), k ≤ l.length ∧ i = .int .i64 k ∧ a = .int .u64 v ∧ Hid (v = valL (l.take k))) (fun _ i => l.length - (intOf i).toNat)
  case atStart => exact ⟨0, 0, Nat.zero_le _, rfl, rfl, by show _ = _; rfl⟩
  case round =>
    obtain ⟨k, v, hk, rfl, rfl, hve⟩ := hrel
    by_cases hlt : k < l.length
    · have hne : l ≠ [] := by intro e; rw [e] at hlt; simp at hlt
      obtain ⟨g, o, rfl, hg, hcell⟩ := hr hne
      have hc := hcell k hlt
      have hn2 := valL_takeG l hlt
      have hv1 := valL_lt (l.take k)
      have hp7 : 256 ^ (l.take k).length ≤ 256 ^ 7 := Nat.pow_le_pow_right (by omega) (by rw [List.length_take]; omega)
      rw [← hve.out] at hn2 hv1
      have hv2 : v < 72057594037927936 := Nat.lt_of_lt_of_le hv1 hp7
      have h256 := l[k].toNat_lt
      have hN : Hid (256 * v + l[k].toNat = valL (l.take (k + 1))) := hn2.symm
      clear hve hn2 hcell hr hv1 hp7
      generalize l[k].toNat = b at *
      have ho := or_u64 h256 hv2
      have hw8 : IntKind.u64.wrap ((v : Int) * 256) = (v : Int) * 256 := by rw [IntKind.wrap_u64]; omega
      have hkl : (k : Int) < (l.length : Int) := by omega
      go_wp2_with fail
      go_round
      case rel => exact ⟨k + 1, 256 * v + b, by omega, by go_num, rfl, hN⟩
      case measure => simp [intOf]; omega
    · obtain rfl : k = l.length := by omega
      have he : v = valL l := by rw [hve.out, List.take_length]
      have HE := Lib.hid he
      clear he hve
      go_wp2_with fail
      go_ret
      rw [← HE.out]
      exact ⟨rfl, rfl⟩
/-- A length by its form and the bytes behind it. -/
def lenN (f : Nat) (l : List UInt8) : Nat := if l.length = 0 then f else valL l
set_option maxRecDepth 100000 in
theorem ilength_any {B : Nat} {A : Option Addr} {c f : Nat} {l : List UInt8} {w : World} (hr : RdB w B A l) (hl : l.length ≤ 8) (hf : f < 256) :
    Calls Tryd.prog 35 #[.int .u8 f, .slice A l.length c] w fun e w' => e = .returned (.int .u64 (lenN f l : Nat)) ∧ w = w' := by
  have hg := igetN_any (c := c) hr hl
  unfold lenN
  by_cases h : l.length = 0
  · rw [if_pos h]
    rw [h]
    have hw : IntKind.u64.wrap (f : Int) = (f : Int) := by rw [IntKind.wrap_u64]; omega
    clear hg
    go_enter Tryd.func35, Tryd.ntmps35
    go_wp2_with fail
    go_ret
    exact ⟨rfl, rfl⟩
  · rw [if_neg h]
    have h0 : ((l.length : Int) == 0) = false := beq_eq_false_iff_ne.2 (by omega)
    clear h hr
    generalize valL l = v at *
    go_enter Tryd.func35, Tryd.ntmps35
    go_wp2_with fail
    refine hg.mono ?_
    rintro e w' ⟨rfl, rfl⟩
    go_wp2_with fail
    go_ret
    exact ⟨rfl, rfl⟩

theorem andNot128 {b : Nat} (h : b < 256) : bits .andNot .u8 (b : Int) 128 = ((b % 128 : Nat) : Int) := by
  rw [show (128 : Int) = ((128 : Nat) : Int) from rfl, u8_andNot_nat _ _ h (by omega), show 255 - 128 = 2 ^ 7 - 1 from rfl, Nat.and_two_pow_sub_one_eq_mod]
set_option maxRecDepth 100000 in
theorem and128 {b : Nat} (h : b < 256) : bits .and .u8 (b : Int) 128 = ((b / 128 * 128 : Nat) : Int) := by
  rw [show (128 : Int) = ((128 : Nat) : Int) from rfl, u8_and_nat _ _ h (by omega)]
  congr 1
  have hh : ∀ b : Fin 256, b.val &&& 128 = b.val / 128 * 128 := by decide
  exact hh ⟨b, h⟩
theorem ne128 (b : Nat) (h : b < 256) : (((b / 128 * 128 : Nat) : Int) != 0) = decide (127 < b) := by
  rw [Bool.eq_iff_iff]; simp; omega
theorem first_eq {b : Nat} (h : b < 256) : okB (b % 128) (decide (127 < b)) = !decide (badFirst b) := by
  rw [Bool.eq_iff_iff]
  unfold okB badFirst okOp
  simp
  omega
theorem ifirst_any {b : Nat} (h : b < 256) (w : World) : Calls Tryd.prog 33 #[.int .u8 b] w fun e w' => e = .returned (.bool (!decide (badFirst b))) ∧ w = w' := by
  have h1 := andNot128 h
  have h2 := and128 h
  have h3 := ne128 b h
  have hm := imayOp_any (b % 128) (decide (127 < b))
  rw [first_eq h] at hm
  generalize b % 128 = x at *
  generalize b / 128 * 128 = y at *
  generalize decide (127 < b) = z at *
  go_enter Tryd.func33, Tryd.ntmps33
  go_wp2_with (go_at_call 40; refine (hm _).mono ?_; rintro e w' ⟨rfl, rfl⟩)
  go_ret
  exact ⟨rfl, rfl⟩
theorem second_eq {b s : Nat} (_hb : b < 256) (hs : s < 256) (h0 : ¬ badFirst b) (m : Bool) : (!(decide (8 ≤ b % 128) && decide (125 < s % 128)) && (decide (127 < s) == m)) = !decide (badSecond b s m) := by
  rw [Bool.eq_iff_iff]
  unfold badFirst okOp at h0
  unfold badSecond
  cases m <;> simp <;> omega
set_option maxRecDepth 100000 in
set_option maxHeartbeats 1000000 in
theorem isecond_any {B : Nat} {A : Option Addr} {c : Nat} {b s : UInt8} {r : List UInt8} {m : Bool} {w : World} (hr : RdB w B A (b :: s :: r)) (hl : (b :: s :: r).length ≤ 1099511627776) (h0 : ¬ badFirst b.toNat) :
    Calls Tryd.prog 34 #[.slice A (b :: s :: r).length c, .bool m] w fun e w' => e = .returned (.bool (!decide (badSecond b.toNat s.toNat m))) ∧ w = w' := by
  obtain ⟨g, o, rfl, _, hcell⟩ := hr (by simp)
  have c0 : w.cell? ⟨g, o, none⟩ = some (.int .u8 (b.toNat : Int)) := by have := hcell 0 (by simp); simpa using this
  have c1 : w.cell? ⟨g, o + 1, none⟩ = some (.int .u8 (s.toNat : Int)) := by have := hcell 1 (by simp); simpa using this
  have hb := b.toNat_lt
  have hs := s.toNat_lt
  rw [← second_eq hb hs h0 m]
  have m0 : (0 : Int) < ((b :: s :: r).length : Int) := by simp; omega
  have m1 : (1 : Int) < ((b :: s :: r).length : Int) := by simp; omega
  clear hcell hr h0
  generalize (b :: s :: r).length = n at *
  have h1 := andNot128 hb
  have h2 := andNot128 hs
  have h3 := and128 hs
  have h4 := ne128 s.toNat hs
  have hc := ictl_any (b.toNat % 128)
  have h5 : decide (125 < ((s.toNat % 128 : Nat) : Int)) = decide (125 < s.toNat % 128) := by rw [decide_eq_decide]; omega
  generalize b.toNat = b at *
  generalize s.toNat = s at *
  generalize decide (8 ≤ b % 128) = z1 at *
  generalize decide (125 < s % 128) = z2 at *
  generalize decide (127 < s) = z3 at *
  generalize b % 128 = x at *
  generalize s % 128 = y at *
  generalize s / 128 * 128 = y2 at *
  cases z1
  all_goals cases z2
  all_goals
    go_enter Tryd.func34, Tryd.ntmps34
    go_wp2_with (go_at_call 41; refine (hc _).mono ?_; rintro e w' ⟨rfl, rfl⟩)
    go_ret
    exact ⟨rfl, rfl⟩
end Go.Proofs.YtejlbgllfkfkfaaDoor
