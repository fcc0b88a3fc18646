/-
  The document's bits and begins, by their contracts. Conditions: those that each theorem names.
-/
import Derived.Test.YtaegdageiacdbaaRone
import Derived.Test.YtaegdageiacdbaaBytes
namespace Go.Proofs.Ytaegdageiacdbaa
open Go.RowKit Go.WideShapes

theorem toBits_cons (k v : Nat) : toBits (k + 1) v = (v / 2 ^ k % 2 == 1) :: toBits k v := by
  refine val_inj (by simp [toBits_len]) ?_
  rw [toBits_val, val_cons, toBits_len, toBits_val, Nat.pow_succ, Nat.mod_mul]
  rcases Nat.mod_two_eq_zero_or_one (v / 2 ^ k) with h | h <;> simp [h] <;> omega
theorem unpack_next (l : List UInt8) {k : Nat} (h : k < l.length) : unpack (l.take (k + 1)) = unpack (l.take k) ++ byteB l[k] := by
  rw [List.take_add_one, unpack_append, List.getElem?_eq_getElem h]
  simp [unpack]

set_option maxRecDepth 100000 in
set_option maxHeartbeats 1000000 in
theorem rbits_any (A : Option Addr) (c : Nat) (l : List UInt8) (hl : l.length ≤ 1000) (w : World) (B : Nat) (hr : RdB w B A l) :
    Calls Try.prog 24 #[.slice A l.length c] w fun e w' => e = .returned (.string (bs (unpack l))) ∧ w = w' := by
  have h0 : ∀ W : World, (Instr.slice 9 (.string ⟨#[48, 49]⟩) (some (.int .u8 0)) (some (.int .u8 1)) none).run Try.prog W = .ok (.string ⟨#[48]⟩) W := fun W => by
    rw [run_slice_string W 9 ⟨#[48, 49]⟩ .u8 .u8 0 1 Try.underlying9 (by decide) (by decide) (by decide)]; rfl
  have h1 : ∀ W : World, (Instr.slice 9 (.string ⟨#[48, 49]⟩) (some (.int .u8 1)) (some (.int .u8 2)) none).run Try.prog W = .ok (.string ⟨#[49]⟩) W := fun W => by
    rw [run_slice_string W 9 ⟨#[48, 49]⟩ .u8 .u8 1 2 Try.underlying9 (by decide) (by decide) (by decide)]; rfl
  have HR := Lib.hid hr
  clear hr
  go_enter Try.func24, Try.ntmps24
  go_wp2_with fail
  go_loop [3, 10] (fun s i => ∃ (k : Nat) (y : List Bool), k ≤ l.length ∧ i = .int .i64 k ∧ s = .string (bs y) ∧ y.length = 8 * k ∧ Hid (y = unpack (l.take k))) (fun _ i => l.length - (intOf i).toNat)
  case atStart => exact ⟨0, [], Nat.zero_le _, rfl, rfl, rfl, by show _ = _; rfl⟩
  case round =>
    obtain ⟨k, y, hk, rfl, rfl, hyl, hy⟩ := hrel
    by_cases hlt : k < l.length
    · obtain ⟨g, o, rfl, _, hc⟩ := HR.out (by rintro rfl; simp at hlt)
      have hcell := hc k hlt
      have hnx := unpack_next l hlt
      rw [← hy.out] at hnx
      have HC := Lib.hid hc
      have HNX := Lib.hid hnx
      clear hc hy hnx
      obtain ⟨b, hb⟩ : ∃ b, b = l[k] := ⟨_, rfl⟩
      rw [← hb] at hcell HNX
      have Hb := Lib.hid hb
      clear hb
      have hb256 := b.toNat_lt
      go_wp2_with fail
      go_loop [5, 6, 7] (fun n p j => ∃ (j' n' : Nat) (x : List Bool), j' ≤ 8 ∧ j = .int .i64 j' ∧ n = .int .u8 n' ∧ n' < 256 ∧ p = .string (bs x) ∧ x.length = j' ∧ Hid (n' = b.toNat / 2 ^ j') ∧ Hid (x = toBits j' b.toNat)) (fun _ _ j => 8 - (intOf j).toNat)
      case atStart => exact ⟨0, b.toNat, [], by omega, rfl, rfl, by omega, rfl, rfl, by show _ = _; simp, by show _ = _; rfl⟩
      case round =>
        obtain ⟨j, n, x, hj, rfl, rfl, hn, rfl, hxl, hne, hx⟩ := hrel
        by_cases hj8 : j < 8
        · have hN2 : Hid (n / 2 = b.toNat / 2 ^ (j + 1)) := by
            show _ = _
            rw [hne.out, Nat.pow_succ, Nat.div_div_eq_div_mul]
          have hX2 : Hid ((n % 2 == 1) :: x = toBits (j + 1) b.toNat) := by
            show _ = _
            rw [toBits_cons, ← hne.out, ← hx.out]
          have hxl9 : x.length ≤ 9 := by omega
          have HXL := Lib.hid hxl
          clear hne hx hxl
          rcases Nat.mod_two_eq_zero_or_one n with h2 | h2
          · have h2i : (n : Int) % 2 = 0 := by omega
            have hadd := add_bs [false] x (by simp) (by omega)
            have hs0 : bs [false] = ⟨#[48]⟩ := rfl
            rw [hs0] at hadd
            have hX3 : Hid (false :: x = toBits (j + 1) b.toNat) := by
              have := hX2.out; rw [h2] at this; exact this
            clear hs0 h2 hX2
            go_wp2_with fail
            go_round
            case rel => exact ⟨j + 1, n / 2, false :: x, by omega, by go_num, by go_num, by omega, rfl, by simp; exact HXL.out, hN2, hX3⟩
            case measure => simp [intOf]; omega
          · have h2i : (n : Int) % 2 = 1 := by omega
            have hadd := add_bs [true] x (by simp) (by omega)
            have hs0 : bs [true] = ⟨#[49]⟩ := rfl
            rw [hs0] at hadd
            have hX3 : Hid (true :: x = toBits (j + 1) b.toNat) := by
              have := hX2.out; rw [h2] at this; exact this
            clear hs0 h2 hX2
            go_wp2_with fail
            go_round
            case rel => exact ⟨j + 1, n / 2, true :: x, by omega, by go_num, by go_num, by omega, rfl, by simp; exact HXL.out, hN2, hX3⟩
            case measure => simp [intOf]; omega
        · obtain rfl : j = 8 := by omega
          have hxe : Hid (x = byteB b) := hx.out
          have hadd := add_bs y x (by omega) (by omega)
          have hz : Hid (y ++ x = unpack (l.take (k + 1))) := by show _ = _; rw [HNX.out, hxe.out]
          have hzl : Hid ((y ++ x).length = 8 * (k + 1)) := by show _ = _; rw [List.length_append]; omega
          clear hx hxe hne hxl hyl
          generalize y ++ x = z at hadd hz hzl
          go_wp2_with fail
          go_round
          case rel => exact ⟨k + 1, z, by omega, by go_num, rfl, hzl.out, hz⟩
          case measure => simp [intOf]; omega
    · obtain rfl : k = l.length := by omega
      have hye : y = unpack l := by rw [hy.out, List.take_of_length_le (Nat.le_refl _)]
      subst hye
      clear hy
      go_wp2_with fail
      go_ret
      exact ⟨rfl, rfl⟩

/-- Do these bits begin the others, from a place on? -/
def begB (p s : List Bool) (at_ : Nat) : Bool := decide (at_ + p.length ≤ s.length ∧ (s.drop at_).take p.length = p)
theorem begB_yes {p s : List Bool} {a : Nat} (h : begB p s a = true) : ∃ r, s.drop a = p ++ r := by
  unfold begB at h
  simp only [decide_eq_true_eq] at h
  refine ⟨(s.drop a).drop p.length, ?_⟩
  conv => lhs; rw [← List.take_append_drop p.length (s.drop a), h.2]
theorem begB_no {p s : List Bool} {a : Nat} (h : begB p s a = false) (ha : a ≤ s.length) : ∀ r, s.drop a ≠ p ++ r := by
  intro r e
  unfold begB at h
  simp only [decide_eq_false_iff_not] at h
  apply h
  have hl := congrArg List.length e
  rw [List.length_drop, List.length_append] at hl
  exact ⟨by omega, by rw [e]; simp⟩

theorem begins_any (p s : List Bool) (a : Nat) (hp : p.length ≤ 1000) (hs : s.length ≤ 100000) (ha : a ≤ 100000) (w : World) :
    Calls Try.prog 25 #[.string (bs p), .string (bs s), .int .i64 a] w fun e w' => e = .returned (.bool (begB p s a)) ∧ w = w' := by
  have hsp := bs_size p
  have hss := bs_size s
  by_cases h : a + p.length ≤ s.length
  · have hx := slice_bs s a (a + p.length) (by omega) h
    have hb := bs_beq ((s.drop a).take (a + p.length - a)) p
    have hB : begB p s a = decide ((s.drop a).take (a + p.length - a) = p) := by
      unfold begB
      rw [show a + p.length - a = p.length by omega]
      simp [h]
    rw [hB]
    generalize (s.drop a).take (a + p.length - a) = y at hx hb
    simp only [Int.natCast_add] at hx
    generalize decide (y = p) = v at hb
    have hbi : (a : Int) + p.length ≤ s.length := by omega
    clear hB
    go_enter Try.func25, Try.ntmps25
    go_wp2_with fail
    go_ret
    exact ⟨rfl, rfl⟩
  · have hB : begB p s a = false := by unfold begB; simp [h]
    rw [hB]
    have hbi : decide ((a : Int) + p.length ≤ s.length) = false := by simp; omega
    clear hB h
    go_enter Try.func25, Try.ntmps25
    go_wp2_with fail
    go_ret
    exact ⟨rfl, rfl⟩
end Go.Proofs.Ytaegdageiacdbaa
