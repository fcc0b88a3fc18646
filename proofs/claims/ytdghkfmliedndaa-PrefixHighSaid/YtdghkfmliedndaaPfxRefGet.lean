/-
  The document's Get, by its contract. Conditions: at most 65536 bytes.
-/
import Derived.Test.YtdghkfmliedndaaPfxGet
namespace Go.Proofs.Ytdghkfmliedndaa
open Go.RowKit Go.WideShapes

theorem rget_arg (k : Int) (hno : ¬ (1 ≤ k ∧ k ≤ 8)) (A : Option Addr) (n c : Nat) (w : World) :
    Calls Try.prog 13 #[.slice A n c, .int .i64 k] w fun e w' => Three .u32 .i64 .i64 (0, 0, 1) e ∧ w = w' := by
  by_cases h1 : k < 1
  · go_enter Try.func13, Try.ntmps13
    go_wp2
    go_ret3
    exact ⟨rfl, rfl⟩
  · have h8 : 8 < k := by omega
    have h1' : decide (k < 1) = false := by simp; omega
    clear hno
    go_enter Try.func13, Try.ntmps13
    go_wp2
    go_ret3
    exact ⟨rfl, rfl⟩

set_option maxRecDepth 100000 in
set_option maxHeartbeats 2000000 in
theorem rget_any (k : Nat) (h1 : 1 ≤ k) (h8 : k ≤ 8) (A : Option Addr) (c : Nat) (l : List UInt8) (hl : l.length ≤ 65536) (w : World) (B : Nat) (hr : RdB w B A l) :
    Calls Try.prog 13 #[.slice A l.length c, .int .i64 k] w fun e w' => Three .u32 .i64 .i64 (getL k l) e ∧ w = w' := by
  have hk1 : decide ((k : Int) < 1) = false := by simp; omega
  have hk8 : decide ((8 : Int) < k) = false := by simp; omega
  cases l with
  | nil =>
    go_enter Try.func13, Try.ntmps13
    go_wp2
    go_ret3
    exact ⟨rfl, rfl⟩
  | cons b l =>
    obtain ⟨g, o, rfl, hg, hc⟩ := hr (by simp)
    have hc0 : w.cell? ⟨g, o, none⟩ = some (.int .u8 (b.toNat : Int)) := hc 0 (by simp)
    have hb := b.toNat_lt
    have hp := pow_le h1 h8
    have hone := top_any k
    obtain ⟨lo, hlo⟩ : ∃ lo, lo = b.toNat % 2 ^ k := ⟨_, rfl⟩
    have hlob : lo ≤ 2 ^ k - 1 := by
      have := Nat.mod_lt b.toNat (show 2 ^ k > 0 by omega)
      omega
    have hand : (b.toNat : Int) % (((2 ^ k - 1 : Nat) : Int) + 1) = (lo : Int) := by
      rw [show (((2 ^ k - 1 : Nat) : Int) + 1) = ((2 ^ k : Nat) : Int) by omega, ← Int.natCast_emod, hlo]
    generalize hG : getR 0 0 l = G
    obtain ⟨x, y, z⟩ := G
    have hE : getL k (b :: l) = if lo < 2 ^ k - 1 then (lo, 1, 0) else if z ≠ 0 then (0, 0, z) else if 268435456 - (2 ^ k - 1) < x then (0, 0, 4) else (2 ^ k - 1 + x, 1 + y, 0) := by
      simp only [getL, hG, hlo]
    generalize ht : 2 ^ k - 1 = t at hp hone hand hlob hE
    obtain ⟨p1, p2, _, _⟩ := hp
    have HT := Lib.hid ht
    have HE := Lib.hid hE
    have HG := Lib.hid hG
    have Hlo := Lib.hid hlo
    have HC := Lib.hid hc
    clear ht hE hG hlo hc
    simp only [List.length_cons] at hl
    by_cases hlt : lo < t
    · rw [HE.out, if_pos hlt]
      go_enter Try.func13, Try.ntmps13
      go_wp2_with (go_at_call 16; refine (hone _ h1 h8).mono ?_; rintro e w' ⟨rfl, rfl⟩)
      go_ret3
      exact ⟨rfl, rfl⟩
    · have Hlt : Hid (¬ lo < t) := hlt
      have hle0 : t ≤ lo := by omega
      have hd0 : decide ((lo : Int) < t) = false := by simp; omega
      clear hlt
      have hE2 : Hid (getL k (b :: l) = if z ≠ 0 then (0, 0, z) else if 268435456 - t < x then (0, 0, 4) else (t + x, 1 + y, 0)) := by
        show _ = _
        rw [HE.out, if_neg Hlt.out]
      clear HE Hlt
      generalize getL k (b :: l) = R at hE2
      go_enter Try.func13, Try.ntmps13
      go_wp2_with (go_at_call 16; refine (hone _ h1 h8).mono ?_; rintro e w' ⟨rfl, rfl⟩)
      go_loop [8, 9, 10] (fun n s i => ∃ j r' s' : Nat, j ≤ l.length ∧ j ≤ 4 ∧ i = .int .i64 ((j + 1 : Nat) : Int) ∧ n = .int .u64 ((lo + r' : Nat) : Int) ∧ s = .int .u64 s' ∧ Hid (r' < 128 ^ j) ∧ r' < 268435456 ∧ Hid (s' = 128 ^ j) ∧ s' ≤ 268435456 ∧ Hid (getR j r' (l.drop j) = (x, y, z))) (fun _ _ i => l.length + 1 - (intOf i).toNat)
      case atStart => exact ⟨0, 0, 1, Nat.zero_le _, Nat.zero_le _, rfl, by first | rfl | (rw [hand]; rfl), rfl, by show _ < _; decide, by omega, by show _ = _; decide, by omega, by simpa using HG⟩
      case round =>
        obtain ⟨j, r', s', hj, hj4, rfl, rfl, rfl, hr', hr32, hs', hsb, hG⟩ := hrel
        by_cases hlt : j < l.length
        · have hcell : w.cell? ⟨g, o + (j + 1), none⟩ = some (.int .u8 (l[j].toNat : Int)) := by
            have := HC.out (j + 1) (by simp; omega)
            simpa using this
          have hG' : Hid (getR j r' (l[j] :: l.drop (j + 1)) = (x, y, z)) := by rw [← List.drop_eq_getElem_cons hlt]; exact hG
          generalize l[j] = d at hcell hG'
          have hdb := d.toNat_lt
          clear hG hr HC
          by_cases h4 : j = 4
          · subst h4
            obtain ⟨rfl, rfl, rfl⟩ : x = 0 ∧ y = 0 ∧ z = 4 := by
              have := hG'.out
              rw [getR_four] at this
              simp only [Prod.mk.injEq] at this
              omega
            clear hG'
            go_wp2
            go_ret3
            rw [hE2.out]
            exact ⟨rfl, rfl⟩
          · have hj3 : j ≤ 3 := by omega
            have h4b : decide ((4 : Int) < (j : Int) + 1) = false := by simp; omega
            have hbd := digit_bd (n := d.toNat) hj3
            have hsum := digit_sum (n := d.toNat) hr'.out hj3
            have hrl : r' < 128 ^ j := hr'.out
            have hle : 128 ^ j ≤ 128 ^ (j + 1) := Nat.pow_le_pow_right (by omega) (by omega)
            obtain ⟨D, hD⟩ : ∃ D, D = d.toNat % 128 * 128 ^ j := ⟨_, rfl⟩
            rw [← hD] at hbd hsum
            have hdig : IntKind.u64.wrap ((d.toNat : Int) % 128 * (s' : Int)) = (D : Int) := by
              rw [show ((d.toNat : Int) % 128 * (s' : Int)) = ((d.toNat % 128 * s' : Nat) : Int) by simp, hs'.out, ← hD, IntKind.wrap_u64]
              omega
            obtain ⟨s2, hs2⟩ : ∃ s2, s2 = 128 ^ (j + 1) := ⟨_, rfl⟩
            have hse : (s' : Int) * 128 = (s2 : Int) := by rw [hs2, hs'.out, Nat.pow_succ]; simp
            have hS : Hid (r' + D < 128 ^ (j + 1)) := hsum
            have hS32 : r' + D < 268435456 := by omega
            have hs2b : s2 ≤ 268435456 := by omega
            have Hs2 := Lib.hid hs2
            have HD := Lib.hid hD
            clear hD hbd hsum hrl hle hs2
            by_cases hlast : d.toNat < 128
            · obtain ⟨rfl, rfl, rfl⟩ : x = r' + D ∧ y = j + 1 ∧ z = 0 := by
                have := hG'.out
                rw [getR_last h4 _ hlast, ← HD.out] at this
                simp only [Prod.mk.injEq] at this
                omega
              clear hG'
              by_cases hx2 : 268435456 - t < r' + D
              · have hx3 : (268435456 : Int) < (lo : Int) + r' + D := by omega
                go_wp2
                go_ret3
                rw [hE2.out, if_neg (by simp), if_pos hx2]
                exact ⟨rfl, rfl⟩
              · have hx3 : decide ((268435456 : Int) < (lo : Int) + r' + D) = false := by simp; omega
                go_wp2
                go_ret3
                rw [hE2.out, if_neg (by simp), if_neg hx2]
                exact ⟨ret3 (by simp <;> omega) (by simp <;> omega) rfl, rfl⟩
            · have hG2 : Hid (getR (j + 1) (r' + D) (l.drop (j + 1)) = (x, y, z)) := by
                have := hG'.out
                rw [getR_more h4 _ hlast, ← HD.out] at this
                exact this
              have hnl : decide ((d.toNat : Int) < 128) = false := by simp; omega
              clear hG' hr'
              go_wp2
              go_round
              case rel => exact ⟨j + 1, r' + D, s2, by omega, by omega, by go_num, by go_num, rfl, hS, by omega, Hs2, by omega, hG2⟩
              case measure => simp [intOf]; omega
        · obtain rfl : j = l.length := by omega
          obtain ⟨rfl, rfl, rfl⟩ : x = 0 ∧ y = 0 ∧ z = 2 := by
            have := hG.out
            rw [List.drop_length, getR] at this
            simp only [Prod.mk.injEq] at this
            omega
          clear hG hr'
          go_wp2
          go_ret3
          rw [hE2.out]
          exact ⟨rfl, rfl⟩
end Go.Proofs.Ytdghkfmliedndaa
