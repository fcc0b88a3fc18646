/-
  HuffmanFull, by its contract: at every input it answers true; below what was there nothing has turned.
-/
import Derived.Test.YtaegdageiacdbaaHfix
namespace Go.Proofs.Ytaegdageiacdbaa
open Go.RowKit Go.WideShapes

/-- The parts, of thirty bits, that the first signs' codes fill. -/
def fill (k : Nat) : Nat := ((List.range k).map fun i => 2 ^ (30 - ln i)).sum
theorem fill_all : fill 257 = 1073741824 := by decide +kernel
theorem fill_next (k : Nat) : fill (k + 1) = fill k + 2 ^ (30 - ln k) := by simp [fill, List.range_succ]
theorem fill_le : ∀ (n k : Nat), k + n = 257 → fill k ≤ 1073741824
  | 0, k, h => by
    obtain rfl : k = 257 := by omega
    rw [fill_all]; omega
  | n + 1, k, h => by
    have h1 := fill_le n (k + 1) (by omega)
    rw [fill_next] at h1
    exact Nat.le_trans (Nat.le_add_right _ _) h1

set_option maxRecDepth 100000 in
set_option maxHeartbeats 2000000 in
theorem full_any (s : Int) (w : World) :
    Calls Try.prog 4 #[.int .i64 s] w fun e w' => e = .returned (.bool true) ∧ Below w.heap.size w w' := by
  go_enter Try.func4, Try.ntmps4
  go_wp2_with fail
  go_loopw [3, 9] (fun n i wr => ∃ k : Nat, k ≤ 257 ∧ i = .int .i64 k ∧ ∃ b : Nat, n = .int .u64 b ∧ b ≤ 1073741824 ∧ Hid (b = fill k) ∧ Hid (Below w.heap.size w wr)) (fun _ i _ => 257 - (intOf i).toNat)
  case atStart => exact ⟨0, Nat.zero_le _, rfl, 0, rfl, Nat.zero_le _, by show _ = _; rfl, Below.refl _ _⟩
  case round =>
    obtain ⟨k, hk, rfl, b, rfl, hb, hbe, hB⟩ := hrel
    by_cases hlt : k < 257
    · have hc := code_yes k hlt
      have hl := ln_all k hlt
      have hn := fill_next k
      have hle := fill_le (257 - (k + 1)) (k + 1) (by omega)
      generalize ln k = n at hc hl hn
      generalize cd k = x at hc
      unfold TwoN at hc
      obtain ⟨d, hd⟩ : ∃ d : Nat, n + d = 30 := ⟨30 - n, by omega⟩
      have hdi : (30 : Int) - n = (d : Int) := by omega
      rw [show 30 - n = d by omega] at hn
      rw [hn, ← hbe.out] at hle
      have HN : Hid (b + 2 ^ d = fill (k + 1)) := by show _ = _; rw [hbe.out, hn]
      obtain ⟨y, hy⟩ : ∃ y, y = 2 ^ d := ⟨_, rfl⟩
      rw [← hy] at hle HN
      have hyj : (2 : Int) ^ d = (y : Int) := by rw [hy]; simp
      have hyi : IntKind.u64.wrap ((2 : Int) ^ d) = (y : Int) := by rw [hyj, IntKind.wrap_u64]; omega
      have Hy := Lib.hid hy
      obtain ⟨hl5, hl30⟩ := hl
      have g1 : decide ((n : Int) < 1) = false := by simp; omega
      have g2 : decide ((30 : Int) < n) = false := by simp; omega
      clear hn hy hbe hd
      go_wp2_with fail
      refine (hc _).mono ?_
      rintro e w1 ⟨rfl, hb1⟩
      have HB := Lib.hid (hB.out.trans (hb1.mono hB.out.size))
      clear hb1 hB
      go_wp2_with fail
      go_roundw
      case rel => exact ⟨k + 1, by omega, by go_num, b + y, by go_num, hle, HN, HB⟩
      case measure => simp [intOf]; omega
    · obtain rfl : k = 257 := by omega
      obtain rfl : b = 1073741824 := by rw [hbe.out, fill_all]
      have hz := hB.out.size
      by_cases hs : s < 0 ∨ 256 < s
      · have hc := code_no s hs
        unfold TwoN at hc
        have hs' : s < 0 ∨ (decide (s < 0) = false ∧ (256 : Int) < s) := by
          by_cases h : s < 0
          · exact .inl h
          · exact .inr ⟨by simpa using h, by omega⟩
        clear hs hbe
        rcases hs' with h | ⟨h, h'⟩
        all_goals
          go_wp2_with fail
          refine (hc _).mono ?_
          rintro e w1 ⟨rfl, hb1⟩
          have HB := Lib.hid (hB.out.trans (hb1.mono hz))
          clear hb1
          go_wp2_with fail
          refine (fixed_any _).mono ?_
          rintro e w2 ⟨rfl, hb2⟩
          have HB2 := Lib.hid (HB.out.trans (hb2.mono HB.out.size))
          clear hb2
          go_wp2_with fail
          go_ret
          exact ⟨rfl, HB2.out⟩
      · obtain ⟨s', rfl⟩ := Int.eq_ofNat_of_zero_le (show 0 ≤ s by omega)
        have hc := code_yes s' (by omega)
        have hl := ln_all s' (by omega)
        generalize ln s' = n at hc hl
        generalize cd s' = x at hc
        unfold TwoN at hc
        have h1 : decide ((s' : Int) < 0) = false := by simp
        have h2 : decide ((256 : Int) < s') = false := by simp; omega
        have h3 : ((n : Int) == 0) = false := by rw [beq_eq_false_iff_ne]; omega
        clear hs hbe hl
        go_wp2_with fail
        refine (hc _).mono ?_
        rintro e w1 ⟨rfl, hb1⟩
        have HB := Lib.hid (hB.out.trans (hb1.mono hz))
        clear hb1
        go_wp2_with fail
        refine (fixed_any _).mono ?_
        rintro e w2 ⟨rfl, hb2⟩
        have HB2 := Lib.hid (HB.out.trans (hb2.mono HB.out.size))
        clear hb2
        go_wp2_with fail
        go_ret
        exact ⟨rfl, HB2.out⟩
end Go.Proofs.Ytaegdageiacdbaa
