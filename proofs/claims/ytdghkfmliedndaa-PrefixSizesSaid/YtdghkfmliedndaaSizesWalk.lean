/-
  PrefixSizes, by its contract: at every input it answers true; below what was there nothing has turned.
-/
import Derived.Test.YtdghkfmliedndaaPfxFixed
import Derived.Lib.MinMax
namespace Go.Proofs.Ytdghkfmliedndaa
open Go.RowKit Go.WideShapes

theorem sizes_out (k : Int) (h : ¬ (2 ≤ k ∧ k ≤ 8)) (n m : Int) (w : World) :
    Calls Try.prog 5 #[.int .i64 k, .int .u32 n, .int .u32 m] w fun e w' => e = .returned (.bool true) ∧ Below w.heap.size w w' := by
  by_cases h2 : k < 2
  · clear h
    go_enter Try.func5, Try.ntmps5
    go_wp2_with (go_at_call 8; refine (fixed_any _).mono ?_; rintro e w' ⟨rfl, hb⟩)
    go_ret
    exact ⟨rfl, hb⟩
  · have h8 : 8 < k := by omega
    have h2' : decide (k < 2) = false := by simp; omega
    clear h
    go_enter Try.func5, Try.ntmps5
    go_wp2_with (go_at_call 8; refine (fixed_any _).mono ?_; rintro e w' ⟨rfl, hb⟩)
    go_ret
    exact ⟨rfl, hb⟩

set_option maxHeartbeats 2000000 in
theorem sizes_in (j n m : Nat) (h1 : 1 ≤ j) (h7 : j ≤ 7) (w : World) :
    Calls Try.prog 5 #[.int .i64 ((j : Int) + 1), .int .u32 n, .int .u32 m] w fun e w' => e = .returned (.bool true) ∧ Below w.heap.size w w' := by
  obtain ⟨n', hn'⟩ : ∃ n', n' = n % 268435457 := ⟨_, rfl⟩
  obtain ⟨m', hm'⟩ : ∃ m', m' = m % 268435457 := ⟨_, rfl⟩
  obtain ⟨lo, hlo⟩ : ∃ lo, lo = min n' m' := ⟨_, rfl⟩
  obtain ⟨hi, hhi⟩ : ∃ hi, hi = max n' m' := ⟨_, rfl⟩
  have b1 : n' ≤ 268435456 := by omega
  have b3 : lo ≤ 268435456 := by omega
  have b4 : hi ≤ 268435456 := by omega
  have hle : lo ≤ hi := by omega
  have en : (n : Int) % 268435457 = (n' : Int) := by omega
  have em : (m : Int) % 268435457 = (m' : Int) := by omega
  have elo : min (n' : Int) (m' : Int) = (lo : Int) := by omega
  have ehi : max (n' : Int) (m' : Int) = (hi : Int) := by omega
  have s1 := size_mono (k := j + 1) hle
  have s2 := size_less (k := j) (n := n')
  have s3 := size_bd (j + 1) hi
  have s4 := size_bd (j + 1) lo
  have c1 := size_yes (j + 1) lo (by omega) (by omega) b3
  have c2 := size_yes (j + 1) hi (by omega) (by omega) b4
  have c3 := size_yes (j + 1) n' (by omega) (by omega) b1
  have c4 := size_yes j n' (by omega) (by omega) b1
  generalize sizeN (j + 1) lo = z1 at *
  generalize sizeN (j + 1) hi = z2 at *
  generalize sizeN (j + 1) n' = z3 at *
  generalize sizeN j n' = z4 at *
  obtain ⟨s3a, s3b⟩ := s3
  obtain ⟨s4a, _⟩ := s4
  have c1' : ∀ W, Calls Try.prog 10 #[.int .i64 ((j : Int) + 1), .int .u32 lo] W fun e w' => e = .returned (.int .i64 (z1 : Int)) ∧ Below W.heap.size W w' := c1
  have c2' : ∀ W, Calls Try.prog 10 #[.int .i64 ((j : Int) + 1), .int .u32 hi] W fun e w' => e = .returned (.int .i64 (z2 : Int)) ∧ Below W.heap.size W w' := c2
  have c3' : ∀ W, Calls Try.prog 10 #[.int .i64 ((j : Int) + 1), .int .u32 n'] W fun e w' => e = .returned (.int .i64 (z3 : Int)) ∧ Below W.heap.size W w' := c3
  have t1 : (z2 : Int) ≤ 6 := by omega
  have t2 : (1 : Int) ≤ z1 := by omega
  clear c1 c2 c3
  have hj2 : decide ((j : Int) + 1 < 2) = false := by simp; omega
  have hj8 : decide ((8 : Int) < (j : Int) + 1) = false := by simp; omega
  have Hn := Lib.hid hn'
  have Hm := Lib.hid hm'
  have Hlo := Lib.hid hlo
  have Hhi := Lib.hid hhi
  clear hn' hm' hlo hhi
  go_enter Try.func5, Try.ntmps5
  go_wp2_with fail
  refine (fixed_any _).mono ?_
  rintro e w0 ⟨rfl, hb0⟩
  go_wp2_with fail
  refine (c1' _).mono ?_
  rintro e w1 ⟨rfl, hb1⟩
  go_wp2_with fail
  refine (c2' _).mono ?_
  rintro e w2 ⟨rfl, hb2⟩
  go_wp2_with fail
  refine (c3' _).mono ?_
  rintro e w3 ⟨rfl, hb3⟩
  go_wp2_with fail
  refine (c4 _).mono ?_
  rintro e w4 ⟨rfl, hb4⟩
  go_wp2_with fail
  refine (c2' _).mono ?_
  rintro e w5 ⟨rfl, hb5⟩
  go_wp2_with fail
  refine (c1' _).mono ?_
  rintro e w6 ⟨rfl, hb6⟩
  go_wp2
  go_ret
  have z0 := hb0.size
  have z1 := hb1.size
  have z2 := hb2.size
  have z3 := hb3.size
  have z4 := hb4.size
  have z5 := hb5.size
  exact ⟨rfl, (((((hb0.trans (hb1.mono z0)).trans (hb2.mono (by omega))).trans (hb3.mono (by omega))).trans (hb4.mono (by omega))).trans (hb5.mono (by omega))).trans (hb6.mono (by omega))⟩
end Go.Proofs.Ytdghkfmliedndaa
