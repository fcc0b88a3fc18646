/-
  The program's ones, Code and Size, by their contracts. Conditions: those that each theorem names.
-/
import Derived.Test.YtfajffchnnalaaaHcodes
import Derived.Test.YtfajffchnnalaaaHmath
import Derived.Deep.QuietTactic
import Derived.BigQuiet
namespace Go.Proofs.Ytfajffchnnalaaa
open Go.RowKit Go.WideShapes

theorem ones_any3 (k : Nat) (h : k ≤ 8) (w : World) : Calls Try.prog 80 #[.int .i64 k] w fun e w' => e = .returned (.int .u32 ((2 ^ k - 1 : Nat) : Int)) ∧ w = w' := by
  have hk : k = 0 ∨ k = 1 ∨ k = 2 ∨ k = 3 ∨ k = 4 ∨ k = 5 ∨ k = 6 ∨ k = 7 ∨ k = 8 := by omega
  rcases hk with rfl | rfl | rfl | rfl | rfl | rfl | rfl | rfl | rfl
  all_goals
    go_enter Try.func80, Try.ntmps80
    go_wp2
    go_ret
    exact ⟨rfl, rfl⟩

/-- What Code answers. -/
def TwoN (a b : Nat) (e : Ending) : Prop := e = .returned (.tuple #[.int .u32 (a : Int), .int .i64 (b : Int)])
set_option maxRecDepth 100000 in
set_option maxHeartbeats 1000000 in
theorem hsize_any (s : ByteArray) (hs : s.size ≤ 100000) (w : World) : Calls Try.prog 71 #[.string s] w fun e w' => e = .returned (.int .i64 (((bitsN s.data.toList + 7) / 8 : Nat) : Int)) ∧ Below w.heap.size w w' := by
  obtain ⟨hzl, _⟩ := zero_of_info ints_info
  have HSL : Hid ((Try.prog.info? 124).map (·.size) = some lenC.size) := by show _ = _; rw [lenC_size]; exact (zero_of_info ints_info).2
  go_enter Try.func71, Try.ntmps71
  go_wp2_with fail
  refine (lengths_any _).mono ?_
  rintro e w1 ⟨rfl, hb1⟩
  have HB := Lib.hid hb1
  clear hb1
  go_wp2_with (first
    | (refine wpList_store_row rfl 124 (.tmp 3) (.tmp 6) rfl w1.heap.size lenC rfl rfl 124 len0 (heap_alloc_last w1 _) HSL.out (by kernel_rfl) lenC_one ?_; rw [World.setRow_alloc_new]))
  have R1 : Row (w1.alloc (.cells lenC 124)) w1.heap.size 124 lenC := Row.new w1 _ _
  have HB1 := Lib.hid (HB.out.alloc HB.out.size (.cells lenC 124))
  have HR := Lib.hid R1
  clear HB R1
  generalize w1.alloc (.cells lenC 124) = w2 at *
  go_loop [4, 9] (fun n i => ∃ k : Nat, k ≤ s.size ∧ i = .int .i64 k ∧ ∃ b : Nat, n = .int .i64 b ∧ b ≤ 30 * k ∧ Hid (b = bitsN (s.data.toList.take k))) (fun _ i => s.size - (intOf i).toNat)
  case atStart => exact ⟨0, Nat.zero_le _, rfl, 0, rfl, Nat.zero_le _, by show _ = _; rfl⟩
  case round =>
    obtain ⟨k, hk, rfl, b, rfl, hb, hbe⟩ := hrel
    by_cases hlt : k < s.size
    · have hln := ln_all (s[k].toNat) (by have := s[k].toNat_lt; omega)
      have hcell := HR.out.cell (lenC_at (show s[k].toNat < 257 by have := s[k].toNat_lt; omega))
      have hnx : Hid (b + ln s[k].toNat = bitsN (s.data.toList.take (k + 1))) := by
        show _ = _
        rw [hbe.out, List.take_add_one, bitsN_append, List.getElem?_eq_getElem (by simpa using hlt)]
        simp [bitsN]
        rfl
      generalize ln s[k].toNat = n at hln hcell hnx
      have h257 := s[k].toNat_lt
      clear hbe
      go_wp2_with fail
      go_round
      case rel => exact ⟨k + 1, by omega, by go_num, b + n, by go_num, by omega, hnx⟩
      case measure => simp [intOf]; omega
    · obtain rfl : k = s.size := by omega
      have he : b = bitsN s.data.toList := by rw [hbe.out, List.take_of_length_le (by simp)]
      have HE := Lib.hid he
      clear he hbe
      go_wp2_with fail
      go_ret
      rw [← HE.out]
      exact ⟨ret1 (by omega), HB1.out⟩
end Go.Proofs.Ytfajffchnnalaaa
