/-
  StaticsAt, by its contract: at every input it answers true; below what was there nothing has turned.
-/
import Derived.Test.YtlhhoghkpajdlaaSfix
namespace Go.Proofs.Ytlhhoghkpajdlaa
open Go.RowKit Go.WideShapes

attribute [local irreducible] first fndN fndB isN isB nmL vlL tab rtabC fldC

set_option maxRecDepth 100000 in
set_option maxHeartbeats 1000000 in
theorem at_in (k : Nat) (hk : k < 61) (w : World) : Calls Try.prog 3 #[.int .i64 ((k : Int) + 1)] w fun e w' => e = .returned (.bool true) ∧ Below w.heap.size w w' := by
  have h1 := at_yes k hk
  have h2 := rat_yes k hk
  have h3 := find_any (nmL k) (vlL k)
  rw [(own_place k hk).1, (own_place k hk).2] at h3
  unfold tx at h1 h2 h3
  generalize nmL k = x at h1 h2 h3
  generalize vlL k = y at h1 h2 h3
  have e1 : (x == x) = true := by simp
  have e2 : (y == y) = true := by simp
  go_enter Try.func3, Try.ntmps3
  go_wp2_with fail
  refine (h1 _).mono ?_
  rintro e w1 ⟨rfl, hb1⟩
  have HB1 := Lib.hid hb1
  clear hb1
  go_wp2_with fail
  refine (h2 _).mono ?_
  rintro e w2 ⟨rfl, hb2⟩
  have HR := (Row.new w1 23 #[.string ⟨x.toArray⟩, .string ⟨y.toArray⟩, .bool false]).below hb2 (by simp)
  have hc0 := HR.cell (j := 0) rfl
  have hc1 := HR.cell (j := 1) rfl
  have hc2 := HR.cell (j := 2) rfl
  have HB2 := Lib.hid ((HB1.out.alloc HB1.out.size _).trans (hb2.mono (by simp; have := HB1.out.size; omega)))
  clear hb2 HB1 h1 h2 HR
  go_wp2_with fail
  refine (h3 _).mono ?_
  rintro e w3 ⟨rfl, hb3⟩
  have HB3 := Lib.hid (HB2.out.trans (hb3.mono HB2.out.size))
  clear hb3 h3
  go_wp2_with fail
  refine (fixed_any _).mono ?_
  rintro e w4 ⟨rfl, hb4⟩
  have HB4 := Lib.hid (HB3.out.trans (hb4.mono HB3.out.size))
  clear hb4
  go_wp2_with fail
  go_ret
  exact ⟨rfl, HB4.out⟩

set_option maxRecDepth 100000 in
set_option maxHeartbeats 1000000 in
theorem at_out (n : Int) (hn : n < 1 ∨ 61 < n) (w : World) : Calls Try.prog 3 #[.int .i64 n] w fun e w' => e = .returned (.bool true) ∧ Below w.heap.size w w' := by
  have h1 := at_no n hn
  have h2 := rat_no n hn
  have h3 := find_any [] []
  unfold tx at h1 h2 h3
  generalize fndN [] [] = m at h3
  generalize fndB [] [] = t at h3
  clear hn
  generalize hx : ([] : List UInt8) = x at h1 h2 h3
  have e1 : (x == x) = true := by simp
  clear hx
  go_enter Try.func3, Try.ntmps3
  go_wp2_with fail
  refine (h1 _).mono ?_
  rintro e w1 ⟨rfl, hb1⟩
  have HB1 := Lib.hid hb1
  clear hb1
  go_wp2_with fail
  refine (h2 _).mono ?_
  rintro e w2 ⟨rfl, hb2⟩
  have HR := (Row.new w1 23 #[.string ⟨x.toArray⟩, .string ⟨x.toArray⟩, .bool false]).below hb2 (by simp)
  have hc0 := HR.cell (j := 0) rfl
  have hc1 := HR.cell (j := 1) rfl
  have hc2 := HR.cell (j := 2) rfl
  have HB2 := Lib.hid ((HB1.out.alloc HB1.out.size _).trans (hb2.mono (by simp; have := HB1.out.size; omega)))
  clear hb2 HB1 h1 h2 HR
  go_wp2_with fail
  refine (h3 _).mono ?_
  rintro e w3 ⟨rfl, hb3⟩
  have HB3 := Lib.hid (HB2.out.trans (hb3.mono HB2.out.size))
  clear hb3 h3
  go_wp2_with fail
  refine (fixed_any _).mono ?_
  rintro e w4 ⟨rfl, hb4⟩
  have HB4 := Lib.hid (HB3.out.trans (hb4.mono HB3.out.size))
  clear hb4
  go_wp2_with fail
  go_ret
  exact ⟨rfl, HB4.out⟩

theorem at_law (n : Int) (w : World) : Calls Try.prog 3 #[.int .i64 n] w fun e w' => e = .returned (.bool true) ∧ Below w.heap.size w w' := by
  by_cases h : n < 1 ∨ 61 < n
  · exact at_out n h w
  · obtain ⟨k, hk⟩ := Int.eq_ofNat_of_zero_le (show 0 ≤ n - 1 by omega)
    obtain rfl : n = (k : Int) + 1 := by omega
    exact at_in k (by omega) w
end Go.Proofs.Ytlhhoghkpajdlaa
