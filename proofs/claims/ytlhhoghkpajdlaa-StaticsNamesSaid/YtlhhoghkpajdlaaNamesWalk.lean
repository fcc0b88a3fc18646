/-
  StaticsNames, by its contract: at every input it answers true; below what was there nothing has turned.
-/
import Derived.Test.YtlhhoghkpajdlaaSfix
namespace Go.Proofs.Ytlhhoghkpajdlaa
open Go.RowKit Go.WideShapes

attribute [local irreducible] first fndN fndB isN isB nmL vlL tab rtabC fldC

/-- What At answers: a field's three cells, and whether there is one. -/
theorem at_any (n : Int) : ∃ (x y : List UInt8) (t : Bool), (∀ w, Calls Try.prog 6 #[.int .i64 n] w fun e w' => e = .returned (.tuple #[.agg #[.string ⟨x.toArray⟩, .string ⟨y.toArray⟩, .bool false], .bool t]) ∧ Below w.heap.size w w') ∧
    (t = true → ∃ k : Nat, k < 61 ∧ n = (k : Int) + 1 ∧ nmL k = x ∧ vlL k = y) := by
  by_cases h : n < 1 ∨ 61 < n
  · exact ⟨[], [], false, fun w => at_no n h w, fun h => by cases h⟩
  · obtain ⟨k, hk⟩ := Int.eq_ofNat_of_zero_le (show 0 ≤ n - 1 by omega)
    obtain rfl : n = (k : Int) + 1 := by omega
    exact ⟨nmL k, vlL k, true, fun w => at_yes k (by omega) w, fun _ => ⟨k, by omega, rfl, rfl, rfl⟩⟩

set_option maxRecDepth 100000 in
set_option maxHeartbeats 2000000 in
theorem names_law (a b : Int) (w : World) : Calls Try.prog 5 #[.int .i64 a, .int .i64 b] w fun e w' => e = .returned (.bool true) ∧ Below w.heap.size w w' := by
  obtain ⟨x, y, s, h1, k1⟩ := at_any a
  obtain ⟨z, v, t, h2, k2⟩ := at_any b
  go_enter Try.func5, Try.ntmps5
  go_wp2_with fail
  refine (h1 _).mono ?_
  rintro e w1 ⟨rfl, hb1⟩
  have HB1 := Lib.hid hb1
  clear hb1
  go_wp2_with fail
  refine (h2 _).mono ?_
  rintro e w2 ⟨rfl, hb2⟩
  have HX := (Row.new w1 23 #[.string ⟨x.toArray⟩, .string ⟨y.toArray⟩, .bool false]).below hb2 (by simp)
  have HB2 := Lib.hid ((HB1.out.alloc HB1.out.size _).trans (hb2.mono (by simp; have := HB1.out.size; omega)))
  have HG := HX.lt
  have hx0 := HX.cell (j := 0) rfl
  have hx1 := HX.cell (j := 1) rfl
  clear hb2 HB1 h1 h2
  have hs : s = false ∨ (s = true ∧ t = false) ∨ (s = true ∧ t = true ∧ (x == z) = false) ∨ (s = true ∧ t = true ∧ (x == z) = true) := by
    cases s <;> cases t <;> cases (x == z) <;> simp
  rcases hs with rfl | ⟨rfl, rfl⟩ | ⟨rfl, rfl, he⟩ | ⟨rfl, rfl, he⟩
  · go_wp2_with fail
    refine (fixed_any _).mono ?_
    rintro e w3 ⟨rfl, hb3⟩
    have HB3 := Lib.hid ((HB2.out.alloc HB2.out.size _).trans (hb3.mono (by simp; have := HB2.out.size; omega)))
    clear hb3
    go_wp2_with fail
    go_ret
    exact ⟨rfl, HB3.out⟩
  · go_wp2_with fail
    refine (fixed_any _).mono ?_
    rintro e w3 ⟨rfl, hb3⟩
    have HB3 := Lib.hid ((HB2.out.alloc HB2.out.size _).trans (hb3.mono (by simp; have := HB2.out.size; omega)))
    clear hb3
    go_wp2_with fail
    go_ret
    exact ⟨rfl, HB3.out⟩
  · go_wp2_with fail
    refine (fixed_any _).mono ?_
    rintro e w3 ⟨rfl, hb3⟩
    have HB3 := Lib.hid ((HB2.out.alloc HB2.out.size _).trans (hb3.mono (by simp; have := HB2.out.size; omega)))
    clear hb3
    go_wp2_with fail
    go_ret
    exact ⟨rfl, HB3.out⟩
  · obtain ⟨j, hj, rfl, hjx, -⟩ := k1 rfl
    obtain ⟨k, hk, rfl, hkz, hkv⟩ := k2 rfl
    obtain rfl : x = z := eq_of_beq he
    obtain ⟨l0, l1, l2, lb⟩ := none_low hj hk hjx hkz
    have f1 := find_any x [0, 110, 111, 110, 101]
    have f2 := find_any x v
    rw [← hkz, ← hkv, (own_place k hk).1, (own_place k hk).2, hkz, hkv] at f2
    rw [lb] at f1
    generalize fndN x [0, 110, 111, 110, 101] = m at f1 l0 l1 l2
    unfold tx at f1 f2
    clear hjx hkz hkv lb k1 k2
    go_wp2_with fail
    refine (f1 _).mono ?_
    rintro e w3 ⟨rfl, hb3⟩
    have HY := (Row.new w2 23 #[.string ⟨x.toArray⟩, .string ⟨v.toArray⟩, .bool false]).below hb3 (by simp)
    have hy0 := HY.cell (j := 0) rfl
    have hy1 := HY.cell (j := 1) rfl
    have HB3 := Lib.hid ((HB2.out.alloc HB2.out.size _).trans (hb3.mono (by simp; have := HB2.out.size; omega)))
    clear hb3 HB2 f1 HX hx0 hx1 HG
    go_wp2_with fail
    refine (f2 _).mono ?_
    rintro e w4 ⟨rfl, hb4⟩
    have HB4 := Lib.hid (HB3.out.trans (hb4.mono HB3.out.size))
    clear hb4 HB3 f2 HY hy0 hy1
    go_wp2_with fail
    refine (fixed_any _).mono ?_
    rintro e w5 ⟨rfl, hb5⟩
    have HB5 := Lib.hid (HB4.out.trans (hb5.mono HB4.out.size))
    clear hb5 HB4
    go_wp2_with fail
    all_goals
      go_ret
      exact ⟨rfl, HB5.out⟩
end Go.Proofs.Ytlhhoghkpajdlaa
