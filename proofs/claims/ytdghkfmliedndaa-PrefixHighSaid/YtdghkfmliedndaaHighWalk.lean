/-
  PrefixHigh, by its contract: at every input it answers true; below what was there nothing has turned.
-/
import Derived.Test.YtdghkfmliedndaaPfxFixed
import Derived.Deep.QuietTactic
import Derived.BigQuiet
import Derived.Deep.RegionHeld3
import Derived.Deep.Cut
namespace Go.Proofs.Ytdghkfmliedndaa
open Go.RowKit Go.WideShapes

theorem put_two {k a o n : Nat} (h1 : 1 ≤ k) (h8 : k ≤ 8) (ha : a < 256) (ho : o < 256) : ∃ (T : List UInt8) (x y : UInt8), putL k a n = x :: T ∧ putL k o n = y :: T ∧ x.toNat / 2 ^ k = a / 2 ^ k ∧ y.toNat / 2 ^ k = o / 2 ^ k ∧ T.length ≤ 4 := by
  have la := hiN_lt h1 h8 ha
  have lo := hiN_lt h1 h8 ho
  by_cases h : n < 2 ^ k - 1
  · refine ⟨[], UInt8.ofNat (hiN k a + n), UInt8.ofNat (hiN k o + n), putL_small h, putL_small h, ?_, ?_, by simp⟩
    · rw [toNat_ofNat' (by omega), hiN_div h1 h8 (by omega)]
    · rw [toNat_ofNat' (by omega), hiN_div h1 h8 (by omega)]
  · refine ⟨tailF 3 (n - (2 ^ k - 1)), _, _, putL_great h, putL_great h, ?_, ?_, tailF_len _ _⟩
    · rw [toNat_ofNat' la, hiN_div h1 h8 (Nat.le_refl _)]
    · rw [toNat_ofNat' lo, hiN_div h1 h8 (Nat.le_refl _)]

theorem high_out (k : Int) (a o : Int) (n : Nat) (h : ¬ (1 ≤ k ∧ k ≤ 8) ∨ 268435456 < n) (w : World) :
    Calls Try.prog 7 #[.int .i64 k, .int .u8 a, .int .u8 o, .int .u32 n] w fun e w' => e = .returned (.bool true) ∧ Below w.heap.size w w' := by
  by_cases h1 : k < 1
  · clear h
    go_enter Try.func7, Try.ntmps7
    go_wp2_with (go_at_call 8; refine (fixed_any _).mono ?_; rintro e w' ⟨rfl, hb⟩)
    go_ret
    exact ⟨rfl, hb⟩
  · have d1 : decide (k < 1) = false := by simp; omega
    by_cases h8 : 8 < k
    · clear h
      go_enter Try.func7, Try.ntmps7
      go_wp2_with (go_at_call 8; refine (fixed_any _).mono ?_; rintro e w' ⟨rfl, hb⟩)
      go_ret
      exact ⟨rfl, hb⟩
    · have d8 : decide (8 < k) = false := by simp; omega
      have hn : 268435456 < n := h.resolve_left fun h => h ⟨by omega, by omega⟩
      clear h
      go_enter Try.func7, Try.ntmps7
      go_wp2_with (go_at_call 8; refine (fixed_any _).mono ?_; rintro e w' ⟨rfl, hb⟩)
      go_ret
      exact ⟨rfl, hb⟩

theorem shift_eq {x a k : Nat} (hx : x < 256) (ha : a < 256) (h : x / 2 ^ k = a / 2 ^ k) : (IntKind.i64.wrap (x : Int) / 2 ^ k == IntKind.i64.wrap (a : Int) / 2 ^ k) = true := by
  rw [IntKind.wrap_i64, IntKind.wrap_i64, show ((x : Int) + 9223372036854775808) % 18446744073709551616 - 9223372036854775808 = x by omega, show ((a : Int) + 9223372036854775808) % 18446744073709551616 - 9223372036854775808 = a by omega, beq_iff_eq]
  have : ((x / 2 ^ k : Nat) : Int) = ((a / 2 ^ k : Nat) : Int) := by rw [h]
  simpa using this

set_option maxRecDepth 100000 in
set_option maxHeartbeats 4000000 in
theorem high_in (k a o n : Nat) (h1 : 1 ≤ k) (h8 : k ≤ 8) (ha : a < 256) (ho : o < 256) (hn : n ≤ 268435456) (w : World) :
    Calls Try.prog 7 #[.int .i64 k, .int .u8 a, .int .u8 o, .int .u32 n] w fun e w' => e = .returned (.bool true) ∧ Below w.heap.size w w' := by
  obtain ⟨i0, hi0, hz0, hz1, hz2⟩ := info_parts u8_info
  obtain ⟨T, x, y, e1, e2, hx, hy, hT⟩ := put_two (n := n) h1 h8 ha ho
  have p1 := put_yes k a n h1 h8 ha hn none 0 [] (by simp) w RdB.nil
  have p2 := fun W => put_yes k o n h1 h8 ho hn none 0 [] (by simp) W RdB.nil
  have g1 := get_put h1 h8 ha hn []
  have g2 := get_put h1 h8 ho hn []
  rw [List.append_nil, e1] at g1
  rw [List.append_nil, e2] at g2
  rw [List.nil_append, e1] at p1
  rw [List.nil_append, e2] at p2
  have hxb := x.toNat_lt
  have hyb := y.toNat_lt
  have E1 := Lib.hid e1
  have E2 := Lib.hid e2
  have G1 := Lib.hid g1
  have G2 := Lib.hid g2
  have HX := Lib.hid hx
  have HY := Lib.hid hy
  clear e1 e2 g1 g2 hx hy
  have hk1 : decide ((k : Int) < 1) = false := by simp; omega
  have hk8 : decide ((8 : Int) < k) = false := by simp; omega
  have hnn : decide ((268435456 : Int) < n) = false := by simp; omega
  go_enter Try.func7, Try.ntmps7
  go_wp2_with fail
  refine p1.mono ?_
  rintro e w1 ⟨A1, c1, rfl, ho1, hb1⟩
  obtain ⟨A1', c1', q1, hc1, _, hr1⟩ := ho1.shape
  injection q1 with q1 _ q3
  subst q1 q3
  obtain ⟨g1, o1, rfl, _, hd1⟩ := hr1 (by simp)
  have hx0 : w1.cell? ⟨g1, o1, none⟩ = some (.int .u8 (x.toNat : Int)) := hd1 0 (by simp)
  have HR1 := Lib.hid hr1
  have HB1 := Lib.hid hb1
  have HX0 := Lib.hid hx0
  clear hr1 hb1 hx0 hd1 ho1
  go_wp2_with fail
  refine (p2 _).mono ?_
  rintro e w2 ⟨A2, c2, rfl, ho2, hb2⟩
  obtain ⟨A2', c2', q1, hc2, _, hr2⟩ := ho2.shape
  injection q1 with q1 _ q3
  subst q1 q3
  obtain ⟨g2, o2, rfl, _, hd2⟩ := hr2 (by simp)
  have hy0 : w2.cell? ⟨g2, o2, none⟩ = some (.int .u8 (y.toNat : Int)) := hd2 0 (by simp)
  have hR1 := HR1.out.below hb2
  obtain ⟨A1', hcut1, hs1⟩ := cut_from (P := Try.prog) Try.underlying22 hi0 hz1 hR1 hc1 (k := 1) (by simp)
  obtain ⟨A2', hcut2, hs2⟩ := cut_from (P := Try.prog) Try.underlying22 hi0 hz1 hr2 hc2 (k := 1) (by simp)
  have hcut1' : ∀ W : World, (Instr.slice 22 (.slice (some ⟨g1, o1, none⟩) (T.length + 1) c1) (some (.int .i64 1)) none none).run Try.prog W = .ok (.slice A1' T.length (c1 - 1)) W := hcut1
  have hcut2' : ∀ W : World, (Instr.slice 22 (.slice (some ⟨g2, o2, none⟩) (T.length + 1) c2) (some (.int .i64 1)) none none).run Try.prog W = .ok (.slice A2' T.length (c2 - 1)) W := hcut2
  have ht1 : ∀ q, (convert 22 9 (.slice A1' T.length (c1 - 1))).run Try.prog (w2.drewN q) = .ok (.string ⟨T.toArray⟩) (w2.drewN q) := fun q =>
    run_text Try.underlying22 Try.underlying5 Try.underlying9 (RdB.keep (w := w2) hs1 fun _ _ => rfl)
  have ht2 : ∀ q, (convert 22 9 (.slice A2' T.length (c2 - 1))).run Try.prog (w2.drewN q) = .ok (.string ⟨T.toArray⟩) (w2.drewN q) := fun q =>
    run_text Try.underlying22 Try.underlying5 Try.underlying9 (RdB.keep (w := w2) hs2 fun _ _ => rfl)
  have cg1 : ∀ q, Calls Try.prog 12 #[.slice (some ⟨g1, o1, none⟩) (T.length + 1) c1, .int .i64 k] (w2.drewN q) fun e w' => e = .returned (.tuple #[.int .u32 n, .int .i64 ((T.length : Int) + 1), .int .i64 0]) ∧ w2.drewN q = w' := fun q => by
    have h := get_any k h1 h8 (some ⟨g1, o1, none⟩) c1 (x :: T) (by simp; omega) hc1 (w2.drewN q) _ (RdB.keep (w := w2) hR1 fun _ _ => rfl)
    unfold Three at h
    rw [G1.out] at h
    exact h
  have cg2 : ∀ q, Calls Try.prog 12 #[.slice (some ⟨g2, o2, none⟩) (T.length + 1) c2, .int .i64 k] (w2.drewN q) fun e w' => e = .returned (.tuple #[.int .u32 n, .int .i64 ((T.length : Int) + 1), .int .i64 0]) ∧ w2.drewN q = w' := fun q => by
    have h := get_any k h1 h8 (some ⟨g2, o2, none⟩) c2 (y :: T) (by simp; omega) hc2 (w2.drewN q) _ (RdB.keep (w := w2) hr2 fun _ _ => rfl)
    unfold Three at h
    rw [G2.out] at h
    exact h
  have HY0 := Lib.hid hy0
  have HHX : Hid (w2.cell? ⟨g1, o1, none⟩ = some (.int .u8 (x.toNat : Int))) := (hb2.cell (p := ⟨g1, o1, none⟩) (World.block_lt_of_cell? w1 _ HX0.out)).trans HX0.out
  have HB2 := Lib.hid (HB1.out.trans (hb2.mono HB1.out.size))
  clear hcut1 hcut2 hb2 hy0 HX0
  go_upto_region 4 with (fail)
  go_quiet (fail)
  clear ht1 ht2 hcut1' hcut2'
  go_wp2_with fail
  refine (cg1 _).mono ?_
  rintro e w' ⟨rfl, rfl⟩
  go_wp2_with fail
  refine (cg2 _).mono ?_
  rintro e w' ⟨rfl, rfl⟩
  clear cg1 cg2
  go_upto_region 8 with (fail)
  rename_i nq _ _ _
  have f0 : (w2.drewN nq).cell? ⟨g1, o1, none⟩ = some (.int .u8 (x.toNat : Int)) := HHX.out
  have f1 : (w2.drewN nq).cell? ⟨g2, o2, none⟩ = some (.int .u8 (y.toNat : Int)) := HY0.out
  have HW : Hid (Below w.heap.size w (w2.drewN nq)) := HB2.out.trans ⟨rfl, rfl, rfl, Nat.le_refl _, fun _ _ => rfl⟩
  clear HHX HY0 HB2 HR1 HB1 p1 p2
  generalize w2.drewN nq = W at f0 f1 HW ⊢
  have dx : (IntKind.i64.wrap (x.toNat : Int) / 2 ^ k == IntKind.i64.wrap (a : Int) / 2 ^ k) = true := shift_eq (by omega) (by omega) HX.out
  have dy : (IntKind.i64.wrap (y.toNat : Int) / 2 ^ k == IntKind.i64.wrap (o : Int) / 2 ^ k) = true := shift_eq (by omega) (by omega) HY.out
  go_region_held3 (fun w' => w'.cell? ⟨g1, o1, none⟩ = some (.int .u8 (x.toNat : Int)) ∧ w'.cell? ⟨g2, o2, none⟩ = some (.int .u8 (y.toNat : Int))) (first | exact ⟨u0, u1⟩ | exact ⟨f0, f1⟩)
    ((go_at_call 8; refine (fixed_any _).mono ?_; rintro e w3 ⟨rfl, hb3⟩; have HB3 := Lib.hid hb3; have u0 := (hb3.cell (p := ⟨g1, o1, none⟩) (World.block_lt_of_cell? W _ f0)).trans f0; have u1 := (hb3.cell (p := ⟨g2, o2, none⟩) (World.block_lt_of_cell? W _ f1)).trans f1; clear hb3))
  go_wp2_with fail
  go_ret
  have hz := HW.out.size
  exact ⟨rfl, HW.out.drew.trans (HB3.out.mono (by simpa using hz))⟩

theorem high_any (k a o n : Int) (ha : 0 ≤ a ∧ a < 256) (ho : 0 ≤ o ∧ o < 256) (hn : 0 ≤ n) (w : World) :
    Calls Try.prog 7 #[.int .i64 k, .int .u8 a, .int .u8 o, .int .u32 n] w fun e w' => e = .returned (.bool true) ∧ Below w.heap.size w w' := by
  obtain ⟨n', rfl⟩ := Int.eq_ofNat_of_zero_le hn
  by_cases h : (1 ≤ k ∧ k ≤ 8) ∧ n' ≤ 268435456
  · obtain ⟨k', rfl⟩ := Int.eq_ofNat_of_zero_le (show 0 ≤ k by omega)
    obtain ⟨a', rfl⟩ := Int.eq_ofNat_of_zero_le ha.1
    obtain ⟨o', rfl⟩ := Int.eq_ofNat_of_zero_le ho.1
    exact high_in k' a' o' n' (by omega) (by omega) (by omega) (by omega) h.2 w
  · exact high_out k a o n' (by omega) w
end Go.Proofs.Ytdghkfmliedndaa
