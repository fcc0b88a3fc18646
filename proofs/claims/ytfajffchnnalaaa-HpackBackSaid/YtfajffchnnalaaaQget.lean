/-
  the program's Get, by its contract. Conditions: at most 65536 bytes.
-/
import Derived.Test.YtfajffchnnalaaaQput
import Derived.Test.YtfajffchnnalaaaPfxRest
namespace Go.Proofs.Ytfajffchnnalaaa
open Go.RowKit Go.WideShapes

/-- The post of both Gets: three numbers. -/
def Three (k1 k2 k3 : IntKind) (r : Nat × Nat × Nat) (e : Ending) : Prop := e = .returned (.tuple #[.int k1 (r.1 : Int), .int k2 (r.2.1 : Int), .int k3 (r.2.2 : Int)])

theorem getR_bd (l : List UInt8) : ∀ (i acc : Nat), i ≤ 4 → acc < 128 ^ i → (getR i acc l).1 < 268435456 ∧ (getR i acc l).2.1 ≤ 4 := by
  induction l with
  | nil => intro i acc _ _; simp [getR]
  | cons b l ih =>
    intro i acc hi ha
    by_cases h4 : i = 4
    · subst h4; rw [getR_four]; simp
    · have hs := digit_sum (n := b.toNat) ha (by omega)
      have hb := digit_bd (n := b.toNat) (j := i) (by omega)
      by_cases hl : b.toNat < 128
      · rw [getR_last h4 _ hl]
        exact ⟨by show _ < _; omega, by show i + 1 ≤ 4; omega⟩
      · rw [getR_more h4 _ hl]
        exact ih (i + 1) _ (by omega) hs

theorem get_arg (k : Int) (hno : ¬ (1 ≤ k ∧ k ≤ 8)) (A : Option Addr) (n c : Nat) (w : World) :
    Calls Try.prog 61 #[.slice A n c, .int .i64 k] w fun e w' => Three .u32 .i64 .i64 (0, 0, 1) e ∧ w = w' := by
  go_enter Try.func61, Try.ntmps61
  go_wp2_with (go_at_call 68; refine (is_no _ _ hno).mono ?_; rintro e w' ⟨rfl, rfl⟩)
  go_ret3
  exact ⟨rfl, rfl⟩

set_option maxRecDepth 100000 in
set_option maxHeartbeats 2000000 in
theorem get_any (k : Nat) (h1 : 1 ≤ k) (h8 : k ≤ 8) (A : Option Addr) (c : Nat) (l : List UInt8) (hl : l.length ≤ 65536) (hcap : l.length ≤ c) (w : World) (B : Nat) (hr : RdB w B A l) :
    Calls Try.prog 61 #[.slice A l.length c, .int .i64 k] w fun e w' => Three .u32 .i64 .i64 (getL k l) e ∧ w = w' := by
  obtain ⟨i0, hi0, hz0, hz1, hz2⟩ := info_parts u8_info
  cases l with
  | nil =>
    go_enter Try.func61, Try.ntmps61
    go_wp2_with (go_at_call 68; refine (is_yes _ _ (by omega) (by omega)).mono ?_; rintro e w' ⟨rfl, rfl⟩)
    go_ret3
    exact ⟨rfl, rfl⟩
  | cons b l =>
    obtain ⟨g, o, rfl, hg, hc⟩ := hr (by simp)
    have hc0 : w.cell? ⟨g, o, none⟩ = some (.int .u8 (b.toNat : Int)) := hc 0 (by simp)
    obtain ⟨A', hcut, hr'⟩ := cut_from (P := Try.prog) Try.underlying38 hi0 hz1 hr hcap (k := 1) (by simp)
    simp only [List.length_cons] at hcap hl
    have hcut' : ∀ W : World, (Instr.slice 38 (.slice (some ⟨g, o, none⟩) (l.length + 1) c) (some (.int .i64 1)) none none).run Try.prog W = .ok (.slice A' l.length (c - 1)) W := hcut
    have hrest := rest_any A' (c - 1) l (by omega) w B (by simpa using hr')
    have hb := b.toNat_lt
    have hp := pow_le h1 h8
    have hone := ones_any k
    have hand := and32_low h1 h8 (b := b.toNat) (by omega)
    obtain ⟨lo, hlo⟩ : ∃ lo, lo = b.toNat % 2 ^ k := ⟨_, rfl⟩
    rw [← hlo] at hand
    have hlob : lo ≤ 2 ^ k - 1 := by
      have := Nat.mod_lt b.toNat (show 2 ^ k > 0 by omega)
      omega
    generalize hG : getR 0 0 l = G at hrest
    obtain ⟨x, y, z⟩ := G
    have hE : getL k (b :: l) = if lo < 2 ^ k - 1 then (lo, 1, 0) else if z ≠ 0 then (0, 0, z) else if 268435456 - (2 ^ k - 1) < x then (0, 0, 4) else (2 ^ k - 1 + x, 1 + y, 0) := by
      simp only [getL, hG, hlo]
    generalize ht : 2 ^ k - 1 = t at hp hone hand hlob hE
    obtain ⟨p1, p2, _, _⟩ := hp
    have HT := Lib.hid ht
    have HE := Lib.hid hE
    have HG := Lib.hid hG
    have Hlo := Lib.hid hlo
    clear ht hE hG hlo hc hcut
    have hxy : x < 268435456 ∧ y ≤ 4 := by have := getR_bd l 0 0 (by omega) (by decide); rw [HG.out] at this; exact this
    obtain ⟨hx, hy⟩ := hxy
    simp only at hrest
    by_cases hlt : lo < t
    · rw [HE.out, if_pos hlt]
      go_enter Try.func61, Try.ntmps61
      go_wp2_with (first
        | (go_at_call 68; refine (is_yes _ _ (by omega) (by omega)).mono ?_; rintro e w' ⟨rfl, rfl⟩)
        | (go_at_call 69; refine (hone _ h1 h8).mono ?_; rintro e w' ⟨rfl, rfl⟩))
      go_ret3
      exact ⟨rfl, rfl⟩
    · have hd : decide ((lo : Int) < t) = false := by simp; omega
      have Hlt : Hid (¬ lo < t) := hlt
      have hge : t ≤ lo := by omega
      clear hlt
      by_cases hz : z = 0
      · subst hz
        by_cases hx2 : 268435456 - t < x
        · rw [HE.out, if_neg Hlt.out, if_neg (by simp), if_pos hx2]
          go_enter Try.func61, Try.ntmps61
          go_wp2_with (first
            | (go_at_call 68; refine (is_yes _ _ (by omega) (by omega)).mono ?_; rintro e w' ⟨rfl, rfl⟩)
            | (go_at_call 69; refine (hone _ h1 h8).mono ?_; rintro e w' ⟨rfl, rfl⟩)
            | (go_at_call 74; refine hrest.mono ?_; rintro e w' ⟨rfl, rfl⟩))
          go_ret3
          exact ⟨rfl, rfl⟩
        · rw [HE.out, if_neg Hlt.out, if_neg (by simp), if_neg hx2]
          have hd2 : decide ((268435456 : Int) - t < x) = false := by simp; omega
          go_enter Try.func61, Try.ntmps61
          go_wp2_with (first
            | (go_at_call 68; refine (is_yes _ _ (by omega) (by omega)).mono ?_; rintro e w' ⟨rfl, rfl⟩)
            | (go_at_call 69; refine (hone _ h1 h8).mono ?_; rintro e w' ⟨rfl, rfl⟩)
            | (go_at_call 74; refine hrest.mono ?_; rintro e w' ⟨rfl, rfl⟩))
          go_ret3
          exact ⟨ret3 (by simp) (by simp) rfl, rfl⟩
      · rw [HE.out, if_neg Hlt.out, if_pos hz]
        have hz1 : ((z : Int) == 0) = false := by rw [beq_eq_false_iff_ne]; omega
        have hz2 : ((z : Int) != 0) = true := by rw [bne_iff_ne]; omega
        go_enter Try.func61, Try.ntmps61
        go_wp2_with (first
          | (go_at_call 68; refine (is_yes _ _ (by omega) (by omega)).mono ?_; rintro e w' ⟨rfl, rfl⟩)
          | (go_at_call 69; refine (hone _ h1 h8).mono ?_; rintro e w' ⟨rfl, rfl⟩)
          | (go_at_call 74; refine hrest.mono ?_; rintro e w' ⟨rfl, rfl⟩))
        go_ret3
        exact ⟨rfl, rfl⟩
end Go.Proofs.Ytfajffchnnalaaa
