/-
  PrefixPuts, by its contract: at every input it answers true; below what was there nothing has turned.
-/
import Derived.Test.YtdghkfmliedndaaPfxFixed
namespace Go.Proofs.Ytdghkfmliedndaa
open Go.RowKit Go.WideShapes

theorem puts_long (A : Option Addr) (c m : Nat) (k a n : Int) (A' : Option Addr) (c' m' : Nat) (h : 3000 < m ∨ 3000 < m') (w : World) :
    Calls Try.prog 3 #[.slice A m c, .int .i64 k, .int .u8 a, .int .u32 n, .slice A' m' c'] w fun e w' => e = .returned (.bool true) ∧ Below w.heap.size w w' := by
  by_cases h1 : 3000 < m
  · have h1' : (3000 : Int) < m := by omega
    clear h
    go_enter Try.func3, Try.ntmps3
    go_wp2_with (go_at_call 8; refine (fixed_any _).mono ?_; rintro e w' ⟨rfl, hb⟩)
    go_ret
    exact ⟨rfl, hb⟩
  · have h1' : decide ((3000 : Int) < m) = false := by simp; omega
    have h2' : (3000 : Int) < m' := by have := h.resolve_left h1; omega
    clear h
    go_enter Try.func3, Try.ntmps3
    go_wp2_with (go_at_call 8; refine (fixed_any _).mono ?_; rintro e w' ⟨rfl, hb⟩)
    go_ret
    exact ⟨rfl, hb⟩

set_option maxRecDepth 100000 in
set_option maxHeartbeats 4000000 in
theorem puts_out (A : Option Addr) (c : Nat) (b : List UInt8) (hb3 : b.length ≤ 3000) (k a : Int) (n : Nat) (A' : Option Addr) (c' m' : Nat) (hm' : m' ≤ 3000) (hno : ¬ (1 ≤ k ∧ k ≤ 8) ∨ 268435456 < n) (w : World) (hr : RdB w w.heap.size A b) :
    Calls Try.prog 3 #[.slice A b.length c, .int .i64 k, .int .u8 a, .int .u32 n, .slice A' m' c'] w fun e w' => e = .returned (.bool true) ∧ Below w.heap.size w w' := by
  have p1 := put_no k n hno a A c b (by omega) w hr
  have s1 := size_no k n hno
  have l1 : decide ((3000 : Int) < b.length) = false := by simp; omega
  have l2 : decide ((3000 : Int) < m') = false := by simp; omega
  have hcase : k < 1 ∨ (decide (k < 1) = false ∧ 8 < k) ∨ (decide (k < 1) = false ∧ decide (8 < k) = false ∧ (268435456 : Int) < n) := by
    rcases hno with h | h
    · by_cases h1 : k < 1
      · exact .inl h1
      · exact .inr (.inl ⟨by simp; omega, by omega⟩)
    · by_cases h1 : k < 1
      · exact .inl h1
      · by_cases h8 : 8 < k
        · exact .inr (.inl ⟨by simp; omega, h8⟩)
        · exact .inr (.inr ⟨by simp; omega, by simp; omega, by omega⟩)
  clear hno
  rcases hcase with h | ⟨h, h'⟩ | ⟨h, h', h''⟩
  all_goals
    go_enter Try.func3, Try.ntmps3
    go_wp2_with fail
    refine p1.mono ?_
    rintro e w1 ⟨A1, c1, rfl, ho1, hb1⟩
    go_wp2_with fail
    refine (fixed_any _).mono ?_
    rintro e w2 ⟨rfl, hb2⟩
    obtain ⟨A1', c1', e1, _, _, hr1⟩ := ho1.shape
    injection e1 with e1 _ e3
    subst e1 e3
    have t1 : (convert 22 9 (.slice A1 b.length c1)).run Try.prog w2 = .ok (.string ⟨b.toArray⟩) w2 := run_text Try.underlying22 Try.underlying5 Try.underlying9 (hr1.below hb2)
    have t2 : (convert 22 9 (.slice A b.length c)).run Try.prog w2 = .ok (.string ⟨b.toArray⟩) w2 := run_text Try.underlying22 Try.underlying5 Try.underlying9 (hr.below (hb1.trans (hb2.mono hb1.size)))
    have HB := Lib.hid (hb1.trans (hb2.mono hb1.size))
    clear hb1 hb2 ho1 hr1
    go_wp2_with fail
    refine (s1 _).mono ?_
    rintro e w3 ⟨rfl, hb3⟩
    go_wp2
    go_ret
    exact ⟨rfl, HB.out.trans (hb3.mono HB.out.size)⟩

theorem own_size {w3 w4 : World} {B : Nat} {o : Obj} {v : Value} {l : List UInt8} {e : TypeId} (_ : OwB w4 w3.heap.size e v l) (h : Below B (w3.alloc o) w4) : w3.heap.size ≤ w4.heap.size := by
  have := h.size
  simp at this
  omega

set_option maxRecDepth 100000 in
set_option maxHeartbeats 4000000 in
theorem puts_in (A : Option Addr) (c : Nat) (b : List UInt8) (hb3 : b.length ≤ 3000) (k a n : Nat) (A' : Option Addr) (c' : Nat) (d : List UInt8) (hd3 : d.length ≤ 3000) (h1 : 1 ≤ k) (h8 : k ≤ 8) (ha : a < 256) (hn : n ≤ 268435456) (w : World)
    (hr : RdB w w.heap.size A b) (hr' : RdB w w.heap.size A' d) :
    Calls Try.prog 3 #[.slice A b.length c, .int .i64 k, .int .u8 a, .int .u32 n, .slice A' d.length c'] w fun e w' => e = .returned (.bool true) ∧ Below w.heap.size w w' := by
  obtain ⟨i0, hi0, hz0, hz1, hz2⟩ := info_parts u8_info
  have p1 := put_yes k a n h1 h8 ha hn A c b (by omega) w hr
  have p2 := ref_put k a n h1 h8 ha hn
  have s1 := size_yes k n h1 h8 hn
  have hsz := putL_size k a n
  have hgp := get_put h1 h8 ha hn d
  have hgc := get_cut h1 h8 ha hn
  have hlen := putL_len k a n
  generalize putL k a n = M at p1 p2 hsz hgp hgc hlen
  rw [← hsz] at s1
  have HGP := Lib.hid hgp
  have HGC := Lib.hid hgc
  obtain ⟨l0, l5⟩ := hlen
  have l1 : decide ((3000 : Int) < b.length) = false := by simp; omega
  have l2 : decide ((3000 : Int) < d.length) = false := by simp; omega
  have hk1 : decide ((k : Int) < 1) = false := by simp; omega
  have hk8 : decide ((8 : Int) < k) = false := by simp; omega
  have hnn : decide ((268435456 : Int) < n) = false := by simp; omega
  have hX : ∃ X, X = b ++ M := ⟨_, rfl⟩
  obtain ⟨X, hX⟩ := hX
  rw [← hX] at p1
  have hadd : ∀ W : World, (Op.stringOp .add ⟨b.toArray⟩ ⟨M.toArray⟩).run Try.prog W = .ok (.string ⟨X.toArray⟩) W := fun W => by
    rw [hX]
    exact run_string_add_lists W b M (by omega) (by omega)
  have HX := Lib.hid hX
  clear hX hsz hgp hgc
  go_enter Try.func3, Try.ntmps3
  go_wp2_with fail
  refine p1.mono ?_
  rintro e w1 ⟨A1, c1, rfl, ho1, hb1⟩
  go_wp2_with fail
  refine (p2 _).mono ?_
  rintro e w2 ⟨A2, c2, rfl, ho2, hb2⟩
  obtain ⟨A1', c1', e1, _, _, hr1⟩ := ho1.shape
  injection e1 with e1 _ e3
  subst e1 e3
  obtain ⟨A2', c2', e1, hc2, _, hr2⟩ := ho2.shape
  injection e1 with e1 _ e3
  subst e1 e3
  have t1 : (convert 22 9 (.slice A1 X.length c1)).run Try.prog w2 = .ok (.string ⟨X.toArray⟩) w2 := run_text Try.underlying22 Try.underlying5 Try.underlying9 (hr1.below hb2)
  have t2 : (convert 22 9 (.slice A b.length c)).run Try.prog w2 = .ok (.string ⟨b.toArray⟩) w2 := run_text Try.underlying22 Try.underlying5 Try.underlying9 (hr.below (hb1.trans (hb2.mono hb1.size)))
  have t3 : (convert 22 9 (.slice A2 M.length c2)).run Try.prog w2 = .ok (.string ⟨M.toArray⟩) w2 := run_text Try.underlying22 Try.underlying5 Try.underlying9 hr2
  have HB := Lib.hid (hb1.trans (hb2.mono hb1.size))
  clear hb1 hb2 ho1 hr1 ho2
  go_wp2_with fail
  refine (s1 _).mono ?_
  rintro e w3 ⟨rfl, hb3⟩
  clear t1 t2 t3 hadd p1 p2 s1
  have hr2' := hr2.below hb3
  have HB2 := hb3.size
  have HB3 := Lib.hid (HB.out.trans (hb3.mono HB.out.size))
  clear hb3 hr2
  have hz3 := HB3.out.size
  have hlit : OwB (w3.alloc (.cells #[] 5)) w3.heap.size 5 (.slice (some ⟨w3.heap.size, 0, none⟩) 0 0) [] := OwB.lit w3 5 [] 0 rfl (by simp [maxLen]) (Nat.le_refl _)
  go_wp2_with (first
    | (at_builtin; refine wpList_appB rfl (.tmp 79) (.tmp 80) _ rfl w3.heap.size 5 i0 Try.underlying22 hi0 hz0 hz1 hz2 _ [] rfl hlit w2.heap.size A2 M _ c2 rfl rfl (hr2'.alloc HB2 _) (by simp; omega) (by simp) ?_; intro A4 c4 L4 w4 hL4 ho4 hb4; have hrd : RdB w4 w.heap.size A' d := hr'.below (HB3.out.trans ((((Below.refl _ _).alloc hz3 _)).trans (hb4.mono hz3))); have hz4 : w3.heap.size ≤ w4.heap.size := own_size ho4 hb4; have hM4 : L4.length ≤ 5 := by rw [hL4.out]; exact l5)
    | (at_builtin; refine wpList_appB rfl (.tmp 81) (.tmp 82) _ rfl w3.heap.size 5 i0 Try.underlying22 hi0 hz0 hz1 hz2 _ L4 rfl ho4 w.heap.size A' d _ c' rfl rfl hrd (by omega) hz4 ?_; intro A5 c5 L5 w5 hL5 ho5 hb5))
  obtain ⟨A5', c5', e1, hc5, _, hr5⟩ := ho5.shape
  injection e1 with e1 _ e3
  subst e1 e3
  have hl5 : L5.length ≤ 65536 := by rw [hL5.out, List.length_append]; omega
  have cg := get_any k h1 h8 A5 c5 L5 hl5 hc5 w5 _ hr5
  have hE : getL k L5 = (n, M.length, 0) := by rw [hL5.out, hL4.out, List.nil_append]; exact HGP.out
  rw [hE] at cg
  unfold Three at cg
  clear hE
  have hB34 : Below w3.heap.size w3 w4 := ((Below.refl _ _).alloc (Nat.le_refl _) _).trans hb4
  have hB35 : Below w3.heap.size w3 w5 := hB34.trans hb5
  have hrM := hr2'.below (hB35.mono HB2)
  have H5 := Lib.hid (HB3.out.trans (hB35.mono hz3))
  clear ho5 hc5 hr5 hl5 hrd hb4 hb5 ho4 hB34 hB35 hr2' hlit
  go_wp2_with fail
  refine cg.mono ?_
  rintro e w' ⟨rfl, rfl⟩
  go_wp2_with fail
  go_loop [106] (fun i => ∃ j : Nat, j ≤ M.length ∧ i = .int .i64 j) (fun i => M.length - (intOf i).toNat)
  case atStart => exact ⟨0, Nat.zero_le _, rfl⟩
  case round =>
    obtain ⟨j, hj, rfl⟩ := hrel
    by_cases hlt : j < M.length
    · obtain ⟨hcut, hrj⟩ := cut_upto (P := Try.prog) Try.underlying22 hi0 hz1 hrM hc2 (k := j) hj
      have hlj : (M.take j).length = j := List.length_take_of_le hj
      have cj := get_any k h1 h8 A2 c2 (M.take j) (by omega) (by omega) w5 _ hrj
      rw [HGC.out j hlt, hlj] at cj
      unfold Three at cj
      clear hlj hrj
      go_wp2_with fail
      refine cj.mono ?_
      rintro e w' ⟨rfl, rfl⟩
      go_wp2_with fail
      go_round
      case rel => exact ⟨j + 1, by omega, by go_num⟩
      case measure => simp [intOf]; omega
    · obtain rfl : j = M.length := by omega
      go_wp2_with fail
      refine (fixed_any _).mono ?_
      rintro e w6 ⟨rfl, hb6⟩
      go_wp2_with fail
      go_ret
      exact ⟨rfl, H5.out.trans (hb6.mono H5.out.size)⟩

theorem puts_any (A : Option Addr) (c : Nat) (b : List UInt8) (k a n : Int) (A' : Option Addr) (c' : Nat) (d : List UInt8) (ha : 0 ≤ a ∧ a < 256) (hn : 0 ≤ n) (w : World)
    (hr : RdB w w.heap.size A b) (hr' : RdB w w.heap.size A' d) :
    Calls Try.prog 3 #[.slice A b.length c, .int .i64 k, .int .u8 a, .int .u32 n, .slice A' d.length c'] w fun e w' => e = .returned (.bool true) ∧ Below w.heap.size w w' := by
  by_cases hl : 3000 < b.length ∨ 3000 < d.length
  · exact puts_long A c b.length k a n A' c' d.length hl w
  · obtain ⟨n', rfl⟩ := Int.eq_ofNat_of_zero_le hn
    by_cases h : (1 ≤ k ∧ k ≤ 8) ∧ n' ≤ 268435456
    · obtain ⟨k', rfl⟩ := Int.eq_ofNat_of_zero_le (show 0 ≤ k by omega)
      obtain ⟨a', rfl⟩ := Int.eq_ofNat_of_zero_le ha.1
      exact puts_in A c b (by omega) k' a' n' A' c' d (by omega) (by omega) (by omega) (by omega) h.2 w hr hr'
    · exact puts_out A c b (by omega) k a n' A' c' d.length (by omega) (by omega) w hr
end Go.Proofs.Ytdghkfmliedndaa
