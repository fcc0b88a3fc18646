/-
  wsframe's size: how many bytes a frame has by its head, or the fault's error, by its contract. Conditions: the bytes are read.
-/
import Derived.Test.YtejlbgllfkfkfaaDoorIgn
import Derived.Test.YtejlbgllfkfkfaaDoorCpy
namespace Go.Proofs.YtejlbgllfkfkfaaDoor
open Go.RowKit Go.WideShapes

/-- No error; or the error that has this code of a socket's fault. -/
def ErrI (code : Nat) (er : Value) (w : World) : Prop := (code = 0 ∧ er = .nilIface) ∨ (code ≠ 0 ∧ ∃ g, er = .iface 76 (.pointer (some ⟨g, 0, none⟩)) ∧ Row w g 79 #[.int .u8 3, .int .u32 code])
/-- What size leaves. -/
def SizeP (h : Hd) (w : World) (e : Ending) (w' : World) : Prop := ∃ er, e = .returned (.tuple #[.int .i64 ((h.front + h.size : Nat) : Int), er]) ∧ ErrI h.code er w' ∧ Below w.heap.size w w'
theorem SizeP.bad {c g : Nat} {w w' : World} (hc : c ≠ 0) (hR : Row w' g 79 #[.int .u8 3, .int .u32 c]) (hb : Below w.heap.size w w') : SizeP (hBad c) w (.returned (.tuple #[.int .i64 0, .iface 76 (.pointer (some ⟨g, 0, none⟩))])) w' :=
  ⟨_, rfl, .inr ⟨hc, g, rfl, hR⟩, hb⟩
theorem SizeP.none (w : World) : SizeP hShort w (.returned (.tuple #[.int .i64 0, .nilIface])) w := ⟨_, rfl, .inl ⟨rfl, rfl⟩, Below.refl _ _⟩

theorem SizeP.whole' {f s : Nat} {n : Int} (h : n = ((f + s : Nat) : Int)) (w : World) : SizeP ⟨f, s, 0, false⟩ w (.returned (.tuple #[.int .i64 n, .nilIface])) w := ⟨_, by rw [h], .inl ⟨rfl, rfl⟩, Below.refl _ _⟩
theorem lenH_eq (m : Bool) (k : Nat) (r : List UInt8) (hk : k < 128) : lenH m k r =
    if r.length < behindN k then hShort
    else if formN (lenN k (r.take (behindN k))) ≠ k ∨ 9223372036854775808 ≤ lenN k (r.take (behindN k)) then hBad 1002
    else if 4096 < lenN k (r.take (behindN k)) then hBad 1009
    else ⟨2 + behindN k + four4 m, lenN k (r.take (behindN k)), 0, false⟩ := by
  unfold lenH
  by_cases h1 : k = 126
  · subst h1
    have hb : behindN 126 = 2 := rfl
    rw [if_pos rfl, hb]
    by_cases hr : r.length < 2
    · rw [if_pos hr, if_pos hr]
    rw [if_neg hr, if_neg hr]
    have hl : (r.take 2).length = 2 := by rw [List.length_take]; omega
    have hv : lenN 126 (r.take 2) = valL (r.take 2) := by unfold lenN; rw [if_neg (by omega)]
    have hlt : valL (r.take 2) < 65536 := valL_lt' hl
    rw [hv]
    unfold formN
    by_cases h2 : valL (r.take 2) < 126
    · rw [if_pos h2, if_pos (.inl (by rw [if_neg (by omega), if_neg (by omega)]; omega))]
    · have hx : ¬ ((if 65536 ≤ valL (r.take 2) then 127 else if 126 ≤ valL (r.take 2) then 126 else valL (r.take 2)) ≠ 126 ∨ 9223372036854775808 ≤ valL (r.take 2)) := by
        rw [if_neg (by omega), if_pos (by omega)]
        omega
      rw [if_neg h2, if_neg hx, show 2 + 2 + four4 m = 4 + four4 m by omega]
  rw [if_neg h1]
  by_cases h7 : k = 127
  · subst h7
    have hb : behindN 127 = 8 := rfl
    rw [if_pos rfl, hb]
    by_cases hr : r.length < 8
    · rw [if_pos hr, if_pos hr]
    rw [if_neg hr, if_neg hr]
    have hl : (r.take 8).length = 8 := by rw [List.length_take]; omega
    have hv : lenN 127 (r.take 8) = valL (r.take 8) := by unfold lenN; rw [if_neg (by omega)]
    rw [hv]
    unfold formN
    by_cases h2 : valL (r.take 8) < 65536 ∨ 9223372036854775808 ≤ valL (r.take 8)
    · rw [if_pos h2, if_pos]
      rcases h2 with h2 | h2
      · left
        rw [if_neg (by omega)]
        split <;> omega
      · exact .inr h2
    · rw [if_neg h2, if_neg (by rw [if_pos (by omega)]; omega), if_pos (by omega)]
  rw [if_neg h7]
  have hb : behindN k = 0 := by unfold behindN; rw [if_neg h7, if_neg h1]
  have hv : lenN k (r.take (behindN k)) = k := by rw [hb]; rfl
  rw [hv, hb, if_neg (by omega), if_neg (by unfold formN; rw [if_neg (by omega), if_neg (by omega)]; omega), if_neg (by omega)]

set_option maxRecDepth 100000 in
set_option maxHeartbeats 1000000 in
theorem isize_nil (m : Bool) (A : Option Addr) (c : Nat) (w : World) : Calls Tryd.prog 25 #[.slice A 0 c, .bool m] w (SizeP hShort w) := by
  go_enter Tryd.func25, Tryd.ntmps25
  go_wp2_with fail
  go_ret2
  exact SizeP.none w
set_option maxRecDepth 100000 in
set_option maxHeartbeats 1000000 in
theorem isize_one {B : Nat} {A : Option Addr} {c : Nat} {b : UInt8} {m : Bool} {w : World} (hr : RdB w B A [b]) :
    Calls Tryd.prog 25 #[.slice A 1 c, .bool m] w (SizeP (hdI m [b]) w) := by
  obtain ⟨g, o, rfl, _, hcell⟩ := hr (by simp)
  have c0 : w.cell? ⟨g, o, none⟩ = some (.int .u8 (b.toNat : Int)) := by have := hcell 0 (by simp); simpa using this
  have hf := ifirst_any b.toNat_lt
  have hd : hdI m [b] = if badFirst b.toNat then hBad 1002 else hShort := rfl
  rw [hd]
  clear hcell hr hd
  by_cases hb : badFirst b.toNat
  · rw [if_pos hb]
    rw [decide_eq_true hb] at hf
    clear hb
    generalize b.toNat = b at *
    go_enter Tryd.func25, Tryd.ntmps25
    go_wp2_with (first | (go_at_call 33; refine (hf _).mono ?_; rintro e w' ⟨rfl, rfl⟩) | (go_at_call 27; refine (socket_any _ _).mono ?_; rintro e w' ⟨ge, rfl, hR, hB⟩))
    go_ret2
    exact SizeP.bad (by omega) hR hB
  · rw [if_neg hb]
    rw [decide_eq_false hb] at hf
    clear hb
    generalize b.toNat = b at *
    go_enter Tryd.func25, Tryd.ntmps25
    go_wp2_with (go_at_call 33; refine (hf _).mono ?_; rintro e w' ⟨rfl, rfl⟩)
    go_ret2
    exact SizeP.none w
set_option maxRecDepth 100000 in
set_option maxHeartbeats 1000000 in
theorem isize_two {B : Nat} {A : Option Addr} {c : Nat} {b s : UInt8} {r : List UInt8} {m : Bool} {w : World} (hr : RdB w B A (b :: s :: r)) (hl : (b :: s :: r).length ≤ 1099511627776) (hcp : (b :: s :: r).length ≤ c) :
    Calls Tryd.prog 25 #[.slice A (b :: s :: r).length c, .bool m] w (SizeP (hdI m (b :: s :: r)) w) := by
  have hr0 := hr
  obtain ⟨g, o, rfl, _, hcell⟩ := hr0 (by simp)
  have c0 : w.cell? ⟨g, o, none⟩ = some (.int .u8 (b.toNat : Int)) := by have := hcell 0 (by simp); simpa using this
  have c1 : w.cell? ⟨g, o + 1, none⟩ = some (.int .u8 (s.toNat : Int)) := by have := hcell 1 (by simp); simpa using this
  have hf := ifirst_any b.toNat_lt
  have hd : hdI m (b :: s :: r) = if badFirst b.toNat ∨ badSecond b.toNat s.toNat m then hBad 1002 else lenH m (s.toNat % 128) r := rfl
  have hN : Hid ((b :: s :: r).length = r.length + 2) := by show _ = _; simp
  rw [hd]
  clear hcell hd
  by_cases hb : badFirst b.toNat
  · rw [if_pos (.inl hb)]
    rw [decide_eq_true hb] at hf
    have m0 : (0 : Int) < ((b :: s :: r).length : Int) := by simp; omega
    clear hb hr hN c1
    generalize (b :: s :: r).length = n at *
    generalize b.toNat = b at *
    go_enter Tryd.func25, Tryd.ntmps25
    go_wp2_with (first | (go_at_call 33; refine (hf _).mono ?_; rintro e w' ⟨rfl, rfl⟩) | (go_at_call 27; refine (socket_any _ _).mono ?_; rintro e w' ⟨ge, rfl, hR, hB⟩))
    go_ret2
    exact SizeP.bad (by omega) hR hB
  rw [decide_eq_false hb] at hf
  have hs2 := isecond_any (c := c) (m := m) hr hl hb
  by_cases hs : badSecond b.toNat s.toNat m
  · rw [if_pos (.inr hs)]
    rw [decide_eq_true hs] at hs2
    have m0 : (0 : Int) < ((b :: s :: r).length : Int) := by simp; omega
    have m1 : (1 : Int) < ((b :: s :: r).length : Int) := by simp; omega
    clear hb hr hN c1 hs
    generalize (b :: s :: r).length = n at *
    generalize b.toNat = b at *
    go_enter Tryd.func25, Tryd.ntmps25
    go_wp2_with (first | (go_at_call 33; refine (hf _).mono ?_; rintro e w' ⟨rfl, rfl⟩) | (go_at_call 34; refine hs2.mono ?_; rintro e w' ⟨rfl, rfl⟩) | (go_at_call 27; refine (socket_any _ _).mono ?_; rintro e w' ⟨ge, rfl, hR, hB⟩))
    go_ret2
    exact SizeP.bad (by omega) hR hB
  rw [if_neg (by rintro (h | h); exact hb h; exact hs h)]
  rw [decide_eq_false hs] at hs2
  have hk : s.toNat % 128 < 128 := Nat.mod_lt _ (by omega)
  have hbe := ibehind_any (s.toNat % 128)
  have han := andNot128 s.toNat_lt
  have m0 : (0 : Int) < ((b :: s :: r).length : Int) := by simp; omega
  have m1 : (1 : Int) < ((b :: s :: r).length : Int) := by simp; omega
  have m2 : decide (((b :: s :: r).length : Int) < 2) = false := by simp; omega
  rw [lenH_eq m _ r hk]
  have hbn : behindN (s.toNat % 128) ≤ 8 := by unfold behindN; split <;> (try split) <;> omega
  have hw2 : IntKind.i64.wrap (2 + (behindN (s.toNat % 128) : Int)) = 2 + (behindN (s.toNat % 128) : Int) := IntWalk.i64_in _ (by omega)
  by_cases hrl : r.length < behindN (s.toNat % 128)
  · rw [if_pos hrl]
    have hq : decide (((b :: s :: r).length : Int) < 2 + (behindN (s.toNat % 128) : Int)) = true := by simp only [List.length_cons, decide_eq_true_eq]; omega
    clear hb hr hN hs hrl hl hcp
    generalize (b :: s :: r).length = n at *
    generalize behindN (s.toNat % 128) = bn at *
    generalize s.toNat % 128 = f at *
    generalize b.toNat = b at *
    generalize s.toNat = s at *
    go_enter Tryd.func25, Tryd.ntmps25
    go_wp2_with (first | (go_at_call 33; refine (hf _).mono ?_; rintro e w' ⟨rfl, rfl⟩) | (go_at_call 34; refine hs2.mono ?_; rintro e w' ⟨rfl, rfl⟩) | (go_at_call 28; refine (hbe _).mono ?_; rintro e w' ⟨rfl, rfl⟩))
    go_ret2
    exact SizeP.none w
  rw [if_neg hrl]
  have hq : decide (((b :: s :: r).length : Int) < 2 + (behindN (s.toNat % 128) : Int)) = false := by simp only [List.length_cons, decide_eq_false_iff_not]; omega
  obtain ⟨i0, hi0, hz0, hz1, hz2⟩ := infoI infoI8
  obtain ⟨A2, hcut, hrd, _⟩ := cut_both (P := Tryd.prog) (c := c) (i := 2) (j := 2 + behindN (s.toNat % 128)) Tryd.underlying22 hi0 hz1 hr hcp (by omega) (by rw [hN.out]; omega)
  have hlr : ((r.take (behindN (s.toNat % 128))).length) = behindN (s.toNat % 128) := by rw [List.length_take]; omega
  have hrd2 : RdB w B A2 (r.take (behindN (s.toNat % 128))) := by
    have e : ((b :: s :: r).drop 2).take (2 + behindN (s.toNat % 128) - 2) = r.take (behindN (s.toNat % 128)) := by rw [Nat.add_sub_cancel_left]; rfl
    rw [e] at hrd
    exact hrd
  have hle := ilength_any (c := c - 2) hrd2 (by rw [hlr]; exact hbn) (f := s.toNat % 128) (by omega)
  rw [hlr] at hle
  have hcut2 : ∀ W, (Instr.slice 22 (.slice (some ⟨g, o, none⟩) (b :: s :: r).length c) (some (.int .i64 2)) (some (.int .i64 (2 + (behindN (s.toNat % 128) : Int)))) none).run Tryd.prog W = .ok (.slice A2 (behindN (s.toNat % 128)) (c - 2)) W := fun W => by
    have h1 := hcut W
    rw [Nat.add_sub_cancel_left, show ((2 + behindN (s.toNat % 128) : Nat) : Int) = 2 + (behindN (s.toNat % 128) : Int) by omega] at h1
    exact h1
  clear hcut
  obtain ⟨v, hv⟩ : ∃ v, v = lenN (s.toNat % 128) (r.take (behindN (s.toNat % 128))) := ⟨_, rfl⟩
  rw [← hv] at hle ⊢
  have hv64 : v < 18446744073709551616 := by
    rw [hv]
    unfold lenN
    split
    · omega
    · have h1 := valL_lt (r.take (behindN (s.toNat % 128)))
      rw [hlr] at h1
      have h2 : 256 ^ behindN (s.toNat % 128) ≤ 256 ^ 8 := Nat.pow_le_pow_right (by omega) hbn
      omega
  have hsh := ishort_any v hv64
  have hfl := formN_lt v
  clear hb hr hN hs hrl hl hcp hrd hrd2 hlr hv
  generalize (b :: s :: r).length = n at *
  generalize behindN (s.toNat % 128) = bn at *
  generalize s.toNat % 128 = f at *
  generalize b.toNat = b at *
  generalize s.toNat = s at *
  generalize formN v = fv at *
  by_cases h1 : fv ≠ f
  · rw [if_pos (.inl h1)]
    have hq1 : ((fv : Int) != (f : Int)) = true := by simp; omega
    clear h1
    go_enter Tryd.func25, Tryd.ntmps25
    go_wp2_with (first | (go_at_call 33; refine (hf _).mono ?_; rintro e w' ⟨rfl, rfl⟩) | (go_at_call 34; refine hs2.mono ?_; rintro e w' ⟨rfl, rfl⟩) | (go_at_call 28; refine (hbe _).mono ?_; rintro e w' ⟨rfl, rfl⟩) | (go_at_call 35; refine hle.mono ?_; rintro e w' ⟨rfl, rfl⟩) | (go_at_call 36; refine (hsh _).mono ?_; rintro e w' ⟨rfl, rfl⟩) | (go_at_call 27; refine (socket_any _ _).mono ?_; rintro e w' ⟨ge, rfl, hR, hB⟩))
    go_ret2
    exact SizeP.bad (by omega) hR hB
  obtain rfl : fv = f := Classical.not_not.1 h1
  have hq1 : ((fv : Int) != (fv : Int)) = false := by simp
  clear h1
  by_cases h2 : 9223372036854775808 ≤ v
  · rw [if_pos (.inr h2)]
    have hq2 : decide ((9223372036854775808 : Int) ≤ (v : Int)) = true := by simp; omega
    clear h2
    go_enter Tryd.func25, Tryd.ntmps25
    go_wp2_with (first | (go_at_call 33; refine (hf _).mono ?_; rintro e w' ⟨rfl, rfl⟩) | (go_at_call 34; refine hs2.mono ?_; rintro e w' ⟨rfl, rfl⟩) | (go_at_call 28; refine (hbe _).mono ?_; rintro e w' ⟨rfl, rfl⟩) | (go_at_call 35; refine hle.mono ?_; rintro e w' ⟨rfl, rfl⟩) | (go_at_call 36; refine (hsh _).mono ?_; rintro e w' ⟨rfl, rfl⟩) | (go_at_call 27; refine (socket_any _ _).mono ?_; rintro e w' ⟨ge, rfl, hR, hB⟩))
    go_ret2
    exact SizeP.bad (by omega) hR hB
  rw [if_neg (by rintro (h | h); exact h rfl; exact h2 h)]
  have hq2 : decide ((9223372036854775808 : Int) ≤ (v : Int)) = false := by simp; omega
  by_cases h3 : 4096 < v
  · rw [if_pos h3]
    have hq3 : (4096 : Int) < (v : Int) := by omega
    clear h2 h3
    go_enter Tryd.func25, Tryd.ntmps25
    go_wp2_with (first | (go_at_call 33; refine (hf _).mono ?_; rintro e w' ⟨rfl, rfl⟩) | (go_at_call 34; refine hs2.mono ?_; rintro e w' ⟨rfl, rfl⟩) | (go_at_call 28; refine (hbe _).mono ?_; rintro e w' ⟨rfl, rfl⟩) | (go_at_call 35; refine hle.mono ?_; rintro e w' ⟨rfl, rfl⟩) | (go_at_call 36; refine (hsh _).mono ?_; rintro e w' ⟨rfl, rfl⟩) | (go_at_call 27; refine (socket_any _ _).mono ?_; rintro e w' ⟨ge, rfl, hR, hB⟩))
    go_ret2
    exact SizeP.bad (by omega) hR hB
  rw [if_neg h3]
  have hq3 : ¬ (4096 : Int) < (v : Int) := by omega
  have hv4 : v ≤ 4096 := by omega
  clear h2 h3
  cases m
  · go_enter Tryd.func25, Tryd.ntmps25
    go_wp2_with (first | (go_at_call 33; refine (hf _).mono ?_; rintro e w' ⟨rfl, rfl⟩) | (go_at_call 34; refine hs2.mono ?_; rintro e w' ⟨rfl, rfl⟩) | (go_at_call 28; refine (hbe _).mono ?_; rintro e w' ⟨rfl, rfl⟩) | (go_at_call 35; refine hle.mono ?_; rintro e w' ⟨rfl, rfl⟩) | (go_at_call 36; refine (hsh _).mono ?_; rintro e w' ⟨rfl, rfl⟩) | (go_at_call 27; refine (socket_any _ _).mono ?_; rintro e w' ⟨ge, rfl, hR, hB⟩))
    go_ret2
    refine SizeP.whole' ?_ w
    unfold four4
    simp
  · go_enter Tryd.func25, Tryd.ntmps25
    go_wp2_with (first | (go_at_call 33; refine (hf _).mono ?_; rintro e w' ⟨rfl, rfl⟩) | (go_at_call 34; refine hs2.mono ?_; rintro e w' ⟨rfl, rfl⟩) | (go_at_call 28; refine (hbe _).mono ?_; rintro e w' ⟨rfl, rfl⟩) | (go_at_call 35; refine hle.mono ?_; rintro e w' ⟨rfl, rfl⟩) | (go_at_call 36; refine (hsh _).mono ?_; rintro e w' ⟨rfl, rfl⟩) | (go_at_call 27; refine (socket_any _ _).mono ?_; rintro e w' ⟨ge, rfl, hR, hB⟩))
    go_ret2
    refine SizeP.whole' ?_ w
    unfold four4
    simp
theorem isize_any {B : Nat} {A : Option Addr} {c : Nat} {l : List UInt8} {m : Bool} {w : World} (hr : RdB w B A l) (hl : l.length ≤ 1099511627776) (hcp : l.length ≤ c) :
    Calls Tryd.prog 25 #[.slice A l.length c, .bool m] w (SizeP (hdI m l) w) := by
  match l, hr, hl, hcp with
  | [], _, _, _ => exact isize_nil m A c w
  | [b], hr, _, _ => exact isize_one hr
  | b :: s :: r, hr, hl, hcp => exact isize_two hr hl hcp
end Go.Proofs.YtejlbgllfkfkfaaDoor
