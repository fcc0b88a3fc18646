/-
  Which frame bytes are, case by case. No program is spoken of.
-/
import Derived.Test.YtejlbgllfkfkfaaDoorIsz
namespace Go.Proofs.YtejlbgllfkfkfaaDoor

theorem getI_bad {m : Bool} {l : List UInt8} (h : (hdI m l).code ≠ 0) : getI m l = (Pc.zero, (hdI m l).code) := if_pos h
theorem getI_none {m : Bool} {l : List UInt8} (h : (hdI m l).code = 0) (h2 : (hdI m l).front + (hdI m l).size = 0 ∨ (hdI m l).front + (hdI m l).size ≠ l.length) : getI m l = (Pc.zero, 1002) := by
  unfold getI
  rw [if_neg (by omega)]
  by_cases hs : (hdI m l).short = true
  · rw [if_pos (.inl hs)]
  · have := hdI_whole m l (by simpa using hs) h
    rw [if_pos (.inr (by omega))]
theorem hdI_form {m : Bool} {l : List UInt8} (h : (hdI m l).code = 0) (h0 : (hdI m l).front + (hdI m l).size ≠ 0) :
    ∃ b s r, l = b :: s :: r ∧ ¬ badFirst b.toNat ∧ (hdI m l).front = 2 + behindN (s.toNat % 128) + four4 m ∧ (hdI m l).short = false ∧ (hdI m l).size ≤ 4096 := by
  have hs : (hdI m l).short = false := by
    cases hh : (hdI m l).short
    · rfl
    · exact absurd (hdI_short m l hh).1 h0
  have hz := (hdI_small m l).2.1
  match l, h, h0, hs, hz with
  | [], _, _, hs, _ => cases hs
  | [b], h, _, hs, _ =>
    exfalso
    revert h hs
    show (if badFirst b.toNat then hBad 1002 else hShort).code = 0 → (if badFirst b.toNat then hBad 1002 else hShort).short = false → False
    split
    · intro h; cases h
    · intro _ h; cases h
  | b :: s :: r, h, h0, hs, hz =>
    refine ⟨b, s, r, rfl, ?_, ?_, hs, hz⟩
    · intro hb
      revert h
      show (if badFirst b.toNat ∨ badSecond b.toNat s.toNat m then hBad 1002 else lenH m (s.toNat % 128) r).code = 0 → False
      rw [if_pos (.inl hb)]
      intro h
      cases h
    · revert h hs
      show (if badFirst b.toNat ∨ badSecond b.toNat s.toNat m then hBad 1002 else lenH m (s.toNat % 128) r).code = 0 → (if badFirst b.toNat ∨ badSecond b.toNat s.toNat m then hBad 1002 else lenH m (s.toNat % 128) r).short = false → (if badFirst b.toNat ∨ badSecond b.toNat s.toNat m then hBad 1002 else lenH m (s.toNat % 128) r).front = _
      split
      · intro h; cases h
      rw [lenH_eq m _ r (Nat.mod_lt _ (by omega))]
      split
      · intro _ h; cases h
      split
      · intro h; cases h
      split
      · intro h; cases h
      intro _ _
      rfl
/-- The key of a frame's bytes whose head has so many. -/
def keyI (m : Bool) (f : Nat) (l : List UInt8) : Nat := if m = true then valL ((l.drop (f - 4)).take 4) else 0
theorem keyI_lt (m : Bool) (f : Nat) (l : List UInt8) : keyI m f l < 4294967296 := by
  unfold keyI
  split
  · have h1 := valL_lt ((l.drop (f - 4)).take 4)
    have h2 : 256 ^ ((l.drop (f - 4)).take 4).length ≤ 256 ^ 4 := Nat.pow_le_pow_right (by omega) (by rw [List.length_take]; omega)
    omega
  · omega
theorem getI_whole {m : Bool} {b s : UInt8} {r : List UInt8} (h : (hdI m (b :: s :: r)).code = 0) (hs : (hdI m (b :: s :: r)).short = false) (hl : (hdI m (b :: s :: r)).front + (hdI m (b :: s :: r)).size = (b :: s :: r).length) :
    getI m (b :: s :: r) = (⟨decide (127 < b.toNat), b.toNat % 16, m, keyI m (hdI m (b :: s :: r)).front (b :: s :: r), turnL (keyI m (hdI m (b :: s :: r)).front (b :: s :: r)) ((b :: s :: r).drop (hdI m (b :: s :: r)).front)⟩, 0) := by
  unfold getI
  have hx : ¬ ((hdI m (b :: s :: r)).short = true ∨ (b :: s :: r).length ≠ (hdI m (b :: s :: r)).front + (hdI m (b :: s :: r)).size) := by
    rintro (h1 | h1)
    · rw [hs] at h1; cases h1
    · exact h1 hl.symm
  rw [if_neg (by omega), if_neg hx]
  unfold keyI
  cases m
  · simp only [Bool.false_eq_true, if_false]
    rw [turnL_zero]
    rfl
  · simp only [if_true]
    rfl
end Go.Proofs.YtejlbgllfkfkfaaDoor
