/-
  Which numbers a frame has that was got, and where its payload lies, in plain mathematics. No program is spoken of.
-/
import Derived.Test.YtooaajnkiokpnaaGreatDoorFback
namespace Go.Proofs.YtooaajnkiokpnaaGreatDoor

theorem hdN_ok {ty fl st : Nat} (h1 : ty < 256) (h2 : fl < 256) : (hdN ty fl st).Ok := ⟨h1, h2, by show 0 < _; omega, by show 0 < _; omega, fun s hs => by cases hs⟩
theorem bodyN_ok {ty fl st : Nat} {pad : Int} {r : List UInt8} (h1 : ty < 256) (h2 : fl < 256) (hl : LenP ty fl r.length) : (bodyN ty fl st pad r).Ok := by
  have hv : ∀ l : List UInt8, valL (l.take 4) < 4294967296 := fun l => by
    have h3 := valL_lt (l.take 4)
    have h4 : (l.take 4).length ≤ 4 := by simp; omega
    have h5 : 256 ^ (l.take 4).length ≤ 256 ^ 4 := Nat.pow_le_pow_right (by omega) h4
    omega
  have hs : ty = 4 → ∀ s ∈ setsN r, s.1 < 65536 ∧ s.2 < 4294967296 := fun e => by
    have := (hl.2.2.2.1 e).1
    exact setsN_bd (r.length / 6) r (by omega)
  unfold bodyN
  split
  · exact ⟨h1, h2, by show 0 < _; omega, (r.getD 4 0).toNat_lt, fun s hs => by cases hs⟩
  · split
    · exact ⟨h1, h2, hv r, by show 0 < _; omega, fun s hs => by cases hs⟩
    · split
      · exact ⟨h1, h2, by show 0 < _; omega, by show 0 < _; omega, hs (by assumption)⟩
      · split
        · exact ⟨h1, h2, by show 0 < _; omega, by show 0 < _; omega, fun s hs => by cases hs⟩
        · split
          · exact ⟨h1, h2, hv _, by show 0 < _; omega, fun s hs => by cases hs⟩
          · split
            · exact ⟨h1, h2, by show 0 < _; omega, by show 0 < _; omega, fun s hs => by cases hs⟩
            · exact ⟨h1, h2, by show 0 < _; omega, by show 0 < _; omega, fun s hs => by cases hs⟩
/-- What a payload is read as: the head alone, or a body of a right length. -/
theorem readN_ways (ty fl st : Nat) (s : List UInt8) : (readN ty fl st s).1 = hdN ty fl st ∧ (readN ty fl st s).2.1 ≠ 0 ∨
    ∃ pad r, padN ty fl s = .ok (pad, r) ∧ LenP ty fl r.length ∧ readN ty fl st s = (bodyN ty fl st pad r, 0, 0) := by
  unfold readN
  by_cases c1 : 16384 < s.length
  · rw [if_pos c1]; exact .inl ⟨rfl, by simp⟩
  · rw [if_neg c1]
    by_cases c2 : wrongB ty st = true
    · rw [if_pos c2]; exact .inl ⟨rfl, by simp⟩
    · rw [if_neg c2]
      cases hpd : padN ty fl s with
      | error c => exact .inl ⟨rfl, by simp⟩
      | ok x =>
        obtain ⟨pad, r⟩ := x
        simp only
        by_cases c3 : lenB ty fl r.length = false
        · rw [if_pos c3]; refine .inl ⟨rfl, ?_⟩; simp only; split <;> omega
        · rw [if_neg c3]
          by_cases c4 : growN ty st (bodyN ty fl st pad r).win = 0
          · rw [if_pos c4]
            have : lenB ty fl r.length = true := by simpa using c3
            exact .inr ⟨pad, r, rfl, of_decide_eq_true this, rfl⟩
          · rw [if_neg c4]; exact .inl ⟨rfl, c4⟩
theorem getN_ok (b : List UInt8) : (getN b).1.Ok := by
  unfold getN
  split
  · exact hdN_ok (by omega) (by omega)
  · have htyb := (b.getD 3 0).toNat_lt
    have hflb := (b.getD 4 0).toNat_lt
    generalize (b.getD 3 0).toNat = ty at *
    generalize (b.getD 4 0).toNat = fl at *
    rcases readN_ways ty fl (valL ((b.drop 5).take 4) % 2147483648) (b.drop 9) with ⟨h, _⟩ | ⟨pad, r, _, hl, h⟩
    · rw [h]; exact hdN_ok htyb hflb
    · rw [h]; exact bodyN_ok htyb hflb hl
theorem padN_ways {ty fl : Nat} {s r : List UInt8} {p : Int} (h : padN ty fl s = .ok (p, r)) : r.length + (p + 1).toNat ≤ s.length ∧ -1 ≤ p := by
  unfold padN at h
  split at h
  · cases s with
    | nil => cases h
    | cons q t =>
      simp only at h
      split at h
      · cases h
      · injection h with h
        injection h with h1 h2
        subst h1 h2
        have := List.length_take_le (t.length - q.toNat) t
        simp only [List.length_cons]
        rw [List.length_take]
        omega
  · injection h with h
    injection h with h1 h2
    subst h1 h2
    exact ⟨by simp, by omega⟩
/-- Where the payload of a frame that was got lies. -/
theorem getN_at {b : List UInt8} {f : Frm} (h : getN b = (f, 0, 0)) : 9 ≤ b.length ∧ -1 ≤ f.pad ∧ (f.ty = 5 ∨ f.ty = 7 ∨ f.ty = 8 → 9 + (f.pad + 1).toNat < b.length) := by
  unfold getN at h
  by_cases h9 : b.length < 9 ∨ b.length ≠ 9 + valL (b.take 3)
  · rw [if_pos h9] at h
    have := congrArg (·.2.1) h
    simp at this
  · rw [if_neg h9] at h
    have hsl : (b.drop 9).length = b.length - 9 := by rw [List.length_drop]
    generalize (b.getD 3 0).toNat = ty at *
    generalize (b.getD 4 0).toNat = fl at *
    generalize valL ((b.drop 5).take 4) % 2147483648 = st at *
    generalize b.drop 9 = s at *
    rcases readN_ways ty fl st s with ⟨_, h1⟩ | ⟨pad, r, hpd, hl, h1⟩
    · rw [h] at h1; exact absurd rfl h1
    · rw [h1] at h
      have hf : f = bodyN ty fl st pad r := (congrArg (·.1) h).symm
      obtain ⟨b1, _, _, b4⟩ := bodyN_head ty fl st pad r
      rw [← hf] at b1 b4
      obtain ⟨p1, p2⟩ := padN_ways hpd
      refine ⟨by omega, by omega, fun e => ?_⟩
      rw [b1] at e
      rw [b4]
      obtain ⟨_, _, l3, _, l5, _, l7⟩ := hl
      have : 4 ≤ r.length := by
        rcases e with e | e | e
        · exact l5 e
        · have := l7 e; omega
        · have := l3 (.inr e); omega
      omega
/-- A fault's scope and code: none, or a scope. -/
theorem getN_z (b : List UInt8) : (getN b).2.1 ≠ 0 ∨ getN b = ((getN b).1, 0, 0) := by
  unfold getN
  split
  · exact .inl (by simp)
  · rcases readN_ways (b.getD 3 0).toNat (b.getD 4 0).toNat (valL ((b.drop 5).take 4) % 2147483648) (b.drop 9) with ⟨_, h⟩ | ⟨pad, r, _, hl, h⟩
    · exact .inl h
    · rw [h]; exact .inr rfl
end Go.Proofs.YtooaajnkiokpnaaGreatDoor
