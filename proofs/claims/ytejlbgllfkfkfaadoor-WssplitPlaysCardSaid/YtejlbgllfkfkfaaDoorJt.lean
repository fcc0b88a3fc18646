/-
  What a splitter has told so far and what it will tell: plain mathematics. No program is spoken of.
-/
import Derived.Test.YtejlbgllfkfkfaaDoorJm
namespace Go.Proofs.YtejlbgllfkfkfaaDoor

/-- What is told so far, of bytes b0; s: what is held, and what comes. -/
def PT (b0 : List UInt8) (m : Bool) (L : List Pc) (s : List UInt8) (bad : Bool) (code : Nat) : Prop :=
  (bad = false ∧ code = 0 ∧ ∀ out c n, AllJ m s out c n → AllJ m b0 (L ++ out) c n) ∨ (bad = true ∧ code ≠ 0 ∧ code ≤ 1009 ∧ AllJ m b0 L code 0)
section
variable {b0 l s z : List UInt8} {m bad : Bool} {L : List Pc} {code : Nat}
theorem PT.start (b0 : List UInt8) (m : Bool) : PT b0 m [] b0 false 0 := .inl ⟨rfl, rfl, fun _ _ _ h => h⟩
theorem PT.len (h : PT b0 m L s bad code) : L.length ≤ b0.length := by
  rcases h with ⟨_, _, h⟩ | ⟨_, _, _, h⟩
  · obtain ⟨out, c, n, h1, _⟩ := AllJ.exists m s.length s (Nat.le_refl _)
    have := (h _ _ _ h1).facts.2.2.1
    rw [List.length_append] at this
    omega
  · exact h.facts.2.2.1
theorem PT.code_le (h : PT b0 m L s bad code) : code ≤ 1009 := by
  rcases h with ⟨_, rfl, _⟩ | ⟨_, _, h, _⟩
  · omega
  · exact h
theorem PT.code_bad (h : PT b0 m L s bad code) : (bad = true ↔ code ≠ 0) := by
  rcases h with ⟨rfl, rfl, _⟩ | ⟨rfl, h, _⟩
  · simp
  · simp [h]
/-- Nothing else is told. -/
theorem PT.done (h : PT b0 m L l bad code) (hw : bad = true ∨ WaitJ m l) (hl : bad = true → l = []) : AllJ m b0 L code l.length := by
  rcases h with ⟨rfl, rfl, h⟩ | ⟨rfl, _, _, h⟩
  · have h1 := h [] 0 l.length (.stop (hw.elim (fun h => by cases h) id))
    rwa [List.append_nil] at h1
  · rw [hl rfl]
    exact h
/-- A frame is told. -/
theorem PT.frame (h : PT b0 m L (l ++ z) false code) (hg : WholeJ m l) : PT b0 m (L ++ [(getI m (l.take (whJ m l))).1]) (l.drop (whJ m l) ++ z) false code := by
  rcases h with ⟨_, h0, h⟩ | ⟨h, _⟩
  · refine .inl ⟨rfl, h0, fun out c n ha => ?_⟩
    have := h _ _ _ (AllJ.step hg ha)
    simpa using this
  · cases h
/-- A fault is told. -/
theorem PT.fault (h : PT b0 m L (l ++ z) false code) (hf : (hdI m l).code ≠ 0) (s : List UInt8) : PT b0 m L s true (hdI m l).code := by
  rcases h with ⟨_, h0, h⟩ | ⟨h, _⟩
  · have := h _ _ _ (AllJ.bad hf z)
    rw [List.append_nil] at this
    exact .inr ⟨rfl, hf, (hdI_small m l).2.2, this⟩
  · cases h
theorem PT.badS (h : PT b0 m L s true code) (s' : List UInt8) : PT b0 m L s' true code := by
  rcases h with ⟨h, _⟩ | h
  · cases h
  · exact .inr h
theorem nj_cases (m : Bool) (l : List UInt8) (bad : Bool) (hl : bad = true → l = []) :
    (njN m l bad = (none, l, bad) ∧ (bad = true ∨ WaitJ m l)) ∨ (bad = false ∧ (hdI m l).code ≠ 0 ∧ njN m l bad = (some (Pc.zero, (hdI m l).code), [], true) ∧ 0 < l.length) ∨
      (bad = false ∧ WholeJ m l ∧ njN m l bad = (some ((getI m (l.take (whJ m l))).1, 0), l.drop (whJ m l), false) ∧ (l.drop (whJ m l)).length < l.length) := by
  cases bad with
  | true => rw [hl rfl]; exact .inl ⟨nj_bad m [], .inl rfl⟩
  | false =>
    rcases cases_J m l with h | h | h
    · exact .inl ⟨nj_wait h, .inr h⟩
    · refine .inr (.inl ⟨rfl, h, nj_fault h, ?_⟩)
      cases l with
      | nil => exact absurd rfl h
      | cons a l => simp
    · refine .inr (.inr ⟨rfl, h, ?_, ?_⟩)
      · rw [nj_go h]
        congr 2
        exact Prod.ext rfl (getI_J h)
      · have h1 := whole_J h
        have h2 := h.2.2
        rw [List.length_drop]
        omega
end
end Go.Proofs.YtejlbgllfkfkfaaDoor
