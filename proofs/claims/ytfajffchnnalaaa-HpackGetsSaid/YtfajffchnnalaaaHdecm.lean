/-
  What bytes are the writing of, bit by bit, as plain lists. No conditions but those that each theorem names; no program.
-/
import Derived.Test.YtfajffchnnalaaaHmath
namespace Go.Proofs.Ytfajffchnnalaaa

theorem code_inj {i j : Nat} (hi : i < 257) (hj : j < 257) (h : codeB i = codeB j) : i = j := by
  have hl : ln i = ln j := by rw [← codeB_len, ← codeB_len, h]
  have hc : cd i = cd j := by rw [← codeB_val hi, ← codeB_val hj, h]
  have key : ∀ {i j : Nat}, i < 257 → j < 257 → ln i = ln j → i < j → cd i < cd j := by
    intro i j hi hj hl hlt
    unfold cd
    rw [← hl]
    have h1 := cnt_next hi (ln i)
    rw [if_pos rfl] at h1
    have h2 : (lens.take (i + 1)).count (ln i) ≤ (lens.take j).count (ln i) := by
      have : lens.take (i + 1) = (lens.take j).take (i + 1) := by rw [List.take_take]; congr 1; omega
      rw [this]
      exact (List.take_sublist _ _).count_le _
    omega
  rcases Nat.lt_trichotomy i j with h | h | h
  · have := key hi hj hl h; omega
  · exact h
  · have := key hj hi hl.symm h; omega

/-- The sign whose code these bits are. -/
def lookB (p : List Bool) : Option Nat := (List.range 257).find? fun i => decide (codeB i = p)
theorem lookB_some {p : List Bool} {i : Nat} (h : lookB p = some i) : i < 257 ∧ codeB i = p := by
  have h1 := List.find?_some h
  have h2 := List.mem_of_find?_eq_some h
  exact ⟨List.mem_range.1 h2, by simpa using h1⟩
theorem lookB_none {p : List Bool} (h : lookB p = none) : ∀ i, i < 257 → codeB i ≠ p := fun i hi e => by
  have := List.find?_eq_none.1 h i (List.mem_range.2 hi)
  simp [e] at this
theorem lookB_code {i : Nat} (hi : i < 257) : lookB (codeB i) = some i := by
  cases h : lookB (codeB i) with
  | none => exact absurd rfl (lookB_none h i hi)
  | some j =>
    obtain ⟨h1, h2⟩ := lookB_some h
    rw [code_inj h1 hi h2]
theorem lookB_of_none {p : List Bool} (h : ∀ i, i < 257 → codeB i ≠ p) : lookB p = none := by
  cases e : lookB p with
  | none => rfl
  | some i => exact absurd (lookB_some e).2 (h i (lookB_some e).1)

/-- One bit more. -/
def stepB (st : List UInt8 × List Bool) (b : Bool) : Option (List UInt8 × List Bool) :=
  match lookB (st.2 ++ [b]) with
  | none => some (st.1, st.2 ++ [b])
  | some i => if i = 256 then none else some (st.1 ++ [UInt8.ofNat i], [])
def runB : List Bool → List UInt8 × List Bool → Option (List UInt8 × List Bool)
  | [], st => some st
  | b :: s, st => (stepB st b).bind (runB s)
def finB : Option (List UInt8 × List Bool) → Option (List UInt8)
  | none => none
  | some (out, p) => if p.length < 8 ∧ p = List.replicate p.length true then some out else none
/-- The text that these bytes are the writing of, or none. -/
def decL (l : List UInt8) : Option (List UInt8) := finB (runB (unpack l) ([], []))

theorem step_none {out : List UInt8} {p : List Bool} {b : Bool} (h : lookB (p ++ [b]) = none) : stepB (out, p) b = some (out, p ++ [b]) := by simp [stepB, h]
theorem step_end {out : List UInt8} {p : List Bool} {b : Bool} (h : lookB (p ++ [b]) = some 256) : stepB (out, p) b = none := by simp [stepB, h]
theorem step_sign {out : List UInt8} {p : List Bool} {b : Bool} {i : Nat} (h : lookB (p ++ [b]) = some i) (hi : i ≠ 256) : stepB (out, p) b = some (out ++ [UInt8.ofNat i], []) := by simp [stepB, h, hi]
theorem runB_append (s t : List Bool) : ∀ st, runB (s ++ t) st = (runB s st).bind (runB t) := by
  induction s with
  | nil => intro st; rfl
  | cons b s ih =>
    intro st
    show (stepB st b).bind (runB (s ++ t)) = ((stepB st b).bind (runB s)).bind (runB t)
    cases stepB st b with
    | none => rfl
    | some st' => exact ih st'
theorem ones_iff {p : List Bool} : p = List.replicate p.length true ↔ val p = 2 ^ p.length - 1 := by
  constructor
  · intro h; conv => lhs; rw [h]
    exact val_ones _
  · intro h
    exact val_inj (by simp) (by rw [val_ones, h])
end Go.Proofs.Ytfajffchnnalaaa
