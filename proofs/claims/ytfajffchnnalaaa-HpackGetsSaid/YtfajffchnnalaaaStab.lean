/-
  The fields that are known ahead, as plain lists of bytes; which of them is the first one that has a name, or a name and a value. No conditions but those that each theorem names; no program.
-/
namespace Go.Proofs.Ytfajffchnnalaaa

set_option maxRecDepth 10000 in
/-- Names and values. -/
def tab : List (List UInt8 × List UInt8) :=
  [([58, 97, 117, 116, 104, 111, 114, 105, 116, 121], []), ([58, 109, 101, 116, 104, 111, 100], [71, 69, 84]), ([58, 109, 101, 116, 104, 111, 100], [80, 79, 83, 84]), ([58, 112, 97, 116, 104], [47])] ++
  [([58, 112, 97, 116, 104], [47, 105, 110, 100, 101, 120, 46, 104, 116, 109, 108]), ([58, 115, 99, 104, 101, 109, 101], [104, 116, 116, 112]), ([58, 115, 99, 104, 101, 109, 101], [104, 116, 116, 112, 115]), ([58, 115, 116, 97, 116, 117, 115], [50, 48, 48])] ++
  [([58, 115, 116, 97, 116, 117, 115], [50, 48, 52]), ([58, 115, 116, 97, 116, 117, 115], [50, 48, 54]), ([58, 115, 116, 97, 116, 117, 115], [51, 48, 52]), ([58, 115, 116, 97, 116, 117, 115], [52, 48, 48])] ++
  [([58, 115, 116, 97, 116, 117, 115], [52, 48, 52]), ([58, 115, 116, 97, 116, 117, 115], [53, 48, 48]), ([97, 99, 99, 101, 112, 116, 45, 99, 104, 97, 114, 115, 101, 116], []), ([97, 99, 99, 101, 112, 116, 45, 101, 110, 99, 111, 100, 105, 110, 103], [103, 122, 105, 112, 44, 32, 100, 101, 102, 108, 97, 116, 101])] ++
  [([97, 99, 99, 101, 112, 116, 45, 108, 97, 110, 103, 117, 97, 103, 101], []), ([97, 99, 99, 101, 112, 116, 45, 114, 97, 110, 103, 101, 115], []), ([97, 99, 99, 101, 112, 116], []), ([97, 99, 99, 101, 115, 115, 45, 99, 111, 110, 116, 114, 111, 108, 45, 97, 108, 108, 111, 119, 45, 111, 114, 105, 103, 105, 110], [])] ++
  [([97, 103, 101], []), ([97, 108, 108, 111, 119], []), ([97, 117, 116, 104, 111, 114, 105, 122, 97, 116, 105, 111, 110], []), ([99, 97, 99, 104, 101, 45, 99, 111, 110, 116, 114, 111, 108], [])] ++
  [([99, 111, 110, 116, 101, 110, 116, 45, 100, 105, 115, 112, 111, 115, 105, 116, 105, 111, 110], []), ([99, 111, 110, 116, 101, 110, 116, 45, 101, 110, 99, 111, 100, 105, 110, 103], []), ([99, 111, 110, 116, 101, 110, 116, 45, 108, 97, 110, 103, 117, 97, 103, 101], []), ([99, 111, 110, 116, 101, 110, 116, 45, 108, 101, 110, 103, 116, 104], [])] ++
  [([99, 111, 110, 116, 101, 110, 116, 45, 108, 111, 99, 97, 116, 105, 111, 110], []), ([99, 111, 110, 116, 101, 110, 116, 45, 114, 97, 110, 103, 101], []), ([99, 111, 110, 116, 101, 110, 116, 45, 116, 121, 112, 101], []), ([99, 111, 111, 107, 105, 101], [])] ++
  [([100, 97, 116, 101], []), ([101, 116, 97, 103], []), ([101, 120, 112, 101, 99, 116], []), ([101, 120, 112, 105, 114, 101, 115], [])] ++
  [([102, 114, 111, 109], []), ([104, 111, 115, 116], []), ([105, 102, 45, 109, 97, 116, 99, 104], []), ([105, 102, 45, 109, 111, 100, 105, 102, 105, 101, 100, 45, 115, 105, 110, 99, 101], [])] ++
  [([105, 102, 45, 110, 111, 110, 101, 45, 109, 97, 116, 99, 104], []), ([105, 102, 45, 114, 97, 110, 103, 101], []), ([105, 102, 45, 117, 110, 109, 111, 100, 105, 102, 105, 101, 100, 45, 115, 105, 110, 99, 101], []), ([108, 97, 115, 116, 45, 109, 111, 100, 105, 102, 105, 101, 100], [])] ++
  [([108, 105, 110, 107], []), ([108, 111, 99, 97, 116, 105, 111, 110], []), ([109, 97, 120, 45, 102, 111, 114, 119, 97, 114, 100, 115], []), ([112, 114, 111, 120, 121, 45, 97, 117, 116, 104, 101, 110, 116, 105, 99, 97, 116, 101], [])] ++
  [([112, 114, 111, 120, 121, 45, 97, 117, 116, 104, 111, 114, 105, 122, 97, 116, 105, 111, 110], []), ([114, 97, 110, 103, 101], []), ([114, 101, 102, 101, 114, 101, 114], []), ([114, 101, 102, 114, 101, 115, 104], [])] ++
  [([114, 101, 116, 114, 121, 45, 97, 102, 116, 101, 114], []), ([115, 101, 114, 118, 101, 114], []), ([115, 101, 116, 45, 99, 111, 111, 107, 105, 101], []), ([115, 116, 114, 105, 99, 116, 45, 116, 114, 97, 110, 115, 112, 111, 114, 116, 45, 115, 101, 99, 117, 114, 105, 116, 121], [])] ++
  [([116, 114, 97, 110, 115, 102, 101, 114, 45, 101, 110, 99, 111, 100, 105, 110, 103], []), ([117, 115, 101, 114, 45, 97, 103, 101, 110, 116], []), ([118, 97, 114, 121], []), ([118, 105, 97], [])] ++
  [([119, 119, 119, 45, 97, 117, 116, 104, 101, 110, 116, 105, 99, 97, 116, 101], [])]
theorem tab_len : tab.length = 61 := by decide +kernel
def nmL (j : Nat) : List UInt8 := (tab.getD j ([], [])).1
def vlL (j : Nat) : List UInt8 := (tab.getD j ([], [])).2

/-- The number of the first place below k that has it, counted from one; or nought. -/
def first (p : Nat → Bool) : Nat → Nat
  | 0 => 0
  | k + 1 => if first p k = 0 then (if p k then k + 1 else 0) else first p k
def isN (a : List UInt8) (j : Nat) : Bool := decide (nmL j = a)
def isB (a b : List UInt8) (j : Nat) : Bool := decide (nmL j = a) && decide (vlL j = b)
/-- The number that is found; whether the value is the same, too. -/
def fndN (a b : List UInt8) : Nat := if first (isB a b) 61 = 0 then first (isN a) 61 else first (isB a b) 61
def fndB (a b : List UInt8) : Bool := decide (first (isB a b) 61 ≠ 0)

section
variable {p q : Nat → Bool}
theorem first_zero : first p 0 = 0 := rfl
theorem first_le (k : Nat) : first p k ≤ k := by
  induction k with
  | zero => simp [first]
  | succ k ih =>
    unfold first
    split
    · split <;> omega
    · omega
theorem first_more {k m : Nat} (h : k ≤ m) (hk : first p k ≠ 0) : first p m = first p k := by
  induction m with
  | zero => obtain rfl : k = 0 := by omega
            rfl
  | succ m ih =>
    by_cases e : k = m + 1
    · rw [e]
    · have := ih (by omega)
      show (if first p m = 0 then _ else first p m) = _
      rw [if_neg (by rw [this]; exact hk), this]
theorem first_hit {k : Nat} (h : first p k = 0) (hp : p k = true) : first p (k + 1) = k + 1 := by simp [first, h, hp]
theorem first_miss {k : Nat} (hp : p k = false) : first p (k + 1) = first p k := by
  show (if first p k = 0 then (if p k then k + 1 else 0) else first p k) = _
  rw [hp]
  split
  · rename_i h; simp [h]
  · rfl
theorem first_keep {k : Nat} (h : first p k ≠ 0) : first p (k + 1) = first p k := by simp [first, h]
theorem first_bound {k j : Nat} (hj : j < k) (hp : p j = true) : first p k ≠ 0 ∧ first p k ≤ j + 1 := by
  by_cases h : first p j = 0
  · have h1 := first_hit h hp
    have h2 := first_more (p := p) (k := j + 1) (m := k) (by omega) (by omega)
    omega
  · have h2 := first_more (p := p) (k := j) (m := k) (by omega) h
    have := first_le (p := p) j
    omega
theorem first_none {k : Nat} (h : ∀ j, j < k → p j = false) : first p k = 0 := by
  induction k with
  | zero => rfl
  | succ k ih => rw [first_miss (h k (by omega))]; exact ih fun j hj => h j (by omega)
end
theorem fnd_hit {a b : List UInt8} {k : Nat} (hk : k < 61) (h : first (isB a b) k = 0) (hp : isB a b k = true) : fndN a b = k + 1 ∧ fndB a b = true := by
  have h1 := first_hit h hp
  have h2 := first_more (p := isB a b) (k := k + 1) (m := 61) (by omega) (by omega)
  unfold fndN fndB
  rw [h2, h1]
  simp
theorem fnd_miss {a b : List UInt8} (h : first (isB a b) 61 = 0) : fndN a b = first (isN a) 61 ∧ fndB a b = false := by
  unfold fndN fndB
  rw [if_pos h, h]
  simp
theorem isB_of {a b : List UInt8} {k : Nat} (h1 : isN a k = true) (h2 : vlL k = b) : isB a b k = true := by
  unfold isB
  unfold isN at h1
  simp [h2, of_decide_eq_true h1]
theorem isB_no {a b : List UInt8} {k : Nat} (h1 : isN a k = false) : isB a b k = false := by
  unfold isB
  unfold isN at h1
  rw [h1]; rfl
theorem isB_no' {a b : List UInt8} {k : Nat} (h2 : vlL k ≠ b) : isB a b k = false := by
  unfold isB
  simp [h2]

/-- Each field is found at its own place. -/
theorem own_place : ∀ j, j < 61 → fndN (nmL j) (vlL j) = j + 1 ∧ fndB (nmL j) (vlL j) = true := by decide +kernel
/-- No field's value is this one. -/
theorem val_none : ∀ j, j < 61 → vlL j ≠ [0, 110, 111, 110, 101] := by decide +kernel
/-- The chapter's examples. -/
theorem ex_fnd : fndN [58, 115, 116, 97, 116, 117, 115] [50, 48, 49] = 8 ∧ fndB [58, 115, 116, 97, 116, 117, 115] [50, 48, 49] = false := by decide +kernel
theorem ex_two : nmL 1 = [58, 109, 101, 116, 104, 111, 100] ∧ vlL 1 = [71, 69, 84] := by decide +kernel
/-- By a name of a field, with a value that none has: the lowest number with that name. -/
theorem none_low {a : List UInt8} {j k : Nat} (hj : j < 61) (hk : k < 61) (h1 : nmL j = a) (h2 : nmL k = a) :
    0 < fndN a [0, 110, 111, 110, 101] ∧ fndN a [0, 110, 111, 110, 101] ≤ j + 1 ∧ fndN a [0, 110, 111, 110, 101] ≤ k + 1 ∧ fndB a [0, 110, 111, 110, 101] = false := by
  have h := fnd_miss (first_none (p := isB a [0, 110, 111, 110, 101]) (k := 61) fun i hi => isB_no' (val_none i hi))
  have b1 := first_bound (p := isN a) hj (by simp [isN, h1])
  have b2 := first_bound (p := isN a) hk (by simp [isN, h2])
  rw [h.1, h.2]
  exact ⟨by omega, b1.2, b2.2, rfl⟩
end Go.Proofs.Ytfajffchnnalaaa
