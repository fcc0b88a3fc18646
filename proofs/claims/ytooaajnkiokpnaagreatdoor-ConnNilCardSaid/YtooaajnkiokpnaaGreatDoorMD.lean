/-
  A field, a slice of fields, a slice of operations, as they come in.
  The fields that are known ahead, as plain lists of bytes; which of them is the first one that has a name, or a name and a value. No conditions but those that each theorem names; no program.
  The program's fields, by its contract: an array by value of all of them.
  The program's At and Find, by their contracts.
  The table of fields that came by, as a plain list, the oldest first; the document's, the newest first. No program; no conditions but those that each theorem names.
  A field by value and in memory; the sizes of a field; what a table has, by the program's getters; a new table. Conditions: a field of fewer than 2^31 bytes.
  The table in memory: its own block and its slice's; what a step on it leaves alone. No conditions but those that each theorem names.
  The statements' bound on what is gone through, by its contract: where it is not passed, no field is great. Conditions: as many fields as an int counts.
-/
import Derived.Test.YtooaajnkiokpnaaGreatDoorProg
import Derived.Test.YtooaajnkiokpnaaGreatDoorArr
import Derived.Great.BuildSlice
import Derived.Deep.Cut
import Derived.Laws.ResultCell
import Derived.Test.YtooaajnkiokpnaaGreatDoorCel
import Derived.BigQuiet
import Derived.Deep.QuietTactic
import Derived.Lib.MinMax
import Derived.Test.YtooaajnkiokpnaaGreatDoorOpenS
import Derived.Lib.SmallJoins
import Derived.SizedLaws

namespace Go.Proofs.YtooaajnkiokpnaaGreatDoor

set_option maxRecDepth 10000 in
/-- Names and values. -/
def tab : List (List UInt8 × List UInt8) :=
  [([58, 97, 117, 116, 104, 111, 114, 105, 116, 121], []), ([58, 109, 101, 116, 104, 111, 100], [71, 69, 84]), ([58, 109, 101, 116, 104, 111, 100], [80, 79, 83, 84]), ([58, 112, 97, 116, 104], [47])] ++
  [([58, 112, 97, 116, 104], [47, 105, 110, 100, 101, 120, 46, 104, 116, 109, 108]), ([58, 115, 99, 104, 101, 109, 101], [104, 116, 116, 112]), ([58, 115, 99, 104, 101, 109, 101], [104, 116, 116, 112, 115]), ([58, 115, 116, 97, 116, 117, 115], [50, 48, 48])] ++
  [([58, 115, 116, 97, 116, 117, 115], [50, 48, 52]), ([58, 115, 116, 97, 116, 117, 115], [50, 48, 54]), ([58, 115, 116, 97, 116, 117, 115], [51, 48, 52]), ([58, 115, 116, 97, 116, 117, 115], [52, 48, 48])] ++
  [([58, 115, 116, 97, 116, 117, 115], [52, 48, 52]), ([58, 115, 116, 97, 116, 117, 115], [53, 48, 48]), ([97, 99, 99, 101, 112, 116, 45, 99, 104, 97, 114, 115, 101, 116], []), ([97, 99, 99, 101, 112, 116, 45, 101, 110, 99, 111, 100, 105, 110, 103], [103, 122, 105, 112, 44, 32, 100, 101, 102, 108, 97, 116, 101])] ++
  [([97, 99, 99, 101, 112, 116, 45, 108, 97, 110, 103, 117, 97, 103, 101], []), ([97, 99, 99, 101, 112, 116, 45, 114, 97, 110, 103, 101, 115], []), ([97, 99, 99, 101, 112, 116], []), ([97, 99, 99, 101, 115, 115, 45, 99, 111, 110, 116, 114, 111, 108, 45, 97, 108, 108, 111, 119, 45, 111, 114, 105, 103, 105, 110], [])] ++
  [([97, 103, 101], []), ([97, 108, 108, 111, 119], []), ([97, 117, 116, 104, 111, 114, 105, 122, 97, 116, 105, 111, 110], []), ([99, 97, 99, 104, 101, 45, 99, 111, 110, 116, 114, 111, 108], [])] ++
  [([99, 111, 110, 116, 101, 110, 116, 45, 100, 105, 115, 112, 111, 115, 105, 116, 105, 111, 110], []), ([99, 111, 110, 116, 101, 110, 116, 45, 101, 110, 99, 111, 100, 105, 110, 103], []), ([99, 111, 110, 116, 101, 110, 116, 45, 108, 97, 110, 103, 117, 97, 103, 101], []), ([99, 111, 110, 116, 101, 110, 116, 45, 108, 101, 110, 103, 116, 104], [])] ++
  [([99, 111, 110, 116, 101, 110, 116, 45, 108, 111, 99, 97, 116, 105, 111, 110], []), ([99, 111, 110, 116, 101, 110, 116, 45, 114, 97, 110, 103, 101], []), ([99, 111, 110, 116, 101, 110, 116, 45, 116, 121, 112, 101], []), ([99, 111, 111, 107, 105, 101], [])] ++
  [([100, 97, 116, 101], []), ([101, 116, 97, 103], []), ([101, 120, 112, 101, 99, 116], []), ([101, 120, 112, 105, 114, 101, 115], [])] ++
  [([102, 114, 111, 109], []), ([104, 111, 115, 116], []), ([105, 102, 45, 109, 97, 116, 99, 104], []), ([105, 102, 45, 109, 111, 100, 105, 102, 105, 101, 100, 45, 115, 105, 110, 99, 101], [])] ++
  [([105, 102, 45, 110, 111, 110, 101, 45, 109, 97, 116, 99, 104], []), ([105, 102, 45, 114, 97, 110, 103, 101], []), ([105, 102, 45, 117, 110, 109, 111, 100, 105, 102, 105, 101, 100, 45, 115, 105, 110, 99, 101], []), ([108, 97, 115, 116, 45, 109, 111, 100, 105, 102, 105, 101, 100], [])] ++
  [([108, 105, 110, 107], []), ([108, 111, 99, 97, 116, 105, 111, 110], []), ([109, 97, 120, 45, 102, 111, 114, 119, 97, 114, 100, 115], []), ([112, 114, 111, 120, 121, 45, 97, 117, 116, 104, 101, 110, 116, 105, 99, 97, 116, 101], [])] ++
  [([112, 114, 111, 120, 121, 45, 97, 117, 116, 104, 111, 114, 105, 122, 97, 116, 105, 111, 110], []), ([114, 97, 110, 103, 101], []), ([114, 101, 102, 101, 114, 101, 114], []), ([114, 101, 102, 114, 101, 115, 104], [])] ++
  [([114, 101, 116, 114, 121, 45, 97, 102, 116, 101, 114], []), ([115, 101, 114, 118, 101, 114], []), ([115, 101, 116, 45, 99, 111, 111, 107, 105, 101], []), ([115, 116, 114, 105, 99, 116, 45, 116, 114, 97, 110, 115, 112, 111, 114, 116, 45, 115, 101, 99, 117, 114, 105, 116, 121], [])] ++
  [([116, 114, 97, 110, 115, 102, 101, 114, 45, 101, 110, 99, 111, 100, 105, 110, 103], []), ([117, 115, 101, 114, 45, 97, 103, 101, 110, 116], []), ([118, 97, 114, 121], []), ([118, 105, 97], [])] ++
  [([119, 119, 119, 45, 97, 117, 116, 104, 101, 110, 116, 105, 99, 97, 116, 101], [])]
theorem tab_len : tab.length = 61 := by decide +kernel
def nmL (j : Nat) : List UInt8 := (tab.getD j ([], [])).1
def vlL (j : Nat) : List UInt8 := (tab.getD j ([], [])).2

/-- The number of the first place below k that has it, counted from one; or nought. -/
def first (p : Nat → Bool) : Nat → Nat
  | 0 => 0
  | k + 1 => if first p k = 0 then (if p k then k + 1 else 0) else first p k
def isN (a : List UInt8) (j : Nat) : Bool := decide (nmL j = a)
def isB (a b : List UInt8) (j : Nat) : Bool := decide (nmL j = a) && decide (vlL j = b)
/-- The number that is found; whether the value is the same, too. -/
def fndN (a b : List UInt8) : Nat := if first (isB a b) 61 = 0 then first (isN a) 61 else first (isB a b) 61
def fndB (a b : List UInt8) : Bool := decide (first (isB a b) 61 ≠ 0)

section
variable {p q : Nat → Bool}
theorem first_zero : first p 0 = 0 := rfl
theorem first_le (k : Nat) : first p k ≤ k := by
  induction k with
  | zero => simp [first]
  | succ k ih =>
    unfold first
    split
    · split <;> omega
    · omega
theorem first_more {k m : Nat} (h : k ≤ m) (hk : first p k ≠ 0) : first p m = first p k := by
  induction m with
  | zero => obtain rfl : k = 0 := by omega
            rfl
  | succ m ih =>
    by_cases e : k = m + 1
    · rw [e]
    · have := ih (by omega)
      show (if first p m = 0 then _ else first p m) = _
      rw [if_neg (by rw [this]; exact hk), this]
theorem first_hit {k : Nat} (h : first p k = 0) (hp : p k = true) : first p (k + 1) = k + 1 := by simp [first, h, hp]
theorem first_miss {k : Nat} (hp : p k = false) : first p (k + 1) = first p k := by
  show (if first p k = 0 then (if p k then k + 1 else 0) else first p k) = _
  rw [hp]
  split
  · rename_i h; simp [h]
  · rfl
theorem first_keep {k : Nat} (h : first p k ≠ 0) : first p (k + 1) = first p k := by simp [first, h]
theorem first_bound {k j : Nat} (hj : j < k) (hp : p j = true) : first p k ≠ 0 ∧ first p k ≤ j + 1 := by
  by_cases h : first p j = 0
  · have h1 := first_hit h hp
    have h2 := first_more (p := p) (k := j + 1) (m := k) (by omega) (by omega)
    omega
  · have h2 := first_more (p := p) (k := j) (m := k) (by omega) h
    have := first_le (p := p) j
    omega
theorem first_none {k : Nat} (h : ∀ j, j < k → p j = false) : first p k = 0 := by
  induction k with
  | zero => rfl
  | succ k ih => rw [first_miss (h k (by omega))]; exact ih fun j hj => h j (by omega)
end
theorem fnd_hit {a b : List UInt8} {k : Nat} (hk : k < 61) (h : first (isB a b) k = 0) (hp : isB a b k = true) : fndN a b = k + 1 ∧ fndB a b = true := by
  have h1 := first_hit h hp
  have h2 := first_more (p := isB a b) (k := k + 1) (m := 61) (by omega) (by omega)
  unfold fndN fndB
  rw [h2, h1]
  simp
theorem fnd_miss {a b : List UInt8} (h : first (isB a b) 61 = 0) : fndN a b = first (isN a) 61 ∧ fndB a b = false := by
  unfold fndN fndB
  rw [if_pos h, h]
  simp
theorem isB_of {a b : List UInt8} {k : Nat} (h1 : isN a k = true) (h2 : vlL k = b) : isB a b k = true := by
  unfold isB
  unfold isN at h1
  simp [h2, of_decide_eq_true h1]
theorem isB_no {a b : List UInt8} {k : Nat} (h1 : isN a k = false) : isB a b k = false := by
  unfold isB
  unfold isN at h1
  rw [h1]; rfl
theorem isB_no' {a b : List UInt8} {k : Nat} (h2 : vlL k ≠ b) : isB a b k = false := by
  unfold isB
  simp [h2]

/-- Each field is found at its own place. -/
theorem own_place : ∀ j, j < 61 → fndN (nmL j) (vlL j) = j + 1 ∧ fndB (nmL j) (vlL j) = true := by decide +kernel
/-- No field's value is this one. -/
theorem val_none : ∀ j, j < 61 → vlL j ≠ [0, 110, 111, 110, 101] := by decide +kernel
/-- The chapter's examples. -/
theorem ex_fnd : fndN [58, 115, 116, 97, 116, 117, 115] [50, 48, 49] = 8 ∧ fndB [58, 115, 116, 97, 116, 117, 115] [50, 48, 49] = false := by decide +kernel
theorem ex_two : nmL 1 = [58, 109, 101, 116, 104, 111, 100] ∧ vlL 1 = [71, 69, 84] := by decide +kernel
/-- By a name of a field, with a value that none has: the lowest number with that name. -/
theorem none_low {a : List UInt8} {j k : Nat} (hj : j < 61) (hk : k < 61) (h1 : nmL j = a) (h2 : nmL k = a) :
    0 < fndN a [0, 110, 111, 110, 101] ∧ fndN a [0, 110, 111, 110, 101] ≤ j + 1 ∧ fndN a [0, 110, 111, 110, 101] ≤ k + 1 ∧ fndB a [0, 110, 111, 110, 101] = false := by
  have h := fnd_miss (first_none (p := isB a [0, 110, 111, 110, 101]) (k := 61) fun i hi => isB_no' (val_none i hi))
  have b1 := first_bound (p := isN a) hj (by simp [isN, h1])
  have b2 := first_bound (p := isN a) hk (by simp [isN, h2])
  rw [h.1, h.2]
  exact ⟨by omega, b1.2, b2.2, rfl⟩
end Go.Proofs.YtooaajnkiokpnaaGreatDoor

namespace Go.Proofs.YtooaajnkiokpnaaGreatDoor
open Go.RowKit Go.WideShapes

def tx (l : List UInt8) : Value := .string ⟨l.toArray⟩
/-- The cells of all fields: three for each. -/
def fldF (j : Nat) : Value := match j % 3 with
  | 0 => tx (nmL (j / 3))
  | 1 => tx (vlL (j / 3))
  | _ => .bool false
def fldC : Array Value := rowF 183 fldF
def one (k : Nat) : Array Value := #[tx (nmL k), tx (vlL k), .bool false]
def fld0 : Array Value := rowF 183 fun j => match j % 3 with
  | 2 => .bool false
  | _ => .string ⟨#[]⟩
theorem fields_info : (Tryz.prog.info? 271).map (fun i => (i.zero, i.size)) = some (some (.agg fld0), 183) := by kernel_rfl
theorem fldC_size : fldC.size = 183 := by kernel_rfl
theorem fldC_one : fldC.all (·.oneCell') = true := by kernel_rfl
theorem fldC_part {k : Nat} (h : k < 61) : fldC.extract (k * 3) (k * 3 + 3) = one k := by
  apply Array.ext_getElem?
  intro i
  rw [Array.getElem?_extract, fldC_size]
  unfold fldC one
  match i with
  | 0 =>
    rw [if_pos (by omega), rowF_at _ (by omega)]
    unfold fldF
    rw [show (k * 3 + 0) % 3 = 0 by omega, show (k * 3 + 0) / 3 = k by omega]
    rfl
  | 1 =>
    rw [if_pos (by omega), rowF_at _ (by omega)]
    unfold fldF
    rw [show (k * 3 + 1) % 3 = 1 by omega, show (k * 3 + 1) / 3 = k by omega]
    rfl
  | 2 =>
    rw [if_pos (by omega), rowF_at _ (by omega)]
    unfold fldF
    rw [show (k * 3 + 2) % 3 = 2 by omega]
    rfl
  | i + 3 => rw [if_neg (by omega)]; rfl

attribute [local irreducible] wpList Code.wp one fldC

set_option maxHeartbeats 4000000 in
set_option maxRecDepth 100000 in
theorem fields_any (w : World) : Calls Tryz.prog 213 #[] w fun e w' => e = .returned (.agg fldC) ∧ Below w.heap.size w w' := by
  obtain ⟨hz, hsz⟩ := zero_of_info fields_info
  have hsz' : (Tryz.prog.info? 271).map (·.size) = some fldC.size := by rw [fldC_size]; exact hsz
  go_enter Tryz.func213, Tryz.ntmps213
  go_upto_region 1 with fail
  rename_i K hK
  apply wp_region_lit
  refine wpList_buildTo rfl 57 _ rfl (some 1) rfl (one 0) (by as_aux_lemma => kernel_rfl) ?_
  refine wpList_buildTo rfl 57 _ rfl (some 2) rfl (one 1) (by as_aux_lemma => kernel_rfl) ?_
  refine wpList_buildTo rfl 57 _ rfl (some 3) rfl (one 2) (by as_aux_lemma => kernel_rfl) ?_
  refine wpList_buildTo rfl 57 _ rfl (some 4) rfl (one 3) (by as_aux_lemma => kernel_rfl) ?_
  refine wpList_buildTo rfl 57 _ rfl (some 5) rfl (one 4) (by as_aux_lemma => kernel_rfl) ?_
  refine wpList_buildTo rfl 57 _ rfl (some 6) rfl (one 5) (by as_aux_lemma => kernel_rfl) ?_
  refine wpList_buildTo rfl 57 _ rfl (some 7) rfl (one 6) (by as_aux_lemma => kernel_rfl) ?_
  refine wpList_buildTo rfl 57 _ rfl (some 8) rfl (one 7) (by as_aux_lemma => kernel_rfl) ?_
  refine wpList_buildTo rfl 57 _ rfl (some 9) rfl (one 8) (by as_aux_lemma => kernel_rfl) ?_
  refine wpList_buildTo rfl 57 _ rfl (some 10) rfl (one 9) (by as_aux_lemma => kernel_rfl) ?_
  refine wpList_buildTo rfl 57 _ rfl (some 11) rfl (one 10) (by as_aux_lemma => kernel_rfl) ?_
  refine wpList_buildTo rfl 57 _ rfl (some 12) rfl (one 11) (by as_aux_lemma => kernel_rfl) ?_
  refine wpList_buildTo rfl 57 _ rfl (some 13) rfl (one 12) (by as_aux_lemma => kernel_rfl) ?_
  refine wpList_buildTo rfl 57 _ rfl (some 14) rfl (one 13) (by as_aux_lemma => kernel_rfl) ?_
  refine wpList_buildTo rfl 57 _ rfl (some 15) rfl (one 14) (by as_aux_lemma => kernel_rfl) ?_
  refine wpList_buildTo rfl 57 _ rfl (some 16) rfl (one 15) (by as_aux_lemma => kernel_rfl) ?_
  refine wpList_buildTo rfl 57 _ rfl (some 17) rfl (one 16) (by as_aux_lemma => kernel_rfl) ?_
  refine wpList_buildTo rfl 57 _ rfl (some 18) rfl (one 17) (by as_aux_lemma => kernel_rfl) ?_
  refine wpList_buildTo rfl 57 _ rfl (some 19) rfl (one 18) (by as_aux_lemma => kernel_rfl) ?_
  refine wpList_buildTo rfl 57 _ rfl (some 20) rfl (one 19) (by as_aux_lemma => kernel_rfl) ?_
  refine wpList_buildTo rfl 57 _ rfl (some 21) rfl (one 20) (by as_aux_lemma => kernel_rfl) ?_
  refine wpList_buildTo rfl 57 _ rfl (some 22) rfl (one 21) (by as_aux_lemma => kernel_rfl) ?_
  refine wpList_buildTo rfl 57 _ rfl (some 23) rfl (one 22) (by as_aux_lemma => kernel_rfl) ?_
  refine wpList_buildTo rfl 57 _ rfl (some 24) rfl (one 23) (by as_aux_lemma => kernel_rfl) ?_
  refine wpList_buildTo rfl 57 _ rfl (some 25) rfl (one 24) (by as_aux_lemma => kernel_rfl) ?_
  refine wpList_buildTo rfl 57 _ rfl (some 26) rfl (one 25) (by as_aux_lemma => kernel_rfl) ?_
  refine wpList_buildTo rfl 57 _ rfl (some 27) rfl (one 26) (by as_aux_lemma => kernel_rfl) ?_
  refine wpList_buildTo rfl 57 _ rfl (some 28) rfl (one 27) (by as_aux_lemma => kernel_rfl) ?_
  refine wpList_buildTo rfl 57 _ rfl (some 29) rfl (one 28) (by as_aux_lemma => kernel_rfl) ?_
  refine wpList_buildTo rfl 57 _ rfl (some 30) rfl (one 29) (by as_aux_lemma => kernel_rfl) ?_
  refine wpList_buildTo rfl 57 _ rfl (some 31) rfl (one 30) (by as_aux_lemma => kernel_rfl) ?_
  refine wpList_buildTo rfl 57 _ rfl (some 32) rfl (one 31) (by as_aux_lemma => kernel_rfl) ?_
  refine wpList_buildTo rfl 57 _ rfl (some 33) rfl (one 32) (by as_aux_lemma => kernel_rfl) ?_
  refine wpList_buildTo rfl 57 _ rfl (some 34) rfl (one 33) (by as_aux_lemma => kernel_rfl) ?_
  refine wpList_buildTo rfl 57 _ rfl (some 35) rfl (one 34) (by as_aux_lemma => kernel_rfl) ?_
  refine wpList_buildTo rfl 57 _ rfl (some 36) rfl (one 35) (by as_aux_lemma => kernel_rfl) ?_
  refine wpList_buildTo rfl 57 _ rfl (some 37) rfl (one 36) (by as_aux_lemma => kernel_rfl) ?_
  refine wpList_buildTo rfl 57 _ rfl (some 38) rfl (one 37) (by as_aux_lemma => kernel_rfl) ?_
  refine wpList_buildTo rfl 57 _ rfl (some 39) rfl (one 38) (by as_aux_lemma => kernel_rfl) ?_
  refine wpList_buildTo rfl 57 _ rfl (some 40) rfl (one 39) (by as_aux_lemma => kernel_rfl) ?_
  refine wpList_buildTo rfl 57 _ rfl (some 41) rfl (one 40) (by as_aux_lemma => kernel_rfl) ?_
  refine wpList_buildTo rfl 57 _ rfl (some 42) rfl (one 41) (by as_aux_lemma => kernel_rfl) ?_
  refine wpList_buildTo rfl 57 _ rfl (some 43) rfl (one 42) (by as_aux_lemma => kernel_rfl) ?_
  refine wpList_buildTo rfl 57 _ rfl (some 44) rfl (one 43) (by as_aux_lemma => kernel_rfl) ?_
  refine wpList_buildTo rfl 57 _ rfl (some 45) rfl (one 44) (by as_aux_lemma => kernel_rfl) ?_
  refine wpList_buildTo rfl 57 _ rfl (some 46) rfl (one 45) (by as_aux_lemma => kernel_rfl) ?_
  refine wpList_buildTo rfl 57 _ rfl (some 47) rfl (one 46) (by as_aux_lemma => kernel_rfl) ?_
  refine wpList_buildTo rfl 57 _ rfl (some 48) rfl (one 47) (by as_aux_lemma => kernel_rfl) ?_
  refine wpList_buildTo rfl 57 _ rfl (some 49) rfl (one 48) (by as_aux_lemma => kernel_rfl) ?_
  refine wpList_buildTo rfl 57 _ rfl (some 50) rfl (one 49) (by as_aux_lemma => kernel_rfl) ?_
  refine wpList_buildTo rfl 57 _ rfl (some 51) rfl (one 50) (by as_aux_lemma => kernel_rfl) ?_
  refine wpList_buildTo rfl 57 _ rfl (some 52) rfl (one 51) (by as_aux_lemma => kernel_rfl) ?_
  refine wpList_buildTo rfl 57 _ rfl (some 53) rfl (one 52) (by as_aux_lemma => kernel_rfl) ?_
  refine wpList_buildTo rfl 57 _ rfl (some 54) rfl (one 53) (by as_aux_lemma => kernel_rfl) ?_
  refine wpList_buildTo rfl 57 _ rfl (some 55) rfl (one 54) (by as_aux_lemma => kernel_rfl) ?_
  refine wpList_buildTo rfl 57 _ rfl (some 56) rfl (one 55) (by as_aux_lemma => kernel_rfl) ?_
  refine wpList_buildTo rfl 57 _ rfl (some 57) rfl (one 56) (by as_aux_lemma => kernel_rfl) ?_
  refine wpList_buildTo rfl 57 _ rfl (some 58) rfl (one 57) (by as_aux_lemma => kernel_rfl) ?_
  refine wpList_buildTo rfl 57 _ rfl (some 59) rfl (one 58) (by as_aux_lemma => kernel_rfl) ?_
  refine wpList_buildTo rfl 57 _ rfl (some 60) rfl (one 59) (by as_aux_lemma => kernel_rfl) ?_
  refine wpList_buildTo rfl 57 _ rfl (some 61) rfl (one 60) (by as_aux_lemma => kernel_rfl) ?_
  refine wpList_buildTo rfl 271 _ rfl (some 62) rfl fldC (by as_aux_lemma => kernel_rfl) ?_
  refine wpList_store_rowTo rfl 271 (.tmp 0) (.tmp 62) rfl rfl w.heap.size fldC (by kernel_rfl) (by kernel_rfl) 271 fld0 (heap_alloc_last w _) hsz' (by kernel_rfl) fldC_one ?_
  apply wpList_nil
  refine hK _ _ ?_
  clear hK K
  apply wp_ret
  refine bodyPost_ret (v := .agg fldC) (results_cell_row rfl _ _ w.heap.size 271 fldC (0, 0) _ (by kernel_rfl) ((Row.new w _ _).setRow _) Tryz.underlying271 rfl hsz') rfl ⟨rfl, below_setRow ((Below.refl _ _).alloc (Nat.le_refl _) _) _ _ (Nat.le_refl _)⟩
end Go.Proofs.YtooaajnkiokpnaaGreatDoor

namespace Go.Proofs.YtooaajnkiokpnaaGreatDoor
open Go.RowKit Go.WideShapes

theorem field_info : (Tryz.prog.info? 57).map (·.size) = some 3 := by kernel_rfl
theorem index_field {k : Nat} (h : k < 61) (W : World) : (Instr.index 271 (.agg fldC) (.int .i64 (k : Int))).run Tryz.prog W = .ok (.agg #[tx (nmL k), tx (vlL k), .bool false]) W := by
  cases hi : Tryz.prog.info? 57 with
  | none => have := field_info; rw [hi] at this; simp at this
  | some i =>
    have hs := field_info
    rw [hi] at hs
    simp at hs
    rw [run_index_agg Tryz.underlying271 i hi _ Tryz.underlying57 rfl .i64 k h W, hs, fldC_part h]
    rfl

set_option maxRecDepth 100000 in
set_option maxHeartbeats 1000000 in
theorem find_any (a b : List UInt8) (w : World) : Calls Tryz.prog 178 #[tx a, tx b] w fun e w' => e = .returned (.tuple #[.int .i64 (fndN a b : Int), .bool (fndB a b)]) ∧ Below w.heap.size w w' := by
  unfold tx
  go_enter Tryz.func178, Tryz.ntmps178
  go_wp2_with fail
  refine (fields_any _).mono ?_
  rintro e w1 ⟨rfl, hb1⟩
  have HB1 := Lib.hid hb1
  clear hb1
  go_wp2_with fail
  go_loopw [6, 10] (fun nd i wr => ∃ (n' i' : Nat), i' ≤ 61 ∧ i = .int .i64 i' ∧ nd = .int .i64 n' ∧ n' ≤ 61 ∧ Hid (n' = first (isN a) i') ∧ Hid (first (isB a b) i' = 0) ∧ Hid (Below w.heap.size w wr))
    (fun _ i _ => 61 - (intOf i).toNat)
  case atStart => exact ⟨0, 0, by omega, rfl, rfl, by omega, rfl, rfl, HB1⟩
  case round =>
    clear HB1
    obtain ⟨n, i, hi, rfl, rfl, hn, hN, hB, hW⟩ := hrel
    by_cases hlt : i < 61
    · have hix := index_field hlt
      unfold tx at hix
      by_cases hn1 : nmL i = a
      · have e1 : (nmL i == a) = true := by rw [hn1, beq_self_eq_true]
        have hA : isN a i = true := by simp [isN, hn1]
        by_cases hv1 : vlL i = b
        · have e2 : (vlL i == b) = true := by rw [hv1, beq_self_eq_true]
          have hF := fnd_hit hlt hB.out (isB_of hA hv1)
          have HF := Lib.hid hF
          clear hn1 hv1 hF hA
          go_wp2_with fail
          go_ret2
          refine ⟨?_, ?_⟩
          · rw [HF.out.1, HF.out.2]; rfl
          · exact hW.out.alloc hW.out.size _
        · have e2 : (vlL i == b) = false := by rw [beq_eq_false_iff_ne]; exact hv1
          have hB2 : Hid (first (isB a b) (i + 1) = 0) := by
            show _ = _
            rw [first_miss (isB_no' hv1)]
            exact hB.out
          by_cases hn0 : n = 0
          · have hN2 : Hid (i + 1 = first (isN a) (i + 1)) := by
              show _ = _
              rw [first_hit (by rw [← hN.out]; exact hn0) hA]
            clear hn1 hv1 hA hN hB
            subst hn0
            go_wp2_with fail
            go_roundw
            case rel => exact ⟨i + 1, i + 1, by omega, by go_num, by go_num, by omega, hN2, hB2, hW.out.alloc hW.out.size _⟩
            case measure => simp [intOf]; omega
          · have hN2 : Hid (n = first (isN a) (i + 1)) := by
              show _ = _
              rw [first_keep (by rw [← hN.out]; exact hn0)]
              exact hN.out
            have e3 : ((n : Int) == 0) = false := by rw [beq_eq_false_iff_ne]; omega
            clear hn1 hv1 hA hN hB
            go_wp2_with fail
            go_roundw
            case rel => exact ⟨n, i + 1, by omega, by go_num, rfl, hn, hN2, hB2, hW.out.alloc hW.out.size _⟩
            case measure => simp [intOf]; omega
      · have e1 : (nmL i == a) = false := by rw [beq_eq_false_iff_ne]; exact hn1
        have hA : isN a i = false := by simp [isN, hn1]
        have hB2 : Hid (first (isB a b) (i + 1) = 0) := by
          show _ = _
          rw [first_miss (isB_no hA)]
          exact hB.out
        have hN2 : Hid (n = first (isN a) (i + 1)) := by
          show _ = _
          rw [first_miss hA]
          exact hN.out
        clear hn1 hA hN hB
        go_wp2_with fail
        go_roundw
        case rel => exact ⟨n, i + 1, by omega, by go_num, rfl, hn, hN2, hB2, hW.out.alloc hW.out.size _⟩
        case measure => simp [intOf]; omega
    · obtain rfl : i = 61 := by omega
      have hF := fnd_miss hB.out
      rw [← hN.out] at hF
      have HF := Lib.hid hF
      clear hF
      go_wp2_with fail
      go_ret2
      refine ⟨?_, hW.out⟩
      rw [HF.out.1, HF.out.2]
      rfl

theorem field_cells (cs : Array Value) (h : cs.size = 3) : (Tryz.prog.info? 57).map (·.size) = some cs.size := by rw [h]; exact field_info
theorem ret_field {fn : Func} {p u : Tmp} (h : fn.results = #[.cell p 57, .tmp u]) (tmps : Array Value) (w : World) (g : Nat) (cs : Array Value) (hp : tmps.getD p undef = .pointer (some ⟨g, 0, none⟩)) (hR : Row w g 57 cs) (hc : cs.size = 3) :
    (results fn tmps).run Tryz.prog w = .ok (.tuple #[.agg cs, tmps.getD u undef]) w := by
  rw [results_cell_tmp h, hp]
  simp [asAddr, Result.andThen, run_loadVar_row w g 57 57 cs (0, 0) _ hR Tryz.underlying57 rfl (field_cells cs hc)]
set_option maxRecDepth 100000 in
set_option maxHeartbeats 1000000 in
theorem at_yes (k : Nat) (hk : k < 61) (w : World) : Calls Tryz.prog 221 #[.int .i64 ((k : Int) + 1)] w fun e w' => e = .returned (.tuple #[.agg #[tx (nmL k), tx (vlL k), .bool false], .bool true]) ∧ Below w.heap.size w w' := by
  have hix := index_field hk
  unfold tx at hix ⊢
  have h1 : decide ((k : Int) + 1 < 1) = false := by simp; omega
  have h2 : decide ((61 : Int) < (k : Int) + 1) = false := by simp; omega
  go_enter Tryz.func221, Tryz.ntmps221
  go_wp2_with fail
  refine (fields_any _).mono ?_
  rintro e w1 ⟨rfl, hb1⟩
  have HR := (Row.new w 57 #[.string ⟨#[]⟩, .string ⟨#[]⟩, .bool false]).below hb1 (by simp)
  have HB1 := Lib.hid (((Below.refl w.heap.size w).alloc (Nat.le_refl _) _).trans (hb1.mono (by simp)))
  clear hb1
  go_wp2_with (refine wpList_store_row rfl 57 (.tmp 2) (.tmp 14) rfl w.heap.size #[.string ⟨(nmL k).toArray⟩, .string ⟨(vlL k).toArray⟩, .bool false] rfl rfl 57 _ HR (field_cells _ rfl) rfl (by kernel_rfl) ?_)
  refine bodyPost_ret (ret_field rfl _ _ w.heap.size _ rfl (HR.setRow _) rfl) rfl ⟨rfl, below_setRow HB1.out _ _ (Nat.le_refl _)⟩

set_option maxRecDepth 100000 in
set_option maxHeartbeats 1000000 in
theorem at_no (n : Int) (hn : n < 1 ∨ 61 < n) (w : World) : Calls Tryz.prog 221 #[.int .i64 n] w fun e w' => e = .returned (.tuple #[.agg #[tx [], tx [], .bool false], .bool false]) ∧ Below w.heap.size w w' := by
  have hs : n < 1 ∨ (decide (n < 1) = false ∧ (61 : Int) < n) := by
    by_cases h : n < 1
    · exact .inl h
    · exact .inr ⟨by simpa using h, by omega⟩
  clear hn
  unfold tx
  rcases hs with h | ⟨h, h'⟩
  all_goals
    go_enter Tryz.func221, Tryz.ntmps221
    go_wp2_with fail
    refine bodyPost_ret (ret_field rfl _ _ w.heap.size _ rfl (Row.new w _ _) rfl) rfl ⟨rfl, (Below.refl _ _).alloc (Nat.le_refl _) _⟩

theorem len_any (w : World) : Calls Tryz.prog 180 #[] w fun e w' => e = .returned (.int .i64 61) ∧ w' = w := by
  go_enter Tryz.func180, Tryz.ntmps180
  go_wp2_with fail
  go_ret
  exact ⟨rfl, rfl⟩
end Go.Proofs.YtooaajnkiokpnaaGreatDoor

namespace Go.Proofs.YtooaajnkiokpnaaGreatDoor

/-- A field. -/
structure Fd where
  nm : List UInt8
  vl : List UInt8
  nv : Bool
def sz (f : Fd) : Nat := f.nm.length + f.vl.length + 32
def bare (f : Fd) : Fd := { f with nv := false }
def tot : List Fd → Nat
  | [] => 0
  | f :: r => sz f + tot r
/-- The oldest ones go, till the size is at most m. -/
def shr (m : Int) : List Fd → List Fd
  | [] => []
  | f :: r => if m < (tot (f :: r) : Int) then shr m r else f :: r
/-- With a field more. -/
def addL (M : Nat) (f : Fd) (L : List Fd) : List Fd := if M < sz f then shr ((M : Int) - (sz f : Int)) L else shr ((M : Int) - (sz f : Int)) L ++ [bare f]
/-- The document's: the newest first, as far as there is room. -/
def wit (m : Int) (n : Nat) : List Fd → List Fd
  | [] => []
  | f :: r => if m < ((n + sz f : Nat) : Int) then [] else f :: wit m (n + sz f) r

theorem tot_nil0 : tot [] = 0 := rfl
theorem shr_nil (m : Int) : shr m [] = [] := rfl
theorem sz_pos (f : Fd) : 32 ≤ sz f := by unfold sz; omega
theorem sz_bare (f : Fd) : sz (bare f) = sz f := rfl
theorem tot_append (A B : List Fd) : tot (A ++ B) = tot A + tot B := by
  induction A with
  | nil => simp [tot]
  | cons f A ih => simp only [List.cons_append, tot, ih]; omega
theorem tot_snoc (A : List Fd) (f : Fd) : tot (A ++ [f]) = tot A + sz f := by rw [tot_append]; simp [tot]
theorem tot_len (A : List Fd) : 32 * A.length ≤ tot A := by
  induction A with
  | nil => simp [tot]
  | cons f A ih => have := sz_pos f; simp only [tot, List.length_cons]; omega
theorem tot_reverse (A : List Fd) : tot A.reverse = tot A := by
  induction A with
  | nil => rfl
  | cons f A ih => rw [List.reverse_cons, tot_append, ih]; simp only [tot]; omega
theorem tot_nil {A : List Fd} : tot A = 0 ↔ A = [] := by
  constructor
  · intro h
    have := tot_len A
    exact List.eq_nil_of_length_eq_zero (by omega)
  · rintro rfl; rfl

theorem shr_le (m : Int) (h : 0 ≤ m) (L : List Fd) : (tot (shr m L) : Int) ≤ m := by
  induction L with
  | nil => simpa [shr, tot] using h
  | cons f r ih =>
    unfold shr
    split
    · exact ih
    · omega
theorem shr_neg (m : Int) (h : m < 0) (L : List Fd) : shr m L = [] := by
  induction L with
  | nil => rfl
  | cons f r ih =>
    unfold shr
    rw [if_pos (by omega), ih]
theorem shr_self {m : Int} {L : List Fd} (h : (tot L : Int) ≤ m) : shr m L = L := by
  cases L with
  | nil => rfl
  | cons f r => unfold shr; rw [if_neg (by omega)]
theorem shr_zero (L : List Fd) : shr 0 L = [] := by
  have := shr_le 0 (by omega) L
  exact tot_nil.1 (by omega)
theorem shr_suffix (m : Int) (L : List Fd) : shr m L <:+ L := by
  induction L with
  | nil => exact List.suffix_refl _
  | cons f r ih =>
    unfold shr
    split
    · exact ih.trans (List.suffix_cons f r)
    · exact List.suffix_refl _
/-- While the first k go. -/
theorem shr_drop {m : Int} {L : List Fd} {k : Nat} (hk : k < L.length) (h : m < (tot (L.drop k) : Int)) : shr m (L.drop k) = shr m (L.drop (k + 1)) := by
  rw [List.drop_eq_getElem_cons hk] at h ⊢
  conv => lhs; unfold shr
  rw [if_pos h]
theorem tot_drop {L : List Fd} {k : Nat} (hk : k < L.length) : tot (L.drop k) = sz L[k] + tot (L.drop (k + 1)) := by
  rw [List.drop_eq_getElem_cons hk]; rfl
/-- Every end of it that has room is an end of what stays. -/
theorem shr_most {m : Int} {A L : List Fd} (hA : A <:+ L) (h : (tot A : Int) ≤ m) : A <:+ shr m L := by
  induction L with
  | nil => exact hA
  | cons f r ih =>
    unfold shr
    split
    · rename_i h1
      rcases List.suffix_cons_iff.1 hA with e | h2
      · subst e; omega
      · exact ih h2
    · exact hA
theorem shr_grows {m m' : Int} {A L : List Fd} (hm : m ≤ m') (hA : A <:+ L) : shr m A <:+ shr m' L := by
  by_cases h0 : 0 ≤ m
  · exact shr_most ((shr_suffix m A).trans hA) (by have := shr_le m h0 A; omega)
  · rw [shr_neg m (by omega)]
    exact List.nil_suffix

theorem addL_le {M : Nat} {f : Fd} {L : List Fd} : tot (addL M f L) ≤ M := by
  unfold addL
  split
  · rename_i h
    rw [shr_neg _ (by omega)]
    simp [tot]
  · have := shr_le ((M : Int) - (sz f : Int)) (by omega) L
    rw [tot_append]
    simp only [tot, sz_bare]
    omega
theorem addL_suffix (M : Nat) (f : Fd) (L A : List Fd) (h : L <:+ A) : addL M f L <:+ A ++ [bare f] := by
  unfold addL
  split
  · rename_i h
    rw [shr_neg _ (by omega)]
    exact List.nil_suffix
  · obtain ⟨t, ht⟩ := (shr_suffix ((M : Int) - (sz f : Int)) L).trans h
    exact ⟨t, by rw [← List.append_assoc, ht]⟩
theorem addL_grows {M M' : Nat} (hM : M ≤ M') (f : Fd) {A L : List Fd} (h : A <:+ L) : addL M f A <:+ addL M' f L := by
  unfold addL
  by_cases h1 : M < sz f
  · rw [if_pos h1, shr_neg _ (by omega)]
    exact List.nil_suffix
  · rw [if_neg h1, if_neg (by omega)]
    obtain ⟨t, ht⟩ := shr_grows (m := (M : Int) - (sz f : Int)) (m' := (M' : Int) - (sz f : Int)) (by omega) h
    exact ⟨t, by rw [← List.append_assoc, ht]⟩

/-! ### The document's -/
theorem wit_nil (m : Int) (n : Nat) : wit m n [] = [] := rfl
theorem wit_no {m : Int} {n : Nat} {f : Fd} {r : List Fd} (h : m < ((n + sz f : Nat) : Int)) : wit m n (f :: r) = [] := by unfold wit; rw [if_pos h]
theorem wit_yes {m : Int} {n : Nat} {f : Fd} {r : List Fd} (h : ¬ m < ((n + sz f : Nat) : Int)) : wit m n (f :: r) = f :: wit m (n + sz f) r := if_neg h
theorem shr_gone {m : Int} {f : Fd} {r : List Fd} (h : m < ((sz f + tot r : Nat) : Int)) : shr m (f :: r) = shr m r := if_pos h
theorem shr_stays {m : Int} {f : Fd} {r : List Fd} (h : ¬ m < ((sz f + tot r : Nat) : Int)) : shr m (f :: r) = f :: r := if_neg h
theorem wit_snoc_no (m : Int) (f : Fd) (A : List Fd) : ∀ n, m < ((n + tot A + sz f : Nat) : Int) → wit m n (A ++ [f]) = wit m n A := by
  induction A with
  | nil =>
    intro n h
    rw [List.nil_append, wit_no (by simpa [tot] using h)]
    rfl
  | cons a A ih =>
    intro n h
    rw [List.cons_append]
    simp only [tot] at h
    by_cases h1 : m < ((n + sz a : Nat) : Int)
    · rw [wit_no h1, wit_no h1]
    · rw [wit_yes h1, wit_yes h1, ih _ (by omega)]
theorem wit_snoc_yes (m : Int) (f : Fd) (A : List Fd) : ∀ n, ¬ m < ((n + tot A + sz f : Nat) : Int) → wit m n (A ++ [f]) = A ++ [f] := by
  induction A with
  | nil =>
    intro n h
    rw [List.nil_append, wit_yes (by simpa [tot] using h)]
    rfl
  | cons a A ih =>
    intro n h
    simp only [tot] at h
    rw [List.cons_append, wit_yes (by omega), ih _ (by omega)]
/-- What stays is the same, from whichever end it is told. -/
theorem wit_shr (m : Int) (L : List Fd) : wit m 0 L.reverse = (shr m L).reverse := by
  induction L with
  | nil => rfl
  | cons f r ih =>
    rw [List.reverse_cons]
    by_cases h : m < ((sz f + tot r : Nat) : Int)
    · rw [wit_snoc_no _ _ _ _ (by rw [tot_reverse]; omega), shr_gone h, ih]
    · rw [wit_snoc_yes _ _ _ _ (by rw [tot_reverse]; omega), shr_stays h, List.reverse_cons]
theorem wit_prefix (m : Int) (A : List Fd) : ∀ n, wit m n A <+: A := by
  induction A with
  | nil => intro n; exact List.prefix_refl _
  | cons a A ih =>
    intro n
    unfold wit
    split
    · exact List.nil_prefix
    · exact List.prefix_cons_inj a |>.2 (ih _)
/-- A round of it. -/
theorem wit_more {m : Int} {R : List Fd} {k : Nat} (hk : k < R.length) (hw : wit m 0 R = R.take k ++ wit m (tot (R.take k)) (R.drop k)) (h : ¬ m < ((tot (R.take (k + 1)) : Nat) : Int)) :
    wit m 0 R = R.take (k + 1) ++ wit m (tot (R.take (k + 1))) (R.drop (k + 1)) := by
  have e : R.take (k + 1) = R.take k ++ [R[k]] := List.take_succ_eq_append_getElem hk
  have e2 : tot (R.take (k + 1)) = tot (R.take k) + sz R[k] := by rw [e, tot_append]; simp [tot]
  rw [hw, List.drop_eq_getElem_cons hk]
  rw [wit_yes (by rw [e2] at h; exact h), e2, e, List.append_assoc]
  rfl
theorem wit_stop {m : Int} {R : List Fd} {k : Nat} (hk : k < R.length) (hw : wit m 0 R = R.take k ++ wit m (tot (R.take k)) (R.drop k)) (h : m < ((tot (R.take k) + sz R[k] : Nat) : Int)) :
    wit m 0 R = R.take k := by
  rw [hw, List.drop_eq_getElem_cons hk]
  rw [wit_no h, List.append_nil]
theorem tot_take {R : List Fd} {k : Nat} (hk : k < R.length) : tot (R.take (k + 1)) = tot (R.take k) + sz R[k] := by
  rw [List.take_succ_eq_append_getElem hk, tot_append]; simp [tot]
theorem tot_take_le (R : List Fd) (k : Nat) : tot (R.take k) ≤ tot R := by
  conv => rhs; rw [← List.take_append_drop k R, tot_append]
  omega
theorem tot_drop_le (R : List Fd) (k : Nat) : tot (R.drop k) ≤ tot R := by
  conv => rhs; rw [← List.take_append_drop k R, tot_append]
  omega

/-- The document's, with a field more. -/
def raddL (M : Nat) (f : Fd) (R : List Fd) : List Fd := if M < sz f then wit ((M : Int) - (sz f : Int)) 0 R else bare f :: wit ((M : Int) - (sz f : Int)) 0 R
theorem raddL_reverse (M : Nat) (f : Fd) (L : List Fd) : raddL M f L.reverse = (addL M f L).reverse := by
  unfold raddL addL
  by_cases h : M < sz f
  · rw [if_pos h, if_pos h, wit_shr]
  · rw [if_neg h, if_neg h, wit_shr, List.reverse_append]; rfl
theorem wit_tot (m : Int) (R : List Fd) : tot (wit m 0 R) ≤ tot R := by
  obtain ⟨t, ht⟩ := wit_prefix m R 0
  have := tot_append (wit m 0 R) t
  rw [ht] at this
  omega

/-! ### A row of fields added -/
def addsL (M : Nat) (L : List Fd) : List Fd := L.foldl (fun T f => addL M f T) []
theorem adds_nil (M : Nat) : addsL M [] = [] := rfl
theorem adds_snoc (M : Nat) (L : List Fd) (f : Fd) : addsL M (L ++ [f]) = addL M f (addsL M L) := by unfold addsL; rw [List.foldl_append]; rfl
theorem adds_take {M : Nat} {L : List Fd} {k : Nat} (hk : k < L.length) : addsL M (L.take (k + 1)) = addL M L[k] (addsL M (L.take k)) := by
  rw [List.take_succ_eq_append_getElem hk, adds_snoc]
theorem adds_le (M : Nat) (L : List Fd) : tot (addsL M L) ≤ M := by
  rcases List.eq_nil_or_concat L with rfl | ⟨A, f, rfl⟩
  · simp [adds_nil, tot]
  · rw [List.concat_eq_append, adds_snoc]; exact addL_le
theorem adds_suffix (M : Nat) (L : List Fd) : addsL M L <:+ L.map bare := by
  suffices h : ∀ k, k ≤ L.length → addsL M (L.take k) <:+ (L.take k).map bare by
    have := h L.length (Nat.le_refl _)
    rwa [List.take_of_length_le (Nat.le_refl _)] at this
  intro k
  induction k with
  | zero => intro _; simp [adds_nil]
  | succ k ih =>
    intro hk
    have h1 := ih (by omega)
    have h2 := addL_suffix M L[k] (addsL M (L.take k)) _ h1
    rw [adds_take (by omega), List.take_succ_eq_append_getElem (by omega), List.map_append]
    exact h2
theorem adds_sz {M B : Nat} {L : List Fd} (h : ∀ f ∈ L, sz f ≤ B) : ∀ f ∈ addsL M L, sz f ≤ B := by
  intro f hf
  have := (adds_suffix M L).subset hf
  obtain ⟨g, hg, rfl⟩ := List.mem_map.1 this
  exact h g hg
theorem adds_len (M : Nat) (L : List Fd) : (addsL M L).length ≤ L.length := by
  have := (adds_suffix M L).length_le
  simpa using this
theorem suffix_last {α : Type} {A B : List α} (h : A <:+ B) {i : Nat} (hi : i < A.length) (hb : B.length - 1 - i < B.length) : A[A.length - 1 - i]'(by omega) = B[B.length - 1 - i]'hb := by
  obtain ⟨t, rfl⟩ := h
  rw [List.getElem_append_right (by simp; omega)]
  congr 1
  simp
  omega
theorem adds_last {M : Nat} {L : List Fd} {i : Nat} (hi : i < (addsL M L).length) (hb : L.length - 1 - i < L.length) : (addsL M L)[(addsL M L).length - 1 - i]'(by omega) = bare (L[L.length - 1 - i]'hb) := by
  rw [suffix_last (adds_suffix M L) hi (by simpa using hb)]
  simp
theorem adds_grows {M M' : Nat} (hM : M ≤ M') (L : List Fd) : addsL M L <:+ addsL M' L := by
  suffices h : ∀ k, k ≤ L.length → addsL M (L.take k) <:+ addsL M' (L.take k) by
    have := h L.length (Nat.le_refl _)
    rwa [List.take_of_length_le (Nat.le_refl _)] at this
  intro k
  induction k with
  | zero => intro _; simp [adds_nil]
  | succ k ih =>
    intro hk
    rw [adds_take (by omega), adds_take (by omega)]
    exact addL_grows hM _ (ih (by omega))

/-! ### Which number a field has -/
/-- The fields of the table, the newest first: has number j this name? and this value? -/
def isNT (a : List UInt8) (R : List Fd) (j : Nat) : Bool := match R[j]? with
  | some f => decide (f.nm = a)
  | none => false
def isBT (a b : List UInt8) (R : List Fd) (j : Nat) : Bool := match R[j]? with
  | some f => decide (f.nm = a) && decide (f.vl = b)
  | none => false
def numT (a b : List UInt8) (R : List Fd) : Nat :=
  if fndB a b then fndN a b
  else if first (isBT a b R) R.length ≠ 0 then 61 + first (isBT a b R) R.length
  else if fndN a b ≠ 0 then fndN a b
  else if first (isNT a R) R.length ≠ 0 then 61 + first (isNT a R) R.length else 0
def hasT (a b : List UInt8) (R : List Fd) : Bool := fndB a b || decide (first (isBT a b R) R.length ≠ 0)
theorem isNT_at {a : List UInt8} {R : List Fd} {j : Nat} (h : j < R.length) : isNT a R j = decide (R[j].nm = a) := by
  unfold isNT; rw [List.getElem?_eq_getElem h]
theorem isBT_at {a b : List UInt8} {R : List Fd} {j : Nat} (h : j < R.length) : isBT a b R j = (decide (R[j].nm = a) && decide (R[j].vl = b)) := by
  unfold isBT; rw [List.getElem?_eq_getElem h]
theorem num_known {a b : List UInt8} {R : List Fd} (h : fndB a b = true) : numT a b R = fndN a b ∧ hasT a b R = true := by
  unfold numT hasT; simp [h]
theorem num_hit {a b : List UInt8} {R : List Fd} {k : Nat} (h : fndB a b = false) (hk : k < R.length) (h0 : first (isBT a b R) k = 0) (h1 : isBT a b R k = true) : numT a b R = 62 + k ∧ hasT a b R = true := by
  have h2 := first_hit h0 h1
  have h3 := first_more (p := isBT a b R) (k := k + 1) (m := R.length) (by omega) (by omega)
  rw [h2] at h3
  unfold numT hasT
  rw [h, h3]
  simp
  omega
theorem num_named {a b : List UInt8} {R : List Fd} (h : fndB a b = false) (h0 : first (isBT a b R) R.length = 0) :
    numT a b R = (if fndN a b ≠ 0 then fndN a b else if first (isNT a R) R.length ≠ 0 then 61 + first (isNT a R) R.length else 0) ∧ hasT a b R = false := by
  unfold numT hasT
  rw [h, h0]
  simp
end Go.Proofs.YtooaajnkiokpnaaGreatDoor

namespace Go.Proofs.YtooaajnkiokpnaaGreatDoor
open Go.RowKit Go.WideShapes

def fdc (f : Fd) : List Value := [tx f.nm, tx f.vl, .bool f.nv]
def fv (f : Fd) : Value := .agg #[tx f.nm, tx f.vl, .bool f.nv]
theorem fdc_len (f : Fd) : (fdc f).length = 3 := rfl
theorem fdc_one (f : Fd) : ∀ u ∈ fdc f, u.oneCell' = true := by
  intro u hu
  simp only [fdc, List.mem_cons, List.not_mem_nil, or_false] at hu
  rcases hu with rfl | rfl | rfl <;> rfl
theorem tx_size (l : List UInt8) : (ByteArray.mk l.toArray).size = l.length := by simp [ByteArray.size]

set_option maxRecDepth 100000 in
set_option maxHeartbeats 1000000 in
theorem size_any (f : Fd) (hf : sz f ≤ 2147483648) (w : World) : Calls Tryz.prog 182 #[fv f] w fun e w' => e = .returned (.int .i64 (sz f : Int)) ∧ Below w.heap.size w w' := by
  have hs : Hid ((f.nm.length : Int) + f.vl.length + 32 = (sz f : Int)) := by show _ = _; unfold sz; omega
  have h1 : f.nm.length ≤ 2147483648 := by unfold sz at hf; omega
  have h2 : f.vl.length ≤ 2147483648 := by unfold sz at hf; omega
  unfold fv tx
  clear hf
  have hz1 := tx_size f.nm
  have hz2 := tx_size f.vl
  go_enter Tryz.func182, Tryz.ntmps182
  go_wp2_with fail
  go_ret
  refine ⟨?_, (Below.refl _ _).alloc (Nat.le_refl _) _⟩
  rw [hs.out]
  rfl

/-- The table's own block: its slice, its size, its most. -/
def TabR (w : World) (g : Nat) (v : Value) (size most : Nat) : Prop := Row w g 190 #[v, .int .i64 (size : Int), .int .i64 (most : Int)]
theorem TabR.c0 {w : World} {g size most : Nat} {v : Value} (h : TabR w g v size most) : w.cell? ⟨g, 0, none⟩ = some v := Row.cell h (j := 0) rfl
theorem TabR.c1 {w : World} {g size most : Nat} {v : Value} (h : TabR w g v size most) : w.cell? ⟨g, 1, none⟩ = some (.int .i64 (size : Int)) := Row.cell h (j := 1) rfl
theorem TabR.c2 {w : World} {g size most : Nat} {v : Value} (h : TabR w g v size most) : w.cell? ⟨g, 2, none⟩ = some (.int .i64 (most : Int)) := Row.cell h (j := 2) rfl
/-- The table's pointer. -/
def pt (g : Nat) : Value := .pointer (some ⟨g, 0, none⟩)

set_option maxRecDepth 100000 in
set_option maxHeartbeats 1000000 in
theorem tmost_any {g size most : Nat} {v : Value} {w : World} (h : TabR w g v size most) : Calls Tryz.prog 142 #[pt g] w fun e w' => e = .returned (.int .i64 (most : Int)) ∧ w' = w := by
  have h1 := h.c2
  unfold pt
  clear h
  go_enter Tryz.func142, Tryz.ntmps142
  go_wp2_with fail
  go_ret
  exact ⟨rfl, rfl⟩
set_option maxRecDepth 100000 in
set_option maxHeartbeats 1000000 in
theorem tlen_any {g size most n c : Nat} {A : Option Addr} {w : World} (h : TabR w g (.slice A n c) size most) : Calls Tryz.prog 179 #[pt g] w fun e w' => e = .returned (.int .i64 (n : Int)) ∧ w' = w := by
  have h1 := h.c0
  unfold pt
  clear h
  go_enter Tryz.func179, Tryz.ntmps179
  go_wp2_with fail
  go_ret
  exact ⟨rfl, rfl⟩
set_option maxRecDepth 100000 in
set_option maxHeartbeats 1000000 in
theorem tlen_cell {g n c : Nat} {A : Option Addr} {w : World} (h : w.cell? ⟨g, 0, none⟩ = some (.slice A n c)) : Calls Tryz.prog 179 #[.pointer (some ⟨g, 0, none⟩)] w fun e w' => e = .returned (.int .i64 (n : Int)) ∧ w' = w := by
  go_enter Tryz.func179, Tryz.ntmps179
  go_wp2_with fail
  go_ret
  exact ⟨rfl, rfl⟩
theorem nmost_any (w : World) : Calls Tryz.prog 142 #[.pointer none] w fun e w' => e = .returned (.int .i64 0) ∧ w' = w := by
  go_enter Tryz.func142, Tryz.ntmps142
  go_wp2_with fail
  go_ret
  exact ⟨rfl, rfl⟩
theorem nlen_any (w : World) : Calls Tryz.prog 179 #[.pointer none] w fun e w' => e = .returned (.int .i64 0) ∧ w' = w := by
  go_enter Tryz.func179, Tryz.ntmps179
  go_wp2_with fail
  go_ret
  exact ⟨rfl, rfl⟩
set_option maxRecDepth 100000 in
set_option maxHeartbeats 1000000 in
theorem new_anyK (m : Nat) (hm : m < 4294967296) (w : World) : Calls Tryz.prog 87 #[.int .u32 (m : Int)] w fun e w' => e = .returned (pt w.heap.size) ∧ w' = w.alloc (.cells #[.slice none 0 0, .int .i64 0, .int .i64 (m : Int)] 190) := by
  unfold pt
  go_enter Tryz.func87, Tryz.ntmps87
  go_wp2_with fail
  go_ret
  exact ⟨rfl, rfl⟩
end Go.Proofs.YtooaajnkiokpnaaGreatDoor

namespace Go.Proofs.YtooaajnkiokpnaaGreatDoor
open Go.RowKit Go.WideShapes

/-- Field number i of a slice of fields, as it lies in memory. -/
theorem RdS.field {w : World} {S : Nat → Prop} {A : Option Addr} {L : List Fd} (h : RdS w S A (enl fdc L)) {i : Nat} (hi : i < L.length) : ∃ b q, A = some ⟨b, q, none⟩ ∧ S b ∧
    w.cell? ⟨b, q + i * 3, none⟩ = some (tx L[i].nm) ∧ w.cell? ⟨b, q + i * 3 + 1, none⟩ = some (tx L[i].vl) ∧ w.cell? ⟨b, q + i * 3 + 2, none⟩ = some (.bool L[i].nv) := by
  have hne : enl fdc L ≠ [] := by
    intro e
    have := enl_length fdc_len L
    rw [e] at this
    simp at this
    omega
  obtain ⟨b, q, hA, hb, hc⟩ := h hne
  refine ⟨b, q, hA, hb, ?_, ?_, ?_⟩
  · have := hc (i * 3 + 0) _ (by rw [enl_at fdc_len hi (by omega)]; rfl)
    simpa [Nat.add_assoc] using this
  · have := hc (i * 3 + 1) _ (by rw [enl_at fdc_len hi (by omega)]; rfl)
    simpa [Nat.add_assoc] using this
  · have := hc (i * 3 + 2) _ (by rw [enl_at fdc_len hi (by omega)]; rfl)
    simpa [Nat.add_assoc] using this

/-- What a step on a table leaves alone: all blocks but the table's own (g) and its slice's (o). -/
structure Fr (g : Nat) (o : Option Nat) (w w' : World) : Prop where
  os : w'.os = w.os
  tape : w'.tape = w.tape
  output : w'.output = w.output
  size : w.heap.size ≤ w'.heap.size
  block : ∀ k, k < w.heap.size → k ≠ g → some k ≠ o → w'.heap[k]? = w.heap[k]?

/-- The table in block g has these fields, the oldest first, in the slice v; and this most. -/
structure Tb (w : World) (base g : Nat) (v : Value) (L : List Fd) (most : Nat) : Prop where
  own : TabR w g v (tot L) most
  row : OwS w base 57 3 v L.length (enl fdc L)
  ne : v.ownBlock ≠ some g
  low : base ≤ g

section
variable {g : Nat} {o : Option Nat} {w w' w'' : World} {base : Nat} {v : Value} {L : List Fd} {most : Nat}
theorem Fr.refl (w : World) : Fr g o w w := ⟨rfl, rfl, rfl, Nat.le_refl _, fun _ _ _ _ => rfl⟩
theorem Fr.of_below (h : Below w.heap.size w w') : Fr g o w w' := ⟨h.os, h.tape, h.output, h.size, fun k hk _ _ => h.block k hk⟩
theorem Fr.of_grown (h : w.grownBy w' o) : Fr g o w w' := ⟨h.os, h.tape, h.output, h.size, fun k hk _ hne => h.block k hk hne⟩
theorem Fr.wide (h : Fr g none w w') : Fr g o w w' := ⟨h.os, h.tape, h.output, h.size, fun k hk h1 _ => h.block k hk h1 (by simp)⟩
theorem Fr.trans {o' : Option Nat} (h : Fr g o w w') (h2 : Fr g o' w' w'') (ho : o' = o ∨ ∀ k, o' = some k → w.heap.size ≤ k) : Fr g o w w'' := by
  refine ⟨h2.os.trans h.os, h2.tape.trans h.tape, h2.output.trans h.output, Nat.le_trans h.size h2.size, fun k hk h1 h3 => (h2.block k (Nat.lt_of_lt_of_le hk h.size) h1 ?_).trans (h.block k hk h1 h3)⟩
  rcases ho with rfl | ho
  · exact h3
  · intro e
    have := ho k e.symm
    omega
theorem Fr.then_below (h : Fr g o w w') (h2 : Below w'.heap.size w' w'') : Fr g o w w'' := h.trans (o' := o) (Fr.of_below h2) (.inl rfl)
theorem Fr.setCell (h : Fr g o w w') (j : Nat) (x : Value) : Fr g o w (w'.setCell ⟨g, j, none⟩ x) :=
  h.trans (o' := o) ⟨rfl, rfl, rfl, by simp [World.setCell], fun k _ h1 _ => Below.heap_setCell w' _ x k h1⟩ (.inl rfl)
theorem Fr.drewN (h : Fr g o w w') (n : Nat) : Fr g o w (w'.drewN n) := ⟨h.os, h.tape, h.output, h.size, h.block⟩
theorem Fr.cell (h : Fr g none w w') {b i : Nat} (hb : b ≠ g) {x : Value} (hc : w.cell? ⟨b, i, none⟩ = some x) : w'.cell? ⟨b, i, none⟩ = some x :=
  (World.cell?_of_block (a := ⟨b, i, none⟩) (h.block b (World.block_lt_of_cell? w _ hc) hb (by simp))).trans hc
theorem Fr.row (h : Fr g o w w') {b : Nat} (hb : b ≠ g) (ho : some b ≠ o) {t : TypeId} {cs : Array Value} (hr : Row w b t cs) : Row w' b t cs := (h.block b hr.lt hb ho).trans hr
theorem Fr.alloc (h : Fr g o w w') (x : Obj) : Fr g o w (w'.alloc x) := h.then_below ((Below.refl _ _).alloc (Nat.le_refl _) _)
theorem Fr.below (h : Fr g o w w') {B : Nat} (hg : B ≤ g) (ho : ∀ k, o = some k → B ≤ k) (hB : B ≤ w.heap.size) : Below B w w' :=
  ⟨h.os, h.tape, h.output, h.size, fun k hk => h.block k (by omega) (by omega) (fun e => by have := ho k e.symm; omega)⟩
theorem Tb.new (w : World) (m : Nat) (hb : base ≤ w.heap.size) : Tb (w.alloc (.cells #[.slice none 0 0, .int .i64 0, .int .i64 (m : Int)] 190)) base w.heap.size (.slice none 0 0) [] m :=
  ⟨Row.new w 190 #[.slice none 0 0, .int .i64 0, .int .i64 (m : Int)], OwS.nil, by simp [Value.ownBlock], hb⟩
theorem Tb.lows (h : Tb w base g v L most) : ∀ k, v.ownBlock = some k → base ≤ k := fun k hk => (h.row.lt k hk).1
theorem Tb.lt (h : Tb w base g v L most) : g < w.heap.size := Row.lt h.own
theorem Tb.keep (h : Tb w base g v L most) (h1 : w'.heap[g]? = w.heap[g]?) (h2 : ∀ k, v.ownBlock = some k → w'.heap[k]? = w.heap[k]?) : Tb w' base g v L most := ⟨h1.trans h.own, h.row.keep h2, h.ne, h.low⟩
theorem Tb.below (h : Tb w base g v L most) (hb : Below w.heap.size w w') : Tb w' base g v L most := h.keep (hb.block _ h.lt) fun k hk => hb.block k (h.row.lt k hk).2
theorem Tb.alloc (h : Tb w base g v L most) (x : Obj) : Tb (w.alloc x) base g v L most := h.below ((Below.refl _ _).alloc (Nat.le_refl _) _)
theorem Tb.drewN (h : Tb w base g v L most) (n : Nat) : Tb (w.drewN n) base g v L most := h.keep rfl fun _ _ => rfl
theorem Tb.shape (h : Tb w base g v L most) : ∃ A c, v = .slice A L.length c ∧ L.length ≤ c ∧ c ≤ maxLen := h.row.shape
/-- Field number i, as it lies in memory. -/
theorem Tb.field {A : Option Addr} {n c : Nat} (h : Tb w base g (.slice A n c) L most) {i : Nat} (hi : i < L.length) : ∃ b q, A = some ⟨b, q, none⟩ ∧ b ≠ g ∧
    w.cell? ⟨b, q + i * 3, none⟩ = some (tx L[i].nm) ∧ w.cell? ⟨b, q + i * 3 + 1, none⟩ = some (tx L[i].vl) ∧ w.cell? ⟨b, q + i * 3 + 2, none⟩ = some (.bool L[i].nv) := by
  obtain ⟨b, q, hA, hb, h0, h1, h2⟩ := h.row.reads.field hi
  exact ⟨b, q, hA, fun e => h.ne (by rw [hb, e]), h0, h1, h2⟩
end
end Go.Proofs.YtooaajnkiokpnaaGreatDoor

namespace Go.Proofs.YtooaajnkiokpnaaGreatDoor
open Go.RowKit Go.WideShapes

/-- No field is great, nor are there many. -/
def Few (L : List Fd) : Prop := L.length ≤ 9000 ∧ ∀ f ∈ L, sz f ≤ 18032
/-- What the bound answers: where it says no, there are few. -/
def Bounds (w : World) (L : List Fd) (e : Ending) (w' : World) : Prop := ∃ t, e = .returned (.bool t) ∧ (t = false → Few L) ∧ ∃ n, w' = w.drewN n

theorem few_more {L : List Fd} {k T : Nat} (hk : k < L.length) (hT : T + (1 + min L[k].nm.length 9000 + min L[k].vl.length 9000) ≤ 9000) (h : ∀ f ∈ L.take k, sz f ≤ 18032) : ∀ f ∈ L.take (k + 1), sz f ≤ 18032 := by
  intro f hf
  rw [List.take_succ_eq_append_getElem hk, List.mem_append, List.mem_singleton] at hf
  rcases hf with hf | rfl
  · exact h f hf
  · unfold sz; omega

set_option maxRecDepth 100000 in
set_option maxHeartbeats 4000000 in
theorem great_anyK {w : World} {A : Option Addr} {c : Nat} {L : List Fd} (hR : RdS w (· < w.heap.size) A (enl fdc L)) (hl : L.length ≤ 9223372036854775807) : Calls Tryz.prog 7 #[.slice A L.length c] w (Bounds w L) := by
  go_enter Tryz.func7, Tryz.ntmps7
  go_wp2_with fail
  go_loopw [3, 7] (fun n i wr => ∃ (k T : Nat), k ≤ L.length ∧ i = .int .i64 k ∧ n = .int .i64 T ∧ T ≤ 9000 ∧ k ≤ T ∧ Hid (∀ f ∈ L.take k, sz f ≤ 18032) ∧ Hid (∃ n, wr = w.drewN n))
    (fun _ i _ => L.length - (intOf i).toNat)
  case atStart => exact ⟨0, 0, Nat.zero_le _, rfl, rfl, by omega, by omega, by show ∀ _, _; simp, ⟨0, rfl⟩⟩
  case round =>
    obtain ⟨k, T, hk, rfl, rfl, hT, hkT, hF, hW⟩ := hrel
    by_cases hlt : k < L.length
    · obtain ⟨nd, rfl⟩ := hW.out
      obtain ⟨b, q, rfl, hb, f0, f1, f2⟩ := hR.field hlt
      have hmore := Lib.hid (fun h => few_more (T := T) hlt h hF.out)
      unfold tx at f0 f1
      generalize L[k].nm = x at f0 hmore
      generalize L[k].vl = y at f1 hmore
      have hx := tx_size x
      have hy := tx_size y
      obtain ⟨p, hp⟩ : ∃ p, p = min x.length 9000 := ⟨_, rfl⟩
      obtain ⟨r, hr⟩ : ∃ r, r = min y.length 9000 := ⟨_, rfl⟩
      have hpm : min (x.length : Int) 9000 = (p : Int) := by omega
      have hrm : min (y.length : Int) 9000 = (r : Int) := by omega
      have hp9 : p ≤ 9000 := by omega
      have hr9 : r ≤ 9000 := by omega
      rw [← hp, ← hr] at hmore
      clear hp hr f2
      have s1 : IntKind.i64.wrap (1 + (p : Int)) = 1 + (p : Int) := IntWalk.i64_in _ (by omega)
      have s2 : IntKind.i64.wrap (1 + (p : Int) + (r : Int)) = 1 + (p : Int) + (r : Int) := IntWalk.i64_in _ (by omega)
      have s3 : IntKind.i64.wrap ((T : Int) + (1 + (p : Int) + (r : Int))) = (T : Int) + (1 + (p : Int) + (r : Int)) := IntWalk.i64_in _ (by omega)
      have k0 : (0 : Int) ≤ (k : Int) := by omega
      have k1 : (k : Int) < (L.length : Int) := by omega
      by_cases hgt : T + (1 + p + r) ≤ 9000
      · have hg : decide ((9000 : Int) < (T : Int) + (1 + (p : Int) + (r : Int))) = false := by simp; omega
        have hF2 := Lib.hid (hmore.out (by omega))
        clear hmore hF
        go_wp2_with fail
        go_quiet (fail)
        go_wp2_with fail
        go_roundw
        case rel => exact ⟨k + 1, T + (1 + p + r), by omega, by go_num, by (congr 1), hgt, by omega, hF2, ⟨_, rfl⟩⟩
        case measure => simp [intOf]; omega
      · have hg : decide ((9000 : Int) < (T : Int) + (1 + (p : Int) + (r : Int))) = true := by simp; omega
        clear hmore hF
        go_wp2_with fail
        go_quiet (fail)
        go_wp2_with fail
        go_ret
        exact ⟨true, rfl, (fun h => by cases h), ⟨_, rfl⟩⟩
    · obtain ⟨nd, rfl⟩ := hW.out
      have hF2 : Hid (Few L) := by
        show _ ∧ _
        refine ⟨by omega, fun f hf => hF.out f ?_⟩
        rw [List.take_of_length_le (by omega)]
        exact hf
      clear hF
      go_wp2_with fail
      go_ret
      exact ⟨false, rfl, fun _ => hF2.out, ⟨_, rfl⟩⟩
end Go.Proofs.YtooaajnkiokpnaaGreatDoor

namespace Go.Proofs.YtooaajnkiokpnaaGreatDoor
open Go.ChangeShapes Go.WideShapes Go.RowKit Go.Deep Go.Joins

section
variable {H : Type} {hc : TypeId × Value → H}
set_option maxRecDepth 100000 in
theorem cells_field : Tryz.prog.cellsOf 57 = 3 := by kernel_rfl
set_option maxRecDepth 100000 in
theorem cells_str : Tryz.prog.cellsOf 9 = 1 := by kernel_rfl
set_option maxRecDepth 100000 in
theorem cells_boolK : Tryz.prog.cellsOf 4 = 1 := by kernel_rfl
set_option maxRecDepth 100000 in
theorem cells_i64K : Tryz.prog.cellsOf 3 = 1 := by kernel_rfl
set_option maxRecDepth 100000 in
theorem cells_u32K : Tryz.prog.cellsOf 24 = 1 := by kernel_rfl

set_option maxRecDepth 100000 in
theorem len_max {n c : Nat} (h1 : n ≤ c) (h2 : c ≤ maxLen) : n ≤ 9223372036854775807 := by simp only [maxLen] at h2; omega
set_option maxRecDepth 100000 in
theorem field_cells3 {W : World} {n : Nat} {cs : List Value} {x : DataW H × List MemPlace} (h : DataW.trod hc Tryz.prog W 0 (fun _ => true) true n 57 cs = some x) : ∃ f : Fd, cs = fdc f := by
  obtain ⟨xs, m, _, _, hl, hxl, hf⟩ := DataW.trod_struct Tryz.underlying57 h
  rw [cells_field] at hl
  match cs, hl with
  | [a, b, c], _ =>
    have hxl' : xs.length = 3 := hxl
    have h0 : DataW.trod hc Tryz.prog W 0 (fun _ => true) true m 9 (List.take (Tryz.prog.cellsOf 9) (List.drop 0 [a, b, c])) = xs[0]? := hf 0 _ rfl
    have h1 : DataW.trod hc Tryz.prog W 0 (fun _ => true) true m 9 (List.take (Tryz.prog.cellsOf 9) (List.drop 1 [a, b, c])) = xs[1]? := hf 1 _ rfl
    have h2 : DataW.trod hc Tryz.prog W 0 (fun _ => true) true m 4 (List.take (Tryz.prog.cellsOf 4) (List.drop 2 [a, b, c])) = xs[2]? := hf 2 _ rfl
    rw [List.getElem?_eq_getElem (by omega)] at h0 h1 h2
    simp only [cells_str, cells_boolK, List.drop_succ_cons, List.drop_zero, List.take_succ_cons, List.take_zero] at h0 h1 h2
    obtain ⟨s0, e0, _, _⟩ := DataW.trod_string Tryz.underlying9 h0
    obtain ⟨s1, e1, _, _⟩ := DataW.trod_string Tryz.underlying9 h1
    obtain ⟨t, e2, _⟩ := DataW.trod_bool Tryz.underlying4 h2
    refine ⟨⟨s0.data.toList, s1.data.toList, t⟩, ?_⟩
    simp only [List.cons.injEq, and_true] at e0 e1 e2
    subst e0 e1 e2
    simp [fdc, tx]
set_option maxRecDepth 100000 in
theorem open_fields {W : World} {base : Nat} {v : Value} {d : DataW H} {p : List MemPlace} (hv : Value.okWide Tryz.prog W .any base 23 v) (h : DataW.Trod hc Tryz.prog W 0 (fun _ => true) true 23 v d p) :
    ∃ (A : Option Addr) (c : Nat) (L : List Fd), v = .slice A L.length c ∧ L.length ≤ c ∧ c ≤ maxLen ∧ RdS W (· < W.heap.size) A (enl fdc L) :=
  open_rows fdc_len (by omega) Tryz.underlying23 cells_field (fun _ _ _ h => field_cells3 h) hv h
set_option maxRecDepth 100000 in
theorem open_field {W : World} {base : Nat} {v : Value} {d : DataW H} {p : List MemPlace} (hv : Value.okWide Tryz.prog W .any base 57 v) (h : DataW.Trod hc Tryz.prog W 0 (fun _ => true) true 57 v d p) : ∃ f : Fd, v = fv f := by
  obtain ⟨cs, rfl, _⟩ := okWide_struct Tryz.underlying57 hv
  obtain ⟨fuel, hf⟩ := h
  obtain ⟨f, hcs⟩ := field_cells3 hf
  refine ⟨f, ?_⟩
  have : cs.toList = fdc f := hcs
  unfold fv
  congr 1
  apply Array.toList_inj.1
  rw [this]
  rfl
end
end Go.Proofs.YtooaajnkiokpnaaGreatDoor
