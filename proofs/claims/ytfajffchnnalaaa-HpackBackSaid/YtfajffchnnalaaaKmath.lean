/-
  A block of fields as a plain list of bytes: how it is written, how it is read. No program, no memory; no conditions but those that each theorem names.
-/
import Derived.Test.YtfajffchnnalaaaPfxMath
import Derived.Test.YtfajffchnnalaaaHdecp
import Derived.Test.YtfajffchnnalaaaDmath
namespace Go.Proofs.Ytfajffchnnalaaa

/-! ### Writing -/
def encN (s : List UInt8) : Nat := (bitsN s + 7) / 8
/-- A text. -/
def txtL (s : List UInt8) : List UInt8 := if encN s < s.length then putL 7 128 (encN s) ++ encL s else putL 7 0 s.length ++ s
/-- How many bits of a piece's first byte its number has. -/
def pfxN (kind : Nat) : Nat := if kind = 128 then 7 else if kind = 64 then 6 else if kind = 32 then 5 else 4
def numL (kind n : Nat) : List UInt8 := putL (pfxN kind) kind n
def litL (kind n : Nat) (f : Fd) : List UInt8 := numL kind n ++ ((if n = 0 then txtL f.nm else []) ++ txtL f.vl)
/-- A field's number; is it there as a whole? -/
def nOf (L : List Fd) (f : Fd) : Nat := numT f.nm f.vl L.reverse
def hOf (L : List Fd) (f : Fd) : Bool := hasT f.nm f.vl L.reverse
def putF (L : List Fd) (f : Fd) : List UInt8 := if f.nv then litL 16 (nOf L f) f else if hOf L f then numL 128 (nOf L f) else litL 64 (nOf L f) f
def tabF (M : Nat) (L : List Fd) (f : Fd) : List Fd := if f.nv then L else if hOf L f then L else addL M f L
/-- A row of fields: its bytes, the table then. -/
def putA (M : Nat) : List Fd → List Fd → List UInt8
  | _, [] => []
  | L, f :: r => putF L f ++ putA M (tabF M L f) r
def tabA (M : Nat) : List Fd → List Fd → List Fd
  | L, [] => L
  | L, f :: r => tabA M (tabF M L f) r
/-- The most that is told ahead of a block. -/
def limL (lim : Bool) (low M : Nat) : List UInt8 := if lim then (if low < M then numL 32 low else []) ++ numL 32 M else []

theorem putA_snoc (M : Nat) (f : Fd) : ∀ (r L : List Fd), putA M L (r ++ [f]) = putA M L r ++ putF (tabA M L r) f
  | [], L => by simp [putA, tabA]
  | a :: r, L => by simp only [List.cons_append, putA, tabA, putA_snoc M f r, List.append_assoc]
theorem tabA_snoc (M : Nat) (f : Fd) : ∀ (r L : List Fd), tabA M L (r ++ [f]) = tabF M (tabA M L r) f
  | [], L => by simp [tabA]
  | a :: r, L => by simp only [List.cons_append, tabA, tabA_snoc M f r]
theorem putA_take {M : Nat} {L r : List Fd} {k : Nat} (hk : k < r.length) : putA M L (r.take (k + 1)) = putA M L (r.take k) ++ putF (tabA M L (r.take k)) r[k] := by
  rw [List.take_succ_eq_append_getElem hk, putA_snoc]
theorem tabA_take {M : Nat} {L r : List Fd} {k : Nat} (hk : k < r.length) : tabA M L (r.take (k + 1)) = tabF M (tabA M L (r.take k)) r[k] := by
  rw [List.take_succ_eq_append_getElem hk, tabA_snoc]

theorem txt_len (s : List UInt8) : (txtL s).length ≤ s.length + 5 := by
  unfold txtL
  split
  · have := (putL_len 7 128 (encN s)).2
    rw [List.length_append, encL_len]
    unfold encN at *
    omega
  · have := (putL_len 7 0 s.length).2
    rw [List.length_append]
    omega
theorem num_len (k n : Nat) : (numL k n).length ≤ 5 := (putL_len _ _ _).2
theorem lit_len (k n : Nat) (f : Fd) : (litL k n f).length ≤ f.nm.length + f.vl.length + 15 := by
  unfold litL
  have h1 := num_len k n
  have h2 := txt_len f.vl
  have h3 := txt_len f.nm
  simp only [List.length_append]
  split
  · omega
  · simp; omega
theorem putF_len (L : List Fd) (f : Fd) : (putF L f).length ≤ f.nm.length + f.vl.length + 15 := by
  unfold putF
  split
  · exact lit_len _ _ _
  · split
    · have := num_len 128 (nOf L f); omega
    · exact lit_len _ _ _
theorem tabF_le {M : Nat} {L : List Fd} {f : Fd} (h : tot L ≤ M) : tot (tabF M L f) ≤ M := by
  unfold tabF
  split
  · exact h
  · split
    · exact h
    · exact addL_le
theorem tabA_le {M : Nat} : ∀ {r L : List Fd}, tot L ≤ M → tot (tabA M L r) ≤ M
  | [], _, h => h
  | _ :: r, _, h => tabA_le (r := r) (tabF_le h)
theorem mem_tot {f : Fd} {L : List Fd} (h : f ∈ L) : sz f ≤ tot L := by
  induction L with
  | nil => simp at h
  | cons a L ih =>
    rcases List.mem_cons.1 h with rfl | h
    · simp only [tot]; omega
    · have := ih h; simp only [tot]; omega

/-! ### Reading -/
def hiB : List UInt8 → Bool
  | [] => false
  | b :: _ => decide (128 ≤ b.toNat)
/-- A text, and what stands behind it. -/
def textR (l : List UInt8) : Option (List UInt8 × List UInt8) :=
  if (getL 7 l).2.2 ≠ 0 then none
  else if (l.drop (getL 7 l).2.1).length < (getL 7 l).1 then none
  else if hiB l then
    match decL ((l.drop (getL 7 l).2.1).take (getL 7 l).1) with
    | none => none
    | some s => some (s, (l.drop (getL 7 l).2.1).drop (getL 7 l).1)
  else some ((l.drop (getL 7 l).2.1).take (getL 7 l).1, (l.drop (getL 7 l).2.1).drop (getL 7 l).1)
/-- The field of a number. -/
def atT (L : List Fd) (n : Nat) : Option Fd := if n = 0 then none else if n ≤ 61 then some ⟨nmL (n - 1), vlL (n - 1), false⟩ else L.reverse[n - 62]?
def nameR (L : List Fd) (n : Nat) (l : List UInt8) : Option (List UInt8 × List UInt8) := if n = 0 then textR l else match atT L n with
  | none => none
  | some f => some (f.nm, l)
def textsR (L : List Fd) (n : Nat) (nv : Bool) (l : List UInt8) : Option (Fd × List UInt8) := match nameR L n l with
  | none => none
  | some (a, r) => match textR r with
    | none => none
    | some (b, r') => some (⟨a, b, nv⟩, r')
def kindN (b : Nat) : Nat := if 128 ≤ b then 128 else if 64 ≤ b then 64 else if 32 ≤ b then 32 else if 16 ≤ b then 16 else 0
/-- How a reading stands: the table, its most, the fields. -/
structure Rd where
  tb : List Fd
  mx : Nat
  out : List Fd
/-- A piece: how the reading stands then, what stands behind it. -/
def pieceR (cap : Nat) (s : Rd) (l : List UInt8) : Option (Rd × List UInt8) :=
  let k := kindN ((l.headD 0).toNat)
  let g := getL (pfxN k) l
  if g.2.2 ≠ 0 then none
  else if k = 32 then (if s.out ≠ [] ∨ cap < g.1 then none else some (⟨shr (g.1 : Int) s.tb, g.1, s.out⟩, l.drop g.2.1))
  else if k = 128 then match atT s.tb g.1 with
    | none => none
    | some f => some (⟨s.tb, s.mx, s.out ++ [f]⟩, l.drop g.2.1)
  else match textsR s.tb g.1 (k == 16) (l.drop g.2.1) with
    | none => none
    | some (f, r) => some (⟨if k = 64 then addL s.mx f s.tb else s.tb, s.mx, s.out ++ [f]⟩, r)
/-- A block. -/
def blockR (cap : Nat) : Nat → Rd → List UInt8 → Option Rd
  | _, s, [] => some s
  | 0, _, _ :: _ => none
  | n + 1, s, b :: l => match pieceR cap s (b :: l) with
    | none => none
    | some (s', r) => blockR cap n s' r
theorem block_nil (cap n : Nat) (s : Rd) : blockR cap n s [] = some s := by cases n <;> rfl
theorem block_none {cap n : Nat} {s : Rd} {l : List UInt8} (hl : l ≠ []) (hn : l.length ≤ n) (h : pieceR cap s l = none) : blockR cap n s l = none := by
  cases l with
  | nil => exact absurd rfl hl
  | cons b l => cases n with
    | zero => simp at hn
    | succ n => simp only [blockR, h]
theorem block_some {cap n : Nat} {s s' : Rd} {l r : List UInt8} (hl : l ≠ []) (h : pieceR cap s l = some (s', r)) : blockR cap (n + 1) s l = blockR cap n s' r := by
  cases l with
  | nil => exact absurd rfl hl
  | cons b l => simp only [blockR, h]

theorem getR_used (l : List UInt8) : ∀ (i acc : Nat), (getR i acc l).2.2 = 0 → 1 ≤ (getR i acc l).2.1 - i ∧ i < (getR i acc l).2.1 ∧ (getR i acc l).2.1 - i ≤ l.length := by
  induction l with
  | nil => intro i acc h; simp [getR] at h
  | cons b l ih =>
    intro i acc h
    unfold getR at h ⊢
    by_cases h4 : i = 4
    · simp [h4] at h
    · rw [if_neg h4] at h ⊢
      by_cases hl : b.toNat < 128
      · rw [if_pos hl] at h ⊢
        simp
      · rw [if_neg hl] at h ⊢
        have := ih _ _ h
        simp only [List.length_cons]
        omega
theorem getL_cons (k : Nat) (b : UInt8) (l : List UInt8) : getL k (b :: l) = if b.toNat % 2 ^ k < 2 ^ k - 1 then (b.toNat % 2 ^ k, 1, 0)
    else if (getR 0 0 l).2.2 ≠ 0 then (0, 0, (getR 0 0 l).2.2)
    else if 268435456 - (2 ^ k - 1) < (getR 0 0 l).1 then (0, 0, 4)
    else (2 ^ k - 1 + (getR 0 0 l).1, 1 + (getR 0 0 l).2.1, 0) := rfl
theorem getL_used {k : Nat} {l : List UInt8} (h : (getL k l).2.2 = 0) : 1 ≤ (getL k l).2.1 ∧ (getL k l).2.1 ≤ l.length := by
  cases l with
  | nil => simp [getL] at h
  | cons b l =>
    rw [getL_cons] at h ⊢
    split
    · simp
    · rename_i h1
      rw [if_neg h1] at h
      split
      · rename_i h2; rw [if_pos h2] at h; exact absurd h h2
      · rename_i h2
        rw [if_neg h2] at h
        split
        · rename_i h3; rw [if_pos h3] at h; simp at h
        · have := getR_used l 0 0 (by omega)
          simp only [List.length_cons]
          omega
theorem getL_bad {k : Nat} {l : List UInt8} (h : (getL k l).2.2 ≠ 0) : (getL k l).1 = 0 ∧ (getL k l).2.1 = 0 := by
  cases l with
  | nil => simp [getL]
  | cons b l =>
    rw [getL_cons] at h ⊢
    split
    · rename_i h1; rw [if_pos h1] at h; simp at h
    · rename_i h1
      rw [if_neg h1] at h
      split
      · simp
      · rename_i h2
        rw [if_neg h2] at h
        split
        · simp
        · rename_i h3; rw [if_neg h3] at h; simp at h
theorem getL_bd {k : Nat} (h1 : 1 ≤ k) (h8 : k ≤ 8) (l : List UInt8) : (getL k l).1 ≤ 268435456 ∧ (getL k l).2.1 ≤ 5 := by
  have hp := pow_le h1 h8
  have hR : ∀ (l : List UInt8) (i acc : Nat), i ≤ 4 → (getR i acc l).2.1 ≤ 4 := by
    intro l
    induction l with
    | nil => intro i acc hi; simp [getR]
    | cons b l ih =>
      intro i acc hi
      unfold getR
      split
      · simp
      · split
        · show i + 1 ≤ 4; omega
        · exact ih _ _ (by omega)
  cases l with
  | nil => simp [getL]
  | cons b l =>
    rw [getL_cons]
    split
    · exact ⟨by show b.toNat % 2 ^ k ≤ _; omega, by show 1 ≤ 5; omega⟩
    · split
      · simp
      · split
        · simp
        · have := hR l 0 0 (by omega)
          exact ⟨by show 2 ^ k - 1 + _ ≤ _; omega, by show 1 + _ ≤ 5; omega⟩

theorem textR_rest {l a r : List UInt8} (h : textR l = some (a, r)) : r.length < l.length := by
  unfold textR at h
  split at h
  · cases h
  · rename_i h0
    have hu := getL_used (k := 7) (l := l) (by omega)
    split at h
    · cases h
    · split at h
      · split at h
        · cases h
        · injection h with h; injection h with h1 h2; subst h2; simp; omega
      · injection h with h; injection h with h1 h2; subst h2; simp; omega
theorem nameR_rest {L : List Fd} {n : Nat} {l a r : List UInt8} (h : nameR L n l = some (a, r)) : r.length ≤ l.length := by
  unfold nameR at h
  split at h
  · exact Nat.le_of_lt (textR_rest h)
  · split at h
    · cases h
    · injection h with h; injection h with h1 h2; subst h2; exact Nat.le_refl _
theorem textsR_rest {L : List Fd} {n : Nat} {nv : Bool} {l r : List UInt8} {f : Fd} (h : textsR L n nv l = some (f, r)) : r.length < l.length ∧ f.nv = nv := by
  unfold textsR at h
  split at h
  · cases h
  · rename_i h1
    split at h
    · cases h
    · rename_i h2
      injection h with h; injection h with h3 h4
      subst h4 h3
      have := nameR_rest h1
      have := textR_rest h2
      exact ⟨by omega, rfl⟩

/-! ### There and back -/
theorem text_back (s behind : List UInt8) (hs : s.length ≤ 268435456) : textR (txtL s ++ behind) = some (s, behind) := by
  have key : ∀ (a n : Nat) (t : List UInt8), a < 256 → n ≤ 268435456 → t.length = n →
      getL 7 (putL 7 a n ++ t ++ behind) = (n, (putL 7 a n).length, 0) ∧ (putL 7 a n ++ t ++ behind).drop (putL 7 a n).length = t ++ behind := by
    intro a n t ha hn ht
    constructor
    · rw [List.append_assoc]; exact get_put (by omega) (by omega) ha hn _
    · rw [List.append_assoc, List.drop_left]
  have hb : ∀ (a n : Nat) (t : List UInt8), a = 0 ∨ a = 128 → hiB (putL 7 a n ++ t) = decide (a = 128) := by
    intro a n t ha
    unfold putL
    split
    · rename_i hn
      have hn' : n < 127 := hn
      rcases ha with rfl | rfl
      · simp [hiB, hiN]; omega
      · simp [hiB, hiN]; omega
    · rcases ha with rfl | rfl
      · simp [hiB, hiN]
      · simp [hiB, hiN]
  unfold txtL
  split
  · rename_i h
    obtain ⟨h1, h2⟩ := key 128 (encN s) (encL s) (by omega) (by omega) (by rw [encL_len]; rfl)
    have h3 := hb 128 (encN s) (encL s ++ behind) (.inr rfl)
    rw [← List.append_assoc] at h3
    have h4 : (encL s).length = encN s := by rw [encL_len]; rfl
    unfold textR
    rw [h1]
    simp only
    rw [if_neg (by simp), h2, h3, if_neg (by simp; omega)]
    have e1 : (encL s ++ behind).take (encN s) = encL s := by rw [← h4, List.take_left]
    have e2 : (encL s ++ behind).drop (encN s) = behind := by rw [← h4, List.drop_left]
    rw [e1, e2, dec_enc]
    simp
  · obtain ⟨h1, h2⟩ := key 0 s.length s (by omega) hs rfl
    have h3 := hb 0 s.length (s ++ behind) (.inl rfl)
    rw [← List.append_assoc] at h3
    unfold textR
    rw [h1]
    simp only
    rw [if_neg (by simp), h2, h3, if_neg (by simp)]
    simp
end Go.Proofs.Ytfajffchnnalaaa
