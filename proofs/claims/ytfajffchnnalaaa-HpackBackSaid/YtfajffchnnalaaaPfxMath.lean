/-
  Plain: a number behind k bits as a list of bytes, and what bytes are read as. No program, no memory.
-/
import Derived.WalkKit
namespace Go.Proofs.Ytfajffchnnalaaa

/-- The bytes behind the first one. -/
def tailF : Nat → Nat → List UInt8
  | 0, r => [UInt8.ofNat r]
  | f + 1, r => if r < 128 then [UInt8.ofNat r] else UInt8.ofNat (r % 128 + 128) :: tailF f (r / 128)
theorem tailF_last (f : Nat) {r : Nat} (h : r < 128) : tailF f r = [UInt8.ofNat r] := by
  cases f with
  | zero => rfl
  | succ f => simp [tailF, h]
theorem tailF_more (f : Nat) {r : Nat} (h : ¬ r < 128) : tailF (f + 1) r = UInt8.ofNat (r % 128 + 128) :: tailF f (r / 128) := by simp [tailF, h]
theorem tailF_len (f r : Nat) : (tailF f r).length ≤ f + 1 := by
  induction f generalizing r with
  | zero => simp [tailF]
  | succ f ih =>
    unfold tailF
    split
    · simp
    · have := ih (r / 128); simp; omega

def hiN (k a : Nat) : Nat := a / 2 ^ k * 2 ^ k
def putL (k a n : Nat) : List UInt8 :=
  if n < 2 ^ k - 1 then [UInt8.ofNat (hiN k a + n)] else UInt8.ofNat (hiN k a + (2 ^ k - 1)) :: tailF 3 (n - (2 ^ k - 1))
theorem putL_small {k a n : Nat} (h : n < 2 ^ k - 1) : putL k a n = [UInt8.ofNat (hiN k a + n)] := if_pos h
theorem putL_great {k a n : Nat} (h : ¬ n < 2 ^ k - 1) : putL k a n = UInt8.ofNat (hiN k a + (2 ^ k - 1)) :: tailF 3 (n - (2 ^ k - 1)) := if_neg h
theorem putL_len (k a n : Nat) : 1 ≤ (putL k a n).length ∧ (putL k a n).length ≤ 5 := by
  unfold putL
  split
  · simp
  · have := tailF_len 3 (n - (2 ^ k - 1)); simp; omega

theorem pow_le {k : Nat} (h1 : 1 ≤ k) (h8 : k ≤ 8) : 1 ≤ 2 ^ k - 1 ∧ 2 ^ k - 1 ≤ 255 ∧ 2 ^ k ≤ 256 ∧ 2 ≤ 2 ^ k := by
  have : k = 1 ∨ k = 2 ∨ k = 3 ∨ k = 4 ∨ k = 5 ∨ k = 6 ∨ k = 7 ∨ k = 8 := by omega
  rcases this with rfl | rfl | rfl | rfl | rfl | rfl | rfl | rfl <;> decide
theorem hiN_lt {k a : Nat} (h1 : 1 ≤ k) (h8 : k ≤ 8) (ha : a < 256) : hiN k a + (2 ^ k - 1) < 256 := by
  have hk : k = 1 ∨ k = 2 ∨ k = 3 ∨ k = 4 ∨ k = 5 ∨ k = 6 ∨ k = 7 ∨ k = 8 := by omega
  unfold hiN
  rcases hk with rfl | rfl | rfl | rfl | rfl | rfl | rfl | rfl <;> omega
theorem hiN_div {k a m : Nat} (h1 : 1 ≤ k) (h8 : k ≤ 8) (hm : m ≤ 2 ^ k - 1) : (hiN k a + m) / 2 ^ k = a / 2 ^ k := by
  have hk : k = 1 ∨ k = 2 ∨ k = 3 ∨ k = 4 ∨ k = 5 ∨ k = 6 ∨ k = 7 ∨ k = 8 := by omega
  unfold hiN
  rcases hk with rfl | rfl | rfl | rfl | rfl | rfl | rfl | rfl <;> omega
theorem hiN_mod {k a m : Nat} (h1 : 1 ≤ k) (h8 : k ≤ 8) (hm : m ≤ 2 ^ k - 1) : (hiN k a + m) % 2 ^ k = m := by
  have hk : k = 1 ∨ k = 2 ∨ k = 3 ∨ k = 4 ∨ k = 5 ∨ k = 6 ∨ k = 7 ∨ k = 8 := by omega
  unfold hiN
  rcases hk with rfl | rfl | rfl | rfl | rfl | rfl | rfl | rfl <;> omega

/-! ### Reading -/
def getR : Nat → Nat → List UInt8 → Nat × Nat × Nat
  | _, _, [] => (0, 0, 2)
  | i, acc, b :: l => if i = 4 then (0, 0, 4) else if b.toNat < 128 then (acc + b.toNat % 128 * 128 ^ i, i + 1, 0) else getR (i + 1) (acc + b.toNat % 128 * 128 ^ i) l
def getL (k : Nat) : List UInt8 → Nat × Nat × Nat
  | [] => (0, 0, 2)
  | b :: l =>
    if b.toNat % 2 ^ k < 2 ^ k - 1 then (b.toNat % 2 ^ k, 1, 0)
    else if (getR 0 0 l).2.2 ≠ 0 then (0, 0, (getR 0 0 l).2.2)
    else if 268435456 - (2 ^ k - 1) < (getR 0 0 l).1 then (0, 0, 4)
    else (2 ^ k - 1 + (getR 0 0 l).1, 1 + (getR 0 0 l).2.1, 0)
theorem getR_four (acc : Nat) (b : UInt8) (l : List UInt8) : getR 4 acc (b :: l) = (0, 0, 4) := by simp [getR]
theorem getR_last {i : Nat} (hi : i ≠ 4) (acc : Nat) {b : UInt8} (hb : b.toNat < 128) (l : List UInt8) : getR i acc (b :: l) = (acc + b.toNat % 128 * 128 ^ i, i + 1, 0) := by simp [getR, hi, hb]
theorem getR_more {i : Nat} (hi : i ≠ 4) (acc : Nat) {b : UInt8} (hb : ¬ b.toNat < 128) (l : List UInt8) : getR i acc (b :: l) = getR (i + 1) (acc + b.toNat % 128 * 128 ^ i) l := by simp [getR, hi, hb]

/-- Bytes behind the first one that end: all but the last one go on. -/
def term : List UInt8 → Prop
  | [] => False
  | b :: l => if b.toNat < 128 then l = [] else term l
def valT : List UInt8 → Nat
  | [] => 0
  | b :: l => b.toNat % 128 + 128 * valT l
theorem term_ne {l : List UInt8} (h : term l) : 1 ≤ l.length := by
  cases l with
  | nil => exact h.elim
  | cons b l => simp

theorem getR_term {T : List UInt8} (h : term T) (behind : List UInt8) : ∀ (i acc : Nat), i + T.length ≤ 4 → getR i acc (T ++ behind) = (acc + valT T * 128 ^ i, i + T.length, 0) := by
  induction T with
  | nil => exact h.elim
  | cons b T ih =>
    intro i acc hi
    have hi4 : i ≠ 4 := by simp at hi; omega
    unfold term at h
    by_cases hb : b.toNat < 128
    · rw [if_pos hb] at h
      subst h
      rw [List.cons_append, getR_last hi4 _ hb]
      simp [valT]
    · rw [if_neg hb] at h
      rw [List.cons_append, getR_more hi4 _ hb, ih h (i + 1) _ (by simp at hi; omega)]
      have e : valT (b :: T) * 128 ^ i = b.toNat % 128 * 128 ^ i + valT T * 128 ^ (i + 1) := by
        simp only [valT, Nat.add_mul, Nat.pow_succ]
        rw [Nat.mul_comm 128 (valT T), Nat.mul_assoc, Nat.mul_comm 128]
      rw [e]
      simp
      omega
theorem getR_over {T : List UInt8} (h : term T) : ∀ (i acc : Nat), i ≤ 4 → 4 < i + T.length → getR i acc T = (0, 0, 4) := by
  induction T with
  | nil => exact h.elim
  | cons b T ih =>
    intro i acc hi hl
    by_cases hi4 : i = 4
    · subst hi4; exact getR_four _ _ _
    · unfold term at h
      by_cases hb : b.toNat < 128
      · rw [if_pos hb] at h
        subst h
        simp at hl
        omega
      · rw [if_neg hb] at h
        rw [getR_more hi4 _ hb]
        exact ih h (i + 1) _ (by omega) (by simp at hl; omega)
theorem getR_cut {T : List UInt8} (h : term T) : ∀ (i acc j : Nat), i + T.length ≤ 4 → j < T.length → getR i acc (T.take j) = (0, 0, 2) := by
  induction T with
  | nil => exact h.elim
  | cons b T ih =>
    intro i acc j hi hj
    cases j with
    | zero => simp [getR]
    | succ j =>
      unfold term at h
      by_cases hb : b.toNat < 128
      · rw [if_pos hb] at h
        subst h
        simp at hj
      · rw [if_neg hb] at h
        rw [List.take_succ_cons, getR_more (by simp at hi; omega) _ hb]
        exact ih h (i + 1) _ j (by simp at hi; omega) (by simpa using hj)

theorem toNat_ofNat' {n : Nat} (h : n < 256) : (UInt8.ofNat n).toNat = n := by simp; omega
theorem tailF_term {f r : Nat} (h : r < 128 ^ (f + 1)) : term (tailF f r) ∧ valT (tailF f r) = r := by
  induction f generalizing r with
  | zero =>
    have h' : r < 128 := by simpa using h
    have e := toNat_ofNat' (show r < 256 by omega)
    simp only [tailF, term, valT, e]
    exact ⟨by simp [h'], by omega⟩
  | succ f ih =>
    by_cases hr : r < 128
    · have e := toNat_ofNat' (show r < 256 by omega)
      rw [tailF_last _ hr]
      simp only [term, valT, e]
      exact ⟨by simp [hr], by omega⟩
    · rw [tailF_more _ hr]
      have e := toNat_ofNat' (show r % 128 + 128 < 256 by omega)
      have hp : 128 ^ (f + 1 + 1) = 128 ^ (f + 1) * 128 := Nat.pow_succ ..
      obtain ⟨h1, h2⟩ := ih (r := r / 128) (by omega)
      simp only [term, valT, e, h2]
      exact ⟨by rw [if_neg (by omega)]; exact h1, by omega⟩

/-! ### There and back -/
theorem get_put {k a n : Nat} (h1 : 1 ≤ k) (h8 : k ≤ 8) (ha : a < 256) (hn : n ≤ 268435456) (behind : List UInt8) : getL k (putL k a n ++ behind) = (n, (putL k a n).length, 0) := by
  have hp := pow_le h1 h8
  have hlt := hiN_lt h1 h8 ha
  by_cases h : n < 2 ^ k - 1
  · rw [putL_small h]
    have e := toNat_ofNat' (show hiN k a + n < 256 by omega)
    have hm := hiN_mod (a := a) h1 h8 (m := n) (by omega)
    simp only [List.cons_append, List.nil_append, getL, e, hm]
    rw [if_pos h]
    rfl
  · rw [putL_great h]
    have e := toNat_ofNat' hlt
    have hm := hiN_mod (a := a) h1 h8 (m := 2 ^ k - 1) (by omega)
    obtain ⟨t1, t2⟩ := tailF_term (f := 3) (r := n - (2 ^ k - 1)) (by simp; omega)
    have hl := tailF_len 3 (n - (2 ^ k - 1))
    have hg := getR_term t1 behind 0 0 (by omega)
    rw [t2] at hg
    simp only [List.cons_append, getL, e, hm, hg]
    rw [if_neg (by omega), if_neg (by simp), if_neg (by simp; omega)]
    simp
    omega
theorem get_cut {k a n : Nat} (h1 : 1 ≤ k) (h8 : k ≤ 8) (ha : a < 256) (hn : n ≤ 268435456) (j : Nat) (hj : j < (putL k a n).length) : getL k ((putL k a n).take j) = (0, 0, 2) := by
  have hp := pow_le h1 h8
  have hlt := hiN_lt h1 h8 ha
  cases j with
  | zero => simp [getL]
  | succ j =>
    by_cases h : n < 2 ^ k - 1
    · rw [putL_small h] at hj
      simp at hj
    · rw [putL_great h] at hj ⊢
      have e := toNat_ofNat' hlt
      have hm := hiN_mod (a := a) h1 h8 (m := 2 ^ k - 1) (by omega)
      obtain ⟨t1, t2⟩ := tailF_term (f := 3) (r := n - (2 ^ k - 1)) (by simp; omega)
      have hl := tailF_len 3 (n - (2 ^ k - 1))
      have hg := getR_cut t1 0 0 j (by omega) (by simpa using hj)
      simp only [List.take_succ_cons, getL, e, hm, hg]
      rw [if_neg (by omega), if_pos (by simp)]

/-! ### Sizes -/
def tlen (r : Nat) : Nat := if r < 128 then 1 else if r < 16384 then 2 else if r < 2097152 then 3 else 4
theorem tailF_tlen (r : Nat) : (tailF 3 r).length = tlen r := by
  unfold tlen
  by_cases h1 : r < 128
  · rw [tailF_last _ h1, if_pos h1]; rfl
  · rw [if_neg h1, tailF_more 2 h1]
    by_cases h2 : r < 16384
    · rw [if_pos h2, tailF_last 2 (by omega)]; rfl
    · rw [if_neg h2, tailF_more 1 (by omega)]
      by_cases h3 : r < 2097152
      · rw [if_pos h3, tailF_last 1 (by omega)]; rfl
      · rw [if_neg h3, tailF_more 0 (by omega)]; rfl
def sizeN (k n : Nat) : Nat := if n < 2 ^ k - 1 then 1 else 1 + tlen (n - (2 ^ k - 1))
theorem putL_size (k a n : Nat) : (putL k a n).length = sizeN k n := by
  unfold putL sizeN
  split
  · rfl
  · rw [List.length_cons, tailF_tlen]; omega
theorem tlen_mono {r s : Nat} (h : r ≤ s) : tlen r ≤ tlen s := by unfold tlen; repeat (first | omega | split)
theorem tlen_one (r : Nat) : 1 ≤ tlen r ∧ tlen r ≤ 4 := by unfold tlen; repeat (first | omega | split)
theorem size_mono {k n m : Nat} (h : n ≤ m) : sizeN k n ≤ sizeN k m := by
  unfold sizeN
  have := tlen_mono (show n - (2 ^ k - 1) ≤ m - (2 ^ k - 1) by omega)
  have := tlen_one (m - (2 ^ k - 1))
  repeat (first | omega | split)
theorem size_less {k n : Nat} : sizeN (k + 1) n ≤ sizeN k n := by
  unfold sizeN
  have hp : 2 ^ (k + 1) = 2 ^ k * 2 := Nat.pow_succ ..
  have := tlen_mono (show n - (2 ^ (k + 1) - 1) ≤ n - (2 ^ k - 1) by omega)
  have := tlen_one (n - (2 ^ k - 1))
  have := tlen_one (n - (2 ^ (k + 1) - 1))
  repeat (first | omega | split)
theorem size_bd (k n : Nat) : 1 ≤ sizeN k n ∧ sizeN k n ≤ 5 := by
  unfold sizeN
  have := tlen_one (n - (2 ^ k - 1))
  repeat (first | omega | split)

/-! ### Bytes of noughts at the end -/
/-- The last byte goes on, and a nought stands behind it. -/
def nought : List UInt8 → List UInt8
  | [] => []
  | [b] => [UInt8.ofNat (b.toNat % 128 + 128), 0]
  | b :: c :: l => b :: nought (c :: l)
def noughts : Nat → List UInt8 → List UInt8
  | 0, l => l
  | n + 1, l => nought (noughts n l)
theorem nought_len {l : List UInt8} (h : l ≠ []) : (nought l).length = l.length + 1 := by
  induction l with
  | nil => exact absurd rfl h
  | cons b l ih =>
    cases l with
    | nil => rfl
    | cons c l => simp only [nought, List.length_cons, ih (by simp)]
theorem nought_ne {l : List UInt8} (h : l ≠ []) : nought l ≠ [] := by
  intro e
  have := nought_len h
  rw [e] at this
  simp at this
theorem nought_cons {b : UInt8} {l : List UInt8} (h : l ≠ []) : nought (b :: l) = b :: nought l := by
  cases l with
  | nil => exact absurd rfl h
  | cons c l => rfl
theorem nought_term {l : List UInt8} (h : term l) : term (nought l) ∧ valT (nought l) = valT l := by
  induction l with
  | nil => exact h.elim
  | cons b l ih =>
    unfold term at h
    by_cases hb : b.toNat < 128
    · rw [if_pos hb] at h
      subst h
      have e := toNat_ofNat' (show b.toNat % 128 + 128 < 256 by omega)
      simp only [nought, term, valT, e]
      exact ⟨by rw [if_neg (by omega)]; simp, by simp⟩
    · rw [if_neg hb] at h
      obtain ⟨i1, i2⟩ := ih h
      have hne : l ≠ [] := by rintro rfl; exact h.elim
      rw [nought_cons hne]
      simp only [term, valT, i2]
      exact ⟨by rw [if_neg hb]; exact i1, trivial⟩
theorem noughts_len {l : List UInt8} (h : l ≠ []) (n : Nat) : noughts n l ≠ [] ∧ (noughts n l).length = l.length + n := by
  induction n with
  | zero => exact ⟨h, rfl⟩
  | succ n ih => exact ⟨nought_ne ih.1, by rw [noughts, nought_len ih.1, ih.2]; omega⟩
theorem noughts_cons {b : UInt8} {l : List UInt8} (h : l ≠ []) (n : Nat) : noughts n (b :: l) = b :: noughts n l := by
  induction n with
  | zero => rfl
  | succ n ih => rw [noughts, ih, nought_cons (noughts_len h n).1]; rfl
theorem noughts_term {l : List UInt8} (h : term l) (n : Nat) : term (noughts n l) ∧ valT (noughts n l) = valT l := by
  induction n with
  | zero => exact ⟨h, rfl⟩
  | succ n ih =>
    obtain ⟨a, b⟩ := nought_term ih.1
    exact ⟨a, b.trans ih.2⟩
/-- A nought, by the last byte alone. -/
theorem nought_snoc (l : List UInt8) (b : UInt8) : nought (l ++ [b]) = l ++ [UInt8.ofNat (b.toNat % 128 + 128)] ++ [0] := by
  induction l with
  | nil => rfl
  | cons c l ih => rw [List.cons_append, nought_cons (by simp), ih]; rfl
theorem get_noughts {k n : Nat} (h1 : 1 ≤ k) (h8 : k ≤ 8) (hn : n ≤ 268435456) (h2 : 2 ≤ (putL k 0 n).length) (j : Nat) :
    getL k (noughts j (putL k 0 n)) = if 5 < (noughts j (putL k 0 n)).length then (0, 0, 4) else (n, (noughts j (putL k 0 n)).length, 0) := by
  have hp := pow_le h1 h8
  have hlt := hiN_lt (a := 0) h1 h8 (by omega)
  have h : ¬ n < 2 ^ k - 1 := fun h => by rw [putL_small h] at h2; simp at h2
  rw [putL_great h]
  have e := toNat_ofNat' hlt
  have hm := hiN_mod (a := 0) h1 h8 (m := 2 ^ k - 1) (by omega)
  obtain ⟨t1, t2⟩ := tailF_term (f := 3) (r := n - (2 ^ k - 1)) (by simp; omega)
  have hne : tailF 3 (n - (2 ^ k - 1)) ≠ [] := by intro h0; rw [h0] at t1; exact t1
  obtain ⟨u1, u2⟩ := noughts_term t1 j
  rw [t2] at u2
  rw [noughts_cons hne]
  simp only [getL, e, hm, List.length_cons]
  rw [if_neg (by omega)]
  by_cases h5 : 4 < (noughts j (tailF 3 (n - (2 ^ k - 1)))).length
  · rw [getR_over u1 0 0 (by omega) (by omega), if_pos (by simp), if_pos (by omega)]
  · have hg := getR_term u1 [] 0 0 (by omega)
    rw [List.append_nil, u2] at hg
    rw [hg, if_neg (by simp), if_neg (by simp; omega), if_neg (by omega)]
    simp
    omega
end Go.Proofs.Ytfajffchnnalaaa
