/-
  The table of fields that came by, as a plain list, the oldest first; the document's, the newest first. No program; no conditions but those that each theorem names.
-/
import Derived.Test.YtfajffchnnalaaaStab
namespace Go.Proofs.Ytfajffchnnalaaa

/-- A field. -/
structure Fd where
  nm : List UInt8
  vl : List UInt8
  nv : Bool
def sz (f : Fd) : Nat := f.nm.length + f.vl.length + 32
def bare (f : Fd) : Fd := { f with nv := false }
def tot : List Fd → Nat
  | [] => 0
  | f :: r => sz f + tot r
/-- The oldest ones go, till the size is at most m. -/
def shr (m : Int) : List Fd → List Fd
  | [] => []
  | f :: r => if m < (tot (f :: r) : Int) then shr m r else f :: r
/-- With a field more. -/
def addL (M : Nat) (f : Fd) (L : List Fd) : List Fd := if M < sz f then shr ((M : Int) - (sz f : Int)) L else shr ((M : Int) - (sz f : Int)) L ++ [bare f]
/-- The document's: the newest first, as far as there is room. -/
def wit (m : Int) (n : Nat) : List Fd → List Fd
  | [] => []
  | f :: r => if m < ((n + sz f : Nat) : Int) then [] else f :: wit m (n + sz f) r

theorem tot_nil0 : tot [] = 0 := rfl
theorem shr_nil (m : Int) : shr m [] = [] := rfl
theorem sz_pos (f : Fd) : 32 ≤ sz f := by unfold sz; omega
theorem sz_bare (f : Fd) : sz (bare f) = sz f := rfl
theorem tot_append (A B : List Fd) : tot (A ++ B) = tot A + tot B := by
  induction A with
  | nil => simp [tot]
  | cons f A ih => simp only [List.cons_append, tot, ih]; omega
theorem tot_snoc (A : List Fd) (f : Fd) : tot (A ++ [f]) = tot A + sz f := by rw [tot_append]; simp [tot]
theorem tot_len (A : List Fd) : 32 * A.length ≤ tot A := by
  induction A with
  | nil => simp [tot]
  | cons f A ih => have := sz_pos f; simp only [tot, List.length_cons]; omega
theorem tot_reverse (A : List Fd) : tot A.reverse = tot A := by
  induction A with
  | nil => rfl
  | cons f A ih => rw [List.reverse_cons, tot_append, ih]; simp only [tot]; omega
theorem tot_nil {A : List Fd} : tot A = 0 ↔ A = [] := by
  constructor
  · intro h
    have := tot_len A
    exact List.eq_nil_of_length_eq_zero (by omega)
  · rintro rfl; rfl

theorem shr_le (m : Int) (h : 0 ≤ m) (L : List Fd) : (tot (shr m L) : Int) ≤ m := by
  induction L with
  | nil => simpa [shr, tot] using h
  | cons f r ih =>
    unfold shr
    split
    · exact ih
    · omega
theorem shr_neg (m : Int) (h : m < 0) (L : List Fd) : shr m L = [] := by
  induction L with
  | nil => rfl
  | cons f r ih =>
    unfold shr
    rw [if_pos (by omega), ih]
theorem shr_self {m : Int} {L : List Fd} (h : (tot L : Int) ≤ m) : shr m L = L := by
  cases L with
  | nil => rfl
  | cons f r => unfold shr; rw [if_neg (by omega)]
theorem shr_zero (L : List Fd) : shr 0 L = [] := by
  have := shr_le 0 (by omega) L
  exact tot_nil.1 (by omega)
theorem shr_suffix (m : Int) (L : List Fd) : shr m L <:+ L := by
  induction L with
  | nil => exact List.suffix_refl _
  | cons f r ih =>
    unfold shr
    split
    · exact ih.trans (List.suffix_cons f r)
    · exact List.suffix_refl _
/-- While the first k go. -/
theorem shr_drop {m : Int} {L : List Fd} {k : Nat} (hk : k < L.length) (h : m < (tot (L.drop k) : Int)) : shr m (L.drop k) = shr m (L.drop (k + 1)) := by
  rw [List.drop_eq_getElem_cons hk] at h ⊢
  conv => lhs; unfold shr
  rw [if_pos h]
theorem tot_drop {L : List Fd} {k : Nat} (hk : k < L.length) : tot (L.drop k) = sz L[k] + tot (L.drop (k + 1)) := by
  rw [List.drop_eq_getElem_cons hk]; rfl
/-- Every end of it that has room is an end of what stays. -/
theorem shr_most {m : Int} {A L : List Fd} (hA : A <:+ L) (h : (tot A : Int) ≤ m) : A <:+ shr m L := by
  induction L with
  | nil => exact hA
  | cons f r ih =>
    unfold shr
    split
    · rename_i h1
      rcases List.suffix_cons_iff.1 hA with e | h2
      · subst e; omega
      · exact ih h2
    · exact hA
theorem shr_grows {m m' : Int} {A L : List Fd} (hm : m ≤ m') (hA : A <:+ L) : shr m A <:+ shr m' L := by
  by_cases h0 : 0 ≤ m
  · exact shr_most ((shr_suffix m A).trans hA) (by have := shr_le m h0 A; omega)
  · rw [shr_neg m (by omega)]
    exact List.nil_suffix

theorem addL_le {M : Nat} {f : Fd} {L : List Fd} : tot (addL M f L) ≤ M := by
  unfold addL
  split
  · rename_i h
    rw [shr_neg _ (by omega)]
    simp [tot]
  · have := shr_le ((M : Int) - (sz f : Int)) (by omega) L
    rw [tot_append]
    simp only [tot, sz_bare]
    omega
theorem addL_suffix (M : Nat) (f : Fd) (L A : List Fd) (h : L <:+ A) : addL M f L <:+ A ++ [bare f] := by
  unfold addL
  split
  · rename_i h
    rw [shr_neg _ (by omega)]
    exact List.nil_suffix
  · obtain ⟨t, ht⟩ := (shr_suffix ((M : Int) - (sz f : Int)) L).trans h
    exact ⟨t, by rw [← List.append_assoc, ht]⟩
theorem addL_grows {M M' : Nat} (hM : M ≤ M') (f : Fd) {A L : List Fd} (h : A <:+ L) : addL M f A <:+ addL M' f L := by
  unfold addL
  by_cases h1 : M < sz f
  · rw [if_pos h1, shr_neg _ (by omega)]
    exact List.nil_suffix
  · rw [if_neg h1, if_neg (by omega)]
    obtain ⟨t, ht⟩ := shr_grows (m := (M : Int) - (sz f : Int)) (m' := (M' : Int) - (sz f : Int)) (by omega) h
    exact ⟨t, by rw [← List.append_assoc, ht]⟩

/-! ### The document's -/
theorem wit_nil (m : Int) (n : Nat) : wit m n [] = [] := rfl
theorem wit_no {m : Int} {n : Nat} {f : Fd} {r : List Fd} (h : m < ((n + sz f : Nat) : Int)) : wit m n (f :: r) = [] := by unfold wit; rw [if_pos h]
theorem wit_yes {m : Int} {n : Nat} {f : Fd} {r : List Fd} (h : ¬ m < ((n + sz f : Nat) : Int)) : wit m n (f :: r) = f :: wit m (n + sz f) r := if_neg h
theorem shr_gone {m : Int} {f : Fd} {r : List Fd} (h : m < ((sz f + tot r : Nat) : Int)) : shr m (f :: r) = shr m r := if_pos h
theorem shr_stays {m : Int} {f : Fd} {r : List Fd} (h : ¬ m < ((sz f + tot r : Nat) : Int)) : shr m (f :: r) = f :: r := if_neg h
theorem wit_snoc_no (m : Int) (f : Fd) (A : List Fd) : ∀ n, m < ((n + tot A + sz f : Nat) : Int) → wit m n (A ++ [f]) = wit m n A := by
  induction A with
  | nil =>
    intro n h
    rw [List.nil_append, wit_no (by simpa [tot] using h)]
    rfl
  | cons a A ih =>
    intro n h
    rw [List.cons_append]
    simp only [tot] at h
    by_cases h1 : m < ((n + sz a : Nat) : Int)
    · rw [wit_no h1, wit_no h1]
    · rw [wit_yes h1, wit_yes h1, ih _ (by omega)]
theorem wit_snoc_yes (m : Int) (f : Fd) (A : List Fd) : ∀ n, ¬ m < ((n + tot A + sz f : Nat) : Int) → wit m n (A ++ [f]) = A ++ [f] := by
  induction A with
  | nil =>
    intro n h
    rw [List.nil_append, wit_yes (by simpa [tot] using h)]
    rfl
  | cons a A ih =>
    intro n h
    simp only [tot] at h
    rw [List.cons_append, wit_yes (by omega), ih _ (by omega)]
/-- What stays is the same, from whichever end it is told. -/
theorem wit_shr (m : Int) (L : List Fd) : wit m 0 L.reverse = (shr m L).reverse := by
  induction L with
  | nil => rfl
  | cons f r ih =>
    rw [List.reverse_cons]
    by_cases h : m < ((sz f + tot r : Nat) : Int)
    · rw [wit_snoc_no _ _ _ _ (by rw [tot_reverse]; omega), shr_gone h, ih]
    · rw [wit_snoc_yes _ _ _ _ (by rw [tot_reverse]; omega), shr_stays h, List.reverse_cons]
theorem wit_prefix (m : Int) (A : List Fd) : ∀ n, wit m n A <+: A := by
  induction A with
  | nil => intro n; exact List.prefix_refl _
  | cons a A ih =>
    intro n
    unfold wit
    split
    · exact List.nil_prefix
    · exact List.prefix_cons_inj a |>.2 (ih _)
/-- A round of it. -/
theorem wit_more {m : Int} {R : List Fd} {k : Nat} (hk : k < R.length) (hw : wit m 0 R = R.take k ++ wit m (tot (R.take k)) (R.drop k)) (h : ¬ m < ((tot (R.take (k + 1)) : Nat) : Int)) :
    wit m 0 R = R.take (k + 1) ++ wit m (tot (R.take (k + 1))) (R.drop (k + 1)) := by
  have e : R.take (k + 1) = R.take k ++ [R[k]] := List.take_succ_eq_append_getElem hk
  have e2 : tot (R.take (k + 1)) = tot (R.take k) + sz R[k] := by rw [e, tot_append]; simp [tot]
  rw [hw, List.drop_eq_getElem_cons hk]
  rw [wit_yes (by rw [e2] at h; exact h), e2, e, List.append_assoc]
  rfl
theorem wit_stop {m : Int} {R : List Fd} {k : Nat} (hk : k < R.length) (hw : wit m 0 R = R.take k ++ wit m (tot (R.take k)) (R.drop k)) (h : m < ((tot (R.take k) + sz R[k] : Nat) : Int)) :
    wit m 0 R = R.take k := by
  rw [hw, List.drop_eq_getElem_cons hk]
  rw [wit_no h, List.append_nil]
theorem tot_take {R : List Fd} {k : Nat} (hk : k < R.length) : tot (R.take (k + 1)) = tot (R.take k) + sz R[k] := by
  rw [List.take_succ_eq_append_getElem hk, tot_append]; simp [tot]
theorem tot_take_le (R : List Fd) (k : Nat) : tot (R.take k) ≤ tot R := by
  conv => rhs; rw [← List.take_append_drop k R, tot_append]
  omega
theorem tot_drop_le (R : List Fd) (k : Nat) : tot (R.drop k) ≤ tot R := by
  conv => rhs; rw [← List.take_append_drop k R, tot_append]
  omega

/-- The document's, with a field more. -/
def raddL (M : Nat) (f : Fd) (R : List Fd) : List Fd := if M < sz f then wit ((M : Int) - (sz f : Int)) 0 R else bare f :: wit ((M : Int) - (sz f : Int)) 0 R
theorem raddL_reverse (M : Nat) (f : Fd) (L : List Fd) : raddL M f L.reverse = (addL M f L).reverse := by
  unfold raddL addL
  by_cases h : M < sz f
  · rw [if_pos h, if_pos h, wit_shr]
  · rw [if_neg h, if_neg h, wit_shr, List.reverse_append]; rfl
theorem wit_tot (m : Int) (R : List Fd) : tot (wit m 0 R) ≤ tot R := by
  obtain ⟨t, ht⟩ := wit_prefix m R 0
  have := tot_append (wit m 0 R) t
  rw [ht] at this
  omega

/-! ### A row of fields added -/
def addsL (M : Nat) (L : List Fd) : List Fd := L.foldl (fun T f => addL M f T) []
theorem adds_nil (M : Nat) : addsL M [] = [] := rfl
theorem adds_snoc (M : Nat) (L : List Fd) (f : Fd) : addsL M (L ++ [f]) = addL M f (addsL M L) := by unfold addsL; rw [List.foldl_append]; rfl
theorem adds_take {M : Nat} {L : List Fd} {k : Nat} (hk : k < L.length) : addsL M (L.take (k + 1)) = addL M L[k] (addsL M (L.take k)) := by
  rw [List.take_succ_eq_append_getElem hk, adds_snoc]
theorem adds_le (M : Nat) (L : List Fd) : tot (addsL M L) ≤ M := by
  rcases List.eq_nil_or_concat L with rfl | ⟨A, f, rfl⟩
  · simp [adds_nil, tot]
  · rw [List.concat_eq_append, adds_snoc]; exact addL_le
theorem adds_suffix (M : Nat) (L : List Fd) : addsL M L <:+ L.map bare := by
  suffices h : ∀ k, k ≤ L.length → addsL M (L.take k) <:+ (L.take k).map bare by
    have := h L.length (Nat.le_refl _)
    rwa [List.take_of_length_le (Nat.le_refl _)] at this
  intro k
  induction k with
  | zero => intro _; simp [adds_nil]
  | succ k ih =>
    intro hk
    have h1 := ih (by omega)
    have h2 := addL_suffix M L[k] (addsL M (L.take k)) _ h1
    rw [adds_take (by omega), List.take_succ_eq_append_getElem (by omega), List.map_append]
    exact h2
theorem adds_sz {M B : Nat} {L : List Fd} (h : ∀ f ∈ L, sz f ≤ B) : ∀ f ∈ addsL M L, sz f ≤ B := by
  intro f hf
  have := (adds_suffix M L).subset hf
  obtain ⟨g, hg, rfl⟩ := List.mem_map.1 this
  exact h g hg
theorem adds_len (M : Nat) (L : List Fd) : (addsL M L).length ≤ L.length := by
  have := (adds_suffix M L).length_le
  simpa using this
theorem suffix_last {α : Type} {A B : List α} (h : A <:+ B) {i : Nat} (hi : i < A.length) (hb : B.length - 1 - i < B.length) : A[A.length - 1 - i]'(by omega) = B[B.length - 1 - i]'hb := by
  obtain ⟨t, rfl⟩ := h
  rw [List.getElem_append_right (by simp; omega)]
  congr 1
  simp
  omega
theorem adds_last {M : Nat} {L : List Fd} {i : Nat} (hi : i < (addsL M L).length) (hb : L.length - 1 - i < L.length) : (addsL M L)[(addsL M L).length - 1 - i]'(by omega) = bare (L[L.length - 1 - i]'hb) := by
  rw [suffix_last (adds_suffix M L) hi (by simpa using hb)]
  simp
theorem adds_grows {M M' : Nat} (hM : M ≤ M') (L : List Fd) : addsL M L <:+ addsL M' L := by
  suffices h : ∀ k, k ≤ L.length → addsL M (L.take k) <:+ addsL M' (L.take k) by
    have := h L.length (Nat.le_refl _)
    rwa [List.take_of_length_le (Nat.le_refl _)] at this
  intro k
  induction k with
  | zero => intro _; simp [adds_nil]
  | succ k ih =>
    intro hk
    rw [adds_take (by omega), adds_take (by omega)]
    exact addL_grows hM _ (ih (by omega))

/-! ### Which number a field has -/
/-- The fields of the table, the newest first: has number j this name? and this value? -/
def isNT (a : List UInt8) (R : List Fd) (j : Nat) : Bool := match R[j]? with
  | some f => decide (f.nm = a)
  | none => false
def isBT (a b : List UInt8) (R : List Fd) (j : Nat) : Bool := match R[j]? with
  | some f => decide (f.nm = a) && decide (f.vl = b)
  | none => false
def numT (a b : List UInt8) (R : List Fd) : Nat :=
  if fndB a b then fndN a b
  else if first (isBT a b R) R.length ≠ 0 then 61 + first (isBT a b R) R.length
  else if fndN a b ≠ 0 then fndN a b
  else if first (isNT a R) R.length ≠ 0 then 61 + first (isNT a R) R.length else 0
def hasT (a b : List UInt8) (R : List Fd) : Bool := fndB a b || decide (first (isBT a b R) R.length ≠ 0)
theorem isNT_at {a : List UInt8} {R : List Fd} {j : Nat} (h : j < R.length) : isNT a R j = decide (R[j].nm = a) := by
  unfold isNT; rw [List.getElem?_eq_getElem h]
theorem isBT_at {a b : List UInt8} {R : List Fd} {j : Nat} (h : j < R.length) : isBT a b R j = (decide (R[j].nm = a) && decide (R[j].vl = b)) := by
  unfold isBT; rw [List.getElem?_eq_getElem h]
theorem num_known {a b : List UInt8} {R : List Fd} (h : fndB a b = true) : numT a b R = fndN a b ∧ hasT a b R = true := by
  unfold numT hasT; simp [h]
theorem num_hit {a b : List UInt8} {R : List Fd} {k : Nat} (h : fndB a b = false) (hk : k < R.length) (h0 : first (isBT a b R) k = 0) (h1 : isBT a b R k = true) : numT a b R = 62 + k ∧ hasT a b R = true := by
  have h2 := first_hit h0 h1
  have h3 := first_more (p := isBT a b R) (k := k + 1) (m := R.length) (by omega) (by omega)
  rw [h2] at h3
  unfold numT hasT
  rw [h, h3]
  simp
  omega
theorem num_named {a b : List UInt8} {R : List Fd} (h : fndB a b = false) (h0 : first (isBT a b R) R.length = 0) :
    numT a b R = (if fndN a b ≠ 0 then fndN a b else if first (isNT a R) R.length ≠ 0 then 61 + first (isNT a R) R.length else 0) ∧ hasT a b R = false := by
  unfold numT hasT
  rw [h, h0]
  simp
end Go.Proofs.Ytfajffchnnalaaa
