/-
  A ring of streams as functions of lists: in the ring's order, and from its turn on. No program; no conditions but those that each theorem names.
-/
import Derived.Test.YtplohgaecoobaaaUm
namespace Go.Proofs.Ytplohgaecoobaaa

/-- From the turn on. -/
def rot (l : List Sn) (t : Nat) : List Sn := l.drop t ++ l.take t
theorem rot_len (l : List Sn) (t : Nat) : (rot l t).length = l.length := by
  simp only [rot, List.length_append, List.length_drop, List.length_take]
  omega
theorem rot_at (l : List Sn) {t : Nat} (ht : t ≤ l.length) (j : Nat) : (rot l t)[j]? = if j < l.length - t then l[t + j]? else if j < l.length then l[j - (l.length - t)]? else none := by
  unfold rot
  rw [List.getElem?_append]
  simp only [List.length_drop, List.getElem?_drop, List.getElem?_take]
  split
  · rfl
  · split
    · rw [if_pos (by omega)]
    · rw [if_neg (by omega)]
/-- The turn, some places on. -/
theorem rot_rot (l : List Sn) {t M : Nat} (ht : t < l.length) (hM : M < l.length) : (rot l t).drop M ++ (rot l t).take M = rot l ((t + M) % l.length) := by
  have hmod : (t + M) % l.length = if t + M < l.length then t + M else t + M - l.length := by
    split
    · rw [Nat.mod_eq_of_lt (by omega)]
    · rw [Nat.mod_eq_sub_mod (by omega), Nat.mod_eq_of_lt (by omega)]
  rw [hmod]
  unfold rot
  split
  · rename_i h
    rw [List.drop_append_of_le_length (by simp; omega), List.take_append_of_le_length (by simp; omega), List.drop_drop, List.append_assoc, ← List.take_add]
  · rename_i h
    have h1 : (l.drop t).length = l.length - t := by simp
    rw [List.drop_append, List.take_append, h1, List.drop_of_length_le (by omega), List.take_of_length_le (by omega : (l.drop t).length ≤ M), List.nil_append, List.drop_take, List.take_take]
    have e1 : t - (M - (l.length - t)) = l.length - M := by omega
    have e2 : M - (l.length - t) = t + M - l.length := by omega
    have e3 : min (M - (l.length - t)) t = t + M - l.length := by omega
    rw [e1, e3, e2, ← List.append_assoc]
    congr 1
    have e4 : l.drop (t + M - l.length) = (l.drop (t + M - l.length)).take (l.length - M) ++ (l.drop (t + M - l.length)).drop (l.length - M) := (List.take_append_drop _ _).symm
    conv => rhs; rw [e4, List.drop_drop]
    congr 2
    omega
/-- Each number once. -/
def Uniq (l : List Sn) : Prop := ∀ (i j : Nat) (x y : Sn), l[i]? = some x → l[j]? = some y → x.st = y.st → i = j
theorem fd_iff {s : Nat} {l : List Sn} (hu : Uniq l) {k : Nat} {x : Sn} (hk : l[k]? = some x) (hs : x.st = s) : fd s l = k := by
  obtain ⟨hkl, hx⟩ := List.getElem?_eq_some_iff.1 hk
  have hlt : fd s l < l.length := by
    rcases Nat.lt_or_ge (fd s l) l.length with h | h
    · exact h
    · exfalso
      have h1 := fd_le s l
      have h2 : k ≤ fd s l := by omega
      have := fd_hit hkl h2 (by rw [hx]; exact hs)
      omega
  exact hu _ _ _ _ (List.getElem?_eq_getElem hlt) hk (by rw [fd_at hlt, hs])
theorem fd_none {s : Nat} {l : List Sn} (h : ∀ x ∈ l, x.st ≠ s) : fd s l = l.length := by
  rcases Nat.lt_or_ge (fd s l) l.length with h1 | h1
  · exact absurd (fd_at h1) (h _ (List.getElem_mem h1))
  · have := fd_le s l
    omega
/-- The place, from the turn on, of a place of the ring. -/
def rp (n t k : Nat) : Nat := if t ≤ k then k - t else n - t + k
theorem rp_lt {n t k : Nat} (ht : t < n) (hk : k < n) : rp n t k < n := by unfold rp; split <;> omega
theorem rot_rp {l : List Sn} {t k : Nat} (ht : t < l.length) (hk : k < l.length) : (rot l t)[rp l.length t k]? = l[k]? := by
  rw [rot_at l (Nat.le_of_lt ht)]
  unfold rp
  by_cases h : t ≤ k
  · rw [if_pos h, if_pos (by omega)]
    congr 1
    omega
  · rw [if_neg h, if_neg (by omega), if_pos (by omega)]
    congr 1
    omega
theorem rp_inv {n t j : Nat} (ht : t < n) (hj : j < n) : ∃ k, k < n ∧ rp n t k = j ∧ k = (t + j) % n := by
  by_cases h : t + j < n
  · refine ⟨t + j, h, by unfold rp; rw [if_pos (by omega)]; omega, (Nat.mod_eq_of_lt h).symm⟩
  · refine ⟨t + j - n, by omega, by unfold rp; rw [if_neg (by omega)]; omega, ?_⟩
    rw [Nat.mod_eq_sub_mod (by omega), Nat.mod_eq_of_lt (by omega)]
theorem rp_inj {n t k k' : Nat} (ht : t < n) (hk : k < n) (hk' : k' < n) (h : rp n t k = rp n t k') : k = k' := by
  unfold rp at h
  split at h <;> split at h <;> omega
theorem rot_mem {l : List Sn} {t : Nat} {x : Sn} : x ∈ rot l t ↔ x ∈ l := by
  unfold rot
  rw [List.mem_append]
  constructor
  · rintro (h | h)
    · exact List.mem_of_mem_drop h
    · exact List.mem_of_mem_take h
  · intro h
    rw [← List.take_append_drop t l, List.mem_append] at h
    exact h.symm
theorem Uniq.rot {l : List Sn} (hu : Uniq l) {t : Nat} (ht : t < l.length) : Uniq (rot l t) := by
  intro i j x y hi hj hs
  have hil : i < l.length := by rw [← rot_len l t]; exact (List.getElem?_eq_some_iff.1 hi).1
  have hjl : j < l.length := by rw [← rot_len l t]; exact (List.getElem?_eq_some_iff.1 hj).1
  obtain ⟨k, hk, rfl, _⟩ := rp_inv ht hil
  obtain ⟨k', hk', rfl, _⟩ := rp_inv ht hjl
  rw [rot_rp ht hk] at hi
  rw [rot_rp ht hk'] at hj
  rw [hu _ _ _ _ hi hj hs]
/-- A stream's place from the turn on. -/
theorem fd_rot {l : List Sn} (hu : Uniq l) {t s : Nat} (ht : t < l.length) (h : fd s l < l.length) : fd s (rot l t) = rp l.length t (fd s l) := by
  refine fd_iff (hu.rot ht) (x := l[fd s l]) ?_ (fd_at h)
  rw [rot_rp ht h]
  exact List.getElem?_eq_getElem h
theorem fd_rot_no {l : List Sn} {t s : Nat} (h : ¬ fd s l < l.length) : ¬ fd s (rot l t) < (rot l t).length := fun h1 => by
  have h2 := fd_at h1
  have hm := rot_mem.1 (List.getElem_mem h1)
  obtain ⟨i, hi, hx⟩ := List.getElem_of_mem hm
  have h3 : fd s l < l.length := by
    rcases Nat.lt_or_ge (fd s l) l.length with h | h4
    · exact h
    · have h5 := fd_hit (s := s) hi (by have := fd_le s l; omega) (by rw [hx]; exact h2)
      omega
  exact h h3
theorem rot_set {l : List Sn} {t k : Nat} (ht : t < l.length) (hk : k < l.length) (y : Sn) : (rot l t).set (rp l.length t k) y = rot (l.set k y) t := by
  apply List.ext_getElem?
  intro j
  have hl : (l.set k y).length = l.length := List.length_set
  by_cases hj : j < l.length
  · obtain ⟨i, hi, rfl, _⟩ := rp_inv ht hj
    have h1 := rot_rp (l := l.set k y) (t := t) (k := i) (by rw [hl]; exact ht) (by rw [hl]; exact hi)
    rw [hl] at h1
    rw [h1, List.getElem?_set, List.getElem?_set, rot_rp ht hi, rot_len]
    by_cases he : k = i
    · subst he
      rw [if_pos rfl, if_pos rfl, if_pos (rp_lt ht hi), if_pos hi]
    · rw [if_neg (fun h => he (rp_inj ht hk hi h)), if_neg he]
  · rw [List.getElem?_eq_none (by rw [List.length_set, rot_len]; omega), List.getElem?_eq_none (by rw [rot_len, hl]; omega)]
end Go.Proofs.Ytplohgaecoobaaa
