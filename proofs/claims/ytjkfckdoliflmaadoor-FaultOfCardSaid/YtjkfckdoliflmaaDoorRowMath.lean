/-
  Plain facts on which of two faults weighs more: of a row of faults the best one is the same from both ends, where there is one.
-/
import Derived.Test.YtjkfckdoliflmaaDoorWorse
namespace Go.Proofs.YtjkfckdoliflmaaDoor

/-- The one that weighs more. -/
def wz (a b : Int × Int) : Int × Int := if takesB (sc a.1) (sc b.1) a.2 b.2 then b else a
def isF (a : Int × Int) : Prop := 1 ≤ a.1 ∧ a.1 ≤ 3
def lq (a b : Int × Int) : Prop := a.1 < b.1 ∨ (a.1 = b.1 ∧ a.2 ≤ b.2)

theorem takesB_iff {x y c d : Int} : takesB x y c d = true ↔ ((x = y ∧ d < c) ∨ (x ≠ y ∧ (x = 0 ∨ (y ≠ 0 ∧ y < x)))) := by
  unfold takesB; simp
theorem sc_yes {a : Int × Int} (h : isF a) : sc a.1 = a.1 := sc_le h.2
theorem sc_no {a : Int × Int} (h0 : 0 ≤ a.1) (h : ¬ isF a) : sc a.1 = 0 := by
  unfold isF at h; unfold sc; split <;> omega

theorem wz_or (a b : Int × Int) : wz a b = a ∨ wz a b = b := by unfold wz; split <;> simp
theorem wz_nonneg {a b : Int × Int} (ha : 0 ≤ a.1) (hb : 0 ≤ b.1) : 0 ≤ (wz a b).1 := by rcases wz_or a b with h | h <;> rw [h] <;> assumption

theorem wz_right {a b : Int × Int} (ha : 0 ≤ a.1) (hF : isF b) : isF (wz a b) ∧ lq (wz a b) b := by
  have hb := sc_yes hF
  by_cases hA : isF a
  · have hsa := sc_yes hA
    unfold wz
    by_cases ht : takesB (sc a.1) (sc b.1) a.2 b.2 = true
    · rw [if_pos ht]; exact ⟨hF, .inr ⟨rfl, Int.le_refl _⟩⟩
    · rw [if_neg ht]
      rw [takesB_iff, hb, hsa] at ht
      refine ⟨hA, ?_⟩
      unfold isF at hA hF
      unfold lq
      omega
  · have hsa := sc_no ha hA
    have ht : takesB (sc a.1) (sc b.1) a.2 b.2 = true := by
      rw [takesB_iff, hb, hsa]; unfold isF at hF; omega
    unfold wz; rw [if_pos ht]; exact ⟨hF, .inr ⟨rfl, Int.le_refl _⟩⟩

theorem wz_left {a b : Int × Int} (hb0 : 0 ≤ b.1) (hA : isF a) : isF (wz a b) ∧ lq (wz a b) a := by
  have hsa := sc_yes hA
  unfold wz
  by_cases ht : takesB (sc a.1) (sc b.1) a.2 b.2 = true
  · rw [if_pos ht]
    by_cases hF : isF b
    · have hb := sc_yes hF
      rw [takesB_iff, hb, hsa] at ht
      refine ⟨hF, ?_⟩
      unfold isF at hA hF
      unfold lq
      omega
    · have hb := sc_no hb0 hF
      rw [takesB_iff, hb, hsa] at ht
      unfold isF at hA
      omega
  · rw [if_neg ht]; exact ⟨hA, .inr ⟨rfl, Int.le_refl _⟩⟩

theorem lq_trans {a b c : Int × Int} (h : lq a b) (k : lq b c) : lq a c := by unfold lq at *; omega
theorem lq_antisymm {a b : Int × Int} (h : lq a b) (k : lq b a) : a = b := by
  obtain ⟨a1, a2⟩ := a
  obtain ⟨b1, b2⟩ := b
  unfold lq at *
  simp only [Prod.mk.injEq] at *
  omega
theorem keeps {a b : Int × Int} (hA : isF a) (hB : isF b) (h : lq a b) : takesB (sc a.1) (sc b.1) a.2 b.2 = false := by
  rw [Bool.eq_false_iff]
  intro ht
  rw [takesB_iff, sc_yes hA, sc_yes hB] at ht
  unfold isF at hA hB
  unfold lq at h
  omega

/-- a is best of the faults F i, i of p. -/
def Best (F : Nat → Int × Int) (p : Nat → Prop) (a : Int × Int) : Prop :=
  (∀ i, p i → isF (F i) → isF a ∧ lq a (F i)) ∧ (isF a → ∃ i, p i ∧ F i = a) ∧ 0 ≤ a.1

theorem Best.start (F : Nat → Int × Int) (p : Nat → Prop) (hp : ∀ i, ¬ p i) : Best F p (0, 0) :=
  ⟨fun i h => absurd h (hp i), fun h => by unfold isF at h; simp at h, by simp⟩

theorem Best.right {F : Nat → Int × Int} {p q : Nat → Prop} {a : Int × Int} (h : Best F p a) (k : Nat) (hq : ∀ i, q i ↔ (p i ∨ i = k)) (hk : 0 ≤ (F k).1) : Best F q (wz a (F k)) := by
  obtain ⟨h1, h2, h3⟩ := h
  refine ⟨fun i hi hF => ?_, fun hw => ?_, wz_nonneg h3 hk⟩
  · rcases (hq i).1 hi with hp | rfl
    · have ha := h1 i hp hF
      have := wz_left (b := F k) hk ha.1
      exact ⟨this.1, lq_trans this.2 ha.2⟩
    · exact wz_right h3 hF
  · rcases wz_or a (F k) with e | e
    · rw [e] at hw ⊢
      obtain ⟨i, hp, hi⟩ := h2 hw
      exact ⟨i, (hq i).2 (.inl hp), hi⟩
    · exact ⟨k, (hq k).2 (.inr rfl), e.symm⟩

theorem Best.left {F : Nat → Int × Int} {p q : Nat → Prop} {a : Int × Int} (h : Best F p a) (k : Nat) (hq : ∀ i, q i ↔ (p i ∨ i = k)) (hk : 0 ≤ (F k).1) : Best F q (wz (F k) a) := by
  obtain ⟨h1, h2, h3⟩ := h
  refine ⟨fun i hi hF => ?_, fun hw => ?_, wz_nonneg hk h3⟩
  · rcases (hq i).1 hi with hp | rfl
    · have ha := h1 i hp hF
      have := wz_right (a := F k) hk ha.1
      exact ⟨this.1, lq_trans this.2 ha.2⟩
    · exact wz_left h3 hF
  · rcases wz_or (F k) a with e | e
    · exact ⟨k, (hq k).2 (.inr rfl), e.symm⟩
    · rw [e] at hw ⊢
      obtain ⟨i, hp, hi⟩ := h2 hw
      exact ⟨i, (hq i).2 (.inl hp), hi⟩

theorem Best.same {F : Nat → Int × Int} {p : Nat → Prop} {a b : Int × Int} (ha : Best F p a) (hb : Best F p b) : a = b ∨ (¬ isF a ∧ ¬ isF b) := by
  by_cases hA : isF a
  · left
    obtain ⟨i, hi, e⟩ := ha.2.1 hA
    have h1 := hb.1 i hi (by rw [e]; exact hA)
    obtain ⟨j, hj, e2⟩ := hb.2.1 h1.1
    have h2 := ha.1 j hj (by rw [e2]; exact h1.1)
    rw [e] at h1
    rw [e2] at h2
    exact lq_antisymm h2.2 h1.2
  · right
    refine ⟨hA, fun hB => ?_⟩
    obtain ⟨j, hj, e2⟩ := hb.2.1 hB
    exact hA (ha.1 j hj (by rw [e2]; exact hB)).1

/-- The loops' two: from the row's beginning on, and from its end on. -/
def fromL (F : Nat → Int × Int) : Nat → Int × Int
  | 0 => (0, 0)
  | k + 1 => wz (fromL F k) (F k)
def fromR (F : Nat → Int × Int) (n : Nat) : Nat → Int × Int
  | 0 => (0, 0)
  | k + 1 => wz (F (n - 1 - k)) (fromR F n k)
theorem fromL_best {F : Nat → Int × Int} {n : Nat} (hF : ∀ i, i < n → 0 ≤ (F i).1) : ∀ k, k ≤ n → Best F (· < k) (fromL F k)
  | 0, _ => Best.start _ _ (fun i => Nat.not_lt_zero i)
  | k + 1, h => (fromL_best hF k (by omega)).right k (fun i => by omega) (hF k (by omega))
theorem fromR_best {F : Nat → Int × Int} {n : Nat} (hF : ∀ i, i < n → 0 ≤ (F i).1) : ∀ k, k ≤ n → Best F (fun i => n - k ≤ i ∧ i < n) (fromR F n k)
  | 0, _ => Best.start _ _ (fun i => by omega)
  | k + 1, h => (fromR_best hF k (by omega)).left (n - 1 - k) (fun i => by omega) (hF _ (by omega))
theorem row_same {F : Nat → Int × Int} {n : Nat} (hF : ∀ i, i < n → 0 ≤ (F i).1) : fromL F n = fromR F n n ∨ (¬ isF (fromL F n) ∧ ¬ isF (fromR F n n)) := by
  have h2 := fromR_best hF n (Nat.le_refl _)
  have h3 : Best F (· < n) (fromR F n n) := ⟨fun i hi => h2.1 i ⟨by omega, hi⟩, fun h => (by obtain ⟨i, hi, e⟩ := h2.2.1 h; exact ⟨i, hi.2, e⟩), h2.2.2⟩
  exact (fromL_best hF n (Nat.le_refl _)).same h3
theorem row_keeps {F : Nat → Int × Int} {n : Nat} (hF : ∀ i, i < n → 0 ≤ (F i).1) {k : Nat} (hk : k < n) (h : isF (F k)) : takesB (sc (fromL F n).1) (sc (F k).1) (fromL F n).2 (F k).2 = false := by
  have h1 := (fromL_best hF n (Nat.le_refl _)).1 k hk h
  exact keeps h1.1 h h1.2
end Go.Proofs.YtjkfckdoliflmaaDoor
