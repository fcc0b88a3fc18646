/-
  A block that is cut and gathered again: what the gatherer is, frame by frame; frames in a slice below a bound. No conditions but those that each theorem names.
-/
import Derived.Test.YtcbepicdnmnfaaaDoorYcut
namespace Go.Proofs.YtcbepicdnmnfaaaDoor
open Go.RowKit Go.WideShapes

/-- The gatherer ahead of frame number j. -/
def stJ (n : Nat) (b : List UInt8) (st : Nat) (en : Bool) (j : Nat) : Gm := if j = 0 then gm0 else ⟨true, st, b.take (j * n), en, j - 1, 0⟩
/-- The block, whole. -/
def stW (b : List UInt8) (st : Nat) (en : Bool) (K : Nat) : Gm := ⟨true, st, b, en, K, 0⟩
theorem stJ_succ (n : Nat) (b : List UInt8) (st : Nat) (en : Bool) (j : Nat) : stJ n b st en (j + 1) = ⟨true, st, b.take ((j + 1) * n), en, j, 0⟩ := if_neg (by omega)
theorem en_bit (en : Bool) (z : Nat) (hz : z = 0 ∨ z = 4) : decide (((if (0 : Nat) = 0 ∧ en = true then 1 else 0) + z) % 2 = 1) = en := by
  cases en <;> rcases hz with rfl | rfl <;> decide
theorem four_bit (j : Nat) (en : Bool) : ((if j = 0 ∧ en = true then 1 else 0) + 4) / 4 % 2 = 1 ∧ (if j = 0 ∧ en = true then 1 else 0) / 4 % 2 ≠ 1 := by
  by_cases h : j = 0 ∧ en = true
  · rw [if_pos h]; decide
  · rw [if_neg h]; decide
theorem go_few {n K : Nat} {b : List UInt8} (hn : 20 ≤ n) (hb : b.length ≤ 300) (hK : K * n ≤ b.length) : K ≤ 15 := by
  have h : K * 20 ≤ K * n := Nat.mul_le_mul_left K hn
  omega
theorem take_next (n : Nat) (b : List UInt8) (j : Nat) : b.take (j * n) ++ (b.drop (j * n)).take n = b.take ((j + 1) * n) := by rw [Nat.succ_mul, List.take_add]
theorem go_step {n : Nat} {b : List UInt8} {st : Nat} {en : Bool} {K j : Nat} (hn : 20 ≤ n) (hb : b.length ≤ 300) (hK : K * n ≤ b.length) (hj : j < K) :
    gtk (stJ n b st en j) (cuF n b st en K j).1 (cuF n b st en K j).2.1 (cuF n b st en K j).2.2.1 (cuF n b st en K j).2.2.2 = (stJ n b st en (j + 1), false, gm0) := by
  have h15 := go_few hn hb hK
  have hl : ∀ i, (b.take i).length ≤ 300 := fun i => by rw [List.length_take]; omega
  unfold cuF
  rw [if_neg (by omega)]
  unfold cuG
  by_cases h0 : j = 0
  · subst h0
    have hS : stJ n b st en 0 = gm0 := rfl
    rw [hS]
    show gtk gm0 (if (0 : Nat) = 0 then 1 else 9) (if (0 : Nat) = 0 ∧ en = true then 1 else 0) st ((b.drop (0 * n)).take n) = _
    rw [gtk_head (m := gm0) rfl rfl (if_pos rfl)]
    rw [stJ_succ]
    have hg : gbeg (if (0 : Nat) = 0 ∧ en = true then 1 else 0) st ((b.drop (0 * n)).take n) = ⟨true, st, b.take ((0 + 1) * n), en, 0, 0⟩ := by
      show (⟨true, st, _, decide ((if (0 : Nat) = 0 ∧ en = true then 1 else 0) % 2 = 1), 0, 0⟩ : Gm) = _
      rw [show decide ((if (0 : Nat) = 0 ∧ en = true then 1 else 0) % 2 = 1) = en from en_bit en 0 (.inl rfl), Nat.zero_mul, List.drop_zero, Nat.zero_add, Nat.one_mul]
    rw [hg]
    refine gfin_on ?_ (four_bit 0 en).2
    show ¬ (8192 < (b.take _).length ∨ 16 < 0)
    have := hl ((0 + 1) * n)
    omega
  · have hS : stJ n b st en j = ⟨true, st, b.take (j * n), en, j - 1, 0⟩ := if_neg h0
    rw [hS]
    simp only [if_neg h0]
    rw [gtk_more rfl rfl ⟨rfl, rfl⟩]
    rw [stJ_succ]
    have hg : gadd ⟨true, st, b.take (j * n), en, j - 1, 0⟩ ((b.drop (j * n)).take n) = ⟨true, st, b.take ((j + 1) * n), en, j, 0⟩ := by
      unfold gadd
      simp only [take_next]
      rw [show j - 1 + 1 = j by omega]
    rw [hg]
    refine gfin_on ?_ (four_bit j en).2
    show ¬ (8192 < (b.take _).length ∨ 16 < j)
    have := hl ((j + 1) * n)
    omega
theorem go_last {n : Nat} {b : List UInt8} {st : Nat} {en : Bool} {K : Nat} (hn : 20 ≤ n) (hb : b.length ≤ 300) (hK : K * n ≤ b.length) :
    gtk (stJ n b st en K) (cuF n b st en K K).1 (cuF n b st en K K).2.1 (cuF n b st en K K).2.2.1 (cuF n b st en K K).2.2.2 = (gm0, true, stW b st en K) := by
  have h15 := go_few hn hb hK
  unfold cuF
  rw [if_pos rfl]
  by_cases h0 : K = 0
  · subst h0
    have hS : stJ n b st en 0 = gm0 := rfl
    rw [hS]
    show gtk gm0 (if (0 : Nat) = 0 then 1 else 9) ((if (0 : Nat) = 0 ∧ en = true then 1 else 0) + 4) st (b.drop (0 * n)) = _
    rw [gtk_head (m := gm0) rfl rfl (if_pos rfl)]
    have hg : gbeg ((if (0 : Nat) = 0 ∧ en = true then 1 else 0) + 4) st (b.drop (0 * n)) = stW b st en 0 := by
      show (⟨true, st, _, decide (((if (0 : Nat) = 0 ∧ en = true then 1 else 0) + 4) % 2 = 1), 0, 0⟩ : Gm) = _
      rw [en_bit en 4 (.inr rfl), Nat.zero_mul, List.drop_zero]
      rfl
    rw [hg]
    refine gfin_end ?_ (four_bit 0 en).1
    show ¬ (8192 < b.length ∨ 16 < 0)
    omega
  · have hS : stJ n b st en K = ⟨true, st, b.take (K * n), en, K - 1, 0⟩ := if_neg h0
    rw [hS]
    simp only [if_neg h0]
    rw [gtk_more rfl rfl ⟨rfl, rfl⟩]
    have hg : gadd ⟨true, st, b.take (K * n), en, K - 1, 0⟩ (b.drop (K * n)) = stW b st en K := by
      unfold gadd stW
      simp only [List.take_append_drop]
      rw [show K - 1 + 1 = K by omega]
    rw [hg]
    refine gfin_end ?_ (four_bit K en).1
    show ¬ (8192 < b.length ∨ 16 < K)
    omega
/-- Frames in a slice, all of it between two bounds. -/
structure FrU (w : World) (base top : Nat) (v : Value) (E : List Be) : Prop where
  own : OwS w base 32 11 v E.length (enl bec E)
  hi : ∀ k, ob v k → k < top
  ins : ∀ e ∈ E, RdS w (fun k => base ≤ k ∧ k < top) e.x.dA (byc e.d)
  le : top ≤ w.heap.size
theorem FrL.up {w : World} {base : Nat} {v : Value} {E : List Be} (h : FrL w base v E) : FrU w base w.heap.size v E := ⟨h.own, fun k hk => (OwS.lt h.own k hk).2, fun e he => (h.ins e he).imp fun _ hk _ => ⟨hk.1, hk.2.1⟩, Nat.le_refl _⟩
theorem FrU.keep {w w' : World} {base top : Nat} {v : Value} {E : List Be} (h : FrU w base top v E) (hs : w.heap.size ≤ w'.heap.size) (hk : ∀ k, base ≤ k → k < top → w'.heap[k]? = w.heap[k]?) : FrU w' base top v E :=
  ⟨OwS.keep h.own fun k hk' => hk k (OwS.lt h.own k hk').1 (h.hi k hk'), h.hi, fun e he => (h.ins e he).keep fun k hk' => hk k hk'.1 hk'.2, Nat.le_trans h.le hs⟩
theorem FrU.below {w w' : World} {base top : Nat} {v : Value} {E : List Be} (h : FrU w base top v E) (hb : Below w.heap.size w w') : FrU w' base top v E := h.keep hb.size fun k _ hk => hb.block k (Nat.lt_of_lt_of_le hk h.le)
theorem FrU.fs {S : Nat → Prop} {w w' : World} {base top : Nat} {v : Value} {E : List Be} (h : FrU w base top v E) (hf : Fs S w w') (hS : ∀ k, base ≤ k → k < top → ¬ S k) : FrU w' base top v E := h.keep hf.size fun k h1 h2 => hf.block k (Nat.lt_of_lt_of_le h2 h.le) (hS k h1 h2)
/-- Frame number j. -/
theorem FrU.elem {w : World} {base top : Nat} {A : Option Addr} {n c : Nat} {E : List Be} (h : FrU w base top (.slice A n c) E) {j : Nat} (hj : j < E.length) : ∃ b q, A = some ⟨b, q, none⟩ ∧ w.rangeAt b (q + j * 11) E[j].x.c.toList := by
  obtain ⟨b, q, h1, _, h2⟩ := RdS.elem bec_len (OwS.reads h.own) hj (by omega)
  exact ⟨b, q, h1, h2⟩
end Go.Proofs.YtcbepicdnmnfaaaDoor
