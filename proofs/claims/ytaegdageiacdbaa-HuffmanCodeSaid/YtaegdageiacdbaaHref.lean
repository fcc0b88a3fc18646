/-
  Bits as texts of 0 and 1, as the document's answers have them, and one more than a row of bits. No conditions but those that each theorem names; no program.
-/
import Derived.Test.YtaegdageiacdbaaHmath
import Derived.WalkKit
namespace Go.Proofs.Ytaegdageiacdbaa
open Go.RowKit

def chr (b : Bool) : UInt8 := if b then 49 else 48
/-- A row of bits, as a text. -/
def bs (l : List Bool) : ByteArray := ⟨(l.map chr).toArray⟩
theorem bs_size (l : List Bool) : (bs l).size = l.length := by simp [bs, ByteArray.size]
theorem bs_nil : bs [] = ⟨#[]⟩ := rfl
theorem bs_list (l : List Bool) : (bs l).toList = l.map chr := by unfold bs; rw [ByteArray.toList_mk]
theorem bs_append (a b : List Bool) : bs a ++ bs b = bs (a ++ b) := by
  unfold bs
  rw [ByteArray.mk_append_mk, List.map_append]
theorem chr_inj {a b : Bool} (h : chr a = chr b) : a = b := by revert h; cases a <;> cases b <;> decide
theorem bs_inj {a b : List Bool} (h : bs a = bs b) : a = b := by
  have h1 := congrArg ByteArray.toList h
  rw [bs_list, bs_list] at h1
  exact (List.map_inj_right (fun _ _ => chr_inj)).1 h1
theorem bs_extract (l : List Bool) (i j : Nat) : (bs l).extract i j = bs ((l.drop i).take (j - i)) := by
  unfold bs
  rw [ByteArray.extract_mk, List.map_take, List.map_drop]
theorem bs_at (l : List Bool) {i : Nat} (h : i < (bs l).size) : (bs l)[i] = chr (l[i]'(by rw [bs_size] at h; exact h)) := by
  simp [bs, ByteArray.getElem_eq_getElem_data]
theorem bs_beq (a b : List Bool) : ((bs a).toList == (bs b).toList) = decide (a = b) := by
  rw [bs_list, bs_list, Bool.eq_iff_iff]
  simp only [beq_iff_eq, decide_eq_true_eq]
  exact List.map_inj_right (fun _ _ => chr_inj)

/-- One more than a row of bits; and whether it went round. -/
def inc : List Bool → List Bool × Bool
  | [] => ([], true)
  | b :: l => if (inc l).2 then (if b then (false :: (inc l).1, true) else (true :: (inc l).1, false)) else (b :: (inc l).1, false)
theorem inc_len (l : List Bool) : (inc l).1.length = l.length := by
  induction l with
  | nil => rfl
  | cons b l ih =>
    unfold inc
    split
    · split <;> simp [ih]
    · simp [ih]
theorem inc_val (l : List Bool) : val (inc l).1 + (inc l).2.toNat * 2 ^ l.length = val l + 1 := by
  induction l with
  | nil => rfl
  | cons b l ih =>
    unfold inc
    rw [val_cons]
    split
    · rename_i h
      rw [h] at ih
      split
      · rename_i hb
        subst hb
        simp only [val_cons, inc_len, List.length_cons, Nat.pow_succ, Bool.toNat_false, Bool.toNat_true, Nat.zero_mul, Nat.one_mul, Nat.zero_add] at ih ⊢
        omega
      · rename_i hb
        have hb' : b = false := by simpa using hb
        subst hb'
        simp only [val_cons, inc_len, List.length_cons, Nat.pow_succ, Bool.toNat_false, Bool.toNat_true, Nat.zero_mul, Nat.one_mul, Nat.zero_add, Nat.add_zero] at ih ⊢
        omega
    · rename_i h
      have h' : (inc l).2 = false := by simpa using h
      rw [h'] at ih
      simp only [val_cons, inc_len, Bool.toNat_false, Nat.zero_mul, Nat.add_zero] at ih ⊢
      omega
theorem inc_one {l : List Bool} (h : val l + 1 < 2 ^ l.length) : val (inc l).1 = val l + 1 := by
  have h1 := inc_val l
  cases h2 : (inc l).2 with
  | false => rw [h2] at h1; simpa using h1
  | true =>
    rw [h2] at h1
    have h3 := val_lt (inc l).1
    simp at h1
    omega

/-- How the codes grow: what the last one was, ahead of sign i among those of n bits. -/
def Grow (n i : Nat) (last : List Bool) : Prop :=
  (last = [] ∧ fst n + (lens.take i).count n = 0) ∨ (last ≠ [] ∧ last.length ≤ n ∧ (val last + 1) * 2 ^ (n - last.length) = fst n + (lens.take i).count n)
theorem grow_start : Grow 1 0 [] := .inl ⟨rfl, by decide +kernel⟩
theorem grow_row {n : Nat} {last : List Bool} (h : Grow n 257 last) : Grow (n + 1) 0 last := by
  have hf : fst (n + 1) = (fst n + lens.count n) * 2 := rfl
  unfold Grow at h ⊢
  rw [cnt_all] at h
  rw [List.take_zero, List.count_nil, hf]
  rcases h with ⟨h1, h2⟩ | ⟨h1, h2, h3⟩
  · exact .inl ⟨h1, by omega⟩
  · refine .inr ⟨h1, by omega, ?_⟩
    rw [show n + 1 - last.length = (n - last.length) + 1 by omega, Nat.pow_succ, ← Nat.mul_assoc, h3]
    omega
theorem grow_pass {n i : Nat} {last : List Bool} (h : Grow n i last) (hi : i < 257) (hne : ln i ≠ n) : Grow n (i + 1) last := by
  unfold Grow at h ⊢
  rw [cnt_next hi, if_neg (Ne.symm hne)]
  exact h
/-- The text that the next code is filled up from. -/
def seed (last : List Bool) : List Bool := if last = [] then [] else (inc last).1
theorem seed_nil : seed [] = [] := rfl
theorem seed_more {l : List Bool} (h : l ≠ []) : seed l = (inc l).1 := if_neg h
theorem grow_code {n i : Nat} {last : List Bool} (h : Grow n i last) (hi : i < 257) (he : ln i = n) :
    (seed last).length ≤ n ∧ seed last ++ List.replicate (n - (seed last).length) false = codeB i ∧ Grow n (i + 1) (codeB i) := by
  have hcd : cd i = fst n + (lens.take i).count n := by unfold cd; rw [he]
  have hlt := cd_all i hi
  have hln := ln_all i hi
  rw [he] at hlt
  have hz : ∀ m, val (List.replicate m false) = 0 := fun m => by
    induction m with
    | zero => rfl
    | succ m ih => rw [List.replicate_succ, val_cons, ih]; simp
  have hG : Grow n (i + 1) (codeB i) := by
    refine .inr ⟨fun h0 => ?_, by rw [codeB_len, he]; exact Nat.le_refl _, ?_⟩
    · have := codeB_len i
      rw [h0] at this
      simp at this
      omega
    · rw [codeB_len, he, Nat.sub_self, Nat.pow_zero, Nat.mul_one, codeB_val hi, cnt_next hi, if_pos he.symm, hcd]
      omega
  unfold Grow at h
  rw [← hcd] at h
  rcases h with ⟨rfl, h2⟩ | ⟨h1, h2, h3⟩
  · refine ⟨by rw [seed_nil]; exact Nat.zero_le _, ?_, hG⟩
    refine val_inj ?_ ?_
    · rw [codeB_len, he, seed_nil]; simp
    · rw [codeB_val hi, h2, seed_nil, List.nil_append, hz]
  · have hp : 0 < 2 ^ (n - last.length) := Nat.two_pow_pos _
    have hov : val last + 1 < 2 ^ last.length := by
      have e : 2 ^ n = 2 ^ last.length * 2 ^ (n - last.length) := by rw [← Nat.pow_add]; congr 1; omega
      rw [← h3, e] at hlt
      exact Nat.lt_of_mul_lt_mul_right hlt
    rw [seed_more h1]
    refine ⟨by rw [inc_len]; exact h2, ?_, hG⟩
    refine val_inj ?_ ?_
    · rw [codeB_len, he, List.length_append, List.length_replicate, inc_len]; omega
    · rw [val_append, hz, List.length_replicate, inc_len, inc_one hov, h3, codeB_val hi]
      omega
end Go.Proofs.Ytaegdageiacdbaa
