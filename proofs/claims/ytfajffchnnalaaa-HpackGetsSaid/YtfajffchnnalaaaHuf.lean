/-
  The Huffman code as plain lists: how many bits each sign's code has, the codes, texts and their writings. No conditions but those that each theorem names; no program.
-/
namespace Go.Proofs.Ytfajffchnnalaaa

set_option maxRecDepth 10000 in
/-- How many bits each sign's code has. -/
def lens : List Nat :=
  [13, 23, 28, 28, 28, 28, 28, 28, 28, 24] ++ [30, 28, 28, 30, 28, 28, 28, 28, 28, 28] ++ [28, 28, 30, 28, 28, 28, 28, 28, 28, 28] ++ [28, 28, 6, 10, 10, 12, 13, 6, 8, 11] ++
  [10, 10, 8, 11, 8, 6, 6, 6, 5, 5] ++ [5, 6, 6, 6, 6, 6, 6, 6, 7, 8] ++ [15, 6, 12, 10, 13, 6, 7, 7, 7, 7] ++ [7, 7, 7, 7, 7, 7, 7, 7, 7, 7] ++
  [7, 7, 7, 7, 7, 7, 7, 7, 8, 7] ++ [8, 13, 19, 13, 14, 6, 15, 5, 6, 5] ++ [6, 5, 6, 6, 6, 5, 7, 7, 6, 6] ++ [6, 5, 6, 7, 6, 5, 5, 6, 7, 7] ++
  [7, 7, 7, 15, 11, 14, 13, 28, 20, 22] ++ [20, 20, 22, 22, 22, 23, 22, 23, 23, 23] ++ [23, 23, 24, 23, 24, 24, 22, 23, 24, 23] ++ [23, 23, 23, 21, 22, 23, 22, 23, 23, 24] ++
  [22, 21, 20, 22, 22, 23, 23, 21, 23, 22] ++ [22, 24, 21, 22, 23, 23, 21, 21, 22, 21] ++ [23, 22, 23, 23, 20, 22, 22, 22, 23, 22] ++ [22, 23, 26, 26, 20, 19, 22, 23, 22, 25] ++
  [26, 26, 26, 27, 27, 26, 24, 25, 19, 21] ++ [26, 27, 27, 26, 27, 24, 21, 21, 26, 26] ++ [28, 27, 27, 27, 20, 24, 20, 21, 22, 21] ++ [21, 23, 22, 22, 25, 25, 24, 24, 26, 23] ++
  [26, 27, 26, 26, 27, 27, 27, 27, 27, 28] ++ [27, 27, 27, 27, 27, 26, 30]
theorem lens_len : lens.length = 257 := by decide +kernel

/-- The bits of a sign's code. -/
def ln (i : Nat) : Nat := lens.getD i 0
/-- The least code of so many bits, grown from those with fewer. -/
def fst : Nat → Nat
  | 0 => 0
  | n + 1 => (fst n + lens.count n) * 2
/-- A sign's code, as a number. -/
def cd (i : Nat) : Nat := fst (ln i) + (lens.take i).count (ln i)

theorem ln_all : ∀ i, i < 257 → 5 ≤ ln i ∧ ln i ≤ 30 := by decide +kernel
theorem fst_all : ∀ n, n < 31 → fst n ≤ 1073741824 := by decide +kernel
theorem fst_cnt : ∀ n, n < 30 → fst n + lens.count n ≤ 536870912 := by decide +kernel
theorem lens_at {k : Nat} (h : k < 257) : lens[k]? = some (ln k) := by
  unfold ln
  rw [List.getD_eq_getElem?_getD, List.getElem?_eq_getElem (by rw [lens_len]; exact h)]
  rfl
theorem take_next {k : Nat} (h : k < 257) : lens.take (k + 1) = lens.take k ++ [ln k] := by
  rw [List.take_add_one, lens_at h]
  rfl
theorem cnt_next {k : Nat} (h : k < 257) (n : Nat) : (lens.take (k + 1)).count n = (lens.take k).count n + if n = ln k then 1 else 0 := by
  rw [take_next h, List.count_append]
  congr 1
  by_cases e : n = ln k
  · rw [if_pos e, e]; simp
  · rw [if_neg e]; simp [Ne.symm e]
theorem cnt_le (k n : Nat) : (lens.take k).count n ≤ 257 := by
  have := List.count_le_length (a := n) (l := lens.take k)
  rw [List.length_take, lens_len] at this
  omega
theorem cnt_all (n : Nat) : (lens.take 257).count n = lens.count n := by rw [List.take_of_length_le (by rw [lens_len]; omega)]
end Go.Proofs.Ytfajffchnnalaaa
