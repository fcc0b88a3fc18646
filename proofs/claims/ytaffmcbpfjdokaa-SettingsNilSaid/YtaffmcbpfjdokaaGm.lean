/-
  Settings by value, no program: what a setting does to settings, or what is wrong with it; a list's settings; the list that makes settings of others. No conditions.
-/
namespace Go.Proofs.Ytaffmcbpfjdokaa

/-- Settings. -/
structure St where
  tb : Nat
  pu : Bool
  st : Nat
  wn : Nat
  fr : Nat
  hd : Nat
  co : Bool
  deriving DecidableEq
def begS : St := ⟨4096, true, 4294967295, 65535, 16384, 4294967295, false⟩
def zS : St := ⟨0, false, 0, 0, 0, 0, false⟩
/-- The code of what is wrong with a setting; 0: nothing. -/
def wrN (s : St) (i v : Nat) : Nat :=
  if i = 4 ∧ 2147483647 < v then 3 else if ((i = 2 ∨ i = 8) ∧ 1 < v) ∨ (i = 5 ∧ (v < 16384 ∨ 16777215 < v)) ∨ (i = 8 ∧ v = 0 ∧ s.co = true) then 1 else 0
/-- Settings behind a setting. -/
def stN (s : St) (i v : Nat) : St :=
  if i = 1 then { s with tb := v } else if i = 2 then { s with pu := decide (v = 1) } else if i = 3 then { s with st := v } else if i = 4 then { s with wn := v } else if i = 5 then { s with fr := v } else if i = 6 then { s with hd := v }
  else if i = 8 then { s with co := decide (v = 1) } else s
/-- Settings behind a list, and the code (0: none). -/
def apN (s0 : St) : St → List (Nat × Nat) → St × Nat
  | o, [] => (o, 0)
  | o, x :: l => if wrN o x.1 x.2 = 0 then apN s0 (stN o x.1 x.2) l else (s0, wrN o x.1 x.2)
theorem wrN_le (s : St) (i v : Nat) : wrN s i v = 0 ∨ wrN s i v = 1 ∨ wrN s i v = 3 := by
  unfold wrN
  split
  · exact .inr (.inr rfl)
  · split
    · exact .inr (.inl rfl)
    · exact .inl rfl
theorem apN_le (s0 : St) : ∀ (l : List (Nat × Nat)) (o : St), (apN s0 o l).2 = 0 ∨ (apN s0 o l).2 = 1 ∨ (apN s0 o l).2 = 3
  | [], _ => .inl rfl
  | x :: l, o => by
    unfold apN
    split
    · exact apN_le s0 l _
    · exact wrN_le o x.1 x.2
theorem apN_bad (s0 : St) : ∀ (l : List (Nat × Nat)) (o : St), (apN s0 o l).2 ≠ 0 → (apN s0 o l).1 = s0
  | [], _, h => absurd rfl h
  | x :: l, o, h => by
    unfold apN at h ⊢
    split
    · rename_i h0
      rw [if_pos h0] at h
      exact apN_bad s0 l _ h
    · rfl
theorem apN_step {s0 o : St} {l : List (Nat × Nat)} {k : Nat} (h : k < l.length) (h0 : wrN o l[k].1 l[k].2 = 0) : apN s0 o (l.drop k) = apN s0 (stN o l[k].1 l[k].2) (l.drop (k + 1)) := by
  rw [List.drop_eq_getElem_cons h, apN, if_pos h0]
theorem apN_stop {s0 o : St} {l : List (Nat × Nat)} {k : Nat} (h : k < l.length) (h0 : wrN o l[k].1 l[k].2 ≠ 0) : apN s0 o (l.drop k) = (s0, wrN o l[k].1 l[k].2) := by
  rw [List.drop_eq_getElem_cons h, apN, if_neg h0]
theorem apN_end {s0 o : St} {l : List (Nat × Nat)} : apN s0 o (l.drop l.length) = (o, 0) := by rw [List.drop_length]; rfl

/-- A flag's number. -/
def bitN (b : Bool) : Nat := if b then 1 else 0
/-- Settings as a list. -/
def allN (s : St) : List (Nat × Nat) := [(1, s.tb), (2, bitN s.pu), (3, s.st), (4, s.wn), (5, s.fr), (6, s.hd), (8, bitN s.co)]
/-- What of the second list is others than in the first one. -/
def dif : List (Nat × Nat) → List (Nat × Nat) → List (Nat × Nat)
  | a :: A, b :: B => (if b = a then [] else [b]) ++ dif A B
  | _, _ => []
theorem dif_snoc : ∀ (A B : List (Nat × Nat)) (a b : Nat × Nat), A.length = B.length → dif (A ++ [a]) (B ++ [b]) = dif A B ++ if b = a then [] else [b]
  | [], [], a, b, _ => by simp [dif]
  | x :: A, y :: B, a, b, h => by
    simp only [List.cons_append, dif]
    rw [dif_snoc A B a b (by simpa using h), List.append_assoc]
theorem dif_take {A B : List (Nat × Nat)} (h : A.length = B.length) {k : Nat} (h1 : k < A.length) (h2 : k < B.length) : dif (A.take (k + 1)) (B.take (k + 1)) = dif (A.take k) (B.take k) ++ if B[k] = A[k] then [] else [B[k]] := by
  rw [List.take_succ_eq_append_getElem h1, List.take_succ_eq_append_getElem h2]
  exact dif_snoc _ _ _ _ (by simp; omega)
theorem dif_sub : ∀ (A B : List (Nat × Nat)), (dif A B).Sublist B
  | [], B => by simp [dif]
  | _ :: _, [] => by simp [dif]
  | a :: A, b :: B => by
    unfold dif
    split
    · exact (dif_sub A B).cons _
    · exact (dif_sub A B).cons_cons _
theorem dif_self : ∀ A : List (Nat × Nat), dif A A = []
  | [] => rfl
  | a :: A => by simp [dif, dif_self A]
theorem dif_nil : ∀ (A B : List (Nat × Nat)), A.length = B.length → dif A B = [] → B = A
  | [], [], _, _ => rfl
  | a :: A, b :: B, hl, h => by
    unfold dif at h
    split at h
    · rename_i e
      rw [e, dif_nil A B (by simpa using hl) (by simpa using h)]
    · simp at h
theorem bitN_inj {a b : Bool} (h : bitN a = bitN b) : a = b := by cases a <;> cases b <;> simp_all [bitN]
theorem allN_inj {a b : St} (h : allN a = allN b) : a = b := by
  cases a; cases b
  simp only [allN, List.cons.injEq, Prod.mk.injEq, true_and, and_true] at h
  obtain ⟨rfl, h2, rfl, rfl, rfl, rfl, h8⟩ := h
  rw [bitN_inj h2, bitN_inj h8]
/-- The list that is told. -/
def tellN (a b : St) : List (Nat × Nat) := dif (allN a) (allN b)
theorem tellN_len (a b : St) : (tellN a b).length ≤ 7 := (dif_sub _ _).length_le
theorem tellN_self (a : St) : tellN a a = [] := dif_self _
theorem tellN_nil {a b : St} : (tellN a b).length = 0 ↔ a = b := by
  constructor
  · intro h
    exact (allN_inj (dif_nil (allN a) (allN b) rfl (List.eq_nil_of_length_eq_zero h))).symm
  · rintro rfl; rw [tellN_self]; rfl
theorem tellN_mem {a b : St} {x : Nat × Nat} (h : x ∈ tellN a b) : x ∈ allN b := (dif_sub _ _).subset h
theorem tellN_rise (a b : St) : (tellN a b).Pairwise fun x y => x.1 < y.1 := by
  refine List.Pairwise.sublist (dif_sub _ _) ?_
  simp [allN]
theorem tellN_rises {a b : St} {k : Nat} (h : k + 1 < (tellN a b).length) : (tellN a b)[k].1 < (tellN a b)[k + 1].1 := List.pairwise_iff_getElem.1 (tellN_rise a b) k (k + 1) (by omega) h (by omega)
theorem bit1 {c : Bool} (h : bitN c ≠ 0) : bitN c = 1 := by cases c <;> simp_all [bitN]
/-- A setting of settings isn't what is there already. -/
theorem all_turns {b : St} {x : Nat × Nat} (h : x ∈ allN b) (h0 : wrN zS x.1 x.2 = 0) (hv : x.2 ≠ 0) : stN zS x.1 x.2 ≠ zS := by
  simp only [allN, List.mem_cons, List.not_mem_nil, or_false] at h
  rcases h with rfl | rfl | rfl | rfl | rfl | rfl | rfl
  · simp_all [stN, zS]
  · simp [stN, zS, bit1 hv]
  · simp_all [stN, zS]
  · simp_all [stN, zS]
  · simp_all [stN, zS]
  · simp_all [stN, zS]
  · simp [stN, zS, bit1 hv]
theorem tellN_ids {a b : St} {x : Nat × Nat} (h : x ∈ tellN a b) : x.1 < 65536 := by
  have := tellN_mem h
  simp only [allN, List.mem_cons, List.not_mem_nil, or_false] at this
  rcases this with rfl | rfl | rfl | rfl | rfl | rfl | rfl <;> simp
theorem apN_one {s0 o o' : St} {i u v : Nat} {r : List (Nat × Nat)} (hw : v ≠ u → wrN o i v = 0) (h1 : v ≠ u → stN o i v = o') (h2 : v = u → o' = o) : apN s0 o ((if (i, v) = (i, u) then [] else [(i, v)]) ++ r) = apN s0 o' r := by
  by_cases h : v = u
  · rw [if_pos (by rw [h]), h2 h]; rfl
  · rw [if_neg (fun e => h (Prod.mk.inj e).2)]
    show apN s0 o ((i, v) :: r) = _
    rw [apN, if_pos (hw h), h1 h]
theorem bit_back (b : Bool) : decide (bitN b = 1) = b := by cases b <;> rfl
theorem bit_le (b : Bool) : bitN b ≤ 1 := by cases b <;> simp [bitN]
/-- Told and applied: settings are those that were told. -/
theorem tell_apply {a b : St} (hw : b.wn ≤ 2147483647) (hf : 16384 ≤ b.fr ∧ b.fr < 16777216) (hc : b.co = true ∨ a.co = false) : apN a a (tellN a b) = (b, 0) := by
  obtain ⟨a1, a2, a3, a4, a5, a6, a7⟩ := a
  obtain ⟨b1, b2, b3, b4, b5, b6, b7⟩ := b
  simp only at hw hf hc
  simp only [tellN, allN, dif]
  rw [apN_one (o' := ⟨b1, a2, a3, a4, a5, a6, a7⟩) (fun _ => by simp [wrN]) (fun _ => by simp [stN]) (fun h => by rw [h])]
  rw [apN_one (o' := ⟨b1, b2, a3, a4, a5, a6, a7⟩) (fun _ => by have := bit_le b2; simp [wrN]; omega) (fun _ => by simp [stN, bit_back]) (fun h => by rw [bitN_inj h])]
  rw [apN_one (o' := ⟨b1, b2, b3, a4, a5, a6, a7⟩) (fun _ => by simp [wrN]) (fun _ => by simp [stN]) (fun h => by rw [h])]
  rw [apN_one (o' := ⟨b1, b2, b3, b4, a5, a6, a7⟩) (fun _ => by simp [wrN]; omega) (fun _ => by simp [stN]) (fun h => by rw [h])]
  rw [apN_one (o' := ⟨b1, b2, b3, b4, b5, a6, a7⟩) (fun _ => by simp [wrN]; omega) (fun _ => by simp [stN]) (fun h => by rw [h])]
  rw [apN_one (o' := ⟨b1, b2, b3, b4, b5, b6, a7⟩) (fun _ => by simp [wrN]) (fun _ => by simp [stN]) (fun h => by rw [h])]
  rw [apN_one (o' := ⟨b1, b2, b3, b4, b5, b6, b7⟩) (fun h => by
    have hb : b7 = true ∧ a7 = false := by
      rcases hc with rfl | rfl
      · cases a7
        · exact ⟨rfl, rfl⟩
        · exact absurd rfl h
      · cases b7
        · exact absurd rfl h
        · exact ⟨rfl, rfl⟩
    obtain ⟨rfl, rfl⟩ := hb
    simp [wrN, bitN]) (fun _ => by simp [stN, bit_back]) (fun h => by rw [bitN_inj h])]
  rfl
/-- The settings that will be. -/
def lastN (n : St) (L : List St) : St := (n :: L)[L.length]'(by simp)
theorem lastN_nil (n : St) : lastN n [] = n := rfl
theorem lastN_cons (n a : St) (L : List St) : lastN n (a :: L) = lastN a L := rfl
theorem lastN_snoc : ∀ (L : List St) (n x : St), lastN n (L ++ [x]) = x
  | [], _, _ => rfl
  | a :: L, n, x => by rw [List.cons_append, lastN_cons]; exact lastN_snoc L a x
theorem lastN_at (n : St) {L : List St} (h : 0 < L.length) : lastN n L = L[L.length - 1]'(by omega) := by
  unfold lastN
  rw [List.getElem_cons, dif_neg (by omega)]
end Go.Proofs.Ytaffmcbpfjdokaa
