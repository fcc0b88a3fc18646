/-
  Frames that may be, put and got again. No program is spoken of.
-/
import Derived.Test.YtejlbgllfkfkfaaDoorIgm
import Derived.Test.YtejlbgllfkfkfaaDoorIpu
namespace Go.Proofs.YtejlbgllfkfkfaaDoor

def frontI (mask : Bool) (n : Nat) : Nat := 2 + behindN (formN n) + four4 mask
theorem firstI_facts {fin : Bool} {op : Nat} (ho : okOp op) (hf : op < 8 ∨ fin = true) : firstI fin op < 256 ∧ firstI fin op % 16 = op ∧ decide (127 < firstI fin op) = fin ∧ ¬ badFirst (firstI fin op) := by
  unfold okOp at ho
  unfold firstI badFirst okOp
  cases fin
  · simp only [Bool.false_eq_true, if_false, decide_eq_false_iff_not, or_false] at hf ⊢
    omega
  · simp only [if_true, decide_eq_true_eq]
    omega
theorem formN_small {n : Nat} (h : n ≤ 4096) : (n < 126 ∧ formN n = n) ∨ (126 ≤ n ∧ formN n = 126) := by
  unfold formN
  by_cases h1 : 126 ≤ n
  · right; rw [if_neg (by omega), if_pos h1]; exact ⟨h1, rfl⟩
  · left; rw [if_neg (by omega), if_neg h1]; exact ⟨by omega, rfl⟩
theorem secondI_facts {mask : Bool} {n : Nat} (h : n ≤ 4096) : secondI mask n < 256 ∧ secondI mask n % 128 = formN n ∧ decide (127 < secondI mask n) = mask := by
  unfold secondI
  rw [formI_eq h]
  have := formN_lt n
  cases mask
  · simp only [Bool.false_eq_true, if_false, decide_eq_false_iff_not]; omega
  · simp only [if_true, decide_eq_true_eq]; omega
/-- What stands behind the length. -/
def Pc.rest (p : Pc) : List UInt8 := if p.mask = true then be 4 p.key ++ turnL p.key p.dat else p.dat
theorem rest_length (p : Pc) : p.rest.length = four4 p.mask + p.dat.length := by
  unfold Pc.rest four4
  split
  · rw [List.length_append, be_length, turnL_length]
  · simp
theorem put_eq (p : Pc) (h : p.dat.length ≤ 4096) : p.put = UInt8.ofNat (firstI p.fin p.op) :: UInt8.ofNat (secondI p.mask p.dat.length) :: (be (behindN (formN p.dat.length)) p.dat.length ++ p.rest) := by
  unfold Pc.put Pc.rest
  rw [lensI_eq h, List.append_assoc]
  rfl
theorem lenH_put (p : Pc) (h : p.dat.length ≤ 4096) : lenH p.mask (formN p.dat.length) (be (behindN (formN p.dat.length)) p.dat.length ++ p.rest) = ⟨frontI p.mask p.dat.length, p.dat.length, 0, false⟩ := by
  have hk := formN_lt p.dat.length
  rw [lenH_eq p.mask _ _ hk]
  have hbl : (be (behindN (formN p.dat.length)) p.dat.length).length = behindN (formN p.dat.length) := be_length _ _
  rw [take_app hbl, if_neg (by rw [List.length_append, hbl]; omega)]
  have hv : lenN (formN p.dat.length) (be (behindN (formN p.dat.length)) p.dat.length) = p.dat.length := by
    unfold lenN
    rw [hbl]
    rcases formN_small h with ⟨h1, h2⟩ | ⟨h1, h2⟩
    · rw [h2]
      have : behindN p.dat.length = 0 := by unfold behindN; rw [if_neg (by omega), if_neg (by omega)]
      rw [if_pos this]
    · rw [h2]
      show (if (2 : Nat) = 0 then 126 else valL (be 2 p.dat.length)) = _
      rw [if_neg (by omega), valL_be 2 _ (by omega)]
  rw [hv, if_neg (by omega), if_neg (by omega)]
  rfl
theorem hdI_put {p : Pc} (h : p.May) : hdI p.mask p.put = ⟨frontI p.mask p.dat.length, p.dat.length, 0, false⟩ := by
  obtain ⟨ho, hk, hn, hc⟩ := (show MayI p.fin p.op p.mask p.key p.dat.length from h)
  obtain ⟨f1, f2, f3, f4⟩ := firstI_facts (fin := p.fin) ho (by rcases hc with h | h; exact .inl h; exact .inr h.1)
  obtain ⟨s1, s2, s3⟩ := secondI_facts (mask := p.mask) hn
  rw [put_eq p hn]
  show (if badFirst (UInt8.ofNat (firstI p.fin p.op)).toNat ∨ badSecond (UInt8.ofNat (firstI p.fin p.op)).toNat (UInt8.ofNat (secondI p.mask p.dat.length)).toNat p.mask then hBad 1002 else lenH p.mask ((UInt8.ofNat (secondI p.mask p.dat.length)).toNat % 128) _) = _
  rw [ofNat_toNat_mod, ofNat_toNat_mod, Nat.mod_eq_of_lt f1, Nat.mod_eq_of_lt s1, s2, if_neg, lenH_put p hn]
  rintro (h1 | h1 | h1)
  · exact f4 h1
  · exact h1 s3
  · rw [f2, s2] at h1
    have : p.dat.length ≤ 125 := by
      rcases hc with h | h
      · omega
      · exact h.2
    have : formN p.dat.length = p.dat.length := by rcases formN_small hn with h | h <;> omega
    omega
theorem put_length {p : Pc} (h : p.dat.length ≤ 4096) : p.put.length = frontI p.mask p.dat.length + p.dat.length := by
  rw [put_eq p h]
  unfold frontI
  simp only [List.length_cons, List.length_append, be_length, rest_length]
  omega
/-- The other mask is told. -/
theorem hdI_other {p : Pc} (h : p.May) {m : Bool} (hm : m ≠ p.mask) : hdI m p.put = hBad 1002 := by
  obtain ⟨ho, hk, hn, hc⟩ := (show MayI p.fin p.op p.mask p.key p.dat.length from h)
  obtain ⟨s1, s2, s3⟩ := secondI_facts (mask := p.mask) hn
  rw [put_eq p hn]
  show (if badFirst (UInt8.ofNat (firstI p.fin p.op)).toNat ∨ badSecond (UInt8.ofNat (firstI p.fin p.op)).toNat (UInt8.ofNat (secondI p.mask p.dat.length)).toNat m then hBad 1002 else lenH m ((UInt8.ofNat (secondI p.mask p.dat.length)).toNat % 128) _) = _
  rw [if_pos]
  right; left
  rw [ofNat_toNat_mod, Nat.mod_eq_of_lt s1, s3]
  exact fun e => hm e.symm
/-- One byte of it tells nothing. -/
theorem hdI_first {p : Pc} (h : p.May) (m : Bool) : hdI m (p.put.take 1) = hShort := by
  obtain ⟨ho, hk, hn, hc⟩ := (show MayI p.fin p.op p.mask p.key p.dat.length from h)
  obtain ⟨f1, f2, f3, f4⟩ := firstI_facts (fin := p.fin) ho (by rcases hc with h | h; exact .inl h; exact .inr h.1)
  rw [put_eq p hn]
  show (if badFirst (UInt8.ofNat (firstI p.fin p.op)).toNat then hBad 1002 else hShort) = _
  rw [ofNat_toNat_mod, Nat.mod_eq_of_lt f1, if_neg f4]
theorem getI_other {p : Pc} (h : p.May) {m : Bool} (hm : m ≠ p.mask) : getI m p.put = (Pc.zero, 1002) := by
  have h1 := hdI_other h hm
  rw [getI_bad (by rw [h1]; show (1002 : Nat) ≠ 0; omega), h1]
  rfl
theorem getI_put {p : Pc} (h : p.May) (hkey : p.key < 4294967296) : getI p.mask p.put = (p, 0) := by
  obtain ⟨ho, hk, hn, hc⟩ := (show MayI p.fin p.op p.mask p.key p.dat.length from h)
  obtain ⟨f1, f2, f3, f4⟩ := firstI_facts (fin := p.fin) ho (by rcases hc with h | h; exact .inl h; exact .inr h.1)
  have h1 := hdI_put h
  have hl := put_length hn
  have e := put_eq p hn
  rw [e] at h1 hl ⊢
  rw [getI_whole (by rw [h1]) (by rw [h1]) (by rw [h1]; exact hl.symm), h1]
  have hb : (be (behindN (formN p.dat.length)) p.dat.length).length = behindN (formN p.dat.length) := be_length _ _
  have hd : ∀ j, (UInt8.ofNat (firstI p.fin p.op) :: UInt8.ofNat (secondI p.mask p.dat.length) :: (be (behindN (formN p.dat.length)) p.dat.length ++ p.rest)).drop (2 + behindN (formN p.dat.length) + j) = p.rest.drop j := fun j => by
    rw [show 2 + behindN (formN p.dat.length) + j = (behindN (formN p.dat.length) + j) + 1 + 1 by omega, List.drop_succ_cons, List.drop_succ_cons, ← List.drop_drop, drop_app hb]
  have hK : keyI p.mask (frontI p.mask p.dat.length) (UInt8.ofNat (firstI p.fin p.op) :: UInt8.ofNat (secondI p.mask p.dat.length) :: (be (behindN (formN p.dat.length)) p.dat.length ++ p.rest)) = p.key := by
    unfold keyI frontI
    cases hm : p.mask
    · rw [if_neg (by simp)]
      rcases hk with h2 | h2
      · rw [hm] at h2; cases h2
      · exact h2.symm
    · rw [if_pos rfl]
      rw [show 2 + behindN (formN p.dat.length) + four4 true - 4 = 2 + behindN (formN p.dat.length) + 0 by simp [four4]]
      rw [← hm, hd 0]
      have hr : p.rest = be 4 p.key ++ turnL p.key p.dat := by unfold Pc.rest; rw [if_pos hm]
      rw [List.drop_zero, hr, take_app (be_length _ _), valL_be 4 _ hkey]
  have hD : turnL p.key ((UInt8.ofNat (firstI p.fin p.op) :: UInt8.ofNat (secondI p.mask p.dat.length) :: (be (behindN (formN p.dat.length)) p.dat.length ++ p.rest)).drop (frontI p.mask p.dat.length)) = p.dat := by
    unfold frontI
    rw [hd (four4 p.mask)]
    unfold Pc.rest
    cases hm : p.mask
    · rw [if_neg (by simp)]
      have hk0 : p.key = 0 := by
        rcases hk with h2 | h2
        · rw [hm] at h2; cases h2
        · exact h2
      rw [hk0, turnL_zero]
      rfl
    · rw [if_pos rfl]
      show turnL p.key ((be 4 p.key ++ turnL p.key p.dat).drop 4) = _
      rw [drop_app (be_length _ _), turnL_twice]
  rw [hK, hD]
  rw [ofNat_toNat_mod, Nat.mod_eq_of_lt f1, f2, f3]
end Go.Proofs.YtejlbgllfkfkfaaDoor
