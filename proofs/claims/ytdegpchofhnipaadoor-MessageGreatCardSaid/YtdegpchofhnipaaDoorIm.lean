/-
  Frames of sockets as bytes, in plain mathematics: bytes turned by a key, a head, which frame bytes are, a frame's bytes. No program is spoken of.
-/
import Derived.Test.YtdegpchofhnipaaDoorFmath
namespace Go.Proofs.YtdegpchofhnipaaDoor

/-! ### Bytes turned by a key -/
def kb (key i : Nat) : Nat := key / 256 ^ (3 - i % 4) % 256
def turnL (key : Nat) (l : List UInt8) : List UInt8 := l.mapIdx fun i b => UInt8.ofNat (b.toNat ^^^ kb key i)
def krot (key i : Nat) : Nat := key * 256 ^ (i % 4) % 4294967296 + key / 256 ^ (4 - i % 4)
theorem kb_lt (key i : Nat) : kb key i < 256 := Nat.mod_lt _ (by omega)
theorem krot_zero {key : Nat} (h : key < 4294967296) : krot key 0 = key := by unfold krot; simp; omega
theorem krot_lt {key : Nat} (h : key < 4294967296) (i : Nat) : krot key i < 4294967296 := by
  have h4 : i % 4 = 0 ∨ i % 4 = 1 ∨ i % 4 = 2 ∨ i % 4 = 3 := by omega
  unfold krot
  rcases h4 with e | e | e | e <;> rw [e] <;> simp <;> omega
theorem krot_all {key : Nat} (h : key < 4294967296) : ∃ a b c d, a < 256 ∧ b < 256 ∧ c < 256 ∧ d < 256 ∧ key = a * 16777216 + b * 65536 + c * 256 + d ∧
    (∀ i, i % 4 = 0 → krot key i = a * 16777216 + b * 65536 + c * 256 + d ∧ kb key i = a) ∧ (∀ i, i % 4 = 1 → krot key i = b * 16777216 + c * 65536 + d * 256 + a ∧ kb key i = b) ∧
    (∀ i, i % 4 = 2 → krot key i = c * 16777216 + d * 65536 + a * 256 + b ∧ kb key i = c) ∧ (∀ i, i % 4 = 3 → krot key i = d * 16777216 + a * 65536 + b * 256 + c ∧ kb key i = d) := by
  refine ⟨key / 16777216, key / 65536 % 256, key / 256 % 256, key % 256, by omega, by omega, by omega, by omega, by omega, ?_, ?_, ?_, ?_⟩
  all_goals
    intro i e
    unfold krot kb
    rw [e]
    simp
    omega
theorem rot_one {a R : Nat} (_ha : a < 256) (hR : R < 16777216) : (a * 16777216 + R) * 256 % 4294967296 + (a * 16777216 + R) / 16777216 = R * 256 + a := by
  have h1 : (a * 16777216 + R) * 256 = 4294967296 * a + R * 256 := by omega
  have h2 : (a * 16777216 + R) / 16777216 = a := by omega
  rw [h1, Nat.mul_add_mod, h2, Nat.mod_eq_of_lt (by omega)]
theorem rot_four {a b c d : Nat} (ha : a < 256) (hb : b < 256) (hc : c < 256) (hd : d < 256) : (a * 16777216 + b * 65536 + c * 256 + d) * 256 % 4294967296 + (a * 16777216 + b * 65536 + c * 256 + d) / 16777216 = b * 16777216 + c * 65536 + d * 256 + a := by
  have h := rot_one (R := b * 65536 + c * 256 + d) ha (by omega)
  rw [show a * 16777216 + b * 65536 + c * 256 + d = a * 16777216 + (b * 65536 + c * 256 + d) by omega, h]
  omega
theorem krot_succ {key : Nat} (h : key < 4294967296) (i : Nat) : krot key i * 256 % 4294967296 + krot key i / 16777216 = krot key (i + 1) := by
  obtain ⟨a, b, c, d, ha, hb, hc, hd, _, h0, h1, h2, h3⟩ := krot_all h
  have h4 : i % 4 = 0 ∨ i % 4 = 1 ∨ i % 4 = 2 ∨ i % 4 = 3 := by omega
  rcases h4 with e | e | e | e
  · rw [(h0 i e).1, (h1 (i + 1) (by omega)).1]; exact rot_four ha hb hc hd
  · rw [(h1 i e).1, (h2 (i + 1) (by omega)).1]; exact rot_four hb hc hd ha
  · rw [(h2 i e).1, (h3 (i + 1) (by omega)).1]; exact rot_four hc hd ha hb
  · rw [(h3 i e).1, (h0 (i + 1) (by omega)).1]; exact rot_four hd ha hb hc
theorem krot_low {key : Nat} (h : key < 4294967296) (i : Nat) : krot key (i + 1) % 256 = kb key i := by
  obtain ⟨a, b, c, d, ha, hb, hc, hd, _, h0, h1, h2, h3⟩ := krot_all h
  have h4 : i % 4 = 0 ∨ i % 4 = 1 ∨ i % 4 = 2 ∨ i % 4 = 3 := by omega
  rcases h4 with e | e | e | e
  · rw [(h1 (i + 1) (by omega)).1, (h0 i e).2]; omega
  · rw [(h2 (i + 1) (by omega)).1, (h1 i e).2]; omega
  · rw [(h3 (i + 1) (by omega)).1, (h2 i e).2]; omega
  · rw [(h0 (i + 1) (by omega)).1, (h3 i e).2]; omega
theorem turnL_length (key : Nat) (l : List UInt8) : (turnL key l).length = l.length := by simp [turnL]
theorem turnL_nil (key : Nat) : turnL key [] = [] := rfl
theorem turnL_at (key : Nat) (l : List UInt8) {i : Nat} (h : i < l.length) : (turnL key l)[i]'(by rw [turnL_length]; exact h) = UInt8.ofNat (l[i].toNat ^^^ kb key i) := by simp [turnL]
theorem xor_lt {a b : Nat} (ha : a < 256) (hb : b < 256) : a ^^^ b < 256 := Nat.xor_lt_two_pow (n := 8) ha hb
theorem turnL_twice (key : Nat) (l : List UInt8) : turnL key (turnL key l) = l := by
  apply List.ext_getElem
  · rw [turnL_length, turnL_length]
  · intro i h1 h2
    rw [turnL_at _ _ (by rw [turnL_length]; exact h2), turnL_at _ _ h2]
    apply UInt8.toNat_inj.1
    have hx := xor_lt l[i].toNat_lt (kb_lt key i)
    rw [ofNat_toNat_mod, ofNat_toNat_mod, Nat.mod_eq_of_lt hx, Nat.xor_assoc, Nat.xor_self, Nat.xor_zero]
    exact Nat.mod_eq_of_lt l[i].toNat_lt
theorem turnL_zero (l : List UInt8) : turnL 0 l = l := by
  apply List.ext_getElem
  · rw [turnL_length]
  · intro i h1 h2
    rw [turnL_at _ _ h2]
    apply UInt8.toNat_inj.1
    have hk : kb 0 i = 0 := by unfold kb; simp
    rw [hk, Nat.xor_zero, ofNat_toNat_mod]
    exact Nat.mod_eq_of_lt l[i].toNat_lt
theorem turnL_inj {key : Nat} {a b : List UInt8} (h : turnL key a = turnL key b) : a = b := by rw [← turnL_twice key a, h, turnL_twice]
theorem turnL_take (key : Nat) (l : List UInt8) {i : Nat} (h : i < l.length) : (turnL key l).take (i + 1) = (turnL key l).take i ++ [UInt8.ofNat (l[i].toNat ^^^ kb key i)] := by
  rw [List.take_add_one, List.getElem?_eq_getElem (by rw [turnL_length]; exact h), turnL_at _ _ h]
  rfl
/-- The key's byte whose turn it is, in its four bytes. -/
theorem kb_be {key : Nat} (i : Nat) : (be 4 key)[i % 4]'(by rw [be_length]; omega) = UInt8.ofNat (kb key i) := by
  apply UInt8.toNat_inj.1
  have h4 : i % 4 = 0 ∨ i % 4 = 1 ∨ i % 4 = 2 ∨ i % 4 = 3 := by omega
  rw [ofNat_toNat_mod, Nat.mod_eq_of_lt (kb_lt key i)]
  unfold kb
  simp only [be4]
  rcases h4 with e | e | e | e <;> simp [e]
/-- Bit by bit. -/
theorem xor_bit (a b : Nat) : a ^^^ b = 2 * (a / 2 ^^^ b / 2) + (if a % 2 = b % 2 then 0 else 1) := by
  have h1 : (a ^^^ b) / 2 = a / 2 ^^^ b / 2 := Nat.xor_div_two
  have h2 : (a ^^^ b) % 2 = a % 2 ^^^ b % 2 := Nat.xor_mod_two_pow (n := 1)
  have h3 := Nat.div_add_mod (a ^^^ b) 2
  rw [h1, h2] at h3
  have ha : a % 2 = 0 ∨ a % 2 = 1 := by omega
  have hb : b % 2 = 0 ∨ b % 2 = 1 := by omega
  rcases ha with ha | ha <;> rcases hb with hb | hb <;> rw [ha, hb] at h3 ⊢ <;> simp at h3 ⊢ <;> omega

/-! ### Heads -/
structure Hd where
  front : Nat
  size : Nat
  code : Nat
  short : Bool
def okOp (op : Nat) : Prop := op < 3 ∨ (7 < op ∧ op < 11)
def badFirst (b : Nat) : Prop := b / 16 % 8 ≠ 0 ∨ ¬ okOp (b % 16) ∨ (7 < b % 16 ∧ b < 128)
def badSecond (b s : Nat) (m : Bool) : Prop := decide (127 < s) ≠ m ∨ (7 < b % 16 ∧ 125 < s % 128)
instance (a : Nat) : Decidable (okOp a) := inferInstanceAs (Decidable (_ ∨ _))
instance (a : Nat) : Decidable (badFirst a) := inferInstanceAs (Decidable (_ ∨ _))
instance (a b : Nat) (m : Bool) : Decidable (badSecond a b m) := inferInstanceAs (Decidable (_ ∨ _))
def hShort : Hd := ⟨0, 0, 0, true⟩
def hBad (c : Nat) : Hd := ⟨0, 0, c, false⟩
def four4 (m : Bool) : Nat := if m = true then 4 else 0
/-- Behind the second byte, whose length's form is k. -/
def lenH (m : Bool) (k : Nat) (r : List UInt8) : Hd :=
  if k = 126 then
    if r.length < 2 then hShort
    else if valL (r.take 2) < 126 then hBad 1002
    else if 4096 < valL (r.take 2) then hBad 1009
    else ⟨4 + four4 m, valL (r.take 2), 0, false⟩
  else if k = 127 then
    if r.length < 8 then hShort
    else if valL (r.take 8) < 65536 ∨ 9223372036854775808 ≤ valL (r.take 8) then hBad 1002
    else hBad 1009
  else ⟨2 + four4 m, k, 0, false⟩
def hdI (m : Bool) : List UInt8 → Hd
  | [] => hShort
  | [b] => if badFirst b.toNat then hBad 1002 else hShort
  | b :: s :: r => if badFirst b.toNat ∨ badSecond b.toNat s.toNat m then hBad 1002 else lenH m (s.toNat % 128) r

/-! ### Frames -/
structure Pc where
  fin : Bool
  op : Nat
  mask : Bool
  key : Nat
  dat : List UInt8
def MayI (fin : Bool) (op : Nat) (mask : Bool) (key n : Nat) : Prop := okOp op ∧ (mask = true ∨ key = 0) ∧ n ≤ 4096 ∧ (op < 8 ∨ (fin = true ∧ n ≤ 125))
instance (a : Bool) (b : Nat) (c : Bool) (d e : Nat) : Decidable (MayI a b c d e) := inferInstanceAs (Decidable (_ ∧ _))
def Pc.May (p : Pc) : Prop := MayI p.fin p.op p.mask p.key p.dat.length
instance (p : Pc) : Decidable p.May := inferInstanceAs (Decidable (MayI _ _ _ _ _))
def firstI (fin : Bool) (op : Nat) : Nat := op + if fin = true then 128 else 0
def formI (n : Nat) : Nat := if n < 126 then n else 126
def secondI (mask : Bool) (n : Nat) : Nat := formI n + if mask = true then 128 else 0
def lensI (n : Nat) : List UInt8 := if n < 126 then [] else be 2 n
def Pc.put (p : Pc) : List UInt8 := [UInt8.ofNat (firstI p.fin p.op), UInt8.ofNat (secondI p.mask p.dat.length)] ++ lensI p.dat.length ++ if p.mask = true then be 4 p.key ++ turnL p.key p.dat else p.dat
def Pc.zero : Pc := ⟨false, 0, false, 0, []⟩
/-- The frame of bytes; a fault's code. -/
def getI (m : Bool) (l : List UInt8) : Pc × Nat :=
  if (hdI m l).code ≠ 0 then (Pc.zero, (hdI m l).code)
  else if (hdI m l).short = true ∨ l.length ≠ (hdI m l).front + (hdI m l).size then (Pc.zero, 1002)
  else (⟨decide (127 < (l.getD 0 0).toNat), (l.getD 0 0).toNat % 16, m, if m = true then valL ((l.drop ((hdI m l).front - 4)).take 4) else 0,
    if m = true then turnL (valL ((l.drop ((hdI m l).front - 4)).take 4)) (l.drop (hdI m l).front) else l.drop (hdI m l).front⟩, 0)

theorem lenH_cases (m : Bool) (k : Nat) (r : List UInt8) : (lenH m k r).code = 0 ∨ ((lenH m k r).front = 0 ∧ (lenH m k r).size = 0 ∧ (lenH m k r).short = false) := by
  unfold lenH hShort hBad
  repeat' split
  all_goals simp
theorem hdI_cases (m : Bool) (l : List UInt8) : (hdI m l).code = 0 ∨ ((hdI m l).front = 0 ∧ (hdI m l).size = 0 ∧ (hdI m l).short = false) := by
  unfold hdI
  split
  · exact .inl rfl
  · split
    · exact .inr ⟨rfl, rfl, rfl⟩
    · exact .inl rfl
  · split
    · exact .inr ⟨rfl, rfl, rfl⟩
    · exact lenH_cases _ _ _
theorem lenH_short (m : Bool) (k : Nat) (r : List UInt8) (h : (lenH m k r).short = true) : (lenH m k r).front + (lenH m k r).size = 0 ∧ (lenH m k r).code = 0 := by
  revert h
  unfold lenH hShort hBad
  repeat' split
  all_goals simp
theorem lenH_whole (m : Bool) (k : Nat) (r : List UInt8) (h : (lenH m k r).short = false) (hc : (lenH m k r).code = 0) : 2 ≤ (lenH m k r).front := by
  revert h hc
  unfold lenH hShort hBad
  repeat' split
  all_goals simp <;> omega
theorem hdI_short (m : Bool) (l : List UInt8) (h : (hdI m l).short = true) : (hdI m l).front + (hdI m l).size = 0 ∧ (hdI m l).code = 0 := by
  revert h
  unfold hdI
  split
  · exact fun _ => ⟨rfl, rfl⟩
  · split
    · intro h; cases h
    · exact fun _ => ⟨rfl, rfl⟩
  · split
    · intro h; cases h
    · exact lenH_short _ _ _
theorem hdI_whole (m : Bool) (l : List UInt8) (h : (hdI m l).short = false) (hc : (hdI m l).code = 0) : 2 ≤ (hdI m l).front := by
  revert h hc
  unfold hdI
  split
  · intro h; cases h
  · split
    · intro _ h; cases h
    · intro h; cases h
  · split
    · intro _ h; cases h
    · exact lenH_whole _ _ _
/-- Fewer than 2^31 in a head. -/
theorem lenH_small (m : Bool) (k : Nat) (r : List UInt8) (hk : k < 128) : (lenH m k r).front ≤ 8 ∧ (lenH m k r).size ≤ 4096 ∧ (lenH m k r).code ≤ 1009 := by
  unfold lenH hShort hBad four4
  repeat' split
  all_goals simp <;> omega
theorem hdI_small (m : Bool) (l : List UInt8) : (hdI m l).front ≤ 8 ∧ (hdI m l).size ≤ 4096 ∧ (hdI m l).code ≤ 1009 := by
  unfold hdI
  split
  · simp [hShort]
  · split <;> simp [hShort, hBad]
  · split
    · simp [hBad]
    · exact lenH_small _ _ _ (Nat.mod_lt _ (by omega))
end Go.Proofs.YtdegpchofhnipaaDoor
