/-
  Texts and their writings in the Huffman code, as plain lists of bits. No conditions but those that each theorem names; no program.
-/
import Derived.Test.YtfajffchnnalaaaHuf
namespace Go.Proofs.Ytfajffchnnalaaa

/-- How many bits the codes of these bytes have. -/
def bitsN (l : List UInt8) : Nat := (l.map fun b => ln b.toNat).sum
theorem bitsN_append (l m : List UInt8) : bitsN (l ++ m) = bitsN l + bitsN m := by simp [bitsN]
theorem bitsN_cons (b : UInt8) (l : List UInt8) : bitsN (b :: l) = ln b.toNat + bitsN l := by simp [bitsN]
theorem bitsN_bd (l : List UInt8) : 5 * l.length ≤ bitsN l ∧ bitsN l ≤ 30 * l.length := by
  induction l with
  | nil => simp [bitsN]
  | cons b l ih =>
    have := ln_all b.toNat (by have := b.toNat_lt; omega)
    rw [bitsN_cons, List.length_cons]
    omega

/-! ### Bits, the highest first -/
/-- A row of bits as a number. -/
def val (l : List Bool) : Nat := l.foldl (fun a b => 2 * a + b.toNat) 0
theorem val_from (l : List Bool) : ∀ a, l.foldl (fun a b => 2 * a + b.toNat) a = a * 2 ^ l.length + val l := by
  induction l with
  | nil => intro a; simp [val]
  | cons b l ih =>
    intro a
    rw [List.foldl_cons, ih, show val (b :: l) = l.foldl (fun a b => 2 * a + b.toNat) (2 * 0 + b.toNat) from rfl, ih, List.length_cons, Nat.pow_succ]
    simp only [Nat.add_mul, Nat.mul_zero, Nat.zero_add]
    rw [show 2 * a * 2 ^ l.length = a * (2 ^ l.length * 2) by rw [Nat.mul_comm 2 a, Nat.mul_assoc, Nat.mul_comm 2]]
    omega
theorem val_append (a b : List Bool) : val (a ++ b) = val a * 2 ^ b.length + val b := by
  rw [val, List.foldl_append, val_from]; rfl
theorem val_cons (b : Bool) (l : List Bool) : val (b :: l) = b.toNat * 2 ^ l.length + val l := by
  have := val_append [b] l
  simpa [val] using this
theorem val_nil : val [] = 0 := rfl
theorem val_lt (l : List Bool) : val l < 2 ^ l.length := by
  induction l with
  | nil => simp [val]
  | cons b l ih =>
    rw [val_cons, List.length_cons, Nat.pow_succ]
    cases b <;> simp <;> omega
theorem val_inj : ∀ {a b : List Bool}, a.length = b.length → val a = val b → a = b := by
  intro a
  induction a with
  | nil => intro b h _; exact (List.eq_nil_of_length_eq_zero h.symm).symm
  | cons x a ih =>
    intro b h hv
    cases b with
    | nil => simp at h
    | cons y b =>
      have hl : a.length = b.length := by simpa using h
      rw [val_cons, val_cons, hl] at hv
      have ha := val_lt a
      have hb := val_lt b
      rw [hl] at ha
      have hxy : x = y := by cases x <;> cases y <;> simp at hv ⊢ <;> omega
      subst hxy
      rw [ih hl (by omega)]
theorem val_ones (n : Nat) : val (List.replicate n true) = 2 ^ n - 1 := by
  induction n with
  | zero => rfl
  | succ n ih =>
    rw [List.replicate_succ, val_cons, ih, List.length_replicate, Nat.pow_succ]
    have : 0 < 2 ^ n := Nat.two_pow_pos n
    simp
    omega
/-- So many bits of a number. -/
def toBits : Nat → Nat → List Bool
  | 0, _ => []
  | n + 1, v => toBits n (v / 2) ++ [v % 2 == 1]
theorem toBits_len (n : Nat) : ∀ v, (toBits n v).length = n := by
  induction n with
  | zero => intro v; rfl
  | succ n ih => intro v; simp [toBits, ih]
theorem toBits_val (n : Nat) : ∀ v, val (toBits n v) = v % 2 ^ n := by
  induction n with
  | zero => intro v; simp [toBits, val, Nat.mod_one]
  | succ n ih =>
    intro v
    rw [toBits, val_append, ih, Nat.pow_succ]
    have h1 : val [v % 2 == 1] = v % 2 := by
      rcases Nat.mod_two_eq_zero_or_one v with h | h <;> simp [h, val]
    rw [h1]
    simp only [List.length_cons, List.length_nil, Nat.zero_add, Nat.pow_one]
    rw [show 2 ^ n * 2 = 2 * 2 ^ n by omega, Nat.mod_mul]
    omega
theorem toBits_of {l : List Bool} {n : Nat} (h : l.length = n) : toBits n (val l) = l := by
  subst h
  exact val_inj (toBits_len _ _) (by rw [toBits_val, Nat.mod_eq_of_lt (val_lt l)])

/-- A sign's code, bit by bit. -/
def codeB (i : Nat) : List Bool := toBits (ln i) (cd i)
theorem cd_all : ∀ i, i < 257 → cd i < 2 ^ ln i := by decide +kernel
theorem codeB_len (i : Nat) : (codeB i).length = ln i := toBits_len _ _
theorem codeB_val {i : Nat} (h : i < 257) : val (codeB i) = cd i := by
  unfold codeB
  rw [toBits_val, Nat.mod_eq_of_lt (cd_all i h)]
/-- A text's codes, one behind the other. -/
def encB (l : List UInt8) : List Bool := l.flatMap fun b => codeB b.toNat
theorem encB_append (l m : List UInt8) : encB (l ++ m) = encB l ++ encB m := by simp [encB]
theorem encB_len (l : List UInt8) : (encB l).length = bitsN l := by
  induction l with
  | nil => rfl
  | cons b l ih =>
    rw [bitsN_cons, ← ih, ← codeB_len]
    simp [encB]
/-- A byte's bits; bytes' bits. -/
def byteB (b : UInt8) : List Bool := toBits 8 b.toNat
def unpack (l : List UInt8) : List Bool := l.flatMap byteB
theorem byteB_len (b : UInt8) : (byteB b).length = 8 := toBits_len _ _
theorem byteB_val (b : UInt8) : val (byteB b) = b.toNat := by
  unfold byteB
  rw [toBits_val]
  have := b.toNat_lt
  exact Nat.mod_eq_of_lt (by omega)
theorem byteB_of {l : List Bool} (h : l.length = 8) : byteB (UInt8.ofNat (val l)) = l := by
  have h1 := val_lt l
  rw [h] at h1
  refine val_inj (by rw [byteB_len, h]) ?_
  rw [byteB_val]
  simp
  omega
theorem unpack_append (l m : List UInt8) : unpack (l ++ m) = unpack l ++ unpack m := by simp [unpack]
theorem unpack_one (b : UInt8) : unpack [b] = byteB b := by simp [unpack]
theorem unpack_len (l : List UInt8) : (unpack l).length = 8 * l.length := by
  induction l with
  | nil => rfl
  | cons b l ih =>
    have : unpack (b :: l) = byteB b ++ unpack l := by simp [unpack]
    rw [this, List.length_append, byteB_len, ih, List.length_cons]
    omega
theorem unpack_inj : ∀ {l m : List UInt8}, unpack l = unpack m → l = m := by
  intro l
  induction l with
  | nil =>
    intro m h
    have := congrArg List.length h
    rw [unpack_len, unpack_len] at this
    simp at this
    exact (List.eq_nil_of_length_eq_zero (by omega)).symm
  | cons b l ih =>
    intro m h
    cases m with
    | nil =>
      have := congrArg List.length h
      rw [unpack_len, unpack_len] at this
      simp at this
    | cons c m =>
      have h1 : byteB b ++ unpack l = byteB c ++ unpack m := by simpa [unpack] using h
      obtain ⟨h2, h3⟩ := List.append_inj h1 (by rw [byteB_len, byteB_len])
      have h4 : b = c := by
        have := congrArg val h2
        rw [byteB_val, byteB_val] at this
        exact UInt8.toNat_inj.1 this
      rw [h4, ih h3]
/-- Bits as bytes. -/
def pack : List Bool → List UInt8
  | a :: b :: c :: d :: e :: f :: g :: h :: t => UInt8.ofNat (val [a, b, c, d, e, f, g, h]) :: pack t
  | _ => []
theorem pack_eight {p q : List Bool} (h : p.length = 8) : pack (p ++ q) = UInt8.ofNat (val p) :: pack q := by
  match p, h with
  | [a, b, c, d, e, f, g, h], _ => rfl
theorem unpack_pack : ∀ (n : Nat) (l : List Bool), l.length = 8 * n → unpack (pack l) = l
  | 0, l, h => by
    have : l = [] := List.eq_nil_of_length_eq_zero (by omega)
    subst this
    rfl
  | n + 1, l, h => by
    have h1 : (l.take 8).length = 8 := by rw [List.length_take]; omega
    have h2 : l = l.take 8 ++ l.drop 8 := (List.take_append_drop 8 l).symm
    rw [h2, pack_eight h1]
    have h3 : ∀ b m, unpack (b :: m) = byteB b ++ unpack m := fun b m => by simp [unpack]
    rw [h3, byteB_of h1, unpack_pack n (l.drop 8) (by rw [List.length_drop]; omega)]
/-- Filled up with ones to whole bytes. -/
def pad (l : List Bool) : List Bool := l ++ List.replicate ((8 - l.length % 8) % 8) true
theorem pad_len (l : List Bool) : (pad l).length = 8 * ((l.length + 7) / 8) := by
  unfold pad
  rw [List.length_append, List.length_replicate]
  omega
/-- A text's writing. -/
def encL (l : List UInt8) : List UInt8 := pack (pad (encB l))
theorem encL_bits (l : List UInt8) : unpack (encL l) = pad (encB l) := unpack_pack _ _ (pad_len _)
theorem encL_of {L l : List UInt8} (h : unpack L = pad (encB l)) : L = encL l := unpack_inj (h.trans (encL_bits l).symm)
theorem encL_len (l : List UInt8) : (encL l).length = (bitsN l + 7) / 8 := by
  have h1 := congrArg List.length (encL_bits l)
  rw [unpack_len, pad_len, encB_len] at h1
  omega
end Go.Proofs.Ytfajffchnnalaaa
