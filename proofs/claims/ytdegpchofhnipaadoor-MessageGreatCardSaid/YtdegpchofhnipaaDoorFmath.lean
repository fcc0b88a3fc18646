/-
  Frames as bytes, in plain mathematics: numbers of several bytes, what a frame's bytes are, which frame bytes are; there and back. No program is spoken of.
-/
namespace Go.Proofs.YtdegpchofhnipaaDoor

/-! ### Numbers of several bytes -/
def be : Nat → Nat → List UInt8
  | 0, _ => []
  | k + 1, n => UInt8.ofNat (n / 256 ^ k) :: be k n
def valL (l : List UInt8) : Nat := l.foldl (fun a b => 256 * a + b.toNat) 0
theorem be_length : ∀ k n, (be k n).length = k
  | 0, _ => rfl
  | k + 1, n => by simp [be, be_length k n]
theorem be_snoc : ∀ k n, be (k + 1) n = be k (n / 256) ++ [UInt8.ofNat n]
  | 0, n => by simp [be]
  | k + 1, n => by
    have h := be_snoc k n
    show UInt8.ofNat (n / 256 ^ (k + 1)) :: be (k + 1) n = (UInt8.ofNat (n / 256 / 256 ^ k) :: be k (n / 256)) ++ [UInt8.ofNat n]
    rw [h, Nat.div_div_eq_div_mul, Nat.pow_succ, Nat.mul_comm (256 ^ k) 256]
    rfl
theorem valL_nil : valL [] = 0 := rfl
theorem valL_snoc (l : List UInt8) (b : UInt8) : valL (l ++ [b]) = 256 * valL l + b.toNat := by simp [valL]
theorem snocRec {P : List UInt8 → Prop} (h0 : P []) (h1 : ∀ l b, P l → P (l ++ [b])) : ∀ l, P l := by
  have : ∀ n (l : List UInt8), l.length = n → P l := by
    intro n
    induction n with
    | zero => intro l hl; rw [List.eq_nil_of_length_eq_zero hl]; exact h0
    | succ n ih =>
      intro l hl
      rcases List.eq_nil_or_concat l with h | ⟨x, b, h⟩
      · rw [h] at hl; simp at hl
      · subst h
        rw [List.concat_eq_append] at hl ⊢
        exact h1 x b (ih x (by simpa using hl))
  exact fun l => this _ l rfl
theorem ofNat_toNat_mod (n : Nat) : (UInt8.ofNat n).toNat = n % 256 := by simp
theorem ofNat_add_mul (a : Nat) (b : UInt8) : UInt8.ofNat (256 * a + b.toNat) = b := by
  apply UInt8.toNat_inj.1
  rw [ofNat_toNat_mod]
  have := b.toNat_lt
  omega
theorem valL_lt (l : List UInt8) : valL l < 256 ^ l.length := by
  induction l using snocRec with
  | h0 => simp [valL]
  | h1 l b ih =>
    rw [valL_snoc, List.length_append, List.length_singleton, Nat.pow_succ]
    have := b.toNat_lt
    omega
theorem valL_be : ∀ k n, n < 256 ^ k → valL (be k n) = n
  | 0, n, h => by simp at h; subst h; rfl
  | k + 1, n, h => by
    rw [be_snoc, valL_snoc, valL_be k (n / 256) (by rw [Nat.pow_succ] at h; omega), ofNat_toNat_mod]
    omega
theorem be_valL (l : List UInt8) : be l.length (valL l) = l := by
  induction l using snocRec with
  | h0 => rfl
  | h1 l b ih =>
    have h := b.toNat_lt
    rw [valL_snoc, List.length_append, List.length_singleton, be_snoc, show (256 * valL l + b.toNat) / 256 = valL l by omega, ih, ofNat_add_mul]
theorem be_valL' {l : List UInt8} {k : Nat} (h : l.length = k) : be k (valL l) = l := by subst h; exact be_valL l
theorem valL_lt' {l : List UInt8} {k : Nat} (h : l.length = k) : valL l < 256 ^ k := by subst h; exact valL_lt l
theorem take_app {α : Type} {k : Nat} {a b : List α} (h : a.length = k) : (a ++ b).take k = a := by subst h; simp
theorem drop_app {α : Type} {k : Nat} {a b : List α} (h : a.length = k) : (a ++ b).drop k = b := by subst h; simp

/-! ### Frames -/
structure Frm where
  ty : Nat
  fl : Nat
  st : Nat
  dat : List UInt8
  pad : Int
  code : Nat
  oth : Nat
  wt : Nat
  al : Bool
  win : Nat
  sets : List (Nat × Nat)

def PadP (ty fl : Nat) : Prop := (ty = 0 ∨ ty = 1 ∨ ty = 5) ∧ fl / 8 % 2 = 1
def LeanP (ty fl : Nat) : Prop := ty = 2 ∨ ty = 1 ∧ fl / 32 % 2 = 1
instance (a b : Nat) : Decidable (PadP a b) := inferInstanceAs (Decidable (_ ∧ _))
instance (a b : Nat) : Decidable (LeanP a b) := inferInstanceAs (Decidable (_ ∨ _))
def padB (ty fl : Nat) : Bool := decide (PadP ty fl)
def leanB (ty fl : Nat) : Bool := decide (LeanP ty fl)
def aheadN (ty fl : Nat) : Nat := if leanB ty fl = true then 5 else if ty = 3 ∨ ty = 5 ∨ ty = 8 then 4 else if ty = 7 then 8 else 0

def setsL (l : List (Nat × Nat)) : List UInt8 := l.flatMap fun s => be 2 s.1 ++ be 4 s.2
def frontL (f : Frm) : List UInt8 :=
  if leanB f.ty f.fl = true then be 4 (f.oth + if f.al = true then 2147483648 else 0) ++ [UInt8.ofNat f.wt]
  else if f.ty = 3 then be 4 f.code
  else if f.ty = 4 then setsL f.sets
  else if f.ty = 5 then be 4 f.oth
  else if f.ty = 7 then be 4 f.oth ++ be 4 f.code
  else if f.ty = 8 then be 4 f.win
  else []
def payL (f : Frm) : List UInt8 := if 0 ≤ f.pad then UInt8.ofNat f.pad.toNat :: (frontL f ++ f.dat ++ List.replicate f.pad.toNat 0) else frontL f ++ f.dat
def headL (n ty fl st : Nat) : List UInt8 := be 3 n ++ [UInt8.ofNat ty, UInt8.ofNat fl] ++ be 4 st
def putL7 (f : Frm) : List UInt8 := headL (payL f).length f.ty f.fl f.st ++ payL f

/-- May a frame be whose numbers are these (dn: bytes of its Data; sn: how many Settings)? -/
def PadOk (ty fl : Nat) (pad : Int) : Prop := (PadP ty fl → 0 ≤ pad ∧ pad ≤ 255) ∧ (¬ PadP ty fl → pad = -1)
def OwnP (ty fl dn code oth wt : Nat) (al : Bool) (win sn : Nat) : Prop :=
  (wt ≠ 0 → LeanP ty fl) ∧ (al = true → LeanP ty fl) ∧ (oth ≠ 0 → LeanP ty fl ∨ ty = 5 ∨ ty = 7) ∧ (code ≠ 0 → ty = 3 ∨ ty = 7) ∧ (win ≠ 0 → ty = 8) ∧ (sn ≠ 0 → ty = 4) ∧ (dn ≠ 0 → ¬ (ty = 2 ∨ ty = 3 ∨ ty = 4 ∨ ty = 8))
def sizeZ (ty fl dn : Nat) (pad : Int) (sn : Nat) : Int := aheadN ty fl + 6 * sn + dn + if padB ty fl = true then 1 + pad else 0
def MayP (ty fl st dn : Nat) (pad : Int) (code oth wt : Nat) (al : Bool) (win sn : Nat) : Prop :=
  (st ≤ 2147483647 ∧ oth ≤ 2147483647 ∧ win ≤ 2147483647) ∧ (ty = 6 → dn = 8) ∧ PadOk ty fl pad ∧ OwnP ty fl dn code oth wt al win sn ∧ sizeZ ty fl dn pad sn ≤ 16384
instance (a b : Nat) (c : Int) : Decidable (PadOk a b c) := inferInstanceAs (Decidable (_ ∧ _))
instance (a b c d e f : Nat) (g : Bool) (h i : Nat) : Decidable (OwnP a b c d e f g h i) := inferInstanceAs (Decidable (_ ∧ _))
instance (a b c d : Nat) (e : Int) (f g h : Nat) (i : Bool) (j k : Nat) : Decidable (MayP a b c d e f g h i j k) := inferInstanceAs (Decidable (_ ∧ _))

/-! ### Which frame bytes are -/
def hdN (ty fl st : Nat) : Frm := ⟨ty, fl, st, [], -1, 0, 0, 0, false, 0, []⟩
def WrongP (ty st : Nat) : Prop := ((ty = 0 ∨ ty = 1 ∨ ty = 2 ∨ ty = 3 ∨ ty = 5 ∨ ty = 9) ∧ st = 0) ∨ ((ty = 4 ∨ ty = 6 ∨ ty = 7) ∧ st ≠ 0)
instance (a b : Nat) : Decidable (WrongP a b) := inferInstanceAs (Decidable (_ ∨ _))
def wrongB (ty st : Nat) : Bool := decide (WrongP ty st)
def LenP (ty fl n : Nat) : Prop := (ty = 1 ∧ fl / 32 % 2 = 1 → 5 ≤ n) ∧ (ty = 2 → n = 5) ∧ (ty = 3 ∨ ty = 8 → n = 4) ∧ (ty = 4 → n % 6 = 0 ∧ (fl % 2 = 1 → n = 0)) ∧ (ty = 5 → 4 ≤ n) ∧ (ty = 6 → n = 8) ∧ (ty = 7 → 8 ≤ n)
instance (a b c : Nat) : Decidable (LenP a b c) := inferInstanceAs (Decidable (_ ∧ _))
def lenB (ty fl n : Nat) : Bool := decide (LenP ty fl n)
/-- The padding and what is left; or the fault's code. -/
def padN (ty fl : Nat) (s : List UInt8) : Except Nat (Int × List UInt8) :=
  if padB ty fl = true then
    match s with
    | [] => .error 6
    | p :: r => if r.length < p.toNat then .error 1 else .ok (p.toNat, r.take (r.length - p.toNat))
  else .ok (-1, s)
def setsN : List UInt8 → List (Nat × Nat)
  | a :: b :: c :: d :: e :: f :: r => (valL [a, b], valL [c, d, e, f]) :: setsN r
  | _ => []
def bodyN (ty fl st : Nat) (pad : Int) (s : List UInt8) : Frm :=
  if leanB ty fl = true then ⟨ty, fl, st, s.drop 5, pad, 0, valL (s.take 4) % 2147483648, (s.getD 4 0).toNat, decide (2147483648 ≤ valL (s.take 4)), 0, []⟩
  else if ty = 3 then ⟨ty, fl, st, [], pad, valL (s.take 4), 0, 0, false, 0, []⟩
  else if ty = 4 then ⟨ty, fl, st, [], pad, 0, 0, 0, false, 0, setsN s⟩
  else if ty = 5 then ⟨ty, fl, st, s.drop 4, pad, 0, valL (s.take 4) % 2147483648, 0, false, 0, []⟩
  else if ty = 7 then ⟨ty, fl, st, s.drop 8, pad, valL ((s.drop 4).take 4), valL (s.take 4) % 2147483648, 0, false, 0, []⟩
  else if ty = 8 then ⟨ty, fl, st, [], pad, 0, 0, 0, false, valL (s.take 4) % 2147483648, []⟩
  else ⟨ty, fl, st, s, pad, 0, 0, 0, false, 0, []⟩
def growN (ty st win : Nat) : Nat := if ty = 8 ∧ win = 0 then (if st = 0 then 1 else 2) else 0
/-- A frame's payload: the frame, the fault's scope and code. -/
def readN (ty fl st : Nat) (s : List UInt8) : Frm × Nat × Nat :=
  if 16384 < s.length then (hdN ty fl st, 1, 6)
  else if wrongB ty st = true then (hdN ty fl st, 1, 1)
  else match padN ty fl s with
    | .error c => (hdN ty fl st, 1, c)
    | .ok (pad, r) =>
      if lenB ty fl r.length = false then (hdN ty fl st, if ty = 2 then 2 else 1, 6)
      else if growN ty st (bodyN ty fl st pad r).win = 0 then (bodyN ty fl st pad r, 0, 0)
      else (hdN ty fl st, growN ty st (bodyN ty fl st pad r).win, 1)
def getN (b : List UInt8) : Frm × Nat × Nat :=
  if b.length < 9 ∨ b.length ≠ 9 + valL (b.take 3) then (hdN 0 0 0, 1, 6)
  else readN (b.getD 3 0).toNat (b.getD 4 0).toNat (valL ((b.drop 5).take 4) % 2147483648) (b.drop 9)

/-! ### There and back -/
theorem setsL_nil : setsL [] = [] := rfl
theorem setsL_cons (s : Nat × Nat) (l : List (Nat × Nat)) : setsL (s :: l) = be 2 s.1 ++ be 4 s.2 ++ setsL l := by simp [setsL]
theorem setsL_snoc (l : List (Nat × Nat)) (s : Nat × Nat) : setsL (l ++ [s]) = setsL l ++ (be 2 s.1 ++ be 4 s.2) := by simp [setsL]
theorem setsL_length (l : List (Nat × Nat)) : (setsL l).length = 6 * l.length := by
  induction l with
  | nil => rfl
  | cons s l ih => rw [setsL_cons, List.length_append, List.length_append, be_length, be_length, ih, List.length_cons]; omega
theorem six {l : List UInt8} (h : 6 ≤ l.length) : ∃ a b c d e f r, l = a :: b :: c :: d :: e :: f :: r := by
  match l, h with
  | a :: b :: c :: d :: e :: f :: r, _ => exact ⟨a, b, c, d, e, f, r, rfl⟩
theorem be2 (n : Nat) : be 2 n = [UInt8.ofNat (n / 256), UInt8.ofNat n] := by simp [be]
theorem be3 (n : Nat) : be 3 n = [UInt8.ofNat (n / 65536), UInt8.ofNat (n / 256), UInt8.ofNat n] := by simp [be]
theorem be4 (n : Nat) : be 4 n = [UInt8.ofNat (n / 16777216), UInt8.ofNat (n / 65536), UInt8.ofNat (n / 256), UInt8.ofNat n] := by simp [be]
theorem setsN_setsL : ∀ l : List (Nat × Nat), (∀ s ∈ l, s.1 < 65536 ∧ s.2 < 4294967296) → setsN (setsL l) = l
  | [], _ => rfl
  | s :: l, h => by
    have hs := h s (by simp)
    rw [setsL_cons, be2, be4]
    show (valL _, valL _) :: setsN (setsL l) = _
    rw [setsN_setsL l fun x hx => h x (by simp [hx]), ← be2, ← be4, valL_be 2 _ hs.1, valL_be 4 _ hs.2]
theorem setsL_setsN : ∀ (n : Nat) (l : List UInt8), l.length = 6 * n → setsL (setsN l) = l ∧ (setsN l).length = n
  | 0, l, h => by
    have : l = [] := List.eq_nil_of_length_eq_zero (by omega)
    subst this
    exact ⟨rfl, rfl⟩
  | n + 1, l, h => by
    obtain ⟨a, b, c, d, e, f, r, rfl⟩ := six (l := l) (by omega)
    have ih := setsL_setsN n r (by simp at h; omega)
    show setsL ((valL [a, b], valL [c, d, e, f]) :: setsN r) = _ ∧ (setsN r).length + 1 = n + 1
    rw [setsL_cons, ih.1, ih.2]
    have h1 := be_valL [a, b]
    have h2 := be_valL [c, d, e, f]
    simp only [List.length_cons, List.length_nil, Nat.zero_add, Nat.reduceAdd] at h1 h2
    exact ⟨by rw [h1, h2]; rfl, rfl⟩
theorem setsN_bd : ∀ (n : Nat) (l : List UInt8), l.length = 6 * n → ∀ s ∈ setsN l, s.1 < 65536 ∧ s.2 < 4294967296
  | 0, l, h => by
    have : l = [] := List.eq_nil_of_length_eq_zero (by omega)
    subst this
    intro s hs
    cases hs
  | n + 1, l, h => by
    obtain ⟨a, b, c, d, e, f, r, rfl⟩ := six (l := l) (by omega)
    intro s hs
    have hs' : s ∈ (valL [a, b], valL [c, d, e, f]) :: setsN r := hs
    rcases List.mem_cons.1 hs' with rfl | hs'
    · have h1 := valL_lt [a, b]
      have h2 := valL_lt [c, d, e, f]
      simp only [List.length_cons, List.length_nil, Nat.zero_add, Nat.reduceAdd, Nat.reducePow] at h1 h2
      exact ⟨h1, h2⟩
    · exact setsN_bd n r (by simp at h; omega) s hs'

theorem frontL_length (f : Frm) (h : f.sets.length ≠ 0 → f.ty = 4) : (frontL f).length = aheadN f.ty f.fl + 6 * f.sets.length := by
  unfold frontL aheadN
  by_cases hl : leanB f.ty f.fl = true
  · have : f.sets.length = 0 := by
      rcases Nat.eq_zero_or_pos f.sets.length with h0 | h0
      · exact h0
      · have h4 := h (by omega)
        have := of_decide_eq_true hl
        unfold LeanP at this
        omega
    rw [if_pos hl, if_pos hl, List.length_append, be_length, this]
    rfl
  · rw [if_neg hl, if_neg hl]
    by_cases h4 : f.ty = 4
    · rw [if_neg (by omega), if_pos h4, if_neg (by omega), if_neg (by omega), setsL_length]
      omega
    · have : f.sets.length = 0 := Classical.byContradiction fun h0 => h4 (h h0)
      rw [this]
      repeat' split
      all_goals first | omega | simp [be_length]
theorem payL_length (f : Frm) (h : f.sets.length ≠ 0 → f.ty = 4) (hp : PadOk f.ty f.fl f.pad) : ((payL f).length : Int) = sizeZ f.ty f.fl f.dat.length f.pad f.sets.length := by
  have hf := frontL_length f h
  unfold payL sizeZ
  by_cases hb : PadP f.ty f.fl
  · have h0 := hp.1 hb
    rw [if_pos h0.1, if_pos (show padB f.ty f.fl = true from decide_eq_true hb)]
    simp only [List.length_cons, List.length_append, List.length_replicate, hf]
    omega
  · have h0 := hp.2 hb
    rw [if_neg (by omega), if_neg (by simpa [padB] using hb)]
    simp only [List.length_append, hf]
    omega
end Go.Proofs.YtdegpchofhnipaaDoor
