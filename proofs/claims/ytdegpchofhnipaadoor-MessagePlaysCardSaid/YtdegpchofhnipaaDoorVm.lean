/-
  Letters as bytes; a machine that reads them byte by byte; the document's way to tell whether bytes are the beginning of a letter is the machine's; pieces. Plain mathematics, no program.
-/
import Init
namespace Go.Proofs.YtdegpchofhnipaaDoor
/-- A letter. -/
def LetP (n : Nat) : Prop := n < 1114112 ∧ (n < 55296 ∨ 57343 < n)
instance (n : Nat) : Decidable (LetP n) := inferInstanceAs (Decidable (_ ∧ _))
/-- A letter's bytes. -/
def lwN (n : Nat) : List Nat :=
  if n < 128 then [n] else if n < 2048 then [192 + n / 64, 128 + n % 64] else if n < 65536 then [224 + n / 4096, 128 + n / 64 % 64, 128 + n % 64] else [240 + n / 262144, 128 + n / 4096 % 64, 128 + n / 64 % 64, 128 + n % 64]
/-- How many bytes a letter has that begins so. -/
def szN (c : Nat) : Nat := if c < 128 then 1 else if 192 ≤ c ∧ c < 224 then 2 else if 224 ≤ c ∧ c < 240 then 3 else if 240 ≤ c ∧ c < 248 then 4 else 0
/-- A checker's state: how many bytes are left of a letter, between which bounds the next one must be. -/
structure Ut where
  k : Nat
  lo : Nat
  hi : Nat
  deriving DecidableEq
def ut0 : Ut := ⟨0, 0, 0⟩
/-- A byte comes: the state behind it, or it is bad. -/
def utN (s : Ut) (c : Nat) : Option Ut :=
  if s.k = 0 then
    if c < 128 then some ut0
    else if 194 ≤ c ∧ c < 224 then some ⟨1, 128, 191⟩
    else if c = 224 then some ⟨2, 160, 191⟩
    else if c = 237 then some ⟨2, 128, 159⟩
    else if 225 ≤ c ∧ c < 240 then some ⟨2, 128, 191⟩
    else if c = 240 then some ⟨3, 144, 191⟩
    else if c = 244 then some ⟨3, 128, 143⟩
    else if 241 ≤ c ∧ c < 244 then some ⟨3, 128, 191⟩
    else none
  else if s.lo ≤ c ∧ c ≤ s.hi then (if s.k = 1 then some ut0 else some ⟨s.k - 1, 128, 191⟩) else none
/-- How far a row of bytes goes from a state: how many ahead of the bad one, and the state behind all of them if none is. -/
def goN (s : Ut) : List Nat → Nat × Option Ut
  | [] => (0, some s)
  | c :: r => match utN s c with
    | none => (0, none)
    | some s' => ((goN s' r).1 + 1, (goN s' r).2)
/-- The bytes are the beginning of a letter's. -/
def begP (s : List Nat) : Prop := ∃ n, LetP n ∧ s <+: lwN n
theorem wr_len (n : Nat) : (lwN n).length = 1 ∨ (lwN n).length = 2 ∨ (lwN n).length = 3 ∨ (lwN n).length = 4 := by
  unfold lwN; repeat' split
  all_goals simp
theorem go_wr (n : Nat) (h : LetP n) : goN ut0 (lwN n) = ((lwN n).length, some ut0) := by
  obtain ⟨h1, h2⟩ := h
  unfold lwN
  split
  · rename_i h0; simp [goN, utN, ut0, h0]
  split
  · have a1 : ¬ 192 + n / 64 < 128 := by omega
    have a2 : 194 ≤ 192 + n / 64 ∧ 192 + n / 64 < 224 := by omega
    have a3 : 128 ≤ 128 + n % 64 ∧ 128 + n % 64 ≤ 191 := by omega
    simp only [goN, utN, ut0, if_true, if_neg a1, if_pos a2, if_pos a3]
    simp
  split
  · have a3 : 128 ≤ 128 + n % 64 ∧ 128 + n % 64 ≤ 191 := by omega
    have a1 : ¬ 224 + n / 4096 < 128 := by omega
    have a2 : ¬ (194 ≤ 224 + n / 4096 ∧ 224 + n / 4096 < 224) := by omega
    by_cases e1 : 224 + n / 4096 = 224
    · have a4 : 160 ≤ 128 + n / 64 % 64 ∧ 128 + n / 64 % 64 ≤ 191 := by omega
      simp only [goN, utN, ut0, if_true, if_neg a1, if_neg a2, if_pos e1, if_pos a4]
      simp [a3]
    · by_cases e2 : 224 + n / 4096 = 237
      · have a4 : 128 ≤ 128 + n / 64 % 64 ∧ 128 + n / 64 % 64 ≤ 159 := by omega
        simp only [goN, utN, ut0, if_true, if_neg a1, if_neg a2, if_neg e1, if_pos e2, if_pos a4]
        simp [a3]
      · have a5 : 225 ≤ 224 + n / 4096 ∧ 224 + n / 4096 < 240 := by omega
        have a4 : 128 ≤ 128 + n / 64 % 64 ∧ 128 + n / 64 % 64 ≤ 191 := by omega
        simp only [goN, utN, ut0, if_true, if_neg a1, if_neg a2, if_neg e1, if_neg e2, if_pos a5, if_pos a4]
        simp [a3]
  · have a3 : 128 ≤ 128 + n % 64 ∧ 128 + n % 64 ≤ 191 := by omega
    have a6 : 128 ≤ 128 + n / 64 % 64 ∧ 128 + n / 64 % 64 ≤ 191 := by omega
    have a1 : ¬ 240 + n / 262144 < 128 := by omega
    have a2 : ¬ (194 ≤ 240 + n / 262144 ∧ 240 + n / 262144 < 224) := by omega
    have b1 : ¬ 240 + n / 262144 = 224 := by omega
    have b2 : ¬ 240 + n / 262144 = 237 := by omega
    have b3 : ¬ (225 ≤ 240 + n / 262144 ∧ 240 + n / 262144 < 240) := by omega
    by_cases e1 : 240 + n / 262144 = 240
    · have a4 : 144 ≤ 128 + n / 4096 % 64 ∧ 128 + n / 4096 % 64 ≤ 191 := by omega
      simp only [goN, utN, ut0, if_true, if_neg a1, if_neg a2, if_neg b1, if_neg b2, if_neg b3, if_pos e1, if_pos a4]
      simp [a6, a3]
    · by_cases e2 : 240 + n / 262144 = 244
      · have a4 : 128 ≤ 128 + n / 4096 % 64 ∧ 128 + n / 4096 % 64 ≤ 143 := by omega
        simp only [goN, utN, ut0, if_true, if_neg a1, if_neg a2, if_neg b1, if_neg b2, if_neg b3, if_neg e1, if_pos e2, if_pos a4]
        simp [a6, a3]
      · have a5 : 241 ≤ 240 + n / 262144 ∧ 240 + n / 262144 < 244 := by omega
        have a4 : 128 ≤ 128 + n / 4096 % 64 ∧ 128 + n / 4096 % 64 ≤ 191 := by omega
        simp only [goN, utN, ut0, if_true, if_neg a1, if_neg a2, if_neg b1, if_neg b2, if_neg b3, if_neg e1, if_neg e2, if_pos a5, if_pos a4]
        simp [a6, a3]
theorem go_app : ∀ (l m : List Nat) (s t : Ut), (goN s l).2 = some t → goN s (l ++ m) = (l.length + (goN t m).1, (goN t m).2)
  | [], m, s, t, h => by simp [goN] at h; subst h; simp
  | c :: l, m, s, t, h => by
    simp only [goN, List.cons_append] at h ⊢
    cases hs : utN s c with
    | none => rw [hs] at h; simp at h
    | some u =>
      rw [hs] at h
      have := go_app l m u t h
      simp only [this, List.length_cons]
      simp; omega
theorem go_none : ∀ (l m : List Nat) (s : Ut), (goN s l).2 = none → goN s (l ++ m) = goN s l
  | [], m, s, h => by simp [goN] at h
  | c :: l, m, s, h => by
    simp only [goN, List.cons_append] at h ⊢
    cases hs : utN s c with
    | none => rfl
    | some u => rw [hs] at h; simp only [go_none l m u h]
theorem go_some_len : ∀ (l : List Nat) (s t : Ut), (goN s l).2 = some t → (goN s l).1 = l.length
  | [], _, _, _ => rfl
  | c :: l, s, t, h => by
    simp only [goN] at h ⊢
    cases hs : utN s c with
    | none => rw [hs] at h; simp at h
    | some u => rw [hs] at h; simp only [go_some_len l u t h, List.length_cons]
theorem go_pre {l m : List Nat} {s : Ut} (h : l <+: m) (hm : (goN s m).2.isSome) : (goN s l).2.isSome := by
  obtain ⟨r, rfl⟩ := h
  cases h2 : (goN s l).2 with
  | none => rw [go_none l r s h2, h2] at hm; simp at hm
  | some t => rfl
/-! ### The document's way -/
def ldN (c : Nat) : Nat := if szN c = 2 then c - 192 else if szN c = 3 then c - 224 else if szN c = 4 then c - 240 else c
/-- The least and the greatest letter with these bits. -/
def rngN : List Nat → Nat → Nat → Nat → Option (Nat × Nat)
  | _, 0, lo, hi => some (lo, hi)
  | [], k + 1, lo, hi => rngN [] k (64 * lo) (64 * hi + 63)
  | c :: r, k + 1, lo, hi => if c < 128 ∨ 191 < c then none else rngN r k (64 * lo + c - 128) (64 * hi + c - 128)
def candN (lo hi : Nat) : List Nat := [lo, hi, min hi 1114111, max lo 2048, max lo 65536, max lo 128, min hi 55295, max lo 57344]
def fitB (lo hi n : Nat) (s : List Nat) (x : Nat) : Bool := decide (lo ≤ x ∧ x ≤ hi ∧ LetP x ∧ (lwN x).length = n ∧ (lwN x).take s.length = s)
def begR : List Nat → Bool
  | [] => false
  | c :: r => if szN c < r.length + 1 then false else match rngN r (szN c - 1) (ldN c) (ldN c) with
    | none => false
    | some (lo, hi) => (candN lo hi).any (fitB lo hi (szN c) (c :: r))
theorem begR_cons (c : Nat) (r : List Nat) : begR (c :: r) = if szN c < r.length + 1 then false else match rngN r (szN c - 1) (ldN c) (ldN c) with
    | none => false
    | some (lo, hi) => (candN lo hi).any (fitB lo hi (szN c) (c :: r)) := rfl
theorem beg_sound {s : List Nat} (h : begR s = true) : (goN ut0 s).2.isSome := by
  match s with
  | [] => rfl
  | c :: r =>
    rw [begR_cons] at h
    by_cases hlt : szN c < r.length + 1
    · rw [if_pos hlt] at h; cases h
    · rw [if_neg hlt] at h
      cases hr : rngN r (szN c - 1) (ldN c) (ldN c) with
      | none => rw [hr] at h; cases h
      | some p =>
        obtain ⟨lo, hi⟩ := p
        rw [hr] at h
        obtain ⟨x, _, hx⟩ := List.any_eq_true.1 h
        obtain ⟨_, _, h3, _, h5⟩ := of_decide_eq_true hx
        refine go_pre (m := lwN x) ?_ (by rw [go_wr x h3]; rfl)
        rw [← h5]
        exact List.take_prefix _ _
theorem fit_any {lo hi n : Nat} {s : List Nat} {x : Nat} (hx : x ∈ candN lo hi) (h : lo ≤ x ∧ x ≤ hi ∧ LetP x ∧ (lwN x).length = n ∧ (lwN x).take s.length = s) : (candN lo hi).any (fitB lo hi n s) = true := List.any_eq_true.2 ⟨x, hx, decide_eq_true h⟩
theorem wr1 {n : Nat} (h : n < 128) : lwN n = [n] := if_pos h
theorem wr2 {n : Nat} (h : 128 ≤ n) (h2 : n < 2048) : lwN n = [192 + n / 64, 128 + n % 64] := by unfold lwN; rw [if_neg (by omega), if_pos h2]
theorem wr3 {n : Nat} (h : 2048 ≤ n) (h2 : n < 65536) : lwN n = [224 + n / 4096, 128 + n / 64 % 64, 128 + n % 64] := by unfold lwN; rw [if_neg (by omega), if_neg (by omega), if_pos h2]
theorem wr4 {n : Nat} (h : 65536 ≤ n) : lwN n = [240 + n / 262144, 128 + n / 4096 % 64, 128 + n / 64 % 64, 128 + n % 64] := by unfold lwN; rw [if_neg (by omega), if_neg (by omega), if_neg (by omega)]
theorem st_first {c : Nat} {u : Ut} (h : utN ut0 c = some u) : (c < 128 ∧ u = ut0) ∨ (194 ≤ c ∧ c < 224 ∧ u = ⟨1, 128, 191⟩) ∨ (c = 224 ∧ u = ⟨2, 160, 191⟩) ∨ (c = 237 ∧ u = ⟨2, 128, 159⟩) ∨ (225 ≤ c ∧ c < 240 ∧ c ≠ 237 ∧ u = ⟨2, 128, 191⟩) ∨ (c = 240 ∧ u = ⟨3, 144, 191⟩) ∨ (c = 244 ∧ u = ⟨3, 128, 143⟩) ∨ (241 ≤ c ∧ c < 244 ∧ u = ⟨3, 128, 191⟩) := by
  unfold utN at h
  rw [if_pos (show ut0.k = 0 from rfl)] at h
  repeat' split at h
  all_goals first | (injection h with h; subst h; simp; omega) | cases h
theorem st_next {k lo hi a : Nat} {u : Ut} (h : utN ⟨k + 1, lo, hi⟩ a = some u) : lo ≤ a ∧ a ≤ hi ∧ u = if k = 0 then ut0 else ⟨k, 128, 191⟩ := by
  unfold utN at h
  rw [if_neg (by simp)] at h
  split at h
  · rename_i h1
    refine ⟨h1.1, h1.2, ?_⟩
    by_cases hk : k = 0
    · subst hk; rw [if_pos rfl] at h; injection h with h; rw [if_pos rfl, h]
    · rw [if_neg (by show ¬ k + 1 = 1; omega)] at h; injection h with h; rw [if_neg hk, ← h]; rfl
  · cases h
theorem go_head {s : Ut} {c : Nat} {r : List Nat} (h : (goN s (c :: r)).2.isSome) : ∃ u, utN s c = some u ∧ (goN u r).2.isSome := by
  simp only [goN] at h
  cases hs : utN s c with
  | none => rw [hs] at h; simp at h
  | some u => rw [hs] at h; exact ⟨u, rfl, h⟩
theorem beg_of {c n : Nat} {r : List Nat} (hn : szN c = n) (hl : r.length + 1 ≤ n) {lo hi x : Nat} (hr : rngN r (n - 1) (ldN c) (ldN c) = some (lo, hi)) (hx : x ∈ candN lo hi) (h : lo ≤ x ∧ x ≤ hi ∧ LetP x ∧ (lwN x).length = n ∧ (lwN x).take (r.length + 1) = c :: r) : begR (c :: r) = true := by
  subst hn
  rw [begR_cons]
  rw [if_neg (by omega), hr]
  exact fit_any hx h
theorem sz2 {c : Nat} (h : 194 ≤ c ∧ c < 224) : szN c = 2 ∧ ldN c = c - 192 := by
  have : szN c = 2 := by unfold szN; rw [if_neg (by omega), if_pos (by omega)]
  exact ⟨this, by unfold ldN; rw [if_pos this]⟩
theorem sz3 {c : Nat} (h : 224 ≤ c ∧ c < 240) : szN c = 3 ∧ ldN c = c - 224 := by
  have : szN c = 3 := by unfold szN; rw [if_neg (by omega), if_neg (by omega), if_pos (by omega)]
  exact ⟨this, by unfold ldN; rw [if_neg (by omega), if_pos this]⟩
theorem sz4 {c : Nat} (h : 240 ≤ c ∧ c < 248) : szN c = 4 ∧ ldN c = c - 240 := by
  have : szN c = 4 := by unfold szN; rw [if_neg (by omega), if_neg (by omega), if_neg (by omega), if_pos (by omega)]
  exact ⟨this, by unfold ldN; rw [if_neg (by omega), if_neg (by omega), if_pos this]⟩
theorem len_le {r : List Nat} {n : Nat} (h : r.length + 1 ≤ n) (hn : n ≤ 4) : r = [] ∨ (∃ a, r = [a] ∧ 2 ≤ n) ∨ (∃ a b, r = [a, b] ∧ 3 ≤ n) ∨ ∃ a b d, r = [a, b, d] ∧ 4 ≤ n := by
  match r, h with
  | [], _ => exact .inl rfl
  | [a], h => exact .inr (.inl ⟨a, rfl, h⟩)
  | [a, b], h => exact .inr (.inr (.inl ⟨a, b, rfl, h⟩))
  | [a, b, d], h => exact .inr (.inr (.inr ⟨a, b, d, rfl, h⟩))
  | a :: b :: d :: e :: r, h => simp at h; omega
theorem mem3 (lo hi : Nat) : max lo 2048 ∈ candN lo hi := by simp [candN]
theorem mem4 (lo hi : Nat) : max lo 65536 ∈ candN lo hi := by simp [candN]
theorem mem1 (lo hi : Nat) : lo ∈ candN lo hi := by simp [candN]
/-- Three bytes: what the first two may be. -/
theorem full3 {c lo hi : Nat} {r : List Nat} (hc : 224 ≤ c ∧ c < 240) (hl : r.length + 1 ≤ 3) (hlo : c = 224 → 160 ≤ lo) (hhi : c = 237 → hi ≤ 159) (h128 : 128 ≤ lo ∧ hi ≤ 191) (h : (goN ⟨2, lo, hi⟩ r).2.isSome) : begR (c :: r) = true := by
  obtain ⟨h1, h2⟩ := sz3 hc
  rcases len_le hl (by omega) with rfl | ⟨a, rfl, _⟩ | ⟨a, b, rfl, _⟩ | ⟨a, b, d, rfl, h4⟩
  · refine beg_of h1 (by simp) (lo := 64 * (64 * (c - 224))) (hi := 64 * (64 * (c - 224) + 63) + 63) (by rw [h2]; rfl) (mem3 _ _) ?_
    rw [wr3 (by omega) (by omega)]
    refine ⟨by omega, by omega, ⟨by omega, by omega⟩, rfl, ?_⟩
    simp; omega
  · obtain ⟨u, ha, _⟩ := go_head h
    obtain ⟨ha1, ha2, _⟩ := st_next ha
    refine beg_of h1 (by simp) (lo := 64 * (64 * (c - 224) + a - 128)) (hi := 64 * (64 * (c - 224) + a - 128) + 63) (by rw [h2]; simp only [rngN]; rw [if_neg (by omega)]) (mem3 _ _) ?_
    rw [wr3 (by omega) (by omega)]
    refine ⟨by omega, by omega, ⟨by omega, by omega⟩, rfl, ?_⟩
    simp; omega
  · obtain ⟨u, ha, hb⟩ := go_head h
    obtain ⟨ha1, ha2, rfl⟩ := st_next ha
    obtain ⟨v, hb, _⟩ := go_head hb
    obtain ⟨hb1, hb2, _⟩ := st_next hb
    refine beg_of h1 (by simp) (lo := 64 * (64 * (c - 224) + a - 128) + b - 128) (hi := 64 * (64 * (c - 224) + a - 128) + b - 128) (by rw [h2]; simp only [rngN]; rw [if_neg (by omega), if_neg (by omega)]) (mem3 _ _) ?_
    rw [wr3 (by omega) (by omega)]
    refine ⟨by omega, by omega, ⟨by omega, by omega⟩, rfl, ?_⟩
    simp; omega
  · omega
theorem full4 {c lo hi : Nat} {r : List Nat} (hc : 240 ≤ c ∧ c ≤ 244) (hl : r.length + 1 ≤ 4) (hlo : c = 240 → 144 ≤ lo) (hhi : c = 244 → hi ≤ 143) (h128 : 128 ≤ lo ∧ hi ≤ 191) (h : (goN ⟨3, lo, hi⟩ r).2.isSome) : begR (c :: r) = true := by
  obtain ⟨h1, h2⟩ := sz4 (c := c) (by omega)
  rcases len_le hl (by omega) with rfl | ⟨a, rfl, _⟩ | ⟨a, b, rfl, _⟩ | ⟨a, b, d, rfl, h4⟩
  · refine beg_of h1 (by simp) (lo := 64 * (64 * (64 * (c - 240)))) (hi := 64 * (64 * (64 * (c - 240) + 63) + 63) + 63) (by rw [h2]; rfl) (mem4 _ _) ?_
    rw [wr4 (by omega)]
    refine ⟨by omega, by omega, ⟨by omega, by omega⟩, rfl, ?_⟩
    simp; omega
  · obtain ⟨u, ha, _⟩ := go_head h
    obtain ⟨ha1, ha2, _⟩ := st_next ha
    refine beg_of h1 (by simp) (lo := 64 * (64 * (64 * (c - 240) + a - 128))) (hi := 64 * (64 * (64 * (c - 240) + a - 128) + 63) + 63) (by rw [h2]; simp only [rngN]; rw [if_neg (by omega)]) (mem4 _ _) ?_
    rw [wr4 (by omega)]
    refine ⟨by omega, by omega, ⟨by omega, by omega⟩, rfl, ?_⟩
    simp; omega
  · obtain ⟨u, ha, hb⟩ := go_head h
    obtain ⟨ha1, ha2, rfl⟩ := st_next ha
    obtain ⟨v, hb, _⟩ := go_head hb
    obtain ⟨hb1, hb2, _⟩ := st_next (k := 1) hb
    refine beg_of h1 (by simp) (lo := 64 * (64 * (64 * (c - 240) + a - 128) + b - 128)) (hi := 64 * (64 * (64 * (c - 240) + a - 128) + b - 128) + 63) (by rw [h2]; simp only [rngN]; rw [if_neg (by omega), if_neg (by omega)]) (mem4 _ _) ?_
    rw [wr4 (by omega)]
    refine ⟨by omega, by omega, ⟨by omega, by omega⟩, rfl, ?_⟩
    simp; omega
  · obtain ⟨u, ha, hb⟩ := go_head h
    obtain ⟨ha1, ha2, rfl⟩ := st_next ha
    obtain ⟨v, hb, hd⟩ := go_head hb
    obtain ⟨hb1, hb2, rfl⟩ := st_next (k := 1) hb
    obtain ⟨y, hd, _⟩ := go_head hd
    obtain ⟨hd1, hd2, _⟩ := st_next (k := 0) hd
    refine beg_of h1 (by simp) (lo := 64 * (64 * (64 * (c - 240) + a - 128) + b - 128) + d - 128) (hi := 64 * (64 * (64 * (c - 240) + a - 128) + b - 128) + d - 128) (by rw [h2]; simp only [rngN]; rw [if_neg (by omega), if_neg (by omega), if_neg (by omega)]) (mem4 _ _) ?_
    rw [wr4 (by omega)]
    refine ⟨by omega, by omega, ⟨by omega, by omega⟩, rfl, ?_⟩
    simp; omega
theorem beg_complete {c : Nat} {r : List Nat} (hl : r.length + 1 ≤ szN c) (h : (goN ut0 (c :: r)).2.isSome) : begR (c :: r) = true := by
  obtain ⟨u, hu, hr⟩ := go_head h
  rcases st_first hu with ⟨h1, rfl⟩ | ⟨h1, h2, rfl⟩ | ⟨rfl, rfl⟩ | ⟨rfl, rfl⟩ | ⟨h1, h2, h3, rfl⟩ | ⟨rfl, rfl⟩ | ⟨rfl, rfl⟩ | ⟨h1, h2, rfl⟩
  · have hs : szN c = 1 := if_pos h1
    have hd : ldN c = c := by unfold ldN; rw [hs]; rfl
    rw [hs] at hl
    obtain rfl : r = [] := List.eq_nil_of_length_eq_zero (by omega)
    exact beg_of hs (by simp) (lo := c) (hi := c) (by rw [hd]; rfl) (mem1 _ _) (by rw [wr1 h1]; exact ⟨by omega, by omega, ⟨by omega, by omega⟩, rfl, rfl⟩)
  · obtain ⟨hs, hd⟩ := sz2 ⟨h1, h2⟩
    rw [hs] at hl
    rcases len_le hl (by omega) with rfl | ⟨a, rfl, _⟩ | ⟨a, b, rfl, h3⟩ | ⟨a, b, d, rfl, h3⟩
    · refine beg_of hs (by simp) (lo := 64 * (c - 192)) (hi := 64 * (c - 192) + 63) (by rw [hd]; rfl) (mem1 _ _) ?_
      rw [wr2 (by omega) (by omega)]
      refine ⟨by omega, by omega, ⟨by omega, by omega⟩, rfl, ?_⟩
      simp; omega
    · obtain ⟨v, ha, _⟩ := go_head hr
      obtain ⟨ha1, ha2, _⟩ := st_next (k := 0) ha
      refine beg_of hs (by simp) (lo := 64 * (c - 192) + a - 128) (hi := 64 * (c - 192) + a - 128) (by rw [hd]; simp only [rngN]; rw [if_neg (by omega)]) (mem1 _ _) ?_
      rw [wr2 (by omega) (by omega)]
      refine ⟨by omega, by omega, ⟨by omega, by omega⟩, rfl, ?_⟩
      simp; omega
    · omega
    · omega
  · exact full3 (by omega) hl (by omega) (by omega) (by omega) hr
  · exact full3 (by omega) hl (by omega) (by omega) (by omega) hr
  · obtain ⟨hs, _⟩ := sz3 (c := c) (by omega)
    exact full3 (by omega) (by omega) (by omega) (by omega) (by omega) hr
  · exact full4 (by omega) hl (by omega) (by omega) (by omega) hr
  · exact full4 (by omega) hl (by omega) (by omega) (by omega) hr
  · obtain ⟨hs, _⟩ := sz4 (c := c) (by omega)
    exact full4 (by omega) (by omega) (by omega) (by omega) (by omega) hr
/-- The document's way is the machine's. -/
theorem beg_is {c : Nat} {r : List Nat} : begR (c :: r) = (decide (r.length + 1 ≤ szN c) && (goN ut0 (c :: r)).2.isSome) := by
  by_cases hl : r.length + 1 ≤ szN c
  · rw [decide_eq_true hl, Bool.true_and, Bool.eq_iff_iff]
    exact ⟨beg_sound, beg_complete hl⟩
  · rw [decide_eq_false hl, Bool.false_and]
    rw [begR_cons, if_pos (by omega)]
/-! ### Pieces -/
theorem go_lt : ∀ (l : List Nat) (s : Ut), (goN s l).2 = none → (goN s l).1 < l.length
  | [], _, h => by simp [goN] at h
  | c :: l, s, h => by
    simp only [goN] at h ⊢
    cases hs : utN s c with
    | none => simp
    | some u => rw [hs] at h; have := go_lt l u h; simp only [List.length_cons]; omega
theorem go_le (l : List Nat) (s : Ut) : (goN s l).1 ≤ l.length := by
  cases h : (goN s l).2 with
  | none => have := go_lt l s h; omega
  | some t => rw [go_some_len l s t h]; exact Nat.le_refl _
theorem go_some {l : List Nat} {s t : Ut} (h : (goN s l).2 = some t) : goN s l = (l.length, some t) := Prod.ext (go_some_len l s t h) h
theorem go_yes {l : List Nat} {n : Nat} {s : Ut} (hn : n ≤ l.length) (h : n ≤ (goN s l).1) : ∃ t, goN s (l.take n) = (n, some t) ∧ goN s l = (n + (goN t (l.drop n)).1, (goN t (l.drop n)).2) := by
  have hl : (l.take n).length = n := by rw [List.length_take]; omega
  have hA : l.take n ++ l.drop n = l := List.take_append_drop n l
  cases h2 : (goN s (l.take n)).2 with
  | none =>
    have h3 := go_none _ (l.drop n) s h2
    rw [hA] at h3
    have h4 := go_lt _ s h2
    rw [h3] at h
    omega
  | some t =>
    have h3 := go_app _ (l.drop n) s t h2
    rw [hA, hl] at h3
    have h4 := go_some h2
    rw [hl] at h4
    exact ⟨t, h4, h3⟩
theorem go_no {l : List Nat} {n : Nat} {s : Ut} (hn : n ≤ l.length) (h : ¬ n ≤ (goN s l).1) : goN s (l.take n) = ((goN s l).1, none) ∧ (goN s l).2 = none := by
  have hl : (l.take n).length = n := by rw [List.length_take]; omega
  have hA : l.take n ++ l.drop n = l := List.take_append_drop n l
  cases h2 : (goN s (l.take n)).2 with
  | none =>
    have h3 := go_none _ (l.drop n) s h2
    rw [hA] at h3
    exact ⟨by rw [h3]; exact Prod.ext rfl h2, by rw [h3]; exact h2⟩
  | some t =>
    have h3 := go_app _ (l.drop n) s t h2
    rw [hA, hl] at h3
    rw [h3] at h
    exact absurd (Nat.le_add_right _ _) h
/-- A text. -/
def txtB (l : List Nat) : Bool := decide ((goN ut0 l).2 = some ut0)
theorem txt_app {a b : List Nat} (h : txtB a = true) : txtB (a ++ b) = txtB b := by
  have := of_decide_eq_true h
  unfold txtB
  rw [go_app a b ut0 ut0 this]
theorem txt_letters : ∀ (l : List Nat), (∀ n ∈ l, LetP n) → goN ut0 (l.flatMap lwN) = ((l.flatMap lwN).length, some ut0)
  | [], _ => rfl
  | n :: l, h => by
    rw [List.flatMap_cons, go_app (lwN n) _ ut0 ut0 (by rw [go_wr n (h n (List.mem_cons_self ..))]), txt_letters l fun m hm => h m (List.mem_cons_of_mem _ hm), List.length_append]
/-- A row of bytes comes to a checker, good or bad. -/
def ckN (o : Option Ut) (l : List Nat) : Nat × Option Ut := match o with
  | none => (0, none)
  | some s => goN s l
theorem ck_app (o : Option Ut) (a b : List Nat) (h : (ckN o a).2.isSome) : ckN o (a ++ b) = (a.length + (ckN (ckN o a).2 b).1, (ckN (ckN o a).2 b).2) := by
  cases o with
  | none => cases h
  | some s =>
    simp only [ckN] at h ⊢
    cases h2 : (goN s a).2 with
    | none => rw [h2] at h; cases h
    | some t => exact go_app a b s t h2
theorem ck_bad (o : Option Ut) (a b : List Nat) (h : (ckN o a).2 = none) : (ckN o (a ++ b)).2 = none := by
  cases o with
  | none => rfl
  | some s => simp only [ckN] at h ⊢; rw [go_none a b s h]; exact h
end Go.Proofs.YtdegpchofhnipaaDoor
