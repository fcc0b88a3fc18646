/-
  What an encoder writes is read as it was: over plain lists. No program; no conditions but those that each theorem names.
-/
import Derived.Test.YtfajffchnnalaaaKmath
namespace Go.Proofs.Ytfajffchnnalaaa

attribute [local irreducible] nmL vlL tab

theorem first_spec {p : Nat → Bool} {k : Nat} (h : first p k ≠ 0) : p (first p k - 1) = true ∧ first p k ≤ k := by
  induction k with
  | zero => exact absurd rfl h
  | succ k ih =>
    by_cases h0 : first p k = 0
    · by_cases hp : p k = true
      · rw [first_hit h0 hp]; exact ⟨hp, Nat.le_refl _⟩
      · rw [first_miss (by simpa using hp)] at h; exact absurd h0 h
    · rw [first_keep h0]
      have := ih h0
      exact ⟨this.1, by omega⟩
theorem isN_spec {a : List UInt8} {j : Nat} (h : isN a j = true) : nmL j = a := by simpa [isN] using h
theorem isB_spec {a b : List UInt8} {j : Nat} (h : isB a b j = true) : nmL j = a ∧ vlL j = b := by simpa [isB] using h
theorem isNT_spec {a : List UInt8} {R : List Fd} {j : Nat} (h : isNT a R j = true) : ∃ f, R[j]? = some f ∧ f.nm = a := by
  unfold isNT at h
  split at h
  · rename_i f hf; exact ⟨f, hf, by simpa using h⟩
  · cases h
theorem isBT_spec {a b : List UInt8} {R : List Fd} {j : Nat} (h : isBT a b R j = true) : ∃ f, R[j]? = some f ∧ f.nm = a ∧ f.vl = b := by
  unfold isBT at h
  split at h
  · rename_i f hf; exact ⟨f, hf, by simpa using h⟩
  · cases h

/-- The number of a field that the table has. -/
theorem at_has {L : List Fd} {f : Fd} (h : hOf L f = true) : nOf L f ≠ 0 ∧ ∃ g, atT L (nOf L f) = some g ∧ g.nm = f.nm ∧ g.vl = f.vl ∧ (g.nv = false ∨ g ∈ L) := by
  unfold hOf hasT at h
  unfold nOf numT
  by_cases hB : fndB f.nm f.vl = true
  · rw [if_pos hB]
    have h1 : first (isB f.nm f.vl) 61 ≠ 0 := by simpa [fndB] using hB
    have h2 := first_spec h1
    have h3 : fndN f.nm f.vl = first (isB f.nm f.vl) 61 := by unfold fndN; rw [if_neg h1]
    rw [h3]
    refine ⟨h1, ?_⟩
    unfold atT
    rw [if_neg h1, if_pos h2.2]
    have h4 := isB_spec h2.1
    exact ⟨_, rfl, h4.1, h4.2, .inl rfl⟩
  · rw [if_neg hB]
    have h1 : first (isBT f.nm f.vl L.reverse) L.reverse.length ≠ 0 := by simpa [hB] using h
    rw [if_pos h1]
    refine ⟨by omega, ?_⟩
    have h2 := first_spec h1
    obtain ⟨g, hg, h3, h4⟩ := isBT_spec h2.1
    unfold atT
    rw [if_neg (by omega), if_neg (by omega), show 61 + first (isBT f.nm f.vl L.reverse) L.reverse.length - 62 = first (isBT f.nm f.vl L.reverse) L.reverse.length - 1 by omega, hg]
    have hm := List.mem_of_getElem? hg
    rw [List.mem_reverse] at hm
    exact ⟨g, rfl, h3, h4, .inr hm⟩
theorem at_name {L : List Fd} {f : Fd} (h : nOf L f ≠ 0) : ∃ g, atT L (nOf L f) = some g ∧ g.nm = f.nm := by
  by_cases hh : hOf L f = true
  · obtain ⟨_, g, h1, h2, _⟩ := at_has hh
    exact ⟨g, h1, h2⟩
  · unfold hOf hasT at hh
    unfold nOf numT at h ⊢
    have hB : ¬ fndB f.nm f.vl = true := by intro e; apply hh; simp only [Bool.or_eq_true]; exact .inl e
    have hT : ¬ first (isBT f.nm f.vl L.reverse) L.reverse.length ≠ 0 := by intro e; apply hh; simp only [Bool.or_eq_true, decide_eq_true_eq]; exact .inr e
    rw [if_neg hB, if_neg hT] at h ⊢
    by_cases h1 : fndN f.nm f.vl ≠ 0
    · rw [if_pos h1] at h ⊢
      have h2 : first (isB f.nm f.vl) 61 = 0 := by
        have : fndB f.nm f.vl = false := by simpa using hB
        simpa [fndB] using this
      have h3 : fndN f.nm f.vl = first (isN f.nm) 61 := by unfold fndN; rw [if_pos h2]
      rw [h3] at h1 ⊢
      have h4 := first_spec h1
      unfold atT
      rw [if_neg h1, if_pos h4.2]
      exact ⟨_, rfl, isN_spec h4.1⟩
    · rw [if_neg h1] at h ⊢
      by_cases h2 : first (isNT f.nm L.reverse) L.reverse.length ≠ 0
      · rw [if_pos h2] at h ⊢
        have h4 := first_spec h2
        obtain ⟨g, hg, h5⟩ := isNT_spec h4.1
        unfold atT
        rw [if_neg (by omega), if_neg (by omega), show 61 + first (isNT f.nm L.reverse) L.reverse.length - 62 = first (isNT f.nm L.reverse) L.reverse.length - 1 by omega, hg]
        exact ⟨g, rfl, h5⟩
      · rw [if_neg h2] at h; exact absurd rfl h

/-! ### The kind of a piece -/
theorem head_kind {k n : Nat} (hk : k = 128 ∨ k = 64 ∨ k = 32 ∨ k = 16) (behind : List UInt8) : kindN ((numL k n ++ behind).headD 0).toNat = k := by
  unfold numL putL
  have e : hiN (pfxN k) k = k := by rcases hk with rfl | rfl | rfl | rfl <;> rfl
  have e2 : 2 ^ pfxN k - 1 < 128 ∧ k + (2 ^ pfxN k - 1) < 256 ∧ (k = 128 → 2 ^ pfxN k - 1 = 127) ∧ (k = 64 → 2 ^ pfxN k - 1 = 63) ∧ (k = 32 → 2 ^ pfxN k - 1 = 31) ∧ (k = 16 → 2 ^ pfxN k - 1 = 15) := by rcases hk with rfl | rfl | rfl | rfl <;> decide
  generalize 2 ^ pfxN k - 1 = t at *
  rw [e]
  split
  · simp only [List.cons_append, List.headD_cons]
    rw [toNat_ofNat' (by omega)]
    unfold kindN
    repeat (first | omega | split)
  · simp only [List.cons_append, List.headD_cons]
    rw [toNat_ofNat' (by omega)]
    unfold kindN
    repeat (first | omega | split)
theorem num_get {k n : Nat} (hk : k < 256) (hn : n ≤ 268435456) (behind : List UInt8) : getL (pfxN k) (numL k n ++ behind) = (n, (numL k n).length, 0) := by
  have hp : 4 ≤ pfxN k ∧ pfxN k ≤ 7 := by unfold pfxN; repeat (first | omega | split)
  exact get_put (by omega) (by omega) hk hn behind

/-- A number that a piece begins with. -/
theorem pieceR_spec {cap : Nat} {L : List Fd} {M : Nat} {out : List Fd} {l : List UInt8} {K : Nat} (hk : kindN (l.headD 0).toNat = K) :
    ((getL (pfxN K) l).2.2 ≠ 0 → pieceR cap ⟨L, M, out⟩ l = none) ∧
    ((getL (pfxN K) l).2.2 = 0 → K = 32 → pieceR cap ⟨L, M, out⟩ l = if out ≠ [] ∨ cap < (getL (pfxN K) l).1 then none else some (⟨shr ((getL (pfxN K) l).1 : Int) L, (getL (pfxN K) l).1, out⟩, l.drop (getL (pfxN K) l).2.1)) ∧
    ((getL (pfxN K) l).2.2 = 0 → K = 128 → pieceR cap ⟨L, M, out⟩ l = (atT L (getL (pfxN K) l).1).map fun f => (⟨L, M, out ++ [f]⟩, l.drop (getL (pfxN K) l).2.1)) ∧
    ((getL (pfxN K) l).2.2 = 0 → K ≠ 32 → K ≠ 128 → pieceR cap ⟨L, M, out⟩ l = (textsR L (getL (pfxN K) l).1 (K == 16) (l.drop (getL (pfxN K) l).2.1)).map fun p => (⟨if K = 64 then addL M p.1 L else L, M, out ++ [p.1]⟩, p.2)) := by
  unfold pieceR
  simp only [hk]
  refine ⟨fun h => if_pos h, fun h e => ?_, fun h e => ?_, fun h e1 e2 => ?_⟩
  · rw [if_neg (by omega), if_pos e]
  · rw [if_neg (by omega), if_neg (by omega), if_pos e]
    cases atT L (getL (pfxN K) l).1 <;> rfl
  · rw [if_neg (by omega), if_neg e1, if_neg e2]
    cases textsR L (getL (pfxN K) l).1 (K == 16) (l.drop (getL (pfxN K) l).2.1) with
    | none => rfl
    | some p => obtain ⟨f, r⟩ := p; rfl

theorem lit_back {L : List Fd} {f : Fd} (h1 : f.nm.length ≤ 9000) (h2 : f.vl.length ≤ 9000) (behind : List UInt8) :
    textsR L (nOf L f) f.nv ((if nOf L f = 0 then txtL f.nm else []) ++ txtL f.vl ++ behind) = some (f, behind) := by
  unfold textsR nameR
  by_cases h0 : nOf L f = 0
  · rw [if_pos h0, if_pos h0, List.append_assoc, text_back f.nm _ (by omega)]
    simp only
    rw [text_back f.vl _ (by omega)]
  · rw [if_neg h0, if_neg h0]
    obtain ⟨g, hg, hn⟩ := at_name h0
    rw [hg]
    simp only [List.nil_append]
    rw [text_back f.vl _ (by omega), hn]

/-- A field that was put is read, and the table is the same. -/
theorem piece_put {cap M : Nat} {L out : List Fd} {f : Fd} (hL : L.length ≤ 1000) (h1 : f.nm.length ≤ 9000) (h2 : f.vl.length ≤ 9000) (hb : ∀ x ∈ L, x.nv = false) (behind : List UInt8) :
    pieceR cap ⟨L, M, out⟩ (putF L f ++ behind) = some (⟨tabF M L f, M, out ++ [f]⟩, behind) := by
  have hn : nOf L f ≤ 2000 := by
    have h5 : fndN f.nm f.vl ≤ 61 := by
      unfold fndN
      have := first_le (p := isB f.nm f.vl) 61
      have := first_le (p := isN f.nm) 61
      split <;> omega
    have h6 := first_le (p := isNT f.nm L.reverse) L.reverse.length
    have h7 := first_le (p := isBT f.nm f.vl L.reverse) L.reverse.length
    have h8 : L.reverse.length = L.length := List.length_reverse
    unfold nOf numT
    repeat (first | omega | split)
  unfold putF tabF
  by_cases hv : f.nv = true
  · rw [if_pos hv, if_pos hv]
    unfold litL
    rw [List.append_assoc]
    have hk := head_kind (k := 16) (n := nOf L f) (by omega) ((if nOf L f = 0 then txtL f.nm else []) ++ txtL f.vl ++ behind)
    have hg := num_get (k := 16) (n := nOf L f) (by omega) (by omega) ((if nOf L f = 0 then txtL f.nm else []) ++ txtL f.vl ++ behind)
    have hs := (pieceR_spec (cap := cap) (L := L) (M := M) (out := out) hk).2.2.2
    rw [hg] at hs
    rw [hs rfl (by omega) (by omega)]
    simp only [List.drop_left]
    have := lit_back (L := L) h1 h2 behind
    rw [hv] at this
    rw [show ((16 : Nat) == 16) = true from rfl, this]
    rfl
  · have hv' : f.nv = false := by simpa using hv
    rw [if_neg hv, if_neg hv]
    by_cases hh : hOf L f = true
    · rw [if_pos hh, if_pos hh]
      obtain ⟨h0, g, hga, e1, e2, e3⟩ := at_has hh
      have hk := head_kind (k := 128) (n := nOf L f) (by omega) behind
      have hg := num_get (k := 128) (n := nOf L f) (by omega) (by omega) behind
      have hs := (pieceR_spec (cap := cap) (L := L) (M := M) (out := out) hk).2.2.1
      rw [hg] at hs
      rw [hs rfl rfl, hga]
      have hgn : g.nv = false := by
        rcases e3 with e3 | e3
        · exact e3
        · exact hb g e3
      have hgf : g = f := by
        cases g
        cases f
        simp only at e1 e2 hgn hv'
        subst e1 e2 hgn hv'
        rfl
      rw [hgf]
      simp
    · rw [if_neg hh, if_neg hh]
      unfold litL
      rw [List.append_assoc]
      have hk := head_kind (k := 64) (n := nOf L f) (by omega) ((if nOf L f = 0 then txtL f.nm else []) ++ txtL f.vl ++ behind)
      have hg := num_get (k := 64) (n := nOf L f) (by omega) (by omega) ((if nOf L f = 0 then txtL f.nm else []) ++ txtL f.vl ++ behind)
      have hs := (pieceR_spec (cap := cap) (L := L) (M := M) (out := out) hk).2.2.2
      rw [hg] at hs
      rw [hs rfl (by omega) (by omega)]
      simp only [List.drop_left]
      have := lit_back (L := L) h1 h2 behind
      rw [hv'] at this
      rw [show ((64 : Nat) == 16) = false from rfl, this]
      rfl

theorem pieceR_rest {cap : Nat} {s s' : Rd} {l r : List UInt8} (h : pieceR cap s l = some (s', r)) : r.length < l.length := by
  obtain ⟨h1, h2, h3, h4⟩ := pieceR_spec (cap := cap) (L := s.tb) (M := s.mx) (out := s.out) (l := l) (K := kindN (l.headD 0).toNat) rfl
  have hse : (⟨s.tb, s.mx, s.out⟩ : Rd) = s := rfl
  rw [hse] at h1 h2 h3 h4
  generalize kindN (l.headD 0).toNat = K at *
  by_cases hz : (getL (pfxN K) l).2.2 = 0
  · have hu := getL_used hz
    have hdl : (l.drop (getL (pfxN K) l).2.1).length < l.length := by rw [List.length_drop]; omega
    by_cases e1 : K = 32
    · rw [h2 hz e1] at h
      split at h
      · cases h
      · injection h with h; injection h with ha hb; subst hb; exact hdl
    · by_cases e2 : K = 128
      · rw [h3 hz e2] at h
        cases ha : atT s.tb (getL (pfxN K) l).1 with
        | none => rw [ha] at h; cases h
        | some f => rw [ha] at h; injection h with h; injection h with hb hc; subst hc; exact hdl
      · rw [h4 hz e1 e2] at h
        cases ha : textsR s.tb (getL (pfxN K) l).1 (K == 16) (l.drop (getL (pfxN K) l).2.1) with
        | none => rw [ha] at h; cases h
        | some p =>
          obtain ⟨f, r'⟩ := p
          rw [ha] at h
          injection h with h
          injection h with hb hc
          subst hc
          have hr := (textsR_rest ha).1
          show r'.length < _
          omega
  · rw [h1 hz] at h; cases h
theorem block_fuel {cap : Nat} : ∀ (n : Nat) (l : List UInt8) (s : Rd) (a b : Nat), l.length ≤ n → l.length ≤ a → l.length ≤ b → blockR cap a s l = blockR cap b s l
  | n, [], s, a, b, _, _, _ => by rw [block_nil, block_nil]
  | 0, x :: l, s, a, b, h, _, _ => by simp at h
  | n + 1, x :: l, s, a, b, h, ha, hb => by
    obtain ⟨a', rfl⟩ : ∃ a', a = a' + 1 := ⟨a - 1, by simp at ha; omega⟩
    obtain ⟨b', rfl⟩ : ∃ b', b = b' + 1 := ⟨b - 1, by simp at hb; omega⟩
    cases hp : pieceR cap s (x :: l) with
    | none => rw [block_none (by simp) ha hp, block_none (by simp) hb hp]
    | some p =>
      obtain ⟨s', r⟩ := p
      rw [block_some (by simp) hp, block_some (by simp) hp]
      have := pieceR_rest hp
      exact block_fuel n r s' a' b' (by omega) (by omega) (by omega)
/-- A block, with as much fuel as it has bytes. -/
def blk (cap : Nat) (s : Rd) (l : List UInt8) : Option Rd := blockR cap l.length s l
theorem blk_nil (cap : Nat) (s : Rd) : blk cap s [] = some s := block_nil _ _ _
theorem blk_step {cap : Nat} {s s' : Rd} {l r : List UInt8} (h : pieceR cap s l = some (s', r)) : blk cap s l = blk cap s' r := by
  have hr := pieceR_rest h
  have hne : l ≠ [] := by rintro rfl; simp at hr
  obtain ⟨n, hn⟩ : ∃ n, l.length = n + 1 := ⟨l.length - 1, by have := List.length_pos_iff.2 hne; omega⟩
  unfold blk
  rw [hn, block_some hne h]
  exact block_fuel r.length r s' _ _ (Nat.le_refl _) (by omega) (Nat.le_refl _)
theorem tabF_bare {M : Nat} {L : List Fd} {f : Fd} (h : ∀ x ∈ L, x.nv = false) : ∀ x ∈ tabF M L f, x.nv = false := by
  unfold tabF
  split
  · exact h
  · split
    · exact h
    · intro x hx
      have := (addL_suffix M f L L (List.suffix_refl _)).subset hx
      rw [List.mem_append, List.mem_singleton] at this
      rcases this with h1 | rfl
      · exact h x h1
      · rfl
theorem tabA_bare {M : Nat} : ∀ {F L : List Fd}, (∀ x ∈ L, x.nv = false) → ∀ x ∈ tabA M L F, x.nv = false
  | [], _, h => h
  | _ :: F, _, h => tabA_bare (F := F) (tabF_bare h)
theorem shr_bare {m : Int} {L : List Fd} (h : ∀ x ∈ L, x.nv = false) : ∀ x ∈ shr m L, x.nv = false := fun x hx => h x ((shr_suffix m L).subset hx)
/-- All fields that were put are read. -/
theorem blk_put {cap M : Nat} (hM : M ≤ 4096) : ∀ (F L out : List Fd), tot L ≤ M → (∀ x ∈ L, x.nv = false) → (∀ f ∈ F, f.nm.length ≤ 9000 ∧ f.vl.length ≤ 9000) → blk cap ⟨L, M, out⟩ (putA M L F) = some ⟨tabA M L F, M, out ++ F⟩
  | [], L, out, _, _, _ => by simp [putA, tabA, blk_nil]
  | f :: F, L, out, hL, hb, hF => by
    have h0 := hF f (by simp)
    have hlen : L.length ≤ 128 := by have := tot_len L; omega
    simp only [putA, tabA]
    rw [blk_step (piece_put (cap := cap) (M := M) (out := out) (by omega) h0.1 h0.2 hb (putA M (tabF M L f) F))]
    rw [blk_put hM F (tabF M L f) (out ++ [f]) (tabF_le hL) (tabF_bare hb) fun x hx => hF x (by simp [hx])]
    simp
theorem piece_lim {cap M n : Nat} {L : List Fd} (hn : n ≤ cap) (hn2 : n ≤ 268435456) (behind : List UInt8) : pieceR cap ⟨L, M, []⟩ (numL 32 n ++ behind) = some (⟨shr (n : Int) L, n, []⟩, behind) := by
  have hk := head_kind (k := 32) (n := n) (by omega) behind
  have hg := num_get (k := 32) (n := n) (by omega) hn2 behind
  have hs := (pieceR_spec (cap := cap) (L := L) (M := M) (out := []) hk).2.1
  rw [hg] at hs
  rw [hs rfl rfl, if_neg (by simp; omega)]
  simp
theorem shr_shr {m m' : Int} (h : m ≤ m') (L : List Fd) : shr m (shr m' L) = shr m L := by
  induction L with
  | nil => rfl
  | cons f r ih =>
    by_cases h1 : m' < ((sz f + tot r : Nat) : Int)
    · rw [shr_gone h1, ih, shr_gone (by omega)]
    · rw [shr_stays h1]
/-- What the decoder makes of the mosts ahead of a block. -/
def limT (lim : Bool) (low M : Nat) (L : List Fd) : List Fd := if lim then (if low < M then shr (M : Int) (shr (low : Int) L) else shr (M : Int) L) else L
theorem blk_lim {cap M0 M low : Nat} {lim : Bool} {L : List Fd} (hM : M ≤ cap) (hlow : low ≤ cap) (hcap : cap ≤ 4096) (h0 : lim = false → M0 = M) (behind : List UInt8) :
    blk cap ⟨L, M0, []⟩ (limL lim low M ++ behind) = blk cap ⟨limT lim low M L, M, []⟩ behind := by
  unfold limL limT
  cases lim with
  | false => simp [h0 rfl]
  | true =>
    simp only [if_true]
    by_cases h1 : low < M
    · rw [if_pos h1, if_pos h1, List.append_assoc, blk_step (piece_lim hlow (by omega) _), blk_step (piece_lim hM (by omega) _)]
    · rw [if_neg h1, if_neg h1, List.nil_append, blk_step (piece_lim hM (by omega) _)]
end Go.Proofs.Ytfajffchnnalaaa
