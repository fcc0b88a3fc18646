/-
  Splitting a socket's bytes into frames, in plain mathematics: what is told next of bytes that are held, all frames of bytes; pieces play no part. No program is spoken of.
-/
import Derived.Test.YtejlbgllfkfkfaaDoorIgm
import Derived.Test.YtejlbgllfkfkfaaDoorIba
namespace Go.Proofs.YtejlbgllfkfkfaaDoor

/-! ### Heads -/
theorem lenH_app {m : Bool} {k : Nat} {r : List UInt8} (h : (lenH m k r).short = false) (z : List UInt8) : lenH m k (r ++ z) = lenH m k r := by
  unfold lenH at h ⊢
  by_cases h6 : k = 126
  · rw [if_pos h6] at h
    by_cases h2 : r.length < 2
    · rw [if_pos h2] at h; cases h
    · rw [if_pos h6, if_pos h6, if_neg h2, if_neg (by simp; omega), List.take_append_of_le_length (by omega)]
  · rw [if_neg h6] at h
    rw [if_neg h6, if_neg h6]
    by_cases h7 : k = 127
    · rw [if_pos h7] at h
      by_cases h2 : r.length < 8
      · rw [if_pos h2] at h; cases h
      · rw [if_pos h7, if_pos h7, if_neg h2, if_neg (by simp; omega), List.take_append_of_le_length (by omega)]
    · rw [if_neg h7, if_neg h7]
/-- What a head tells it tells whatever comes behind. -/
theorem hdI_app {m : Bool} {l : List UInt8} (h : (hdI m l).short = false) (z : List UInt8) : hdI m (l ++ z) = hdI m l := by
  match l, h with
  | [], h => cases h
  | [b], h =>
    have hb : badFirst b.toNat := by
      by_cases hb : badFirst b.toNat
      · exact hb
      · have e : hdI m [b] = hShort := if_neg hb
        rw [e] at h; cases h
    have e : hdI m [b] = hBad 1002 := if_pos hb
    rw [e]
    match z with
    | [] => exact e
    | s :: r => exact if_pos (.inl hb)
  | b :: s :: r, h =>
    show (if badFirst b.toNat ∨ badSecond b.toNat s.toNat m then hBad 1002 else lenH m (s.toNat % 128) (r ++ z)) = if badFirst b.toNat ∨ badSecond b.toNat s.toNat m then hBad 1002 else lenH m (s.toNat % 128) r
    by_cases hb : badFirst b.toNat ∨ badSecond b.toNat s.toNat m
    · rw [if_pos hb, if_pos hb]
    · rw [if_neg hb, if_neg hb]
      have h1 : hdI m (b :: s :: r) = lenH m (s.toNat % 128) r := if_neg hb
      exact lenH_app (by rw [← h1]; exact h) z
/-- A whole head stands in its front alone. -/
theorem lenH_take {m : Bool} {k : Nat} {r : List UInt8} (h : (lenH m k r).short = false) (hc : (lenH m k r).code = 0) {n : Nat} (hn : (lenH m k r).front ≤ n + 2) : lenH m k (r.take n) = lenH m k r := by
  by_cases hr : n ≤ r.length
  · have hs : (lenH m k (r.take n)).short = false := by
      unfold lenH at h hc hn ⊢
      by_cases h6 : k = 126
      · rw [if_pos h6] at h hc hn ⊢
        by_cases h2 : r.length < 2
        · rw [if_pos h2] at h; cases h
        · rw [if_neg h2] at hc hn
          by_cases h3 : valL (r.take 2) < 126
          · rw [if_pos h3] at hc; cases hc
          · rw [if_neg h3] at hc hn
            by_cases h4 : 4096 < valL (r.take 2)
            · rw [if_pos h4] at hc; cases hc
            · rw [if_neg h4] at hn
              have : 4 + four4 m ≤ n + 2 := hn
              rw [List.length_take, if_neg (by omega), List.take_take, show min 2 n = 2 by omega, if_neg h3, if_neg h4]
      · rw [if_neg h6] at h hc hn ⊢
        by_cases h7 : k = 127
        · rw [if_pos h7] at h hc
          by_cases h2 : r.length < 8
          · rw [if_pos h2] at h; cases h
          · rw [if_neg h2] at hc
            split at hc
            · cases hc
            · cases hc
        · rw [if_neg h7]
    have := lenH_app hs (r.drop n)
    rw [List.take_append_drop] at this
    exact this.symm
  · rw [List.take_of_length_le (by omega)]
theorem hdI_take {m : Bool} {l : List UInt8} (h : (hdI m l).short = false) (hc : (hdI m l).code = 0) {n : Nat} (hn : (hdI m l).front ≤ n) : hdI m (l.take n) = hdI m l := by
  match l, h, hc, hn with
  | [], h, _, _ => cases h
  | [b], h, hc, _ =>
    by_cases hb : badFirst b.toNat
    · have e : hdI m [b] = hBad 1002 := if_pos hb
      rw [e] at hc; cases hc
    · have e : hdI m [b] = hShort := if_neg hb
      rw [e] at h; cases h
  | b :: s :: r, h, hc, hn =>
    have h2 := hdI_whole m _ h hc
    obtain ⟨j, rfl⟩ : ∃ j, n = j + 2 := ⟨n - 2, by omega⟩
    have hb : ¬ (badFirst b.toNat ∨ badSecond b.toNat s.toNat m) := by
      intro hb
      have e : hdI m (b :: s :: r) = hBad 1002 := if_pos hb
      rw [e] at hc
      cases hc
    have e : hdI m (b :: s :: r) = lenH m (s.toNat % 128) r := if_neg hb
    have e2 : hdI m ((b :: s :: r).take (j + 2)) = lenH m (s.toNat % 128) (r.take j) := if_neg hb
    rw [e2, e]
    rw [e] at h hc hn
    exact lenH_take h hc hn
/-- A head that is short is short. -/
theorem hdI_held {m : Bool} {l : List UInt8} (h : (hdI m l).short = true) : l.length < 10 := by
  match l, h with
  | [], _ => simp
  | [b], _ => simp
  | b :: s :: r, h =>
    have h1 : hdI m (b :: s :: r) = if badFirst b.toNat ∨ badSecond b.toNat s.toNat m then hBad 1002 else lenH m (s.toNat % 128) r := rfl
    rw [h1] at h
    split at h
    · cases h
    · unfold lenH at h
      split at h
      · split at h
        · simp; omega
        · split at h
          · cases h
          · split at h
            · cases h
            · cases h
      · split at h
        · split at h
          · simp; omega
          · split at h
            · cases h
            · cases h
        · cases h
theorem hdI_nil (m : Bool) : hdI m [] = hShort := rfl

/-! ### What is told next -/
/-- How many bytes the frame has that they begin with. -/
def whJ (m : Bool) (l : List UInt8) : Nat := (hdI m l).front + (hdI m l).size
/-- Nothing is told yet. -/
def WaitJ (m : Bool) (l : List UInt8) : Prop := (hdI m l).code = 0 ∧ ((hdI m l).short = true ∨ l.length < whJ m l)
instance (m : Bool) (l : List UInt8) : Decidable (WaitJ m l) := inferInstanceAs (Decidable (_ ∧ _))
/-- What is told next: a frame, a fault's code; what is held then; whether it is bad then. -/
def njN (m : Bool) (l : List UInt8) (bad : Bool) : Option (Pc × Nat) × List UInt8 × Bool :=
  if bad = true then (none, [], true)
  else if WaitJ m l then (none, l, false)
  else if (hdI m l).code ≠ 0 then (some (Pc.zero, (hdI m l).code), [], true)
  else (some (getI m (l.take (whJ m l))), l.drop (whJ m l), false)
theorem nj_bad (m : Bool) (l : List UInt8) : njN m l true = (none, [], true) := if_pos rfl
theorem nj_wait {m : Bool} {l : List UInt8} (h : WaitJ m l) : njN m l false = (none, l, false) := by unfold njN; rw [if_neg (by simp), if_pos h]
theorem nj_fault {m : Bool} {l : List UInt8} (h : (hdI m l).code ≠ 0) : njN m l false = (some (Pc.zero, (hdI m l).code), [], true) := by
  unfold njN; rw [if_neg (by simp), if_neg (fun h1 => h h1.1), if_pos h]
/-- A frame stands there as a whole. -/
def WholeJ (m : Bool) (l : List UInt8) : Prop := (hdI m l).code = 0 ∧ (hdI m l).short = false ∧ whJ m l ≤ l.length
theorem nj_go {m : Bool} {l : List UInt8} (h : WholeJ m l) : njN m l false = (some (getI m (l.take (whJ m l))), l.drop (whJ m l), false) := by
  unfold njN
  rw [if_neg (by simp), if_neg (fun h1 => h1.2.elim (fun h2 => by rw [h.2.1] at h2; cases h2) (fun h2 => by have := h.2.2; omega)), if_neg (fun h1 => h1 h.1)]
theorem cases_J (m : Bool) (l : List UInt8) : WaitJ m l ∨ (hdI m l).code ≠ 0 ∨ WholeJ m l := by
  by_cases hc : (hdI m l).code = 0
  · by_cases hw : WaitJ m l
    · exact .inl hw
    · refine .inr (.inr ⟨hc, ?_, ?_⟩)
      · cases hs : (hdI m l).short
        · rfl
        · exact absurd ⟨hc, .inl hs⟩ hw
      · rcases Nat.lt_or_ge l.length (whJ m l) with h | h
        · exact absurd ⟨hc, .inr h⟩ hw
        · exact h
  · exact .inr (.inl hc)
theorem code_short {m : Bool} {l : List UInt8} (h : (hdI m l).code ≠ 0) : (hdI m l).short = false := by
  rcases hdI_cases m l with h1 | h1
  · exact absurd h1 h
  · exact h1.2.2
theorem whole_J {m : Bool} {l : List UInt8} (h : WholeJ m l) : 2 ≤ whJ m l ∧ whJ m l ≤ 4104 := by
  have h1 := hdI_whole m l h.2.1 h.1
  have h2 := hdI_small m l
  unfold whJ
  omega
/-- The frame is there, no fault. -/
theorem getI_J {m : Bool} {l : List UInt8} (h : WholeJ m l) : (getI m (l.take (whJ m l))).2 = 0 := by
  have h1 := hdI_take h.2.1 h.1 (n := whJ m l) (by unfold whJ; omega)
  unfold getI
  rw [h1, if_neg (fun h2 => h2 h.1), if_neg]
  rw [h.2.1, List.length_take]
  have h3 := h.2.2
  unfold whJ at h3 ⊢
  rintro (h4 | h4)
  · cases h4
  · omega
theorem wait_J {m : Bool} {l : List UInt8} (h : WaitJ m l) : l.length < 4104 := by
  rcases h.2 with h1 | h1
  · have := hdI_held h1; omega
  · have := hdI_small m l; unfold whJ at h1; omega

/-- All frames of bytes up to the first fault; its code (0: none); how many bytes are left. -/
inductive AllJ (m : Bool) : List UInt8 → List Pc → Nat → Nat → Prop
  | stop {l : List UInt8} : WaitJ m l → AllJ m l [] 0 l.length
  | fault {l : List UInt8} : (hdI m l).code ≠ 0 → AllJ m l [] (hdI m l).code 0
  | go {l : List UInt8} {out : List Pc} {c n : Nat} : WholeJ m l → AllJ m (l.drop (whJ m l)) out c n → AllJ m l ((getI m (l.take (whJ m l))).1 :: out) c n
theorem WholeJ.not_wait {m : Bool} {l : List UInt8} (h : WholeJ m l) : ¬ WaitJ m l := fun h1 => by
  rcases h1.2 with h2 | h2
  · rw [h.2.1] at h2; cases h2
  · have := h.2.2; omega
theorem AllJ.det {m : Bool} {l : List UInt8} {out : List Pc} {c n : Nat} (h : AllJ m l out c n) : ∀ {out' : List Pc} {c' n' : Nat}, AllJ m l out' c' n' → out' = out ∧ c' = c ∧ n' = n := by
  induction h with
  | stop e =>
    intro out' c' n' h'
    cases h' with
    | stop e' => exact ⟨rfl, rfl, rfl⟩
    | fault e' => exact absurd e.1 e'
    | go e' _ => exact absurd e e'.not_wait
  | fault e =>
    intro out' c' n' h'
    cases h' with
    | stop e' => exact absurd e'.1 e
    | fault e' => exact ⟨rfl, rfl, rfl⟩
    | go e' _ => exact absurd e'.1 e
  | go e _ ih =>
    intro out' c' n' h'
    cases h' with
    | stop e' => exact absurd e' e.not_wait
    | fault e' => exact absurd e.1 e'
    | go e' h2 =>
      obtain ⟨rfl, rfl, rfl⟩ := ih h2
      exact ⟨rfl, rfl, rfl⟩
/-- There are such. -/
theorem AllJ.exists (m : Bool) : ∀ (k : Nat) (l : List UInt8), l.length ≤ k → ∃ out c n, AllJ m l out c n ∧ out.length ≤ l.length ∧ n ≤ l.length := by
  intro k
  induction k with
  | zero =>
    intro l hl
    rw [List.eq_nil_of_length_eq_zero (by omega : l.length = 0)]
    exact ⟨[], 0, 0, .stop ⟨rfl, .inl rfl⟩, by simp, by simp⟩
  | succ k ih =>
    intro l hl
    rcases cases_J m l with h | h | h
    · exact ⟨[], 0, l.length, .stop h, by simp, by omega⟩
    · exact ⟨[], _, 0, .fault h, by simp, by simp⟩
    · have h2 := whole_J h
      have h3 := h.2.2
      obtain ⟨out, c, n, h4, h5, h6⟩ := ih (l.drop (whJ m l)) (by rw [List.length_drop]; omega)
      rw [List.length_drop] at h5 h6
      exact ⟨_, c, n, .go h h4, by simp; omega, by omega⟩
theorem AllJ.facts {m : Bool} {l : List UInt8} {out : List Pc} {c n : Nat} (h : AllJ m l out c n) : c ≤ 1009 ∧ n ≤ l.length ∧ out.length ≤ l.length ∧ (c ≠ 0 → n = 0) := by
  induction h with
  | stop e => exact ⟨by omega, by omega, by simp, fun h => absurd rfl h⟩
  | @fault l e => exact ⟨(hdI_small m l).2.2, by omega, by simp, fun _ => rfl⟩
  | go e _ ih =>
    have h2 := whole_J e
    have h3 := e.2.2
    rw [List.length_drop] at ih
    exact ⟨ih.1, by omega, by simp; omega, ih.2.2.2⟩

/-! ### Pieces play no part -/
theorem whJ_app {m : Bool} {l : List UInt8} (h : (hdI m l).short = false) (z : List UInt8) : whJ m (l ++ z) = whJ m l := by unfold whJ; rw [hdI_app h]
theorem WholeJ.app {m : Bool} {l : List UInt8} (h : WholeJ m l) (z : List UInt8) : WholeJ m (l ++ z) := by
  refine ⟨by rw [hdI_app h.2.1]; exact h.1, by rw [hdI_app h.2.1]; exact h.2.1, ?_⟩
  rw [whJ_app h.2.1, List.length_append]
  have := h.2.2
  omega
/-- Frames that stand there as a whole come first, whatever comes behind. -/
theorem AllJ.app {m : Bool} {l : List UInt8} {out : List Pc} {n : Nat} (h : AllJ m l out 0 n) {r z : List UInt8} (hr : r = l.drop (l.length - n)) {o2 : List Pc} {c2 n2 : Nat} (h2 : AllJ m (r ++ z) o2 c2 n2) : AllJ m (l ++ z) (out ++ o2) c2 n2 := by
  generalize hc : 0 = c at h
  induction h with
  | @stop l e =>
    rw [Nat.sub_self, List.drop_zero] at hr
    subst hr
    exact h2
  | fault e => exact absurd hc.symm e
  | @go l out c n e h1 ih =>
    have h3 := e.app z
    have h4 := whJ_app e.2.1 z
    have h5 := e.2.2
    have h6 := h1.facts
    rw [List.length_drop] at h6
    have h7 := AllJ.go (m := m) (l := l ++ z) (out := out ++ o2) (c := c2) (n := n2) h3
    rw [h4, List.drop_append_of_le_length h5, List.take_append_of_le_length h5] at h7
    refine h7 (ih ?_ hc)
    rw [hr, List.drop_drop, List.length_drop]
    congr 1
    omega
/-- All frames of a splitter's bytes, which may be bad. -/
def AlbJ (m : Bool) (l : List UInt8) (bad : Bool) (out : List Pc) (c n : Nat) : Prop := if bad = true then out = [] ∧ c = 0 ∧ n = 0 else AllJ m l out c n
/-- One frame is told: what comes behind is as it was. -/
theorem AllJ.step {m : Bool} {l : List UInt8} (h : WholeJ m l) {z : List UInt8} {out : List Pc} {c n : Nat} (ha : AllJ m (l.drop (whJ m l) ++ z) out c n) : AllJ m (l ++ z) ((getI m (l.take (whJ m l))).1 :: out) c n := by
  have h7 := AllJ.go (m := m) (l := l ++ z) (out := out) (c := c) (n := n) (h.app z)
  rw [whJ_app h.2.1, List.drop_append_of_le_length h.2.2, List.take_append_of_le_length h.2.2] at h7
  exact h7 ha
theorem AllJ.bad {m : Bool} {l : List UInt8} (h : (hdI m l).code ≠ 0) (z : List UInt8) : AllJ m (l ++ z) [] (hdI m l).code 0 := by
  have h1 := hdI_app (code_short h) z
  have := AllJ.fault (m := m) (l := l ++ z) (by rw [h1]; exact h)
  rw [h1] at this
  exact this

/-! ### Frames that may be, put one behind the other -/
def putsJ (l : List Pc) : List UInt8 := l.flatMap Pc.put
theorem put_whole {p : Pc} (h : p.May) (hkey : p.key < 4294967296) (z : List UInt8) : WholeJ p.mask (p.put ++ z) ∧ whJ p.mask (p.put ++ z) = p.put.length ∧ getI p.mask ((p.put ++ z).take p.put.length) = (p, 0) := by
  have h1 := hdI_put h
  have h2 := hdI_app (m := p.mask) (l := p.put) (by rw [h1]) z
  have h3 := put_length (p := p) (show MayI p.fin p.op p.mask p.key p.dat.length from h).2.2.1
  have h4 : whJ p.mask (p.put ++ z) = p.put.length := by unfold whJ; rw [h2, h1]; exact h3.symm
  refine ⟨⟨by rw [h2, h1], by rw [h2, h1], by rw [h4, List.length_append]; omega⟩, h4, ?_⟩
  rw [List.take_left]
  exact getI_put h hkey
theorem AllJ.puts {m : Bool} : ∀ (l : List Pc), (∀ p ∈ l, p.May ∧ p.key < 4294967296 ∧ p.mask = m) → AllJ m (putsJ l) l 0 0 := by
  intro l
  induction l with
  | nil => exact fun _ => .stop ⟨rfl, .inl rfl⟩
  | cons p l ih =>
    intro hl
    obtain ⟨h1, h2, rfl⟩ := hl p (by simp)
    obtain ⟨h3, h4, h5⟩ := put_whole h1 h2 (putsJ l)
    have e : putsJ (p :: l) = p.put ++ putsJ l := by unfold putsJ; rw [List.flatMap_cons]
    rw [e]
    have h6 := AllJ.go (m := p.mask) (l := p.put ++ putsJ l) (out := l) (c := 0) (n := 0) h3
    rw [h4, h5, List.drop_left] at h6
    exact h6 (ih fun q hq => hl q (by simp [hq]))
end Go.Proofs.YtejlbgllfkfkfaaDoor
