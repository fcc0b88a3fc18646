/-
  TurnsCredit: for every row of operations the law answers true. No conditions.
  TurnsCredit's accounts beside a ring: what each operation keeps. No program; no conditions but those that each theorem names.
  TurnsCredit's accounts in memory: their cells, find by contract, what a step leaves. No conditions but those that each theorem names.
  TurnsCredit: the law's walk. Condition: the operations are read.
-/
import Derived.Test.YtplohgaecoobaaaUem
import Derived.Test.YtplohgaecoobaaaUfw
import Derived.Deep.CutBlock
import Derived.Test.YtplohgaecoobaaaWsm
import Derived.BigQuiet
import Derived.Deep.QuietTactic
import Derived.Test.YtplohgaecoobaaaPost
import Derived.Test.YtplohgaecoobaaaUar

namespace Go.Proofs.Ytplohgaecoobaaa

/-- What was put, sent and granted of a stream. -/
structure Ac where
  st : Nat
  pt : List UInt8
  sn : List UInt8
  cr : Int
def Ac.sn_ (a : Ac) : Sn := ⟨a.st, [], false, false, 0⟩
/-- The place of a stream's account; the list's length. -/
def fa (s : Nat) (l : List Ac) : Nat := fd s (l.map Ac.sn_)
theorem fa_le (s : Nat) (l : List Ac) : fa s l ≤ l.length := by
  have := fd_le s (l.map Ac.sn_)
  rwa [List.length_map] at this
theorem fa_hit {s : Nat} {l : List Ac} {k : Nat} (hk : k < l.length) (h1 : k ≤ fa s l) (h2 : l[k].st = s) : fa s l = k := by
  unfold fa at *
  exact fd_hit (L := l.map Ac.sn_) (k := k) (by rw [List.length_map]; exact hk) h1 (by simp only [List.getElem_map]; exact h2)
theorem fa_more {s : Nat} {l : List Ac} {k : Nat} (hk : k < l.length) (h1 : k ≤ fa s l) (h2 : l[k].st ≠ s) : k + 1 ≤ fa s l := by
  unfold fa at *
  exact fd_more (L := l.map Ac.sn_) (k := k) (by rw [List.length_map]; exact hk) h1 (by simp only [List.getElem_map]; exact h2)
theorem fa_at {s : Nat} {l : List Ac} (h : fa s l < l.length) : l[fa s l].st = s := by
  have h1 : fd s (l.map Ac.sn_) < (l.map Ac.sn_).length := by rw [List.length_map]; exact h
  have h2 := fd_at h1
  simp only [List.getElem_map] at h2
  exact h2
theorem fd_ex {s : Nat} {l : List Sn} {k : Nat} {x : Sn} (hk : l[k]? = some x) (hs : x.st = s) : fd s l < l.length := by
  obtain ⟨hkl, hx⟩ := List.getElem?_eq_some_iff.1 hk
  rcases Nat.lt_or_ge (fd s l) l.length with h | h
  · exact h
  · exfalso
    have h1 := fd_le s l
    have := fd_hit (s := s) hkl (by omega) (by rw [hx]; exact hs)
    omega
/-- Each number but 0 once. -/
def UqA (l : List Ac) : Prop := ∀ (i j : Nat) (a b : Ac), l[i]? = some a → l[j]? = some b → a.st = b.st → a.st ≠ 0 → i = j
theorem fa_iff {s : Nat} {l : List Ac} (hu : UqA l) {k : Nat} {a : Ac} (hk : l[k]? = some a) (hs : a.st = s) (h0 : s ≠ 0) : fa s l = k := by
  have h1 : (l.map Ac.sn_)[k]? = some a.sn_ := by rw [List.getElem?_map, hk]; rfl
  have h2 : fa s l < l.length := by
    have h9 := fd_ex h1 (show a.sn_.st = s from hs)
    rw [List.length_map] at h9
    exact h9
  have h3 := fa_at (s := s) (l := l) h2
  exact hu _ _ _ _ (List.getElem?_eq_getElem h2) hk (by rw [h3, hs]) (by rw [h3]; exact h0)
/-- Each stream's account tells it. -/
structure CrI (m : Rm) (l : List Ac) : Prop where
  lv : ∀ x ∈ m.l, ∃ (k : Nat) (a : Ac), l[k]? = some a ∧ a.st = x.st ∧ a.pt = a.sn ++ x.b ∧ a.cr = x.lf
  uq : UqA l
/-- The accounts' bounds, behind n operations and z bytes. -/
structure CrB (l : List Ac) (n z : Nat) : Prop where
  len : l.length ≤ n
  a : ∀ a ∈ l, a.st < 4294967296 ∧ a.pt.length ≤ z ∧ a.sn.length ≤ a.pt.length ∧ -2147483648 ≤ a.cr + 4294967296 * (n : Int) ∧ a.cr ≤ 2147483647 + 4294967296 * (n : Int)
theorem CrB.mono {l : List Ac} {n z n' z' : Nat} (h : CrB l n z) (hn : n ≤ n') (hz : z ≤ z') : CrB l n' z' := ⟨by have := h.len; omega, fun a ha => by have := h.a a ha; omega⟩
theorem CrB.set {l : List Ac} {n z : Nat} (h : CrB l n z) {k : Nat} {a : Ac} (ha : a.st < 4294967296 ∧ a.pt.length ≤ z ∧ a.sn.length ≤ a.pt.length ∧ -2147483648 ≤ a.cr + 4294967296 * (n : Int) ∧ a.cr ≤ 2147483647 + 4294967296 * (n : Int)) : CrB (l.set k a) n z :=
  ⟨by rw [List.length_set]; exact h.len, fun b hb => by
    rcases List.mem_or_eq_of_mem_set hb with h1 | rfl
    · exact h.a b h1
    · exact ha⟩
theorem cr_new (left : Int) : CrI (rmNew left) [] := ⟨fun x hx => by simp [rmNew] at hx, fun i j a b h => by simp at h⟩
theorem UqA.set {l : List Ac} (h : UqA l) {k : Nat} {a b : Ac} (hk : l[k]? = some a) (hs : b.st = a.st) : UqA (l.set k b) := by
  have hx : ∀ (j : Nat) (c : Ac), (l.set k b)[j]? = some c → ∃ c', l[j]? = some c' ∧ c'.st = c.st := fun j c hj => by
    rw [List.getElem?_set] at hj
    split at hj
    · rename_i he
      subst he
      rw [if_pos (List.getElem?_eq_some_iff.1 hk).1] at hj
      cases hj
      exact ⟨a, hk, hs.symm⟩
    · exact ⟨c, hj, rfl⟩
  intro i j c d hc hd he h0
  obtain ⟨c', h1, h2⟩ := hx i c hc
  obtain ⟨d', h3, h4⟩ := hx j d hd
  exact h i j c' d' h1 h3 (by rw [h2, h4]; exact he) (by rw [h2]; exact h0)
/-- One stream changed, and its account with it. -/
theorem CrI.set {m : Rm} {l : List Ac} (h : CrI m l) (hm : m.Ok) {k : Nat} {x y : Sn} (hk : m.l[k]? = some x) (hy : y.st = x.st) {i : Nat} {a b : Ac} (hi : l[i]? = some a) (has : a.st = x.st) (hb : b.st = a.st) (h1 : b.pt = b.sn ++ y.b) (h2 : b.cr = y.lf) (t : Nat) (w : Int) : CrI ⟨m.l.set k y, t, w⟩ (l.set i b) := by
  have hil := (List.getElem?_eq_some_iff.1 hi).1
  refine ⟨fun z hz => ?_, h.uq.set hi hb⟩
  obtain ⟨j, hj⟩ := List.getElem?_of_mem hz
  dsimp only at hj
  by_cases hkj : k = j
  · subst hkj
    rw [List.getElem?_set, if_pos rfl, if_pos (List.getElem?_eq_some_iff.1 hk).1] at hj
    cases hj
    exact ⟨i, b, by rw [List.getElem?_set, if_pos rfl, if_pos hil], by rw [hb, has, hy], h1, h2⟩
  · rw [List.getElem?_set, if_neg hkj] at hj
    obtain ⟨i', a', h3, h4, h5, h6⟩ := h.lv z (List.mem_of_getElem? hj)
    refine ⟨i', a', ?_, h4, h5, h6⟩
    rw [List.getElem?_set, if_neg, h3]
    rintro rfl
    rw [hi] at h3
    cases h3
    exact hkj (hm.uq k j x z hk hj (by rw [← has, h4]))
/-- The account of a stream that is there. -/
theorem CrI.acc {m : Rm} {l : List Ac} (h : CrI m l) (hm : m.Ok) {x : Sn} (hx : x ∈ m.l) : ∃ a, l[fa x.st l]? = some a ∧ a.st = x.st ∧ a.pt = a.sn ++ x.b ∧ a.cr = x.lf ∧ fa x.st l < l.length := by
  obtain ⟨k, a, h1, h2, h3, h4⟩ := h.lv x hx
  have h5 := (hm.st x hx).1
  have h6 := fa_iff h.uq h1 h2 (by omega)
  rw [h6]
  exact ⟨a, h1, h2, h3, h4, (List.getElem?_eq_some_iff.1 h1).1⟩
/-- The accounts behind an Open. -/
def acO (l : List Ac) (s : Nat) : List Ac := match l[fa s l]? with | none => l | some a => l.set (fa s l) { a with st := 0 }
theorem acO_len (l : List Ac) (s : Nat) : (acO l s).length = l.length := by
  unfold acO
  split <;> simp
theorem CrI.open_ {m : Rm} {l : List Ac} (h : CrI m l) (s : Nat) (lf : Int) (ho : (rmOpen m s lf).2 = true) : CrI (rmOpen m s lf).1 (acO l s ++ [⟨s, [], [], btw lf⟩]) := by
  unfold rmOpen at ho ⊢
  split at ho
  · cases ho
  · rename_i hno
    rw [if_neg hno]
    have hs0 : s ≠ 0 := fun e => hno (.inl e)
    have hns : ∀ x ∈ m.l, x.st ≠ s := fun x hx e => by
      obtain ⟨j, hj⟩ := List.getElem?_of_mem hx
      exact hno (.inr (fd_ex hj e))
    have hat : ∀ (j : Nat) (a : Ac), l[j]? = some a → a.st ≠ s → (acO l s)[j]? = some a := fun j a hj ha => by
      unfold acO
      split
      · exact hj
      · rename_i c hc
        rw [List.getElem?_set, if_neg]
        · exact hj
        · rintro rfl
          have h1 := fa_at (List.getElem?_eq_some_iff.1 hc).1
          rw [(List.getElem?_eq_some_iff.1 hj).2] at h1
          exact ha h1
    have hinv : ∀ (j : Nat) (a : Ac), (acO l s)[j]? = some a → a.st ≠ s ∧ (a.st ≠ 0 → l[j]? = some a) := fun j a hj => by
      unfold acO at hj
      split at hj
      · rename_i hc
        refine ⟨fun e => ?_, fun _ => hj⟩
        have h1 := fa_le s l
        have h2 : ¬ fa s l < l.length := fun h3 => by rw [List.getElem?_eq_getElem h3] at hc; cases hc
        have h4 : (l.map Ac.sn_)[j]? = some a.sn_ := by rw [List.getElem?_map, hj]; rfl
        have h5 := fd_ex h4 (show a.sn_.st = s from e)
        rw [List.length_map] at h5
        exact h2 h5
      · rename_i c hc
        have hcl := (List.getElem?_eq_some_iff.1 hc).1
        rw [List.getElem?_set] at hj
        split at hj
        · rename_i he
          cases hj
          exact ⟨fun e => hs0 e.symm, fun e => absurd rfl e⟩
        · rename_i hne
          refine ⟨fun e => hne ?_, fun _ => hj⟩
          have h1 := fa_at hcl
          have h2 := List.getElem?_eq_getElem hcl
          exact h.uq _ _ _ _ h2 hj (by rw [h1, e]) (by rw [h1]; exact hs0)
    refine ⟨fun x hx => ?_, ?_⟩
    · rcases List.mem_append.1 hx with hx | hx
      · obtain ⟨k, a, h1, h2, h3, h4⟩ := h.lv x hx
        refine ⟨k, a, ?_, h2, h3, h4⟩
        have h5 := hat k a h1 (by rw [h2]; exact hns x hx)
        rw [List.getElem?_append_left (List.getElem?_eq_some_iff.1 h5).1]
        exact h5
      · rw [List.mem_singleton.1 hx]
        exact ⟨(acO l s).length, ⟨s, [], [], btw lf⟩, by rw [List.getElem?_append_right (Nat.le_refl _), Nat.sub_self]; rfl, rfl, rfl, rfl⟩
    · intro i j a b ha hb he h0
      have hx : ∀ (j : Nat) (b : Ac), (acO l s ++ [⟨s, [], [], btw lf⟩])[j]? = some b → (acO l s)[j]? = some b ∨ j = (acO l s).length ∧ b.st = s := fun j b hj => by
        rw [List.getElem?_append] at hj
        split at hj
        · exact .inl hj
        · rw [List.getElem?_singleton] at hj
          split at hj
          · cases hj; exact .inr ⟨by omega, rfl⟩
          · cases hj
      rcases hx i a ha with h1 | ⟨h1, h2⟩ <;> rcases hx j b hb with h3 | ⟨h3, h4⟩
      · exact h.uq i j a b ((hinv i a h1).2 h0) ((hinv j b h3).2 (by rw [← he]; exact h0)) he h0
      · exact absurd (he.trans h4) (hinv i a h1).1
      · exact absurd (he.symm.trans h2) (hinv j b h3).1
      · omega
theorem CrI.same {m m' : Rm} {l : List Ac} (h : CrI m l) (hs : ∀ x ∈ m'.l, x ∈ m.l) : CrI m' l := ⟨fun x hx => h.lv x (hs x hx), h.uq⟩
theorem rmOpen_no {m : Rm} {s : Nat} {lf : Int} (h : (rmOpen m s lf).2 = false) : (rmOpen m s lf).1 = m := by
  unfold rmOpen at h ⊢
  split
  · rfl
  · rename_i h1
    rw [if_neg h1] at h
    cases h
theorem rmPut_no {m : Rm} {s : Nat} {b : List UInt8} {en : Bool} (h : (rmPut m s b en).2 = false) : (rmPut m s b en).1 = m := by
  unfold rmPut at h ⊢
  split
  · rfl
  · rename_i x hx
    rw [hx] at h
    dsimp only at h ⊢
    split
    · rfl
    · rename_i h1
      rw [if_neg h1] at h
      cases h
theorem rmPut_yes {m : Rm} {s : Nat} {b : List UInt8} {en : Bool} (h : (rmPut m s b en).2 = true) : ∃ x, m.l[fd s m.l]? = some x ∧ x.st = s ∧ (rmPut m s b en).1 = ⟨m.l.set (fd s m.l) { x with b := x.b ++ b, en := en }, m.t, m.w⟩ := by
  unfold rmPut at h ⊢
  split at h
  · cases h
  · rename_i x hx
    have h1 := fd_at (List.getElem?_eq_some_iff.1 hx).1
    rw [(List.getElem?_eq_some_iff.1 hx).2] at h1
    refine ⟨x, hx, h1, ?_⟩
    split at h
    · cases h
    · rename_i h2
      rw [if_neg h2]
/-- Behind a Put. -/
theorem CrI.put {m : Rm} {l : List Ac} (h : CrI m l) (hm : m.Ok) {s : Nat} {b : List UInt8} {en : Bool} (hp : (rmPut m s b en).2 = true) : ∃ a, l[fa s l]? = some a ∧ CrI (rmPut m s b en).1 (l.set (fa s l) { a with pt := a.pt ++ b }) := by
  obtain ⟨x, hx, hs, he⟩ := rmPut_yes hp
  obtain ⟨a, h1, h2, h3, h4, _⟩ := h.acc hm (List.mem_of_getElem? hx)
  rw [hs] at h1
  refine ⟨a, h1, ?_⟩
  rw [he]
  exact h.set hm hx (y := { x with b := x.b ++ b, en := en }) rfl h1 (b := { a with pt := a.pt ++ b }) h2 rfl (by show a.pt ++ b = a.sn ++ (x.b ++ b); rw [h3, List.append_assoc]) h4 _ _
/-- Behind a Next. -/
theorem CrI.next {m : Rm} {l : List Ac} (h : CrI m l) (hm : m.Ok) {most : Int} {x : Sn} {N : Nat} {m' : Rm} (hr : rmNext m most = some (x, N, m')) :
    ∃ a, l[fa x.st l]? = some a ∧ CrI m' (l.set (fa x.st l) { a with sn := a.sn ++ x.b.take N, cr := a.cr - N }) ∧ m'.w = m.w - N ∧ (0 < N → 0 ≤ a.cr - N ∧ 0 ≤ m.w - N) ∧ a.pt = a.sn ++ x.b.take N ++ x.b.drop N ∧ ((snY N x).ov = true → x.b.drop N = []) ∧ 0 < x.st ∧ (x.b.take N).length = N := by
  obtain ⟨k, hs⟩ := rmNext_sends hm hr
  obtain ⟨a, h1, h2, h3, h4, _⟩ := h.acc hm (List.mem_of_getElem? hs.at_)
  refine ⟨a, h1, ?_, by rw [hs.eq], fun h0 => ?_, by rw [List.append_assoc, List.take_append_drop]; exact h3, fun h0 => ?_, (hm.st x (List.mem_of_getElem? hs.at_)).1, by rw [List.length_take, Nat.min_eq_left hs.le]⟩
  · rw [hs.eq]
    exact h.set hm hs.at_ (y := snY N x) rfl h1 (b := { a with sn := a.sn ++ x.b.take N, cr := a.cr - N }) h2 rfl (by show a.pt = a.sn ++ x.b.take N ++ x.b.drop N; rw [List.append_assoc, List.take_append_drop]; exact h3) (by show a.cr - N = x.lf - N; rw [h4]) _ _
  · have := hs.lf (by omega)
    rw [h4]
    omega
  · have h5 : (x.en && decide (x.b.drop N = [])) = true := h0
    simp only [Bool.and_eq_true, decide_eq_true_eq] at h5
    exact h5.2
/-- Behind a Grow: what it answers, and what it leaves. -/
theorem CrI.grow0 {m : Rm} {l : List Ac} (h : CrI m l) (hm : m.Ok) {s n : Nat} (h0 : s = 0) : CrI (rmGrow m s n).1 l ∧ ((rmGrow m s n).2 = 0 → (rmGrow m s n).1.w = m.w + n) ∧ ((rmGrow m s n).2 ≠ 0 → (rmGrow m s n).1.w = m.w) := by
  unfold rmGrow
  rw [if_pos h0]
  refine ⟨h.same fun x hx => hx, fun h1 => ?_, fun h1 => ?_⟩
  · have h2 : gwS m.w n false false = 0 := h1
    show gwN m.w n = m.w + n
    unfold gwS scN at h2
    unfold gwN
    split at h2
    · cases h2
    · rename_i h3
      rw [if_neg h3]
      have := hm.wn
      omega
  · have h2 : gwS m.w n false false ≠ 0 := h1
    show gwN m.w n = m.w
    unfold gwS at h2
    unfold gwN
    split at h2
    · rename_i h3
      rw [if_pos h3]
    · exact absurd rfl h2
theorem CrI.growN {m : Rm} {l : List Ac} (h : CrI m l) (_hm : m.Ok) {s n : Nat} (h0 : s ≠ 0) (hg : (rmGrow m s n).2 ≠ 0) : CrI (rmGrow m s n).1 l ∧ (rmGrow m s n).1.w = m.w := by
  unfold rmGrow at hg ⊢
  rw [if_neg h0] at hg ⊢
  cases hx : m.l[fd s m.l]? with
  | none => exact ⟨h, rfl⟩
  | some x =>
    rw [hx] at hg
    have h2 : gwS x.lf n true false ≠ 0 := hg
    have h3 : gwN x.lf n = x.lf := by
      unfold gwS at h2
      unfold gwN
      split at h2
      · rename_i h3; rw [if_pos h3]
      · exact absurd rfl h2
    refine ⟨h.same fun y hy => ?_, rfl⟩
    dsimp only at hy
    rw [h3] at hy
    rcases List.mem_or_eq_of_mem_set hy with h4 | rfl
    · exact h4
    · exact List.mem_of_getElem? hx
theorem CrI.growY {m : Rm} {l : List Ac} (h : CrI m l) (hm : m.Ok) {s n : Nat} (h0 : s ≠ 0) (hg : (rmGrow m s n).2 = 0) : (rmGrow m s n).1.w = m.w ∧ (∀ a, l[fa s l]? = some a → CrI (rmGrow m s n).1 (l.set (fa s l) { a with cr := a.cr + n })) ∧ (l[fa s l]? = none → CrI (rmGrow m s n).1 l) := by
  unfold rmGrow at hg ⊢
  rw [if_neg h0] at hg ⊢
  cases hx : m.l[fd s m.l]? with
  | none =>
    refine ⟨rfl, fun a ha => ?_, fun _ => h⟩
    refine ⟨fun y hy => ?_, h.uq.set ha rfl⟩
    obtain ⟨i, c, h1, h2, h3, h4⟩ := h.lv y hy
    refine ⟨i, c, ?_, h2, h3, h4⟩
    rw [List.getElem?_set, if_neg, h1]
    rintro rfl
    have h5 := fa_at (List.getElem?_eq_some_iff.1 ha).1
    rw [(List.getElem?_eq_some_iff.1 h1).2, h2] at h5
    obtain ⟨j, hj⟩ := List.getElem?_of_mem hy
    have h6 := fd_ex hj h5
    rw [List.getElem?_eq_getElem h6] at hx
    cases hx
  | some x =>
    rw [hx] at hg
    have h2 : gwS x.lf n true false = 0 := hg
    have hxs : x.st = s := by
      have h1 := fd_at (List.getElem?_eq_some_iff.1 hx).1
      rw [(List.getElem?_eq_some_iff.1 hx).2] at h1
      exact h1
    have hlf := hm.lf x (List.mem_of_getElem? hx)
    have h3 : gwN x.lf n = x.lf + n := by
      unfold gwS scN at h2
      unfold gwN
      split at h2
      · cases h2
      · rename_i h3; rw [if_neg h3]; omega
    obtain ⟨a, h4, h5, h6, h7, h8⟩ := h.acc hm (List.mem_of_getElem? hx)
    rw [hxs] at h4
    refine ⟨rfl, fun a' ha' => ?_, fun hn => by rw [h4] at hn; cases hn⟩
    rw [h4] at ha'
    cases ha'
    exact h.set hm hx (y := { x with lf := gwN x.lf n }) rfl h4 (b := { a with cr := a.cr + n }) h5 rfl h6 (by show a.cr + n = gwN x.lf n; rw [h3, h7]) _ _
theorem CrI.drop {m : Rm} {l : List Ac} (h : CrI m l) (s : Nat) : CrI (rmDrop m s) l := h.same fun x hx => by
  unfold rmDrop at hx
  split at hx
  · exact ers_mem hx
  · exact hx
theorem rmw_same (m : Rm) (s : Nat) : (rmDrop m s).w = m.w := by unfold rmDrop; split <;> rfl
theorem rmOpen_w (m : Rm) (s : Nat) (lf : Int) : (rmOpen m s lf).1.w = m.w := by unfold rmOpen; split <;> rfl
theorem rmPut_w (m : Rm) (s : Nat) (b : List UInt8) (en : Bool) : (rmPut m s b en).1.w = m.w := by
  unfold rmPut
  split
  · rfl
  · split <;> rfl
end Go.Proofs.Ytplohgaecoobaaa

namespace Go.Proofs.Ytplohgaecoobaaa
open Go.RowKit Go.WideShapes

def acc (a : Ac) : Array Value := #[.int .u32 a.st, .string (tb a.pt), .string (tb a.sn), .int .i64 a.cr]
def acl (a : Ac) : List Value := (acc a).toList
theorem acl_len (a : Ac) : (acl a).length = 4 := rfl
theorem acl_c (a : Ac) : acl a = (acc a).toList := rfl
theorem ac_size (a : Ac) : (acc a).size = 4 := rfl
theorem acl_one (a : Ac) : ∀ u ∈ acl a, u.oneCell' = true := by
  intro u hu
  unfold acl acc at hu
  simp at hu
  rcases hu with rfl | rfl | rfl | rfl <;> rfl
theorem ac_full : (Try.prog.info? 51).map (fun i => (i.zero, i.size, i.bytes)) = some (some (.agg #[.int .u32 0, .string ⟨#[]⟩, .string ⟨#[]⟩, .int .i64 0]), 4, 48) := by kernel_rfl
theorem ac_info : (Try.prog.info? 51).map (·.size) = some 4 := by kernel_rfl
theorem ac_ok (a : Ac) : AgOk Try.prog 51 (acc a) := ⟨⟨_, Try.underlying51⟩, ac_info, by unfold acc; kernel_rfl⟩
theorem ac_cells {w : World} {g : Nat} {a : Ac} (h : Row w g 51 (acc a)) : w.cell? ⟨g, 0, none⟩ = some (.int .u32 a.st) ∧ w.cell? ⟨g, 1, none⟩ = some (.string (tb a.pt)) ∧ w.cell? ⟨g, 2, none⟩ = some (.string (tb a.sn)) ∧ w.cell? ⟨g, 3, none⟩ = some (.int .i64 a.cr) := ⟨h.cell rfl, h.cell rfl, h.cell rfl, h.cell rfl⟩
/-- An account's variable, made and stored into. -/
theorem one_ac (w : World) (a : Ac) : ∃ w', (w.alloc (.cells #[.int .u32 0, .string ⟨#[]⟩, .string ⟨#[]⟩, .int .i64 0] 51)).setRow w.heap.size (acc a) = w' ∧ Row (w.alloc (.cells #[.int .u32 0, .string ⟨#[]⟩, .string ⟨#[]⟩, .int .i64 0] 51)) w.heap.size 51 #[.int .u32 0, .string ⟨#[]⟩, .string ⟨#[]⟩, .int .i64 0] ∧
    Row w' w.heap.size 51 (acc a) ∧ Below w.heap.size w w' ∧ w'.heap.size = w.heap.size + 1 :=
  ⟨_, rfl, Row.new w _ _, (Row.new w _ _).setRow _, below_setRow ((Below.refl _ _).alloc (Nat.le_refl _) _) _ _ (Nat.le_refl _), by simp⟩
/-- One cell of a slice that the call made, stored anew. -/
theorem OwS.stored1 {w : World} {base : Nat} {e : TypeId} {k n c : Nat} {A : Option Addr} {cs : List Value} (h : OwS w base e k (.slice A n c) n cs) {q : Nat} (hq : q < cs.length) (u : Value) :
    ∃ g o, A = some ⟨g, o, none⟩ ∧ base ≤ g ∧ g < w.heap.size ∧ ob (.slice A n c) g ∧ w.frozen? ⟨g, o + q, none⟩ = false ∧ OwS (w.setCell ⟨g, o + q, none⟩ u) base e k (.slice A n c) n (cs.set q u) ∧ Fs (fun b => b = g) w (w.setCell ⟨g, o + q, none⟩ u) := by
  have hcl := h.1
  rcases h.2 with ⟨e1, h0⟩ | ⟨g, o, c', cur, e1, hb, hr, h1, h2, h3, h4⟩
  · rw [h0, Nat.zero_mul] at hcl; omega
  · injection e1 with e1 e2 e3
    subst e1 e3
    refine ⟨g, o, rfl, hb, hr.lt, rfl, hr.thawed _, ⟨by rw [List.length_set]; exact hcl, .inr ⟨g, o, c, _, rfl, hb, hr.stored (o + q) u, h1, h2, by simpa using h3, ?_⟩⟩, fs_set _ _ _ _⟩
    rw [Array.toList_setIfInBounds, List.drop_set, if_neg (by omega), Nat.add_sub_cancel_left, List.take_set, h4]
theorem enl_cell {l : List Ac} {i j : Nat} {a b : Ac} {u : Value} (hi : l[i]? = some a) (hj : j < 4) (hb : acl b = (acl a).set j u) : (enl acl l).set (i * 4 + j) u = enl acl (l.set i b) := by
  obtain ⟨hl, rfl⟩ := List.getElem?_eq_some_iff.1 hi
  have e1 : l = l.take i ++ l[i] :: l.drop (i + 1) := by rw [← List.drop_eq_getElem_cons hl, List.take_append_drop]
  have e2 : l.set i b = l.take i ++ b :: l.drop (i + 1) := by rw [List.set_eq_take_append_cons_drop, if_pos hl]
  have e3 : (enl acl (l.take i)).length = i * 4 := by rw [enl_length acl_len, List.length_take, Nat.min_eq_left (by omega)]
  rw [e2]
  conv => lhs; rw [e1]
  rw [enl_append, enl_append, enl_cons, enl_cons, List.set_append_right _ _ (by omega), e3, Nat.add_sub_cancel_left, List.set_append_left _ _ (by rw [acl_len]; exact hj), hb]
/-- What the law's loop keeps. -/
structure CwI (w wr : World) (F : Nat → Prop) (g : Nat) (m : Rm) (A : Option Addr) (c : Nat) (l : List Ac) : Prop where
  t : Tr wr F g m
  ok : m.Ok
  fr : ∀ x, F x → w.heap.size ≤ x
  ow : OwS wr w.heap.size 51 4 (.slice A l.length c) l.length (enl acl l)
  b : Below w.heap.size w wr
section
variable {w wr w' : World} {F F' : Nat → Prop} {g : Nat} {m m' : Rm} {A A' : Option Addr} {c c' : Nat} {l l' : List Ac}
theorem CwI.nf (h : CwI w wr F g m A c l) : ∀ k, ob (.slice A l.length c) k → ¬ F k := fun k hk => by
  obtain ⟨cur, h4⟩ := OwS.row h.ow hk
  exact h.t.no h4 (by decide) (by decide) (by decide) (by decide) (by decide)
theorem CwI.below (h : CwI w wr F g m A c l) (hb : Below wr.heap.size wr w') : CwI w w' F g m A c l :=
  ⟨h.t.below hb, h.ok, h.fr, OwS.below h.ow hb, h.b.trans (hb.mono h.b.size)⟩
theorem CwI.on (h : CwI w wr F g m A c l) (hm : m'.Ok) (hT : Tr w' F' g m') (hF : Fs F wr w') (hN : ∀ k, F' k → F k ∨ wr.heap.size ≤ k) : CwI w w' F' g m' A c l :=
  ⟨hT, hm, fun x hx => by
    rcases hN x hx with h1 | h1
    · exact h.fr x h1
    · have := h.b.size; omega, hF.owns h.ow h.nf, h.b.trans (hF.below (fun x hx _ => h.fr x hx) h.b.size)⟩
/-- The accounts changed. -/
theorem CwI.acs (h : CwI w wr F g m A c l) (ho : OwS w' w.heap.size 51 4 (.slice A' l'.length c') l'.length (enl acl l')) (hF : Fs (ob (.slice A l.length c)) wr w') : CwI w w' F g m A' c' l' :=
  ⟨h.t.keep fun k hk => hF.block k (h.t.lts k hk) fun h1 => h.nf k h1 hk, h.ok, h.fr, ho, h.b.trans (hF.below (fun k hk _ => (OwS.lt h.ow k hk).1) h.b.size)⟩
/-- One field of an account stored. -/
theorem CwI.fld (h : CwI w wr F g m A c l) {i j : Nat} {a b : Ac} {u : Value} (hi : l[i]? = some a) (hj : j < 4) (hb : acl b = (acl a).set j u) :
    ∃ q o, A = some ⟨q, o, none⟩ ∧ q < wr.heap.size ∧ wr.frozen? ⟨q, o + (i * 4 + j), none⟩ = false ∧ CwI w (wr.setCell ⟨q, o + (i * 4 + j), none⟩ u) F g m A c (l.set i b) ∧ Fs (fun k => k = q) wr (wr.setCell ⟨q, o + (i * 4 + j), none⟩ u) ∧ ∃ cur, Row wr q 51 cur := by
  have hl := (List.getElem?_eq_some_iff.1 hi).1
  obtain ⟨q, o, h1, h2, h3, h4, h5, h6, h7⟩ := h.ow.stored1 (q := i * 4 + j) (by rw [enl_length acl_len]; omega) u
  rw [enl_cell hi hj hb] at h6
  refine ⟨q, o, h1, h3, h5, h.acs (by rw [List.length_set]; exact h6) (h7.mono fun k _ hk => by rw [show k = q from hk]; exact h4), h7, OwS.row h.ow h4⟩
/-- A whole account stored. -/
theorem CwI.all_ (h : CwI w wr F g m A c l) {i : Nat} {a : Ac} (hi : l[i]? = some a) (b : Ac) :
    ∃ q o, A = some ⟨q, o, none⟩ ∧ wr.there q (o + i * 4) 4 ∧ CwI w (wr.setCells q (o + i * 4) (acl b)) F g m A c (l.set i b) := by
  obtain ⟨q, o, h1, h2, h3, h4, h5, h6, h7⟩ := h.ow.put acl_len (by omega) rfl (List.getElem?_eq_some_iff.1 hi).1 b
  exact ⟨q, o, h1, h5, h.acs (by rw [List.length_set]; exact h6) (h7.mono fun k _ hk => by rw [show k = q from hk]; exact h4)⟩
/-- An account's cells. -/
theorem CwI.at_ (h : CwI w wr F g m A c l) {i : Nat} {a : Ac} (hi : l[i]? = some a) : ∃ q o, A = some ⟨q, o, none⟩ ∧ wr.rangeAt q (o + i * 4) (acc a).toList ∧ wr.cell? ⟨q, o + i * 4, none⟩ = some (.int .u32 a.st) ∧ wr.cell? ⟨q, o + i * 4 + 1, none⟩ = some (.string (tb a.pt)) ∧ wr.cell? ⟨q, o + i * 4 + 3, none⟩ = some (.int .i64 a.cr) := by
  obtain ⟨hl, rfl⟩ := List.getElem?_eq_some_iff.1 hi
  obtain ⟨q, o, h1, _, h2⟩ := (OwS.reads h.ow).elem acl_len hl (by omega)
  exact ⟨q, o, h1, h2, h2 0 _ rfl, h2 1 _ rfl, h2 3 _ rfl⟩
end
attribute [local irreducible] fa
set_option maxRecDepth 100000 in
set_option maxHeartbeats 1000000 in
theorem cfind_any {w : World} {base : Nat} {A : Option Addr} {c : Nat} {l : List Ac} (h : OwS w base 51 4 (.slice A l.length c) l.length (enl acl l)) (hl : l.length ≤ 100000) (s : Nat) :
    Calls Try.prog 20 #[.slice A l.length c, .int .u32 s] w fun e w' => e = .returned (.int .i64 (if fa s l < l.length then (fa s l : Int) else -1)) ∧ w' = w := by
  have HR := Lib.hid (OwS.reads h)
  clear h
  obtain ⟨z, hz⟩ : ∃ z : Int, z = if fa s l < l.length then (fa s l : Int) else -1 := ⟨_, rfl⟩
  rw [← hz]
  have HZ := Lib.hid hz
  clear hz
  go_enter Try.func20, Try.ntmps20
  go_wp2_with fail
  go_loop [8] (fun i => ∃ k : Nat, k ≤ l.length ∧ i = .int .i64 k ∧ Hid (k ≤ fa s l)) (fun i => l.length - (intOf i).toNat)
  case atStart => exact ⟨0, Nat.zero_le _, rfl, Nat.zero_le _⟩
  case round =>
    obtain ⟨k, hk, rfl, hF⟩ := hrel
    by_cases hlt : k < l.length
    · obtain ⟨b, q, rfl, _, hr⟩ := HR.out.elem acl_len hlt (by omega)
      have hc : w.cell? ⟨b, q + k * 4, none⟩ = some (.int .u32 l[k].st) := hr 0 _ rfl
      by_cases hs : l[k].st = s
      · have e1 : ((l[k].st : Int) == (s : Int)) = true := by rw [hs]; exact beq_self_eq_true _
        have hE : Hid (z = k) := by
          show _ = _
          rw [HZ.out, fa_hit hlt hF.out hs, if_pos hlt]
        clear hr hs hF
        generalize l[k].st = y at *
        go_wp2_with fail
        go_ret
        rw [hE.out]
        exact ⟨rfl, rfl⟩
      · have e1 : ((l[k].st : Int) == (s : Int)) = false := by rw [beq_eq_false_iff_ne]; omega
        have hE : Hid (k + 1 ≤ fa s l) := fa_more hlt hF.out hs
        clear hr hs hF
        generalize l[k].st = y at *
        go_wp2_with fail
        go_round
        case rel => exact ⟨k + 1, by omega, by go_num, hE⟩
        case measure => simp [intOf]; omega
    · obtain rfl : k = l.length := by omega
      have hE : Hid (z = -1) := by
        show _ = _
        rw [HZ.out, if_neg (by have := hF.out; omega)]
      clear hF
      go_wp2_with fail
      go_ret
      rw [hE.out]
      exact ⟨rfl, rfl⟩
end Go.Proofs.Ytplohgaecoobaaa

namespace Go.Proofs.Ytplohgaecoobaaa
open Go.RowKit Go.WideShapes

/-- The accounts tell the ring, and both are within their bounds. -/
structure CrM (m : Rm) (L : List Ac) (n z : Nat) : Prop where
  i : CrI m L
  b : CrB L n z
  a : allB m ≤ z
  l : m.l.length ≤ n
section
variable {m : Rm} {L : List Ac} {n z z' : Nat}
theorem CrM.same (h : CrM m L n z) (hz : z ≤ z') : CrM m L (n + 1) z' := ⟨h.i, h.b.mono (Nat.le_succ _) hz, Nat.le_trans h.a hz, Nat.le_succ_of_le h.l⟩
theorem CrB.at_ (h : CrB L n z) {k : Nat} {a : Ac} (hk : L[k]? = some a) : a.st < 4294967296 ∧ a.pt.length ≤ z ∧ a.sn.length ≤ a.pt.length ∧ -2147483648 ≤ a.cr + 4294967296 * (n : Int) ∧ a.cr ≤ 2147483647 + 4294967296 * (n : Int) := h.a a (List.mem_of_getElem? hk)
theorem CrM.open_ (h : CrM m L n z) {s : Nat} {lf : Int} (hs : s < 4294967296) (hz : z + 1 ≤ z') (ho : (rmOpen m s lf).2 = true) : CrM (rmOpen m s lf).1 (acO L s ++ [⟨s, [], [], btw lf⟩]) (n + 1) z' := by
  have h1 := allB_open m s lf
  have h2 := h.a
  have h3 := h.l
  have h4 := h.b.len
  have hb := h.b.mono (n' := n + 1) (z' := z') (Nat.le_succ _) (by omega)
  refine ⟨h.i.open_ s lf ho, ⟨by rw [List.length_append, acO_len]; simpa using h4, fun a ha => ?_⟩, by omega, by omega⟩
  rcases List.mem_append.1 ha with ha | ha
  · unfold acO at ha
    split at ha
    · exact hb.a a ha
    · rename_i c hc
      rcases List.mem_or_eq_of_mem_set ha with h5 | rfl
      · exact hb.a a h5
      · have h6 := hb.a c (List.mem_of_getElem? hc)
        exact ⟨by show 0 < _; omega, h6.2.1, h6.2.2.1, h6.2.2.2.1, h6.2.2.2.2⟩
  · rw [List.mem_singleton.1 ha]
    have h6 := btw_in lf
    refine ⟨hs, Nat.zero_le _, Nat.le_refl _, ?_, ?_⟩
    · show _ ≤ btw lf + _
      omega
    · show btw lf ≤ _
      omega
theorem CrM.put (h : CrM m L n z) (hm : m.Ok) {s : Nat} {b : List UInt8} {en : Bool} (hz : z + 1 + b.length ≤ z') (hp : (rmPut m s b en).2 = true) : ∃ a, L[fa s L]? = some a ∧ a.pt.length ≤ z ∧ CrM (rmPut m s b en).1 (L.set (fa s L) { a with pt := a.pt ++ b }) (n + 1) z' := by
  obtain ⟨a, h1, h2⟩ := h.i.put hm hp
  have hb := h.b.mono (n' := n + 1) (z' := z') (Nat.le_succ _) (by omega)
  have h3 := h.b.at_ h1
  have h4 := hb.at_ h1
  have h5 := allB_put m s b en
  have h6 := h.a
  have h7 := h.l
  refine ⟨a, h1, h3.2.1, h2, hb.set ⟨h4.1, ?_, ?_, h4.2.2.2⟩, by omega, by omega⟩
  · show (a.pt ++ b).length ≤ z'
    rw [List.length_append]
    omega
  · show a.sn.length ≤ (a.pt ++ b).length
    rw [List.length_append]
    omega
theorem CrM.next (h : CrM m L n z) (hm : m.Ok) {most : Int} {x : Sn} {N : Nat} {m' : Rm} (hz : z + 1 ≤ z') (hz9 : z ≤ 9000) (hr : rmNext m most = some (x, N, m')) :
    ∃ a, L[fa x.st L]? = some a ∧ a.pt.length ≤ z ∧ CrM m' (L.set (fa x.st L) { a with sn := a.sn ++ x.b.take N, cr := a.cr - N }) (n + 1) z' ∧ m'.w = m.w - N ∧ (0 < N → 0 ≤ a.cr - N ∧ 0 ≤ m.w - N) ∧ a.pt = a.sn ++ x.b.take N ++ x.b.drop N ∧ ((snY N x).ov = true → x.b.drop N = []) ∧ 0 < x.st ∧ (x.b.take N).length = N ∧ m'.Ok ∧ -2147483648 ≤ a.cr + 4294967296 * (n : Int) ∧ a.cr ≤ 2147483647 + 4294967296 * (n : Int) := by
  obtain ⟨a, h1, h2, h3, h4, h5, h6, h7, h8⟩ := h.i.next hm hr
  have hnm : nxM m most = m' := by unfold nxM; rw [hr]
  have hok := nxM_ok hm most
  have hal := allB_next hm most
  rw [hnm] at hok hal
  have hb := h.b.mono (n' := n + 1) (z' := z') (Nat.le_succ _) (by omega)
  have h9 := h.b.at_ h1
  have h10 := hb.at_ h1
  have h11 := h.a
  have h12 := h.l
  have h13 : a.pt.length = a.sn.length + N + (x.b.drop N).length := by rw [h5, List.length_append, List.length_append, h8]
  refine ⟨a, h1, h9.2.1, ⟨h2, hb.set ⟨h10.1, h10.2.1, ?_, ?_, ?_⟩, by omega, by omega⟩, h3, h4, h5, h6, h7, h8, hok, h9.2.2.2⟩
  · show (a.sn ++ x.b.take N).length ≤ a.pt.length
    rw [List.length_append, h8]
    omega
  · show _ ≤ a.cr - N + _
    omega
  · show a.cr - N ≤ _
    omega
theorem CrM.grow0 (h : CrM m L n z) (hm : m.Ok) (hz : z ≤ z') {s x : Nat} (h0 : s = 0) : CrM (rmGrow m s x).1 L (n + 1) z' ∧ ((rmGrow m s x).2 = 0 → (rmGrow m s x).1.w = m.w + x) ∧ ((rmGrow m s x).2 ≠ 0 → (rmGrow m s x).1.w = m.w) := by
  obtain ⟨h1, h2, h3⟩ := h.i.grow0 hm (s := s) (n := x) h0
  have h4 := allB_grow m s x
  have h5 := h.a
  have h6 := h.l
  exact ⟨⟨h1, h.b.mono (Nat.le_succ _) hz, by omega, by omega⟩, h2, h3⟩
theorem CrM.growN (h : CrM m L n z) (hm : m.Ok) (hz : z ≤ z') {s x : Nat} (h0 : s ≠ 0) (hg : (rmGrow m s x).2 ≠ 0) : CrM (rmGrow m s x).1 L (n + 1) z' ∧ (rmGrow m s x).1.w = m.w := by
  obtain ⟨h1, h2⟩ := h.i.growN hm h0 hg
  have h4 := allB_grow m s x
  have h5 := h.a
  have h6 := h.l
  exact ⟨⟨h1, h.b.mono (Nat.le_succ _) hz, by omega, by omega⟩, h2⟩
theorem CrM.growY (h : CrM m L n z) (hm : m.Ok) (hz : z ≤ z') {s x : Nat} (hx : x < 4294967296) (h0 : s ≠ 0) (hg : (rmGrow m s x).2 = 0) : (rmGrow m s x).1.w = m.w ∧ (∀ a, L[fa s L]? = some a → CrM (rmGrow m s x).1 (L.set (fa s L) { a with cr := a.cr + x }) (n + 1) z') ∧ (L[fa s L]? = none → CrM (rmGrow m s x).1 L (n + 1) z') := by
  obtain ⟨h1, h2, h3⟩ := h.i.growY hm h0 hg
  have h4 := allB_grow m s x
  have h5 := h.a
  have h6 := h.l
  have hb := h.b.mono (n' := n + 1) (z' := z') (Nat.le_succ _) hz
  refine ⟨h1, fun a ha => ⟨h2 a ha, hb.set ?_, by omega, by omega⟩, fun hn => ⟨h3 hn, hb, by omega, by omega⟩⟩
  have h7 := h.b.at_ ha
  refine ⟨h7.1, by have := h7.2.1; show a.pt.length ≤ z'; omega, h7.2.2.1, ?_, ?_⟩
  · show _ ≤ a.cr + x + _
    omega
  · show a.cr + x ≤ _
    omega
theorem CrM.drop (h : CrM m L n z) (hz : z ≤ z') (s : Nat) : CrM (rmDrop m s) L (n + 1) z' := by
  have h4 := allB_drop m s
  have h5 := h.a
  have h6 := h.l
  exact ⟨h.i.drop s, h.b.mono (Nat.le_succ _) hz, by omega, by omega⟩
end
theorem bs_ac (s : Nat) (l : Int) (w : World) : (Instr.buildSlice 47 1 #[(0, .agg #[.int .u32 s, .string ⟨#[]⟩, .string ⟨#[]⟩, .int .i64 l])]).run Try.prog w = .ok (.slice (some ⟨w.heap.size, 0, none⟩) 1 1) (w.alloc (.cells #[.int .u32 s, .string ⟨#[]⟩, .string ⟨#[]⟩, .int .i64 l] 51)) := by kernel_rfl
theorem acc_new (s : Nat) (l : Int) : acl ⟨s, [], [], l⟩ = [.int .u32 s, .string ⟨#[]⟩, .string ⟨#[]⟩, .int .i64 l] := rfl
theorem enl_snoc (L : List Ac) (a : Ac) : enl acl (L ++ [a]) = enl acl L ++ acl a := by rw [enl_append, enl_cons, enl_nil, List.append_nil]
/-- One field of an account stored, in the walk's form. -/
theorem CwI.fld' {w wr : World} {F : Nat → Prop} {g : Nat} {m : Rm} {A : Option Addr} {c : Nat} {l : List Ac} (h : CwI w wr F g m A c l) {i : Nat} {a b : Ac} {u : Value} (j : Nat) (hi : l[i]? = some a) (hj : j < 4) (hb : acl b = (acl a).set j u) :
    ∃ q o, A = some ⟨q, o, none⟩ ∧ q < wr.heap.size ∧ wr.frozen? ⟨q, o + i * 4 + j, none⟩ = false ∧ CwI w (wr.setCell ⟨q, o + i * 4 + j, none⟩ u) F g m A c (l.set i b) ∧ wr.cell? ⟨q, o + i * 4, none⟩ = some (.int .u32 a.st) ∧ wr.cell? ⟨q, o + i * 4 + 1, none⟩ = some (.string (tb a.pt)) ∧ wr.cell? ⟨q, o + i * 4 + 3, none⟩ = some (.int .i64 a.cr) ∧ (∃ cur, Row wr q 51 cur) := by
  obtain ⟨q, o, h1, h2, h3, h4, _, h6⟩ := h.fld hi hj hb
  obtain ⟨q', o', h7, _, h8, h9, h10⟩ := h.at_ hi
  rw [h1] at h7
  cases h7
  rw [← Nat.add_assoc] at h3 h4
  exact ⟨q, o, h1, h2, h3, h4, h8, h9, h10, h6⟩
theorem CwI.store_row {w wr : World} {F : Nat → Prop} {g : Nat} {m : Rm} {A : Option Addr} {c : Nat} {l : List Ac} {q p : Nat} {t : TypeId} {cs : Array Value} (_h : CwI w wr F g m A c l) (hr : Row wr p t cs) (ht : t ≠ 51) (hq : ∃ cur, Row wr q 51 cur) (i : Nat) (u : Value) : Row (wr.setCell ⟨q, i, none⟩ u) p t cs := by
  obtain ⟨cur, hq⟩ := hq
  exact hr.stored' (a := ⟨q, i, none⟩) (fun e => hr.ne_type hq ht e) _
theorem rw_left (l : Int) (b : Bool) (w : World) : (Instr.field 29 (.agg #[.int .i64 l, .bool b]) 0).run Try.prog w = .ok (.int .i64 l) w := by kernel_rfl
theorem ac_set2 {w : World} {g : Nat} {a : Ac} (h : Row w g 51 (acc a)) (s : List UInt8) : Row (w.setCell ⟨g, 2, none⟩ (.string (tb s))) g 51 (acc { a with sn := s }) := h.stored 2 _
theorem ac_set3 {w : World} {g : Nat} {a : Ac} (h : Row w g 51 (acc a)) (c : Int) : Row (w.setCell ⟨g, 3, none⟩ (.int .i64 c)) g 51 (acc { a with cr := c }) := h.stored 3 _
attribute [local irreducible] acc acl fa acO btw ovc
set_option maxRecDepth 100000 in
set_option maxHeartbeats 8000000 in
theorem credit_law {w : World} (left : Int) {A0 : Option Addr} {c0 : Nat} {O : List Ov} (hR : RdS w (· < w.heap.size) A0 (enl ovl O)) (hl : O.length ≤ 9223372036854775807) (hD : ∀ o ∈ O, RdB w w.heap.size o.A o.b) :
    Calls Try.prog 4 #[.int .i64 left, .slice A0 O.length c0] w fun e w' => e = .returned (.bool true) ∧ Below w.heap.size w w' := by
  have HR := Lib.hid hR
  have HD := Lib.hid hD
  have HG := Lib.hid (great_any (c := c0) hR hl)
  clear hR hD
  go_enter Try.func4, Try.ntmps4
  go_wp2_with fail
  refine HG.out.mono ?_
  rintro e w1 ⟨t, rfl, hF, hb1⟩
  have HB1 := Lib.hid hb1
  clear hb1
  cases t with
  | true =>
    clear hF
    go_wp2_with fail
    refine (fixed13_any w1).mono ?_
    rintro e w2 ⟨rfl, hb2⟩
    have HB2 := Lib.hid (HB1.out.trans (hb2.mono HB1.out.size))
    clear hb2
    go_wp2_with fail
    go_ret
    exact ⟨rfl, HB2.out⟩
  | false =>
    have HF := Lib.hid (hF rfl)
    clear hF HG
    go_wp2_with fail
    refine (tnew_any left w1).mono ?_
    rintro e w2 ⟨g, F0, rfl, hT2, hF2, hb2⟩
    have HT2 := Lib.hid hT2
    have HF2 : Hid (∀ k, F0 k → w1.heap.size ≤ k) := hF2
    have HB2 := Lib.hid (HB1.out.trans (hb2.mono HB1.out.size))
    clear hb2 hT2 hF2
    have hrn := rnew_any left false w2
    unfold rwc at hrn
    rw [show btw left = (rmNew left).w by unfold rmNew; rfl] at hrn
    go_wp2_with fail
    refine hrn.mono ?_
    rintro e w3 ⟨rfl, hb3⟩
    have HC : Hid (CwI w w3 F0 g (rmNew left) none 0 []) := ⟨HT2.out.below hb3, rmNew_ok left, fun k hk => by have := HF2.out k hk; have := HB1.out.size; omega, OwS.nil, HB2.out.trans (hb3.mono HB2.out.size)⟩
    have HM : Hid (CrM (rmNew left) [] 0 (sm13 (O.take 0))) := ⟨cr_new left, ⟨Nat.le_refl _, fun a ha => by simp at ha⟩, (by show 0 ≤ _; exact Nat.zero_le _), Nat.le_refl _⟩
    clear hb3 hrn HT2 HF2 HB2 HB1
    generalize rmNew left = m0 at *
    have hfl := fun W => rw_left m0.w false W
    go_wp2_with fail
    clear hfl
    go_loopw [6, 7, 27] (fun v6 v7 i wr => ∃ (k : Nat) (m : Rm) (F : Nat → Prop) (A : Option Addr) (c : Nat) (L : List Ac), k ≤ O.length ∧ v6 = .int .i64 m.w ∧ v7 = .slice A L.length c ∧ i = .int .i64 k ∧ Hid (CwI w wr F g m A c L) ∧ Hid (CrM m L k (sm13 (O.take k)))) (fun _ _ i _ => O.length - (intOf i).toNat)
    case atStart => exact ⟨0, m0, F0, none, 0, [], Nat.zero_le _, rfl, rfl, rfl, HC, HM⟩
    case round =>
      clear HC HM
      obtain ⟨k, m, F, A, c, L, hk, rfl, rfl, rfl, HC, HM⟩ := hrel
      by_cases hlt : k < O.length
      · obtain ⟨bb, q, rfl, hbb, hr⟩ := ov_at (HR.out.below HC.out.b) hlt
        have HXC := Lib.hid hr
        have HST := Lib.hid (sm13_take hlt)
        obtain ⟨o, ho⟩ : ∃ o, o = O[k] := ⟨_, rfl⟩
        have hDo := HD.out o (by rw [ho]; exact List.getElem_mem hlt)
        rw [← ho] at HXC HST
        have HSA : Hid (sm13 (O.take (k + 1)) ≤ 9000 ∧ k < 300) := by
          have h1 := HF.out.2
          have h3 := HF.out.1
          have h2 : O = O.take (k + 1) ++ O.drop (k + 1) := (List.take_append_drop _ _).symm
          rw [h2, sm13_append] at h1
          exact ⟨by omega, by omega⟩
        obtain ⟨w2, hw2, u1, u2, u3, u4⟩ := one_ov wr o
        have HW2 := Lib.hid hw2
        have U1 := Lib.hid u1
        have U2 := Lib.hid u2
        have HC2 := Lib.hid (HC.out.below u3)
        have HDO : Hid (RdB w2 w.heap.size o.A o.b) := (hDo.below HC.out.b).below (u3.mono HC.out.b.size)
        have HLF : Hid (∀ k, F k → k < wr.heap.size) := HC.out.t.lts
        have hgl : wr.heap.size < w2.heap.size := by omega
        clear hr ho hDo hw2 u1 u2 u3 u4 hbb
        go_upto_region 9 with (first | (refine wpList_ldm (cs := ovc o) rfl _ rfl rfl HXC.out (ov_ok _) ?_) | (refine wpList_sw (cs := ovc o) rfl _ _ rfl rfl rfl U1.out (by rw [ov_size]; rfl) (ov_ok _) ?_))
        rw [HW2.out]
        clear HW2 U1 HXC HC
        generalize wr.heap.size = po at *
        have hst := HST.out
        have hsa := HSA.out
        have hma := HM.out.a
        have hml := HM.out.l
        have hlen := HM.out.b.len
        have hsm : m.Sm := allB_sm (by omega) (by omega)
        have hob : o.b.length ≤ 9000 := by omega
        have HPO : Hid (¬ F po) := fun hk => by have := HLF.out po hk; omega
        obtain ⟨zn, hzn⟩ : ∃ zn, zn = sm13 (O.take k) := ⟨_, rfl⟩
        obtain ⟨zm, hzm⟩ : ∃ zm, zm = sm13 (O.take (k + 1)) := ⟨_, rfl⟩
        rw [← hzn] at hst hma HM
        rw [← hzm] at hst hsa
        have HZM := Lib.hid hzm
        have hwn := HC2.out.ok.wn
        clear hzn hzm HST HSA HLF
        obtain ⟨z, hz⟩ : ∃ z : Int, z = if fa o.st L < L.length then (fa o.st L : Int) else -1 := ⟨_, rfl⟩
        have hcf := cfind_any HC2.out.ow (by omega) o.st
        rw [← hz] at hcf
        have HCF := Lib.hid hcf
        have HZ := Lib.hid hz
        have HSM := Lib.hid hsm
        clear hcf hz hsm
        obtain ⟨o0, o1, o2, o3, o4, o5, _⟩ := ov_cells U2.out
        go_wp2_with fail
        refine HCF.out.mono ?_
        rintro e w3 ⟨rfl, hww⟩
        subst hww
        clear HCF
        go_upto_region 12 with fail
        by_cases k0 : o.kd = 0
        · as_aux_lemma =>
          have e0 : (o.kd == 0) = true := by rw [k0]; rfl
          have hto := topen_any HC2.out.t HC2.out.ok HSM.out o.st o.n
          have HOK := Lib.hid (rmOpen_ok HC2.out.ok o.st o.hst o.n)
          cases hop : (rmOpen m o.st o.n).2 with
          | false =>
            as_aux_lemma =>
            rw [hop, rmOpen_no hop] at hto
            have HTO := Lib.hid hto
            have HM3 := Lib.hid (HM.out.same (z' := zm) (by omega))
            clear hto HM
            go_wp2_with fail
            refine HTO.out.mono ?_
            rintro e w3 ⟨rfl, F3, hT3, hF3, hN3⟩
            have HC3 := Lib.hid (HC2.out.on HC2.out.ok hT3 hF3 hN3)
            clear hT3 hF3 hN3 HC2 HTO o0 o1 o2 o3 o4 o5
            go_wp2_with fail
            go_roundw
            case rel => exact ⟨k + 1, m, F3, A, c, L, by omega, rfl, rfl, by go_num, HC3, (by rw [← HZM.out]; exact HM3)⟩
            case measure => simp [intOf]; omega
          | true =>
            as_aux_lemma =>
            have HM3 := Lib.hid (HM.out.open_ (z' := zm) o.hst (by omega) hop)
            have hmw := rmOpen_w m o.st o.n
            rw [hop] at hto
            generalize (rmOpen m o.st o.n).1 = m1 at *
            have HTO := Lib.hid hto
            obtain ⟨L1, hL1⟩ : ∃ L1, L1 = acO L o.st := ⟨_, rfl⟩
            have hl1 : L1.length = L.length := by rw [hL1, acO_len]
            rw [← hL1] at HM3
            have HL1 := Lib.hid hL1
            clear hto HM hL1 hop
            go_wp2_with fail
            refine HTO.out.mono ?_
            rintro e w3 ⟨rfl, F3, hT3, hF3, hN3⟩
            have HC3 := Lib.hid (HC2.out.on HOK.out hT3 hF3 hN3)
            have O3 := Lib.hid (hF3.row HPO.out U2.out)
            clear hT3 hF3 hN3 HC2 HTO o0 o1 o2 o3 o4 o5 U2
            go_upto_if 50 with fail
            go_cut [] from 28 to 207 (fun wx => Hid (CwI w wx F3 g m1 A c L1) ∧ Hid (Row wx po 36 (ovc o)))
            case first =>
              as_aux_lemma =>
              have hz := HZ.out
              clear HZ
              by_cases hfa : fa o.st L < L.length
              · obtain ⟨a, ha⟩ : ∃ a, L[fa o.st L]? = some a := ⟨_, List.getElem?_eq_getElem hfa⟩
                have hL1 : L1 = L.set (fa o.st L) { a with st := 0 } := by rw [HL1.out]; unfold acO; rw [ha]
                rw [if_pos hfa] at hz
                subst hz
                clear HL1
                generalize fa o.st L = i at *
                obtain ⟨q, oo, hA, hq, hzf, hC4, d0, d1, d3, hcur⟩ := HC3.out.fld' 0 ha (by omega) (b := { a with st := 0 }) (u := .int .u32 0) (by unfold acl acc; rfl)
                rw [← hL1, Nat.add_zero] at hC4
                rw [Nat.add_zero] at hzf
                have O4 := Lib.hid (HC3.out.store_row O3.out (by decide) hcur (oo + i * 4) (.int .u32 0))
                subst hA
                have HC4 := Lib.hid hC4
                have i0 : decide ((0 : Int) ≤ (i : Int)) = true := decide_eq_true (by omega)
                clear hC4 hcur d1 d3 hq hL1 ha HC3 O3
                go_wp2_with fail
                go_meet
                case rel => exact ⟨HC4, O4⟩
              · have hL1 : L1 = L := by rw [HL1.out]; unfold acO; rw [List.getElem?_eq_none (by omega)]
                rw [if_neg hfa] at hz
                subst hz
                have HC4 : Hid (CwI w w3 F3 g m1 A c L1) := by rw [hL1]; exact HC3
                clear HL1 hL1 HC3
                go_wp2_with fail
                go_meet
                case rel => exact ⟨HC4, O3⟩
            case rest =>
              as_aux_lemma =>
              obtain ⟨HC4, O4⟩ := hcut
              clear HC3 O3 HZ HL1 HPO
              go_upto_region 16 with fail
              obtain ⟨i0, hi0, hz0, hz1, hz2⟩ := info_parts ac_full
              have hrn := rnew_any o.n true
              unfold rwc at hrn
              have hfl := fun W => rw_left (btw o.n) true W
              have d1 : wc.drew.cell? ⟨po, 1, none⟩ = some (.int .u32 o.st) := (ov_cells O4.out).2.1
              have d2 : wc.drew.cell? ⟨po, 2, none⟩ = some (.int .i64 o.n) := (ov_cells O4.out).2.2.1
              refine wp_region_E 10 (fun w' => w'.cell? ⟨po, 1, none⟩ = some (.int .u32 o.st) ∧ w'.cell? ⟨po, 2, none⟩ = some (.int .i64 o.n)) (by kernel_rfl) ⟨d1, d2⟩ (fun hHeld => ?_)
              refine wpAnyE_take (i := 0) (v := ?v0) rfl (by kernel_rfl) (by kernel_rfl) (by kernel_rfl) (by kernel_rfl) (fun _ _ _ h => h) (Or.inl ⟨by rfl, ?hy0⟩) (by assumption) ?rest0
              case hy0 => (intro w hSw; (try dsimp only at hSw); go_simp <;> with_reducible rfl)
              try simp only [Act.put, List.getElem_toArray, List.getElem_cons_zero, List.setIfInBounds_toArray, List.set_cons_zero, List.set_cons_succ]
              refine wpAnyE_take (i := 1) (v := ?v1) rfl (by kernel_rfl) (by kernel_rfl) (by kernel_rfl) (by kernel_rfl) (fun _ _ _ h => h) (Or.inl ⟨by rfl, ?hy1⟩) (by assumption) ?rest1
              case hy1 => (intro w hSw; (try dsimp only at hSw); go_simp <;> with_reducible rfl)
              try simp only [Act.put, List.getElem_toArray, List.getElem_cons_zero, List.getElem_cons_succ, List.setIfInBounds_toArray, List.set_cons_zero, List.set_cons_succ]
              refine wpAnyE_take (i := 2) (v := ?v2) rfl (by kernel_rfl) (by kernel_rfl) (by kernel_rfl) (by kernel_rfl) (fun _ _ _ h => h) (Or.inl ⟨by rfl, ?hy2⟩) (by assumption) ?rest2
              case hy2 => (intro w hSw; (try dsimp only at hSw); go_simp <;> with_reducible rfl)
              try simp only [Act.put, List.getElem_toArray, List.getElem_cons_zero, List.getElem_cons_succ, List.setIfInBounds_toArray, List.set_cons_zero, List.set_cons_succ]
              refine wpAnyE_take (i := 3) (v := ?v3) rfl (by kernel_rfl) (by kernel_rfl) (by kernel_rfl) (by kernel_rfl) (fun _ _ _ h => h) (Or.inl ⟨by rfl, ?hy3⟩) (by assumption) ?rest3
              case hy3 => (intro w hSw; (try dsimp only at hSw); go_simp <;> with_reducible rfl)
              try simp only [Act.put, List.getElem_toArray, List.getElem_cons_zero, List.getElem_cons_succ, List.setIfInBounds_toArray, List.set_cons_zero, List.set_cons_succ]
              refine wpAnyE_take (i := 4) (v := ?v4) rfl (by kernel_rfl) (by kernel_rfl) (by kernel_rfl) (by kernel_rfl) (fun _ _ _ h => h) (Or.inl ⟨by rfl, ?hy4⟩) (by assumption) ?rest4
              case hy4 => (intro w hSw; (try dsimp only at hSw); go_simp <;> with_reducible rfl)
              try simp only [Act.put, List.getElem_toArray, List.getElem_cons_zero, List.getElem_cons_succ, List.setIfInBounds_toArray, List.set_cons_zero, List.set_cons_succ]
              refine wpAnyE_next (i := 5) (by kernel_rfl) rfl (fun K hK => ?_)
              go_simp
              go_at_call 19
              refine (hrn wc.drew).mono ?_
              rintro e w4 ⟨rfl, hb4⟩
              have hb5 : Below wc.heap.size wc w4 := ⟨hb4.os, hb4.tape, hb4.output, hb4.size, hb4.block⟩
              have HC5 := Lib.hid (HC4.out.below hb5)
              have O5 := Lib.hid (O4.out.below hb5 O4.out.lt)
              have d1 := (ov_cells O5.out).2.1
              have d2 := (ov_cells O5.out).2.2.1
              clear hb4 hb5 hrn HC4 O4 hHeld
              go_simp
              refine hK.out _ _ ⟨d1, d2⟩ (fun hHeld => ?_)
              clear hK K
              try simp only [Act.put, List.getElem_toArray, List.getElem_cons_zero, List.getElem_cons_succ, List.setIfInBounds_toArray, List.set_cons_zero, List.set_cons_succ]
              refine wpAnyE_take (i := 6) (v := ?v6q1) rfl (by kernel_rfl) (by kernel_rfl) (by kernel_rfl) (by kernel_rfl) (fun _ _ _ h => h) (Or.inl ⟨by rfl, ?hy6q1⟩) (by assumption) ?rest6q1
              case hy6q1 => (intro w hSw; (try dsimp only at hSw); go_simp <;> with_reducible rfl)
              try simp only [Act.put, List.getElem_toArray, List.getElem_cons_zero, List.getElem_cons_succ, List.setIfInBounds_toArray, List.set_cons_zero, List.set_cons_succ]
              refine wpAnyE_take (i := 7) (v := ?v7q1) rfl (by kernel_rfl) (by kernel_rfl) (by kernel_rfl) (by kernel_rfl) (fun _ _ _ h => h) (Or.inl ⟨by rfl, ?hy7q1⟩) (by assumption) ?rest7q1
              case hy7q1 => (intro w hSw; (try dsimp only at hSw); go_simp <;> with_reducible rfl)
              try simp only [Act.put, List.getElem_toArray, List.getElem_cons_zero, List.getElem_cons_succ, List.setIfInBounds_toArray, List.set_cons_zero, List.set_cons_succ]
              refine wpAnyE_next (i := 8) (by kernel_rfl) rfl (fun K hK => ?_)
              refine step_bs1 (bs_ac o.st (btw o.n)) rfl (.tmp 62) rfl rfl ?_
              have hal : Below w4.heap.size w4 (w4.alloc (.cells #[.int .u32 o.st, .string ⟨#[]⟩, .string ⟨#[]⟩, .int .i64 (btw o.n)] 51)) := (Below.refl _ _).alloc (Nat.le_refl _) _
              have hx6 : ∀ j u, (acl ⟨o.st, [], [], btw o.n⟩)[j]? = some u → (w4.alloc (.cells #[.int .u32 o.st, .string ⟨#[]⟩, .string ⟨#[]⟩, .int .i64 (btw o.n)] 51)).cell? ((⟨w4.heap.size, 0, none⟩ : Addr).add j) = some u := fun j u hj => by
                rw [add_plain, Nat.zero_add]
                rw [acc_new] at hj
                exact (Row.new w4 51 #[.int .u32 o.st, .string ⟨#[]⟩, .string ⟨#[]⟩, .int .i64 (btw o.n)]).cell (by simpa using hj)
              have HC6 := Lib.hid (HC5.out.below hal)
              have O6 := Lib.hid (O5.out.below hal O5.out.lt)
              have d1 := (ov_cells O6.out).2.1
              have d2 := (ov_cells O6.out).2.2.1
              clear hal HC5 O5 hHeld hfl
              refine hK.out _ _ ⟨d1, d2⟩ (fun hHeld => ?_)
              clear hK K
              try simp only [Act.put, List.getElem_toArray, List.getElem_cons_zero, List.getElem_cons_succ, List.setIfInBounds_toArray, List.set_cons_zero, List.set_cons_succ]
              generalize w4.alloc (.cells #[.int .u32 o.st, .string ⟨#[]⟩, .string ⟨#[]⟩, .int .i64 (btw o.n)] 51) = w5 at *
              generalize w4.heap.size = lb at *
              have hO := HC6.out.ow
              rw [hl1] at hO
              have hbs := HC6.out.b.size
              refine wpAnyE_next (i := 9) (by kernel_rfl) rfl (fun K hK => ?_)
              refine step_appS rfl (.tmp 55) (.tmp 63) 47 rfl w.heap.size 51 i0 _ 4 48 Try.underlying47 hi0 hz0 hz1 hz2 rfl (.slice A L.length c) L.length (enl acl L1) rfl hO ⟨lb, 0, none⟩ 1 1 (acl ⟨o.st, [], [], btw o.n⟩) rfl (acl_len _) hx6 (acl_one _) (by omega) (by simp only [maxLen]; omega) (by omega) hbs ?_
              intro A6 c6 w6 hO6 hg6 hb6
              have e9 : (L1 ++ [(⟨o.st, [], [], btw o.n⟩ : Ac)]).length = L.length + 1 := by rw [List.length_append, hl1]; rfl
              have HC7 : Hid (CwI w w6 F3 g m1 A6 c6 (L1 ++ [⟨o.st, [], [], btw o.n⟩])) := HC6.out.acs (by rw [e9, enl_snoc]; exact hO6) (by rw [hl1]; exact Fs.of_grown hg6)
              have hlo : ∀ x, ob (.slice A L.length c) x → w.heap.size ≤ x ∧ x ≠ po := fun x hx => ⟨(OwS.lt hO x hx).1, fun e => by
                obtain ⟨cur, hcur⟩ := OwS.row hO hx
                rw [e] at hcur
                exact O6.out.ne_type hcur (by decide) rfl⟩
              have O7 := Lib.hid ((Fs.of_grown hg6).row (fun hx => (hlo po hx).2 rfl) O6.out)
              have d1 := (ov_cells O7.out).2.1
              have d2 := (ov_cells O7.out).2.2.1
              clear hO6 hg6 hb6 hlo hO hbs hx6 HC6 O6 hHeld
              refine hK.out _ _ ⟨d1, d2⟩ (fun hHeld => ?_)
              clear hK K
              try simp only [Act.put, List.getElem_toArray, List.getElem_cons_zero, List.getElem_cons_succ, List.setIfInBounds_toArray, List.set_cons_zero, List.set_cons_succ]
              refine wpAnyE_last (by kernel_rfl) rfl (by kernel_rfl) (fun K hK => ?_)
              go_simp
              refine hK.out _ _ ?_
              clear hK K hHeld
              try simp only [Act.put, List.getElem_toArray, List.getElem_cons_zero, List.getElem_cons_succ, List.setIfInBounds_toArray, List.set_cons_zero, List.set_cons_succ]
              go_wp2_with fail
              go_roundw
              case rel => exact ⟨k + 1, m1, F3, A6, c6, _, by omega, by rw [hmw], by rw [e9], by go_num, HC7, (by rw [← HZM.out]; exact HM3)⟩
              case measure => simp [intOf]; omega
        by_cases k1 : o.kd = 1
        · as_aux_lemma =>
          have e0 : (o.kd == 0) = false := beq_eq_false_iff_ne.2 k0
          have e1 : (o.kd == 1) = true := by rw [k1]; rfl
          have hto := tput_any (c := o.c) HC2.out.t HC2.out.ok HSM.out o.st (RdB.toS HDO.out) (fun x hx _ hf => by have := HC2.out.fr x hf; omega) (by omega) o.en
          have HOK := Lib.hid (rmPut_ok HC2.out.ok o.st o.b o.en)
          cases hop : (rmPut m o.st o.b o.en).2 with
          | false =>
            as_aux_lemma =>
            rw [hop, rmPut_no hop] at hto
            have HTO := Lib.hid hto
            have HM3 := Lib.hid (HM.out.same (z' := zm) (by omega))
            clear hto HM
            go_wp2_with fail
            refine HTO.out.mono ?_
            rintro e w3 ⟨rfl, F3, hT3, hF3, hN3⟩
            have HC3 := Lib.hid (HC2.out.on HC2.out.ok hT3 hF3 hN3)
            clear hT3 hF3 hN3 HC2 HTO o0 o1 o2 o3 o4 o5
            go_wp2_with fail
            go_roundw
            case rel => exact ⟨k + 1, m, F3, A, c, L, by omega, rfl, rfl, by go_num, HC3, (by rw [← HZM.out]; exact HM3)⟩
            case measure => simp [intOf]; omega
          | true =>
            as_aux_lemma =>
            obtain ⟨a, ha, hal, hM3⟩ := HM.out.put HC2.out.ok (z' := zm) (by omega) hop
            have HM3 := Lib.hid hM3
            have hmw := rmPut_w m o.st o.b o.en
            rw [hop] at hto
            have hz := HZ.out
            have hfa := (List.getElem?_eq_some_iff.1 ha).1
            rw [if_pos hfa] at hz
            clear hM3 HM hop HZ
            generalize (rmPut m o.st o.b o.en).1 = m1 at *
            have HTO := Lib.hid hto
            subst hz
            clear hto
            generalize fa o.st L = i at *
            have hlt0 : decide ((i : Int) < 0) = false := decide_eq_false (by omega)
            go_wp2_with fail
            refine HTO.out.mono ?_
            rintro e w3 ⟨rfl, F3, hT3, hF3, hN3⟩
            have HC3 := Lib.hid (HC2.out.on HOK.out hT3 hF3 hN3)
            have O3 := Lib.hid (hF3.row HPO.out U2.out)
            have hd3 : RdB w3.drew w.heap.size o.A o.b := (HDO.out.below (hF3.below (fun x hx _ => HC2.out.fr x hx) HC2.out.b.size)).below (w' := w3.drew) (Below.refl _ _).drew
            have hcv : (convert 34 9 (.slice o.A o.b.length o.c)).run Try.prog w3.drew = .ok (.string (tb o.b)) w3.drew := run_text (P := Try.prog) (c := o.c) (dst := 9) Try.underlying34 Try.underlying5 Try.underlying9 hd3
            obtain ⟨q, oo, hA, hq, hzf, hC4, _, d1, _, hcur⟩ := HC3.out.fld' 1 ha (by omega) (b := { a with pt := a.pt ++ o.b }) (u := .string (tb (a.pt ++ o.b))) (by unfold acl acc; rfl)
            have HC4 : Hid (CwI w (w3.setCell ⟨q, oo + i * 4 + 1, none⟩ (.string (tb (a.pt ++ o.b)))).drew F3 g m1 A c (L.set i { a with pt := a.pt ++ o.b })) := hC4.below (Below.refl _ _).drew
            subst hA
            have hadd := tb_add a.pt o.b (by omega) (by omega)
            have g1 : w3.drew.cell? ⟨q, oo + i * 4 + 1, none⟩ = some (.string (tb a.pt)) := d1
            have g3 : w3.drew.cell? ⟨po, 3, none⟩ = some (.slice o.A o.b.length o.c) := (ov_cells O3.out).2.2.2.1
            have zf : w3.drew.frozen? ⟨q, oo + i * 4 + 1, none⟩ = false := hzf
            clear hT3 hF3 hN3 HC2 HTO o0 o1 o2 o3 o4 o5 HC3 O3 hd3 hC4 hcur d1 hzf U2 HDO
            go_upto_region 21 with fail
            refine wp_region_E 11 (fun w' => w'.cell? ⟨q, oo + i * 4 + 1, none⟩ = some (.string (tb a.pt)) ∧ w'.cell? ⟨po, 3, none⟩ = some (.slice o.A o.b.length o.c) ∧ (convert 34 9 (.slice o.A o.b.length o.c)).run Try.prog w' = .ok (.string (tb o.b)) w') (by kernel_rfl) ⟨g1, g3, hcv⟩ (fun hHeld => ?_)
            refine wpAnyE_take (i := 0) (v := ?v0q2) rfl (by kernel_rfl) (by kernel_rfl) (by kernel_rfl) (by kernel_rfl) (fun _ _ _ h => h) (Or.inl ⟨by rfl, ?hy0q2⟩) (by assumption) ?rest0q2
            case hy0q2 => (intro w hSw; (try dsimp only at hSw); go_simp <;> with_reducible rfl)
            try simp only [Act.put, List.getElem_toArray, List.getElem_cons_zero, List.setIfInBounds_toArray, List.set_cons_zero, List.set_cons_succ]
            refine wpAnyE_take (i := 1) (v := ?v1q2) rfl (by kernel_rfl) (by kernel_rfl) (by kernel_rfl) (by kernel_rfl) (fun _ _ _ h => h) (Or.inl ⟨by rfl, ?hy1q2⟩) (by assumption) ?rest1q2
            case hy1q2 => (intro w hSw; (try dsimp only at hSw); go_simp <;> with_reducible rfl)
            try simp only [Act.put, List.getElem_toArray, List.getElem_cons_zero, List.getElem_cons_succ, List.setIfInBounds_toArray, List.set_cons_zero, List.set_cons_succ]
            refine wpAnyE_take (i := 2) (v := ?v2q2) rfl (by kernel_rfl) (by kernel_rfl) (by kernel_rfl) (by kernel_rfl) (fun _ _ _ h => h) (Or.inl ⟨by rfl, ?hy2q2⟩) (by assumption) ?rest2q2
            case hy2q2 => (intro w hSw; (try dsimp only at hSw); go_simp <;> with_reducible rfl)
            try simp only [Act.put, List.getElem_toArray, List.getElem_cons_zero, List.getElem_cons_succ, List.setIfInBounds_toArray, List.set_cons_zero, List.set_cons_succ]
            refine wpAnyE_take (i := 3) (v := ?v3q2) rfl (by kernel_rfl) (by kernel_rfl) (by kernel_rfl) (by kernel_rfl) (fun _ _ _ h => h) (Or.inl ⟨by rfl, ?hy3q2⟩) (by assumption) ?rest3q2
            case hy3q2 => (intro w hSw; (try dsimp only at hSw); go_simp <;> with_reducible rfl)
            try simp only [Act.put, List.getElem_toArray, List.getElem_cons_zero, List.getElem_cons_succ, List.setIfInBounds_toArray, List.set_cons_zero, List.set_cons_succ]
            refine wpAnyE_take (i := 4) (v := ?v4q2) rfl (by kernel_rfl) (by kernel_rfl) (by kernel_rfl) (by kernel_rfl) (fun _ _ _ h => h) (Or.inl ⟨by rfl, ?hy4q2⟩) (by assumption) ?rest4q2
            case hy4q2 => (intro w hSw; (try dsimp only at hSw); go_simp <;> with_reducible rfl)
            try simp only [Act.put, List.getElem_toArray, List.getElem_cons_zero, List.getElem_cons_succ, List.setIfInBounds_toArray, List.set_cons_zero, List.set_cons_succ]
            refine wpAnyE_take (i := 5) (v := ?v5q2) rfl (by kernel_rfl) (by kernel_rfl) (by kernel_rfl) (by kernel_rfl) (fun _ _ _ h => h) (Or.inl ⟨by rfl, ?hy5q2⟩) (by assumption) ?rest5q2
            case hy5q2 => (intro w hSw; (try dsimp only at hSw); go_simp <;> with_reducible rfl)
            try simp only [Act.put, List.getElem_toArray, List.getElem_cons_zero, List.getElem_cons_succ, List.setIfInBounds_toArray, List.set_cons_zero, List.set_cons_succ]
            refine wpAnyE_take (i := 6) (v := ?v6q2) rfl (by kernel_rfl) (by kernel_rfl) (by kernel_rfl) (by kernel_rfl) (fun _ _ _ h => h) (Or.inl ⟨by rfl, ?hy6q2⟩) (by assumption) ?rest6q2
            case hy6q2 => (intro w hSw; (try dsimp only at hSw); go_simp <;> with_reducible rfl)
            try simp only [Act.put, List.getElem_toArray, List.getElem_cons_zero, List.getElem_cons_succ, List.setIfInBounds_toArray, List.set_cons_zero, List.set_cons_succ]
            refine wpAnyE_take (i := 7) (v := ?v7q2) rfl (by kernel_rfl) (by kernel_rfl) (by kernel_rfl) (by kernel_rfl) (fun _ _ _ h => h) (Or.inl ⟨by rfl, ?hy7q2⟩) (by assumption) ?rest7q2
            case hy7q2 => (intro w hSw; (try dsimp only at hSw); go_simp <;> with_reducible rfl)
            try simp only [Act.put, List.getElem_toArray, List.getElem_cons_zero, List.getElem_cons_succ, List.setIfInBounds_toArray, List.set_cons_zero, List.set_cons_succ]
            refine wpAnyE_take (i := 8) (v := ?v8q2) rfl (by kernel_rfl) (by kernel_rfl) (by kernel_rfl) (by kernel_rfl) (fun _ _ _ h => h) (Or.inl ⟨by rfl, ?hy8q2⟩) (by assumption) ?rest8q2
            case hy8q2 => (intro w hSw; (try dsimp only at hSw); go_simp <;> with_reducible rfl)
            try simp only [Act.put, List.getElem_toArray, List.getElem_cons_zero, List.getElem_cons_succ, List.setIfInBounds_toArray, List.set_cons_zero, List.set_cons_succ]
            refine wpAnyE_take (i := 9) (v := ?v9q2) rfl (by kernel_rfl) (by kernel_rfl) (by kernel_rfl) (by kernel_rfl) (fun _ _ _ h => h) (Or.inl ⟨by rfl, ?hy9q2⟩) (by assumption) ?rest9q2
            case hy9q2 => (intro w hSw; (try dsimp only at hSw); go_simp <;> with_reducible rfl)
            try simp only [Act.put, List.getElem_toArray, List.getElem_cons_zero, List.getElem_cons_succ, List.setIfInBounds_toArray, List.set_cons_zero, List.set_cons_succ]
            refine wpAnyE_take (i := 10) (v := ?v10q2) rfl (by kernel_rfl) (by kernel_rfl) (by kernel_rfl) (by kernel_rfl) (fun _ _ _ h => h) (Or.inl ⟨by rfl, ?hy10q2⟩) (by assumption) ?rest10q2
            case hy10q2 => (intro w hSw; (try dsimp only at hSw); go_simp <;> with_reducible rfl)
            try simp only [Act.put, List.getElem_toArray, List.getElem_cons_zero, List.getElem_cons_succ, List.setIfInBounds_toArray, List.set_cons_zero, List.set_cons_succ]
            refine wpAnyE_last (by kernel_rfl) rfl (by kernel_rfl) (fun K hK => ?_)
            go_simp
            refine hK.out _ _ ?_
            clear hK K hHeld hcv hadd g1 g3 zf
            try simp only [Act.put, List.getElem_toArray, List.getElem_cons_zero, List.getElem_cons_succ, List.setIfInBounds_toArray, List.set_cons_zero, List.set_cons_succ]
            go_wp2_with fail
            go_roundw
            case rel => exact ⟨k + 1, m1, F3, _, c, _, by omega, by rw [hmw], by rw [List.length_set], by go_num, HC4, (by rw [← HZM.out]; exact HM3)⟩
            case measure => simp [intOf]; omega
        by_cases k2 : o.kd = 2
        · as_aux_lemma =>
          have e0 : (o.kd == 0) = false := beq_eq_false_iff_ne.2 k0
          have e1 : (o.kd == 1) = false := beq_eq_false_iff_ne.2 k1
          have e2 : (o.kd == 2) = true := by rw [k2]; rfl
          have htn := tnext_any HC2.out.t HC2.out.ok HSM.out o.n
          cases hr : rmNext m o.n with
          | none =>
            as_aux_lemma =>
            rw [hr] at htn
            have HTN := Lib.hid htn
            have HM3 := Lib.hid (HM.out.same (z' := zm) (by omega))
            clear htn hr HM
            go_wp2_with fail
            refine HTN.out.mono ?_
            rintro e w3 ⟨rfl, F3, hT3, hF3, hN3⟩
            have HC3 := Lib.hid (HC2.out.on HC2.out.ok hT3 hF3 hN3)
            clear hT3 hF3 hN3 HC2 HTN o0 o1 o2 o3 o4 o5
            go_wp2_with fail
            go_roundw
            case rel => exact ⟨k + 1, m, F3, A, c, L, by omega, rfl, rfl, by go_num, HC3, (by rw [← HZM.out]; exact HM3)⟩
            case measure => simp [intOf]; omega
          | some r =>
            obtain ⟨x, N, m'⟩ := r
            rw [hr] at htn
            obtain ⟨a, ha, hal, hM3, hmw, hcr, hpt, hov, hst9, hlN, hok, hb1, hb2⟩ := HM.out.next HC2.out.ok (z' := zm) (by omega) (by omega) hr
            have HTN := Lib.hid htn
            have HOK := Lib.hid hok
            have HM3 := Lib.hid hM3
            have hNl : a.sn.length + N ≤ a.pt.length := by rw [hpt, List.length_append, List.length_append, hlN]; omega
            have HPT := Lib.hid hpt
            have HOV := Lib.hid hov
            have HMW := Lib.hid hmw
            clear htn hr hok hM3 HM hpt hov hmw
            go_wp2_with fail
            refine HTN.out.mono ?_
            rintro e w3 ⟨A3, c3, rfl, hO3, F3, hT3, hF3, hN3, _⟩
            have HC3 := Lib.hid (HC2.out.on HOK.out hT3 hF3 hN3)
            have HRB : Hid (RdB w3 w3.heap.size A3 (x.b.take N)) := Bo.reads hO3
            have hcf := cfind_any HC3.out.ow (by omega) x.st
            have hfa := (List.getElem?_eq_some_iff.1 ha).1
            rw [if_pos hfa] at hcf
            have s0 : ((x.st : Int) == 0) = false := beq_eq_false_iff_ne.2 (by omega)
            clear hO3 hT3 hF3 hN3 HTN HC2 o0 o1 o2 o3 o4 o5 U2 HDO HPO HZ
            have HCF := Lib.hid hcf
            clear hcf
            generalize fa x.st L = i at *
            generalize (snY N x).ov = ov at *
            generalize x.b.take N = l at *
            generalize x.b.drop N = l2 at *
            have i0 : decide ((i : Int) < 0) = false := decide_eq_false (by omega)
            have HHI := Lib.hid (HC3.out.at_ ha)
            dsimp only
            go_wp2_with fail
            refine HCF.out.mono ?_
            rintro e w4 ⟨rfl, hww⟩
            subst hww
            clear HCF
            obtain ⟨q, oo, hA, hra, _, _, _⟩ := HHI.out
            have HRA := Lib.hid hra
            obtain ⟨w5, hw5, u1, u2, u3, u4⟩ := one_ac w4 a
            have HW5 := Lib.hid hw5
            have U1 := Lib.hid u1
            have U2 := Lib.hid u2
            have HK : Hid (∀ W, Below w4.heap.size w4 W → CwI w W F3 g m' A c L) := fun W h => HC3.out.below h
            have HB5 := Lib.hid u3
            have hcv : (convert 34 9 (.slice A3 N c3)).run Try.prog w5 = .ok (.string (tb l)) w5 := by
              have h1 := run_text (P := Try.prog) (c := c3) (dst := 9) Try.underlying34 Try.underlying5 Try.underlying9 (HRB.out.below u3)
              rw [hlN] at h1
              exact h1
            subst hA
            clear hra hw5 u1 u2 u3 u4 HHI HC3 HRB
            go_upto_region 29 with (first | (refine wpList_ldm (cs := acc a) rfl _ rfl rfl HRA.out (ac_ok _) ?_) | (refine wpList_sw (cs := acc a) rfl _ _ rfl rfl rfl U1.out (by rw [ac_size]; rfl) (ac_ok _) ?_))
            rw [HW5.out]
            clear HW5 U1 HRA
            generalize w4.heap.size = px at *
            obtain ⟨_, a1, a2, a3⟩ := ac_cells U2.out
            have hadd := tb_add a.sn l (by omega) (by omega)
            have z2 := U2.out.thawed 2
            go_upto_region 30 with fail
            have HB6 := Lib.hid (HB5.out.setCell (p := ⟨px, 2, none⟩) (Nat.le_refl _) (.string (tb (a.sn ++ l))))
            have U6 := Lib.hid (ac_set2 U2.out (a.sn ++ l))
            clear a1 a2 a3 hadd z2 hcv HB5 U2
            generalize w5.setCell ⟨px, 2, none⟩ (.string (tb (a.sn ++ l))) = w6 at *
            obtain ⟨_, a1, a2, a3⟩ := ac_cells U6.out
            have z3 := U6.out.thawed 3
            have hw3 : IntKind.i64.wrap (a.cr - (N : Int)) = a.cr - (N : Int) := IntWalk.i64_in _ (by omega)
            have hw6 : IntKind.i64.wrap (m.w - (N : Int)) = m'.w := by rw [HMW.out]; exact IntWalk.i64_in _ (by omega)
            go_upto_region 31 with fail
            have HB7 := Lib.hid (HB6.out.setCell (p := ⟨px, 3, none⟩) (Nat.le_refl _) (.int .i64 (a.cr - (N : Int))))
            have U7 := Lib.hid (ac_set3 U6.out (a.cr - (N : Int)))
            clear a1 a2 a3 z3 HB6 U6 hw3
            generalize w6.setCell ⟨px, 3, none⟩ (.int .i64 (a.cr - (N : Int))) = w7 at *
            go_upto_region 32 with fail
            clear hw6
            have HB8 := Lib.hid (HK.out w7 HB7.out)
            clear HK HB7
            go_cut [171] from 28 to 207 (fun v wx => v = .bool false ∧ Hid (CwI w wx F3 g m' (some ⟨q, oo, none⟩) c L) ∧ Hid (Row wx px 51 (acc { a with sn := a.sn ++ l, cr := a.cr - N })))
            case first =>
              as_aux_lemma =>
              have hpt := HPT.out
              have hov := HOV.out
              have hmw := HMW.out
              obtain ⟨_, a1, a2, a3⟩ := ac_cells U7.out
              dsimp only at a1 a2 a3
              have HKK : Hid (∀ n, CwI w (w7.drewN n) F3 g m' (some ⟨q, oo, none⟩) c L ∧ Row (w7.drewN n) px 51 (acc { a with sn := a.sn ++ l, cr := a.cr - N })) := fun n => ⟨HB8.out.below (below_dN (Below.refl _ _) n), U7.out⟩
              clear HPT HOV HMW U7 HB8
              obtain ⟨s1, hs1⟩ : ∃ s1, s1 = a.sn ++ l := ⟨_, rfl⟩
              obtain ⟨p, hp⟩ : ∃ p, p = a.pt := ⟨_, rfl⟩
              obtain ⟨cn, hcn⟩ : ∃ cn, cn = a.cr - (N : Int) := ⟨_, rfl⟩
              rw [← hs1] at a2 hpt
              rw [← hp] at a1 hpt
              rw [← hcn] at a3 hcr
              rw [← hmw] at hcr
              clear hmw
              have hsz : ∀ v : List UInt8, (tb v).size = v.length := fun v => by simp [ByteArray.size]
              have hpl : p.length ≤ 9000 := by rw [hp]; omega
              have hle : s1.length ≤ p.length := by rw [hpt, List.length_append]; omega
              have htk : p.take s1.length = s1 := by rw [hpt, List.take_left]
              have hgt : decide (p.length < s1.length) = false := decide_eq_false (by omega)
              have hsl := (tb_slices hle (by omega)).1
              rw [htk] at hsl
              have hne : (((tb p).extract 0 s1.length).toList == s1) = true := by
                have h1 : (tb p).extract 0 s1.length = tb s1 := by
                  unfold tb
                  rw [ByteArray.extract_mk]
                  simp [htk]
                rw [h1]
                unfold tb
                rw [ByteArray.toList_mk]
                simp
              have HK2 : Hid (CwI w w7.drew F3 g m' (some ⟨q, oo, none⟩) c L ∧ Row w7.drew px 51 (acc { a with sn := a.sn ++ l, cr := a.cr - N })) := ⟨(HKK.out 0).1.below (Below.refl _ _).drew, (HKK.out 0).2⟩
              clear hs1 hp hcn hsz hpl hle htk
              by_cases hN : 0 < N
              · have hN1 : decide (0 < N) = true := decide_eq_true (by omega)
                have hN2 : decide (cn < 0) = false := decide_eq_false (by have := (hcr hN).1; omega)
                have hN3 : decide (m'.w < 0) = false := decide_eq_false (by have := (hcr hN).2; omega)
                clear hcr hN hb1 hb2 hwn hNl hal
                cases ov with
                | true =>
                  as_aux_lemma =>
                  obtain rfl : p = s1 := by rw [hpt, hov rfl, List.append_nil]
                  clear hpt hov
                  go_quiet (fail)
                  go_wp2_with fail
                  go_meet
                  case rel => exact ⟨rfl, (HKK.out _).1, (HKK.out _).2⟩
                | false =>
                  as_aux_lemma =>
                  clear hpt hov
                  go_quiet (fail)
                  go_wp2_with fail
                  go_meet
                  case rel => exact ⟨rfl, (HKK.out _).1, (HKK.out _).2⟩
              · obtain rfl : N = 0 := by omega
                clear hcr hN hb1 hb2 hwn hNl hal
                cases ov with
                | true =>
                  as_aux_lemma =>
                  obtain rfl : p = s1 := by rw [hpt, hov rfl, List.append_nil]
                  clear hpt hov
                  have a1' : w7.drew.cell? ⟨px, 1, none⟩ = some (.string (tb p)) := a1
                  have a2' : w7.drew.cell? ⟨px, 2, none⟩ = some (.string (tb p)) := a2
                  clear a1 a2 a3
                  refine wp_region_E 41 (fun w' => w'.cell? ⟨px, 1, none⟩ = some (.string (tb p)) ∧ w'.cell? ⟨px, 2, none⟩ = some (.string (tb p))) (by kernel_rfl) ⟨a1', a2'⟩ (fun hHeld => ?_)
                  refine wpAnyE_take (i := 0) (v := ?v0q3) rfl (by kernel_rfl) (by kernel_rfl) (by kernel_rfl) (by kernel_rfl) (fun _ _ _ h => h) (Or.inl ⟨by rfl, ?hy0q3⟩) (by assumption) ?rest0q3
                  case hy0q3 => (intro w hSw; (try dsimp only at hSw); go_simp <;> with_reducible rfl)
                  try simp only [Act.put, List.getElem_toArray, List.getElem_cons_zero, List.setIfInBounds_toArray, List.set_cons_zero, List.set_cons_succ]
                  refine wpAnyE_take (i := 1) (v := ?v1q3) rfl (by kernel_rfl) (by kernel_rfl) (by kernel_rfl) (by kernel_rfl) (fun _ _ _ h => h) (Or.inl ⟨by rfl, ?hy1q3⟩) (by assumption) ?rest1q3
                  case hy1q3 => (intro w hSw; (try dsimp only at hSw); go_simp <;> with_reducible rfl)
                  try simp only [Act.put, List.getElem_toArray, List.getElem_cons_zero, List.getElem_cons_succ, List.setIfInBounds_toArray, List.set_cons_zero, List.set_cons_succ]
                  refine wpAnyE_take (i := 2) (v := ?v2q3) rfl (by kernel_rfl) (by kernel_rfl) (by kernel_rfl) (by kernel_rfl) (fun _ _ _ h => h) (Or.inl ⟨by rfl, ?hy2q3⟩) (by assumption) ?rest2q3
                  case hy2q3 => (intro w hSw; (try dsimp only at hSw); go_simp <;> with_reducible rfl)
                  try simp only [Act.put, List.getElem_toArray, List.getElem_cons_zero, List.getElem_cons_succ, List.setIfInBounds_toArray, List.set_cons_zero, List.set_cons_succ]
                  refine wpAnyE_take (i := 3) (v := ?v3q3) rfl (by kernel_rfl) (by kernel_rfl) (by kernel_rfl) (by kernel_rfl) (fun _ _ _ h => h) (Or.inl ⟨by rfl, ?hy3q3⟩) (by assumption) ?rest3q3
                  case hy3q3 => (intro w hSw; (try dsimp only at hSw); go_simp <;> with_reducible rfl)
                  try simp only [Act.put, List.getElem_toArray, List.getElem_cons_zero, List.getElem_cons_succ, List.setIfInBounds_toArray, List.set_cons_zero, List.set_cons_succ]
                  refine wpAnyE_take (i := 4) (v := undef) rfl (by kernel_rfl) (by kernel_rfl) (by kernel_rfl) (by kernel_rfl) (fun _ _ _ h => h) (Or.inr ⟨by rfl, rfl⟩) (by assumption) ?rest4q3
                  try simp only [Act.put, List.getElem_toArray, List.getElem_cons_zero, List.getElem_cons_succ, List.setIfInBounds_toArray, List.set_cons_zero, List.set_cons_succ]
                  refine wpAnyE_take (i := 5) (v := undef) rfl (by kernel_rfl) (by kernel_rfl) (by kernel_rfl) (by kernel_rfl) (fun _ _ _ h => h) (Or.inr ⟨by rfl, rfl⟩) (by assumption) ?rest5q3
                  try simp only [Act.put, List.getElem_toArray, List.getElem_cons_zero, List.getElem_cons_succ, List.setIfInBounds_toArray, List.set_cons_zero, List.set_cons_succ]
                  refine wpAnyE_take (i := 6) (v := undef) rfl (by kernel_rfl) (by kernel_rfl) (by kernel_rfl) (by kernel_rfl) (fun _ _ _ h => h) (Or.inr ⟨by rfl, rfl⟩) (by assumption) ?rest6q3
                  try simp only [Act.put, List.getElem_toArray, List.getElem_cons_zero, List.getElem_cons_succ, List.setIfInBounds_toArray, List.set_cons_zero, List.set_cons_succ]
                  refine wpAnyE_take (i := 7) (v := undef) rfl (by kernel_rfl) (by kernel_rfl) (by kernel_rfl) (by kernel_rfl) (fun _ _ _ h => h) (Or.inr ⟨by rfl, rfl⟩) (by assumption) ?rest7q3
                  try simp only [Act.put, List.getElem_toArray, List.getElem_cons_zero, List.getElem_cons_succ, List.setIfInBounds_toArray, List.set_cons_zero, List.set_cons_succ]
                  refine wpAnyE_take (i := 8) (v := undef) rfl (by kernel_rfl) (by kernel_rfl) (by kernel_rfl) (by kernel_rfl) (fun _ _ _ h => h) (Or.inr ⟨by rfl, rfl⟩) (by assumption) ?rest8q3
                  try simp only [Act.put, List.getElem_toArray, List.getElem_cons_zero, List.getElem_cons_succ, List.setIfInBounds_toArray, List.set_cons_zero, List.set_cons_succ]
                  refine wpAnyE_take (i := 9) (v := undef) rfl (by kernel_rfl) (by kernel_rfl) (by kernel_rfl) (by kernel_rfl) (fun _ _ _ h => h) (Or.inr ⟨by rfl, rfl⟩) (by assumption) ?rest9q3
                  try simp only [Act.put, List.getElem_toArray, List.getElem_cons_zero, List.getElem_cons_succ, List.setIfInBounds_toArray, List.set_cons_zero, List.set_cons_succ]
                  refine wpAnyE_take (i := 10) (v := undef) rfl (by kernel_rfl) (by kernel_rfl) (by kernel_rfl) (by kernel_rfl) (fun _ _ _ h => h) (Or.inr ⟨by rfl, rfl⟩) (by assumption) ?rest10q3
                  try simp only [Act.put, List.getElem_toArray, List.getElem_cons_zero, List.getElem_cons_succ, List.setIfInBounds_toArray, List.set_cons_zero, List.set_cons_succ]
                  refine wpAnyE_take (i := 11) (v := ?v11q3) rfl (by kernel_rfl) (by kernel_rfl) (by kernel_rfl) (by kernel_rfl) (fun _ _ _ h => h) (Or.inl ⟨by rfl, ?hy11q3⟩) (by assumption) ?rest11q3
                  case hy11q3 => (intro w hSw; (try dsimp only at hSw); go_simp <;> with_reducible rfl)
                  try simp only [Act.put, List.getElem_toArray, List.getElem_cons_zero, List.getElem_cons_succ, List.setIfInBounds_toArray, List.set_cons_zero, List.set_cons_succ]
                  refine wpAnyE_take (i := 12) (v := ?v12q3) rfl (by kernel_rfl) (by kernel_rfl) (by kernel_rfl) (by kernel_rfl) (fun _ _ _ h => h) (Or.inl ⟨by rfl, ?hy12q3⟩) (by assumption) ?rest12q3
                  case hy12q3 => (intro w hSw; (try dsimp only at hSw); go_simp <;> with_reducible rfl)
                  try simp only [Act.put, List.getElem_toArray, List.getElem_cons_zero, List.getElem_cons_succ, List.setIfInBounds_toArray, List.set_cons_zero, List.set_cons_succ]
                  refine wpAnyE_take (i := 13) (v := ?v13q3) rfl (by kernel_rfl) (by kernel_rfl) (by kernel_rfl) (by kernel_rfl) (fun _ _ _ h => h) (Or.inl ⟨by rfl, ?hy13q3⟩) (by assumption) ?rest13q3
                  case hy13q3 => (intro w hSw; (try dsimp only at hSw); go_simp <;> with_reducible rfl)
                  try simp only [Act.put, List.getElem_toArray, List.getElem_cons_zero, List.getElem_cons_succ, List.setIfInBounds_toArray, List.set_cons_zero, List.set_cons_succ]
                  refine wpAnyE_take (i := 14) (v := ?v14q3) rfl (by kernel_rfl) (by kernel_rfl) (by kernel_rfl) (by kernel_rfl) (fun _ _ _ h => h) (Or.inl ⟨by rfl, ?hy14q3⟩) (by assumption) ?rest14q3
                  case hy14q3 => (intro w hSw; (try dsimp only at hSw); go_simp <;> with_reducible rfl)
                  try simp only [Act.put, List.getElem_toArray, List.getElem_cons_zero, List.getElem_cons_succ, List.setIfInBounds_toArray, List.set_cons_zero, List.set_cons_succ]
                  refine wpAnyE_take (i := 15) (v := ?v15q3) rfl (by kernel_rfl) (by kernel_rfl) (by kernel_rfl) (by kernel_rfl) (fun _ _ _ h => h) (Or.inl ⟨by rfl, ?hy15q3⟩) (by assumption) ?rest15q3
                  case hy15q3 => (intro w hSw; (try dsimp only at hSw); go_simp <;> with_reducible rfl)
                  try simp only [Act.put, List.getElem_toArray, List.getElem_cons_zero, List.getElem_cons_succ, List.setIfInBounds_toArray, List.set_cons_zero, List.set_cons_succ]
                  refine wpAnyE_take (i := 16) (v := ?v16q3) rfl (by kernel_rfl) (by kernel_rfl) (by kernel_rfl) (by kernel_rfl) (fun _ _ _ h => h) (Or.inl ⟨by rfl, ?hy16q3⟩) (by assumption) ?rest16q3
                  case hy16q3 => (intro w hSw; (try dsimp only at hSw); go_simp <;> with_reducible rfl)
                  try simp only [Act.put, List.getElem_toArray, List.getElem_cons_zero, List.getElem_cons_succ, List.setIfInBounds_toArray, List.set_cons_zero, List.set_cons_succ]
                  refine wpAnyE_take (i := 17) (v := ?v17q3) rfl (by kernel_rfl) (by kernel_rfl) (by kernel_rfl) (by kernel_rfl) (fun _ _ _ h => h) (Or.inl ⟨by rfl, ?hy17q3⟩) (by assumption) ?rest17q3
                  case hy17q3 => (intro w hSw; (try dsimp only at hSw); go_simp <;> with_reducible rfl)
                  try simp only [Act.put, List.getElem_toArray, List.getElem_cons_zero, List.getElem_cons_succ, List.setIfInBounds_toArray, List.set_cons_zero, List.set_cons_succ]
                  refine wpAnyE_take (i := 18) (v := ?v18q3) rfl (by kernel_rfl) (by kernel_rfl) (by kernel_rfl) (by kernel_rfl) (fun _ _ _ h => h) (Or.inl ⟨by rfl, ?hy18q3⟩) (by assumption) ?rest18q3
                  case hy18q3 => (intro w hSw; (try dsimp only at hSw); go_simp <;> with_reducible rfl)
                  try simp only [Act.put, List.getElem_toArray, List.getElem_cons_zero, List.getElem_cons_succ, List.setIfInBounds_toArray, List.set_cons_zero, List.set_cons_succ]
                  refine wpAnyE_take (i := 19) (v := ?v19q3) rfl (by kernel_rfl) (by kernel_rfl) (by kernel_rfl) (by kernel_rfl) (fun _ _ _ h => h) (Or.inl ⟨by rfl, ?hy19q3⟩) (by assumption) ?rest19q3
                  case hy19q3 => (intro w hSw; (try dsimp only at hSw); go_simp <;> with_reducible rfl)
                  try simp only [Act.put, List.getElem_toArray, List.getElem_cons_zero, List.getElem_cons_succ, List.setIfInBounds_toArray, List.set_cons_zero, List.set_cons_succ]
                  refine wpAnyE_take (i := 20) (v := ?v20q3) rfl (by kernel_rfl) (by kernel_rfl) (by kernel_rfl) (by kernel_rfl) (fun _ _ _ h => h) (Or.inl ⟨by rfl, ?hy20q3⟩) (by assumption) ?rest20q3
                  case hy20q3 => (intro w hSw; (try dsimp only at hSw); go_simp <;> with_reducible rfl)
                  try simp only [Act.put, List.getElem_toArray, List.getElem_cons_zero, List.getElem_cons_succ, List.setIfInBounds_toArray, List.set_cons_zero, List.set_cons_succ]
                  refine wpAnyE_take (i := 21) (v := ?v21q3) rfl (by kernel_rfl) (by kernel_rfl) (by kernel_rfl) (by kernel_rfl) (fun _ _ _ h => h) (Or.inl ⟨by rfl, ?hy21q3⟩) (by assumption) ?rest21q3
                  case hy21q3 => (intro w hSw; (try dsimp only at hSw); go_simp <;> with_reducible rfl)
                  try simp only [Act.put, List.getElem_toArray, List.getElem_cons_zero, List.getElem_cons_succ, List.setIfInBounds_toArray, List.set_cons_zero, List.set_cons_succ]
                  refine wpAnyE_take (i := 22) (v := ?v22q3) rfl (by kernel_rfl) (by kernel_rfl) (by kernel_rfl) (by kernel_rfl) (fun _ _ _ h => h) (Or.inl ⟨by rfl, ?hy22q3⟩) (by assumption) ?rest22q3
                  case hy22q3 => (intro w hSw; (try dsimp only at hSw); go_simp <;> with_reducible rfl)
                  try simp only [Act.put, List.getElem_toArray, List.getElem_cons_zero, List.getElem_cons_succ, List.setIfInBounds_toArray, List.set_cons_zero, List.set_cons_succ]
                  refine wpAnyE_take (i := 23) (v := ?v23q3) rfl (by kernel_rfl) (by kernel_rfl) (by kernel_rfl) (by kernel_rfl) (fun _ _ _ h => h) (Or.inl ⟨by rfl, ?hy23q3⟩) (by assumption) ?rest23q3
                  case hy23q3 => (intro w hSw; (try dsimp only at hSw); go_simp <;> with_reducible rfl)
                  try simp only [Act.put, List.getElem_toArray, List.getElem_cons_zero, List.getElem_cons_succ, List.setIfInBounds_toArray, List.set_cons_zero, List.set_cons_succ]
                  refine wpAnyE_take (i := 24) (v := ?v24q3) rfl (by kernel_rfl) (by kernel_rfl) (by kernel_rfl) (by kernel_rfl) (fun _ _ _ h => h) (Or.inl ⟨by rfl, ?hy24q3⟩) (by assumption) ?rest24q3
                  case hy24q3 => (intro w hSw; (try dsimp only at hSw); go_simp <;> with_reducible rfl)
                  try simp only [Act.put, List.getElem_toArray, List.getElem_cons_zero, List.getElem_cons_succ, List.setIfInBounds_toArray, List.set_cons_zero, List.set_cons_succ]
                  refine wpAnyE_take (i := 25) (v := ?v25q3) rfl (by kernel_rfl) (by kernel_rfl) (by kernel_rfl) (by kernel_rfl) (fun _ _ _ h => h) (Or.inl ⟨by rfl, ?hy25q3⟩) (by assumption) ?rest25q3
                  case hy25q3 => (intro w hSw; (try dsimp only at hSw); go_simp <;> with_reducible rfl)
                  try simp only [Act.put, List.getElem_toArray, List.getElem_cons_zero, List.getElem_cons_succ, List.setIfInBounds_toArray, List.set_cons_zero, List.set_cons_succ]
                  refine wpAnyE_take (i := 26) (v := ?v26q3) rfl (by kernel_rfl) (by kernel_rfl) (by kernel_rfl) (by kernel_rfl) (fun _ _ _ h => h) (Or.inl ⟨by rfl, ?hy26q3⟩) (by assumption) ?rest26q3
                  case hy26q3 => (intro w hSw; (try dsimp only at hSw); go_simp <;> with_reducible rfl)
                  try simp only [Act.put, List.getElem_toArray, List.getElem_cons_zero, List.getElem_cons_succ, List.setIfInBounds_toArray, List.set_cons_zero, List.set_cons_succ]
                  refine wpAnyE_take (i := 27) (v := ?v27q3) rfl (by kernel_rfl) (by kernel_rfl) (by kernel_rfl) (by kernel_rfl) (fun _ _ _ h => h) (Or.inl ⟨by rfl, ?hy27q3⟩) (by assumption) ?rest27q3
                  case hy27q3 => (intro w hSw; (try dsimp only at hSw); go_simp <;> with_reducible rfl)
                  try simp only [Act.put, List.getElem_toArray, List.getElem_cons_zero, List.getElem_cons_succ, List.setIfInBounds_toArray, List.set_cons_zero, List.set_cons_succ]
                  refine wpAnyE_take (i := 28) (v := ?v28q3) rfl (by kernel_rfl) (by kernel_rfl) (by kernel_rfl) (by kernel_rfl) (fun _ _ _ h => h) (Or.inl ⟨by rfl, ?hy28q3⟩) (by assumption) ?rest28q3
                  case hy28q3 => (intro w hSw; (try dsimp only at hSw); go_simp <;> with_reducible rfl)
                  try simp only [Act.put, List.getElem_toArray, List.getElem_cons_zero, List.getElem_cons_succ, List.setIfInBounds_toArray, List.set_cons_zero, List.set_cons_succ]
                  refine wpAnyE_take (i := 29) (v := ?v29q3) rfl (by kernel_rfl) (by kernel_rfl) (by kernel_rfl) (by kernel_rfl) (fun _ _ _ h => h) (Or.inl ⟨by rfl, ?hy29q3⟩) (by assumption) ?rest29q3
                  case hy29q3 => (intro w hSw; (try dsimp only at hSw); go_simp <;> with_reducible rfl)
                  try simp only [Act.put, List.getElem_toArray, List.getElem_cons_zero, List.getElem_cons_succ, List.setIfInBounds_toArray, List.set_cons_zero, List.set_cons_succ]
                  refine wpAnyE_take (i := 30) (v := ?v30q3) rfl (by kernel_rfl) (by kernel_rfl) (by kernel_rfl) (by kernel_rfl) (fun _ _ _ h => h) (Or.inl ⟨by rfl, ?hy30q3⟩) (by assumption) ?rest30q3
                  case hy30q3 => (intro w hSw; (try dsimp only at hSw); go_simp <;> with_reducible rfl)
                  try simp only [Act.put, List.getElem_toArray, List.getElem_cons_zero, List.getElem_cons_succ, List.setIfInBounds_toArray, List.set_cons_zero, List.set_cons_succ]
                  refine wpAnyE_take (i := 31) (v := ?v31q3) rfl (by kernel_rfl) (by kernel_rfl) (by kernel_rfl) (by kernel_rfl) (fun _ _ _ h => h) (Or.inl ⟨by rfl, ?hy31q3⟩) (by assumption) ?rest31q3
                  case hy31q3 => (intro w hSw; (try dsimp only at hSw); go_simp <;> with_reducible rfl)
                  try simp only [Act.put, List.getElem_toArray, List.getElem_cons_zero, List.getElem_cons_succ, List.setIfInBounds_toArray, List.set_cons_zero, List.set_cons_succ]
                  refine wpAnyE_take (i := 32) (v := ?v32q3) rfl (by kernel_rfl) (by kernel_rfl) (by kernel_rfl) (by kernel_rfl) (fun _ _ _ h => h) (Or.inl ⟨by rfl, ?hy32q3⟩) (by assumption) ?rest32q3
                  case hy32q3 => (intro w hSw; (try dsimp only at hSw); go_simp <;> with_reducible rfl)
                  try simp only [Act.put, List.getElem_toArray, List.getElem_cons_zero, List.getElem_cons_succ, List.setIfInBounds_toArray, List.set_cons_zero, List.set_cons_succ]
                  refine wpAnyE_take (i := 33) (v := ?v33q3) rfl (by kernel_rfl) (by kernel_rfl) (by kernel_rfl) (by kernel_rfl) (fun _ _ _ h => h) (Or.inl ⟨by rfl, ?hy33q3⟩) (by assumption) ?rest33q3
                  case hy33q3 => (intro w hSw; (try dsimp only at hSw); go_simp <;> with_reducible rfl)
                  try simp only [Act.put, List.getElem_toArray, List.getElem_cons_zero, List.getElem_cons_succ, List.setIfInBounds_toArray, List.set_cons_zero, List.set_cons_succ]
                  refine wpAnyE_take (i := 34) (v := ?v34q3) rfl (by kernel_rfl) (by kernel_rfl) (by kernel_rfl) (by kernel_rfl) (fun _ _ _ h => h) (Or.inl ⟨by rfl, ?hy34q3⟩) (by assumption) ?rest34q3
                  case hy34q3 => (intro w hSw; (try dsimp only at hSw); go_simp <;> with_reducible rfl)
                  try simp only [Act.put, List.getElem_toArray, List.getElem_cons_zero, List.getElem_cons_succ, List.setIfInBounds_toArray, List.set_cons_zero, List.set_cons_succ]
                  refine wpAnyE_take (i := 35) (v := ?v35q3) rfl (by kernel_rfl) (by kernel_rfl) (by kernel_rfl) (by kernel_rfl) (fun _ _ _ h => h) (Or.inl ⟨by rfl, ?hy35q3⟩) (by assumption) ?rest35q3
                  case hy35q3 => (intro w hSw; (try dsimp only at hSw); go_simp <;> with_reducible rfl)
                  try simp only [Act.put, List.getElem_toArray, List.getElem_cons_zero, List.getElem_cons_succ, List.setIfInBounds_toArray, List.set_cons_zero, List.set_cons_succ]
                  refine wpAnyE_take (i := 36) (v := ?v36q3) rfl (by kernel_rfl) (by kernel_rfl) (by kernel_rfl) (by kernel_rfl) (fun _ _ _ h => h) (Or.inl ⟨by rfl, ?hy36q3⟩) (by assumption) ?rest36q3
                  case hy36q3 => (intro w hSw; (try dsimp only at hSw); go_simp <;> with_reducible rfl)
                  try simp only [Act.put, List.getElem_toArray, List.getElem_cons_zero, List.getElem_cons_succ, List.setIfInBounds_toArray, List.set_cons_zero, List.set_cons_succ]
                  refine wpAnyE_take (i := 37) (v := ?v37q3) rfl (by kernel_rfl) (by kernel_rfl) (by kernel_rfl) (by kernel_rfl) (fun _ _ _ h => h) (Or.inl ⟨by rfl, ?hy37q3⟩) (by assumption) ?rest37q3
                  case hy37q3 => (intro w hSw; (try dsimp only at hSw); go_simp <;> with_reducible rfl)
                  try simp only [Act.put, List.getElem_toArray, List.getElem_cons_zero, List.getElem_cons_succ, List.setIfInBounds_toArray, List.set_cons_zero, List.set_cons_succ]
                  refine wpAnyE_take (i := 38) (v := ?v38q3) rfl (by kernel_rfl) (by kernel_rfl) (by kernel_rfl) (by kernel_rfl) (fun _ _ _ h => h) (Or.inl ⟨by rfl, ?hy38q3⟩) (by assumption) ?rest38q3
                  case hy38q3 => (intro w hSw; (try dsimp only at hSw); go_simp <;> with_reducible rfl)
                  try simp only [Act.put, List.getElem_toArray, List.getElem_cons_zero, List.getElem_cons_succ, List.setIfInBounds_toArray, List.set_cons_zero, List.set_cons_succ]
                  refine wpAnyE_take (i := 39) (v := ?v39q3) rfl (by kernel_rfl) (by kernel_rfl) (by kernel_rfl) (by kernel_rfl) (fun _ _ _ h => h) (Or.inl ⟨by rfl, ?hy39q3⟩) (by assumption) ?rest39q3
                  case hy39q3 => (intro w hSw; (try dsimp only at hSw); go_simp <;> with_reducible rfl)
                  try simp only [Act.put, List.getElem_toArray, List.getElem_cons_zero, List.getElem_cons_succ, List.setIfInBounds_toArray, List.set_cons_zero, List.set_cons_succ]
                  refine wpAnyE_take (i := 40) (v := ?v40q3) rfl (by kernel_rfl) (by kernel_rfl) (by kernel_rfl) (by kernel_rfl) (fun _ _ _ h => h) (Or.inl ⟨by rfl, ?hy40q3⟩) (by assumption) ?rest40q3
                  case hy40q3 => (intro w hSw; (try dsimp only at hSw); go_simp <;> with_reducible rfl)
                  try simp only [Act.put, List.getElem_toArray, List.getElem_cons_zero, List.getElem_cons_succ, List.setIfInBounds_toArray, List.set_cons_zero, List.set_cons_succ]
                  refine wpAnyE_last (by kernel_rfl) rfl (by kernel_rfl) (fun K hK => ?_)
                  go_simp
                  refine hK.out _ _ ?_
                  clear hK K hHeld a1' a2'
                  try simp only [Act.put, List.getElem_toArray, List.getElem_cons_zero, List.getElem_cons_succ, List.setIfInBounds_toArray, List.set_cons_zero, List.set_cons_succ]
                  go_wp2_with fail
                  go_meet
                  case rel => exact ⟨rfl, HK2.out.1, HK2.out.2⟩
                | false =>
                  as_aux_lemma =>
                  clear hpt hov
                  have a1' : w7.drew.cell? ⟨px, 1, none⟩ = some (.string (tb p)) := a1
                  have a2' : w7.drew.cell? ⟨px, 2, none⟩ = some (.string (tb s1)) := a2
                  clear a1 a2 a3
                  refine wp_region_E 41 (fun w' => w'.cell? ⟨px, 1, none⟩ = some (.string (tb p)) ∧ w'.cell? ⟨px, 2, none⟩ = some (.string (tb s1))) (by kernel_rfl) ⟨a1', a2'⟩ (fun hHeld => ?_)
                  refine wpAnyE_take (i := 0) (v := ?v0q4) rfl (by kernel_rfl) (by kernel_rfl) (by kernel_rfl) (by kernel_rfl) (fun _ _ _ h => h) (Or.inl ⟨by rfl, ?hy0q4⟩) (by assumption) ?rest0q4
                  case hy0q4 => (intro w hSw; (try dsimp only at hSw); go_simp <;> with_reducible rfl)
                  try simp only [Act.put, List.getElem_toArray, List.getElem_cons_zero, List.setIfInBounds_toArray, List.set_cons_zero, List.set_cons_succ]
                  refine wpAnyE_take (i := 1) (v := ?v1q4) rfl (by kernel_rfl) (by kernel_rfl) (by kernel_rfl) (by kernel_rfl) (fun _ _ _ h => h) (Or.inl ⟨by rfl, ?hy1q4⟩) (by assumption) ?rest1q4
                  case hy1q4 => (intro w hSw; (try dsimp only at hSw); go_simp <;> with_reducible rfl)
                  try simp only [Act.put, List.getElem_toArray, List.getElem_cons_zero, List.getElem_cons_succ, List.setIfInBounds_toArray, List.set_cons_zero, List.set_cons_succ]
                  refine wpAnyE_take (i := 2) (v := ?v2q4) rfl (by kernel_rfl) (by kernel_rfl) (by kernel_rfl) (by kernel_rfl) (fun _ _ _ h => h) (Or.inl ⟨by rfl, ?hy2q4⟩) (by assumption) ?rest2q4
                  case hy2q4 => (intro w hSw; (try dsimp only at hSw); go_simp <;> with_reducible rfl)
                  try simp only [Act.put, List.getElem_toArray, List.getElem_cons_zero, List.getElem_cons_succ, List.setIfInBounds_toArray, List.set_cons_zero, List.set_cons_succ]
                  refine wpAnyE_take (i := 3) (v := ?v3q4) rfl (by kernel_rfl) (by kernel_rfl) (by kernel_rfl) (by kernel_rfl) (fun _ _ _ h => h) (Or.inl ⟨by rfl, ?hy3q4⟩) (by assumption) ?rest3q4
                  case hy3q4 => (intro w hSw; (try dsimp only at hSw); go_simp <;> with_reducible rfl)
                  try simp only [Act.put, List.getElem_toArray, List.getElem_cons_zero, List.getElem_cons_succ, List.setIfInBounds_toArray, List.set_cons_zero, List.set_cons_succ]
                  refine wpAnyE_take (i := 4) (v := undef) rfl (by kernel_rfl) (by kernel_rfl) (by kernel_rfl) (by kernel_rfl) (fun _ _ _ h => h) (Or.inr ⟨by rfl, rfl⟩) (by assumption) ?rest4q4
                  try simp only [Act.put, List.getElem_toArray, List.getElem_cons_zero, List.getElem_cons_succ, List.setIfInBounds_toArray, List.set_cons_zero, List.set_cons_succ]
                  refine wpAnyE_take (i := 5) (v := undef) rfl (by kernel_rfl) (by kernel_rfl) (by kernel_rfl) (by kernel_rfl) (fun _ _ _ h => h) (Or.inr ⟨by rfl, rfl⟩) (by assumption) ?rest5q4
                  try simp only [Act.put, List.getElem_toArray, List.getElem_cons_zero, List.getElem_cons_succ, List.setIfInBounds_toArray, List.set_cons_zero, List.set_cons_succ]
                  refine wpAnyE_take (i := 6) (v := undef) rfl (by kernel_rfl) (by kernel_rfl) (by kernel_rfl) (by kernel_rfl) (fun _ _ _ h => h) (Or.inr ⟨by rfl, rfl⟩) (by assumption) ?rest6q4
                  try simp only [Act.put, List.getElem_toArray, List.getElem_cons_zero, List.getElem_cons_succ, List.setIfInBounds_toArray, List.set_cons_zero, List.set_cons_succ]
                  refine wpAnyE_take (i := 7) (v := undef) rfl (by kernel_rfl) (by kernel_rfl) (by kernel_rfl) (by kernel_rfl) (fun _ _ _ h => h) (Or.inr ⟨by rfl, rfl⟩) (by assumption) ?rest7q4
                  try simp only [Act.put, List.getElem_toArray, List.getElem_cons_zero, List.getElem_cons_succ, List.setIfInBounds_toArray, List.set_cons_zero, List.set_cons_succ]
                  refine wpAnyE_take (i := 8) (v := undef) rfl (by kernel_rfl) (by kernel_rfl) (by kernel_rfl) (by kernel_rfl) (fun _ _ _ h => h) (Or.inr ⟨by rfl, rfl⟩) (by assumption) ?rest8q4
                  try simp only [Act.put, List.getElem_toArray, List.getElem_cons_zero, List.getElem_cons_succ, List.setIfInBounds_toArray, List.set_cons_zero, List.set_cons_succ]
                  refine wpAnyE_take (i := 9) (v := undef) rfl (by kernel_rfl) (by kernel_rfl) (by kernel_rfl) (by kernel_rfl) (fun _ _ _ h => h) (Or.inr ⟨by rfl, rfl⟩) (by assumption) ?rest9q4
                  try simp only [Act.put, List.getElem_toArray, List.getElem_cons_zero, List.getElem_cons_succ, List.setIfInBounds_toArray, List.set_cons_zero, List.set_cons_succ]
                  refine wpAnyE_take (i := 10) (v := undef) rfl (by kernel_rfl) (by kernel_rfl) (by kernel_rfl) (by kernel_rfl) (fun _ _ _ h => h) (Or.inr ⟨by rfl, rfl⟩) (by assumption) ?rest10q4
                  try simp only [Act.put, List.getElem_toArray, List.getElem_cons_zero, List.getElem_cons_succ, List.setIfInBounds_toArray, List.set_cons_zero, List.set_cons_succ]
                  refine wpAnyE_take (i := 11) (v := ?v11q4) rfl (by kernel_rfl) (by kernel_rfl) (by kernel_rfl) (by kernel_rfl) (fun _ _ _ h => h) (Or.inl ⟨by rfl, ?hy11q4⟩) (by assumption) ?rest11q4
                  case hy11q4 => (intro w hSw; (try dsimp only at hSw); go_simp <;> with_reducible rfl)
                  try simp only [Act.put, List.getElem_toArray, List.getElem_cons_zero, List.getElem_cons_succ, List.setIfInBounds_toArray, List.set_cons_zero, List.set_cons_succ]
                  refine wpAnyE_take (i := 12) (v := ?v12q4) rfl (by kernel_rfl) (by kernel_rfl) (by kernel_rfl) (by kernel_rfl) (fun _ _ _ h => h) (Or.inl ⟨by rfl, ?hy12q4⟩) (by assumption) ?rest12q4
                  case hy12q4 => (intro w hSw; (try dsimp only at hSw); go_simp <;> with_reducible rfl)
                  try simp only [Act.put, List.getElem_toArray, List.getElem_cons_zero, List.getElem_cons_succ, List.setIfInBounds_toArray, List.set_cons_zero, List.set_cons_succ]
                  refine wpAnyE_take (i := 13) (v := ?v13q4) rfl (by kernel_rfl) (by kernel_rfl) (by kernel_rfl) (by kernel_rfl) (fun _ _ _ h => h) (Or.inl ⟨by rfl, ?hy13q4⟩) (by assumption) ?rest13q4
                  case hy13q4 => (intro w hSw; (try dsimp only at hSw); go_simp <;> with_reducible rfl)
                  try simp only [Act.put, List.getElem_toArray, List.getElem_cons_zero, List.getElem_cons_succ, List.setIfInBounds_toArray, List.set_cons_zero, List.set_cons_succ]
                  refine wpAnyE_take (i := 14) (v := ?v14q4) rfl (by kernel_rfl) (by kernel_rfl) (by kernel_rfl) (by kernel_rfl) (fun _ _ _ h => h) (Or.inl ⟨by rfl, ?hy14q4⟩) (by assumption) ?rest14q4
                  case hy14q4 => (intro w hSw; (try dsimp only at hSw); go_simp <;> with_reducible rfl)
                  try simp only [Act.put, List.getElem_toArray, List.getElem_cons_zero, List.getElem_cons_succ, List.setIfInBounds_toArray, List.set_cons_zero, List.set_cons_succ]
                  refine wpAnyE_take (i := 15) (v := ?v15q4) rfl (by kernel_rfl) (by kernel_rfl) (by kernel_rfl) (by kernel_rfl) (fun _ _ _ h => h) (Or.inl ⟨by rfl, ?hy15q4⟩) (by assumption) ?rest15q4
                  case hy15q4 => (intro w hSw; (try dsimp only at hSw); go_simp <;> with_reducible rfl)
                  try simp only [Act.put, List.getElem_toArray, List.getElem_cons_zero, List.getElem_cons_succ, List.setIfInBounds_toArray, List.set_cons_zero, List.set_cons_succ]
                  refine wpAnyE_take (i := 16) (v := ?v16q4) rfl (by kernel_rfl) (by kernel_rfl) (by kernel_rfl) (by kernel_rfl) (fun _ _ _ h => h) (Or.inl ⟨by rfl, ?hy16q4⟩) (by assumption) ?rest16q4
                  case hy16q4 => (intro w hSw; (try dsimp only at hSw); go_simp <;> with_reducible rfl)
                  try simp only [Act.put, List.getElem_toArray, List.getElem_cons_zero, List.getElem_cons_succ, List.setIfInBounds_toArray, List.set_cons_zero, List.set_cons_succ]
                  refine wpAnyE_take (i := 17) (v := ?v17q4) rfl (by kernel_rfl) (by kernel_rfl) (by kernel_rfl) (by kernel_rfl) (fun _ _ _ h => h) (Or.inl ⟨by rfl, ?hy17q4⟩) (by assumption) ?rest17q4
                  case hy17q4 => (intro w hSw; (try dsimp only at hSw); go_simp <;> with_reducible rfl)
                  try simp only [Act.put, List.getElem_toArray, List.getElem_cons_zero, List.getElem_cons_succ, List.setIfInBounds_toArray, List.set_cons_zero, List.set_cons_succ]
                  refine wpAnyE_take (i := 18) (v := ?v18q4) rfl (by kernel_rfl) (by kernel_rfl) (by kernel_rfl) (by kernel_rfl) (fun _ _ _ h => h) (Or.inl ⟨by rfl, ?hy18q4⟩) (by assumption) ?rest18q4
                  case hy18q4 => (intro w hSw; (try dsimp only at hSw); go_simp <;> with_reducible rfl)
                  try simp only [Act.put, List.getElem_toArray, List.getElem_cons_zero, List.getElem_cons_succ, List.setIfInBounds_toArray, List.set_cons_zero, List.set_cons_succ]
                  refine wpAnyE_take (i := 19) (v := ?v19q4) rfl (by kernel_rfl) (by kernel_rfl) (by kernel_rfl) (by kernel_rfl) (fun _ _ _ h => h) (Or.inl ⟨by rfl, ?hy19q4⟩) (by assumption) ?rest19q4
                  case hy19q4 => (intro w hSw; (try dsimp only at hSw); go_simp <;> with_reducible rfl)
                  try simp only [Act.put, List.getElem_toArray, List.getElem_cons_zero, List.getElem_cons_succ, List.setIfInBounds_toArray, List.set_cons_zero, List.set_cons_succ]
                  refine wpAnyE_take (i := 20) (v := ?v20q4) rfl (by kernel_rfl) (by kernel_rfl) (by kernel_rfl) (by kernel_rfl) (fun _ _ _ h => h) (Or.inl ⟨by rfl, ?hy20q4⟩) (by assumption) ?rest20q4
                  case hy20q4 => (intro w hSw; (try dsimp only at hSw); go_simp <;> with_reducible rfl)
                  try simp only [Act.put, List.getElem_toArray, List.getElem_cons_zero, List.getElem_cons_succ, List.setIfInBounds_toArray, List.set_cons_zero, List.set_cons_succ]
                  refine wpAnyE_take (i := 21) (v := ?v21q4) rfl (by kernel_rfl) (by kernel_rfl) (by kernel_rfl) (by kernel_rfl) (fun _ _ _ h => h) (Or.inl ⟨by rfl, ?hy21q4⟩) (by assumption) ?rest21q4
                  case hy21q4 => (intro w hSw; (try dsimp only at hSw); go_simp <;> with_reducible rfl)
                  try simp only [Act.put, List.getElem_toArray, List.getElem_cons_zero, List.getElem_cons_succ, List.setIfInBounds_toArray, List.set_cons_zero, List.set_cons_succ]
                  refine wpAnyE_take (i := 22) (v := ?v22q4) rfl (by kernel_rfl) (by kernel_rfl) (by kernel_rfl) (by kernel_rfl) (fun _ _ _ h => h) (Or.inl ⟨by rfl, ?hy22q4⟩) (by assumption) ?rest22q4
                  case hy22q4 => (intro w hSw; (try dsimp only at hSw); go_simp <;> with_reducible rfl)
                  try simp only [Act.put, List.getElem_toArray, List.getElem_cons_zero, List.getElem_cons_succ, List.setIfInBounds_toArray, List.set_cons_zero, List.set_cons_succ]
                  refine wpAnyE_take (i := 23) (v := ?v23q4) rfl (by kernel_rfl) (by kernel_rfl) (by kernel_rfl) (by kernel_rfl) (fun _ _ _ h => h) (Or.inl ⟨by rfl, ?hy23q4⟩) (by assumption) ?rest23q4
                  case hy23q4 => (intro w hSw; (try dsimp only at hSw); go_simp <;> with_reducible rfl)
                  try simp only [Act.put, List.getElem_toArray, List.getElem_cons_zero, List.getElem_cons_succ, List.setIfInBounds_toArray, List.set_cons_zero, List.set_cons_succ]
                  refine wpAnyE_take (i := 24) (v := ?v24q4) rfl (by kernel_rfl) (by kernel_rfl) (by kernel_rfl) (by kernel_rfl) (fun _ _ _ h => h) (Or.inl ⟨by rfl, ?hy24q4⟩) (by assumption) ?rest24q4
                  case hy24q4 => (intro w hSw; (try dsimp only at hSw); go_simp <;> with_reducible rfl)
                  try simp only [Act.put, List.getElem_toArray, List.getElem_cons_zero, List.getElem_cons_succ, List.setIfInBounds_toArray, List.set_cons_zero, List.set_cons_succ]
                  refine wpAnyE_take (i := 25) (v := ?v25q4) rfl (by kernel_rfl) (by kernel_rfl) (by kernel_rfl) (by kernel_rfl) (fun _ _ _ h => h) (Or.inl ⟨by rfl, ?hy25q4⟩) (by assumption) ?rest25q4
                  case hy25q4 => (intro w hSw; (try dsimp only at hSw); go_simp <;> with_reducible rfl)
                  try simp only [Act.put, List.getElem_toArray, List.getElem_cons_zero, List.getElem_cons_succ, List.setIfInBounds_toArray, List.set_cons_zero, List.set_cons_succ]
                  refine wpAnyE_take (i := 26) (v := ?v26q4) rfl (by kernel_rfl) (by kernel_rfl) (by kernel_rfl) (by kernel_rfl) (fun _ _ _ h => h) (Or.inl ⟨by rfl, ?hy26q4⟩) (by assumption) ?rest26q4
                  case hy26q4 => (intro w hSw; (try dsimp only at hSw); go_simp <;> with_reducible rfl)
                  try simp only [Act.put, List.getElem_toArray, List.getElem_cons_zero, List.getElem_cons_succ, List.setIfInBounds_toArray, List.set_cons_zero, List.set_cons_succ]
                  refine wpAnyE_take (i := 27) (v := ?v27q4) rfl (by kernel_rfl) (by kernel_rfl) (by kernel_rfl) (by kernel_rfl) (fun _ _ _ h => h) (Or.inl ⟨by rfl, ?hy27q4⟩) (by assumption) ?rest27q4
                  case hy27q4 => (intro w hSw; (try dsimp only at hSw); go_simp <;> with_reducible rfl)
                  try simp only [Act.put, List.getElem_toArray, List.getElem_cons_zero, List.getElem_cons_succ, List.setIfInBounds_toArray, List.set_cons_zero, List.set_cons_succ]
                  refine wpAnyE_take (i := 28) (v := ?v28q4) rfl (by kernel_rfl) (by kernel_rfl) (by kernel_rfl) (by kernel_rfl) (fun _ _ _ h => h) (Or.inl ⟨by rfl, ?hy28q4⟩) (by assumption) ?rest28q4
                  case hy28q4 => (intro w hSw; (try dsimp only at hSw); go_simp <;> with_reducible rfl)
                  try simp only [Act.put, List.getElem_toArray, List.getElem_cons_zero, List.getElem_cons_succ, List.setIfInBounds_toArray, List.set_cons_zero, List.set_cons_succ]
                  refine wpAnyE_take (i := 29) (v := ?v29q4) rfl (by kernel_rfl) (by kernel_rfl) (by kernel_rfl) (by kernel_rfl) (fun _ _ _ h => h) (Or.inl ⟨by rfl, ?hy29q4⟩) (by assumption) ?rest29q4
                  case hy29q4 => (intro w hSw; (try dsimp only at hSw); go_simp <;> with_reducible rfl)
                  try simp only [Act.put, List.getElem_toArray, List.getElem_cons_zero, List.getElem_cons_succ, List.setIfInBounds_toArray, List.set_cons_zero, List.set_cons_succ]
                  refine wpAnyE_take (i := 30) (v := ?v30q4) rfl (by kernel_rfl) (by kernel_rfl) (by kernel_rfl) (by kernel_rfl) (fun _ _ _ h => h) (Or.inl ⟨by rfl, ?hy30q4⟩) (by assumption) ?rest30q4
                  case hy30q4 => (intro w hSw; (try dsimp only at hSw); go_simp <;> with_reducible rfl)
                  try simp only [Act.put, List.getElem_toArray, List.getElem_cons_zero, List.getElem_cons_succ, List.setIfInBounds_toArray, List.set_cons_zero, List.set_cons_succ]
                  refine wpAnyE_take (i := 31) (v := ?v31q4) rfl (by kernel_rfl) (by kernel_rfl) (by kernel_rfl) (by kernel_rfl) (fun _ _ _ h => h) (Or.inl ⟨by rfl, ?hy31q4⟩) (by assumption) ?rest31q4
                  case hy31q4 => (intro w hSw; (try dsimp only at hSw); go_simp <;> with_reducible rfl)
                  try simp only [Act.put, List.getElem_toArray, List.getElem_cons_zero, List.getElem_cons_succ, List.setIfInBounds_toArray, List.set_cons_zero, List.set_cons_succ]
                  refine wpAnyE_take (i := 32) (v := ?v32q4) rfl (by kernel_rfl) (by kernel_rfl) (by kernel_rfl) (by kernel_rfl) (fun _ _ _ h => h) (Or.inl ⟨by rfl, ?hy32q4⟩) (by assumption) ?rest32q4
                  case hy32q4 => (intro w hSw; (try dsimp only at hSw); go_simp <;> with_reducible rfl)
                  try simp only [Act.put, List.getElem_toArray, List.getElem_cons_zero, List.getElem_cons_succ, List.setIfInBounds_toArray, List.set_cons_zero, List.set_cons_succ]
                  refine wpAnyE_take (i := 33) (v := ?v33q4) rfl (by kernel_rfl) (by kernel_rfl) (by kernel_rfl) (by kernel_rfl) (fun _ _ _ h => h) (Or.inl ⟨by rfl, ?hy33q4⟩) (by assumption) ?rest33q4
                  case hy33q4 => (intro w hSw; (try dsimp only at hSw); go_simp <;> with_reducible rfl)
                  try simp only [Act.put, List.getElem_toArray, List.getElem_cons_zero, List.getElem_cons_succ, List.setIfInBounds_toArray, List.set_cons_zero, List.set_cons_succ]
                  refine wpAnyE_take (i := 34) (v := ?v34q4) rfl (by kernel_rfl) (by kernel_rfl) (by kernel_rfl) (by kernel_rfl) (fun _ _ _ h => h) (Or.inl ⟨by rfl, ?hy34q4⟩) (by assumption) ?rest34q4
                  case hy34q4 => (intro w hSw; (try dsimp only at hSw); go_simp <;> with_reducible rfl)
                  try simp only [Act.put, List.getElem_toArray, List.getElem_cons_zero, List.getElem_cons_succ, List.setIfInBounds_toArray, List.set_cons_zero, List.set_cons_succ]
                  refine wpAnyE_take (i := 35) (v := undef) rfl (by kernel_rfl) (by kernel_rfl) (by kernel_rfl) (by kernel_rfl) (fun _ _ _ h => h) (Or.inr ⟨by rfl, rfl⟩) (by assumption) ?rest35q4
                  try simp only [Act.put, List.getElem_toArray, List.getElem_cons_zero, List.getElem_cons_succ, List.setIfInBounds_toArray, List.set_cons_zero, List.set_cons_succ]
                  refine wpAnyE_take (i := 36) (v := undef) rfl (by kernel_rfl) (by kernel_rfl) (by kernel_rfl) (by kernel_rfl) (fun _ _ _ h => h) (Or.inr ⟨by rfl, rfl⟩) (by assumption) ?rest36q4
                  try simp only [Act.put, List.getElem_toArray, List.getElem_cons_zero, List.getElem_cons_succ, List.setIfInBounds_toArray, List.set_cons_zero, List.set_cons_succ]
                  refine wpAnyE_take (i := 37) (v := undef) rfl (by kernel_rfl) (by kernel_rfl) (by kernel_rfl) (by kernel_rfl) (fun _ _ _ h => h) (Or.inr ⟨by rfl, rfl⟩) (by assumption) ?rest37q4
                  try simp only [Act.put, List.getElem_toArray, List.getElem_cons_zero, List.getElem_cons_succ, List.setIfInBounds_toArray, List.set_cons_zero, List.set_cons_succ]
                  refine wpAnyE_take (i := 38) (v := undef) rfl (by kernel_rfl) (by kernel_rfl) (by kernel_rfl) (by kernel_rfl) (fun _ _ _ h => h) (Or.inr ⟨by rfl, rfl⟩) (by assumption) ?rest38q4
                  try simp only [Act.put, List.getElem_toArray, List.getElem_cons_zero, List.getElem_cons_succ, List.setIfInBounds_toArray, List.set_cons_zero, List.set_cons_succ]
                  refine wpAnyE_take (i := 39) (v := undef) rfl (by kernel_rfl) (by kernel_rfl) (by kernel_rfl) (by kernel_rfl) (fun _ _ _ h => h) (Or.inr ⟨by rfl, rfl⟩) (by assumption) ?rest39q4
                  try simp only [Act.put, List.getElem_toArray, List.getElem_cons_zero, List.getElem_cons_succ, List.setIfInBounds_toArray, List.set_cons_zero, List.set_cons_succ]
                  refine wpAnyE_take (i := 40) (v := ?v40q4) rfl (by kernel_rfl) (by kernel_rfl) (by kernel_rfl) (by kernel_rfl) (fun _ _ _ h => h) (Or.inl ⟨by rfl, ?hy40q4⟩) (by assumption) ?rest40q4
                  case hy40q4 => (intro w hSw; (try dsimp only at hSw); go_simp <;> with_reducible rfl)
                  try simp only [Act.put, List.getElem_toArray, List.getElem_cons_zero, List.getElem_cons_succ, List.setIfInBounds_toArray, List.set_cons_zero, List.set_cons_succ]
                  refine wpAnyE_last (by kernel_rfl) rfl (by kernel_rfl) (fun K hK => ?_)
                  go_simp
                  refine hK.out _ _ ?_
                  clear hK K hHeld a1' a2'
                  try simp only [Act.put, List.getElem_toArray, List.getElem_cons_zero, List.getElem_cons_succ, List.setIfInBounds_toArray, List.set_cons_zero, List.set_cons_succ]
                  go_wp2_with fail
                  go_meet
                  case rel => exact ⟨rfl, HK2.out.1, HK2.out.2⟩
            case rest =>
              as_aux_lemma =>
              obtain ⟨rfl, HC8, U8⟩ := hcut
              obtain ⟨q9, o9, hA, hth, hC9⟩ := HC8.out.all_ ha { a with sn := a.sn ++ l, cr := a.cr - N }
              injection hA with hA
              injection hA with hq9 ho9
              subst hq9
              subst ho9
              have TH : Hid (wc.there q (oo + i * 4) (acc { a with sn := a.sn ++ l, cr := a.cr - N }).size) := by rw [ac_size]; exact hth
              rw [acl_c] at hC9
              have HC9 := Lib.hid hC9
              clear hth hC9 HC8 HB8 U7 HPT HOV HMW
              go_wp2_with (first | (refine wpList_ld rfl _ rfl rfl U8.out (ac_ok _) ?_) | (refine wpList_swm (cs := acc { a with sn := a.sn ++ l, cr := a.cr - N }) rfl _ _ rfl rfl rfl TH.out (ac_ok _) ?_))
              go_roundw
              case rel => exact ⟨k + 1, m', F3, _, c, _, by omega, rfl, by rw [List.length_set], by go_num, HC9, (by rw [← HZM.out]; exact HM3)⟩
              case measure => simp [intOf]; omega
        by_cases k3 : o.kd = 3
        · as_aux_lemma =>
          have e0 : (o.kd == 0) = false := beq_eq_false_iff_ne.2 k0
          have e1 : (o.kd == 1) = false := beq_eq_false_iff_ne.2 k1
          have e2 : (o.kd == 2) = false := beq_eq_false_iff_ne.2 k2
          have e3 : (o.kd == 3) = true := by rw [k3]; rfl
          have htg := tgrow_any HC2.out.t HC2.out.ok HSM.out o.st o.x o.hx
          have HOK := Lib.hid (rmGrow_ok HC2.out.ok o.st o.x)
          have hin := rmGrow_in m o.st o.x
          have hox := o.hx
          have hwx : IntKind.i64.wrap (o.x : Int) = (o.x : Int) := IntWalk.i64_in _ (by omega)
          by_cases hg : (rmGrow m o.st o.x).2 = 0
          · have hq : ∀ W, (binOp .eql 56 (.agg (tdc (rmGrow m o.st o.x).2)) (.agg #[.int .u8 0, .int .u32 0])).run Try.prog W = .ok (.bool true) W := fun W => by rw [hg, tdc_0]; exact ft_eql 0 0 0 0 W
            by_cases hs0 : o.st = 0
            · as_aux_lemma =>
              obtain ⟨hM3, hw3, _⟩ := HM.out.grow0 HC2.out.ok (z' := zm) (by omega) (x := o.x) hs0
              have hmw := hw3 hg
              have HM3 := Lib.hid hM3
              have hws : IntKind.i64.wrap (m.w + (o.x : Int)) = m.w + (o.x : Int) := IntWalk.i64_in _ (by omega)
              have s0 : ((o.st : Int) == 0) = true := by rw [hs0]; rfl
              have HMW := Lib.hid hmw
              clear hM3 hw3 hmw HM hg hin hs0
              generalize rmGrow m o.st o.x = r at *
              have HTG := Lib.hid htg
              clear htg
              go_wp2_with fail
              refine HTG.out.mono ?_
              rintro e w3 ⟨rfl, F3, hT3, hF3, hN3⟩
              have HC3 := Lib.hid (HC2.out.on HOK.out hT3 hF3 hN3)
              have O3 := Lib.hid (hF3.row HPO.out U2.out)
              clear hT3 hF3 hN3 HC2 HTG o0 o1 o2 o3 o4 o5 U2
              obtain ⟨o0, o1, o2, o3, o4, o5, _⟩ := ov_cells O3.out
              go_wp2_with fail
              go_roundw
              case rel => exact ⟨k + 1, r.1, F3, A, c, L, by omega, by rw [HMW.out], rfl, by go_num, HC3, (by rw [← HZM.out]; exact HM3)⟩
              case measure => simp [intOf]; omega
            · as_aux_lemma =>
              obtain ⟨hmw, hM3, hM4⟩ := HM.out.growY HC2.out.ok (z' := zm) (by omega) hox hs0 hg
              have s0 : ((o.st : Int) == 0) = false := beq_eq_false_iff_ne.2 (by omega)
              have hz := HZ.out
              have hbb := HM.out.b
              clear HM hg hin hs0 HZ
              generalize rmGrow m o.st o.x = r at *
              have HTG := Lib.hid htg
              have HMW := Lib.hid hmw
              clear htg hmw
              by_cases hfa : fa o.st L < L.length
              · as_aux_lemma =>
                rw [if_pos hfa] at hz
                have HM4 := Lib.hid hM3
                clear hM4 hM3
                generalize fa o.st L = i at *
                obtain ⟨a, ha⟩ : ∃ a, L[i]? = some a := ⟨_, List.getElem?_eq_getElem hfa⟩
                have HM3 := Lib.hid (HM4.out a ha)
                have hab := hbb.at_ ha
                subst hz
                clear HM4 hbb
                have i0 : decide ((0 : Int) ≤ (i : Int)) = true := decide_eq_true (by omega)
                have hws : IntKind.i64.wrap (a.cr + (o.x : Int)) = a.cr + (o.x : Int) := IntWalk.i64_in _ (by omega)
                go_wp2_with fail
                refine HTG.out.mono ?_
                rintro e w3 ⟨rfl, F3, hT3, hF3, hN3⟩
                have HC3 := Lib.hid (HC2.out.on HOK.out hT3 hF3 hN3)
                have O3 := Lib.hid (hF3.row HPO.out U2.out)
                clear hT3 hF3 hN3 HC2 HTG o0 o1 o2 o3 o4 o5 U2
                obtain ⟨o0, o1, o2, o3, o4, o5, _⟩ := ov_cells O3.out
                obtain ⟨q, oo, hA, hq9, hzf, hC4, _, _, d3, hcur⟩ := HC3.out.fld' 3 ha (by omega) (b := { a with cr := a.cr + o.x }) (u := .int .i64 (a.cr + o.x)) (by unfold acl acc; rfl)
                have HC4 : Hid (CwI w (w3.setCell ⟨q, oo + i * 4 + 3, none⟩ (.int .i64 (a.cr + (o.x : Int)))).drew F3 g r.1 A c (L.set i { a with cr := a.cr + o.x })) := hC4.below (Below.refl _ _).drew
                subst hA
                have g1 : w3.drew.cell? ⟨q, oo + i * 4 + 3, none⟩ = some (.int .i64 a.cr) := d3
                have g3 : w3.drew.cell? ⟨po, 5, none⟩ = some (.int .u32 o.x) := o5
                have zf : w3.drew.frozen? ⟨q, oo + i * 4 + 3, none⟩ = false := hzf
                clear hC4 hcur d3 hzf HC3 O3 hab
                go_upto_region 40 with fail
                clear o0 o1 o2 o3 o4 o5 hq
                refine wp_region_E 11 (fun w' => w'.cell? ⟨q, oo + i * 4 + 3, none⟩ = some (.int .i64 a.cr) ∧ w'.cell? ⟨po, 5, none⟩ = some (.int .u32 o.x)) (by kernel_rfl) ⟨g1, g3⟩ (fun hHeld => ?_)
                refine wpAnyE_take (i := 0) (v := ?v0q5) rfl (by kernel_rfl) (by kernel_rfl) (by kernel_rfl) (by kernel_rfl) (fun _ _ _ h => h) (Or.inl ⟨by rfl, ?hy0q5⟩) (by assumption) ?rest0q5
                case hy0q5 => (intro w hSw; (try dsimp only at hSw); go_simp <;> with_reducible rfl)
                try simp only [Act.put, List.getElem_toArray, List.getElem_cons_zero, List.setIfInBounds_toArray, List.set_cons_zero, List.set_cons_succ]
                refine wpAnyE_take (i := 1) (v := ?v1q5) rfl (by kernel_rfl) (by kernel_rfl) (by kernel_rfl) (by kernel_rfl) (fun _ _ _ h => h) (Or.inl ⟨by rfl, ?hy1q5⟩) (by assumption) ?rest1q5
                case hy1q5 => (intro w hSw; (try dsimp only at hSw); go_simp <;> with_reducible rfl)
                try simp only [Act.put, List.getElem_toArray, List.getElem_cons_zero, List.getElem_cons_succ, List.setIfInBounds_toArray, List.set_cons_zero, List.set_cons_succ]
                refine wpAnyE_take (i := 2) (v := ?v2q5) rfl (by kernel_rfl) (by kernel_rfl) (by kernel_rfl) (by kernel_rfl) (fun _ _ _ h => h) (Or.inl ⟨by rfl, ?hy2q5⟩) (by assumption) ?rest2q5
                case hy2q5 => (intro w hSw; (try dsimp only at hSw); go_simp <;> with_reducible rfl)
                try simp only [Act.put, List.getElem_toArray, List.getElem_cons_zero, List.getElem_cons_succ, List.setIfInBounds_toArray, List.set_cons_zero, List.set_cons_succ]
                refine wpAnyE_take (i := 3) (v := ?v3q5) rfl (by kernel_rfl) (by kernel_rfl) (by kernel_rfl) (by kernel_rfl) (fun _ _ _ h => h) (Or.inl ⟨by rfl, ?hy3q5⟩) (by assumption) ?rest3q5
                case hy3q5 => (intro w hSw; (try dsimp only at hSw); go_simp <;> with_reducible rfl)
                try simp only [Act.put, List.getElem_toArray, List.getElem_cons_zero, List.getElem_cons_succ, List.setIfInBounds_toArray, List.set_cons_zero, List.set_cons_succ]
                refine wpAnyE_take (i := 4) (v := ?v4q5) rfl (by kernel_rfl) (by kernel_rfl) (by kernel_rfl) (by kernel_rfl) (fun _ _ _ h => h) (Or.inl ⟨by rfl, ?hy4q5⟩) (by assumption) ?rest4q5
                case hy4q5 => (intro w hSw; (try dsimp only at hSw); go_simp <;> with_reducible rfl)
                try simp only [Act.put, List.getElem_toArray, List.getElem_cons_zero, List.getElem_cons_succ, List.setIfInBounds_toArray, List.set_cons_zero, List.set_cons_succ]
                refine wpAnyE_take (i := 5) (v := ?v5q5) rfl (by kernel_rfl) (by kernel_rfl) (by kernel_rfl) (by kernel_rfl) (fun _ _ _ h => h) (Or.inl ⟨by rfl, ?hy5q5⟩) (by assumption) ?rest5q5
                case hy5q5 => (intro w hSw; (try dsimp only at hSw); go_simp <;> with_reducible rfl)
                try simp only [Act.put, List.getElem_toArray, List.getElem_cons_zero, List.getElem_cons_succ, List.setIfInBounds_toArray, List.set_cons_zero, List.set_cons_succ]
                refine wpAnyE_take (i := 6) (v := ?v6q5) rfl (by kernel_rfl) (by kernel_rfl) (by kernel_rfl) (by kernel_rfl) (fun _ _ _ h => h) (Or.inl ⟨by rfl, ?hy6q5⟩) (by assumption) ?rest6q5
                case hy6q5 => (intro w hSw; (try dsimp only at hSw); go_simp <;> with_reducible rfl)
                try simp only [Act.put, List.getElem_toArray, List.getElem_cons_zero, List.getElem_cons_succ, List.setIfInBounds_toArray, List.set_cons_zero, List.set_cons_succ]
                refine wpAnyE_take (i := 7) (v := ?v7q5) rfl (by kernel_rfl) (by kernel_rfl) (by kernel_rfl) (by kernel_rfl) (fun _ _ _ h => h) (Or.inl ⟨by rfl, ?hy7q5⟩) (by assumption) ?rest7q5
                case hy7q5 => (intro w hSw; (try dsimp only at hSw); go_simp <;> with_reducible rfl)
                try simp only [Act.put, List.getElem_toArray, List.getElem_cons_zero, List.getElem_cons_succ, List.setIfInBounds_toArray, List.set_cons_zero, List.set_cons_succ]
                refine wpAnyE_take (i := 8) (v := ?v8q5) rfl (by kernel_rfl) (by kernel_rfl) (by kernel_rfl) (by kernel_rfl) (fun _ _ _ h => h) (Or.inl ⟨by rfl, ?hy8q5⟩) (by assumption) ?rest8q5
                case hy8q5 => (intro w hSw; (try dsimp only at hSw); go_simp <;> with_reducible rfl)
                try simp only [Act.put, List.getElem_toArray, List.getElem_cons_zero, List.getElem_cons_succ, List.setIfInBounds_toArray, List.set_cons_zero, List.set_cons_succ]
                refine wpAnyE_take (i := 9) (v := ?v9q5) rfl (by kernel_rfl) (by kernel_rfl) (by kernel_rfl) (by kernel_rfl) (fun _ _ _ h => h) (Or.inl ⟨by rfl, ?hy9q5⟩) (by assumption) ?rest9q5
                case hy9q5 => (intro w hSw; (try dsimp only at hSw); go_simp <;> with_reducible rfl)
                try simp only [Act.put, List.getElem_toArray, List.getElem_cons_zero, List.getElem_cons_succ, List.setIfInBounds_toArray, List.set_cons_zero, List.set_cons_succ]
                refine wpAnyE_take (i := 10) (v := ?v10q5) rfl (by kernel_rfl) (by kernel_rfl) (by kernel_rfl) (by kernel_rfl) (fun _ _ _ h => h) (Or.inl ⟨by rfl, ?hy10q5⟩) (by assumption) ?rest10q5
                case hy10q5 => (intro w hSw; (try dsimp only at hSw); go_simp <;> with_reducible rfl)
                try simp only [Act.put, List.getElem_toArray, List.getElem_cons_zero, List.getElem_cons_succ, List.setIfInBounds_toArray, List.set_cons_zero, List.set_cons_succ]
                refine wpAnyE_last (by kernel_rfl) rfl (by kernel_rfl) (fun K hK => ?_)
                go_simp
                refine hK.out _ _ ?_
                clear hK K hHeld g1 g3 zf
                try simp only [Act.put, List.getElem_toArray, List.getElem_cons_zero, List.getElem_cons_succ, List.setIfInBounds_toArray, List.set_cons_zero, List.set_cons_succ]
                go_wp2_with fail
                go_roundw
                case rel => exact ⟨k + 1, r.1, F3, _, c, _, by omega, by rw [HMW.out], by rw [List.length_set], by go_num, HC4, (by rw [← HZM.out]; exact HM3)⟩
                case measure => simp [intOf]; omega
              · rw [if_neg hfa] at hz
                have HM3 := Lib.hid (hM4 (List.getElem?_eq_none (by omega)))
                subst hz
                clear hM3 hM4 hbb
                go_wp2_with fail
                refine HTG.out.mono ?_
                rintro e w3 ⟨rfl, F3, hT3, hF3, hN3⟩
                have HC3 := Lib.hid (HC2.out.on HOK.out hT3 hF3 hN3)
                have O3 := Lib.hid (hF3.row HPO.out U2.out)
                clear hT3 hF3 hN3 HC2 HTG o0 o1 o2 o3 o4 o5 U2
                obtain ⟨o0, o1, o2, o3, o4, o5, _⟩ := ov_cells O3.out
                go_wp2_with fail
                go_roundw
                case rel => exact ⟨k + 1, r.1, F3, A, c, L, by omega, by rw [HMW.out], rfl, by go_num, HC3, (by rw [← HZM.out]; exact HM3)⟩
                case measure => simp [intOf]; omega
          · have hq : ∀ W, (binOp .eql 56 (.agg (tdc (rmGrow m o.st o.x).2)) (.agg #[.int .u8 0, .int .u32 0])).run Try.prog W = .ok (.bool false) W := fun W => by
              have h1 : tdc (rmGrow m o.st o.x).2 = ftc (rmGrow m o.st o.x).2.toNat 3 := by unfold tdc; rw [if_neg hg]
              have h2 := ft_eql (rmGrow m o.st o.x).2.toNat 3 0 0 W
              rw [decide_eq_false (by omega : ¬ (rmGrow m o.st o.x).2.toNat = 0)] at h2
              rw [h1]
              exact h2
            obtain ⟨hM3, hmw⟩ : CrM (rmGrow m o.st o.x).1 L (k + 1) zm ∧ (rmGrow m o.st o.x).1.w = m.w := by
              by_cases hs0 : o.st = 0
              · obtain ⟨h1, _, h3⟩ := HM.out.grow0 HC2.out.ok (z' := zm) (by omega) (x := o.x) hs0
                exact ⟨h1, h3 hg⟩
              · exact HM.out.growN HC2.out.ok (by omega) hs0 hg
            have HM3 := Lib.hid hM3
            have HMW := Lib.hid hmw
            clear hM3 hmw HM hg hin
            generalize rmGrow m o.st o.x = r at *
            have HTG := Lib.hid htg
            clear htg
            go_wp2_with fail
            refine HTG.out.mono ?_
            rintro e w3 ⟨rfl, F3, hT3, hF3, hN3⟩
            have HC3 := Lib.hid (HC2.out.on HOK.out hT3 hF3 hN3)
            clear hT3 hF3 hN3 HC2 HTG o0 o1 o2 o3 o4 o5 U2
            go_wp2_with fail
            go_roundw
            case rel => exact ⟨k + 1, r.1, F3, A, c, L, by omega, by rw [HMW.out], rfl, by go_num, HC3, (by rw [← HZM.out]; exact HM3)⟩
            case measure => simp [intOf]; omega
        as_aux_lemma =>
        have e0 : (o.kd == 0) = false := beq_eq_false_iff_ne.2 k0
        have e1 : (o.kd == 1) = false := beq_eq_false_iff_ne.2 k1
        have e2 : (o.kd == 2) = false := beq_eq_false_iff_ne.2 k2
        have e3 : (o.kd == 3) = false := beq_eq_false_iff_ne.2 k3
        have HTD := Lib.hid (tdrop_any HC2.out.t HC2.out.ok HSM.out o.st)
        have HOK := Lib.hid (rmDrop_ok HC2.out.ok o.st)
        have HM3 := Lib.hid (HM.out.drop (z' := zm) (by omega) o.st)
        have hmw := rmw_same m o.st
        generalize rmDrop m o.st = m1 at *
        clear k0 k1 k2 k3 HM
        go_wp2_with fail
        refine HTD.out.mono ?_
        rintro e w3 ⟨rfl, F3, hT3, hF3, hN3⟩
        have HC3 := Lib.hid (HC2.out.on HOK.out hT3 hF3 hN3)
        clear hT3 hF3 hN3 HC2 HTD o0 o1 o2 o3 o4 o5
        go_wp2_with fail
        go_roundw
        case rel => exact ⟨k + 1, m1, F3, A, c, L, by omega, by rw [hmw], rfl, by go_num, HC3, (by rw [← HZM.out]; exact HM3)⟩
        case measure => simp [intOf]; omega
      · obtain rfl : k = O.length := by omega
        clear HM
        go_wp2_with fail
        refine (fixed13_any wr).mono ?_
        rintro e w5 ⟨rfl, hb5⟩
        have HB5 := Lib.hid (HC.out.b.trans (hb5.mono HC.out.b.size))
        clear hb5 HC
        go_wp2_with fail
        go_ret
        exact ⟨rfl, HB5.out⟩
end Go.Proofs.Ytplohgaecoobaaa

namespace Go.Proofs.Ytplohgaecoobaaa
open Go.ChangeShapes Go.WideShapes Go.ChangeAt Go.RowKit

set_option maxRecDepth 100000 in
theorem turnsCredit_lifted (os : Os) (started : os.Started) (H : Type) (enc : TypeId × Value → H) :
    ReturnsInHanded {} Try.checked os 4 .any (Rows.turnsCreditSpec.pre6 enc Try.prog Try.f4 Rows.turnsCreditRow.domain false) (Rows.turnsCreditSpec.post enc Try.prog Try.f4 false true false false) := by
  refine returnsInHanded_of_change (C := Try.checked) own started (by kernel_rfl) Try.func4
    (ChangeSpec.witness6 (enc := enc) (C := Try.checked) false ⟨#[], #[.int .i64 0, .slice none 0 0], []⟩ 8 (by kernel_rfl) (by kernel_rfl) (by kernel_rfl) (by kernel_rfl)) ?_
  intro W base args ds gs before hval0 hW hcnd _
  have hval : ∀ (j : Nat) t v, Try.f4.params[j]? = some t → args[j]? = some v → Value.okWide Try.prog W .any base t v := hval0
  have hW' := hW
  obtain ⟨p, q, hA0, hV, rfl, hfz, hnd⟩ := hW
  have hA : DataW.TrodAll enc Try.prog W 0 (fun _ => true) true Try.f4.params.toList args.toList ds p := hA0
  rw [Try.params4] at hA hval
  obtain ⟨v0, vs0, d0, ds0, p0, q0, hargs, rfl, rfl, h0, r0⟩ := trodAll_cons hA
  obtain ⟨v1, vs1, d1, ds1, p1, q1, rfl, rfl, rfl, h1, r1⟩ := trodAll_cons r0
  obtain ⟨rfl, rfl, rfl⟩ := trodAll_nil r1
  obtain rfl : args = #[v0, v1] := by cases args; simp_all
  obtain ⟨a0, rfl, rfl, rfl, w0⟩ := open_int Try.underlying2 (hval 0 2 v0 rfl rfl) h0
  obtain ⟨A1, c1, l1, rfl, hc1, hm1, hr1⟩ := open_ops13 (hval 1 22 v1 rfl rfl) h1
  refine law_post laidOut rfl (by rw [Try.params4]; intro t ht; change t ∈ [2, 22] at ht; simp only [List.mem_cons, List.not_mem_nil, or_false] at ht; rcases ht with rfl | rfl <;> exact ⟨by kernel_rfl, of_decide_eq_true (by kernel_rfl)⟩) (rb := 4) (by kernel_rfl) Try.underlying4 hW' rfl (credit_law a0 hr1.1 (by simp only [maxLen] at hm1; omega) hr1.2)

theorem turnsCredit_holds : Rows.TurnsCreditSaid :=
  OpenClaim.holds_of_wide 4 Try.f4 rfl rfl rfl rfl rfl rfl rfl ⟨rfl, rfl, rfl, rfl, rfl⟩ rfl rfl rfl rfl rfl (by kernel_rfl) Try.func4 (by kernel_rfl)
    (of_decide_eq_true (by kernel_rfl)) (by unfold Func.isWrapper; first | (rw [if_pos (by decide +kernel)]; kernel_rfl) | (rw [if_neg (by decide +kernel)]; exact ⟨rfl, rfl⟩))
    (fun os started H enc _ => turnsCredit_lifted os started H enc)
end Go.Proofs.Ytplohgaecoobaaa
