/-
  A ring's operations as functions of a model: what they keep. No conditions but those that each theorem names.
-/
import Derived.Test.YtplohgaecoobaaaUrm
namespace Go.Proofs.Ytplohgaecoobaaa

/-- The numbers. -/
def sts (l : List Sn) : List Nat := l.map (·.st)
theorem sts_at (l : List Sn) (i : Nat) : (sts l)[i]? = (l[i]?).map (·.st) := by simp [sts]
theorem Uniq.of_sts {l l' : List Sn} (h : Uniq l) (he : sts l' = sts l) : Uniq l' := by
  intro i j x y hi hj hs
  have h1 := sts_at l i
  have h2 := sts_at l j
  rw [← he, sts_at, hi] at h1
  rw [← he, sts_at, hj] at h2
  cases hx : l[i]? with
  | none => rw [hx] at h1; cases h1
  | some a =>
    cases hy : l[j]? with
    | none => rw [hy] at h2; cases h2
    | some b =>
      rw [hx] at h1
      rw [hy] at h2
      have e1 : x.st = a.st := Option.some.inj h1
      have e2 : y.st = b.st := Option.some.inj h2
      exact h i j a b hx hy (by rw [← e1, ← e2]; exact hs)
theorem fd_sts (s : Nat) : ∀ {l l' : List Sn}, sts l' = sts l → fd s l' = fd s l
  | [], [], _ => rfl
  | [], _ :: _, h => by simp [sts] at h
  | _ :: _, [], h => by simp [sts] at h
  | x :: l, y :: l', h => by
    have h1 : y.st = x.st ∧ sts l' = sts l := by simpa [sts] using h
    rw [fd, fd, h1.1, fd_sts s h1.2]
theorem sts_len {l l' : List Sn} (h : sts l' = sts l) : l'.length = l.length := by
  have := congrArg List.length h
  simpa [sts] using this
theorem sts_set {l : List Sn} {k : Nat} {x y : Sn} (hk : l[k]? = some x) (hs : y.st = x.st) : sts (l.set k y) = sts l := by
  apply List.ext_getElem?
  intro i
  rw [sts_at, sts_at, List.getElem?_set]
  by_cases he : k = i
  · subst he
    rw [if_pos rfl, hk, if_pos (List.getElem?_eq_some_iff.1 hk).1]
    show some y.st = some x.st
    rw [hs]
  · rw [if_neg he]
theorem sts_shL (d : Int) : ∀ l : List Sn, sts (shL d l).1 = sts l
  | [] => rfl
  | x :: r => by
    unfold shL
    split
    · rfl
    · show x.st :: sts (shL d r).1 = x.st :: sts r
      rw [sts_shL d r]
theorem st_mem {l l' : List Sn} (h : sts l' = sts l) {P : Nat → Prop} (hp : ∀ x ∈ l, P x.st) : ∀ x ∈ l', P x.st := by
  intro x hx
  have h1 : x.st ∈ sts l' := List.mem_map.2 ⟨x, hx, rfl⟩
  rw [h] at h1
  obtain ⟨y, hy, he⟩ := List.mem_map.1 h1
  rw [← he]
  exact hp y hy
theorem ers_at {l : List Sn} {k : Nat} (hk : k < l.length) (i : Nat) : (l.take k ++ l.drop (k + 1))[i]? = if i < k then l[i]? else l[i + 1]? := by
  rw [List.getElem?_append]
  simp only [List.length_take, Nat.min_eq_left (Nat.le_of_lt hk), List.getElem?_take, List.getElem?_drop]
  split
  · rfl
  · congr 1
    omega
theorem Uniq.ers {l : List Sn} (h : Uniq l) {k : Nat} (hk : k < l.length) : Uniq (l.take k ++ l.drop (k + 1)) := by
  intro i j x y hi hj hs
  rw [ers_at hk] at hi hj
  split at hi <;> split at hj
  · exact h _ _ _ _ hi hj hs
  · have := h _ _ _ _ hi hj hs; omega
  · have := h _ _ _ _ hi hj hs; omega
  · have := h _ _ _ _ hi hj hs; omega
theorem ers_mem {l : List Sn} {k : Nat} {x : Sn} (h : x ∈ l.take k ++ l.drop (k + 1)) : x ∈ l := by
  rcases List.mem_append.1 h with h | h
  · exact List.mem_of_mem_take h
  · exact List.mem_of_mem_drop h
theorem ers_len {l : List Sn} {k : Nat} (hk : k < l.length) : (l.take k ++ l.drop (k + 1)).length + 1 = l.length := by
  simp only [List.length_append, List.length_take, List.length_drop]
  omega
theorem Uniq.snoc {l : List Sn} (h : Uniq l) {y : Sn} (hn : ¬ fd y.st l < l.length) : Uniq (l ++ [y]) := by
  have hno : ∀ (i : Nat) (x : Sn), l[i]? = some x → x.st ≠ y.st := fun i x hi he => by
    have h1 := fd_iff h hi he
    have h2 := (List.getElem?_eq_some_iff.1 hi).1
    omega
  intro i j a b hi hj hs
  rw [List.getElem?_append] at hi hj
  split at hi <;> split at hj
  · exact h _ _ _ _ hi hj hs
  · rename_i h1 h2
    have hb : b = y := by
      rw [List.getElem?_singleton] at hj
      split at hj
      · exact (Option.some.inj hj).symm
      · cases hj
    subst hb
    exact absurd hs (hno _ _ hi)
  · rename_i h1 h2
    have ha : a = y := by
      rw [List.getElem?_singleton] at hi
      split at hi
      · exact (Option.some.inj hi).symm
      · cases hi
    subst ha
    exact absurd hs.symm (hno _ _ hj)
  · rename_i h1 h2
    rw [List.getElem?_singleton] at hi hj
    split at hi
    · split at hj
      · omega
      · cases hj
    · cases hi
theorem set_mem {l : List Sn} {k : Nat} {y x : Sn} (h : x ∈ l.set k y) : x = y ∨ x ∈ l := by
  rcases List.mem_or_eq_of_mem_set h with h | h
  · exact .inr h
  · exact .inl h
/-- A ring with another stream of the same number at a place. -/
theorem Rm.Ok.set {m : Rm} (hm : m.Ok) {k : Nat} {x y : Sn} (hk : m.l[k]? = some x) (hs : y.st = x.st) (hl : -2147483648 ≤ y.lf ∧ y.lf ≤ 2147483647) : Rm.Ok ⟨m.l.set k y, m.t, m.w⟩ := by
  have e := sts_set hk hs
  refine ⟨hm.uq.of_sts e, ?_, ?_, hm.wn, ?_⟩
  · show m.t < (m.l.set k y).length ∨ m.l.set k y = [] ∧ m.t = 0
    have h1 := (List.getElem?_eq_some_iff.1 hk).1
    rw [List.length_set]
    exact .inl (hm.lt (by omega))
  · exact hm.lf.set k hl
  · exact st_mem (P := fun s => 0 < s ∧ s < 4294967296) e hm.st
theorem rmOpen_ok {m : Rm} (hm : m.Ok) (s : Nat) (hs : s < 4294967296) (lf : Int) : (rmOpen m s lf).1.Ok := by
  unfold rmOpen
  split
  · exact hm
  · rename_i h
    refine ⟨hm.uq.snoc (y := ⟨s, [], false, false, btw lf⟩) (fun h1 => h (.inr h1)), ?_, ?_, hm.wn, ?_⟩
    · show m.t < (m.l ++ [_]).length ∨ _
      rw [List.length_append, List.length_singleton]
      have := hm.le
      exact .inl (by omega)
    · intro x hx
      rcases List.mem_append.1 hx with h1 | h1
      · exact hm.lf x h1
      · rw [List.mem_singleton] at h1
        subst h1
        exact btw_in lf
    · intro x hx
      rcases List.mem_append.1 hx with h1 | h1
      · exact hm.st x h1
      · rw [List.mem_singleton] at h1
        subst h1
        exact ⟨by show 0 < s; have : s ≠ 0 := fun e => h (.inl e); omega, hs⟩
theorem rmPut_ok {m : Rm} (hm : m.Ok) (s : Nat) (b : List UInt8) (en : Bool) : (rmPut m s b en).1.Ok := by
  unfold rmPut
  cases hx : m.l[fd s m.l]? with
  | none => exact hm
  | some x =>
    dsimp only
    split
    · exact hm
    · obtain ⟨hi, hxe⟩ := at_of hx
      exact hm.set hx rfl (hm.lf x (by rw [← hxe]; exact List.getElem_mem hi))
theorem rmGrow_ok {m : Rm} (hm : m.Ok) (s n : Nat) : (rmGrow m s n).1.Ok := by
  unfold rmGrow
  split
  · exact ⟨hm.uq, hm.tn, hm.lf, gwN_in hm.wn, hm.st⟩
  · cases hx : m.l[fd s m.l]? with
    | none => exact hm
    | some x =>
      obtain ⟨hi, hxe⟩ := at_of hx
      exact hm.set hx rfl (gwN_in (hm.lf x (by rw [← hxe]; exact List.getElem_mem hi)))
theorem shL_lf (d : Int) : ∀ {l : List Sn}, LfOk l → LfOk (shL d l).1
  | [], h => h
  | x :: r, h => by
    unfold shL
    split
    · exact h
    · intro y hy
      rcases List.mem_cons.1 hy with rfl | hy
      · exact gwN_in (h x (List.mem_cons_self ..))
      · exact shL_lf d (fun z hz => h z (List.mem_cons_of_mem _ hz)) y hy
theorem rmShift_ok {m : Rm} (hm : m.Ok) (d : Int) : (rmShift m d).1.Ok := by
  unfold rmShift
  have e := sts_shL d m.l
  have hl := sts_len e
  refine ⟨hm.uq.of_sts e, ?_, shL_lf d hm.lf, hm.wn, st_mem (P := fun s => 0 < s ∧ s < 4294967296) e hm.st⟩
  show m.t < (shL d m.l).1.length ∨ (shL d m.l).1 = [] ∧ m.t = 0
  rcases hm.tn with h | ⟨h1, h2⟩
  · exact .inl (by omega)
  · exact .inr ⟨by rw [h1]; rfl, h2⟩
theorem rmDrop_ok {m : Rm} (hm : m.Ok) (s : Nat) : (rmDrop m s).Ok := by
  unfold rmDrop
  split
  · rename_i hi
    have hlen := ers_len hi
    have ht := hm.lt (by omega)
    refine ⟨hm.uq.ers hi, ?_, fun x hx => hm.lf x (ers_mem hx), hm.wn, fun x hx => hm.st x (ers_mem hx)⟩
    show drT m.l.length m.t (fd s m.l) < _ ∨ _ = [] ∧ drT m.l.length m.t (fd s m.l) = 0
    by_cases h0 : (m.l.take (fd s m.l) ++ m.l.drop (fd s m.l + 1)).length = 0
    · right
      refine ⟨List.eq_nil_of_length_eq_zero h0, ?_⟩
      unfold drT
      rw [if_neg (by omega), if_pos (by omega)]
    · left
      show drT m.l.length m.t (fd s m.l) < (m.l.take (fd s m.l) ++ m.l.drop (fd s m.l + 1)).length
      unfold drT
      split
      · omega
      · split <;> omega
  · exact hm
theorem rmNext_some {m : Rm} {most : Int} {x : Sn} {N : Nat} {m' : Rm} (h : rmNext m most = some (x, N, m')) :
    ∃ i, i = fc m.w (rot m.l m.t) ∧ (rot m.l m.t)[i]? = some x ∧ N = snN m.w most x ∧ m' = ⟨m.l.set ((m.t + i) % m.l.length) (snY N x), ((m.t + i) % m.l.length + 1) % m.l.length, m.w - N⟩ := by
  unfold rmNext at h
  cases hx : (rot m.l m.t)[fc m.w (rot m.l m.t)]? with
  | none => rw [hx] at h; cases h
  | some y =>
    rw [hx] at h
    have h1 := Option.some.inj h
    injection h1 with h1 h2
    injection h2 with h2 h3
    subst h1 h2 h3
    exact ⟨_, rfl, hx, rfl, rfl⟩
theorem fc_can {l : Int} : ∀ {L : List Sn} {x : Sn}, L[fc l L]? = some x → can l x = true
  | y :: L, x, h => by
    by_cases hy : can l y = true
    · have e : fc l (y :: L) = 0 := by rw [fc, if_pos hy]
      rw [e] at h
      have h1 : y = x := Option.some.inj h
      rw [← h1]; exact hy
    · have e : fc l (y :: L) = fc l L + 1 := by rw [fc, if_neg hy]
      rw [e, List.getElem?_cons_succ] at h
      exact fc_can h
/-- What is known of the one that sends. -/
structure Sends (m : Rm) (most : Int) (x : Sn) (N k : Nat) (m' : Rm) : Prop where
  at_ : m.l[k]? = some x
  cn : can m.w x = true
  n : N = snN m.w most x
  eq : m' = ⟨m.l.set k (snY N x), (k + 1) % m.l.length, m.w - N⟩
  le : N ≤ x.b.length
  lf : N ≠ 0 → (N : Int) ≤ x.lf ∧ (N : Int) ≤ m.w
theorem rmNext_sends {m : Rm} (hm : m.Ok) {most : Int} {x : Sn} {N : Nat} {m' : Rm} (h : rmNext m most = some (x, N, m')) : ∃ k, Sends m most x N k m' := by
  obtain ⟨i, hi, hx, hN, hm'⟩ := rmNext_some h
  have hil : i < m.l.length := by rw [← rot_len m.l m.t]; exact (List.getElem?_eq_some_iff.1 hx).1
  have ht := hm.lt (by omega)
  obtain ⟨k, hk, hrk, hke⟩ := rp_inv ht hil
  rw [← hke] at hm'
  have hkx : m.l[k]? = some x := by rw [← rot_rp ht hk, hrk]; exact hx
  have hc : can m.w x = true := by rw [hi] at hx; exact fc_can hx
  have ho := snN_or (most := most) hc
  rw [← hN] at ho
  refine ⟨k, hkx, hc, hN, hm', by rw [hN]; exact snN_le hc, fun h0 => ?_⟩
  rcases ho with ⟨_, h1⟩ | ⟨_, h1, h2⟩
  · exact absurd h1 h0
  · omega
theorem Sends.ok {m : Rm} (hm : m.Ok) {most : Int} {x : Sn} {N k : Nat} {m' : Rm} (h : Sends m most x N k m') : m'.Ok := by
  obtain ⟨hkl, hkx⟩ := List.getElem?_eq_some_iff.1 h.at_
  have hx := hm.lf x (by rw [← hkx]; exact List.getElem_mem hkl)
  have h1 := h.lf
  have h2 := hm.set h.at_ (y := snY N x) rfl (by
    show -2147483648 ≤ x.lf - N ∧ x.lf - N ≤ 2147483647
    by_cases h0 : N = 0
    · rw [h0]; omega
    · have := h1 h0; omega)
  rw [h.eq]
  refine ⟨h2.uq, ?_, h2.lf, ?_, h2.st⟩
  · left
    show (k + 1) % m.l.length < (m.l.set k _).length
    rw [List.length_set]
    exact Nat.mod_lt _ (by omega)
  · show -2147483648 ≤ m.w - N ∧ m.w - N ≤ 2147483647
    have := hm.wn
    by_cases h0 : N = 0
    · rw [h0]; omega
    · have := h1 h0; omega
end Go.Proofs.Ytplohgaecoobaaa
