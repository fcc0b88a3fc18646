/-
  step, whatever the operation, by contract; how much a ring holds. Conditions: the rings are the model's; the operation's bytes are read.
-/
import Derived.Test.YtplohgaecoobaaaUs4
import Derived.Test.YtplohgaecoobaaaUs1
namespace Go.Proofs.Ytplohgaecoobaaa
open Go.RowKit Go.WideShapes

/-- The ring behind an operation. -/
def stM (m : Rm) (o : Ov) : Rm :=
  if o.kd = 0 then (rmOpen m o.st o.n).1 else if o.kd = 1 then (rmPut m o.st o.b o.en).1 else if o.kd = 2 then nxM m o.n
  else if o.kd = 3 then (rmGrow m o.st o.x).1 else if o.kd = 4 then (rmShift m ((o.y : Int) - o.x)).1 else rmDrop m o.st
theorem step_any {w : World} {F : Nat → Prop} {g : Nat} {m : Rm} {A : Option Addr} {c : Nat} (hT : Tr w F g m) (hm : m.Ok) (hs : m.Sm) (hR : RgS w (fun b => ¬ F b) A c (rot m.l m.t)) (o : Ov) (hD : RdB w w.heap.size o.A o.b) (hbl : o.b.length ≤ 9000) :
    Calls Try.prog 12 #[.pointer (some ⟨g, 0, none⟩), .agg (rrc A m.l.length c m.t m.w), .agg (ovc o)] w (StP w F g (stM m o)) := by
  unfold stM
  split
  · rename_i h; exact step_open hT hm hs hR o h
  · split
    · rename_i h; exact step_put hT hm hs hR o h hD hbl
    · split
      · rename_i h; exact step_next hT hm hs hR o h
      · split
        · rename_i h; exact step_grow hT hm hs hR o h
        · split
          · rename_i h; exact step_shift hT hm hs hR o h
          · exact step_drop hT hm hs hR o ⟨by assumption, by assumption, by assumption, by assumption, by assumption⟩
theorem nxM_ok {m : Rm} (hm : m.Ok) (most : Int) : (nxM m most).Ok := by
  unfold nxM
  cases hr : rmNext m most with
  | none => exact hm
  | some r =>
    obtain ⟨x, N, m'⟩ := r
    obtain ⟨k, hs⟩ := rmNext_sends hm hr
    exact hs.ok hm
theorem stM_ok {m : Rm} (hm : m.Ok) (o : Ov) : (stM m o).Ok := by
  unfold stM
  repeat' split
  · exact rmOpen_ok hm o.st o.hst o.n
  · exact rmPut_ok hm o.st o.b o.en
  · exact nxM_ok hm o.n
  · exact rmGrow_ok hm o.st o.x
  · exact rmShift_ok hm _
  · exact rmDrop_ok hm o.st
theorem allN_append : ∀ (l r : List Sn), allN (l ++ r) = allN l + allN r
  | [], r => by simp [allN]
  | x :: l, r => by rw [List.cons_append, allN, allN, allN_append l r]; omega
theorem allN_at {l : List Sn} {k : Nat} {x : Sn} (h : l[k]? = some x) : allN l = allN (l.take k) + x.b.length + allN (l.drop (k + 1)) := by
  obtain ⟨hk, hx⟩ := List.getElem?_eq_some_iff.1 h
  have e : l = l.take k ++ (x :: l.drop (k + 1)) := by
    rw [← hx, ← List.drop_eq_getElem_cons hk, List.take_append_drop]
  conv => lhs; rw [e]
  rw [allN_append, allN]
  omega
theorem allN_set {l : List Sn} {k : Nat} {x : Sn} (h : l[k]? = some x) (y : Sn) : allN (l.set k y) + x.b.length = allN l + y.b.length := by
  obtain ⟨hk, hx⟩ := List.getElem?_eq_some_iff.1 h
  have h1 : (l.set k y)[k]? = some y := by rw [List.getElem?_set, if_pos rfl, if_pos hk]
  have h2 := allN_at h1
  rw [allN_at h, h2, List.take_set_of_le (Nat.le_refl _), List.drop_set_of_lt (by omega)]
  omega
theorem allN_mem {l : List Sn} {x : Sn} (h : x ∈ l) : x.b.length ≤ allN l := by
  obtain ⟨k, hk, rfl⟩ := List.getElem_of_mem h
  have := allN_at (List.getElem?_eq_getElem hk)
  omega
theorem allN_shL (d : Int) : ∀ l : List Sn, allN (shL d l).1 = allN l
  | [] => rfl
  | x :: r => by
    unfold shL
    split
    · rfl
    · show x.b.length + allN (shL d r).1 = x.b.length + allN r
      rw [allN_shL d r]
/-- How much a ring holds. -/
def allB (m : Rm) : Nat := m.l.length + allN m.l
theorem allB_sm {m : Rm} (h : allB m ≤ 9000) (h2 : m.l.length ≤ 1000) : m.Sm := ⟨h2, fun x hx => by have := allN_mem hx; unfold allB at h; omega⟩
theorem allB_open (m : Rm) (s : Nat) (lf : Int) : allB (rmOpen m s lf).1 ≤ allB m + 1 ∧ (rmOpen m s lf).1.l.length ≤ m.l.length + 1 := by
  unfold rmOpen allB
  split
  · exact ⟨by dsimp only; omega, by dsimp only; omega⟩
  · refine ⟨?_, ?_⟩
    · show (m.l ++ [_]).length + allN (m.l ++ [_]) ≤ _
      rw [allN_append, List.length_append, List.length_singleton]
      show _ + (allN m.l + (([] : List UInt8).length + 0)) ≤ _
      simp
      omega
    · show (m.l ++ [_]).length ≤ _
      simp
theorem allB_put (m : Rm) (s : Nat) (b : List UInt8) (en : Bool) : allB (rmPut m s b en).1 ≤ allB m + b.length ∧ (rmPut m s b en).1.l.length = m.l.length := by
  unfold rmPut allB
  cases hx : m.l[fd s m.l]? with
  | none => exact ⟨by dsimp only; omega, rfl⟩
  | some x =>
    dsimp only
    split
    · exact ⟨by dsimp only; omega, rfl⟩
    · have := allN_set hx { x with b := x.b ++ b, en := en }
      refine ⟨?_, List.length_set⟩
      show (m.l.set _ _).length + allN (m.l.set _ _) ≤ _
      rw [List.length_set]
      simp only [List.length_append] at this
      omega
theorem allB_grow (m : Rm) (s n : Nat) : allB (rmGrow m s n).1 = allB m ∧ (rmGrow m s n).1.l.length = m.l.length := by
  unfold rmGrow allB
  split
  · exact ⟨rfl, rfl⟩
  · cases hx : m.l[fd s m.l]? with
    | none => exact ⟨rfl, rfl⟩
    | some x =>
      have := allN_set hx { x with lf := gwN x.lf n }
      refine ⟨?_, List.length_set⟩
      show (m.l.set _ _).length + allN (m.l.set _ _) = _
      rw [List.length_set]
      simp only at this
      omega
theorem allB_shift (m : Rm) (d : Int) : allB (rmShift m d).1 = allB m ∧ (rmShift m d).1.l.length = m.l.length := by
  unfold rmShift allB
  exact ⟨by show (shL d m.l).1.length + allN (shL d m.l).1 = _; rw [shL_len, allN_shL], shL_len d m.l⟩
theorem allB_drop (m : Rm) (s : Nat) : allB (rmDrop m s) ≤ allB m ∧ (rmDrop m s).l.length ≤ m.l.length := by
  unfold rmDrop allB
  split
  · rename_i h
    have h1 := allN_at (List.getElem?_eq_getElem h)
    have h2 := ers_len h
    refine ⟨?_, ?_⟩
    · show (m.l.take _ ++ m.l.drop _).length + allN (m.l.take _ ++ m.l.drop _) ≤ _
      rw [allN_append]
      omega
    · show (m.l.take _ ++ m.l.drop _).length ≤ _
      omega
  · exact ⟨Nat.le_refl _, Nat.le_refl _⟩
theorem allB_next {m : Rm} (hm : m.Ok) (most : Int) : allB (nxM m most) ≤ allB m ∧ (nxM m most).l.length = m.l.length := by
  unfold nxM allB
  cases hr : rmNext m most with
  | none => exact ⟨Nat.le_refl _, rfl⟩
  | some r =>
    obtain ⟨x, N, m'⟩ := r
    obtain ⟨k, hs⟩ := rmNext_sends hm hr
    have := allN_set hs.at_ (snY N x)
    have h2 : (snY N x).b.length ≤ x.b.length := by
      show (x.b.drop N).length ≤ _
      simp
    dsimp only
    rw [hs.eq]
    refine ⟨?_, List.length_set⟩
    show (m.l.set _ _).length + allN (m.l.set _ _) ≤ _
    rw [List.length_set]
    omega
theorem allB_st {m : Rm} (hm : m.Ok) (o : Ov) : allB (stM m o) ≤ allB m + 1 + o.b.length ∧ (stM m o).l.length ≤ m.l.length + 1 := by
  unfold stM
  repeat' split
  · have := allB_open m o.st o.n; omega
  · have := allB_put m o.st o.b o.en; omega
  · have := allB_next hm o.n; omega
  · have := allB_grow m o.st o.x; omega
  · have := allB_shift m ((o.y : Int) - o.x); omega
  · have := allB_drop m o.st; omega
end Go.Proofs.Ytplohgaecoobaaa
