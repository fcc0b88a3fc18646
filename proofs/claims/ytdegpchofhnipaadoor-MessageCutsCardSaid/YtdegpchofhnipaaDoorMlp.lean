/-
  The frames of a message that was cut, taken one by one. Conditions: those that each theorem names.
-/
import Derived.Test.YtdegpchofhnipaaDoorMfx
namespace Go.Proofs.YtdegpchofhnipaaDoor
open Go.RowKit Go.WideShapes

/-- A slice of frames between two blocks' numbers, a gatherer apart from it. -/
structure LP (w0 : World) (g lo hi : Nat) (A : Option Addr) (L : List Pe) (x : Gg) (W : World) : Prop where
  gx : GX w0 g (fun k => lo ≤ k ∧ k < hi) x W
  el : RdS W (fun k => lo ≤ k ∧ k < hi) A (enl Pe.cs L)
  ins : ∀ e ∈ L, RdS W (fun k => lo ≤ k ∧ k < hi) e.A (byc e.p.dat)
  top : hi ≤ W.heap.size
  ok : ∀ e ∈ L, PeN e
section
variable {w0 W W' : World} {g lo hi : Nat} {A : Option Addr} {L : List Pe} {x : Gg} {X : Nat → Prop}
theorem LP.below (h : LP w0 g lo hi A L x W) (hb : Below W.heap.size W W') : LP w0 g lo hi A L x W' :=
  ⟨h.gx.below hb, RdS.keep h.el fun k hk => hb.block k (Nat.lt_of_lt_of_le hk.2 h.top), fun e he => RdS.keep (h.ins e he) fun k hk => hb.block k (Nat.lt_of_lt_of_le hk.2 h.top), Nat.le_trans h.top hb.size, h.ok⟩
/-- Behind Cut. -/
theorem LP.start {c : Nat} (h : GX w0 g X x W) (hb : Below W.heap.size W W') (hp : PL W' W.heap.size (fun k => k < W.heap.size) (.slice A L.length c) L) (hok : ∀ e ∈ L, PeN e) : LP w0 g W.heap.size W'.heap.size A L x W' :=
  ⟨(h.made hb).sub fun _ _ hk => .inr hk, (OwS.reads hp.own).imp fun k hk _ => OwS.lt hp.own k hk, fun e he => (hp.ins e he).imp fun _ hk _ => ⟨Nat.le_of_not_lt hk.2.2, hk.1⟩, Nat.le_refl _, hok⟩
/-- Element number i. -/
theorem LP.at_ (h : LP w0 g lo hi A L x W) {i : Nat} (hi' : i < L.length) : ∃ b q, A = some ⟨b, q, none⟩ ∧ b < W.heap.size ∧ W.rangeAt b (q + i * 5) (pcA L[i].p L[i].A L[i].c).toList := by
  obtain ⟨b, q, e, hb, hr⟩ := pe_at h.el hi'
  exact ⟨b, q, e, Nat.lt_of_lt_of_le hb.2 h.top, hr⟩
/-- What Take of one of them comes to. -/
def TakeL (w0 : World) (g lo hi : Nat) (A : Option Addr) (L : List Pe) (W : World) (r : Gg × Option Nt) (e : Ending) (W' : World) : Prop :=
  ∃ A' c', e = .returned (.tuple #[.agg (ntc (toldM r.2).kind (toldM r.2).text A' (toldM r.2).dat.length c' (toldM r.2).code), .bool r.2.isSome]) ∧ RdB W' W'.heap.size A' (toldM r.2).dat ∧ LP w0 g lo hi A L r.1 W' ∧ OddM W W'
theorem LP.take (h : LP w0 g lo hi A L x W) {i : Nat} (hi' : i < L.length) (hl : L[i].p.dat.length ≤ 100000) :
    Calls Tryd.prog 12 #[.pointer (some ⟨g, 0, none⟩), .agg (pcA L[i].p L[i].A L[i].c)] W (TakeL w0 g lo hi A L W (takeM x L[i].p.op L[i].p.fin L[i].p.dat)) := by
  have he := List.getElem_mem hi'
  refine (h.gx.take (fin := L[i].p.fin) (mask := L[i].p.mask) (op := L[i].p.op) (key := L[i].p.key) (c := L[i].c) ((h.ins _ he).imp fun k hk hl => ⟨hl, .inr hk⟩) (fun k hk => Nat.lt_of_lt_of_le hk.2 h.top) hl (h.ok _ he).2.2).mono ?_
  rintro e W' ⟨A', c', rfl, hO, _, hX, hk, ho, hs⟩
  exact ⟨A', c', rfl, Bo.reads hO, ⟨hX.sub fun k _ hk => .inl hk, RdS.keep h.el hk, fun e he => RdS.keep (h.ins e he) hk, Nat.le_trans h.top hs, h.ok⟩, ho⟩
end
/-! ### A message that may be too great -/
def stG (l : List (Nat × Bool × List UInt8)) (i : Nat) : Gg := if 4096 < (catM (l.take i)).length then ggX else if i = 0 ∨ i = l.length then gg0 else ⟨catM (l.take i), true, false, false⟩
def ouG (l : List (Nat × Bool × List UInt8)) (b : List UInt8) (i : Nat) : Option Nt := if 4096 < (catM (l.take i)).length then none else if 4096 < (catM (l.take (i + 1))).length then some ⟨5, false, 1009, []⟩ else if i + 1 = l.length then some ⟨1, false, 0, b⟩ else none
theorem great_step {n : Nat} {b : List UInt8} {l : List (Nat × Bool × List UInt8)} (h : CutM n 2 b l) {i : Nat} (hi : i < l.length) : takeM (stG l i) l[i].1 l[i].2.1 l[i].2.2 = (stG l (i + 1), ouG l b i) := by
  obtain ⟨e1, e2, _⟩ := h.get i hi
  have hs := catM_snoc l hi
  have hl : (catM (l.take (i + 1))).length = (catM (l.take i)).length + l[i].2.2.length := by rw [hs, List.length_append]
  unfold ouG
  by_cases hg : 4096 < (catM (l.take i)).length
  · have h1 : stG l i = ggX := if_pos hg
    have h2 : stG l (i + 1) = ggX := if_pos (by omega)
    rw [h1, h2, if_pos hg, take_over rfl]
  · rw [if_neg hg]
    have hm : takeM (stG l i) l[i].1 l[i].2.1 l[i].2.2 = moreM false (catM (l.take (i + 1))) (decide (i + 1 = l.length)) := by
      rw [e1, e2]
      by_cases h0 : i = 0
      · subst h0
        have h1 : stG l 0 = gg0 := by unfold stG; rw [if_neg hg, if_pos (.inl rfl)]
        rw [h1, if_pos rfl, hs]
        exact (take_first (g := gg0) ⟨rfl, rfl⟩ false _ _).trans (by simp [catM])
      · have h1 : stG l i = ⟨catM (l.take i), true, false, false⟩ := by unfold stG; rw [if_neg hg, if_neg (by omega)]
        rw [h1, if_neg h0, hs]
        exact take_nextM false _ _
    rw [hm]
    by_cases hn : 4096 < (catM (l.take (i + 1))).length
    · rw [if_pos hn, more_great hn]
      have h2 : stG l (i + 1) = ggX := if_pos hn
      rw [h2]
      rfl
    · rw [if_neg hn, more_plain (by omega)]
      by_cases he : i + 1 = l.length
      · have h2 : stG l (i + 1) = gg0 := by unfold stG; rw [if_neg hn, if_pos (.inr he)]
        have hc : catM (l.take (i + 1)) = b := by rw [he, List.take_length]; exact h.cat.1
        rw [h2, if_pos (decide_eq_true he), if_pos he, hc]
      · have h2 : stG l (i + 1) = ⟨catM (l.take (i + 1)), true, false, false⟩ := by unfold stG; rw [if_neg hn, if_neg (by omega)]
        rw [h2, if_neg (by simpa using he), if_neg he]
theorem catM_take_le (l : List (Nat × Bool × List UInt8)) (i : Nat) : (catM (l.take i)).length ≤ (catM l).length := by
  rw [← catM_split l i, List.length_append]
  omega
end Go.Proofs.YtdegpchofhnipaaDoor
