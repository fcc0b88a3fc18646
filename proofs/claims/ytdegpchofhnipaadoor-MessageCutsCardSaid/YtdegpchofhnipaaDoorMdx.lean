/-
  On the way through a law: a gatherer, by what it holds, with what it leaves alone. Conditions: those that each theorem names.
-/
import Derived.Test.YtdegpchofhnipaaDoorMtt
import Derived.Test.YtdegpchofhnipaaDoorMcu
namespace Go.Proofs.YtdegpchofhnipaaDoor
open Go.RowKit Go.WideShapes

/-- Rows of other types than those that a gatherer lies in stay. -/
def OddM (W W' : World) : Prop := ∀ (k : Nat) (T : TypeId) (cs : Array Value), Row W k T cs → T ≠ 56 → T ≠ 5 → T ≠ 93 → Row W' k T cs
theorem OddM.of_below {W W' : World} (h : Below W.heap.size W W') : OddM W W' := fun _ _ _ hr _ _ _ => hr.upM h
theorem OddM.trans {W W' W'' : World} (h : OddM W W') (h' : OddM W' W'') : OddM W W'' := fun k T cs hr h1 h2 h3 => h' k T cs (h k T cs hr h1 h2 h3) h1 h2 h3
/-- A gatherer made behind world w0, apart from the blocks X. -/
def GX (w0 : World) (g : Nat) (X : Nat → Prop) (x : Gg) (W : World) : Prop := ∃ v t, Mg W w0.heap.size g v t x ∧ (∀ k, mgS g v t k → ¬ X k) ∧ Below w0.heap.size w0 W ∧ GlobE W
/-- What Take comes to here. -/
def TakeX (w0 : World) (g : Nat) (X : Nat → Prop) (W : World) (r : Gg × Option Nt) (e : Ending) (W' : World) : Prop :=
  ∃ A c, e = .returned (.tuple #[.agg (ntc (toldM r.2).kind (toldM r.2).text A (toldM r.2).dat.length c (toldM r.2).code), .bool r.2.isSome]) ∧ Bo W' w0.heap.size 5 (.slice A (toldM r.2).dat.length c) (toldM r.2).dat ∧ (∀ k, ob (.slice A (toldM r.2).dat.length c) k → ¬ X k) ∧
    GX w0 g (fun k => X k ∨ ob (.slice A (toldM r.2).dat.length c) k) r.1 W' ∧ (∀ k, X k → W'.heap[k]? = W.heap[k]?) ∧ OddM W W' ∧ W.heap.size ≤ W'.heap.size
section
variable {w0 W W' : World} {g : Nat} {X X' : Nat → Prop} {x : Gg}
theorem GX.bl (h : GX w0 g X x W) : Below w0.heap.size w0 W := by obtain ⟨_, _, _, _, h, _⟩ := h; exact h
theorem GX.gl (h : GX w0 g X x W) : GlobE W := by obtain ⟨_, _, _, _, _, h⟩ := h; exact h
theorem GX.lt (h : GX w0 g X x W) : w0.heap.size ≤ g ∧ g < W.heap.size := by
  obtain ⟨v, t, h, _⟩ := h
  exact ⟨h.lo.2, h.row.lt⟩
theorem GX.sub (h : GX w0 g X x W) (hX : ∀ k, k < W.heap.size → X' k → X k) : GX w0 g X' x W := by
  obtain ⟨v, t, h1, h2, h3, h4⟩ := h
  exact ⟨v, t, h1, fun k hk hx => h2 k hk (hX k (h1.lts hk).2 hx), h3, h4⟩
/-- New blocks are apart. -/
theorem GX.new (h : GX w0 g X x W) : GX w0 g (fun k => X k ∨ W.heap.size ≤ k) x W := by
  obtain ⟨v, t, h1, h2, h3, h4⟩ := h
  exact ⟨v, t, h1, fun k hk hx => hx.elim (h2 k hk) fun h => by have := (h1.lts hk).2; omega, h3, h4⟩
theorem GX.below (h : GX w0 g X x W) (hb : Below W.heap.size W W') : GX w0 g X x W' := by
  obtain ⟨v, t, h1, h2, h3, h4⟩ := h
  exact ⟨v, t, h1.below hb, h2, h3.trans (hb.mono h3.size), h4.below hb⟩
/-- A step that turns blocks of X, behind w0, alone. -/
theorem GX.fs {S : Nat → Prop} (h : GX w0 g X x W) (hf : Fs S W W') (hS : ∀ k, k < W.heap.size → S k → X k) (h0 : ∀ k, S k → w0.heap.size ≤ k) : GX w0 g X x W' := by
  obtain ⟨v, t, h1, h2, h3, h4⟩ := h
  refine ⟨v, t, h1.fs hf fun k hk hs => h2 k hk (hS k (h1.lts hk).2 hs), h2, h3.trans (hf.below (fun k hk _ => h0 k hk) h3.size), h4.fsM hf fun hs => ?_⟩
  have := h0 _ hs
  have := h1.lo.1
  omega
theorem GX.drewN (h : GX w0 g X x W) (n : Nat) : GX w0 g X x (W.drewN n) := by
  obtain ⟨v, t, h1, h2, h3, h4⟩ := h
  exact ⟨v, t, h1.keep fun _ _ => rfl, h2, below_dN h3 n, h4⟩
theorem GX.drew (h : GX w0 g X x W) : GX w0 g X x W.drew := h.drewN 1
theorem GX.odd (h : GX w0 g X x W) {k : Nat} {T : TypeId} {cs : Array Value} (hr : Row W k T cs) (h1 : T ≠ 56) (h2 : T ≠ 5) (h3 : T ≠ 93) : GX w0 g (fun j => X j ∨ j = k) x W := by
  obtain ⟨v, t, hm, hx, h4⟩ := h
  exact ⟨v, t, hm, fun j hj hk => hk.elim (hx j hj) fun e => hm.odd hr h1 h2 h3 (e ▸ hj), h4⟩
theorem GX.start (hb : Below w0.heap.size w0 W) (hm : Mg W' W.heap.size W.heap.size (.slice none 0 0) none gg0) (hb2 : Below W.heap.size W W') (hG : GlobE w0) : GX w0 W.heap.size (fun k => k < W.heap.size) gg0 W' :=
  ⟨.slice none 0 0, none, ⟨hm.row, OwS.mono hm.own hb.size, hm.chk, hm.len, ⟨blk_lt hG, hb.size⟩, hm.idle, hm.ov⟩, (fun k hk hx => by
    have hx : k < W.heap.size := hx
    rcases hk with hk | hk | hk
    · omega
    · cases hk
    · cases hk), hb.trans (hb2.mono hb.size), (hG.below hb).below hb2⟩
/-- What was made meanwhile is apart. -/
theorem GX.made (h : GX w0 g X x W) (hb : Below W.heap.size W W') : GX w0 g (fun k => X k ∨ (W.heap.size ≤ k ∧ k < W'.heap.size)) x W' := (h.new.below hb).sub fun _ _ hx => hx.imp id fun h => h.1
theorem GX.held (h : GX w0 g X x W) : Calls Tryd.prog 15 #[.pointer (some ⟨g, 0, none⟩)] W fun e w' => e = .returned (.int .i64 (x.b.length : Int)) ∧ w' = W := by
  obtain ⟨v, t, h, _⟩ := h
  exact mheld_any h
theorem GX.over (h : GX w0 g X x W) : Calls Tryd.prog 16 #[.pointer (some ⟨g, 0, none⟩)] W fun e w' => e = .returned (.bool x.over) ∧ w' = W := by
  obtain ⟨v, t, h, _⟩ := h
  exact mover_any h
theorem GX.len (h : GX w0 g X x W) : x.b.length ≤ 4096 := by
  obtain ⟨v, t, h, _⟩ := h
  exact h.len
theorem GX.take (h : GX w0 g X x W) {fin mask : Bool} {op key c : Nat} {A : Option Addr} {d : List UInt8} (hd : RdS W (fun k => k < W.heap.size ∧ (k < w0.heap.size ∨ X k)) A (byc d)) (hX : ∀ k, X k → k < W.heap.size) (hl : d.length ≤ 100000) (hc : d.length ≤ c) :
    Calls Tryd.prog 12 #[.pointer (some ⟨g, 0, none⟩), .agg (pcC fin op mask key A d.length c)] W (TakeX w0 g X W (takeM x op fin d)) := by
  obtain ⟨v, t, h1, h2, h3, h4⟩ := h
  refine (mTake_any h1 (RdS.imp hd fun k hk _ => ⟨hk.1, fun hm => ?_⟩) hl hc h4).mono ?_
  · rcases hk.2 with h5 | h5
    · have := (h1.lts hm).1; omega
    · exact h2 k hm h5
  · rintro e W' ⟨A', c', v', t', rfl, hO, hM, hF, hS, hD⟩
    have hbb : Below w0.heap.size W W' := h1.base_fs hF (Nat.le_refl _) h3.size
    refine ⟨A', c', rfl, hO, fun k hk hx => ?_, ⟨v', t', hM, fun k hk hx => ?_, h3.trans hbb, h1.glob hF h4⟩, fun k hx => hF.block k (hX k hx) fun hm => h2 k hm hx, fun k T cs hr e1 e2 e3 => hF.row (h1.odd hr e1 e2 e3) hr, hF.size⟩
    · rcases (hD k hk).1 with h5 | h5
      · exact h2 k h5 hx
      · have := hX k hx; omega
    · rcases hx with hx | hx
      · rcases hS k hk with h5 | h5
        · exact h2 k h5 hx
        · have := hX k hx; omega
      · exact (hD k hx).2 hk
end
theorem closeN_made (code : Nat) (s : List UInt8) : closeN (closeB code s) = if ToldM code then ⟨4, false, code, reasonM s⟩ else ⟨4, false, 1005, []⟩ := by
  have h1 := close_made code s
  rw [closeM_is] at h1
  by_cases h : ToldM code
  · rw [if_pos h] at h1 ⊢
    injection h1 with _ h1
    injection h1
  · rw [if_neg h] at h1 ⊢
    injection h1 with _ h1
    injection h1
/-- The cells of a note. -/
theorem nt_cells {w : World} {g kind n c code : Nat} {text : Bool} {A : Option Addr} (h : Row w g 34 (ntc kind text A n c code)) : w.cell? ⟨g, 0, none⟩ = some (.int .u8 kind) ∧ w.cell? ⟨g, 1, none⟩ = some (.bool text) ∧ w.cell? ⟨g, 2, none⟩ = some (.slice A n c) ∧ w.cell? ⟨g, 3, none⟩ = some (.int .u32 code) :=
  ⟨h.cell rfl, h.cell rfl, h.cell rfl, h.cell rfl⟩
/-- A note's variable, made and written. -/
theorem noteM (W : World) (N : Array Value) : Row (W.alloc (.cells (ntc 0 false none 0 0 0) 34)) W.heap.size 34 (ntc 0 false none 0 0 0) ∧ Row ((W.alloc (.cells (ntc 0 false none 0 0 0) 34)).setRow W.heap.size N) W.heap.size 34 N ∧ Below W.heap.size W ((W.alloc (.cells (ntc 0 false none 0 0 0) 34)).setRow W.heap.size N) :=
  ⟨Row.new _ _ _, (Row.new _ _ _).setRow _, below_setRow ((Below.refl _ _).alloc (Nat.le_refl _) _) _ _ (Nat.le_refl _)⟩
/-- A frame's variable, made and written. -/
theorem pieceM (W : World) (N : Array Value) : Row (W.alloc (.cells zpJ 32)) W.heap.size 32 zpJ ∧ Row ((W.alloc (.cells zpJ 32)).setRow W.heap.size N) W.heap.size 32 N ∧ Below W.heap.size W ((W.alloc (.cells zpJ 32)).setRow W.heap.size N) :=
  ⟨Row.new _ _ _, (Row.new _ _ _).setRow _, below_setRow ((Below.refl _ _).alloc (Nat.le_refl _) _) _ _ (Nat.le_refl _)⟩
end Go.Proofs.YtdegpchofhnipaaDoor
