/-
  The table in memory: its own block and its slice's; what a step on it leaves alone. No conditions but those that each theorem names.
-/
import Derived.Test.YtfajffchnnalaaaDget
namespace Go.Proofs.Ytfajffchnnalaaa
open Go.RowKit Go.WideShapes

/-- Field number i of a slice of fields, as it lies in memory. -/
theorem RdS.field {w : World} {S : Nat → Prop} {A : Option Addr} {L : List Fd} (h : RdS w S A (enl fdc L)) {i : Nat} (hi : i < L.length) : ∃ b q, A = some ⟨b, q, none⟩ ∧ S b ∧
    w.cell? ⟨b, q + i * 3, none⟩ = some (tx L[i].nm) ∧ w.cell? ⟨b, q + i * 3 + 1, none⟩ = some (tx L[i].vl) ∧ w.cell? ⟨b, q + i * 3 + 2, none⟩ = some (.bool L[i].nv) := by
  have hne : enl fdc L ≠ [] := by
    intro e
    have := enl_length fdc_len L
    rw [e] at this
    simp at this
    omega
  obtain ⟨b, q, hA, hb, hc⟩ := h hne
  refine ⟨b, q, hA, hb, ?_, ?_, ?_⟩
  · have := hc (i * 3 + 0) _ (by rw [enl_at fdc_len hi (by omega)]; rfl)
    simpa [Nat.add_assoc] using this
  · have := hc (i * 3 + 1) _ (by rw [enl_at fdc_len hi (by omega)]; rfl)
    simpa [Nat.add_assoc] using this
  · have := hc (i * 3 + 2) _ (by rw [enl_at fdc_len hi (by omega)]; rfl)
    simpa [Nat.add_assoc] using this

/-- What a step on a table leaves alone: all blocks but the table's own (g) and its slice's (o). -/
structure Fr (g : Nat) (o : Option Nat) (w w' : World) : Prop where
  os : w'.os = w.os
  tape : w'.tape = w.tape
  output : w'.output = w.output
  size : w.heap.size ≤ w'.heap.size
  block : ∀ k, k < w.heap.size → k ≠ g → some k ≠ o → w'.heap[k]? = w.heap[k]?

/-- The table in block g has these fields, the oldest first, in the slice v; and this most. -/
structure Tb (w : World) (base g : Nat) (v : Value) (L : List Fd) (most : Nat) : Prop where
  own : TabR w g v (tot L) most
  row : OwS w base 52 3 v L.length (enl fdc L)
  ne : v.ownBlock ≠ some g
  low : base ≤ g

section
variable {g : Nat} {o : Option Nat} {w w' w'' : World} {base : Nat} {v : Value} {L : List Fd} {most : Nat}
theorem Fr.refl (w : World) : Fr g o w w := ⟨rfl, rfl, rfl, Nat.le_refl _, fun _ _ _ _ => rfl⟩
theorem Fr.of_below (h : Below w.heap.size w w') : Fr g o w w' := ⟨h.os, h.tape, h.output, h.size, fun k hk _ _ => h.block k hk⟩
theorem Fr.of_grown (h : w.grownBy w' o) : Fr g o w w' := ⟨h.os, h.tape, h.output, h.size, fun k hk _ hne => h.block k hk hne⟩
theorem Fr.wide (h : Fr g none w w') : Fr g o w w' := ⟨h.os, h.tape, h.output, h.size, fun k hk h1 _ => h.block k hk h1 (by simp)⟩
theorem Fr.trans {o' : Option Nat} (h : Fr g o w w') (h2 : Fr g o' w' w'') (ho : o' = o ∨ ∀ k, o' = some k → w.heap.size ≤ k) : Fr g o w w'' := by
  refine ⟨h2.os.trans h.os, h2.tape.trans h.tape, h2.output.trans h.output, Nat.le_trans h.size h2.size, fun k hk h1 h3 => (h2.block k (Nat.lt_of_lt_of_le hk h.size) h1 ?_).trans (h.block k hk h1 h3)⟩
  rcases ho with rfl | ho
  · exact h3
  · intro e
    have := ho k e.symm
    omega
theorem Fr.then_below (h : Fr g o w w') (h2 : Below w'.heap.size w' w'') : Fr g o w w'' := h.trans (o' := o) (Fr.of_below h2) (.inl rfl)
theorem Fr.setCell (h : Fr g o w w') (j : Nat) (x : Value) : Fr g o w (w'.setCell ⟨g, j, none⟩ x) :=
  h.trans (o' := o) ⟨rfl, rfl, rfl, by simp [World.setCell], fun k _ h1 _ => Below.heap_setCell w' _ x k h1⟩ (.inl rfl)
theorem Fr.drewN (h : Fr g o w w') (n : Nat) : Fr g o w (w'.drewN n) := ⟨h.os, h.tape, h.output, h.size, h.block⟩
theorem Fr.cell (h : Fr g none w w') {b i : Nat} (hb : b ≠ g) {x : Value} (hc : w.cell? ⟨b, i, none⟩ = some x) : w'.cell? ⟨b, i, none⟩ = some x :=
  (World.cell?_of_block (a := ⟨b, i, none⟩) (h.block b (World.block_lt_of_cell? w _ hc) hb (by simp))).trans hc
theorem Fr.row (h : Fr g o w w') {b : Nat} (hb : b ≠ g) (ho : some b ≠ o) {t : TypeId} {cs : Array Value} (hr : Row w b t cs) : Row w' b t cs := (h.block b hr.lt hb ho).trans hr
theorem Fr.alloc (h : Fr g o w w') (x : Obj) : Fr g o w (w'.alloc x) := h.then_below ((Below.refl _ _).alloc (Nat.le_refl _) _)
theorem Fr.below (h : Fr g o w w') {B : Nat} (hg : B ≤ g) (ho : ∀ k, o = some k → B ≤ k) (hB : B ≤ w.heap.size) : Below B w w' :=
  ⟨h.os, h.tape, h.output, h.size, fun k hk => h.block k (by omega) (by omega) (fun e => by have := ho k e.symm; omega)⟩
theorem Tb.new (w : World) (m : Nat) (hb : base ≤ w.heap.size) : Tb (w.alloc (.cells #[.slice none 0 0, .int .i64 0, .int .i64 (m : Int)] 78)) base w.heap.size (.slice none 0 0) [] m :=
  ⟨Row.new w 78 #[.slice none 0 0, .int .i64 0, .int .i64 (m : Int)], OwS.nil, by simp [Value.ownBlock], hb⟩
theorem Tb.lows (h : Tb w base g v L most) : ∀ k, v.ownBlock = some k → base ≤ k := fun k hk => (h.row.lt k hk).1
theorem Tb.lt (h : Tb w base g v L most) : g < w.heap.size := Row.lt h.own
theorem Tb.keep (h : Tb w base g v L most) (h1 : w'.heap[g]? = w.heap[g]?) (h2 : ∀ k, v.ownBlock = some k → w'.heap[k]? = w.heap[k]?) : Tb w' base g v L most := ⟨h1.trans h.own, h.row.keep h2, h.ne, h.low⟩
theorem Tb.below (h : Tb w base g v L most) (hb : Below w.heap.size w w') : Tb w' base g v L most := h.keep (hb.block _ h.lt) fun k hk => hb.block k (h.row.lt k hk).2
theorem Tb.alloc (h : Tb w base g v L most) (x : Obj) : Tb (w.alloc x) base g v L most := h.below ((Below.refl _ _).alloc (Nat.le_refl _) _)
theorem Tb.drewN (h : Tb w base g v L most) (n : Nat) : Tb (w.drewN n) base g v L most := h.keep rfl fun _ _ => rfl
theorem Tb.shape (h : Tb w base g v L most) : ∃ A c, v = .slice A L.length c ∧ L.length ≤ c ∧ c ≤ maxLen := h.row.shape
/-- Field number i, as it lies in memory. -/
theorem Tb.field {A : Option Addr} {n c : Nat} (h : Tb w base g (.slice A n c) L most) {i : Nat} (hi : i < L.length) : ∃ b q, A = some ⟨b, q, none⟩ ∧ b ≠ g ∧
    w.cell? ⟨b, q + i * 3, none⟩ = some (tx L[i].nm) ∧ w.cell? ⟨b, q + i * 3 + 1, none⟩ = some (tx L[i].vl) ∧ w.cell? ⟨b, q + i * 3 + 2, none⟩ = some (.bool L[i].nv) := by
  obtain ⟨b, q, hA, hb, h0, h1, h2⟩ := h.row.reads.field hi
  exact ⟨b, q, hA, fun e => h.ne (by rw [hb, e]), h0, h1, h2⟩
end
end Go.Proofs.Ytfajffchnnalaaa
