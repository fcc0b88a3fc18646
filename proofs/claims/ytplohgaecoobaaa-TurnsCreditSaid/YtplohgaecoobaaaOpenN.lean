/-
  Slices of slices, as they come in: what is read of each. Over whatever program.
-/
import Derived.Test.YtplohgaecoobaaaOpenS
namespace Go.Proofs.Ytplohgaecoobaaa
open Go.ChangeShapes Go.WideShapes Go.RowKit Go.Deep

section
variable {H : Type} {hc : TypeId × Value → H} {P : Program} {α : Type} {enc : α → List Value} {k : Nat}

/-- The cells of a slice that is trodden: a slice, its elements read. -/
theorem rows_of_trod {t e : TypeId} (hk : ∀ x, (enc x).length = k) (hk0 : 0 < k) (ht : P.underlying t = some (.slice e)) (hC : P.cellsOf e = k) {W : World}
    (hdec : ∀ (n : Nat) (cs : List Value) (x : DataW H × List MemPlace), DataW.trod hc P W 0 (fun _ => true) true n e cs = some x → ∃ y : α, cs = enc y)
    {fuel : Nat} {cs : List Value} {x : DataW H × List MemPlace} (hf : DataW.trod hc P W 0 (fun _ => true) true fuel t cs = some x) :
    ∃ (A : Option Addr) (c : Nat) (L : List α), cs = [.slice A L.length c] ∧ L.length ≤ c ∧ c ≤ maxLen ∧ RdS W (· < W.heap.size) A (enl enc L) := by
  rcases open_slice ht hf with ⟨hcs, _⟩ | ⟨a, len, cap, m, n, D, Pl, hcs, _, hl, hm, hmm, hx, hi⟩
  · subst hcs
    exact ⟨none, 0, [], rfl, Nat.le_refl _, Nat.zero_le _, RdS.nil⟩
  · subst hcs
    simp only [if_true] at hmm
    obtain ⟨b, off, spot⟩ := a
    by_cases h0 : len = 0
    · subst h0
      exact ⟨some ⟨b, off, spot⟩, cap, [], rfl, by simp, hm, RdS.nil⟩
    · have hat : ∀ i, i < len → ∃ y : α, ∀ r, r < k → W.cell? ((⟨b, off, spot⟩ : Addr).add (i * k + r)) = (enc y)[r]? := by
        intro i hil
        obtain ⟨cs', hcells, htr⟩ := hi i (by omega)
        obtain ⟨y, rfl⟩ := hdec n cs' _ htr
        obtain ⟨_, _, hget⟩ := World.cells?_some hcells
        refine ⟨y, fun r hr => ?_⟩
        have := hget r (by rw [hC]; exact hr)
        rw [hC] at this
        rw [← this, ← Go.Deep.add_add]
      have hspot : spot = none := by
        obtain ⟨y, hy⟩ := hat 0 (by omega)
        have h1 := hy 0 hk0
        rw [List.getElem?_eq_getElem (by rw [hk]; exact hk0)] at h1
        have h2 := World.cell?_spot h1
        simpa [Addr.add] using h2
      subst hspot
      obtain ⟨L, hL, hcell⟩ := rows_list (w := W) (b := b) (o := off) (len := len) hk (fun i hil => by
        obtain ⟨y, hy⟩ := hat i hil
        exact ⟨y, fun r hr => by rw [← add_plain]; exact hy r hr⟩)
      subst hL
      refine ⟨some ⟨b, off, none⟩, cap, L, rfl, hl, hm, fun hne => ⟨b, off, rfl, ?_, hcell⟩⟩
      have h1 : 0 < (enl enc L).length := List.length_pos_iff.2 hne
      exact World.block_lt_of_cell? W _ (hcell 0 _ (List.getElem?_eq_getElem h1))
end

/-- A slice's head: where it lies, its room, what is read of it. -/
structure Hd (W : World) (α : Type) (enc : α → List Value) where
  at_ : Option Addr
  room : Nat
  els : List α
  ok : els.length ≤ room ∧ room ≤ maxLen ∧ RdS W (· < W.heap.size) at_ (enl enc els)
def hdc {W : World} {α : Type} {enc : α → List Value} (h : Hd W α enc) : List Value := [.slice h.at_ h.els.length h.room]
theorem hdc_len {W : World} {α : Type} {enc : α → List Value} (h : Hd W α enc) : (hdc h).length = 1 := rfl

section
variable {H : Type} {hc : TypeId × Value → H} {P : Program} {α : Type} {enc : α → List Value} {k : Nat}
theorem open_nest {u t e : TypeId} (hk : ∀ x, (enc x).length = k) (hk0 : 0 < k) (hu : P.underlying u = some (.slice t)) (ht : P.underlying t = some (.slice e)) (hCu : P.cellsOf t = 1) (hC : P.cellsOf e = k) {W : World}
    (hdec : ∀ (n : Nat) (cs : List Value) (x : DataW H × List MemPlace), DataW.trod hc P W 0 (fun _ => true) true n e cs = some x → ∃ y : α, cs = enc y)
    {base : Nat} {v : Value} {d : DataW H} {p : List MemPlace} (hv : Value.okWide P W .any base u v) (h : DataW.Trod hc P W 0 (fun _ => true) true u v d p) :
    ∃ (A : Option Addr) (c : Nat) (L : List (Hd W α enc)), v = .slice A L.length c ∧ L.length ≤ c ∧ c ≤ maxLen ∧ RdS W (· < W.heap.size) A (enl hdc L) :=
  open_rows hdc_len (by omega) hu hCu (fun n cs x hx => by
    obtain ⟨A, c, L, e1, e2, e3, e4⟩ := rows_of_trod hk hk0 ht hC hdec hx
    exact ⟨⟨A, c, L, e2, e3, e4⟩, e1⟩) hv h

/-- Number i of such a slice. -/
theorem RdS.head {w W : World} {S : Nat → Prop} {A : Option Addr} {L : List (Hd W α enc)} (h : RdS w S A (enl hdc L)) {i : Nat} (hi : i < L.length) : ∃ b q, A = some ⟨b, q, none⟩ ∧ S b ∧
    w.cell? ⟨b, q + i, none⟩ = some (.slice L[i].at_ L[i].els.length L[i].room) := by
  have hne : enl hdc L ≠ [] := by
    intro e
    have := enl_length hdc_len L
    rw [e] at this
    simp at this
    omega
  obtain ⟨b, q, hA, hb, hcl⟩ := h hne
  refine ⟨b, q, hA, hb, ?_⟩
  have := hcl (i * 1 + 0) _ (by rw [enl_at hdc_len hi (by omega)]; rfl)
  simpa using this
end

def byv (b : UInt8) : List Value := [.int .u8 (b.toNat : Int)]
theorem byv_len (b : UInt8) : (byv b).length = 1 := rfl
theorem byv_enl (l : List UInt8) : enl byv l = byc l := by
  unfold enl byv byc
  induction l with
  | nil => rfl
  | cons b l ih => simp [List.flatMap_cons, ih]
end Go.Proofs.Ytplohgaecoobaaa
