/-
  Slices of slices, as they come in: what is read of each. Over whatever program.
-/
import Derived.Test.YtdegpchofhnipaaDoorOpenS
import Derived.Test.YtdegpchofhnipaaDoorPost
import Derived.Test.YtdegpchofhnipaaDoorFs
namespace Go.Proofs.YtdegpchofhnipaaDoor
open Go.ChangeShapes Go.WideShapes Go.RowKit Go.Deep

section
variable {H : Type} {hc : TypeId × Value → H} {P : Program} {α : Type} {enc : α → List Value} {k : Nat}

/-- The cells of a slice that is trodden: a slice, its elements read. -/
theorem rows_of_trodM {t e : TypeId} (hk : ∀ x, (enc x).length = k) (hk0 : 0 < k) (ht : P.underlying t = some (.slice e)) (hC : P.cellsOf e = k) {W : World}
    (hdec : ∀ (n : Nat) (cs : List Value) (x : DataW H × List MemPlace), DataW.trod hc P W 0 (fun _ => true) true n e cs = some x → ∃ y : α, cs = enc y)
    {fuel : Nat} {cs : List Value} {x : DataW H × List MemPlace} (hf : DataW.trod hc P W 0 (fun _ => true) true fuel t cs = some x) :
    ∃ (A : Option Addr) (c : Nat) (L : List α), cs = [.slice A L.length c] ∧ L.length ≤ c ∧ c ≤ maxLen ∧ RdS W (· < W.heap.size) A (enl enc L) := by
  rcases open_slice ht hf with ⟨hcs, _⟩ | ⟨a, len, cap, m, n, D, Pl, hcs, _, hl, hm, hmm, hx, hi⟩
  · subst hcs
    exact ⟨none, 0, [], rfl, Nat.le_refl _, Nat.zero_le _, RdS.nil⟩
  · subst hcs
    simp only [if_true] at hmm
    obtain ⟨b, off, spot⟩ := a
    by_cases h0 : len = 0
    · subst h0
      exact ⟨some ⟨b, off, spot⟩, cap, [], rfl, by simp, hm, RdS.nil⟩
    · have hat : ∀ i, i < len → ∃ y : α, ∀ r, r < k → W.cell? ((⟨b, off, spot⟩ : Addr).add (i * k + r)) = (enc y)[r]? := by
        intro i hil
        obtain ⟨cs', hcells, htr⟩ := hi i (by omega)
        obtain ⟨y, rfl⟩ := hdec n cs' _ htr
        obtain ⟨_, _, hget⟩ := World.cells?_some hcells
        refine ⟨y, fun r hr => ?_⟩
        have := hget r (by rw [hC]; exact hr)
        rw [hC] at this
        rw [← this, ← Go.Deep.add_add]
      have hspot : spot = none := by
        obtain ⟨y, hy⟩ := hat 0 (by omega)
        have h1 := hy 0 hk0
        rw [List.getElem?_eq_getElem (by rw [hk]; exact hk0)] at h1
        have h2 := World.cell?_spot h1
        simpa [Addr.add] using h2
      subst hspot
      obtain ⟨L, hL, hcell⟩ := rows_list (w := W) (b := b) (o := off) (len := len) hk (fun i hil => by
        obtain ⟨y, hy⟩ := hat i hil
        exact ⟨y, fun r hr => by rw [← add_plain]; exact hy r hr⟩)
      subst hL
      refine ⟨some ⟨b, off, none⟩, cap, L, rfl, hl, hm, fun hne => ⟨b, off, rfl, ?_, hcell⟩⟩
      have h1 : 0 < (enl enc L).length := List.length_pos_iff.2 hne
      exact World.block_lt_of_cell? W _ (hcell 0 _ (List.getElem?_eq_getElem h1))
end

/-- A slice's head: where it lies, its room, what is read of it. -/
structure HdM (W : World) (α : Type) (enc : α → List Value) where
  at_ : Option Addr
  room : Nat
  els : List α
  ok : els.length ≤ room ∧ room ≤ maxLen ∧ RdS W (· < W.heap.size) at_ (enl enc els)
def hdcM {W : World} {α : Type} {enc : α → List Value} (h : HdM W α enc) : List Value := [.slice h.at_ h.els.length h.room]
theorem hdc_lenM {W : World} {α : Type} {enc : α → List Value} (h : HdM W α enc) : (hdcM h).length = 1 := rfl

section
variable {H : Type} {hc : TypeId × Value → H} {P : Program} {α : Type} {enc : α → List Value} {k : Nat}
theorem open_nestM {u t e : TypeId} (hk : ∀ x, (enc x).length = k) (hk0 : 0 < k) (hu : P.underlying u = some (.slice t)) (ht : P.underlying t = some (.slice e)) (hCu : P.cellsOf t = 1) (hC : P.cellsOf e = k) {W : World}
    (hdec : ∀ (n : Nat) (cs : List Value) (x : DataW H × List MemPlace), DataW.trod hc P W 0 (fun _ => true) true n e cs = some x → ∃ y : α, cs = enc y)
    {base : Nat} {v : Value} {d : DataW H} {p : List MemPlace} (hv : Value.okWide P W .any base u v) (h : DataW.Trod hc P W 0 (fun _ => true) true u v d p) :
    ∃ (A : Option Addr) (c : Nat) (L : List (HdM W α enc)), v = .slice A L.length c ∧ L.length ≤ c ∧ c ≤ maxLen ∧ RdS W (· < W.heap.size) A (enl hdcM L) :=
  open_rows hdc_lenM (by omega) hu hCu (fun n cs x hx => by
    obtain ⟨A, c, L, e1, e2, e3, e4⟩ := rows_of_trodM hk hk0 ht hC hdec hx
    exact ⟨⟨A, c, L, e2, e3, e4⟩, e1⟩) hv h

/-- Number i of such a slice. -/
theorem RdS.headM {w W : World} {S : Nat → Prop} {A : Option Addr} {L : List (HdM W α enc)} (h : RdS w S A (enl hdcM L)) {i : Nat} (hi : i < L.length) : ∃ b q, A = some ⟨b, q, none⟩ ∧ S b ∧
    w.cell? ⟨b, q + i, none⟩ = some (.slice L[i].at_ L[i].els.length L[i].room) := by
  have hne : enl hdcM L ≠ [] := by
    intro e
    have := enl_length hdc_lenM L
    rw [e] at this
    simp at this
    omega
  obtain ⟨b, q, hA, hb, hcl⟩ := h hne
  refine ⟨b, q, hA, hb, ?_⟩
  have := hcl (i * 1 + 0) _ (by rw [enl_at hdc_lenM hi (by omega)]; rfl)
  simpa using this
end

def byvM (b : UInt8) : List Value := [.int .u8 (b.toNat : Int)]
theorem byv_lenM (b : UInt8) : (byvM b).length = 1 := rfl
theorem byv_enlM (l : List UInt8) : enl byvM l = byc l := by
  unfold enl byvM byc
  induction l with
  | nil => rfl
  | cons b l ih => simp [List.flatMap_cons, ih]
section
variable {H : Type} {hc : TypeId × Value → H}
set_option maxRecDepth 100000 in
theorem u8_cellM {W : World} {n : Nat} {cs : List Value} {x : DataW H × List MemPlace} (h : DataW.trod hc Tryd.prog W 0 (fun _ => true) true n 5 cs = some x) : ∃ b : UInt8, cs = byvM b := by
  obtain ⟨k, e, _, w⟩ := DataW.trod_int Tryd.underlying5 h
  have hw := wf_u8 w
  exact ⟨UInt8.ofNat k.toNat, by rw [e]; unfold byvM; rw [byte_back hw.1 hw.2]⟩
set_option maxRecDepth 100000 in
theorem open_blocksM {W : World} {base : Nat} {v : Value} {d : DataW H} {p : List MemPlace} (hv : Value.okWide Tryd.prog W .any base 50 v) (h : DataW.Trod hc Tryd.prog W 0 (fun _ => true) true 50 v d p) :
    ∃ (A : Option Addr) (c : Nat) (L : List (HdM W UInt8 byvM)), v = .slice A L.length c ∧ L.length ≤ c ∧ c ≤ maxLen ∧ RdS W (· < W.heap.size) A (enl hdcM L) :=
  open_nestM byv_lenM (by omega) Tryd.underlying50 Tryd.underlying30 (by kernel_rfl) (by kernel_rfl) (fun _ _ _ h => u8_cellM h) hv h
/-- Number i of a row of rows of bytes, in a later world. -/
theorem blockM {W W' : World} {A : Option Addr} {L : List (HdM W UInt8 byvM)} (h : RdS W (· < W.heap.size) A (enl hdcM L)) {i : Nat} (hi : i < L.length) (hb : Below W.heap.size W W') :
    ∃ (b q : Nat) (A' : Option Addr) (d : List UInt8) (c : Nat), A = some ⟨b, q, none⟩ ∧ W'.cell? ⟨b, q + i, none⟩ = some (.slice A' d.length c) ∧ RdB W' W.heap.size A' d ∧ d.length ≤ c := by
  obtain ⟨b, q, e, hlt, hc⟩ := RdS.headM h hi
  have h2 : RdB W W.heap.size L[i].at_ L[i].els := RdB.ofS (by rw [← byv_enlM]; exact L[i].ok.2.2) fun _ hk _ => hk
  exact ⟨b, q, L[i].at_, L[i].els, L[i].room, e, (hb.cell (p := ⟨b, q + i, none⟩) hlt).trans hc, h2.below hb, L[i].ok.1⟩
end
end Go.Proofs.YtdegpchofhnipaaDoor
