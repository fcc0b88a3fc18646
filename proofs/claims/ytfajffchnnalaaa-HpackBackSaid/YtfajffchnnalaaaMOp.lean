/-
  Lists of lists of fields, lists of rows of bytes, a row of numbers, as they come in.
  A law's row out of its contract, whatever the law: the Go text returns true and below what was there nothing has turned; so each argument reads behind the call as it read before. A slice of bytes among the arguments, opened. Conditions: the specification says just that; no package-level variable is read as data.
  A slice of elements of several cells each, as it comes in: its elements, read. Over whatever program, whatever the element: asked is that what reads as an element is the cells of one.
  Slices of slices, as they come in: what is read of each. Over whatever program.
  A field, a slice of fields, a slice of operations, as they come in.
-/
import Derived.Test.YtfajffchnnalaaaRows
import Derived.Test.YtfajffchnnalaaaBytes
import Derived.WalkKit
import Derived.ProofKit
import Derived.OpenShut
import Derived.Below
import Derived.Carry
import Derived.ChangeOld
import Derived.Test.YtfajffchnnalaaaCel
import Derived.Deep.Slices
import Derived.Test.YtfajffchnnalaaaDtab
import Derived.Lib.SmallJoins
import Derived.SizedLaws

namespace Go.Proofs.Ytfajffchnnalaaa
open Go.ChangeShapes Go.WideShapes Go.RowKit

section
variable {H : Type} {enc : TypeId × Value → H} {P : Program}

theorem trodAll_below (hl : laidOutB P = true) {W W' : World} (hb : Below W.heap.size W W') : ∀ {ts : List TypeId} {vs : List Value} {ds : List (DataW H)} {ps : List MemPlace},
    (∀ t ∈ ts, P.readableRec t = true ∧ t < P.types.size) → DataW.TrodAll enc P W 0 (fun _ => true) true ts vs ds ps → (∀ x ∈ ps, x.block < W.heap.size) →
    DataW.TrodAll enc P W' 0 (fun b => decide (b < W.heap.size)) true ts vs ds ps := by
  intro ts
  induction ts with
  | nil =>
    intro vs ds ps _ h _
    obtain ⟨rfl, rfl, rfl⟩ := trodAll_nil h
    exact trodAll_mk0
  | cons t ts ih =>
    intro vs ds ps hr h hlt
    obtain ⟨v, vs', d, ds', p, q, rfl, rfl, rfl, h1, h2⟩ := trodAll_cons h
    have ht := hr t (by simp)
    exact trodAll_cons_mk (Below.trod hl ht.1 ht.2 h1 hb (fun x hx => hlt x (by simp [hx]))) (ih (fun u hu => hr u (by simp [hu])) h2 (fun x hx => hlt x (by simp [hx])))

theorem law_post (hl : laidOutB P = true) {f : Func} {K : FuncId} {s : ChangeSpec} (hsv : s.vars = []) (hpar : ∀ t ∈ f.params.toList, P.readableRec t = true ∧ t < P.types.size) {rb : TypeId} (hres : f.resultTypes = #[rb]) (hb : P.underlying rb = some .bool)
    {W : World} {args : Array Value} {ds gs : List (DataW H)} {before : List MemPlace} (hW : DataW.Whole enc P f.params.toList s.vars false W args.toList ds gs before)
    (hfn : s.fn H ds = { results := [.lit (.bool true)], args := ds })
    (hc : Calls P K args W fun e w' => e = .returned (.bool true) ∧ Below W.heap.size W w') :
    Calls P K args W fun e W' => ∃ v, e = .returned v ∧ s.post enc P f false true false false W args v W' := by
  refine hc.mono fun e W' ⟨he, hbel⟩ => ⟨_, he, ?_⟩
  have hW' := hW
  have hlt := hW.lt
  obtain ⟨p, q, hA, hV, rfl, _, _⟩ := hW
  rw [hsv] at hV
  obtain ⟨rfl, rfl⟩ := trodVars_none hV
  refine ⟨ds, [], p ++ [], [], p, [], hW', ?_, ?_, ?_, hbel.frame _, fun h => by cases h⟩
  · rw [List.append_nil, hfn, hres]
    exact trodAll_mk1 (shut_bool hb true)
  · rw [List.append_nil, hfn]
    exact trodAll_below hl hbel hpar hA (fun x hx => hlt x (by simp [hx]))
  · rw [List.append_nil, hfn, hsv]
    rfl
end

theorem own : ownKnob Try.prog.godebug = none := by kernel_rfl
theorem laidOut : laidOutB Try.prog = true := by kernel_rfl
theorem cellsU8 : Try.prog.cellsOf 5 = 1 := by kernel_rfl

section
variable {H : Type} {enc : TypeId × Value → H} {P : Program}
theorem wf_u8 {x : Int} (h : (Lit.int .u8 x).wf = true) : 0 ≤ x ∧ x < 256 := by
  have h1 : IntKind.u8.min = 0 := rfl
  have h2 : IntKind.u8.max = 255 := rfl
  simp only [Lit.wf, Bool.and_eq_true, decide_eq_true_eq] at h
  omega
/-- A slice of bytes, as it comes in. -/
theorem open_bytesB {t e : TypeId} (ht : P.underlying t = some (.slice e)) (he : P.underlying e = some (.int .u8)) (hce : P.cellsOf e = 1) {W : World} {base : Nat} {v : Value} {d : DataW H} {p : List MemPlace}
    (hv : Value.okWide P W .any base t v) (h : DataW.Trod enc P W 0 (fun _ => true) true t v d p) :
    ∃ (A : Option Addr) (c : Nat) (l : List UInt8), v = .slice A l.length c ∧ l.length ≤ c ∧ c ≤ maxLen ∧ RdB W W.heap.size A l := by
  obtain ⟨a0, len, cap, rfl⟩ := okWide_slice ht hv
  obtain ⟨fuel, hf⟩ := h
  rcases open_ints ht he hce hf with ⟨hcs, _⟩ | ⟨a, len', cap', zs, hcs, _, hl, hm, hz, _, hcell, hwz⟩
  · have e : Value.slice a0 len cap = Value.slice none 0 0 := by simpa [Value.cells] using hcs
    injection e with e1 e2 e3
    subst e1 e2 e3
    exact ⟨none, 0, [], rfl, Nat.le_refl _, Nat.zero_le _, RdB.nil⟩
  · have e : Value.slice a0 len cap = Value.slice (some a) len' cap' := by simpa [Value.cells] using hcs
    injection e with e1 e2 e3
    subst e1 e2 e3
    simp only [if_true] at hz
    have hlen : ((zs.take len).map fun n => UInt8.ofNat n.toNat).length = len := by simp; omega
    refine ⟨some a, cap, (zs.take len).map fun n => UInt8.ofNat n.toNat, by rw [hlen], by omega, hm, fun hne => ?_⟩
    have h0 : 0 < len := by
      rcases Nat.eq_zero_or_pos len with h0 | h0
      · subst h0; simp at hne
      · exact h0
    obtain ⟨b, off, spot⟩ := a
    have hspot : spot = none := by
      have h1 := World.cell?_spot (hcell 0 (by omega))
      simpa [Addr.add] using h1
    subst hspot
    refine ⟨b, off, rfl, ?_, fun j hj => ?_⟩
    · have := World.block_lt_of_cell? W _ (hcell 0 (by omega))
      rwa [add_plain] at this
    · rw [hlen] at hj
      have hc := hcell j (by omega)
      rw [add_plain] at hc
      rw [hc]
      have hz1 : zs.getD j 0 = zs[j] := by simp [List.getD, show j < zs.length by omega]
      obtain ⟨w0, w1⟩ := wf_u8 (hwz zs[j] (List.getElem_mem ..))
      simp only [List.getElem_map, List.getElem_take]
      rw [hz1, byte_back w0 w1]
theorem wf_u16 {x : Int} (h : (Lit.int .u16 x).wf = true) : 0 ≤ x ∧ x < 65536 := by
  have h1 : IntKind.u16.min = 0 := rfl
  have h2 : IntKind.u16.max = 65535 := rfl
  simp only [Lit.wf, Bool.and_eq_true, decide_eq_true_eq] at h
  omega
theorem wf_u32 {x : Int} (h : (Lit.int .u32 x).wf = true) : 0 ≤ x ∧ x < 4294967296 := by
  have h1 : IntKind.u32.min = 0 := rfl
  have h2 : IntKind.u32.max = 4294967295 := rfl
  simp only [Lit.wf, Bool.and_eq_true, decide_eq_true_eq] at h
  omega
theorem wf_i64 {x : Int} (h : (Lit.int .i64 x).wf = true) : -9223372036854775808 ≤ x ∧ x ≤ 9223372036854775807 := by
  have h1 : IntKind.i64.min = -9223372036854775808 := rfl
  have h2 : IntKind.i64.max = 9223372036854775807 := rfl
  simp only [Lit.wf, Bool.and_eq_true, decide_eq_true_eq] at h
  omega
end
end Go.Proofs.Ytfajffchnnalaaa

namespace Go.Proofs.Ytfajffchnnalaaa
open Go.ChangeShapes Go.WideShapes Go.RowKit Go.Deep

section
variable {H : Type} {hc : TypeId × Value → H} {P : Program} {α : Type} {enc : α → List Value} {k : Nat}

theorem rows_list {w : World} {b o len : Nat} (hk : ∀ x, (enc x).length = k) (h : ∀ i, i < len → ∃ y : α, ∀ r, r < k → w.cell? ⟨b, o + (i * k + r), none⟩ = (enc y)[r]?) :
    ∃ L : List α, L.length = len ∧ ∀ j u, (enl enc L)[j]? = some u → w.cell? ⟨b, o + j, none⟩ = some u := by
  induction len with
  | zero => exact ⟨[], rfl, fun j u hj => by simp [enl] at hj⟩
  | succ n ih =>
    obtain ⟨L, hL, hc⟩ := ih (fun i hi => h i (by omega))
    obtain ⟨y, hy⟩ := h n (by omega)
    refine ⟨L ++ [y], by simp [hL], fun j u hj => ?_⟩
    rw [enl_append, enl_one] at hj
    have hlen := enl_length hk L
    rw [hL] at hlen
    by_cases hjl : j < n * k
    · rw [List.getElem?_append_left (by omega)] at hj
      exact hc j u hj
    · rw [List.getElem?_append_right (by omega), hlen] at hj
      have hr : j - n * k < k := by
        have := (List.getElem?_eq_some_iff.1 hj).1
        rwa [hk] at this
      have := hy (j - n * k) hr
      rw [show n * k + (j - n * k) = j by omega] at this
      rw [this]
      exact hj

theorem open_rows' {t e : TypeId} (hk : ∀ x, (enc x).length = k) (hk0 : 0 < k) (ht : P.underlying t = some (.slice e)) (hC : P.cellsOf e = k) {W : World}
    (hdec : ∀ (n : Nat) (cs : List Value) (x : DataW H × List MemPlace), DataW.trod hc P W 0 (fun _ => true) true n e cs = some x → ∃ y : α, cs = enc y)
    {base : Nat} {v : Value} {d : DataW H} {p : List MemPlace} (hv : Value.okWide P W .any base t v) (h : DataW.Trod hc P W 0 (fun _ => true) true t v d p) :
    ∃ (A : Option Addr) (c : Nat) (L : List α), v = .slice A L.length c ∧ L.length ≤ c ∧ c ≤ maxLen ∧ RdS W (· < W.heap.size) A (enl enc L) ∧ (L.length = 0 ∨ ∃ E S, d = .slice E S ∧ E.length = L.length) := by
  obtain ⟨a0, len, cap, rfl⟩ := okWide_slice ht hv
  obtain ⟨fuel, hf⟩ := h
  rcases open_slice ht hf with ⟨hcs, _⟩ | ⟨a, len', cap', m, n, D, Pl, hcs, _, hl, hm, hmm, hx, hi⟩
  · have e : Value.slice a0 len cap = Value.slice none 0 0 := by simpa [Value.cells] using hcs
    injection e with e1 e2 e3
    subst e1 e2 e3
    exact ⟨none, 0, [], rfl, Nat.le_refl _, Nat.zero_le _, RdS.nil, .inl rfl⟩
  · have e : Value.slice a0 len cap = Value.slice (some a) len' cap' := by simpa [Value.cells] using hcs
    injection e with e1 e2 e3
    subst e1 e2 e3
    simp only [if_true] at hmm
    obtain ⟨b, off, spot⟩ := a
    by_cases h0 : len = 0
    · subst h0
      exact ⟨some ⟨b, off, spot⟩, cap, [], rfl, by simp, hm, RdS.nil, .inl rfl⟩
    · have hat : ∀ i, i < len → ∃ y : α, ∀ r, r < k → W.cell? ((⟨b, off, spot⟩ : Addr).add (i * k + r)) = (enc y)[r]? := by
        intro i hil
        obtain ⟨cs', hcells, htr⟩ := hi i (by omega)
        obtain ⟨y, rfl⟩ := hdec n cs' _ htr
        obtain ⟨_, _, hget⟩ := World.cells?_some hcells
        refine ⟨y, fun r hr => ?_⟩
        have := hget r (by rw [hC]; exact hr)
        rw [hC] at this
        rw [← this, ← Go.Deep.add_add]
      have hspot : spot = none := by
        obtain ⟨y, hy⟩ := hat 0 (by omega)
        have h1 := hy 0 hk0
        rw [List.getElem?_eq_getElem (by rw [hk]; exact hk0)] at h1
        have h2 := World.cell?_spot h1
        simpa [Addr.add] using h2
      subst hspot
      obtain ⟨L, hL, hcell⟩ := rows_list (w := W) (b := b) (o := off) (len := len) hk (fun i hil => by
        obtain ⟨y, hy⟩ := hat i hil
        exact ⟨y, fun r hr => by rw [← add_plain]; exact hy r hr⟩)
      subst hL
      refine ⟨some ⟨b, off, none⟩, cap, L, rfl, hl, hm, fun hne => ⟨b, off, rfl, ?_, hcell⟩, .inr ⟨_, _, congrArg Prod.fst hx, by simp⟩⟩
      have h1 : 0 < (enl enc L).length := List.length_pos_iff.2 hne
      exact World.block_lt_of_cell? W _ (hcell 0 _ (List.getElem?_eq_getElem h1))
theorem open_rows {t e : TypeId} (hk : ∀ x, (enc x).length = k) (hk0 : 0 < k) (ht : P.underlying t = some (.slice e)) (hC : P.cellsOf e = k) {W : World}
    (hdec : ∀ (n : Nat) (cs : List Value) (x : DataW H × List MemPlace), DataW.trod hc P W 0 (fun _ => true) true n e cs = some x → ∃ y : α, cs = enc y)
    {base : Nat} {v : Value} {d : DataW H} {p : List MemPlace} (hv : Value.okWide P W .any base t v) (h : DataW.Trod hc P W 0 (fun _ => true) true t v d p) :
    ∃ (A : Option Addr) (c : Nat) (L : List α), v = .slice A L.length c ∧ L.length ≤ c ∧ c ≤ maxLen ∧ RdS W (· < W.heap.size) A (enl enc L) := by
  obtain ⟨A, c, L, h1, h2, h3, h4, _⟩ := open_rows' hk hk0 ht hC hdec hv h
  exact ⟨A, c, L, h1, h2, h3, h4⟩
end
end Go.Proofs.Ytfajffchnnalaaa

namespace Go.Proofs.Ytfajffchnnalaaa
open Go.ChangeShapes Go.WideShapes Go.RowKit Go.Deep

section
variable {H : Type} {hc : TypeId × Value → H} {P : Program} {α : Type} {enc : α → List Value} {k : Nat}

/-- The cells of a slice that is trodden: a slice, its elements read. -/
theorem rows_of_trod {t e : TypeId} (hk : ∀ x, (enc x).length = k) (hk0 : 0 < k) (ht : P.underlying t = some (.slice e)) (hC : P.cellsOf e = k) {W : World}
    (hdec : ∀ (n : Nat) (cs : List Value) (x : DataW H × List MemPlace), DataW.trod hc P W 0 (fun _ => true) true n e cs = some x → ∃ y : α, cs = enc y)
    {fuel : Nat} {cs : List Value} {x : DataW H × List MemPlace} (hf : DataW.trod hc P W 0 (fun _ => true) true fuel t cs = some x) :
    ∃ (A : Option Addr) (c : Nat) (L : List α), cs = [.slice A L.length c] ∧ L.length ≤ c ∧ c ≤ maxLen ∧ RdS W (· < W.heap.size) A (enl enc L) := by
  rcases open_slice ht hf with ⟨hcs, _⟩ | ⟨a, len, cap, m, n, D, Pl, hcs, _, hl, hm, hmm, hx, hi⟩
  · subst hcs
    exact ⟨none, 0, [], rfl, Nat.le_refl _, Nat.zero_le _, RdS.nil⟩
  · subst hcs
    simp only [if_true] at hmm
    obtain ⟨b, off, spot⟩ := a
    by_cases h0 : len = 0
    · subst h0
      exact ⟨some ⟨b, off, spot⟩, cap, [], rfl, by simp, hm, RdS.nil⟩
    · have hat : ∀ i, i < len → ∃ y : α, ∀ r, r < k → W.cell? ((⟨b, off, spot⟩ : Addr).add (i * k + r)) = (enc y)[r]? := by
        intro i hil
        obtain ⟨cs', hcells, htr⟩ := hi i (by omega)
        obtain ⟨y, rfl⟩ := hdec n cs' _ htr
        obtain ⟨_, _, hget⟩ := World.cells?_some hcells
        refine ⟨y, fun r hr => ?_⟩
        have := hget r (by rw [hC]; exact hr)
        rw [hC] at this
        rw [← this, ← Go.Deep.add_add]
      have hspot : spot = none := by
        obtain ⟨y, hy⟩ := hat 0 (by omega)
        have h1 := hy 0 hk0
        rw [List.getElem?_eq_getElem (by rw [hk]; exact hk0)] at h1
        have h2 := World.cell?_spot h1
        simpa [Addr.add] using h2
      subst hspot
      obtain ⟨L, hL, hcell⟩ := rows_list (w := W) (b := b) (o := off) (len := len) hk (fun i hil => by
        obtain ⟨y, hy⟩ := hat i hil
        exact ⟨y, fun r hr => by rw [← add_plain]; exact hy r hr⟩)
      subst hL
      refine ⟨some ⟨b, off, none⟩, cap, L, rfl, hl, hm, fun hne => ⟨b, off, rfl, ?_, hcell⟩⟩
      have h1 : 0 < (enl enc L).length := List.length_pos_iff.2 hne
      exact World.block_lt_of_cell? W _ (hcell 0 _ (List.getElem?_eq_getElem h1))
end

/-- A slice's head: where it lies, its room, what is read of it. -/
structure Hd (W : World) (α : Type) (enc : α → List Value) where
  at_ : Option Addr
  room : Nat
  els : List α
  ok : els.length ≤ room ∧ room ≤ maxLen ∧ RdS W (· < W.heap.size) at_ (enl enc els)
def hdc {W : World} {α : Type} {enc : α → List Value} (h : Hd W α enc) : List Value := [.slice h.at_ h.els.length h.room]
theorem hdc_len {W : World} {α : Type} {enc : α → List Value} (h : Hd W α enc) : (hdc h).length = 1 := rfl

section
variable {H : Type} {hc : TypeId × Value → H} {P : Program} {α : Type} {enc : α → List Value} {k : Nat}
theorem open_nest {u t e : TypeId} (hk : ∀ x, (enc x).length = k) (hk0 : 0 < k) (hu : P.underlying u = some (.slice t)) (ht : P.underlying t = some (.slice e)) (hCu : P.cellsOf t = 1) (hC : P.cellsOf e = k) {W : World}
    (hdec : ∀ (n : Nat) (cs : List Value) (x : DataW H × List MemPlace), DataW.trod hc P W 0 (fun _ => true) true n e cs = some x → ∃ y : α, cs = enc y)
    {base : Nat} {v : Value} {d : DataW H} {p : List MemPlace} (hv : Value.okWide P W .any base u v) (h : DataW.Trod hc P W 0 (fun _ => true) true u v d p) :
    ∃ (A : Option Addr) (c : Nat) (L : List (Hd W α enc)), v = .slice A L.length c ∧ L.length ≤ c ∧ c ≤ maxLen ∧ RdS W (· < W.heap.size) A (enl hdc L) :=
  open_rows hdc_len (by omega) hu hCu (fun n cs x hx => by
    obtain ⟨A, c, L, e1, e2, e3, e4⟩ := rows_of_trod hk hk0 ht hC hdec hx
    exact ⟨⟨A, c, L, e2, e3, e4⟩, e1⟩) hv h

/-- Number i of such a slice. -/
theorem RdS.head {w W : World} {S : Nat → Prop} {A : Option Addr} {L : List (Hd W α enc)} (h : RdS w S A (enl hdc L)) {i : Nat} (hi : i < L.length) : ∃ b q, A = some ⟨b, q, none⟩ ∧ S b ∧
    w.cell? ⟨b, q + i, none⟩ = some (.slice L[i].at_ L[i].els.length L[i].room) := by
  have hne : enl hdc L ≠ [] := by
    intro e
    have := enl_length hdc_len L
    rw [e] at this
    simp at this
    omega
  obtain ⟨b, q, hA, hb, hcl⟩ := h hne
  refine ⟨b, q, hA, hb, ?_⟩
  have := hcl (i * 1 + 0) _ (by rw [enl_at hdc_len hi (by omega)]; rfl)
  simpa using this
end

def byv (b : UInt8) : List Value := [.int .u8 (b.toNat : Int)]
theorem byv_len (b : UInt8) : (byv b).length = 1 := rfl
theorem byv_enl (l : List UInt8) : enl byv l = byc l := by
  unfold enl byv byc
  induction l with
  | nil => rfl
  | cons b l ih => simp [List.flatMap_cons, ih]
end Go.Proofs.Ytfajffchnnalaaa

namespace Go.Proofs.Ytfajffchnnalaaa
open Go.ChangeShapes Go.WideShapes Go.RowKit Go.Deep Go.Joins

section
variable {H : Type} {hc : TypeId × Value → H}
set_option maxRecDepth 100000 in
theorem cells_field : Try.prog.cellsOf 52 = 3 := by kernel_rfl
set_option maxRecDepth 100000 in
theorem cells_str : Try.prog.cellsOf 9 = 1 := by kernel_rfl
set_option maxRecDepth 100000 in
theorem cells_bool : Try.prog.cellsOf 4 = 1 := by kernel_rfl
set_option maxRecDepth 100000 in
theorem cells_i64 : Try.prog.cellsOf 3 = 1 := by kernel_rfl
set_option maxRecDepth 100000 in
theorem cells_u32 : Try.prog.cellsOf 22 = 1 := by kernel_rfl

set_option maxRecDepth 100000 in
theorem len_max {n c : Nat} (h1 : n ≤ c) (h2 : c ≤ maxLen) : n ≤ 9223372036854775807 := by simp only [maxLen] at h2; omega
set_option maxRecDepth 100000 in
theorem field_cells3 {W : World} {n : Nat} {cs : List Value} {x : DataW H × List MemPlace} (h : DataW.trod hc Try.prog W 0 (fun _ => true) true n 52 cs = some x) : ∃ f : Fd, cs = fdc f := by
  obtain ⟨xs, m, _, _, hl, hxl, hf⟩ := DataW.trod_struct Try.underlying52 h
  rw [cells_field] at hl
  match cs, hl with
  | [a, b, c], _ =>
    have hxl' : xs.length = 3 := hxl
    have h0 : DataW.trod hc Try.prog W 0 (fun _ => true) true m 9 (List.take (Try.prog.cellsOf 9) (List.drop 0 [a, b, c])) = xs[0]? := hf 0 _ rfl
    have h1 : DataW.trod hc Try.prog W 0 (fun _ => true) true m 9 (List.take (Try.prog.cellsOf 9) (List.drop 1 [a, b, c])) = xs[1]? := hf 1 _ rfl
    have h2 : DataW.trod hc Try.prog W 0 (fun _ => true) true m 4 (List.take (Try.prog.cellsOf 4) (List.drop 2 [a, b, c])) = xs[2]? := hf 2 _ rfl
    rw [List.getElem?_eq_getElem (by omega)] at h0 h1 h2
    simp only [cells_str, cells_bool, List.drop_succ_cons, List.drop_zero, List.take_succ_cons, List.take_zero] at h0 h1 h2
    obtain ⟨s0, e0, _, _⟩ := DataW.trod_string Try.underlying9 h0
    obtain ⟨s1, e1, _, _⟩ := DataW.trod_string Try.underlying9 h1
    obtain ⟨t, e2, _⟩ := DataW.trod_bool Try.underlying4 h2
    refine ⟨⟨s0.data.toList, s1.data.toList, t⟩, ?_⟩
    simp only [List.cons.injEq, and_true] at e0 e1 e2
    subst e0 e1 e2
    simp [fdc, tx]
set_option maxRecDepth 100000 in
theorem open_fields {W : World} {base : Nat} {v : Value} {d : DataW H} {p : List MemPlace} (hv : Value.okWide Try.prog W .any base 31 v) (h : DataW.Trod hc Try.prog W 0 (fun _ => true) true 31 v d p) :
    ∃ (A : Option Addr) (c : Nat) (L : List Fd), v = .slice A L.length c ∧ L.length ≤ c ∧ c ≤ maxLen ∧ RdS W (· < W.heap.size) A (enl fdc L) :=
  open_rows fdc_len (by omega) Try.underlying31 cells_field (fun _ _ _ h => field_cells3 h) hv h
set_option maxRecDepth 100000 in
theorem open_field {W : World} {base : Nat} {v : Value} {d : DataW H} {p : List MemPlace} (hv : Value.okWide Try.prog W .any base 52 v) (h : DataW.Trod hc Try.prog W 0 (fun _ => true) true 52 v d p) : ∃ f : Fd, v = fv f := by
  obtain ⟨cs, rfl, _⟩ := okWide_struct Try.underlying52 hv
  obtain ⟨fuel, hf⟩ := h
  obtain ⟨f, hcs⟩ := field_cells3 hf
  refine ⟨f, ?_⟩
  have : cs.toList = fdc f := hcs
  unfold fv
  congr 1
  apply Array.toList_inj.1
  rw [this]
  rfl
end
end Go.Proofs.Ytfajffchnnalaaa

namespace Go.Proofs.Ytfajffchnnalaaa
open Go.ChangeShapes Go.WideShapes Go.RowKit Go.Deep

/-- A number below 2^32. -/
abbrev N32 := { n : Nat // n < 4294967296 }
def n32 (n : N32) : List Value := [.int .u32 (n.1 : Int)]
theorem n32_len (n : N32) : (n32 n).length = 1 := rfl

section
variable {H : Type} {hc : TypeId × Value → H}
theorem cells_fs : Try.prog.cellsOf 31 = 1 := by kernel_rfl
theorem cells_bytes : Try.prog.cellsOf 38 = 1 := by kernel_rfl
theorem cells_u8 : Try.prog.cellsOf 5 = 1 := by kernel_rfl
set_option maxRecDepth 100000 in
theorem u8_cell {W : World} {n : Nat} {cs : List Value} {x : DataW H × List MemPlace} (h : DataW.trod hc Try.prog W 0 (fun _ => true) true n 5 cs = some x) : ∃ b : UInt8, cs = byv b := by
  obtain ⟨k, e, _, w⟩ := DataW.trod_int Try.underlying5 h
  have hw := wf_u8 w
  exact ⟨UInt8.ofNat k.toNat, by rw [e]; unfold byv; rw [byte_back hw.1 hw.2]⟩
set_option maxRecDepth 100000 in
theorem u32_cell {W : World} {n : Nat} {cs : List Value} {x : DataW H × List MemPlace} (h : DataW.trod hc Try.prog W 0 (fun _ => true) true n 22 cs = some x) : ∃ b : N32, cs = n32 b := by
  obtain ⟨k, e, _, w⟩ := DataW.trod_int Try.underlying22 h
  have hw := wf_u32 w
  obtain ⟨m, rfl⟩ := Int.eq_ofNat_of_zero_le hw.1
  exact ⟨⟨m, by omega⟩, e⟩
set_option maxRecDepth 100000 in
theorem open_lists {W : World} {base : Nat} {v : Value} {d : DataW H} {p : List MemPlace} (hv : Value.okWide Try.prog W .any base 23 v) (h : DataW.Trod hc Try.prog W 0 (fun _ => true) true 23 v d p) :
    ∃ (A : Option Addr) (c : Nat) (L : List (Hd W Fd fdc)), v = .slice A L.length c ∧ L.length ≤ c ∧ c ≤ maxLen ∧ RdS W (· < W.heap.size) A (enl hdc L) :=
  open_nest fdc_len (by omega) Try.underlying23 Try.underlying31 cells_fs cells_field (fun _ _ _ h => field_cells3 h) hv h
set_option maxRecDepth 100000 in
theorem open_blocks {W : World} {base : Nat} {v : Value} {d : DataW H} {p : List MemPlace} (hv : Value.okWide Try.prog W .any base 49 v) (h : DataW.Trod hc Try.prog W 0 (fun _ => true) true 49 v d p) :
    ∃ (A : Option Addr) (c : Nat) (L : List (Hd W UInt8 byv)), v = .slice A L.length c ∧ L.length ≤ c ∧ c ≤ maxLen ∧ RdS W (· < W.heap.size) A (enl hdc L) :=
  open_nest byv_len (by omega) Try.underlying49 Try.underlying38 cells_bytes cells_u8 (fun _ _ _ h => u8_cell h) hv h
set_option maxRecDepth 100000 in
theorem open_u32s {W : World} {base : Nat} {v : Value} {d : DataW H} {p : List MemPlace} (hv : Value.okWide Try.prog W .any base 24 v) (h : DataW.Trod hc Try.prog W 0 (fun _ => true) true 24 v d p) :
    ∃ (A : Option Addr) (c : Nat) (L : List N32), v = .slice A L.length c ∧ L.length ≤ c ∧ c ≤ maxLen ∧ RdS W (· < W.heap.size) A (enl n32 L) :=
  open_rows n32_len (by omega) Try.underlying24 cells_u32 (fun _ _ _ h => u32_cell h) hv h
end
end Go.Proofs.Ytfajffchnnalaaa
