/-
  Slices as they come in, with what the reach says of their elements: no text and no slice in them is longer than a machine bears.
-/
import Derived.Test.YtfajffchnnalaaaKopen
import Derived.SizedLaws
namespace Go.Proofs.Ytfajffchnnalaaa
open Go.ChangeShapes Go.WideShapes Go.RowKit Go.Deep

section
variable {H : Type} {hc : TypeId × Value → H} {P : Program} {α : Type} {enc : α → List Value} {k : Nat}

/-- No part of a datum is above the reach. -/
def Lt (P : Program) (t : TypeId) (d : DataW H) : Prop := ∀ n ∈ d.weights P t, n ≤ reachBytes
theorem weightsAll_mem {e : TypeId} {d : DataW H} : ∀ {ds : List (DataW H)}, d ∈ ds → ∀ n ∈ d.weights P e, n ∈ DataW.weightsAll P e ds
  | [], h, _, _ => by simp at h
  | d0 :: ds, h, n, hn => by
    simp only [DataW.weightsAll, List.mem_append]
    rcases List.mem_cons.1 h with rfl | h
    · exact .inl hn
    · exact .inr (weightsAll_mem h n hn)
theorem Lt.of_each {ts : List TypeId} {ds : List (DataW H)} {j : Nat} {t : TypeId} {d : DataW H} (hs : (DataW.weightsEach P ts ds).all (· ≤ reachBytes) = true) (hj : ts[j]? = some t) (hd : ds[j]? = some d) : Lt P t d := fun n hn => by
  have := List.all_eq_true.1 hs _ (DataW.weights_mem_each hj hd n hn)
  simpa using this

theorem rowsW_of_trod {t e : TypeId} (hk : ∀ x, (enc x).length = k) (hk0 : 0 < k) (ht : P.underlying t = some (.slice e)) (hC : P.cellsOf e = k) {W : World}
    (hdec : ∀ (n : Nat) (cs : List Value) (x : DataW H × List MemPlace), DataW.trod hc P W 0 (fun _ => true) true n e cs = some x → Lt P e x.1 → ∃ y : α, cs = enc y)
    {fuel : Nat} {cs : List Value} {x : DataW H × List MemPlace} (hf : DataW.trod hc P W 0 (fun _ => true) true fuel t cs = some x) (hw : Lt P t x.1) :
    ∃ (A : Option Addr) (c : Nat) (L : List α), cs = [.slice A L.length c] ∧ L.length ≤ c ∧ c ≤ maxLen ∧ RdS W (· < W.heap.size) A (enl enc L) ∧ L.length * P.bytesOf e ≤ reachBytes := by
  rcases open_slice ht hf with ⟨hcs, _⟩ | ⟨a, len, cap, m, n, D, Pl, hcs, _, hl, hm, hmm, hx, hi⟩
  · subst hcs
    exact ⟨none, 0, [], rfl, Nat.le_refl _, Nat.zero_le _, RdS.nil, by simp⟩
  · subst hcs
    simp only [if_true] at hmm
    rw [hx] at hw
    have hw1 : len * P.bytesOf e ≤ reachBytes := by
      have h1 := hw ((((List.range len).map D).length + ((List.range (m - len)).map fun j => D (len + j)).length) * P.bytesOf e) (by simp [DataW.weights, ht])
      refine Nat.le_trans (Nat.mul_le_mul_right _ ?_) h1
      simp
    have hwD : ∀ i, i < len → Lt P e (D i) := fun i hi n hn => hw n (by
      simp only [DataW.weights, ht, List.mem_cons, List.mem_append]
      exact .inr (.inl (weightsAll_mem (List.mem_map.2 ⟨i, List.mem_range.2 hi, rfl⟩) n hn)))
    obtain ⟨b, off, spot⟩ := a
    by_cases h0 : len = 0
    · subst h0
      exact ⟨some ⟨b, off, spot⟩, cap, [], rfl, by simp, hm, RdS.nil, by simp⟩
    · have hat : ∀ i, i < len → ∃ y : α, ∀ r, r < k → W.cell? ((⟨b, off, spot⟩ : Addr).add (i * k + r)) = (enc y)[r]? := by
        intro i hil
        obtain ⟨cs', hcells, htr⟩ := hi i (by omega)
        obtain ⟨y, rfl⟩ := hdec n cs' _ htr (hwD i hil)
        obtain ⟨_, _, hget⟩ := World.cells?_some hcells
        refine ⟨y, fun r hr => ?_⟩
        have := hget r (by rw [hC]; exact hr)
        rw [hC] at this
        rw [← this, ← Go.Deep.add_add]
      have hspot : spot = none := by
        obtain ⟨y, hy⟩ := hat 0 (by omega)
        have h1 := hy 0 hk0
        rw [List.getElem?_eq_getElem (by rw [hk]; exact hk0)] at h1
        have h2 := World.cell?_spot h1
        simpa [Addr.add] using h2
      subst hspot
      obtain ⟨L, hL, hcell⟩ := rows_list (w := W) (b := b) (o := off) (len := len) hk (fun i hil => by
        obtain ⟨y, hy⟩ := hat i hil
        exact ⟨y, fun r hr => by rw [← add_plain]; exact hy r hr⟩)
      subst hL
      refine ⟨some ⟨b, off, none⟩, cap, L, rfl, hl, hm, fun hne => ⟨b, off, rfl, ?_, hcell⟩, hw1⟩
      have h1 : 0 < (enl enc L).length := List.length_pos_iff.2 hne
      exact World.block_lt_of_cell? W _ (hcell 0 _ (List.getElem?_eq_getElem h1))
theorem openW {t e : TypeId} (hk : ∀ x, (enc x).length = k) (hk0 : 0 < k) (ht : P.underlying t = some (.slice e)) (hC : P.cellsOf e = k) {W : World}
    (hdec : ∀ (n : Nat) (cs : List Value) (x : DataW H × List MemPlace), DataW.trod hc P W 0 (fun _ => true) true n e cs = some x → Lt P e x.1 → ∃ y : α, cs = enc y)
    {base : Nat} {v : Value} {d : DataW H} {p : List MemPlace} (hv : Value.okWide P W .any base t v) (h : DataW.Trod hc P W 0 (fun _ => true) true t v d p) (hw : Lt P t d) :
    ∃ (A : Option Addr) (c : Nat) (L : List α), v = .slice A L.length c ∧ L.length ≤ c ∧ c ≤ maxLen ∧ RdS W (· < W.heap.size) A (enl enc L) ∧ L.length * P.bytesOf e ≤ reachBytes := by
  obtain ⟨a0, len, cap, rfl⟩ := okWide_slice ht hv
  obtain ⟨fuel, hf⟩ := h
  obtain ⟨A, c, L, e1, e2⟩ := rowsW_of_trod hk hk0 ht hC hdec hf hw
  have e : Value.slice a0 len cap = Value.slice A L.length c := by simpa [Value.cells] using e1
  exact ⟨A, c, L, e, e2⟩
theorem enl_sub {Q : α → Prop} (L : List { y : α // Q y }) : enl (fun y : { y : α // Q y } => enc y.1) L = enl enc (L.map (·.1)) := by
  unfold enl
  induction L with
  | nil => rfl
  | cons y L ih => simp [List.flatMap_cons, ih]
end

section
variable {H : Type} {hc : TypeId × Value → H}
set_option maxRecDepth 100000 in
theorem field_cellsW {W : World} {n : Nat} {cs : List Value} {x : DataW H × List MemPlace} (h : DataW.trod hc Try.prog W 0 (fun _ => true) true n 52 cs = some x) (hw : Lt Try.prog 52 x.1) : ∃ f : { f : Fd // f.nm.length ≤ 140737488351232 ∧ f.vl.length ≤ 140737488351232 }, cs = fdc f.1 := by
  obtain ⟨xs, m, _, hx, hl, hxl, hf⟩ := DataW.trod_struct Try.underlying52 h
  rw [cells_field] at hl
  match cs, hl with
  | [a, b, c], _ =>
    have hxl' : xs.length = 3 := hxl
    match xs, hxl' with
    | [x0, x1, x2], _ =>
      have h0 : DataW.trod hc Try.prog W 0 (fun _ => true) true m 9 (List.take (Try.prog.cellsOf 9) (List.drop 0 [a, b, c])) = some x0 := hf 0 _ rfl
      have h1 : DataW.trod hc Try.prog W 0 (fun _ => true) true m 9 (List.take (Try.prog.cellsOf 9) (List.drop 1 [a, b, c])) = some x1 := hf 1 _ rfl
      have h2 : DataW.trod hc Try.prog W 0 (fun _ => true) true m 4 (List.take (Try.prog.cellsOf 4) (List.drop 2 [a, b, c])) = some x2 := hf 2 _ rfl
      simp only [cells_str, cells_bool, List.drop_succ_cons, List.drop_zero, List.take_succ_cons, List.take_zero] at h0 h1 h2
      obtain ⟨s0, e0, d0, _⟩ := DataW.trod_string Try.underlying9 h0
      obtain ⟨s1, e1, d1, _⟩ := DataW.trod_string Try.underlying9 h1
      obtain ⟨t, e2, _⟩ := DataW.trod_bool Try.underlying4 h2
      subst d0 d1
      have hwE : ∀ q, q ∈ DataW.weightsEach Try.prog [9, 9, 4] [.lit (.string s0.data.toList), .lit (.string s1.data.toList), x2.1] → q ≤ reachBytes := fun q hq => hw q (by
        rw [hx]
        simp only [DataW.weights, Try.underlying52]
        exact hq)
      have b0 := hwE s0.data.toList.length (by simp [DataW.weightsEach, DataW.weights])
      have b1 := hwE s1.data.toList.length (by simp [DataW.weightsEach, DataW.weights])
      refine ⟨⟨⟨s0.data.toList, s1.data.toList, t⟩, b0, b1⟩, ?_⟩
      simp only [List.cons.injEq, and_true] at e0 e1 e2
      subst e0 e1 e2
      simp [fdc, tx]
set_option maxRecDepth 100000 in
theorem open_fieldsW {W : World} {base : Nat} {v : Value} {d : DataW H} {p : List MemPlace} (hv : Value.okWide Try.prog W .any base 31 v) (h : DataW.Trod hc Try.prog W 0 (fun _ => true) true 31 v d p) (hw : Lt Try.prog 31 d) :
    ∃ (A : Option Addr) (c : Nat) (L : List Fd), v = .slice A L.length c ∧ L.length ≤ c ∧ c ≤ maxLen ∧ RdS W (· < W.heap.size) A (enl fdc L) ∧ ∀ f ∈ L, f.nm.length ≤ 140737488351232 ∧ f.vl.length ≤ 140737488351232 := by
  obtain ⟨A, c, L, e1, e2, e3, e4, _⟩ := openW (enc := fun f : { f : Fd // f.nm.length ≤ 140737488351232 ∧ f.vl.length ≤ 140737488351232 } => fdc f.1) (fun _ => fdc_len _) (by omega) Try.underlying31 cells_field (fun _ _ _ h hw => field_cellsW h hw) hv h hw
  rw [enl_sub] at e4
  refine ⟨A, c, L.map (·.1), by simpa using e1, by simpa using e2, e3, e4, fun f hf => ?_⟩
  obtain ⟨y, _, rfl⟩ := List.mem_map.1 hf
  exact y.2
set_option maxRecDepth 100000 in
theorem open_blocksW {W : World} {base : Nat} {v : Value} {d : DataW H} {p : List MemPlace} (hv : Value.okWide Try.prog W .any base 49 v) (h : DataW.Trod hc Try.prog W 0 (fun _ => true) true 49 v d p) (hw : Lt Try.prog 49 d) :
    ∃ (A : Option Addr) (c : Nat) (L : List (Hd W UInt8 byv)), v = .slice A L.length c ∧ L.length ≤ c ∧ c ≤ maxLen ∧ RdS W (· < W.heap.size) A (enl hdc L) ∧ ∀ h ∈ L, h.els.length ≤ 140737488351232 := by
  have hb : Try.prog.bytesOf 5 = 1 := by kernel_rfl
  obtain ⟨A, c, L, e1, e2, e3, e4, _⟩ := openW (enc := fun y : { y : Hd W UInt8 byv // y.els.length ≤ 140737488351232 } => hdc y.1) (fun _ => hdc_len _) (by omega) Try.underlying49 cells_bytes (fun n cs x hx hwx => by
    obtain ⟨A, c, L, q1, q2, q3, q4, q5⟩ := rowsW_of_trod byv_len (by omega) Try.underlying38 cells_u8 (fun _ _ _ h _ => u8_cell h) hx hwx
    rw [hb, Nat.mul_one] at q5
    exact ⟨⟨⟨A, c, L, q2, q3, q4⟩, q5⟩, q1⟩) hv h hw
  rw [enl_sub] at e4
  refine ⟨A, c, L.map (·.1), by simpa using e1, by simpa using e2, e3, e4, fun f hf => ?_⟩
  obtain ⟨y, _, rfl⟩ := List.mem_map.1 hf
  exact y.2
end
end Go.Proofs.Ytfajffchnnalaaa
