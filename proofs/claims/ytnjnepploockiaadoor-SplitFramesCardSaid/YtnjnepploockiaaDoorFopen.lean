/-
  A frame as it comes in: its numbers fit their kinds, its data and its settings are read. No conditions.
-/
import Derived.Test.YtnjnepploockiaaDoorOpenS
import Derived.Test.YtnjnepploockiaaDoorRpay
import Derived.Lib.SmallJoins
namespace Go.Proofs.YtnjnepploockiaaDoor
open Go.ChangeShapes Go.WideShapes Go.RowKit Go.Deep Go.Joins

section
variable {H : Type} {hc : TypeId × Value → H}
theorem cells_frame : Tryd.prog.cellsOf 36 = 11 := by kernel_rfl
theorem cells_set : Tryd.prog.cellsOf 72 = 2 := by kernel_rfl
theorem cells_u8 : Tryd.prog.cellsOf 5 = 1 := by kernel_rfl
theorem cells_u16 : Tryd.prog.cellsOf 53 = 1 := by kernel_rfl
theorem cells_u32 : Tryd.prog.cellsOf 33 = 1 := by kernel_rfl
theorem cells_i64 : Tryd.prog.cellsOf 3 = 1 := by kernel_rfl
theorem cells_bool : Tryd.prog.cellsOf 4 = 1 := by kernel_rfl
theorem cells_bytes : Tryd.prog.cellsOf 22 = 1 := by kernel_rfl
theorem cells_sets : Tryd.prog.cellsOf 34 = 1 := by kernel_rfl

/-- A setting whose numbers fit. -/
def SetB : Type := {s : Nat × Nat // s.1 < 65536 ∧ s.2 < 4294967296}
def sbc (s : SetB) : List Value := sgc s.1
theorem sbc_len (s : SetB) : (sbc s).length = 2 := sgc_len _
theorem enl_sbc : ∀ L : List SetB, enl sbc L = enl sgc (L.map (·.1))
  | [] => rfl
  | s :: L => by
    have h := enl_sbc L
    unfold enl at *
    rw [List.map_cons, List.flatMap_cons, List.flatMap_cons, h]
    rfl
theorem nat_of {x : Int} {b : Int} (h : 0 ≤ x ∧ x < b) : ∃ n : Nat, x = (n : Int) ∧ (n : Int) < b := ⟨x.toNat, by omega, by omega⟩
set_option maxRecDepth 100000 in
theorem set_cells {W : World} {n : Nat} {cs : List Value} {x : DataW H × List MemPlace} (h : DataW.trod hc Tryd.prog W 0 (fun _ => true) true n 72 cs = some x) : ∃ s : SetB, cs = sbc s := by
  obtain ⟨xs, m, _, _, hl, hxl, hf⟩ := DataW.trod_struct Tryd.underlying72 h
  rw [cells_set] at hl
  match cs, hl with
  | [a, b], _ =>
    have hxl' : xs.length = 2 := hxl
    have h0 : DataW.trod hc Tryd.prog W 0 (fun _ => true) true m 53 (List.take (Tryd.prog.cellsOf 53) (List.drop 0 [a, b])) = xs[0]? := hf 0 _ rfl
    have h1 : DataW.trod hc Tryd.prog W 0 (fun _ => true) true m 33 (List.take (Tryd.prog.cellsOf 33) (List.drop 1 [a, b])) = xs[1]? := hf 1 _ rfl
    rw [List.getElem?_eq_getElem (by omega)] at h0 h1
    simp only [cells_u16, cells_u32, List.drop_succ_cons, List.drop_zero, List.take_succ_cons, List.take_zero] at h0 h1
    obtain ⟨n0, e0, _, w0⟩ := DataW.trod_int Tryd.underlying53 h0
    obtain ⟨n1, e1, _, w1⟩ := DataW.trod_int Tryd.underlying33 h1
    obtain ⟨k0, rfl, b0⟩ := nat_of (wf_u16 w0)
    obtain ⟨k1, rfl, b1⟩ := nat_of (wf_u32 w1)
    simp only [List.cons.injEq, and_true] at e0 e1
    subst e0 e1
    exact ⟨⟨(k0, k1), by simp only; omega⟩, rfl⟩
/-- A slice of bytes among a struct's cells. -/
theorem open_bytesC {P : Program} {t e : TypeId} (ht : P.underlying t = some (.slice e)) (he : P.underlying e = some (.int .u8)) (hce : P.cellsOf e = 1) {W : World} {n : Nat} {cs : List Value} {x : DataW H × List MemPlace}
    (h : DataW.trod hc P W 0 (fun _ => true) true n t cs = some x) :
    ∃ (A : Option Addr) (c : Nat) (l : List UInt8), cs = [.slice A l.length c] ∧ RdB W W.heap.size A l := by
  rcases open_ints ht he hce h with ⟨hcs, _⟩ | ⟨a, len, cap, zs, hcs, _, hl, hm, hz, _, hcell, hwz⟩
  · exact ⟨none, 0, [], hcs, RdB.nil⟩
  · simp only [if_true] at hz
    have hlen : ((zs.take len).map fun n => UInt8.ofNat n.toNat).length = len := by simp; omega
    refine ⟨some a, cap, (zs.take len).map fun n => UInt8.ofNat n.toNat, by rw [hlen]; exact hcs, fun hne => ?_⟩
    have h0 : 0 < len := by
      rcases Nat.eq_zero_or_pos len with h0 | h0
      · subst h0; simp at hne
      · exact h0
    obtain ⟨b, off, spot⟩ := a
    have hspot : spot = none := by
      have h1 := World.cell?_spot (hcell 0 (by omega))
      simpa [Addr.add] using h1
    subst hspot
    refine ⟨b, off, rfl, ?_, fun j hj => ?_⟩
    · have := World.block_lt_of_cell? W _ (hcell 0 (by omega))
      rwa [add_plain] at this
    · rw [hlen] at hj
      have hc := hcell j (by omega)
      rw [add_plain] at hc
      rw [hc]
      have hz1 : zs.getD j 0 = zs[j] := by simp [List.getD, show j < zs.length by omega]
      obtain ⟨w0, w1⟩ := wf_u8 (hwz zs[j] (List.getElem_mem ..))
      simp only [List.getElem_map, List.getElem_take]
      rw [hz1, byte_back w0 w1]
/-- A slice of structs among a struct's cells. -/
theorem open_rowsC {α : Type} {enc : α → List Value} {k : Nat} {P : Program} {t e : TypeId} (hk : ∀ x, (enc x).length = k) (hk0 : 0 < k) (ht : P.underlying t = some (.slice e)) (hC : P.cellsOf e = k) {W : World}
    (hdec : ∀ (n : Nat) (cs : List Value) (x : DataW H × List MemPlace), DataW.trod hc P W 0 (fun _ => true) true n e cs = some x → ∃ y : α, cs = enc y)
    {n : Nat} {cs : List Value} {x : DataW H × List MemPlace} (h : DataW.trod hc P W 0 (fun _ => true) true n t cs = some x) :
    ∃ (A : Option Addr) (c : Nat) (L : List α), cs = [.slice A L.length c] ∧ RdS W (· < W.heap.size) A (enl enc L) := by
  rcases open_slice ht h with ⟨hcs, _⟩ | ⟨a, len, cap, m, n', D, Pl, hcs, _, hl, hm, hmm, hx, hi⟩
  · exact ⟨none, 0, [], hcs, RdS.nil⟩
  · simp only [if_true] at hmm
    obtain ⟨b, off, spot⟩ := a
    by_cases h0 : len = 0
    · subst h0
      exact ⟨some ⟨b, off, spot⟩, cap, [], hcs, RdS.nil⟩
    · have hat : ∀ i, i < len → ∃ y : α, ∀ r, r < k → W.cell? ((⟨b, off, spot⟩ : Addr).add (i * k + r)) = (enc y)[r]? := by
        intro i hil
        obtain ⟨cs', hcells, htr⟩ := hi i (by omega)
        obtain ⟨y, rfl⟩ := hdec n' cs' _ htr
        obtain ⟨_, _, hget⟩ := World.cells?_some hcells
        refine ⟨y, fun r hr => ?_⟩
        have := hget r (by rw [hC]; exact hr)
        rw [hC] at this
        rw [← this, ← Go.Deep.add_add]
      have hspot : spot = none := by
        obtain ⟨y, hy⟩ := hat 0 (by omega)
        have h1 := hy 0 hk0
        rw [List.getElem?_eq_getElem (by rw [hk]; exact hk0)] at h1
        have h2 := World.cell?_spot h1
        simpa [Addr.add] using h2
      subst hspot
      obtain ⟨L, hL, hcell⟩ := rows_list (w := W) (b := b) (o := off) (len := len) hk (fun i hil => by
        obtain ⟨y, hy⟩ := hat i hil
        exact ⟨y, fun r hr => by rw [← add_plain]; exact hy r hr⟩)
      subst hL
      refine ⟨some ⟨b, off, none⟩, cap, L, hcs, fun hne => ⟨b, off, rfl, ?_, hcell⟩⟩
      have h1 : 0 < (enl enc L).length := List.length_pos_iff.2 hne
      exact World.block_lt_of_cell? W _ (hcell 0 _ (List.getElem?_eq_getElem h1))
set_option maxRecDepth 100000 in
theorem frame_cells {W : World} {n : Nat} {cs : List Value} {x : DataW H × List MemPlace} (h : DataW.trod hc Tryd.prog W 0 (fun _ => true) true n 36 cs = some x) :
    ∃ (F : Frm) (dA : Option Addr) (dc : Nat) (sA : Option Addr) (sc : Nat), cs = (F.fm dA dc sA sc).c.toList ∧ F.All ∧ RdB W W.heap.size dA F.dat ∧ RdS W (· < W.heap.size) sA (enl sgc F.sets) := by
  obtain ⟨xs, m, _, _, hl, hxl, hf⟩ := DataW.trod_struct Tryd.underlying36 h
  rw [cells_frame] at hl
  match cs, hl with
  | [a0, a1, a2, a3, a4, a5, a6, a7, a8, a9, a10], _ =>
    have hxl' : xs.length = 11 := hxl
    have h0 : DataW.trod hc Tryd.prog W 0 (fun _ => true) true m 5 (List.take (Tryd.prog.cellsOf 5) (List.drop 0 [a0, a1, a2, a3, a4, a5, a6, a7, a8, a9, a10])) = xs[0]? := hf 0 _ rfl
    have h1 : DataW.trod hc Tryd.prog W 0 (fun _ => true) true m 5 (List.take (Tryd.prog.cellsOf 5) (List.drop 1 [a0, a1, a2, a3, a4, a5, a6, a7, a8, a9, a10])) = xs[1]? := hf 1 _ rfl
    have h2 : DataW.trod hc Tryd.prog W 0 (fun _ => true) true m 33 (List.take (Tryd.prog.cellsOf 33) (List.drop 2 [a0, a1, a2, a3, a4, a5, a6, a7, a8, a9, a10])) = xs[2]? := hf 2 _ rfl
    have h3 : DataW.trod hc Tryd.prog W 0 (fun _ => true) true m 22 (List.take (Tryd.prog.cellsOf 22) (List.drop 3 [a0, a1, a2, a3, a4, a5, a6, a7, a8, a9, a10])) = xs[3]? := hf 3 _ rfl
    have h4 : DataW.trod hc Tryd.prog W 0 (fun _ => true) true m 3 (List.take (Tryd.prog.cellsOf 3) (List.drop 4 [a0, a1, a2, a3, a4, a5, a6, a7, a8, a9, a10])) = xs[4]? := hf 4 _ rfl
    have h5 : DataW.trod hc Tryd.prog W 0 (fun _ => true) true m 33 (List.take (Tryd.prog.cellsOf 33) (List.drop 5 [a0, a1, a2, a3, a4, a5, a6, a7, a8, a9, a10])) = xs[5]? := hf 5 _ rfl
    have h6 : DataW.trod hc Tryd.prog W 0 (fun _ => true) true m 33 (List.take (Tryd.prog.cellsOf 33) (List.drop 6 [a0, a1, a2, a3, a4, a5, a6, a7, a8, a9, a10])) = xs[6]? := hf 6 _ rfl
    have h7 : DataW.trod hc Tryd.prog W 0 (fun _ => true) true m 5 (List.take (Tryd.prog.cellsOf 5) (List.drop 7 [a0, a1, a2, a3, a4, a5, a6, a7, a8, a9, a10])) = xs[7]? := hf 7 _ rfl
    have h8 : DataW.trod hc Tryd.prog W 0 (fun _ => true) true m 4 (List.take (Tryd.prog.cellsOf 4) (List.drop 8 [a0, a1, a2, a3, a4, a5, a6, a7, a8, a9, a10])) = xs[8]? := hf 8 _ rfl
    have h9 : DataW.trod hc Tryd.prog W 0 (fun _ => true) true m 33 (List.take (Tryd.prog.cellsOf 33) (List.drop 9 [a0, a1, a2, a3, a4, a5, a6, a7, a8, a9, a10])) = xs[9]? := hf 9 _ rfl
    have h10 : DataW.trod hc Tryd.prog W 0 (fun _ => true) true m 34 (List.take (Tryd.prog.cellsOf 34) (List.drop 10 [a0, a1, a2, a3, a4, a5, a6, a7, a8, a9, a10])) = xs[10]? := hf 10 _ rfl
    rw [List.getElem?_eq_getElem (by omega)] at h0 h1 h2 h3 h4 h5 h6 h7 h8 h9 h10
    simp only [cells_u8, cells_u32, cells_i64, cells_bool, cells_bytes, cells_sets, List.drop_succ_cons, List.drop_zero, List.take_succ_cons, List.take_zero] at h0 h1 h2 h3 h4 h5 h6 h7 h8 h9 h10
    obtain ⟨n0, e0, _, w0⟩ := DataW.trod_int Tryd.underlying5 h0
    obtain ⟨n1, e1, _, w1⟩ := DataW.trod_int Tryd.underlying5 h1
    obtain ⟨n2, e2, _, w2⟩ := DataW.trod_int Tryd.underlying33 h2
    obtain ⟨dA, dc, dat, e3, hd⟩ := open_bytesC Tryd.underlying22 Tryd.underlying5 cells_u8 h3
    obtain ⟨n4, e4, _, _⟩ := DataW.trod_int Tryd.underlying3 h4
    obtain ⟨n5, e5, _, w5⟩ := DataW.trod_int Tryd.underlying33 h5
    obtain ⟨n6, e6, _, w6⟩ := DataW.trod_int Tryd.underlying33 h6
    obtain ⟨n7, e7, _, w7⟩ := DataW.trod_int Tryd.underlying5 h7
    obtain ⟨t8, e8, _⟩ := DataW.trod_bool Tryd.underlying4 h8
    obtain ⟨n9, e9, _, w9⟩ := DataW.trod_int Tryd.underlying33 h9
    obtain ⟨sA, sc, L, e10, hs⟩ := open_rowsC sbc_len (by omega) Tryd.underlying34 cells_set (fun _ _ _ h => set_cells h) h10
    obtain ⟨k0, rfl, b0⟩ := nat_of (wf_u8 w0)
    obtain ⟨k1, rfl, b1⟩ := nat_of (wf_u8 w1)
    obtain ⟨k2, rfl, b2⟩ := nat_of (wf_u32 w2)
    obtain ⟨k5, rfl, b5⟩ := nat_of (wf_u32 w5)
    obtain ⟨k6, rfl, b6⟩ := nat_of (wf_u32 w6)
    obtain ⟨k7, rfl, b7⟩ := nat_of (wf_u8 w7)
    obtain ⟨k9, rfl, b9⟩ := nat_of (wf_u32 w9)
    simp only [List.cons.injEq, and_true] at e0 e1 e2 e3 e4 e5 e6 e7 e8 e9 e10
    subst e0 e1 e2 e3 e4 e5 e6 e7 e8 e9 e10
    have g0 : k0 < 256 := by omega
    have g1 : k1 < 256 := by omega
    have g2 : k2 < 4294967296 := by omega
    have g5 : k5 < 4294967296 := by omega
    have g6 : k6 < 4294967296 := by omega
    have g7 : k7 < 256 := by omega
    have g9 : k9 < 4294967296 := by omega
    rw [enl_sbc] at hs
    refine ⟨⟨k0, k1, k2, dat, n4, k5, k6, k7, t8, k9, L.map (·.1)⟩, dA, dc, sA, sc, ?_, ⟨⟨g0, g1, g5, g7, fun s hs => ?_⟩, g2, g6, g9⟩, hd, hs⟩
    · unfold Frm.fm Fm.c
      simp only [List.length_map]
    · obtain ⟨s', _, rfl⟩ := List.mem_map.1 hs
      exact s'.2
set_option maxRecDepth 100000 in
theorem open_frame {W : World} {base : Nat} {v : Value} {d : DataW H} {p : List MemPlace} (hv : Value.okWide Tryd.prog W .any base 36 v) (h : DataW.Trod hc Tryd.prog W 0 (fun _ => true) true 36 v d p) :
    ∃ (F : Frm) (dA : Option Addr) (dc : Nat) (sA : Option Addr) (sc : Nat), v = .agg (F.fm dA dc sA sc).c ∧ F.All ∧ RdB W W.heap.size dA F.dat ∧ RdS W (· < W.heap.size) sA (enl sgc F.sets) := by
  obtain ⟨cs, rfl, _⟩ := okWide_struct Tryd.underlying36 hv
  obtain ⟨fuel, hf⟩ := h
  obtain ⟨F, dA, dc, sA, sc, hcs, h1, h2, h3⟩ := frame_cells hf
  have : cs.toList = (F.fm dA dc sA sc).c.toList := hcs
  exact ⟨F, dA, dc, sA, sc, congrArg _ (Array.toList_inj.1 this), h1, h2, h3⟩
end
end Go.Proofs.YtnjnepploockiaaDoor
