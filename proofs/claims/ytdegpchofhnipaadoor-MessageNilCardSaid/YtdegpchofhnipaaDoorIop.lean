/-
  A frame of a socket as it comes in: its numbers fit their kinds, its data are read. No conditions.
-/
import Derived.Test.YtdegpchofhnipaaDoorOpenS
import Derived.Test.YtdegpchofhnipaaDoorPost
import Derived.Test.YtdegpchofhnipaaDoorIma
import Derived.Lib.SmallJoins
namespace Go.Proofs.YtdegpchofhnipaaDoor
open Go.ChangeShapes Go.WideShapes Go.RowKit Go.Deep Go.Joins

theorem wf_u64I {x : Int} (h : (Lit.int .u64 x).wf = true) : 0 ≤ x ∧ x < 18446744073709551616 := by
  have h1 : IntKind.u64.min = 0 := rfl
  have h2 : IntKind.u64.max = 18446744073709551615 := rfl
  simp only [Lit.wf, Bool.and_eq_true, decide_eq_true_eq] at h
  omega
theorem nat_ofI {x : Int} {b : Int} (h : 0 ≤ x ∧ x < b) : ∃ n : Nat, x = (n : Int) ∧ (n : Int) < b := ⟨x.toNat, by omega, by omega⟩
section
variable {H : Type} {hc : TypeId × Value → H}
theorem cells_piece : Tryd.prog.cellsOf 32 = 5 := by kernel_rfl
theorem cellsI_u8 : Tryd.prog.cellsOf 5 = 1 := by kernel_rfl
theorem cellsI_u32 : Tryd.prog.cellsOf 29 = 1 := by kernel_rfl
theorem cellsI_bool : Tryd.prog.cellsOf 4 = 1 := by kernel_rfl
theorem cellsI_bytes : Tryd.prog.cellsOf 30 = 1 := by kernel_rfl
/-- A slice of bytes among a struct's cells. -/
theorem open_bytesI {P : Program} {t e : TypeId} (ht : P.underlying t = some (.slice e)) (he : P.underlying e = some (.int .u8)) (hce : P.cellsOf e = 1) {W : World} {n : Nat} {cs : List Value} {x : DataW H × List MemPlace}
    (h : DataW.trod hc P W 0 (fun _ => true) true n t cs = some x) :
    ∃ (A : Option Addr) (c : Nat) (l : List UInt8), cs = [.slice A l.length c] ∧ RdB W W.heap.size A l := by
  rcases open_ints ht he hce h with ⟨hcs, _⟩ | ⟨a, len, cap, zs, hcs, _, hl, hm, hz, _, hcell, hwz⟩
  · exact ⟨none, 0, [], hcs, RdB.nil⟩
  · simp only [if_true] at hz
    have hlen : ((zs.take len).map fun n => UInt8.ofNat n.toNat).length = len := by simp; omega
    refine ⟨some a, cap, (zs.take len).map fun n => UInt8.ofNat n.toNat, by rw [hlen]; exact hcs, fun hne => ?_⟩
    have h0 : 0 < len := by
      rcases Nat.eq_zero_or_pos len with h0 | h0
      · subst h0; simp at hne
      · exact h0
    obtain ⟨b, off, spot⟩ := a
    have hspot : spot = none := by
      have h1 := World.cell?_spot (hcell 0 (by omega))
      simpa [Addr.add] using h1
    subst hspot
    refine ⟨b, off, rfl, ?_, fun j hj => ?_⟩
    · have := World.block_lt_of_cell? W _ (hcell 0 (by omega))
      rwa [add_plain] at this
    · rw [hlen] at hj
      have hc := hcell j (by omega)
      rw [add_plain] at hc
      rw [hc]
      have hz1 : zs.getD j 0 = zs[j] := by simp [List.getD, show j < zs.length by omega]
      obtain ⟨w0, w1⟩ := wf_u8 (hwz zs[j] (List.getElem_mem ..))
      simp only [List.getElem_map, List.getElem_take]
      rw [hz1, byte_back w0 w1]
set_option maxRecDepth 100000 in
theorem piece_cells {W : World} {n : Nat} {cs : List Value} {x : DataW H × List MemPlace} (h : DataW.trod hc Tryd.prog W 0 (fun _ => true) true n 32 cs = some x) :
    ∃ (p : Pc) (A : Option Addr) (c : Nat), cs = (pcC p.fin p.op p.mask p.key A p.dat.length c).toList ∧ p.op < 256 ∧ p.key < 4294967296 ∧ RdB W W.heap.size A p.dat := by
  obtain ⟨xs, m, _, _, hl, hxl, hf⟩ := DataW.trod_struct Tryd.underlying32 h
  rw [cells_piece] at hl
  match cs, hl with
  | [a0, a1, a2, a3, a4], _ =>
    have hxl' : xs.length = 5 := hxl
    have h0 : DataW.trod hc Tryd.prog W 0 (fun _ => true) true m 4 (List.take (Tryd.prog.cellsOf 4) (List.drop 0 [a0, a1, a2, a3, a4])) = xs[0]? := hf 0 _ rfl
    have h1 : DataW.trod hc Tryd.prog W 0 (fun _ => true) true m 5 (List.take (Tryd.prog.cellsOf 5) (List.drop 1 [a0, a1, a2, a3, a4])) = xs[1]? := hf 1 _ rfl
    have h2 : DataW.trod hc Tryd.prog W 0 (fun _ => true) true m 4 (List.take (Tryd.prog.cellsOf 4) (List.drop 2 [a0, a1, a2, a3, a4])) = xs[2]? := hf 2 _ rfl
    have h3 : DataW.trod hc Tryd.prog W 0 (fun _ => true) true m 29 (List.take (Tryd.prog.cellsOf 29) (List.drop 3 [a0, a1, a2, a3, a4])) = xs[3]? := hf 3 _ rfl
    have h4 : DataW.trod hc Tryd.prog W 0 (fun _ => true) true m 30 (List.take (Tryd.prog.cellsOf 30) (List.drop 4 [a0, a1, a2, a3, a4])) = xs[4]? := hf 4 _ rfl
    rw [List.getElem?_eq_getElem (by omega)] at h0 h1 h2 h3 h4
    simp only [cellsI_u8, cellsI_u32, cellsI_bool, cellsI_bytes, List.drop_succ_cons, List.drop_zero, List.take_succ_cons, List.take_zero] at h0 h1 h2 h3 h4
    obtain ⟨t0, e0, _⟩ := DataW.trod_bool Tryd.underlying4 h0
    obtain ⟨n1, e1, _, w1⟩ := DataW.trod_int Tryd.underlying5 h1
    obtain ⟨t2, e2, _⟩ := DataW.trod_bool Tryd.underlying4 h2
    obtain ⟨n3, e3, _, w3⟩ := DataW.trod_int Tryd.underlying29 h3
    obtain ⟨A, c, dat, e4, hd⟩ := open_bytesI Tryd.underlying30 Tryd.underlying5 cellsI_u8 h4
    obtain ⟨k1, rfl, b1⟩ := nat_ofI (wf_u8 w1)
    obtain ⟨k3, rfl, b3⟩ := nat_ofI (wf_u32 w3)
    simp only [List.cons.injEq, and_true] at e0 e1 e2 e3 e4
    subst e0 e1 e2 e3 e4
    have g1 : k1 < 256 := by omega
    have g3 : k3 < 4294967296 := by omega
    exact ⟨⟨t0, k1, t2, k3, dat⟩, A, c, rfl, g1, g3, hd⟩
set_option maxRecDepth 100000 in
theorem open_piece {W : World} {base : Nat} {v : Value} {d : DataW H} {p : List MemPlace} (hv : Value.okWide Tryd.prog W .any base 32 v) (h : DataW.Trod hc Tryd.prog W 0 (fun _ => true) true 32 v d p) :
    ∃ (q : Pc) (A : Option Addr) (c : Nat), v = .agg (pcC q.fin q.op q.mask q.key A q.dat.length c) ∧ q.op < 256 ∧ q.key < 4294967296 ∧ RdB W W.heap.size A q.dat := by
  obtain ⟨cs, rfl, _⟩ := okWide_struct Tryd.underlying32 hv
  obtain ⟨fuel, hf⟩ := h
  obtain ⟨q, A, c, hcs, h1, h2, h3⟩ := piece_cells hf
  have : cs.toList = (pcC q.fin q.op q.mask q.key A q.dat.length c).toList := hcs
  exact ⟨q, A, c, congrArg _ (Array.toList_inj.1 this), h1, h2, h3⟩
end
end Go.Proofs.YtdegpchofhnipaaDoor
