/-
  A frame, and a row of frames, as they come in: their cells, their data read. No conditions.
-/
import Derived.Test.YtcbepicdnmnfaaaDoorOpenN
import Derived.Test.YtcbepicdnmnfaaaDoorFm
import Derived.Test.YtcbepicdnmnfaaaDoorFs
import Derived.Lib.SmallJoins
namespace Go.Proofs.YtcbepicdnmnfaaaDoor
open Go.ChangeShapes Go.WideShapes Go.RowKit Go.Deep Go.Joins

/-- A frame as it lies in memory, and its data. -/
structure Be where
  x : Fm
  d : List UInt8
  hd : x.dn = d.length
  hty : x.ty < 256
  hfl : x.fl < 256
  hst : x.st < 4294967296
def bec (e : Be) : List Value := e.x.c.toList
theorem bec_len (e : Be) : (bec e).length = 11 := by unfold bec Fm.c; rfl
/-- .. whose data is read. -/
def BeW (W : World) : Type := {e : Be // RdB W W.heap.size e.x.dA e.d}
def bew (W : World) (e : BeW W) : List Value := bec e.1
theorem bew_len (W : World) (e : BeW W) : (bew W e).length = 11 := bec_len _
theorem enl_bew {W : World} : ∀ L : List (BeW W), enl (bew W) L = enl bec (L.map (·.1))
  | [] => rfl
  | s :: L => by
    have h := enl_bew L
    unfold enl at *
    rw [List.map_cons, List.flatMap_cons, List.flatMap_cons, h]
    rfl
theorem nat_of {x : Int} {b : Int} (h : 0 ≤ x ∧ x < b) : ∃ n : Nat, x = (n : Int) ∧ (n : Int) < b := ⟨x.toNat, by omega, by omega⟩
section
variable {H : Type} {hc : TypeId × Value → H}
theorem cells_frame : Tryd.prog.cellsOf 32 = 11 := by kernel_rfl
theorem cells_u8 : Tryd.prog.cellsOf 5 = 1 := by kernel_rfl
theorem cells_u32 : Tryd.prog.cellsOf 26 = 1 := by kernel_rfl
theorem cells_i64 : Tryd.prog.cellsOf 3 = 1 := by kernel_rfl
theorem cells_bool : Tryd.prog.cellsOf 4 = 1 := by kernel_rfl
theorem cells_bytes : Tryd.prog.cellsOf 29 = 1 := by kernel_rfl
theorem cells_sets : Tryd.prog.cellsOf 30 = 1 := by kernel_rfl
/-- A slice among a struct's cells, whatever it holds. -/
theorem any_slice {P : Program} {t e : TypeId} (ht : P.underlying t = some (.slice e)) {W : World} {n : Nat} {cs : List Value} {x : DataW H × List MemPlace} (h : DataW.trod hc P W 0 (fun _ => true) true n t cs = some x) : ∃ (A : Option Addr) (l c : Nat), cs = [.slice A l c] := by
  rcases open_slice ht h with ⟨hcs, _⟩ | ⟨a, len, cap, m, n', D, Pl, hcs, _⟩
  · exact ⟨_, _, _, hcs⟩
  · exact ⟨_, _, _, hcs⟩
/-- A slice of bytes among a struct's cells. -/
theorem open_bytesC {P : Program} {t e : TypeId} (ht : P.underlying t = some (.slice e)) (he : P.underlying e = some (.int .u8)) (hce : P.cellsOf e = 1) {W : World} {n : Nat} {cs : List Value} {x : DataW H × List MemPlace}
    (h : DataW.trod hc P W 0 (fun _ => true) true n t cs = some x) :
    ∃ (A : Option Addr) (c : Nat) (l : List UInt8), cs = [.slice A l.length c] ∧ RdB W W.heap.size A l := by
  rcases open_ints ht he hce h with ⟨hcs, _⟩ | ⟨a, len, cap, zs, hcs, _, hl, hm, hz, _, hcell, hwz⟩
  · exact ⟨none, 0, [], hcs, RdB.nil⟩
  · simp only [if_true] at hz
    have hlen : ((zs.take len).map fun n => UInt8.ofNat n.toNat).length = len := by simp; omega
    refine ⟨some a, cap, (zs.take len).map fun n => UInt8.ofNat n.toNat, by rw [hlen]; exact hcs, fun hne => ?_⟩
    have h0 : 0 < len := by
      rcases Nat.eq_zero_or_pos len with h0 | h0
      · subst h0; simp at hne
      · exact h0
    obtain ⟨b, off, spot⟩ := a
    have hspot : spot = none := by
      have h1 := World.cell?_spot (hcell 0 (by omega))
      simpa [Addr.add] using h1
    subst hspot
    refine ⟨b, off, rfl, ?_, fun j hj => ?_⟩
    · have := World.block_lt_of_cell? W _ (hcell 0 (by omega))
      rwa [add_plain] at this
    · rw [hlen] at hj
      have hc := hcell j (by omega)
      rw [add_plain] at hc
      rw [hc]
      have hz1 : zs.getD j 0 = zs[j] := by simp [List.getD, show j < zs.length by omega]
      obtain ⟨w0, w1⟩ := wf_u8 (hwz zs[j] (List.getElem_mem ..))
      simp only [List.getElem_map, List.getElem_take]
      rw [hz1, byte_back w0 w1]
set_option maxRecDepth 100000 in
theorem frame_cells {W : World} {n : Nat} {cs : List Value} {x : DataW H × List MemPlace} (h : DataW.trod hc Tryd.prog W 0 (fun _ => true) true n 32 cs = some x) : ∃ e : BeW W, cs = bew W e := by
  obtain ⟨xs, m, _, _, hl, hxl, hf⟩ := DataW.trod_struct Tryd.underlying32 h
  rw [cells_frame] at hl
  match cs, hl with
  | [a0, a1, a2, a3, a4, a5, a6, a7, a8, a9, a10], _ =>
    have hxl' : xs.length = 11 := hxl
    have h0 : DataW.trod hc Tryd.prog W 0 (fun _ => true) true m 5 (List.take (Tryd.prog.cellsOf 5) (List.drop 0 [a0, a1, a2, a3, a4, a5, a6, a7, a8, a9, a10])) = xs[0]? := hf 0 _ rfl
    have h1 : DataW.trod hc Tryd.prog W 0 (fun _ => true) true m 5 (List.take (Tryd.prog.cellsOf 5) (List.drop 1 [a0, a1, a2, a3, a4, a5, a6, a7, a8, a9, a10])) = xs[1]? := hf 1 _ rfl
    have h2 : DataW.trod hc Tryd.prog W 0 (fun _ => true) true m 26 (List.take (Tryd.prog.cellsOf 26) (List.drop 2 [a0, a1, a2, a3, a4, a5, a6, a7, a8, a9, a10])) = xs[2]? := hf 2 _ rfl
    have h3 : DataW.trod hc Tryd.prog W 0 (fun _ => true) true m 29 (List.take (Tryd.prog.cellsOf 29) (List.drop 3 [a0, a1, a2, a3, a4, a5, a6, a7, a8, a9, a10])) = xs[3]? := hf 3 _ rfl
    have h4 : DataW.trod hc Tryd.prog W 0 (fun _ => true) true m 3 (List.take (Tryd.prog.cellsOf 3) (List.drop 4 [a0, a1, a2, a3, a4, a5, a6, a7, a8, a9, a10])) = xs[4]? := hf 4 _ rfl
    have h5 : DataW.trod hc Tryd.prog W 0 (fun _ => true) true m 26 (List.take (Tryd.prog.cellsOf 26) (List.drop 5 [a0, a1, a2, a3, a4, a5, a6, a7, a8, a9, a10])) = xs[5]? := hf 5 _ rfl
    have h6 : DataW.trod hc Tryd.prog W 0 (fun _ => true) true m 26 (List.take (Tryd.prog.cellsOf 26) (List.drop 6 [a0, a1, a2, a3, a4, a5, a6, a7, a8, a9, a10])) = xs[6]? := hf 6 _ rfl
    have h7 : DataW.trod hc Tryd.prog W 0 (fun _ => true) true m 5 (List.take (Tryd.prog.cellsOf 5) (List.drop 7 [a0, a1, a2, a3, a4, a5, a6, a7, a8, a9, a10])) = xs[7]? := hf 7 _ rfl
    have h8 : DataW.trod hc Tryd.prog W 0 (fun _ => true) true m 4 (List.take (Tryd.prog.cellsOf 4) (List.drop 8 [a0, a1, a2, a3, a4, a5, a6, a7, a8, a9, a10])) = xs[8]? := hf 8 _ rfl
    have h9 : DataW.trod hc Tryd.prog W 0 (fun _ => true) true m 26 (List.take (Tryd.prog.cellsOf 26) (List.drop 9 [a0, a1, a2, a3, a4, a5, a6, a7, a8, a9, a10])) = xs[9]? := hf 9 _ rfl
    have h10 : DataW.trod hc Tryd.prog W 0 (fun _ => true) true m 30 (List.take (Tryd.prog.cellsOf 30) (List.drop 10 [a0, a1, a2, a3, a4, a5, a6, a7, a8, a9, a10])) = xs[10]? := hf 10 _ rfl
    rw [List.getElem?_eq_getElem (by omega)] at h0 h1 h2 h3 h4 h5 h6 h7 h8 h9 h10
    simp only [cells_u8, cells_u32, cells_i64, cells_bool, cells_bytes, cells_sets, List.drop_succ_cons, List.drop_zero, List.take_succ_cons, List.take_zero] at h0 h1 h2 h3 h4 h5 h6 h7 h8 h9 h10
    obtain ⟨n0, e0, _, w0⟩ := DataW.trod_int Tryd.underlying5 h0
    obtain ⟨n1, e1, _, w1⟩ := DataW.trod_int Tryd.underlying5 h1
    obtain ⟨n2, e2, _, w2⟩ := DataW.trod_int Tryd.underlying26 h2
    obtain ⟨dA, dc, dat, e3, hd⟩ := open_bytesC Tryd.underlying29 Tryd.underlying5 cells_u8 h3
    obtain ⟨n4, e4, _, _⟩ := DataW.trod_int Tryd.underlying3 h4
    obtain ⟨n5, e5, _, w5⟩ := DataW.trod_int Tryd.underlying26 h5
    obtain ⟨n6, e6, _, w6⟩ := DataW.trod_int Tryd.underlying26 h6
    obtain ⟨n7, e7, _, w7⟩ := DataW.trod_int Tryd.underlying5 h7
    obtain ⟨t8, e8, _⟩ := DataW.trod_bool Tryd.underlying4 h8
    obtain ⟨n9, e9, _, w9⟩ := DataW.trod_int Tryd.underlying26 h9
    obtain ⟨sA, sl, sc, e10⟩ := any_slice Tryd.underlying30 h10
    obtain ⟨k0, rfl, b0⟩ := nat_of (wf_u8 w0)
    obtain ⟨k1, rfl, b1⟩ := nat_of (wf_u8 w1)
    obtain ⟨k2, rfl, b2⟩ := nat_of (wf_u32 w2)
    obtain ⟨k5, rfl, b5⟩ := nat_of (wf_u32 w5)
    obtain ⟨k6, rfl, b6⟩ := nat_of (wf_u32 w6)
    obtain ⟨k7, rfl, b7⟩ := nat_of (wf_u8 w7)
    obtain ⟨k9, rfl, b9⟩ := nat_of (wf_u32 w9)
    simp only [List.cons.injEq, and_true] at e0 e1 e2 e3 e4 e5 e6 e7 e8 e9 e10
    subst e0 e1 e2 e3 e4 e5 e6 e7 e8 e9 e10
    exact ⟨⟨⟨⟨k0, k1, k2, dA, dat.length, dc, n4, k5, k6, k7, t8, k9, sA, sl, sc⟩, dat, rfl, by simp only; omega, by simp only; omega, by simp only; omega⟩, hd⟩, by unfold bew bec Fm.c; rfl⟩
set_option maxRecDepth 100000 in
theorem open_frame {W : World} {base : Nat} {v : Value} {d : DataW H} {p : List MemPlace} (hv : Value.okWide Tryd.prog W .any base 32 v) (h : DataW.Trod hc Tryd.prog W 0 (fun _ => true) true 32 v d p) :
    ∃ e : Be, v = .agg e.x.c ∧ RdB W W.heap.size e.x.dA e.d := by
  obtain ⟨cs, rfl, _⟩ := okWide_struct Tryd.underlying32 hv
  obtain ⟨fuel, hf⟩ := h
  obtain ⟨e, hcs⟩ := frame_cells hf
  have : cs.toList = e.1.x.c.toList := hcs
  exact ⟨e.1, congrArg _ (Array.toList_inj.1 this), e.2⟩
set_option maxRecDepth 100000 in
theorem open_frames {W : World} {base : Nat} {v : Value} {d : DataW H} {p : List MemPlace} (hv : Value.okWide Tryd.prog W .any base 22 v) (h : DataW.Trod hc Tryd.prog W 0 (fun _ => true) true 22 v d p) :
    ∃ (A : Option Addr) (c : Nat) (L : List Be), v = .slice A L.length c ∧ L.length ≤ c ∧ RdS W (· < W.heap.size) A (enl bec L) ∧ ∀ e ∈ L, RdB W W.heap.size e.x.dA e.d := by
  obtain ⟨A, c, L, h1, h2, _, h4⟩ := open_rows (bew_len W) (by omega) Tryd.underlying22 cells_frame (fun n cs x hx => frame_cells hx) hv h
  rw [enl_bew] at h4
  refine ⟨A, c, L.map (·.1), by rw [List.length_map]; exact h1, by rw [List.length_map]; exact h2, h4, fun e he => ?_⟩
  obtain ⟨x, _, rfl⟩ := List.mem_map.1 he
  exact x.2
/-- A row of rows of bytes. -/
theorem u8_cell {W : World} {n : Nat} {cs : List Value} {x : DataW H × List MemPlace} (h : DataW.trod hc Tryd.prog W 0 (fun _ => true) true n 5 cs = some x) : ∃ b : UInt8, cs = byv b := by
  obtain ⟨k, e, _, w⟩ := DataW.trod_int Tryd.underlying5 h
  have hw := wf_u8 w
  exact ⟨UInt8.ofNat k.toNat, by rw [e]; unfold byv; rw [byte_back hw.1 hw.2]⟩
set_option maxRecDepth 100000 in
theorem open_blocks {W : World} {base : Nat} {v : Value} {d : DataW H} {p : List MemPlace} (hv : Value.okWide Tryd.prog W .any base 45 v) (h : DataW.Trod hc Tryd.prog W 0 (fun _ => true) true 45 v d p) :
    ∃ (A : Option Addr) (c : Nat) (L : List (Hd W UInt8 byv)), v = .slice A L.length c ∧ L.length ≤ c ∧ c ≤ maxLen ∧ RdS W (· < W.heap.size) A (enl hdc L) :=
  open_nest byv_len (by omega) Tryd.underlying45 Tryd.underlying29 cells_bytes cells_u8 (fun _ _ _ h => u8_cell h) hv h
end
end Go.Proofs.YtcbepicdnmnfaaaDoor
