/-
  A row of operations on a ring, as it comes in: their cells, their bytes read; an operation's variable. No conditions.
-/
import Derived.Test.YtplohgaecoobaaaOpenN
import Derived.Test.YtplohgaecoobaaaUst
import Derived.Lib.SmallJoins
namespace Go.Proofs.Ytplohgaecoobaaa
open Go.ChangeShapes Go.WideShapes Go.RowKit Go.Deep Go.Joins

/-- An operation as it lies in memory, and its bytes. -/
structure Ov where
  kd : Int
  st : Nat
  n : Int
  A : Option Addr
  c : Nat
  b : List UInt8
  en : Bool
  x : Nat
  y : Nat
  hst : st < 4294967296
  hx : x < 4294967296
  hy : y < 4294967296
  hn : -9223372036854775808 ≤ n ∧ n ≤ 9223372036854775807
def ovc (o : Ov) : Array Value := #[.int .i64 o.kd, .int .u32 o.st, .int .i64 o.n, .slice o.A o.b.length o.c, .bool o.en, .int .u32 o.x, .int .u32 o.y]
def ovl (o : Ov) : List Value := (ovc o).toList
theorem ovl_len (o : Ov) : (ovl o).length = 7 := rfl
theorem ovl_c (o : Ov) : ovl o = (ovc o).toList := rfl
theorem ov_size (o : Ov) : (ovc o).size = 7 := rfl
theorem ov_info : (Try.prog.info? 36).map (·.size) = some 7 := by kernel_rfl
theorem ov_ok (o : Ov) : AgOk Try.prog 36 (ovc o) := ⟨⟨_, Try.underlying36⟩, ov_info, by unfold ovc; kernel_rfl⟩
theorem ov_cells {w : World} {g : Nat} {o : Ov} (h : Row w g 36 (ovc o)) : w.cell? ⟨g, 0, none⟩ = some (.int .i64 o.kd) ∧ w.cell? ⟨g, 1, none⟩ = some (.int .u32 o.st) ∧ w.cell? ⟨g, 2, none⟩ = some (.int .i64 o.n) ∧ w.cell? ⟨g, 3, none⟩ = some (.slice o.A o.b.length o.c) ∧ w.cell? ⟨g, 4, none⟩ = some (.bool o.en) ∧ w.cell? ⟨g, 5, none⟩ = some (.int .u32 o.x) ∧ w.cell? ⟨g, 6, none⟩ = some (.int .u32 o.y) :=
  ⟨h.cell rfl, h.cell rfl, h.cell rfl, h.cell rfl, h.cell rfl, h.cell rfl, h.cell rfl⟩
/-- An operation's variable, made and stored into. -/
theorem one_ov (w : World) (o : Ov) : ∃ w', (w.alloc (.cells #[.int .i64 0, .int .u32 0, .int .i64 0, .slice none 0 0, .bool false, .int .u32 0, .int .u32 0] 36)).setRow w.heap.size (ovc o) = w' ∧ Row (w.alloc (.cells #[.int .i64 0, .int .u32 0, .int .i64 0, .slice none 0 0, .bool false, .int .u32 0, .int .u32 0] 36)) w.heap.size 36 #[.int .i64 0, .int .u32 0, .int .i64 0, .slice none 0 0, .bool false, .int .u32 0, .int .u32 0] ∧
    Row w' w.heap.size 36 (ovc o) ∧ Below w.heap.size w w' ∧ w'.heap.size = w.heap.size + 1 :=
  ⟨_, rfl, Row.new w _ _, (Row.new w _ _).setRow _, below_setRow ((Below.refl _ _).alloc (Nat.le_refl _) _) _ _ (Nat.le_refl _), by simp⟩
/-- .. whose bytes are read. -/
def OvW (W : World) : Type := {o : Ov // RdB W W.heap.size o.A o.b}
def ovw (W : World) (o : OvW W) : List Value := ovl o.1
theorem ovw_len (W : World) (o : OvW W) : (ovw W o).length = 7 := ovl_len _
theorem enl_ovw {W : World} : ∀ L : List (OvW W), enl (ovw W) L = enl ovl (L.map (·.1))
  | [] => rfl
  | s :: L => by
    have h := enl_ovw L
    unfold enl at *
    rw [List.map_cons, List.flatMap_cons, List.flatMap_cons, h]
    rfl
theorem nat_of {x : Int} {b : Int} (h : 0 ≤ x ∧ x < b) : ∃ n : Nat, x = (n : Int) ∧ (n : Int) < b := ⟨x.toNat, by omega, by omega⟩
section
variable {H : Type} {hc : TypeId × Value → H}
theorem cells_op13 : Try.prog.cellsOf 36 = 7 := by kernel_rfl
theorem cells_u8 : Try.prog.cellsOf 5 = 1 := by kernel_rfl
theorem cells_u32 : Try.prog.cellsOf 33 = 1 := by kernel_rfl
theorem cells_i64 : Try.prog.cellsOf 3 = 1 := by kernel_rfl
theorem cells_bool : Try.prog.cellsOf 4 = 1 := by kernel_rfl
theorem cells_bytes : Try.prog.cellsOf 34 = 1 := by kernel_rfl
/-- A slice of bytes among a struct's cells. -/
theorem open_bytesC {P : Program} {t e : TypeId} (ht : P.underlying t = some (.slice e)) (he : P.underlying e = some (.int .u8)) (hce : P.cellsOf e = 1) {W : World} {n : Nat} {cs : List Value} {x : DataW H × List MemPlace}
    (h : DataW.trod hc P W 0 (fun _ => true) true n t cs = some x) :
    ∃ (A : Option Addr) (c : Nat) (l : List UInt8), cs = [.slice A l.length c] ∧ RdB W W.heap.size A l := by
  rcases open_ints ht he hce h with ⟨hcs, _⟩ | ⟨a, len, cap, zs, hcs, _, hl, hm, hz, _, hcell, hwz⟩
  · exact ⟨none, 0, [], hcs, RdB.nil⟩
  · simp only [if_true] at hz
    have hlen : ((zs.take len).map fun n => UInt8.ofNat n.toNat).length = len := by simp; omega
    refine ⟨some a, cap, (zs.take len).map fun n => UInt8.ofNat n.toNat, by rw [hlen]; exact hcs, fun hne => ?_⟩
    have h0 : 0 < len := by
      rcases Nat.eq_zero_or_pos len with h0 | h0
      · subst h0; simp at hne
      · exact h0
    obtain ⟨b, off, spot⟩ := a
    have hspot : spot = none := by
      have h1 := World.cell?_spot (hcell 0 (by omega))
      simpa [Addr.add] using h1
    subst hspot
    refine ⟨b, off, rfl, ?_, fun j hj => ?_⟩
    · have := World.block_lt_of_cell? W _ (hcell 0 (by omega))
      rwa [add_plain] at this
    · rw [hlen] at hj
      have hc := hcell j (by omega)
      rw [add_plain] at hc
      rw [hc]
      have hz1 : zs.getD j 0 = zs[j] := by simp [List.getD, show j < zs.length by omega]
      obtain ⟨w0, w1⟩ := wf_u8 (hwz zs[j] (List.getElem_mem ..))
      simp only [List.getElem_map, List.getElem_take]
      rw [hz1, byte_back w0 w1]
set_option maxRecDepth 100000 in
theorem op13_cells {W : World} {n : Nat} {cs : List Value} {x : DataW H × List MemPlace} (h : DataW.trod hc Try.prog W 0 (fun _ => true) true n 36 cs = some x) : ∃ o : OvW W, cs = ovw W o := by
  obtain ⟨xs, m, _, _, hl, hxl, hf⟩ := DataW.trod_struct Try.underlying36 h
  rw [cells_op13] at hl
  match cs, hl with
  | [a0, a1, a2, a3, a4, a5, a6], _ =>
    have hxl' : xs.length = 7 := hxl
    have h0 : DataW.trod hc Try.prog W 0 (fun _ => true) true m 3 (List.take (Try.prog.cellsOf 3) (List.drop 0 [a0, a1, a2, a3, a4, a5, a6])) = xs[0]? := hf 0 _ rfl
    have h1 : DataW.trod hc Try.prog W 0 (fun _ => true) true m 33 (List.take (Try.prog.cellsOf 33) (List.drop 1 [a0, a1, a2, a3, a4, a5, a6])) = xs[1]? := hf 1 _ rfl
    have h2 : DataW.trod hc Try.prog W 0 (fun _ => true) true m 3 (List.take (Try.prog.cellsOf 3) (List.drop 2 [a0, a1, a2, a3, a4, a5, a6])) = xs[2]? := hf 2 _ rfl
    have h3 : DataW.trod hc Try.prog W 0 (fun _ => true) true m 34 (List.take (Try.prog.cellsOf 34) (List.drop 3 [a0, a1, a2, a3, a4, a5, a6])) = xs[3]? := hf 3 _ rfl
    have h4 : DataW.trod hc Try.prog W 0 (fun _ => true) true m 4 (List.take (Try.prog.cellsOf 4) (List.drop 4 [a0, a1, a2, a3, a4, a5, a6])) = xs[4]? := hf 4 _ rfl
    have h5 : DataW.trod hc Try.prog W 0 (fun _ => true) true m 33 (List.take (Try.prog.cellsOf 33) (List.drop 5 [a0, a1, a2, a3, a4, a5, a6])) = xs[5]? := hf 5 _ rfl
    have h6 : DataW.trod hc Try.prog W 0 (fun _ => true) true m 33 (List.take (Try.prog.cellsOf 33) (List.drop 6 [a0, a1, a2, a3, a4, a5, a6])) = xs[6]? := hf 6 _ rfl
    rw [List.getElem?_eq_getElem (by omega)] at h0 h1 h2 h3 h4 h5 h6
    simp only [cells_u32, cells_i64, cells_bool, cells_bytes, List.drop_succ_cons, List.drop_zero, List.take_succ_cons, List.take_zero] at h0 h1 h2 h3 h4 h5 h6
    obtain ⟨n0, e0, _, _⟩ := DataW.trod_int Try.underlying3 h0
    obtain ⟨n1, e1, _, w1⟩ := DataW.trod_int Try.underlying33 h1
    obtain ⟨n2, e2, _, w2⟩ := DataW.trod_int Try.underlying3 h2
    obtain ⟨dA, dc, dat, e3, hd⟩ := open_bytesC Try.underlying34 Try.underlying5 cells_u8 h3
    obtain ⟨t4, e4, _⟩ := DataW.trod_bool Try.underlying4 h4
    obtain ⟨n5, e5, _, w5⟩ := DataW.trod_int Try.underlying33 h5
    obtain ⟨n6, e6, _, w6⟩ := DataW.trod_int Try.underlying33 h6
    obtain ⟨k1, rfl, b1⟩ := nat_of (wf_u32 w1)
    obtain ⟨k5, rfl, b5⟩ := nat_of (wf_u32 w5)
    obtain ⟨k6, rfl, b6⟩ := nat_of (wf_u32 w6)
    simp only [List.cons.injEq, and_true] at e0 e1 e2 e3 e4 e5 e6
    subst e0 e1 e2 e3 e4 e5 e6
    exact ⟨⟨⟨n0, k1, n2, dA, dc, dat, t4, k5, k6, by omega, by omega, by omega, wf_i64 w2⟩, hd⟩, by unfold ovw ovl ovc; rfl⟩
set_option maxRecDepth 100000 in
theorem open_ops13 {W : World} {base : Nat} {v : Value} {d : DataW H} {p : List MemPlace} (hv : Value.okWide Try.prog W .any base 22 v) (h : DataW.Trod hc Try.prog W 0 (fun _ => true) true 22 v d p) :
    ∃ (A : Option Addr) (c : Nat) (L : List Ov), v = .slice A L.length c ∧ L.length ≤ c ∧ c ≤ maxLen ∧ RdS W (· < W.heap.size) A (enl ovl L) ∧ ∀ o ∈ L, RdB W W.heap.size o.A o.b := by
  obtain ⟨A, c, L, h1, h2, h3, h4⟩ := open_rows (ovw_len W) (by omega) Try.underlying22 cells_op13 (fun n cs x hx => op13_cells hx) hv h
  rw [enl_ovw] at h4
  refine ⟨A, c, L.map (·.1), by rw [List.length_map]; exact h1, by rw [List.length_map]; exact h2, h3, h4, fun e he => ?_⟩
  obtain ⟨x, _, rfl⟩ := List.mem_map.1 he
  exact x.2
end
end Go.Proofs.Ytplohgaecoobaaa
