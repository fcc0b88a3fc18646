/-
  Lists of lists of fields, lists of rows of bytes, a row of numbers, as they come in.
-/
import Derived.Test.YtfajffchnnalaaaOpenN
import Derived.Test.YtfajffchnnalaaaDopen
namespace Go.Proofs.Ytfajffchnnalaaa
open Go.ChangeShapes Go.WideShapes Go.RowKit Go.Deep

/-- A number below 2^32. -/
abbrev N32 := { n : Nat // n < 4294967296 }
def n32 (n : N32) : List Value := [.int .u32 (n.1 : Int)]
theorem n32_len (n : N32) : (n32 n).length = 1 := rfl

section
variable {H : Type} {hc : TypeId × Value → H}
theorem cells_fs : Try.prog.cellsOf 31 = 1 := by kernel_rfl
theorem cells_bytes : Try.prog.cellsOf 38 = 1 := by kernel_rfl
theorem cells_u8 : Try.prog.cellsOf 5 = 1 := by kernel_rfl
set_option maxRecDepth 100000 in
theorem u8_cell {W : World} {n : Nat} {cs : List Value} {x : DataW H × List MemPlace} (h : DataW.trod hc Try.prog W 0 (fun _ => true) true n 5 cs = some x) : ∃ b : UInt8, cs = byv b := by
  obtain ⟨k, e, _, w⟩ := DataW.trod_int Try.underlying5 h
  have hw := wf_u8 w
  exact ⟨UInt8.ofNat k.toNat, by rw [e]; unfold byv; rw [byte_back hw.1 hw.2]⟩
set_option maxRecDepth 100000 in
theorem u32_cell {W : World} {n : Nat} {cs : List Value} {x : DataW H × List MemPlace} (h : DataW.trod hc Try.prog W 0 (fun _ => true) true n 22 cs = some x) : ∃ b : N32, cs = n32 b := by
  obtain ⟨k, e, _, w⟩ := DataW.trod_int Try.underlying22 h
  have hw := wf_u32 w
  obtain ⟨m, rfl⟩ := Int.eq_ofNat_of_zero_le hw.1
  exact ⟨⟨m, by omega⟩, e⟩
set_option maxRecDepth 100000 in
theorem open_lists {W : World} {base : Nat} {v : Value} {d : DataW H} {p : List MemPlace} (hv : Value.okWide Try.prog W .any base 23 v) (h : DataW.Trod hc Try.prog W 0 (fun _ => true) true 23 v d p) :
    ∃ (A : Option Addr) (c : Nat) (L : List (Hd W Fd fdc)), v = .slice A L.length c ∧ L.length ≤ c ∧ c ≤ maxLen ∧ RdS W (· < W.heap.size) A (enl hdc L) :=
  open_nest fdc_len (by omega) Try.underlying23 Try.underlying31 cells_fs cells_field (fun _ _ _ h => field_cells3 h) hv h
set_option maxRecDepth 100000 in
theorem open_blocks {W : World} {base : Nat} {v : Value} {d : DataW H} {p : List MemPlace} (hv : Value.okWide Try.prog W .any base 49 v) (h : DataW.Trod hc Try.prog W 0 (fun _ => true) true 49 v d p) :
    ∃ (A : Option Addr) (c : Nat) (L : List (Hd W UInt8 byv)), v = .slice A L.length c ∧ L.length ≤ c ∧ c ≤ maxLen ∧ RdS W (· < W.heap.size) A (enl hdc L) :=
  open_nest byv_len (by omega) Try.underlying49 Try.underlying38 cells_bytes cells_u8 (fun _ _ _ h => u8_cell h) hv h
set_option maxRecDepth 100000 in
theorem open_u32s {W : World} {base : Nat} {v : Value} {d : DataW H} {p : List MemPlace} (hv : Value.okWide Try.prog W .any base 24 v) (h : DataW.Trod hc Try.prog W 0 (fun _ => true) true 24 v d p) :
    ∃ (A : Option Addr) (c : Nat) (L : List N32), v = .slice A L.length c ∧ L.length ≤ c ∧ c ≤ maxLen ∧ RdS W (· < W.heap.size) A (enl n32 L) :=
  open_rows n32_len (by omega) Try.underlying24 cells_u32 (fun _ _ _ h => u32_cell h) hv h
end
end Go.Proofs.Ytfajffchnnalaaa
