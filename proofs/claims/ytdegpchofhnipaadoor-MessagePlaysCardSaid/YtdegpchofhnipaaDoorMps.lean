/-
  A slice of a socket's frames as an argument, with the bound that a slice's length keeps. No conditions.
-/
import Derived.Test.YtdegpchofhnipaaDoorIop
import Derived.Test.YtdegpchofhnipaaDoorIpl
namespace Go.Proofs.YtdegpchofhnipaaDoor
open Go.RowKit Go.WideShapes Go.Deep

section
variable {H : Type} {hc : TypeId × Value → H}
/-- A frame that came in: its numbers fit, its data are read. -/
def PcW (W : World) : Type := {e : Pe // e.p.op < 256 ∧ e.p.key < 4294967296 ∧ RdS W (· < W.heap.size) e.A (byc e.p.dat)}
def pew (W : World) (x : PcW W) : List Value := Pe.cs x.1
theorem pew_len (W : World) (x : PcW W) : (pew W x).length = 5 := rfl
theorem enl_pew {W : World} : ∀ L : List (PcW W), enl (pew W) L = enl Pe.cs (L.map (·.1))
  | [] => rfl
  | s :: L => by
    have h := enl_pew L
    unfold enl at *
    rw [List.map_cons, List.flatMap_cons, List.flatMap_cons, h]
    rfl
set_option maxRecDepth 100000 in
theorem open_piecesM {W : World} {base : Nat} {v : Value} {d : DataW H} {p : List MemPlace} (hv : Value.okWide Tryd.prog W .any base 22 v) (h : DataW.Trod hc Tryd.prog W 0 (fun _ => true) true 22 v d p) :
    ∃ (A : Option Addr) (c : Nat) (L : List Pe), v = .slice A L.length c ∧ L.length ≤ c ∧ L.length ≤ 9223372036854775807 ∧ RdS W (· < W.heap.size) A (enl Pe.cs L) ∧ ∀ e ∈ L, e.p.op < 256 ∧ e.p.key < 4294967296 ∧ RdS W (· < W.heap.size) e.A (byc e.p.dat) := by
  obtain ⟨A, c, L, h1, h2, h3, h4⟩ := open_rows (pew_len W) (by omega) Tryd.underlying22 cells_piece (fun n cs x hx => by
    obtain ⟨q, A, c, e, ho, hk, hd⟩ := piece_cells hx
    exact ⟨⟨⟨q, A, c⟩, ho, hk, RdB.toS hd⟩, e⟩) hv h
  rw [enl_pew] at h4
  refine ⟨A, c, L.map (·.1), by rw [List.length_map]; exact h1, by rw [List.length_map]; exact h2, by rw [List.length_map]; exact Nat.le_trans h2 h3, h4, fun e he => ?_⟩
  obtain ⟨x, _, rfl⟩ := List.mem_map.1 he
  exact x.2
end
end Go.Proofs.YtdegpchofhnipaaDoor
