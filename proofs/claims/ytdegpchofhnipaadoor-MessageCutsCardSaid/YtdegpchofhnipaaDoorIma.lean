/-
  A frame in memory; wsframe's May, by its contract. No conditions.
-/
import Derived.Test.YtdegpchofhnipaaDoorIsm
import Derived.Test.YtdegpchofhnipaaDoorAg
namespace Go.Proofs.YtdegpchofhnipaaDoor
open Go.RowKit Go.WideShapes

/-- A frame's cells. -/
def pcC (fin : Bool) (op : Nat) (mask : Bool) (key : Nat) (A : Option Addr) (n c : Nat) : Array Value := #[.bool fin, .int .u8 op, .bool mask, .int .u32 key, .slice A n c]
section
variable {w : World} {g : Nat} {fin : Bool} {op : Nat} {mask : Bool} {key : Nat} {A : Option Addr} {n c : Nat}
theorem pc_cells (h : Row w g 32 (pcC fin op mask key A n c)) : w.cell? ⟨g, 0, none⟩ = some (.bool fin) ∧ w.cell? ⟨g, 1, none⟩ = some (.int .u8 op) ∧ w.cell? ⟨g, 2, none⟩ = some (.bool mask) ∧ w.cell? ⟨g, 3, none⟩ = some (.int .u32 key) ∧ w.cell? ⟨g, 4, none⟩ = some (.slice A n c) :=
  ⟨h.cell rfl, h.cell rfl, h.cell rfl, h.cell rfl, h.cell rfl⟩
end
theorem pc_info : (Tryd.prog.info? 32).map (·.size) = some 5 := by kernel_rfl
theorem pc_ok (fin : Bool) (op : Nat) (mask : Bool) (key : Nat) (A : Option Addr) (n c : Nat) : AgOk Tryd.prog 32 (pcC fin op mask key A n c) := ⟨⟨_, Tryd.underlying32⟩, pc_info, by unfold pcC; kernel_rfl⟩
theorem natLe {n k : Nat} (h : n ≤ k) : (n : Int) ≤ (k : Int) := by omega
theorem mayI_eq (fin : Bool) (op : Nat) (mask : Bool) (key n : Nat) : (okB op fin && (mask || decide (key = 0)) && decide (n ≤ if decide (8 ≤ op) = true then 125 else 4096)) = decide (MayI fin op mask key n) := by
  rw [Bool.eq_iff_iff]
  unfold okB MayI okOp
  cases fin <;> cases mask <;> simp <;> (try split) <;> omega
end Go.Proofs.YtdegpchofhnipaaDoor
