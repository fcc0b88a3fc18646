/-
  wsframe's small functions, by their contracts: isControl, mayOp, shortest, behind, putNumber. Conditions: those that each theorem names.
-/
import Derived.Test.YtdegpchofhnipaaDoorItu
namespace Go.Proofs.YtdegpchofhnipaaDoor
open Go.RowKit Go.WideShapes

def okB (op : Nat) (fin : Bool) : Bool := decide (op < 3 ∨ (7 < op ∧ op < 11 ∧ fin = true))
def formN (n : Nat) : Nat := if 65536 ≤ n then 127 else if 126 ≤ n then 126 else n
theorem formN_lt (n : Nat) : formN n < 128 := by unfold formN; split <;> (try split) <;> omega
def behindN (f : Nat) : Nat := if f = 127 then 8 else if f = 126 then 2 else 0
theorem be_take (m n : Nat) {k : Nat} (h : k < m) : (be m n).take (k + 1) = (be m n).take k ++ [UInt8.ofNat (n / 256 ^ (m - 1 - k))] := by
  induction m generalizing k with
  | zero => omega
  | succ m ih =>
    cases k with
    | zero => simp [be]
    | succ k =>
      have := ih (k := k) (by omega)
      simp only [be, List.take_succ_cons, this, List.cons_append]
      rw [show m + 1 - 1 - (k + 1) = m - 1 - k by omega]
end Go.Proofs.YtdegpchofhnipaaDoor
