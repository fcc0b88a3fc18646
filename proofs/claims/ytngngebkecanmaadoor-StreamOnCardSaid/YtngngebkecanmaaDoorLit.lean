/-
  A slice literal of many elements of one cell each, over whatever program. No conditions but those that each theorem names.
-/
import Derived.Test.YtngngebkecanmaaDoorArr
namespace Go.Proofs.YtngngebkecanmaaDoor
open Go.RowKit Go.WideShapes

theorem run_buildSlice_one {P : Program} {t e : TypeId} {n : Nat} {parts : Array (Nat × Value)} (ht : P.underlying t = some (.slice e)) (i : TypeInfo) (hi : P.info? e = some i) (z : Value) (hz : i.zero = some z) (hs : i.size = 1) (h0 : n ≠ 0) (hn : n ≤ 1000)
    (cells : Array Value) (hf : Instr.fill (fun j => some (j, 1)) ((Array.range n).map (z.cells[· % z.cells.size]!)) parts.toList = some cells) (w : World) :
    (Instr.buildSlice t n parts).run P w = .ok (.slice (some ⟨w.heap.size, 0, none⟩) n n) (w.alloc (.cells cells e)) := by
  have hn' : ¬ (n > 2 ^ 24) := by omega
  simp [Instr.buildSlice, Sem.run_bind, run_underlying ht, sizeOf, typeInfo, hi, hs, zeroValue, hz, h0, newRow]
  rw [if_neg (by omega)]
  simp [hf]
theorem wpList_buildSlice_is {P : Program} {ops : Array Oper} {rest : List Oper} {o : Oper} {a : Act} {w : World} {Q : Exit → Act → World → Prop} (hg : o.guard = none) (t e : TypeId) (n : Nat) (parts : Array (Nat × Operand)) (ho : o.op = .buildSlice t n parts)
    (ht : P.underlying t = some (.slice e)) (i : TypeInfo) (hi : P.info? e = some i) (z : Value) (hz : i.zero = some z) (hs : i.size = 1) (h0 : n ≠ 0) (hn : n ≤ 1000)
    (cells : Array Value) (hf : Instr.fill (fun j => some (j, 1)) ((Array.range n).map (z.cells[· % z.cells.size]!)) (parts.map fun (i, x) => (i, a.eval x)).toList = some cells)
    (h : wpList P ops Q rest (a.put o.dst (.slice (some ⟨w.heap.size, 0, none⟩) n n)) (w.alloc (.cells cells e))) : wpList P ops Q (o :: rest) a w := by
  refine wpList_plain hg fun K' hK' => ?_
  unfold Oper.wp execOp
  simp only [ho, Sem.run_bind, run_buildSlice_one ht i hi z hz hs h0 hn cells hf w, Result.andThen_ok]
  exact hK' _ _ h
end Go.Proofs.YtngngebkecanmaaDoor
