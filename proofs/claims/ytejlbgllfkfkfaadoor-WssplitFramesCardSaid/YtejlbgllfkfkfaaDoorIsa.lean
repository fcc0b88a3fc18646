/-
  The document's Same of two frames that read the same, by its contract. Conditions: the bytes are read.
-/
import Derived.Test.YtejlbgllfkfkfaaDoorIma
import Derived.Test.YtejlbgllfkfkfaaDoorTxt
import Derived.Deep.QuietTactic
namespace Go.Proofs.YtejlbgllfkfkfaaDoor
open Go.RowKit Go.WideShapes

set_option maxRecDepth 100000 in
set_option maxHeartbeats 1000000 in
theorem rsameI_any (fin : Bool) (op : Nat) (mask : Bool) (key : Nat) (l : List UInt8) {A A' : Option Addr} {c c' B : Nat} {w : World} (h1 : RdB w B A l) (h2 : RdB w B A' l) (hB : B ≤ w.heap.size) :
    Calls Tryd.prog 21 #[.agg (pcC fin op mask key A l.length c), .agg (pcC fin op mask key A' l.length c')] w fun e w' => e = .returned (.bool true) ∧ Below w.heap.size w w' := by
  have HB : Hid (Below w.heap.size w ((w.alloc (.cells (pcC fin op mask key A l.length c) 31)).alloc (.cells (pcC fin op mask key A' l.length c') 31))) := ((Below.refl _ _).alloc (Nat.le_refl _) _).alloc (by simp) _
  obtain ⟨x0, x1, x2, x3, x4⟩ := pc_cells ((Row.new w 31 (pcC fin op mask key A l.length c)).alloc (.cells (pcC fin op mask key A' l.length c') 31))
  obtain ⟨y0, y1, y2, y3, y4⟩ := pc_cells (Row.made (g := w.heap.size + 1) (w.alloc (.cells (pcC fin op mask key A l.length c) 31)) 31 (pcC fin op mask key A' l.length c') (by simp))
  have t1 := run_text (P := Tryd.prog) (c := c) Tryd.underlying22 Tryd.underlying5 Tryd.underlying9 (h1.below (HB.out.mono hB))
  have t2 := run_text (P := Tryd.prog) (c := c') Tryd.underlying22 Tryd.underlying5 Tryd.underlying9 (h2.below (HB.out.mono hB))
  clear h1 h2
  generalize ByteArray.mk l.toArray = t at *
  have hfe : (fin == fin) = true := by cases fin <;> rfl
  have hme : (mask == mask) = true := by cases mask <;> rfl
  go_enter Tryd.func21, Tryd.ntmps21
  go_wp2_with fail
  go_ret
  exact ⟨rfl, HB.out⟩
end Go.Proofs.YtejlbgllfkfkfaaDoor
