/-
  A gatherer's small functions, by their contracts: New, Busy, Held. No conditions.
-/
import Derived.Test.YtcbepicdnmnfaaaDoorYst
import Derived.Deep.CutBlock
import Derived.Deep.DeepCutAuto
namespace Go.Proofs.YtcbepicdnmnfaaaDoor
open Go.RowKit Go.WideShapes

theorem ga_zero : #[Value.int .u32 0, .slice none 0 0, .bool false, .bool false, .int .i64 0, .nilIface] = gac 0 none 0 0 false false 0 none := rfl
theorem one_ga (w : World) (h : 0 < w.heap.size) : Ga (w.alloc (.cells #[.int .u32 0, .slice none 0 0, .bool false, .bool false, .int .i64 0, .nilIface] 51)) w.heap.size w.heap.size gm0 none 0 none ∧ Below w.heap.size w (w.alloc (.cells #[.int .u32 0, .slice none 0 0, .bool false, .bool false, .int .i64 0, .nilIface] 51)) :=
  ⟨⟨by rw [ga_zero]; exact Row.new w _ _, Bo.nil, fun _ => ⟨rfl, rfl⟩, .inl ⟨rfl, rfl⟩, gm0_ok, h, Nat.le_refl _⟩, (Below.refl _ _).alloc (Nat.le_refl _) _⟩
set_option maxRecDepth 100000 in
theorem bnew_any {w : World} (hG : GlobE w) : Calls Tryd.prog 7 #[] w fun e w' => e = .returned (.pointer (some ⟨w.heap.size, 0, none⟩)) ∧ Ga w' w.heap.size w.heap.size gm0 none 0 none ∧ Below w.heap.size w w' := by
  have h := one_ga w (blk_lt hG)
  have HA := Lib.hid h.1
  have HB := Lib.hid h.2
  clear h hG
  go_enter Tryd.func7, Tryd.ntmps7
  go_wp2_with fail
  go_ret
  exact ⟨rfl, HA.out, HB.out⟩
set_option maxRecDepth 100000 in
theorem busy_nil (w : World) : Calls Tryd.prog 11 #[.pointer none] w fun e w' => e = .returned (.bool false) ∧ w' = w := by
  go_enter Tryd.func11, Tryd.ntmps11
  go_wp2_with fail
  go_ret
  exact ⟨rfl, rfl⟩
set_option maxRecDepth 100000 in
theorem busy_cell {w : World} {g : Nat} {b : Bool} (h : w.cell? ⟨g, 3, none⟩ = some (.bool b)) : Calls Tryd.prog 11 #[.pointer (some ⟨g, 0, none⟩)] w fun e w' => e = .returned (.bool b) ∧ w' = w := by
  go_enter Tryd.func11, Tryd.ntmps11
  go_wp2_with fail
  go_ret
  exact ⟨by cases b <;> rfl, rfl⟩
set_option maxRecDepth 100000 in
theorem bheld_nil (w : World) : Calls Tryd.prog 12 #[.pointer none] w fun e w' => e = .returned (.int .i64 0) ∧ w' = w := by
  go_enter Tryd.func12, Tryd.ntmps12
  go_wp2_with fail
  go_ret
  exact ⟨rfl, rfl⟩
set_option maxRecDepth 100000 in
theorem bheld_cell {w : World} {g : Nat} {A : Option Addr} {n c : Nat} (h : w.cell? ⟨g, 1, none⟩ = some (.slice A n c)) : Calls Tryd.prog 12 #[.pointer (some ⟨g, 0, none⟩)] w fun e w' => e = .returned (.int .i64 n) ∧ w' = w := by
  go_enter Tryd.func12, Tryd.ntmps12
  go_wp2_with fail
  go_ret
  exact ⟨rfl, rfl⟩
end Go.Proofs.YtcbepicdnmnfaaaDoor
