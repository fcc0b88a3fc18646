/-
  The document's Come, by its contract. Condition: the arguments are bytes.
-/
import Derived.Test.YtngngebkecanmaaDoorTsd
import Derived.Test.YtngngebkecanmaaDoorLit
namespace Go.Proofs.YtngngebkecanmaaDoor
open Go.RowKit Go.WideShapes

/-- The table. -/
def rowsC : Array Value := #[.string ⟨#[49, 51, 112, 112, 112, 112]⟩, .string ⟨#[83, 51, 49, 51, 54, 49]⟩, .string ⟨#[83, 52, 50, 52, 54, 50]⟩, .string ⟨#[99, 99, 99, 99, 54, 51]⟩, .string ⟨#[115, 115, 115, 115, 52, 52]⟩, .string ⟨#[53, 53, 53, 53, 53, 53]⟩, .string ⟨#[99, 99, 99, 99, 54, 54]⟩]
theorem str_infoT : (Tryd.prog.info? 9).map (fun i => (i.zero, i.size)) = some (some (.string ⟨#[]⟩), 1) := by kernel_rfl
theorem one_rows (w : World) : ∃ w', w.alloc (.cells rowsC 9) = w' ∧ Row w' w.heap.size 9 rowsC ∧ Below w.heap.size w w' := ⟨_, rfl, Row.new w _ _, (Below.refl _ _).alloc (Nat.le_refl _) _⟩
theorem row0 {w : World} {g : Nat} (h : Row w g 9 rowsC) : w.cell? ⟨g, 0, none⟩ = some (.string ⟨#[49, 51, 112, 112, 112, 112]⟩) := h.cell rfl
theorem at00 (W : World) : (Instr.index 9 (.string ⟨#[49, 51, 112, 112, 112, 112]⟩) (.int .i64 0)).run Tryd.prog W = .ok (.int .u8 49) W := by kernel_rfl
theorem at01 (W : World) : (Instr.index 9 (.string ⟨#[49, 51, 112, 112, 112, 112]⟩) (.int .i64 1)).run Tryd.prog W = .ok (.int .u8 51) W := by kernel_rfl
theorem at02 (W : World) : (Instr.index 9 (.string ⟨#[49, 51, 112, 112, 112, 112]⟩) (.int .i64 2)).run Tryd.prog W = .ok (.int .u8 112) W := by kernel_rfl
theorem at03 (W : World) : (Instr.index 9 (.string ⟨#[49, 51, 112, 112, 112, 112]⟩) (.int .i64 3)).run Tryd.prog W = .ok (.int .u8 112) W := by kernel_rfl
theorem at04 (W : World) : (Instr.index 9 (.string ⟨#[49, 51, 112, 112, 112, 112]⟩) (.int .i64 4)).run Tryd.prog W = .ok (.int .u8 112) W := by kernel_rfl
theorem at05 (W : World) : (Instr.index 9 (.string ⟨#[49, 51, 112, 112, 112, 112]⟩) (.int .i64 5)).run Tryd.prog W = .ok (.int .u8 112) W := by kernel_rfl
theorem row1 {w : World} {g : Nat} (h : Row w g 9 rowsC) : w.cell? ⟨g, 1, none⟩ = some (.string ⟨#[83, 51, 49, 51, 54, 49]⟩) := h.cell rfl
theorem at10 (W : World) : (Instr.index 9 (.string ⟨#[83, 51, 49, 51, 54, 49]⟩) (.int .i64 0)).run Tryd.prog W = .ok (.int .u8 83) W := by kernel_rfl
theorem at11 (W : World) : (Instr.index 9 (.string ⟨#[83, 51, 49, 51, 54, 49]⟩) (.int .i64 1)).run Tryd.prog W = .ok (.int .u8 51) W := by kernel_rfl
theorem at12 (W : World) : (Instr.index 9 (.string ⟨#[83, 51, 49, 51, 54, 49]⟩) (.int .i64 2)).run Tryd.prog W = .ok (.int .u8 49) W := by kernel_rfl
theorem at13 (W : World) : (Instr.index 9 (.string ⟨#[83, 51, 49, 51, 54, 49]⟩) (.int .i64 3)).run Tryd.prog W = .ok (.int .u8 51) W := by kernel_rfl
theorem at14 (W : World) : (Instr.index 9 (.string ⟨#[83, 51, 49, 51, 54, 49]⟩) (.int .i64 4)).run Tryd.prog W = .ok (.int .u8 54) W := by kernel_rfl
theorem at15 (W : World) : (Instr.index 9 (.string ⟨#[83, 51, 49, 51, 54, 49]⟩) (.int .i64 5)).run Tryd.prog W = .ok (.int .u8 49) W := by kernel_rfl
theorem row2 {w : World} {g : Nat} (h : Row w g 9 rowsC) : w.cell? ⟨g, 2, none⟩ = some (.string ⟨#[83, 52, 50, 52, 54, 50]⟩) := h.cell rfl
theorem at20 (W : World) : (Instr.index 9 (.string ⟨#[83, 52, 50, 52, 54, 50]⟩) (.int .i64 0)).run Tryd.prog W = .ok (.int .u8 83) W := by kernel_rfl
theorem at21 (W : World) : (Instr.index 9 (.string ⟨#[83, 52, 50, 52, 54, 50]⟩) (.int .i64 1)).run Tryd.prog W = .ok (.int .u8 52) W := by kernel_rfl
theorem at22 (W : World) : (Instr.index 9 (.string ⟨#[83, 52, 50, 52, 54, 50]⟩) (.int .i64 2)).run Tryd.prog W = .ok (.int .u8 50) W := by kernel_rfl
theorem at23 (W : World) : (Instr.index 9 (.string ⟨#[83, 52, 50, 52, 54, 50]⟩) (.int .i64 3)).run Tryd.prog W = .ok (.int .u8 52) W := by kernel_rfl
theorem at24 (W : World) : (Instr.index 9 (.string ⟨#[83, 52, 50, 52, 54, 50]⟩) (.int .i64 4)).run Tryd.prog W = .ok (.int .u8 54) W := by kernel_rfl
theorem at25 (W : World) : (Instr.index 9 (.string ⟨#[83, 52, 50, 52, 54, 50]⟩) (.int .i64 5)).run Tryd.prog W = .ok (.int .u8 50) W := by kernel_rfl
theorem row3 {w : World} {g : Nat} (h : Row w g 9 rowsC) : w.cell? ⟨g, 3, none⟩ = some (.string ⟨#[99, 99, 99, 99, 54, 51]⟩) := h.cell rfl
theorem at30 (W : World) : (Instr.index 9 (.string ⟨#[99, 99, 99, 99, 54, 51]⟩) (.int .i64 0)).run Tryd.prog W = .ok (.int .u8 99) W := by kernel_rfl
theorem at31 (W : World) : (Instr.index 9 (.string ⟨#[99, 99, 99, 99, 54, 51]⟩) (.int .i64 1)).run Tryd.prog W = .ok (.int .u8 99) W := by kernel_rfl
theorem at32 (W : World) : (Instr.index 9 (.string ⟨#[99, 99, 99, 99, 54, 51]⟩) (.int .i64 2)).run Tryd.prog W = .ok (.int .u8 99) W := by kernel_rfl
theorem at33 (W : World) : (Instr.index 9 (.string ⟨#[99, 99, 99, 99, 54, 51]⟩) (.int .i64 3)).run Tryd.prog W = .ok (.int .u8 99) W := by kernel_rfl
theorem at34 (W : World) : (Instr.index 9 (.string ⟨#[99, 99, 99, 99, 54, 51]⟩) (.int .i64 4)).run Tryd.prog W = .ok (.int .u8 54) W := by kernel_rfl
theorem at35 (W : World) : (Instr.index 9 (.string ⟨#[99, 99, 99, 99, 54, 51]⟩) (.int .i64 5)).run Tryd.prog W = .ok (.int .u8 51) W := by kernel_rfl
theorem row4 {w : World} {g : Nat} (h : Row w g 9 rowsC) : w.cell? ⟨g, 4, none⟩ = some (.string ⟨#[115, 115, 115, 115, 52, 52]⟩) := h.cell rfl
theorem at40 (W : World) : (Instr.index 9 (.string ⟨#[115, 115, 115, 115, 52, 52]⟩) (.int .i64 0)).run Tryd.prog W = .ok (.int .u8 115) W := by kernel_rfl
theorem at41 (W : World) : (Instr.index 9 (.string ⟨#[115, 115, 115, 115, 52, 52]⟩) (.int .i64 1)).run Tryd.prog W = .ok (.int .u8 115) W := by kernel_rfl
theorem at42 (W : World) : (Instr.index 9 (.string ⟨#[115, 115, 115, 115, 52, 52]⟩) (.int .i64 2)).run Tryd.prog W = .ok (.int .u8 115) W := by kernel_rfl
theorem at43 (W : World) : (Instr.index 9 (.string ⟨#[115, 115, 115, 115, 52, 52]⟩) (.int .i64 3)).run Tryd.prog W = .ok (.int .u8 115) W := by kernel_rfl
theorem at44 (W : World) : (Instr.index 9 (.string ⟨#[115, 115, 115, 115, 52, 52]⟩) (.int .i64 4)).run Tryd.prog W = .ok (.int .u8 52) W := by kernel_rfl
theorem at45 (W : World) : (Instr.index 9 (.string ⟨#[115, 115, 115, 115, 52, 52]⟩) (.int .i64 5)).run Tryd.prog W = .ok (.int .u8 52) W := by kernel_rfl
theorem row5 {w : World} {g : Nat} (h : Row w g 9 rowsC) : w.cell? ⟨g, 5, none⟩ = some (.string ⟨#[53, 53, 53, 53, 53, 53]⟩) := h.cell rfl
theorem at50 (W : World) : (Instr.index 9 (.string ⟨#[53, 53, 53, 53, 53, 53]⟩) (.int .i64 0)).run Tryd.prog W = .ok (.int .u8 53) W := by kernel_rfl
theorem at51 (W : World) : (Instr.index 9 (.string ⟨#[53, 53, 53, 53, 53, 53]⟩) (.int .i64 1)).run Tryd.prog W = .ok (.int .u8 53) W := by kernel_rfl
theorem at52 (W : World) : (Instr.index 9 (.string ⟨#[53, 53, 53, 53, 53, 53]⟩) (.int .i64 2)).run Tryd.prog W = .ok (.int .u8 53) W := by kernel_rfl
theorem at53 (W : World) : (Instr.index 9 (.string ⟨#[53, 53, 53, 53, 53, 53]⟩) (.int .i64 3)).run Tryd.prog W = .ok (.int .u8 53) W := by kernel_rfl
theorem at54 (W : World) : (Instr.index 9 (.string ⟨#[53, 53, 53, 53, 53, 53]⟩) (.int .i64 4)).run Tryd.prog W = .ok (.int .u8 53) W := by kernel_rfl
theorem at55 (W : World) : (Instr.index 9 (.string ⟨#[53, 53, 53, 53, 53, 53]⟩) (.int .i64 5)).run Tryd.prog W = .ok (.int .u8 53) W := by kernel_rfl
theorem row6 {w : World} {g : Nat} (h : Row w g 9 rowsC) : w.cell? ⟨g, 6, none⟩ = some (.string ⟨#[99, 99, 99, 99, 54, 54]⟩) := h.cell rfl
theorem at60 (W : World) : (Instr.index 9 (.string ⟨#[99, 99, 99, 99, 54, 54]⟩) (.int .i64 0)).run Tryd.prog W = .ok (.int .u8 99) W := by kernel_rfl
theorem at61 (W : World) : (Instr.index 9 (.string ⟨#[99, 99, 99, 99, 54, 54]⟩) (.int .i64 1)).run Tryd.prog W = .ok (.int .u8 99) W := by kernel_rfl
theorem at62 (W : World) : (Instr.index 9 (.string ⟨#[99, 99, 99, 99, 54, 54]⟩) (.int .i64 2)).run Tryd.prog W = .ok (.int .u8 99) W := by kernel_rfl
theorem at63 (W : World) : (Instr.index 9 (.string ⟨#[99, 99, 99, 99, 54, 54]⟩) (.int .i64 3)).run Tryd.prog W = .ok (.int .u8 99) W := by kernel_rfl
theorem at64 (W : World) : (Instr.index 9 (.string ⟨#[99, 99, 99, 99, 54, 54]⟩) (.int .i64 4)).run Tryd.prog W = .ok (.int .u8 54) W := by kernel_rfl
theorem at65 (W : World) : (Instr.index 9 (.string ⟨#[99, 99, 99, 99, 54, 54]⟩) (.int .i64 5)).run Tryd.prog W = .ok (.int .u8 54) W := by kernel_rfl
/-- What it hands back. -/
def CmR (p : Int × Int × Int) (w : World) (e : Ending) (w' : World) : Prop := e = .returned (.tuple #[.int .u8 p.1, .int .i64 p.2.1, .int .i64 p.2.2]) ∧ Below w.heap.size w w'
attribute [local irreducible] rowsC
set_option maxRecDepth 100000 in
set_option maxHeartbeats 4000000 in
theorem rcome_0 (k : Int) (e : Bool) (hk : k = 0 ∨ k = 1 ∨ k = 3 ∨ k = 8) (w : World) : Calls Tryd.prog 12 #[.int .u8 0, .int .u8 k, .bool e] w (CmR (cmOn 0 k e) w) := by
  obtain ⟨i0, hi0, hz0, hs0⟩ : ∃ i, Tryd.prog.info? 9 = some i ∧ i.zero = some (.string ⟨#[]⟩) ∧ i.size = 1 := by
    have := str_infoT
    cases h : Tryd.prog.info? 9 with
    | none => rw [h] at this; cases this
    | some i => rw [h] at this; simp at this; exact ⟨i, rfl, this.1, this.2⟩
  obtain ⟨w1, hw1, t1, t2⟩ := one_rows w
  have T1 := Lib.hid t1
  have T2 := Lib.hid t2
  have T7 := Lib.hid hw1
  clear hw1 t1 t2
  unfold CmR
  rcases hk with rfl | rfl | rfl | rfl
  · cases e
    · rw [show cmOn 0 0 false = (0, 1, 1) by decide]
      go_enter Tryd.func12, Tryd.ntmps12
      go_upto_region 8 with (refine wpList_buildSlice_is rfl 45 9 7 _ rfl Tryd.underlying45 i0 hi0 _ hz0 hs0 (by omega) (by omega) rowsC (by unfold rowsC; kernel_rfl) ?_)
      rw [T7.out]
      have c0 := row0 T1.out
      have x0 := at02
      clear T1 T7
      go_wp2
      go_ret3
      exact ⟨rfl, T2.out⟩
    · rw [show cmOn 0 0 true = (0, 1, 1) by decide]
      go_enter Tryd.func12, Tryd.ntmps12
      go_upto_region 8 with (refine wpList_buildSlice_is rfl 45 9 7 _ rfl Tryd.underlying45 i0 hi0 _ hz0 hs0 (by omega) (by omega) rowsC (by unfold rowsC; kernel_rfl) ?_)
      rw [T7.out]
      have c0 := row0 T1.out
      have x0 := at03
      clear T1 T7
      go_wp2
      go_ret3
      exact ⟨rfl, T2.out⟩
  · cases e
    · rw [show cmOn 0 1 false = (1, 0, 0) by decide]
      go_enter Tryd.func12, Tryd.ntmps12
      go_upto_region 8 with (refine wpList_buildSlice_is rfl 45 9 7 _ rfl Tryd.underlying45 i0 hi0 _ hz0 hs0 (by omega) (by omega) rowsC (by unfold rowsC; kernel_rfl) ?_)
      rw [T7.out]
      have c0 := row0 T1.out
      have x0 := at00
      clear T1 T7
      go_wp2
      go_ret3
      exact ⟨rfl, T2.out⟩
    · rw [show cmOn 0 1 true = (3, 0, 0) by decide]
      go_enter Tryd.func12, Tryd.ntmps12
      go_upto_region 8 with (refine wpList_buildSlice_is rfl 45 9 7 _ rfl Tryd.underlying45 i0 hi0 _ hz0 hs0 (by omega) (by omega) rowsC (by unfold rowsC; kernel_rfl) ?_)
      rw [T7.out]
      have c0 := row0 T1.out
      have x0 := at01
      clear T1 T7
      go_wp2
      go_ret3
      exact ⟨rfl, T2.out⟩
  · cases e
    · rw [show cmOn 0 3 false = (0, 1, 1) by decide]
      go_enter Tryd.func12, Tryd.ntmps12
      go_upto_region 8 with (refine wpList_buildSlice_is rfl 45 9 7 _ rfl Tryd.underlying45 i0 hi0 _ hz0 hs0 (by omega) (by omega) rowsC (by unfold rowsC; kernel_rfl) ?_)
      rw [T7.out]
      have c0 := row0 T1.out
      have x0 := at04
      clear T1 T7
      go_wp2
      go_ret3
      exact ⟨rfl, T2.out⟩
    · rw [show cmOn 0 3 true = (0, 1, 1) by decide]
      go_enter Tryd.func12, Tryd.ntmps12
      go_upto_region 8 with (refine wpList_buildSlice_is rfl 45 9 7 _ rfl Tryd.underlying45 i0 hi0 _ hz0 hs0 (by omega) (by omega) rowsC (by unfold rowsC; kernel_rfl) ?_)
      rw [T7.out]
      have c0 := row0 T1.out
      have x0 := at04
      clear T1 T7
      go_wp2
      go_ret3
      exact ⟨rfl, T2.out⟩
  · cases e
    · rw [show cmOn 0 8 false = (0, 1, 1) by decide]
      go_enter Tryd.func12, Tryd.ntmps12
      go_upto_region 8 with (refine wpList_buildSlice_is rfl 45 9 7 _ rfl Tryd.underlying45 i0 hi0 _ hz0 hs0 (by omega) (by omega) rowsC (by unfold rowsC; kernel_rfl) ?_)
      rw [T7.out]
      have c0 := row0 T1.out
      have x0 := at05
      clear T1 T7
      go_wp2
      go_ret3
      exact ⟨rfl, T2.out⟩
    · rw [show cmOn 0 8 true = (0, 1, 1) by decide]
      go_enter Tryd.func12, Tryd.ntmps12
      go_upto_region 8 with (refine wpList_buildSlice_is rfl 45 9 7 _ rfl Tryd.underlying45 i0 hi0 _ hz0 hs0 (by omega) (by omega) rowsC (by unfold rowsC; kernel_rfl) ?_)
      rw [T7.out]
      have c0 := row0 T1.out
      have x0 := at05
      clear T1 T7
      go_wp2
      go_ret3
      exact ⟨rfl, T2.out⟩
set_option maxRecDepth 100000 in
set_option maxHeartbeats 4000000 in
theorem rcome_1 (k : Int) (e : Bool) (hk : k = 0 ∨ k = 1 ∨ k = 3 ∨ k = 8) (w : World) : Calls Tryd.prog 12 #[.int .u8 1, .int .u8 k, .bool e] w (CmR (cmOn 1 k e) w) := by
  obtain ⟨i0, hi0, hz0, hs0⟩ : ∃ i, Tryd.prog.info? 9 = some i ∧ i.zero = some (.string ⟨#[]⟩) ∧ i.size = 1 := by
    have := str_infoT
    cases h : Tryd.prog.info? 9 with
    | none => rw [h] at this; cases this
    | some i => rw [h] at this; simp at this; exact ⟨i, rfl, this.1, this.2⟩
  obtain ⟨w1, hw1, t1, t2⟩ := one_rows w
  have T1 := Lib.hid t1
  have T2 := Lib.hid t2
  have T7 := Lib.hid hw1
  clear hw1 t1 t2
  unfold CmR
  rcases hk with rfl | rfl | rfl | rfl
  · cases e
    · rw [show cmOn 1 0 false = (1, 0, 0) by decide]
      go_enter Tryd.func12, Tryd.ntmps12
      go_upto_region 8 with (refine wpList_buildSlice_is rfl 45 9 7 _ rfl Tryd.underlying45 i0 hi0 _ hz0 hs0 (by omega) (by omega) rowsC (by unfold rowsC; kernel_rfl) ?_)
      rw [T7.out]
      have c0 := row1 T1.out
      have x0 := at12
      clear T1 T7
      go_wp2
      go_ret3
      exact ⟨rfl, T2.out⟩
    · rw [show cmOn 1 0 true = (3, 0, 0) by decide]
      go_enter Tryd.func12, Tryd.ntmps12
      go_upto_region 8 with (refine wpList_buildSlice_is rfl 45 9 7 _ rfl Tryd.underlying45 i0 hi0 _ hz0 hs0 (by omega) (by omega) rowsC (by unfold rowsC; kernel_rfl) ?_)
      rw [T7.out]
      have c0 := row1 T1.out
      have x0 := at13
      clear T1 T7
      go_wp2
      go_ret3
      exact ⟨rfl, T2.out⟩
  · cases e
    · rw [show cmOn 1 1 false = (1, 2, 1) by decide]
      go_enter Tryd.func12, Tryd.ntmps12
      go_upto_region 8 with (refine wpList_buildSlice_is rfl 45 9 7 _ rfl Tryd.underlying45 i0 hi0 _ hz0 hs0 (by omega) (by omega) rowsC (by unfold rowsC; kernel_rfl) ?_)
      rw [T7.out]
      have c0 := row1 T1.out
      have x0 := at10
      clear T1 T7
      go_wp2
      go_ret3
      exact ⟨rfl, T2.out⟩
    · rw [show cmOn 1 1 true = (3, 0, 0) by decide]
      go_enter Tryd.func12, Tryd.ntmps12
      go_upto_region 8 with (refine wpList_buildSlice_is rfl 45 9 7 _ rfl Tryd.underlying45 i0 hi0 _ hz0 hs0 (by omega) (by omega) rowsC (by unfold rowsC; kernel_rfl) ?_)
      rw [T7.out]
      have c0 := row1 T1.out
      have x0 := at11
      clear T1 T7
      go_wp2
      go_ret3
      exact ⟨rfl, T2.out⟩
  · cases e
    · rw [show cmOn 1 3 false = (6, 0, 0) by decide]
      go_enter Tryd.func12, Tryd.ntmps12
      go_upto_region 8 with (refine wpList_buildSlice_is rfl 45 9 7 _ rfl Tryd.underlying45 i0 hi0 _ hz0 hs0 (by omega) (by omega) rowsC (by unfold rowsC; kernel_rfl) ?_)
      rw [T7.out]
      have c0 := row1 T1.out
      have x0 := at14
      clear T1 T7
      go_wp2
      go_ret3
      exact ⟨rfl, T2.out⟩
    · rw [show cmOn 1 3 true = (6, 0, 0) by decide]
      go_enter Tryd.func12, Tryd.ntmps12
      go_upto_region 8 with (refine wpList_buildSlice_is rfl 45 9 7 _ rfl Tryd.underlying45 i0 hi0 _ hz0 hs0 (by omega) (by omega) rowsC (by unfold rowsC; kernel_rfl) ?_)
      rw [T7.out]
      have c0 := row1 T1.out
      have x0 := at14
      clear T1 T7
      go_wp2
      go_ret3
      exact ⟨rfl, T2.out⟩
  · cases e
    · rw [show cmOn 1 8 false = (1, 0, 0) by decide]
      go_enter Tryd.func12, Tryd.ntmps12
      go_upto_region 8 with (refine wpList_buildSlice_is rfl 45 9 7 _ rfl Tryd.underlying45 i0 hi0 _ hz0 hs0 (by omega) (by omega) rowsC (by unfold rowsC; kernel_rfl) ?_)
      rw [T7.out]
      have c0 := row1 T1.out
      have x0 := at15
      clear T1 T7
      go_wp2
      go_ret3
      exact ⟨rfl, T2.out⟩
    · rw [show cmOn 1 8 true = (1, 0, 0) by decide]
      go_enter Tryd.func12, Tryd.ntmps12
      go_upto_region 8 with (refine wpList_buildSlice_is rfl 45 9 7 _ rfl Tryd.underlying45 i0 hi0 _ hz0 hs0 (by omega) (by omega) rowsC (by unfold rowsC; kernel_rfl) ?_)
      rw [T7.out]
      have c0 := row1 T1.out
      have x0 := at15
      clear T1 T7
      go_wp2
      go_ret3
      exact ⟨rfl, T2.out⟩
set_option maxRecDepth 100000 in
set_option maxHeartbeats 4000000 in
theorem rcome_2 (k : Int) (e : Bool) (hk : k = 0 ∨ k = 1 ∨ k = 3 ∨ k = 8) (w : World) : Calls Tryd.prog 12 #[.int .u8 2, .int .u8 k, .bool e] w (CmR (cmOn 2 k e) w) := by
  obtain ⟨i0, hi0, hz0, hs0⟩ : ∃ i, Tryd.prog.info? 9 = some i ∧ i.zero = some (.string ⟨#[]⟩) ∧ i.size = 1 := by
    have := str_infoT
    cases h : Tryd.prog.info? 9 with
    | none => rw [h] at this; cases this
    | some i => rw [h] at this; simp at this; exact ⟨i, rfl, this.1, this.2⟩
  obtain ⟨w1, hw1, t1, t2⟩ := one_rows w
  have T1 := Lib.hid t1
  have T2 := Lib.hid t2
  have T7 := Lib.hid hw1
  clear hw1 t1 t2
  unfold CmR
  rcases hk with rfl | rfl | rfl | rfl
  · cases e
    · rw [show cmOn 2 0 false = (2, 0, 0) by decide]
      go_enter Tryd.func12, Tryd.ntmps12
      go_upto_region 8 with (refine wpList_buildSlice_is rfl 45 9 7 _ rfl Tryd.underlying45 i0 hi0 _ hz0 hs0 (by omega) (by omega) rowsC (by unfold rowsC; kernel_rfl) ?_)
      rw [T7.out]
      have c0 := row2 T1.out
      have x0 := at22
      clear T1 T7
      go_wp2
      go_ret3
      exact ⟨rfl, T2.out⟩
    · rw [show cmOn 2 0 true = (4, 0, 0) by decide]
      go_enter Tryd.func12, Tryd.ntmps12
      go_upto_region 8 with (refine wpList_buildSlice_is rfl 45 9 7 _ rfl Tryd.underlying45 i0 hi0 _ hz0 hs0 (by omega) (by omega) rowsC (by unfold rowsC; kernel_rfl) ?_)
      rw [T7.out]
      have c0 := row2 T1.out
      have x0 := at23
      clear T1 T7
      go_wp2
      go_ret3
      exact ⟨rfl, T2.out⟩
  · cases e
    · rw [show cmOn 2 1 false = (2, 2, 1) by decide]
      go_enter Tryd.func12, Tryd.ntmps12
      go_upto_region 8 with (refine wpList_buildSlice_is rfl 45 9 7 _ rfl Tryd.underlying45 i0 hi0 _ hz0 hs0 (by omega) (by omega) rowsC (by unfold rowsC; kernel_rfl) ?_)
      rw [T7.out]
      have c0 := row2 T1.out
      have x0 := at20
      clear T1 T7
      go_wp2
      go_ret3
      exact ⟨rfl, T2.out⟩
    · rw [show cmOn 2 1 true = (4, 0, 0) by decide]
      go_enter Tryd.func12, Tryd.ntmps12
      go_upto_region 8 with (refine wpList_buildSlice_is rfl 45 9 7 _ rfl Tryd.underlying45 i0 hi0 _ hz0 hs0 (by omega) (by omega) rowsC (by unfold rowsC; kernel_rfl) ?_)
      rw [T7.out]
      have c0 := row2 T1.out
      have x0 := at21
      clear T1 T7
      go_wp2
      go_ret3
      exact ⟨rfl, T2.out⟩
  · cases e
    · rw [show cmOn 2 3 false = (6, 0, 0) by decide]
      go_enter Tryd.func12, Tryd.ntmps12
      go_upto_region 8 with (refine wpList_buildSlice_is rfl 45 9 7 _ rfl Tryd.underlying45 i0 hi0 _ hz0 hs0 (by omega) (by omega) rowsC (by unfold rowsC; kernel_rfl) ?_)
      rw [T7.out]
      have c0 := row2 T1.out
      have x0 := at24
      clear T1 T7
      go_wp2
      go_ret3
      exact ⟨rfl, T2.out⟩
    · rw [show cmOn 2 3 true = (6, 0, 0) by decide]
      go_enter Tryd.func12, Tryd.ntmps12
      go_upto_region 8 with (refine wpList_buildSlice_is rfl 45 9 7 _ rfl Tryd.underlying45 i0 hi0 _ hz0 hs0 (by omega) (by omega) rowsC (by unfold rowsC; kernel_rfl) ?_)
      rw [T7.out]
      have c0 := row2 T1.out
      have x0 := at24
      clear T1 T7
      go_wp2
      go_ret3
      exact ⟨rfl, T2.out⟩
  · cases e
    · rw [show cmOn 2 8 false = (2, 0, 0) by decide]
      go_enter Tryd.func12, Tryd.ntmps12
      go_upto_region 8 with (refine wpList_buildSlice_is rfl 45 9 7 _ rfl Tryd.underlying45 i0 hi0 _ hz0 hs0 (by omega) (by omega) rowsC (by unfold rowsC; kernel_rfl) ?_)
      rw [T7.out]
      have c0 := row2 T1.out
      have x0 := at25
      clear T1 T7
      go_wp2
      go_ret3
      exact ⟨rfl, T2.out⟩
    · rw [show cmOn 2 8 true = (2, 0, 0) by decide]
      go_enter Tryd.func12, Tryd.ntmps12
      go_upto_region 8 with (refine wpList_buildSlice_is rfl 45 9 7 _ rfl Tryd.underlying45 i0 hi0 _ hz0 hs0 (by omega) (by omega) rowsC (by unfold rowsC; kernel_rfl) ?_)
      rw [T7.out]
      have c0 := row2 T1.out
      have x0 := at25
      clear T1 T7
      go_wp2
      go_ret3
      exact ⟨rfl, T2.out⟩
set_option maxRecDepth 100000 in
set_option maxHeartbeats 4000000 in
theorem rcome_3 (k : Int) (e : Bool) (hk : k = 0 ∨ k = 1 ∨ k = 3 ∨ k = 8) (w : World) : Calls Tryd.prog 12 #[.int .u8 3, .int .u8 k, .bool e] w (CmR (cmOn 3 k e) w) := by
  obtain ⟨i0, hi0, hz0, hs0⟩ : ∃ i, Tryd.prog.info? 9 = some i ∧ i.zero = some (.string ⟨#[]⟩) ∧ i.size = 1 := by
    have := str_infoT
    cases h : Tryd.prog.info? 9 with
    | none => rw [h] at this; cases this
    | some i => rw [h] at this; simp at this; exact ⟨i, rfl, this.1, this.2⟩
  obtain ⟨w1, hw1, t1, t2⟩ := one_rows w
  have T1 := Lib.hid t1
  have T2 := Lib.hid t2
  have T7 := Lib.hid hw1
  clear hw1 t1 t2
  unfold CmR
  rcases hk with rfl | rfl | rfl | rfl
  · cases e
    · rw [show cmOn 3 0 false = (3, 2, 5) by decide]
      go_enter Tryd.func12, Tryd.ntmps12
      go_upto_region 8 with (refine wpList_buildSlice_is rfl 45 9 7 _ rfl Tryd.underlying45 i0 hi0 _ hz0 hs0 (by omega) (by omega) rowsC (by unfold rowsC; kernel_rfl) ?_)
      rw [T7.out]
      have c0 := row3 T1.out
      have x0 := at32
      clear T1 T7
      go_wp2
      go_ret3
      exact ⟨rfl, T2.out⟩
    · rw [show cmOn 3 0 true = (3, 2, 5) by decide]
      go_enter Tryd.func12, Tryd.ntmps12
      go_upto_region 8 with (refine wpList_buildSlice_is rfl 45 9 7 _ rfl Tryd.underlying45 i0 hi0 _ hz0 hs0 (by omega) (by omega) rowsC (by unfold rowsC; kernel_rfl) ?_)
      rw [T7.out]
      have c0 := row3 T1.out
      have x0 := at33
      clear T1 T7
      go_wp2
      go_ret3
      exact ⟨rfl, T2.out⟩
  · cases e
    · rw [show cmOn 3 1 false = (3, 2, 5) by decide]
      go_enter Tryd.func12, Tryd.ntmps12
      go_upto_region 8 with (refine wpList_buildSlice_is rfl 45 9 7 _ rfl Tryd.underlying45 i0 hi0 _ hz0 hs0 (by omega) (by omega) rowsC (by unfold rowsC; kernel_rfl) ?_)
      rw [T7.out]
      have c0 := row3 T1.out
      have x0 := at30
      clear T1 T7
      go_wp2
      go_ret3
      exact ⟨rfl, T2.out⟩
    · rw [show cmOn 3 1 true = (3, 2, 5) by decide]
      go_enter Tryd.func12, Tryd.ntmps12
      go_upto_region 8 with (refine wpList_buildSlice_is rfl 45 9 7 _ rfl Tryd.underlying45 i0 hi0 _ hz0 hs0 (by omega) (by omega) rowsC (by unfold rowsC; kernel_rfl) ?_)
      rw [T7.out]
      have c0 := row3 T1.out
      have x0 := at31
      clear T1 T7
      go_wp2
      go_ret3
      exact ⟨rfl, T2.out⟩
  · cases e
    · rw [show cmOn 3 3 false = (6, 0, 0) by decide]
      go_enter Tryd.func12, Tryd.ntmps12
      go_upto_region 8 with (refine wpList_buildSlice_is rfl 45 9 7 _ rfl Tryd.underlying45 i0 hi0 _ hz0 hs0 (by omega) (by omega) rowsC (by unfold rowsC; kernel_rfl) ?_)
      rw [T7.out]
      have c0 := row3 T1.out
      have x0 := at34
      clear T1 T7
      go_wp2
      go_ret3
      exact ⟨rfl, T2.out⟩
    · rw [show cmOn 3 3 true = (6, 0, 0) by decide]
      go_enter Tryd.func12, Tryd.ntmps12
      go_upto_region 8 with (refine wpList_buildSlice_is rfl 45 9 7 _ rfl Tryd.underlying45 i0 hi0 _ hz0 hs0 (by omega) (by omega) rowsC (by unfold rowsC; kernel_rfl) ?_)
      rw [T7.out]
      have c0 := row3 T1.out
      have x0 := at34
      clear T1 T7
      go_wp2
      go_ret3
      exact ⟨rfl, T2.out⟩
  · cases e
    · rw [show cmOn 3 8 false = (3, 0, 0) by decide]
      go_enter Tryd.func12, Tryd.ntmps12
      go_upto_region 8 with (refine wpList_buildSlice_is rfl 45 9 7 _ rfl Tryd.underlying45 i0 hi0 _ hz0 hs0 (by omega) (by omega) rowsC (by unfold rowsC; kernel_rfl) ?_)
      rw [T7.out]
      have c0 := row3 T1.out
      have x0 := at35
      clear T1 T7
      go_wp2
      go_ret3
      exact ⟨rfl, T2.out⟩
    · rw [show cmOn 3 8 true = (3, 0, 0) by decide]
      go_enter Tryd.func12, Tryd.ntmps12
      go_upto_region 8 with (refine wpList_buildSlice_is rfl 45 9 7 _ rfl Tryd.underlying45 i0 hi0 _ hz0 hs0 (by omega) (by omega) rowsC (by unfold rowsC; kernel_rfl) ?_)
      rw [T7.out]
      have c0 := row3 T1.out
      have x0 := at35
      clear T1 T7
      go_wp2
      go_ret3
      exact ⟨rfl, T2.out⟩
set_option maxRecDepth 100000 in
set_option maxHeartbeats 4000000 in
theorem rcome_4 (k : Int) (e : Bool) (hk : k = 0 ∨ k = 1 ∨ k = 3 ∨ k = 8) (w : World) : Calls Tryd.prog 12 #[.int .u8 4, .int .u8 k, .bool e] w (CmR (cmOn 4 k e) w) := by
  obtain ⟨i0, hi0, hz0, hs0⟩ : ∃ i, Tryd.prog.info? 9 = some i ∧ i.zero = some (.string ⟨#[]⟩) ∧ i.size = 1 := by
    have := str_infoT
    cases h : Tryd.prog.info? 9 with
    | none => rw [h] at this; cases this
    | some i => rw [h] at this; simp at this; exact ⟨i, rfl, this.1, this.2⟩
  obtain ⟨w1, hw1, t1, t2⟩ := one_rows w
  have T1 := Lib.hid t1
  have T2 := Lib.hid t2
  have T7 := Lib.hid hw1
  clear hw1 t1 t2
  unfold CmR
  rcases hk with rfl | rfl | rfl | rfl
  · cases e
    · rw [show cmOn 4 0 false = (4, 1, 5) by decide]
      go_enter Tryd.func12, Tryd.ntmps12
      go_upto_region 8 with (refine wpList_buildSlice_is rfl 45 9 7 _ rfl Tryd.underlying45 i0 hi0 _ hz0 hs0 (by omega) (by omega) rowsC (by unfold rowsC; kernel_rfl) ?_)
      rw [T7.out]
      have c0 := row4 T1.out
      have x0 := at42
      clear T1 T7
      go_wp2
      go_ret3
      exact ⟨rfl, T2.out⟩
    · rw [show cmOn 4 0 true = (4, 1, 5) by decide]
      go_enter Tryd.func12, Tryd.ntmps12
      go_upto_region 8 with (refine wpList_buildSlice_is rfl 45 9 7 _ rfl Tryd.underlying45 i0 hi0 _ hz0 hs0 (by omega) (by omega) rowsC (by unfold rowsC; kernel_rfl) ?_)
      rw [T7.out]
      have c0 := row4 T1.out
      have x0 := at43
      clear T1 T7
      go_wp2
      go_ret3
      exact ⟨rfl, T2.out⟩
  · cases e
    · rw [show cmOn 4 1 false = (4, 1, 5) by decide]
      go_enter Tryd.func12, Tryd.ntmps12
      go_upto_region 8 with (refine wpList_buildSlice_is rfl 45 9 7 _ rfl Tryd.underlying45 i0 hi0 _ hz0 hs0 (by omega) (by omega) rowsC (by unfold rowsC; kernel_rfl) ?_)
      rw [T7.out]
      have c0 := row4 T1.out
      have x0 := at40
      clear T1 T7
      go_wp2
      go_ret3
      exact ⟨rfl, T2.out⟩
    · rw [show cmOn 4 1 true = (4, 1, 5) by decide]
      go_enter Tryd.func12, Tryd.ntmps12
      go_upto_region 8 with (refine wpList_buildSlice_is rfl 45 9 7 _ rfl Tryd.underlying45 i0 hi0 _ hz0 hs0 (by omega) (by omega) rowsC (by unfold rowsC; kernel_rfl) ?_)
      rw [T7.out]
      have c0 := row4 T1.out
      have x0 := at41
      clear T1 T7
      go_wp2
      go_ret3
      exact ⟨rfl, T2.out⟩
  · cases e
    · rw [show cmOn 4 3 false = (4, 0, 0) by decide]
      go_enter Tryd.func12, Tryd.ntmps12
      go_upto_region 8 with (refine wpList_buildSlice_is rfl 45 9 7 _ rfl Tryd.underlying45 i0 hi0 _ hz0 hs0 (by omega) (by omega) rowsC (by unfold rowsC; kernel_rfl) ?_)
      rw [T7.out]
      have c0 := row4 T1.out
      have x0 := at44
      clear T1 T7
      go_wp2
      go_ret3
      exact ⟨rfl, T2.out⟩
    · rw [show cmOn 4 3 true = (4, 0, 0) by decide]
      go_enter Tryd.func12, Tryd.ntmps12
      go_upto_region 8 with (refine wpList_buildSlice_is rfl 45 9 7 _ rfl Tryd.underlying45 i0 hi0 _ hz0 hs0 (by omega) (by omega) rowsC (by unfold rowsC; kernel_rfl) ?_)
      rw [T7.out]
      have c0 := row4 T1.out
      have x0 := at44
      clear T1 T7
      go_wp2
      go_ret3
      exact ⟨rfl, T2.out⟩
  · cases e
    · rw [show cmOn 4 8 false = (4, 0, 0) by decide]
      go_enter Tryd.func12, Tryd.ntmps12
      go_upto_region 8 with (refine wpList_buildSlice_is rfl 45 9 7 _ rfl Tryd.underlying45 i0 hi0 _ hz0 hs0 (by omega) (by omega) rowsC (by unfold rowsC; kernel_rfl) ?_)
      rw [T7.out]
      have c0 := row4 T1.out
      have x0 := at45
      clear T1 T7
      go_wp2
      go_ret3
      exact ⟨rfl, T2.out⟩
    · rw [show cmOn 4 8 true = (4, 0, 0) by decide]
      go_enter Tryd.func12, Tryd.ntmps12
      go_upto_region 8 with (refine wpList_buildSlice_is rfl 45 9 7 _ rfl Tryd.underlying45 i0 hi0 _ hz0 hs0 (by omega) (by omega) rowsC (by unfold rowsC; kernel_rfl) ?_)
      rw [T7.out]
      have c0 := row4 T1.out
      have x0 := at45
      clear T1 T7
      go_wp2
      go_ret3
      exact ⟨rfl, T2.out⟩
set_option maxRecDepth 100000 in
set_option maxHeartbeats 4000000 in
theorem rcome_5 (k : Int) (e : Bool) (hk : k = 0 ∨ k = 1 ∨ k = 3 ∨ k = 8) (w : World) : Calls Tryd.prog 12 #[.int .u8 5, .int .u8 k, .bool e] w (CmR (cmOn 5 k e) w) := by
  obtain ⟨i0, hi0, hz0, hs0⟩ : ∃ i, Tryd.prog.info? 9 = some i ∧ i.zero = some (.string ⟨#[]⟩) ∧ i.size = 1 := by
    have := str_infoT
    cases h : Tryd.prog.info? 9 with
    | none => rw [h] at this; cases this
    | some i => rw [h] at this; simp at this; exact ⟨i, rfl, this.1, this.2⟩
  obtain ⟨w1, hw1, t1, t2⟩ := one_rows w
  have T1 := Lib.hid t1
  have T2 := Lib.hid t2
  have T7 := Lib.hid hw1
  clear hw1 t1 t2
  unfold CmR
  rcases hk with rfl | rfl | rfl | rfl
  · cases e
    · rw [show cmOn 5 0 false = (5, 0, 0) by decide]
      go_enter Tryd.func12, Tryd.ntmps12
      go_upto_region 8 with (refine wpList_buildSlice_is rfl 45 9 7 _ rfl Tryd.underlying45 i0 hi0 _ hz0 hs0 (by omega) (by omega) rowsC (by unfold rowsC; kernel_rfl) ?_)
      rw [T7.out]
      have c0 := row5 T1.out
      have x0 := at52
      clear T1 T7
      go_wp2
      go_ret3
      exact ⟨rfl, T2.out⟩
    · rw [show cmOn 5 0 true = (5, 0, 0) by decide]
      go_enter Tryd.func12, Tryd.ntmps12
      go_upto_region 8 with (refine wpList_buildSlice_is rfl 45 9 7 _ rfl Tryd.underlying45 i0 hi0 _ hz0 hs0 (by omega) (by omega) rowsC (by unfold rowsC; kernel_rfl) ?_)
      rw [T7.out]
      have c0 := row5 T1.out
      have x0 := at53
      clear T1 T7
      go_wp2
      go_ret3
      exact ⟨rfl, T2.out⟩
  · cases e
    · rw [show cmOn 5 1 false = (5, 0, 0) by decide]
      go_enter Tryd.func12, Tryd.ntmps12
      go_upto_region 8 with (refine wpList_buildSlice_is rfl 45 9 7 _ rfl Tryd.underlying45 i0 hi0 _ hz0 hs0 (by omega) (by omega) rowsC (by unfold rowsC; kernel_rfl) ?_)
      rw [T7.out]
      have c0 := row5 T1.out
      have x0 := at50
      clear T1 T7
      go_wp2
      go_ret3
      exact ⟨rfl, T2.out⟩
    · rw [show cmOn 5 1 true = (5, 0, 0) by decide]
      go_enter Tryd.func12, Tryd.ntmps12
      go_upto_region 8 with (refine wpList_buildSlice_is rfl 45 9 7 _ rfl Tryd.underlying45 i0 hi0 _ hz0 hs0 (by omega) (by omega) rowsC (by unfold rowsC; kernel_rfl) ?_)
      rw [T7.out]
      have c0 := row5 T1.out
      have x0 := at51
      clear T1 T7
      go_wp2
      go_ret3
      exact ⟨rfl, T2.out⟩
  · cases e
    · rw [show cmOn 5 3 false = (5, 0, 0) by decide]
      go_enter Tryd.func12, Tryd.ntmps12
      go_upto_region 8 with (refine wpList_buildSlice_is rfl 45 9 7 _ rfl Tryd.underlying45 i0 hi0 _ hz0 hs0 (by omega) (by omega) rowsC (by unfold rowsC; kernel_rfl) ?_)
      rw [T7.out]
      have c0 := row5 T1.out
      have x0 := at54
      clear T1 T7
      go_wp2
      go_ret3
      exact ⟨rfl, T2.out⟩
    · rw [show cmOn 5 3 true = (5, 0, 0) by decide]
      go_enter Tryd.func12, Tryd.ntmps12
      go_upto_region 8 with (refine wpList_buildSlice_is rfl 45 9 7 _ rfl Tryd.underlying45 i0 hi0 _ hz0 hs0 (by omega) (by omega) rowsC (by unfold rowsC; kernel_rfl) ?_)
      rw [T7.out]
      have c0 := row5 T1.out
      have x0 := at54
      clear T1 T7
      go_wp2
      go_ret3
      exact ⟨rfl, T2.out⟩
  · cases e
    · rw [show cmOn 5 8 false = (5, 0, 0) by decide]
      go_enter Tryd.func12, Tryd.ntmps12
      go_upto_region 8 with (refine wpList_buildSlice_is rfl 45 9 7 _ rfl Tryd.underlying45 i0 hi0 _ hz0 hs0 (by omega) (by omega) rowsC (by unfold rowsC; kernel_rfl) ?_)
      rw [T7.out]
      have c0 := row5 T1.out
      have x0 := at55
      clear T1 T7
      go_wp2
      go_ret3
      exact ⟨rfl, T2.out⟩
    · rw [show cmOn 5 8 true = (5, 0, 0) by decide]
      go_enter Tryd.func12, Tryd.ntmps12
      go_upto_region 8 with (refine wpList_buildSlice_is rfl 45 9 7 _ rfl Tryd.underlying45 i0 hi0 _ hz0 hs0 (by omega) (by omega) rowsC (by unfold rowsC; kernel_rfl) ?_)
      rw [T7.out]
      have c0 := row5 T1.out
      have x0 := at55
      clear T1 T7
      go_wp2
      go_ret3
      exact ⟨rfl, T2.out⟩
set_option maxRecDepth 100000 in
set_option maxHeartbeats 4000000 in
theorem rcome_6 (k : Int) (e : Bool) (hk : k = 0 ∨ k = 1 ∨ k = 3 ∨ k = 8) (w : World) : Calls Tryd.prog 12 #[.int .u8 6, .int .u8 k, .bool e] w (CmR (cmOn 6 k e) w) := by
  obtain ⟨i0, hi0, hz0, hs0⟩ : ∃ i, Tryd.prog.info? 9 = some i ∧ i.zero = some (.string ⟨#[]⟩) ∧ i.size = 1 := by
    have := str_infoT
    cases h : Tryd.prog.info? 9 with
    | none => rw [h] at this; cases this
    | some i => rw [h] at this; simp at this; exact ⟨i, rfl, this.1, this.2⟩
  obtain ⟨w1, hw1, t1, t2⟩ := one_rows w
  have T1 := Lib.hid t1
  have T2 := Lib.hid t2
  have T7 := Lib.hid hw1
  clear hw1 t1 t2
  unfold CmR
  rcases hk with rfl | rfl | rfl | rfl
  · cases e
    · rw [show cmOn 6 0 false = (6, 2, 5) by decide]
      go_enter Tryd.func12, Tryd.ntmps12
      go_upto_region 8 with (refine wpList_buildSlice_is rfl 45 9 7 _ rfl Tryd.underlying45 i0 hi0 _ hz0 hs0 (by omega) (by omega) rowsC (by unfold rowsC; kernel_rfl) ?_)
      rw [T7.out]
      have c0 := row6 T1.out
      have x0 := at62
      clear T1 T7
      go_wp2
      go_ret3
      exact ⟨rfl, T2.out⟩
    · rw [show cmOn 6 0 true = (6, 2, 5) by decide]
      go_enter Tryd.func12, Tryd.ntmps12
      go_upto_region 8 with (refine wpList_buildSlice_is rfl 45 9 7 _ rfl Tryd.underlying45 i0 hi0 _ hz0 hs0 (by omega) (by omega) rowsC (by unfold rowsC; kernel_rfl) ?_)
      rw [T7.out]
      have c0 := row6 T1.out
      have x0 := at63
      clear T1 T7
      go_wp2
      go_ret3
      exact ⟨rfl, T2.out⟩
  · cases e
    · rw [show cmOn 6 1 false = (6, 2, 5) by decide]
      go_enter Tryd.func12, Tryd.ntmps12
      go_upto_region 8 with (refine wpList_buildSlice_is rfl 45 9 7 _ rfl Tryd.underlying45 i0 hi0 _ hz0 hs0 (by omega) (by omega) rowsC (by unfold rowsC; kernel_rfl) ?_)
      rw [T7.out]
      have c0 := row6 T1.out
      have x0 := at60
      clear T1 T7
      go_wp2
      go_ret3
      exact ⟨rfl, T2.out⟩
    · rw [show cmOn 6 1 true = (6, 2, 5) by decide]
      go_enter Tryd.func12, Tryd.ntmps12
      go_upto_region 8 with (refine wpList_buildSlice_is rfl 45 9 7 _ rfl Tryd.underlying45 i0 hi0 _ hz0 hs0 (by omega) (by omega) rowsC (by unfold rowsC; kernel_rfl) ?_)
      rw [T7.out]
      have c0 := row6 T1.out
      have x0 := at61
      clear T1 T7
      go_wp2
      go_ret3
      exact ⟨rfl, T2.out⟩
  · cases e
    · rw [show cmOn 6 3 false = (6, 0, 0) by decide]
      go_enter Tryd.func12, Tryd.ntmps12
      go_upto_region 8 with (refine wpList_buildSlice_is rfl 45 9 7 _ rfl Tryd.underlying45 i0 hi0 _ hz0 hs0 (by omega) (by omega) rowsC (by unfold rowsC; kernel_rfl) ?_)
      rw [T7.out]
      have c0 := row6 T1.out
      have x0 := at64
      clear T1 T7
      go_wp2
      go_ret3
      exact ⟨rfl, T2.out⟩
    · rw [show cmOn 6 3 true = (6, 0, 0) by decide]
      go_enter Tryd.func12, Tryd.ntmps12
      go_upto_region 8 with (refine wpList_buildSlice_is rfl 45 9 7 _ rfl Tryd.underlying45 i0 hi0 _ hz0 hs0 (by omega) (by omega) rowsC (by unfold rowsC; kernel_rfl) ?_)
      rw [T7.out]
      have c0 := row6 T1.out
      have x0 := at64
      clear T1 T7
      go_wp2
      go_ret3
      exact ⟨rfl, T2.out⟩
  · cases e
    · rw [show cmOn 6 8 false = (6, 0, 0) by decide]
      go_enter Tryd.func12, Tryd.ntmps12
      go_upto_region 8 with (refine wpList_buildSlice_is rfl 45 9 7 _ rfl Tryd.underlying45 i0 hi0 _ hz0 hs0 (by omega) (by omega) rowsC (by unfold rowsC; kernel_rfl) ?_)
      rw [T7.out]
      have c0 := row6 T1.out
      have x0 := at65
      clear T1 T7
      go_wp2
      go_ret3
      exact ⟨rfl, T2.out⟩
    · rw [show cmOn 6 8 true = (6, 0, 0) by decide]
      go_enter Tryd.func12, Tryd.ntmps12
      go_upto_region 8 with (refine wpList_buildSlice_is rfl 45 9 7 _ rfl Tryd.underlying45 i0 hi0 _ hz0 hs0 (by omega) (by omega) rowsC (by unfold rowsC; kernel_rfl) ?_)
      rw [T7.out]
      have c0 := row6 T1.out
      have x0 := at65
      clear T1 T7
      go_wp2
      go_ret3
      exact ⟨rfl, T2.out⟩
set_option maxRecDepth 100000 in
set_option maxHeartbeats 4000000 in
theorem rcome_any (s k : Int) (e : Bool) (hs : 0 ≤ s) (hk : 0 ≤ k) (w : World) : Calls Tryd.prog 12 #[.int .u8 s, .int .u8 k, .bool e] w (CmR (cm s k e) w) := by
  by_cases h6 : 6 < s
  · rw [show cm s k e = (s, 1, 2) by simp [cm, h6]]
    clear hk hs
    go_enter Tryd.func12, Tryd.ntmps12
    go_wp2
    go_ret3
    exact ⟨rfl, Below.refl _ _⟩
  have d6 : decide (6 < s) = false := decide_eq_false h6
  by_cases k2 : k = 2
  · subst k2
    rw [show cm s 2 e = (s, 0, 0) by simp [cm, h6]]
    clear hk hs h6
    go_enter Tryd.func12, Tryd.ntmps12
    go_wp2
    go_ret3
    exact ⟨rfl, Below.refl _ _⟩
  by_cases hc : k = 0 ∨ k = 1 ∨ k = 3 ∨ k = 8
  · rw [show cm s k e = cmOn s k e by simp [cm, h6, k2, hc]]
    clear k2 hk d6
    have h7 : s = 0 ∨ s = 1 ∨ s = 2 ∨ s = 3 ∨ s = 4 ∨ s = 5 ∨ s = 6 := by omega
    clear hs h6
    rcases h7 with rfl | rfl | rfl | rfl | rfl | rfl | rfl
    · exact rcome_0 k e hc w
    · exact rcome_1 k e hc w
    · exact rcome_2 k e hc w
    · exact rcome_3 k e hc w
    · exact rcome_4 k e hc w
    · exact rcome_5 k e hc w
    · exact rcome_6 k e hc w
  rw [show cm s k e = (s, 1, 1) by simp [cm, h6, k2, hc]]
  have h3 : 3 < k := by omega
  have e8 := ne_f (a := k) (b := 8) (by omega)
  clear hk hs h6 k2 hc
  go_enter Tryd.func12, Tryd.ntmps12
  go_wp2
  go_ret3
  exact ⟨rfl, Below.refl _ _⟩
end Go.Proofs.YtngngebkecanmaaDoor
