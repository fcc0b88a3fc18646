/-
  The law's own example: fixed answers true. No conditions.
-/
import Derived.Test.YteeglgkmenlecaaDoorFputw
namespace Go.Proofs.YteeglgkmenlecaaDoor
open Go.RowKit Go.WideShapes

def fixF : Frm := ⟨6, 0, 0, List.replicate 8 0, -1, 0, 0, 0, false, 0, []⟩
theorem fix_bytes : putL7 fixF = [0, 0, 8, 6, 0, 0, 0, 0, 0, 0, 0, 0, 0, 0, 0, 0, 0] := by decide +kernel
theorem fix_ok : fixF.Ok := ⟨by decide, by decide, by decide, by decide, fun s hs => by cases hs⟩
theorem fix_may : fixF.May := by unfold Frm.May; decide +kernel
theorem fm_zero : (Tryd.prog.info? 26).map (·.zero) = some (some (.agg #[.int .u8 0, .int .u8 0, .int .u32 0, .slice none 0 0, .int .i64 0, .int .u32 0, .int .u32 0, .int .u8 0, .bool false, .int .u32 0, .slice none 0 0])) := by kernel_rfl
theorem fix_c (A : Option Addr) (c : Nat) : (fixF.fm A c none 0).c = #[.int .u8 6, .int .u8 0, .int .u32 0, .slice A 8 c, .int .i64 (-1), .int .u32 0, .int .u32 0, .int .u8 0, .bool false, .int .u32 0, .slice none 0 0] := rfl

set_option maxRecDepth 100000 in
set_option maxHeartbeats 1000000 in
theorem fixed_any7 (w : World) : Calls Tryd.prog 8 #[] w fun e w' => e = .returned (.bool true) ∧ Below w.heap.size w w' := by
  obtain ⟨i0, hi0, hz0, hz1, hz2⟩ := info_parts u8_info
  have hmk : (Instr.makeSlice 23 (.int .i64 8) (.int .i64 8)).run Tryd.prog w = .ok (.slice (some ⟨w.heap.size, 0, none⟩) 8 8) (w.alloc (.cells (madeCells #[Value.int .u8 0] 8) 5)) := by
    have := run_make (P := Tryd.prog) w 23 5 i0 (.int .u8 0) Tryd.underlying23 hi0 hz0 .i64 .i64 8 8 (by omega) (by omega) (by rw [hz2]; omega) (by omega)
    rw [this, hz1]
    rfl
  have hMC : (madeCells #[Value.int .u8 0] 8).toList = byc (List.replicate 8 0) := by kernel_rfl
  have HB : Hid (Below w.heap.size w (w.alloc (.cells (madeCells #[Value.int .u8 0] 8) 5))) := (Below.refl _ _).alloc (Nat.le_refl _) _
  have hput := fput_yes fixF fix_ok fix_may (dA := some ⟨w.heap.size, 0, none⟩) (dc := 8) (sA := none) (sc := 0) (w.alloc (.cells (madeCells #[Value.int .u8 0] 8) 5)) (RdB.row (Row.new w _ _) hMC (Row.new w _ _).lt) RdS.nil
  rw [fix_bytes, fix_c] at hput
  have HP := Lib.hid hput
  clear hput hMC
  generalize madeCells #[Value.int .u8 0] 8 = MC at *
  go_enter Tryd.func8, Tryd.ntmps8
  go_wp2_with fail
  refine HP.out.mono ?_
  rintro e w1 ⟨A, c, rfl, hO, hB⟩
  have htx : (convert 23 9 (.slice A 17 c)).run Tryd.prog w1 = .ok (.string ⟨#[0, 0, 8, 6, 0, 0, 0, 0, 0, 0, 0, 0, 0, 0, 0, 0, 0]⟩) w1 := run_text (P := Tryd.prog) (c := c) Tryd.underlying23 Tryd.underlying5 Tryd.underlying9 hO.reads
  have HB1 := Lib.hid (HB.out.trans (hB.mono HB.out.size))
  clear hO hB HP hmk
  go_wp2_with fail
  go_ret
  exact ⟨rfl, HB1.out⟩
end Go.Proofs.YteeglgkmenlecaaDoor
