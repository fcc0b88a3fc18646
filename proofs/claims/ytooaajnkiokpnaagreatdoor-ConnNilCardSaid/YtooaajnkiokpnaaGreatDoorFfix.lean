/-
  The law's own example: fixed answers true. No conditions.
-/
import Derived.Test.YtooaajnkiokpnaaGreatDoorFputw
namespace Go.Proofs.YtooaajnkiokpnaaGreatDoor
open Go.RowKit Go.WideShapes

def fixF : Frm := ⟨6, 0, 0, List.replicate 8 0, -1, 0, 0, 0, false, 0, []⟩
theorem fix_bytes : putL7 fixF = [0, 0, 8, 6, 0, 0, 0, 0, 0, 0, 0, 0, 0, 0, 0, 0, 0] := by decide +kernel
theorem fix_ok : fixF.Ok := ⟨by decide, by decide, by decide, by decide, fun s hs => by cases hs⟩
theorem fix_may : fixF.May := by unfold Frm.May; decide +kernel
theorem fm_zero : (Tryz.prog.info? 66).map (·.zero) = some (some (.agg #[.int .u8 0, .int .u8 0, .int .u32 0, .slice none 0 0, .int .i64 0, .int .u32 0, .int .u32 0, .int .u8 0, .bool false, .int .u32 0, .slice none 0 0])) := by kernel_rfl
theorem fix_c (A : Option Addr) (c : Nat) : (fixF.fm A c none 0).c = #[.int .u8 6, .int .u8 0, .int .u32 0, .slice A 8 c, .int .i64 (-1), .int .u32 0, .int .u32 0, .int .u8 0, .bool false, .int .u32 0, .slice none 0 0] := rfl

end Go.Proofs.YtooaajnkiokpnaaGreatDoor
