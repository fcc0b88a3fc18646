/-
  The chapter's example, as the statements ask it: it answers true; below what was there nothing has turned. No conditions.
-/
import Derived.Test.YtffgjnohlcodaaaDoorIpu
import Derived.Lib.SlBytesConst
namespace Go.Proofs.YtffgjnohlcodaaaDoor
open Go.RowKit Go.WideShapes

theorem hello_put : (Pc.mk true 1 false 0 [72, 101, 108, 108, 111]).putL = [129, 5, 72, 101, 108, 108, 111] := by decide
def helloC : Array Value := (byc [72, 101, 108, 108, 111]).toArray
theorem hello_rd (w : World) : RdB (w.alloc (.cells helloC 5 (5, 6))) (w.heap.size + 1) (some ⟨w.heap.size, 0, none⟩) [72, 101, 108, 108, 111] := fun _ => ⟨w.heap.size, 0, rfl, Nat.lt_succ_self _, fun j hj => by
  rw [World.cell?_alloc_mark w helloC 5 (5, 6), Nat.zero_add]
  show (byc [72, 101, 108, 108, 111]).toArray[j]? = _
  rw [List.getElem?_toArray]
  exact byc_at hj⟩
set_option maxRecDepth 100000 in
set_option maxHeartbeats 1000000 in
theorem fixed16_any (w : World) : Calls Tryd.prog 8 #[] w fun e w' => e = .returned (.bool true) ∧ Below w.heap.size w w' := by
  have HO := Lib.hid (hello_rd w)
  have HB : Hid (Below w.heap.size w (w.alloc (.cells helloC 5 (5, 6)))) := (Below.refl _ _).alloc (Nat.le_refl _) _
  have HS : Hid (w.heap.size + 1 ≤ (w.alloc (.cells helloC 5 (5, 6))).heap.size) := by show _ ≤ _; simp
  have hcv : (convert 23 23 (.slice (some ⟨w.heap.size, 0, none⟩) 5 5)).run Tryd.prog (w.alloc (.cells #[.int .u8 72, .int .u8 101, .int .u8 108, .int .u8 108, .int .u8 111] 5)) = .ok (.slice (some ⟨w.heap.size, 0, none⟩) 5 5) (w.alloc (.cells helloC 5 (5, 6))) :=
    Lib.run_convert_bytes_const (P := Tryd.prog) w 23 5 _ 5 5 Tryd.underlying23 Tryd.underlying5
  go_enter Tryd.func8, Tryd.ntmps8
  go_wp2_with fail
  clear hcv
  generalize w.alloc (.cells helloC 5 (5, 6)) = w1 at *
  have hpu := iput_any (Pc.mk true 1 false 0 [72, 101, 108, 108, 111]) (by decide) (by decide) (c := 5) HO.out HS.out (by decide)
  rw [hello_put] at hpu
  refine hpu.mono ?_
  rintro e w2 ⟨A, c, rfl, hO, hb⟩
  have htx : (convert 23 9 (.slice A 7 c)).run Tryd.prog w2 = .ok (.string ⟨#[129, 5, 72, 101, 108, 108, 111]⟩) w2 := run_text (P := Tryd.prog) (c := c) Tryd.underlying23 Tryd.underlying5 Tryd.underlying9 (RdB.ownI hO)
  have HB2 := Lib.hid (HB.out.trans (hb.mono HB.out.size))
  clear hpu hO hb HO HB
  go_wp2_with fail
  go_ret
  exact ⟨rfl, HB2.out⟩
end Go.Proofs.YtffgjnohlcodaaaDoor
