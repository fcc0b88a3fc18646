/-
  StreamSend: the law's walk. Condition: the bounds of its arguments, errors.errorType as the program's text lays it.
-/
import Derived.Test.YtngngebkecanmaaDoorTfx
namespace Go.Proofs.YtngngebkecanmaaDoor
open Go.RowKit Go.WideShapes

attribute [local irreducible] ftc cm sd
set_option maxRecDepth 100000 in
set_option maxHeartbeats 4000000 in
theorem send_law (s k : Int) (e : Bool) (hk : 0 ≤ k) {w : World} (hG : GlobE w) : Calls Tryd.prog 3 #[.int .u8 s, .int .u8 k, .bool e] w fun e w' => e = .returned (.bool true) ∧ Below w.heap.size w w' := by
  have HG := Lib.hid hG
  have HS := Lib.hid (fun W => send_any s k e W)
  have HR := Lib.hid (fun W => rsend_any s k e hk W)
  clear hG hk
  unfold SdP at HS HR
  generalize sd s k e = p at *
  obtain ⟨t, ok⟩ := p
  have e1 : ((t : Int) == t) = true := by simp
  have e2 : (ok == ok) = true := by simp
  go_enter Tryd.func3, Tryd.ntmps3
  go_wp2_with fail
  refine (HS.out _).mono ?_
  rintro e w1 ⟨rfl, rfl⟩
  go_wp2_with fail
  refine (HR.out _).mono ?_
  rintro e w1 ⟨rfl, rfl⟩
  go_wp2_with fail
  refine (fixed_any HG.out).mono ?_
  rintro e w1 ⟨rfl, hb⟩
  have HB := Lib.hid hb
  clear hb HG HS HR
  go_wp2_with fail
  go_ret
  exact ⟨rfl, HB.out⟩
end Go.Proofs.YtngngebkecanmaaDoor
