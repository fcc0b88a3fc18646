/-
  StaticsFind, by its contract: at every input it answers true; below what was there nothing has turned.
-/
import Derived.Test.YtlhhoghkpajdlaaSfix
namespace Go.Proofs.Ytlhhoghkpajdlaa
open Go.RowKit Go.WideShapes

attribute [local irreducible] first fndN fndB isN isB nmL vlL tab rtabC fldC

set_option maxRecDepth 100000 in
set_option maxHeartbeats 1000000 in
theorem find_law (a b : List UInt8) (w : World) : Calls Try.prog 4 #[tx a, tx b] w fun e w' => e = .returned (.bool true) ∧ Below w.heap.size w w' := by
  have h1 := find_any a b
  have h2 := rfind_any a b
  unfold tx at h1 h2 ⊢
  generalize fndN a b = n at h1 h2
  generalize fndB a b = t at h1 h2
  have e1 : ((n : Int) == (n : Int)) = true := by simp
  have e2 : (t == t) = true := by simp
  go_enter Try.func4, Try.ntmps4
  go_wp2_with fail
  refine (h1 _).mono ?_
  rintro e w1 ⟨rfl, hb1⟩
  have HB1 := Lib.hid hb1
  clear hb1
  go_wp2_with fail
  refine (h2 _).mono ?_
  rintro e w2 ⟨rfl, hb2⟩
  have HB2 := Lib.hid (HB1.out.trans (hb2.mono HB1.out.size))
  clear hb2 h1 h2
  go_wp2_with fail
  refine (fixed_any _).mono ?_
  rintro e w3 ⟨rfl, hb3⟩
  have HB3 := Lib.hid (HB2.out.trans (hb3.mono HB2.out.size))
  clear hb3
  go_wp2_with fail
  go_ret
  exact ⟨rfl, HB3.out⟩
end Go.Proofs.Ytlhhoghkpajdlaa
