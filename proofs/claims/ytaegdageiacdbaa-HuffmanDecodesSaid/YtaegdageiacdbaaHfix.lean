/-
  The chapter's examples, as the statements ask them: they answer true; below what was there nothing has turned.
-/
import Derived.Test.YtaegdageiacdbaaHenc
namespace Go.Proofs.Ytaegdageiacdbaa
open Go.RowKit Go.WideShapes

theorem ex_code : cd 48 = 0 ∧ ln 48 = 5 := by decide +kernel
theorem ex_enc : encL [97] = [31] := by decide +kernel

set_option maxRecDepth 100000 in
set_option maxHeartbeats 2000000 in
theorem fixed_any (w : World) : Calls Try.prog 10 #[] w fun e w' => e = .returned (.bool true) ∧ Below w.heap.size w w' := by
  have hc := code_yes 48 (by omega)
  rw [ex_code.1, ex_code.2] at hc
  unfold TwoN at hc
  have he := enc_any ⟨#[97]⟩ (by decide)
  rw [show encL (ByteArray.mk #[97]).data.toList = [31] from ex_enc] at he
  go_enter Try.func10, Try.ntmps10
  go_wp2_with fail
  refine (hc _).mono ?_
  rintro e w1 ⟨rfl, hb1⟩
  have HB1 := Lib.hid hb1
  clear hb1
  go_wp2_with fail
  refine (he _).mono ?_
  rintro e w2 ⟨A, c, rfl, ho, hb2⟩
  obtain ⟨A', c', e1, _, _, hr⟩ := ho.shape
  injection e1 with e1 _ e3
  subst e1 e3
  have htx : (convert 31 9 (.slice A 1 c)).run Try.prog w2 = .ok (.string ⟨[31].toArray⟩) w2 := run_text Try.underlying31 Try.underlying5 Try.underlying9 hr
  have HB := Lib.hid (HB1.out.trans (hb2.mono HB1.out.size))
  clear ho hr hb2
  go_wp2_with fail
  go_ret
  exact ⟨rfl, HB.out⟩
end Go.Proofs.Ytaegdageiacdbaa
