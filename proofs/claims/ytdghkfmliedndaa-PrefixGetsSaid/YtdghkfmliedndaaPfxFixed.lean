/-
  The chapter's example, as the statements ask it: it answers true; below what was there nothing has turned.
-/
import Derived.Test.YtdghkfmliedndaaPfxRefPut
import Derived.Test.YtdghkfmliedndaaPfxRefGet
namespace Go.Proofs.Ytdghkfmliedndaa
open Go.RowKit Go.WideShapes

set_option maxHeartbeats 2000000 in
theorem fixed_any (w : World) : Calls Try.prog 8 #[] w fun e w' => e = .returned (.bool true) ∧ Below w.heap.size w w' := by
  have hp := put_yes 5 0 1337 (by omega) (by omega) (by omega) (by omega) none 0 [] (by simp) w RdB.nil
  have hE : [] ++ putL 5 0 1337 = [31, 154, 10] := by decide
  rw [hE] at hp
  have hsz := size_yes 5 10 (by omega) (by omega) (by omega)
  rw [show sizeN 5 10 = 1 from by decide] at hsz
  clear hE
  go_enter Try.func8, Try.ntmps8
  go_wp2_with fail
  refine hp.mono ?_
  rintro e w1 ⟨A, c, rfl, ho, hb⟩
  obtain ⟨A', c', e1, _, _, hr⟩ := ho.shape
  injection e1 with e1 _ e3
  subst e1 e3
  have htx : (convert 22 9 (.slice A 3 c)).run Try.prog w1 = .ok (.string ⟨[31, 154, 10].toArray⟩) w1 := run_text Try.underlying22 Try.underlying5 Try.underlying9 hr
  have HB := Lib.hid hb
  have hz := hb.size
  clear ho hr hb
  go_wp2_with (go_at_call 10; refine (hsz _).mono ?_; rintro e w2 ⟨rfl, hb2⟩)
  go_ret
  exact ⟨rfl, HB.out.trans (hb2.mono hz)⟩
end Go.Proofs.Ytdghkfmliedndaa
