/-
  The chapter's examples, as the statements ask them: they answer true; below what was there nothing has turned.
-/
import Derived.Test.YtlhhoghkpajdlaaSref
namespace Go.Proofs.Ytlhhoghkpajdlaa
open Go.RowKit Go.WideShapes

attribute [local irreducible] first fndN fndB isN isB nmL vlL tab rtabC fldC

set_option maxRecDepth 100000 in
set_option maxHeartbeats 1000000 in
theorem fixed_any (w : World) : Calls Try.prog 9 #[] w fun e w' => e = .returned (.bool true) ∧ Below w.heap.size w w' := by
  have hat := at_yes 1 (by omega)
  rw [ex_two.1, ex_two.2] at hat
  have hf := find_any [58, 115, 116, 97, 116, 117, 115] [50, 48, 49]
  rw [ex_fnd.1, ex_fnd.2] at hf
  unfold tx at hat hf
  go_enter Try.func9, Try.ntmps9
  go_wp2_with fail
  refine (hat _).mono ?_
  rintro e w1 ⟨rfl, hb1⟩
  have HB1 := Lib.hid hb1
  clear hb1
  go_wp2_with fail
  refine (hf _).mono ?_
  rintro e w2 ⟨rfl, hb2⟩
  have HR := (Row.new w1 23 #[.string ⟨#[58, 109, 101, 116, 104, 111, 100]⟩, .string ⟨#[71, 69, 84]⟩, .bool false]).below hb2 (by simp)
  have hc0 := HR.cell (j := 0) rfl
  have hc1 := HR.cell (j := 1) rfl
  have hc2 := HR.cell (j := 2) rfl
  have hlen := len_any w2
  have HB2 := Lib.hid ((HB1.out.alloc HB1.out.size _).trans (hb2.mono (by simp; have := HB1.out.size; omega)))
  clear hb2 HB1 hat hf
  go_wp2_with fail
  refine hlen.mono ?_
  rintro e w3 ⟨rfl, rfl⟩
  go_wp2_with fail
  go_ret
  exact ⟨rfl, HB2.out⟩
end Go.Proofs.Ytlhhoghkpajdlaa
