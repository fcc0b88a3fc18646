/-
  The law's own example: fixed answers true. No conditions.
-/
import Derived.Test.YtfajffchnnalaaaKputb
namespace Go.Proofs.Ytfajffchnnalaaa
open Go.RowKit Go.WideShapes

def fixF : Fd := ⟨[58, 109, 101, 116, 104, 111, 100], [71, 69, 84], false⟩
theorem fix_bytes : limL false 0 (min 4096 4096) ++ putA (min 4096 4096) [] [fixF] = [130] := by decide +kernel

attribute [local irreducible] tot shr sz txtL numL litL addL putF tabF nOf hOf putA tabA limL

set_option maxRecDepth 100000 in
set_option maxHeartbeats 1000000 in
theorem fixed_any (w : World) : Calls Try.prog 10 #[] w fun e w' => e = .returned (.bool true) ∧ Below w.heap.size w w' := by
  have hnew := newE_any 4096 (by omega) w w.heap.size (Nat.le_refl _)
  go_enter Try.func10, Try.ntmps10
  go_wp2_with fail
  refine hnew.mono ?_
  rintro e w1 ⟨ge, g, rfl, hE, h1, h2, hB⟩
  have HE := Lib.hid hE
  have HB := Lib.hid hB
  have hs := hB.size
  have hge := hE.lt
  have hgg := hE.t.lt
  clear hE hB hnew
  unfold pt
  go_wp2_with fail
  have HE2 := Lib.hid (HE.out.below ((Below.refl _ _).alloc (Nat.le_refl _) (.cells #[.string ⟨#[58, 109, 101, 116, 104, 111, 100]⟩, .string ⟨#[71, 69, 84]⟩, .bool false] 52)))
  have HB2 := Lib.hid (HB.out.alloc hs (.cells #[.string ⟨#[58, 109, 101, 116, 104, 111, 100]⟩, .string ⟨#[71, 69, 84]⟩, .bool false] 52))
  have HR2 := Lib.hid (Row.new w1 52 #[.string ⟨#[58, 109, 101, 116, 104, 111, 100]⟩, .string ⟨#[71, 69, 84]⟩, .bool false])
  have hs2 : w1.heap.size < (w1.alloc (.cells #[.string ⟨#[58, 109, 101, 116, 104, 111, 100]⟩, .string ⟨#[71, 69, 84]⟩, .bool false] 52)).heap.size := by simp
  generalize w1.alloc (.cells #[.string ⟨#[58, 109, 101, 116, 104, 111, 100]⟩, .string ⟨#[71, 69, 84]⟩, .bool false] 52) = w2 at *
  have hRd : RdS w2 (fun k => k = w1.heap.size) (some ⟨w1.heap.size, 0, none⟩) (enl fdc [fixF]) := fun _ => ⟨w1.heap.size, 0, rfl, rfl, fun j u hj => by
    rw [Nat.zero_add]
    exact HR2.out.cell (by rw [enl_one] at hj; simpa [fixF, fdc, tx] using hj)⟩
  have hput := put_any (c := 1) HE2.out (by omega) (by rw [tot_nil0]; omega) (by omega) hRd (fun k hk => ⟨by omega, by omega, by omega, by simp [ob, Value.ownBlock]⟩) (by simp [fixF]) (by simp)
  rw [fix_bytes] at hput
  clear hRd
  refine hput.mono ?_
  rintro e w3 ⟨bv, vr, rfl, hP⟩
  obtain ⟨A, c, rfl, _⟩ := hP.bo.shape
  have htx : (convert 38 9 (.slice A 1 c)).run Try.prog w3 = .ok (.string ⟨#[130]⟩) w3 := run_text (P := Try.prog) (c := c) Try.underlying38 Try.underlying5 Try.underlying9 hP.bo.reads
  have HB3 : Hid (Below w.heap.size w w3) := HB2.out.trans (hP.fs.below (fun k e _ => by
    rcases e with e | e | e
    · omega
    · omega
    · simp [ob, Value.ownBlock] at e) HB2.out.size)
  clear hP hput HR2 HE2 HB2
  go_wp2_with fail
  go_ret
  exact ⟨rfl, HB3.out⟩
end Go.Proofs.Ytfajffchnnalaaa
