/-
  The chapter's examples, as the statements ask them: they answer true; below what was there nothing has turned. No conditions.
-/
import Derived.Test.YtbjefomahopnmaaVst
namespace Go.Proofs.Ytbjefomahopnmaa
open Go.RowKit Go.WideShapes

theorem rdn_lit (l : List UInt8) (w : World) {g : Nat} (hg : g < w.heap.size) : RdN (w.alloc (.cells (byc l).toArray 5)) g (some ⟨w.heap.size, 0, none⟩) l := fun _ => ⟨_, 0, rfl, by omega, fun j hj => by
  have h := (Row.new w 5 (byc l).toArray).cell (j := j) (v := .int .u8 (l[j].toNat : Int)) (by simpa using byc_at hj)
  rw [Nat.zero_add, h]⟩
theorem ex_v1 : ckN (some ut0) (nats [192]) = (0, none) := by decide
theorem ex_v2 : ckN (some ut0) (nats [226, 130]) = (2, some ⟨1, 128, 191⟩) := by decide
theorem ex_v3 : whV (some ⟨1, 128, 191⟩) = false := by decide
set_option maxRecDepth 100000 in
set_option maxHeartbeats 2000000 in
theorem fixed15_any (w : World) : Calls Try.prog 8 #[] w fun e w' => e = .returned (.bool true) ∧ Below w.heap.size w w' := by
  go_enter Try.func8, Try.ntmps8
  go_wp2_with fail
  refine (vnew_any _).mono ?_
  rintro e w1 ⟨g1, rfl, hc, hb, hg⟩
  have HC1 := Lib.hid hc
  have HB1 := Lib.hid hb
  have HG1 := Lib.hid hg
  clear hc hb hg
  go_wp2_with fail
  refine (vnew_any _).mono ?_
  rintro e w2 ⟨g2, rfl, hc, hb, hg⟩
  have HC2 := Lib.hid hc
  have HD1 := Lib.hid (HC1.out.below hb)
  have HB2 := Lib.hid (HB1.out.trans (hb.mono HB1.out.size))
  have HG2 : Hid (g1 < g2 ∧ w.heap.size ≤ g2) := ⟨Nat.lt_of_lt_of_le HC1.out.lt hg, Nat.le_trans HB1.out.size hg⟩
  clear hc hb hg HC1 HB1
  have hb3 : Below w2.heap.size w2 (w2.alloc (.cells #[.int .u8 192] 5)) := (Below.refl _ _).alloc (Nat.le_refl _) _
  have hf := feed_any (c := 1) (HD1.out.below hb3) (rdn_lit [192] w2 HD1.out.lt) (by decide)
  rw [ex_v1] at hf
  have HF := Lib.hid hf
  have HC3 := Lib.hid (HC2.out.below hb3)
  have HB3 := Lib.hid (HB2.out.trans (hb3.mono HB2.out.size))
  clear hb3 hf HD1 HC2 HB2
  go_wp2_with fail
  refine HF.out.mono ?_
  rintro e w3 ⟨rfl, hc, hf⟩
  have HD3 := Lib.hid hc
  have HC4 : Hid (Ck w3 g2 (some ut0)) := HC3.out.keep (hf.block g2 HC3.out.lt (by have := HG2.out; omega))
  have HB4 := Lib.hid (HB3.out.trans (hf.below (fun k hk _ => by subst hk; exact HG1.out) HB3.out.size))
  clear hc hf HF HC3 HB3
  have HBA := Lib.hid (vbad_any HD3.out)
  have hb5 : Below w3.heap.size w3 (w3.alloc (.cells #[.int .u8 226, .int .u8 130] 5)) := (Below.refl _ _).alloc (Nat.le_refl _) _
  have hf := feed_any (c := 2) (HC4.out.below hb5) (rdn_lit [226, 130] w3 HC4.out.lt) (by decide)
  rw [ex_v2] at hf
  have HF := Lib.hid hf
  have HB5 := Lib.hid (HB4.out.trans (hb5.mono HB4.out.size))
  clear hb5 hf HC4 HB4
  go_wp2_with fail
  refine HBA.out.mono ?_
  rintro e w4 ⟨rfl, rfl⟩
  clear HBA HD3
  go_wp2_with fail
  refine HF.out.mono ?_
  rintro e w5 ⟨rfl, hc, hf⟩
  have HBA := Lib.hid (vbad_any hc)
  have hw := vwhole_any hc
  rw [ex_v3] at hw
  have HW := Lib.hid hw
  have HB6 := Lib.hid (HB5.out.trans (hf.below (fun k hk _ => by subst hk; exact HG2.out.2) HB5.out.size))
  clear hc hf HF HB5 hw
  go_wp2_with fail
  refine HBA.out.mono ?_
  rintro e w6 ⟨rfl, rfl⟩
  go_wp2_with fail
  refine HW.out.mono ?_
  rintro e w7 ⟨rfl, rfl⟩
  go_wp2_with fail
  go_ret
  exact ⟨rfl, HB6.out⟩
end Go.Proofs.Ytbjefomahopnmaa
