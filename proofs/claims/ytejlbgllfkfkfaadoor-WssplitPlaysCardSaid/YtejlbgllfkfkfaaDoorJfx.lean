/-
  The law's own example: fixed answers true. Conditions: errors.errorType holds what the program's text lays.
-/
import Derived.Test.YtejlbgllfkfkfaaDoorJpl
import Derived.Test.YtejlbgllfkfkfaaDoorJfd
import Derived.Test.YtejlbgllfkfkfaaDoorIrp
import Derived.Lib.SlBytesConst
namespace Go.Proofs.YtejlbgllfkfkfaaDoor
open Go.RowKit Go.WideShapes

def fxJ : Pc := ⟨true, 1, true, 7, [97, 98]⟩
def fxB : List UInt8 := [129, 130, 0, 0, 0, 7, 97, 98]
theorem fxJ_put : fxJ.put = fxB := by decide +kernel
theorem fxJ_may : fxJ.May := by unfold Pc.May; decide +kernel
theorem fxJ_wait : ∀ k, k < 8 → WaitJ true (fxB.take k) := by decide +kernel
theorem fxJ_nx {k : Nat} (hk : k < 8) : njN true (fxB.take k) false = (none, fxB.take k, false) := nj_wait (fxJ_wait k hk)
theorem fxJ_last : njN true fxB false = (some (fxJ, 0), [], false) := by kernel_rfl
def abC : Array Value := (byc [97, 98]).toArray
theorem ab_rd (w : World) : RdB (w.alloc (.cells abC 5 (2, 3))) (w.heap.size + 1) (some ⟨w.heap.size, 0, none⟩) [97, 98] := fun _ => ⟨w.heap.size, 0, rfl, Nat.lt_succ_self _, fun j hj => by
  rw [World.cell?_alloc_mark w abC 5 (2, 3), Nat.zero_add]
  show (byc [97, 98]).toArray[j]? = _
  rw [List.getElem?_toArray]
  exact byc_at hj⟩
theorem ftI_eq (w : World) : (binOp .eql 33 (.agg #[.int .u8 0, .int .u32 0]) (.agg #[.int .u8 0, .int .u32 0])).run Tryd.prog w = .ok (.bool true) w := by kernel_rfl
set_option maxRecDepth 100000 in
set_option maxHeartbeats 4000000 in
theorem fixed17_any (w : World) (hG : GlobE w) : Calls Tryd.prog 7 #[] w fun e w' => e = .returned (.bool true) ∧ Below w.heap.size w w' := by
  have hnew := jnew_any w true hG
  have HG := Lib.hid hG
  clear hG
  go_enter Tryd.func7, Tryd.ntmps7
  go_wp2_with fail
  refine hnew.mono ?_
  rintro e w1 ⟨rfl, h1, hb1⟩
  clear hnew
  have H1 := Lib.hid h1
  have HB1 := Lib.hid hb1
  have HG1 := Lib.hid (HG.out.below hb1)
  have HGL : Hid (0 < w.heap.size) := h1.lts.2.2.1
  have HO := Lib.hid (ab_rd w1)
  have hba : Below w1.heap.size w1 (w1.alloc (.cells abC 5 (2, 3))) := (Below.refl _ _).alloc (Nat.le_refl _) _
  have HB2 := Lib.hid (HB1.out.trans (hba.mono HB1.out.size))
  have H2 := Lib.hid (H1.out.below hba)
  have HG2 := Lib.hid (HG1.out.below hba)
  have HS : Hid (w1.heap.size + 1 ≤ (w1.alloc (.cells abC 5 (2, 3))).heap.size) := by show _ ≤ _; simp
  have hcv : (convert 22 22 (.slice (some ⟨w1.heap.size, 0, none⟩) 2 2)).run Tryd.prog (w1.alloc (.cells #[.int .u8 97, .int .u8 98] 5)) = .ok (.slice (some ⟨w1.heap.size, 0, none⟩) 2 2) (w1.alloc (.cells abC 5 (2, 3))) :=
    Lib.run_convert_bytes_const (P := Tryd.prog) w1 22 5 _ 2 2 Tryd.underlying22 Tryd.underlying5
  clear h1 hb1 hba H1 HB1 HG1
  go_wp2_with fail
  clear hcv
  generalize w1.alloc (.cells abC 5 (2, 3)) = w2 at *
  have hpu := rputI_any fxJ fxJ_may (by decide) (c := 2) HO.out HS.out
  rw [fxJ_put] at hpu
  refine hpu.mono ?_
  rintro e w3 ⟨rfl, hb3⟩
  have H3 := Lib.hid (H2.out.below (hb3.mono (Nat.le_refl _)))
  have HB3 := Lib.hid (HB2.out.trans (hb3.mono HB2.out.size))
  have HG3 := Lib.hid (HG2.out.below hb3)
  have hsz := txb_size fxB
  clear hpu hb3 HO H2 HB2 HG2 HS
  have HCUT : Hid (∀ k : Nat, k < 8 → ∀ W, (Instr.slice 9 (.string (txb fxB)) (some (.int .i64 (k : Int))) (some (.int .i64 ((k : Int) + 1))) none).run Tryd.prog W = .ok (.string (txb ((fxB.drop k).take 1))) W) := fun k hk W => by
    have h := txb_cut fxB (k : Int) ((k : Int) + 1) (by omega) (by omega) (by have : fxB.length = 8 := rfl; omega) W
    rw [show ((k : Int)).toNat = k by omega, show ((k : Int) + 1).toNat - k = 1 by omega] at h
    exact h
  have HSZ : Hid ((txb fxB).size = 8) := hsz
  clear hsz
  generalize txb fxB = tt at *
  have hs8 := HSZ.out
  go_wp2_with fail
  go_loopw [17] (fun i wr => ∃ (k : Nat) (v : Value), k ≤ 8 ∧ i = .int .i64 k ∧ Hid (Sj wr w.heap.size w.heap.size v true (fxB.take k) false) ∧ Hid (Below w.heap.size w wr) ∧ Hid (GlobE wr)) (fun i _ => 8 - (intOf i).toNat)
  case atStart => exact ⟨0, _, Nat.zero_le _, rfl, H3, HB3, HG3⟩
  case round =>
    obtain ⟨k, v, hk, rfl, H, HB, HGr⟩ := hrel
    clear H3 HB3 HG3
    by_cases hlt : k < 8
    · have hkn : (k : Int) < 8 := by omega
      have hwr : IntKind.i64.wrap ((k : Int) + 1) = (k : Int) + 1 := IntWalk.i64_in _ (by omega)
      have hnx := jnext_any H.out HGr.out
      rw [fxJ_nx hlt] at hnx
      have hcut := HCUT.out k hlt
      go_wp2_with fail
      refine hnx.mono ?_
      rintro e w4 ⟨Ad, cd, v4, rfl, hd4, _, h4, hf4, hv4⟩
      have H4 := Lib.hid h4
      have HB4 := Lib.hid (HB.out.trans ((H.out.base_fs hf4 (Nat.le_refl _) HB.out.size).mono (Nat.le_refl _)))
      have HG4 := Lib.hid (H.out.glob hf4 HGr.out)
      clear hnx h4 hf4 hv4 hd4 H HB HGr
      have HTW := Lib.hid (twoJ w4 (pcA Pc.zero Ad cd) (ftI (scI 0) 0) rfl)
      go_upto_region 7 with (first
        | (refine wpList_sw (cs := (pcA Pc.zero Ad cd)) rfl _ _ rfl rfl rfl HTW.out.1 rfl (pcA_ok _ _ _) ?_)
        | (refine wpList_sw (cs := (ftI (scI 0) 0)) rfl _ _ rfl rfl rfl HTW.out.2.1 (ftI_sz _ _ _ _) (ftI_ok _ _) ?_))
      have HP_w5 : Hid (Row ((((w4.alloc (.cells #[.bool false, .int .u8 0, .bool false, .int .u32 0, .slice none 0 0] 31)).alloc (.cells #[.int .u8 0, .int .u32 0] 33)).setRow w4.heap.size (pcA Pc.zero Ad cd)).setRow (w4.heap.size + 1) (ftI (scI 0) 0)) w4.heap.size 31 (pcA Pc.zero Ad cd)) := HTW.out.2.2.1
      have HT_w5 : Hid (Row ((((w4.alloc (.cells #[.bool false, .int .u8 0, .bool false, .int .u32 0, .slice none 0 0] 31)).alloc (.cells #[.int .u8 0, .int .u32 0] 33)).setRow w4.heap.size (pcA Pc.zero Ad cd)).setRow (w4.heap.size + 1) (ftI (scI 0) 0)) (w4.heap.size + 1) 33 (ftI (scI 0) 0)) := HTW.out.2.2.2.1
      have HB_w5 : Hid (Below w4.heap.size w4 ((((w4.alloc (.cells #[.bool false, .int .u8 0, .bool false, .int .u32 0, .slice none 0 0] 31)).alloc (.cells #[.int .u8 0, .int .u32 0] 33)).setRow w4.heap.size (pcA Pc.zero Ad cd)).setRow (w4.heap.size + 1) (ftI (scI 0) 0))) := HTW.out.2.2.2.2.1
      have HS_w5 : Hid (((((w4.alloc (.cells #[.bool false, .int .u8 0, .bool false, .int .u32 0, .slice none 0 0] 31)).alloc (.cells #[.int .u8 0, .int .u32 0] 33)).setRow w4.heap.size (pcA Pc.zero Ad cd)).setRow (w4.heap.size + 1) (ftI (scI 0) 0)).heap.size = w4.heap.size + 2) := HTW.out.2.2.2.2.2
      clear HTW
      generalize ((((w4.alloc (.cells #[.bool false, .int .u8 0, .bool false, .int .u32 0, .slice none 0 0] 31)).alloc (.cells #[.int .u8 0, .int .u32 0] 33)).setRow w4.heap.size (pcA Pc.zero Ad cd)).setRow (w4.heap.size + 1) (ftI (scI 0) 0)) = w5 at *
      have H5 := Lib.hid (H4.out.below HB_w5.out)
      have HB5 := Lib.hid (HB4.out.trans (HB_w5.out.mono HB4.out.size))
      have HG5 := Lib.hid (HG4.out.below HB_w5.out)
      clear H4 HB4 HG4 HP_w5 HT_w5 HB_w5 HS_w5
      obtain ⟨c6, w6, hcv, hc6, hb6, hr6⟩ := bytesI_run ((fxB.drop k).take 1) w5
      have hx1 : ((fxB.drop k).take 1).length = 1 := by rw [List.length_take, List.length_drop]; have : fxB.length = 8 := rfl; omega
      have H6 := Lib.hid (H5.out.below hb6)
      have HB6 := Lib.hid (HB5.out.trans (hb6.mono HB5.out.size))
      have HG6 := Lib.hid (HG5.out.below hb6)
      have hfd := jfeed_any H6.out hr6 hc6
      have hlk : (fxB.take k).length = k := by rw [List.length_take]; have : fxB.length = 8 := rfl; omega
      have hn1 : fedJn (fxB.take k) false ((fxB.drop k).take 1) = 1 := by unfold fedJn; rw [if_neg (by simp), hx1, hlk]; omega
      have hl1 : fedJ (fxB.take k) false ((fxB.drop k).take 1) = fxB.take (k + 1) := by
        unfold fedJ
        rw [if_neg (by simp), hlk, show ((fxB.drop k).take 1).take (4110 - k) = (fxB.drop k).take 1 from List.take_of_length_le (by omega), ← List.take_add]
      rw [hn1, hl1, hx1] at hfd
      rw [hx1] at hcv
      clear hb6 hr6 hc6 hx1 hlk hn1 hl1 H5 HB5 HG5
      generalize txb ((fxB.drop k).take 1) = t1 at *
      go_wp2_with fail
      refine hfd.mono ?_
      rintro e w7 ⟨rfl, v7, h7, hf7, _⟩
      have H7 := Lib.hid h7
      have HB7 := Lib.hid (HB6.out.trans ((H6.out.base_fs hf7 (Nat.le_refl _) HB6.out.size).mono (Nat.le_refl _)))
      have HG7 := Lib.hid (H6.out.glob hf7 HG6.out)
      clear h7 hf7 hfd H6 HB6 HG6 hcv hcut
      go_wp2_with fail
      go_roundw
      case rel => exact ⟨k + 1, v7, by omega, rfl, H7, HB7, HG7⟩
      case measure => first | omega | (simp; omega) | (simp [intOf]; omega)
    · obtain rfl : k = 8 := by omega
      have h8 : fxB.take 8 = fxB := rfl
      rw [h8] at H
      have hnx := jnext_any H.out HGr.out
      rw [fxJ_last] at hnx
      go_wp2_with fail
      refine hnx.mono ?_
      rintro e w4 ⟨Ad, cd, v4, rfl, hd4, _, h4, hf4, hv4⟩
      have H4 := Lib.hid h4
      have HB4 := Lib.hid (HB.out.trans ((H.out.base_fs hf4 (Nat.le_refl _) HB.out.size).mono (Nat.le_refl _)))
      have HD4 : Hid (RdB w4 w4.heap.size Ad [97, 98]) := RdB.ofS hd4 fun k hk _ => hk.2
      clear hnx h4 hf4 hv4 hd4 H HB HGr h8
      have HTW := Lib.hid (twoJ w4 (pcA fxJ Ad cd) (ftI (scI 0) 0) rfl)
      go_upto_region 11 with (first
        | (refine wpList_sw (cs := (pcA fxJ Ad cd)) rfl _ _ rfl rfl rfl HTW.out.1 rfl (pcA_ok _ _ _) ?_)
        | (refine wpList_sw (cs := (ftI (scI 0) 0)) rfl _ _ rfl rfl rfl HTW.out.2.1 (ftI_sz _ _ _ _) (ftI_ok _ _) ?_))
      have HP_w5 : Hid (Row ((((w4.alloc (.cells #[.bool false, .int .u8 0, .bool false, .int .u32 0, .slice none 0 0] 31)).alloc (.cells #[.int .u8 0, .int .u32 0] 33)).setRow w4.heap.size (pcA fxJ Ad cd)).setRow (w4.heap.size + 1) (ftI (scI 0) 0)) w4.heap.size 31 (pcA fxJ Ad cd)) := HTW.out.2.2.1
      have HT_w5 : Hid (Row ((((w4.alloc (.cells #[.bool false, .int .u8 0, .bool false, .int .u32 0, .slice none 0 0] 31)).alloc (.cells #[.int .u8 0, .int .u32 0] 33)).setRow w4.heap.size (pcA fxJ Ad cd)).setRow (w4.heap.size + 1) (ftI (scI 0) 0)) (w4.heap.size + 1) 33 (ftI (scI 0) 0)) := HTW.out.2.2.2.1
      have HB_w5 : Hid (Below w4.heap.size w4 ((((w4.alloc (.cells #[.bool false, .int .u8 0, .bool false, .int .u32 0, .slice none 0 0] 31)).alloc (.cells #[.int .u8 0, .int .u32 0] 33)).setRow w4.heap.size (pcA fxJ Ad cd)).setRow (w4.heap.size + 1) (ftI (scI 0) 0))) := HTW.out.2.2.2.2.1
      have HS_w5 : Hid (((((w4.alloc (.cells #[.bool false, .int .u8 0, .bool false, .int .u32 0, .slice none 0 0] 31)).alloc (.cells #[.int .u8 0, .int .u32 0] 33)).setRow w4.heap.size (pcA fxJ Ad cd)).setRow (w4.heap.size + 1) (ftI (scI 0) 0)).heap.size = w4.heap.size + 2) := HTW.out.2.2.2.2.2
      clear HTW
      generalize ((((w4.alloc (.cells #[.bool false, .int .u8 0, .bool false, .int .u32 0, .slice none 0 0] 31)).alloc (.cells #[.int .u8 0, .int .u32 0] 33)).setRow w4.heap.size (pcA fxJ Ad cd)).setRow (w4.heap.size + 1) (ftI (scI 0) 0)) = w5 at *
      have H5 := Lib.hid (H4.out.below HB_w5.out)
      have HB5 := Lib.hid (HB4.out.trans (HB_w5.out.mono HB4.out.size))
      have HD5 := Lib.hid (HD4.out.below HB_w5.out)
      have c4 : w5.cell? ⟨w4.heap.size, 4, none⟩ = some (.slice Ad 2 cd) := HP_w5.out.cell rfl
      have htx := run_text (P := Tryd.prog) (c := cd) Tryd.underlying22 Tryd.underlying5 Tryd.underlying9 HD5.out
      have htx2 : (convert 22 9 (.slice Ad 2 cd)).run Tryd.prog w5 = .ok (.string ⟨#[97, 98]⟩) w5 := htx
      have heq := ftI_eq
      have hld := jhld_any H5.out
      clear htx
      go_wp2_with (first
        | (refine wpList_ldg (cs := #[.int .u8 0, .int .u32 0]) (by rfl) _ rfl rfl HT_w5.out (ftI_ok 0 0) ?_)
        | (go_at_call 10; refine hld.mono ?_; rintro e w6 ⟨rfl, rfl⟩))
      go_ret
      exact ⟨rfl, HB5.out⟩
end Go.Proofs.YtejlbgllfkfkfaaDoor
