/-
  The document's answers for frames: May, by its contract. Conditions: as payload's, but for the padding.
-/
import Derived.Test.YtnjnepploockiaaDoorRput
import Derived.Test.YtnjnepploockiaaDoorRme
import Derived.BigGuardPart
namespace Go.Proofs.YtnjnepploockiaaDoor
open Go.RowKit Go.WideShapes

attribute [local irreducible] Fm.c payL
set_option maxRecDepth 100000 in
set_option maxHeartbeats 8000000 in
theorem rmay_any (F : Frm) (hk : F.All) (hd : F.dat.length ≤ 20000) (hn : F.sets.length ≤ 5000) {dA sA : Option Addr} {dc sc : Nat} {w : World} (hD : RdB w w.heap.size dA F.dat) (hR : RdS w (· < w.heap.size) sA (enl sgc F.sets)) :
    Calls Tryd.prog 17 #[.agg (F.fm dA dc sA sc).c] w fun e w' => e = .returned (.bool (decide F.May)) ∧ Below w.heap.size w w' := by
  have HPAY : Hid (F.pad ≤ 255 → ∀ W, Below w.heap.size w W → Calls Tryd.prog 30 #[.agg (F.fm dA dc sA sc).c] W fun e w' => e = .returned (.string (tb (payL F))) ∧ Below W.heap.size W w') := fun hp W hB =>
    rpayload_any F hk hd hn hp ((hD.below hB).more hB.size) ((hR.below hB).imp fun g h _ => by have := hB.size; omega)
  obtain ⟨⟨hty, hfl, hcode, hwt, _⟩, hst, hoth, hwin⟩ := hk
  have HX := Lib.hid (Row.new w 36 (F.fm dA dc sA sc).c)
  have HB : Hid (Below w.heap.size w (w.alloc (.cells (F.fm dA dc sA sc).c 36))) := (Below.refl _ _).alloc (Nat.le_refl _) _
  have Hle2 := Lib.hid (rleans_any (F.fm dA dc sA sc) hfl)
  obtain ⟨pp, Hpp⟩ : ∃ b : Bool, Hid (padB F.ty F.fl = b) := ⟨_, (rfl : _ = _)⟩
  obtain ⟨p0, Hp0⟩ : ∃ b : Bool, Hid (decide (F.pad < 0) = b) := ⟨_, (rfl : _ = _)⟩
  obtain ⟨p255, Hp255⟩ : ∃ b : Bool, Hid (decide (255 < F.pad) = b) := ⟨_, (rfl : _ = _)⟩
  obtain ⟨pm, Hpm⟩ : ∃ b : Bool, Hid ((F.pad == -1) = b) := ⟨_, (rfl : _ = _)⟩
  obtain ⟨s1, Hs1⟩ : ∃ b : Bool, Hid (decide ((2147483647 : Int) < (F.st : Int)) = b) := ⟨_, (rfl : _ = _)⟩
  obtain ⟨o1, Ho1⟩ : ∃ b : Bool, Hid (decide ((2147483647 : Int) < (F.oth : Int)) = b) := ⟨_, (rfl : _ = _)⟩
  obtain ⟨w1, Hw1⟩ : ∃ b : Bool, Hid (decide ((2147483647 : Int) < (F.win : Int)) = b) := ⟨_, (rfl : _ = _)⟩
  obtain ⟨wz, Hwz⟩ : ∃ b : Bool, Hid (((F.wt : Int) == 0) = b) := ⟨_, (rfl : _ = _)⟩
  obtain ⟨al, Hal⟩ : ∃ b : Bool, Hid (F.al = b) := ⟨_, (rfl : _ = _)⟩
  obtain ⟨le, Hle⟩ : ∃ b : Bool, Hid (leanB F.ty F.fl = b) := ⟨_, (rfl : _ = _)⟩
  obtain ⟨oz, Hoz⟩ : ∃ b : Bool, Hid (((F.oth : Int) == 0) = b) := ⟨_, (rfl : _ = _)⟩
  obtain ⟨cz, Hcz⟩ : ∃ b : Bool, Hid (((F.code : Int) == 0) = b) := ⟨_, (rfl : _ = _)⟩
  obtain ⟨vz, Hvz⟩ : ∃ b : Bool, Hid (((F.win : Int) == 0) = b) := ⟨_, (rfl : _ = _)⟩
  obtain ⟨sn, Hsn⟩ : ∃ b : Bool, Hid (decide ((0 : Int) < (F.sets.length : Int)) = b) := ⟨_, (rfl : _ = _)⟩
  obtain ⟨dn, Hdn⟩ : ∃ b : Bool, Hid (decide ((0 : Int) < (F.dat.length : Int)) = b) := ⟨_, (rfl : _ = _)⟩
  obtain ⟨t2, Ht2⟩ : ∃ b : Bool, Hid (((F.ty : Int) == 2) = b) := ⟨_, (rfl : _ = _)⟩
  obtain ⟨t3, Ht3⟩ : ∃ b : Bool, Hid (((F.ty : Int) == 3) = b) := ⟨_, (rfl : _ = _)⟩
  obtain ⟨t4, Ht4⟩ : ∃ b : Bool, Hid (((F.ty : Int) == 4) = b) := ⟨_, (rfl : _ = _)⟩
  obtain ⟨t5, Ht5⟩ : ∃ b : Bool, Hid (((F.ty : Int) == 5) = b) := ⟨_, (rfl : _ = _)⟩
  obtain ⟨t6, Ht6⟩ : ∃ b : Bool, Hid (((F.ty : Int) == 6) = b) := ⟨_, (rfl : _ = _)⟩
  obtain ⟨t7, Ht7⟩ : ∃ b : Bool, Hid (((F.ty : Int) == 7) = b) := ⟨_, (rfl : _ = _)⟩
  obtain ⟨t8, Ht8⟩ : ∃ b : Bool, Hid (((F.ty : Int) == 8) = b) := ⟨_, (rfl : _ = _)⟩
  obtain ⟨d8, Hd8⟩ : ∃ b : Bool, Hid (((F.dat.length : Int) == 8) = b) := ⟨_, (rfl : _ = _)⟩
  obtain ⟨dl, Hdl⟩ : ∃ b : Bool, Hid (decide ((F.dat.length : Int) ≤ 16384) = b) := ⟨_, (rfl : _ = _)⟩
  obtain ⟨sl, Hsl⟩ : ∃ b : Bool, Hid (decide ((F.sets.length : Int) ≤ 3000) = b) := ⟨_, (rfl : _ = _)⟩
  obtain ⟨pl, Hpl⟩ : ∃ b : Bool, Hid (decide (((payL F).length : Int) ≤ 16384) = b) := ⟨_, (rfl : _ = _)⟩
  have HM := Lib.hid (may_eq F (by omega) Hpp.out Hp0.out Hp255.out Hpm.out Hs1.out Ho1.out Hw1.out Hwz.out Hal.out Hle.out Hoz.out Hcz.out Hvz.out Hsn.out Hdn.out Ht2.out Ht3.out Ht4.out Ht5.out Ht6.out Ht7.out Ht8.out Hd8.out Hdl.out Hsl.out Hpl.out)
  have HAL : Hid (al = F.al) := Hal.out.symm
  have Hle2 : Hid (∀ w, Calls Tryd.prog 29 #[.agg (F.fm dA dc sA sc).c] w fun e w' => e = .returned (.bool le) ∧ Below w.heap.size w w') := fun W => by rw [← Hle.out]; exact Hle2.out W
  have HPL : Hid (decide (((payL F).length : Int) ≤ 16384) = pl) := Hpl
  have k0 : (w.alloc (.cells (F.fm dA dc sA sc).c 36)).cell? ⟨w.heap.size, 0, none⟩ = some (.int .u8 (F.ty : Int)) := Fm.k0 HX.out
  have hpads := rpads_any F.ty
  clear hD hR
  go_enter Tryd.func17, Tryd.ntmps17
  go_upto_region 1 with fail
  go_cut [3] from 4 to 13 (fun v wx => v = .bool pp ∧ Hid (Row wx w.heap.size 36 (F.fm dA dc sA sc).c) ∧ Hid (Below w.heap.size w wx))
  case first =>
    have k1 : (w.alloc (.cells (F.fm dA dc sA sc).c 36)).cell? ⟨w.heap.size, 1, none⟩ = some (.int .u8 (F.fl : Int)) := Fm.k1 HX.out
    obtain ⟨q, hq⟩ : ∃ q, q = F.fl / 8 := ⟨_, rfl⟩
    have hqi : (F.fl : Int) / 8 = (q : Int) := by omega
    have hq8 : q < 32 := by omega
    by_cases ht : F.ty = 0 ∨ F.ty = 1 ∨ F.ty = 5
    · rw [decide_eq_true ht] at hpads
      by_cases hb : F.fl / 8 % 2 = 1
      · have hqm : (q : Int) % 2 = 1 := by omega
        have hpp := Lib.hid ((padByes ht hb).symm.trans Hpp.out)
        clear ht hb hq HPAY
        go_wp2_with fail
        refine (hpads _).mono ?_
        rintro e w1 ⟨rfl, rfl⟩
        go_wp2_with fail
        go_meet
        exact ⟨by rw [← hpp.out], HX, HB⟩
      · have hqm : (q : Int) % 2 = 0 := by omega
        have hpp := Lib.hid ((padBno (fun h => hb h.2)).symm.trans Hpp.out)
        clear ht hb hq HPAY
        go_wp2_with fail
        refine (hpads _).mono ?_
        rintro e w1 ⟨rfl, rfl⟩
        go_wp2_with fail
        go_meet
        exact ⟨by rw [← hpp.out], HX, HB⟩
    · rw [decide_eq_false ht] at hpads
      have hpp := Lib.hid ((padBno (fun h => ht h.1)).symm.trans Hpp.out)
      clear ht hq HPAY
      go_wp2_with fail
      refine (hpads _).mono ?_
      rintro e w1 ⟨rfl, rfl⟩
      go_wp2_with fail
      go_meet
      exact ⟨by rw [← hpp.out], HX, HB⟩
  case rest =>
    obtain ⟨rfl, HX2, HB2⟩ := hcut
    clear HX HB k0 hpads
    have HX := HX2
    have HB := HB2
    clear HX2 HB2
    generalize wc = w2 at *
    go_upto_region 2 with fail
    go_cut [33] from 14 to 33 (fun v wx => v = .bool (((pp && (p0 || p255)) || (!pp && !pm))) ∧ Hid (Row wx w.heap.size 36 (F.fm dA dc sA sc).c) ∧ Hid (Below w.heap.size w wx))
    case first =>
      clear HPAY Hle2 HM HPL Hs1 Ho1 Hw1 Hwz Hle Hoz Hcz Hvz Hsn Hdn Ht2 Ht3 Ht4 Ht5 Ht6 Ht7 Ht8 Hd8 Hdl Hsl Hpl
      have k4 : w2.cell? ⟨w.heap.size, 4, none⟩ = some (.int .i64 F.pad) := Fm.k4 HX.out
      have fpp := Hpp.out
      have fp0 := Hp0.out
      have fp255 := Hp255.out
      have fpm := Hpm.out
      cases pp with
      | true =>
        cases p0 with
        | true =>
          go_wp2_with fail
          go_meet
          exact ⟨by first | rfl | simp [bne, *], HX, HB⟩
        | false =>
          cases p255 with
          | true =>
            go_wp2_with fail
            go_meet
            exact ⟨by first | rfl | simp [bne, *], HX, HB⟩
          | false =>
            go_wp2_with fail
            go_meet
            exact ⟨by first | rfl | simp [bne, *], HX, HB⟩
      | false =>
        cases pm with
        | true =>
          have ppm : F.pad = -1 := eq_of_beq fpm
          go_wp2_with fail
          go_meet
          exact ⟨by first | rfl | simp [bne, *], HX, HB⟩
        | false =>
          have ppm : ¬ F.pad = -1 := ne_of_beq_false fpm
          go_wp2_with fail
          go_meet
          exact ⟨by first | rfl | simp [bne, *], HX, HB⟩
    case rest =>
      obtain ⟨rfl, HX2, HB2⟩ := hcut
      clear HX HB
      have HX := HX2
      have HB := HB2
      clear HX2 HB2
      generalize wc = w4 at *
      obtain ⟨b, hb⟩ : ∃ b, ((pp && (p0 || p255)) || (!pp && !pm)) = b := ⟨_, rfl⟩
      rw [hb]
      cases b with
      | true =>
        have hb := Lib.hid hb
        clear HPAY
        go_wp2_with fail
        go_ret
        rw [HM.out, hb.out]
        exact ⟨by simp, HB.out⟩
      | false =>
        have HN2 := Lib.hid hb
        clear hb
        go_upto_region 4 with fail
        go_cut [46] from 34 to 46 (fun v wx => v = .bool (((s1 || o1) || w1)) ∧ Hid (Row wx w.heap.size 36 (F.fm dA dc sA sc).c) ∧ Hid (Below w.heap.size w wx))
        case first =>
          clear HPAY Hle2 HM HPL Hpp Hp0 Hp255 Hpm Hwz Hle Hoz Hcz Hvz Hsn Hdn Ht2 Ht3 Ht4 Ht5 Ht6 Ht7 Ht8 Hd8 Hdl Hsl Hpl
          have k2 : w4.cell? ⟨w.heap.size, 2, none⟩ = some (.int .u32 (F.st : Int)) := Fm.k2 HX.out
          have k6 : w4.cell? ⟨w.heap.size, 6, none⟩ = some (.int .u32 (F.oth : Int)) := Fm.k6 HX.out
          have k9 : w4.cell? ⟨w.heap.size, 9, none⟩ = some (.int .u32 (F.win : Int)) := Fm.k9 HX.out
          have fs1 := Hs1.out
          have fo1 := Ho1.out
          have fw1 := Hw1.out
          cases s1 with
          | true =>
            go_wp2_with fail
            go_meet
            exact ⟨by first | rfl | simp [bne, *], HX, HB⟩
          | false =>
            cases o1 with
            | true =>
              go_wp2_with fail
              go_meet
              exact ⟨by first | rfl | simp [bne, *], HX, HB⟩
            | false =>
              cases w1 with
              | true =>
                go_wp2_with fail
                go_meet
                exact ⟨by first | rfl | simp [bne, *], HX, HB⟩
              | false =>
                go_wp2_with fail
                go_meet
                exact ⟨by first | rfl | simp [bne, *], HX, HB⟩
        case rest =>
          obtain ⟨rfl, HX2, HB2⟩ := hcut
          clear HX HB
          have HX := HX2
          have HB := HB2
          clear HX2 HB2
          generalize wc = w6 at *
          obtain ⟨b, hb⟩ : ∃ b, ((s1 || o1) || w1) = b := ⟨_, rfl⟩
          rw [hb]
          cases b with
          | true =>
            have hb := Lib.hid hb
            clear HPAY
            go_wp2_with fail
            go_ret
            rw [HM.out, hb.out]
            exact ⟨by simp, HB.out⟩
          | false =>
            have HN4 := Lib.hid hb
            clear hb
            go_upto_region 6 with fail
            go_cut [78] from 47 to 78 (fun v wx => v = .bool ((((!wz || al) && !le) || (((!oz && !le) && !t5) && !t7))) ∧ Hid (Row wx w.heap.size 36 (F.fm dA dc sA sc).c) ∧ Hid (Below w.heap.size w wx))
            case first =>
              clear HPAY HM HPL Hpp Hp0 Hp255 Hpm Hs1 Ho1 Hw1 Hcz Hvz Hsn Hdn Ht2 Ht3 Ht4 Ht6 Ht8 Hd8 Hdl Hsl Hpl
              have k7 : w6.cell? ⟨w.heap.size, 7, none⟩ = some (.int .u8 (F.wt : Int)) := Fm.k7 HX.out
              have k8 : w6.cell? ⟨w.heap.size, 8, none⟩ = some (.bool al) := (by rw [HAL.out]; exact Fm.k8 HX.out)
              have k6 : w6.cell? ⟨w.heap.size, 6, none⟩ = some (.int .u32 (F.oth : Int)) := Fm.k6 HX.out
              have k0 : w6.cell? ⟨w.heap.size, 0, none⟩ = some (.int .u8 (F.ty : Int)) := Fm.k0 HX.out
              have fwz := Hwz.out
              have fle := Hle.out
              have foz := Hoz.out
              have ft5 := Ht5.out
              have ft7 := Ht7.out
              have hleans := Hle2.out
              cases wz with
              | true =>
                cases al with
                | true =>
                  cases le with
                  | true =>
                    cases oz with
                    | true =>
                      have pwz : (F.wt : Int) = 0 := eq_of_beq fwz
                      have poz : (F.oth : Int) = 0 := eq_of_beq foz
                      go_wp2_with (refine wpList_fmg (by rfl) _ rfl rfl HX.out ?_)
                      refine (hleans _).mono ?_
                      rintro e w9 ⟨rfl, hb⟩
                      have HX := Lib.hid (HX.out.below hb HX.out.lt)
                      have HB := Lib.hid (HB.out.trans (hb.mono HB.out.size))
                      clear hb
                      have k7 : w9.cell? ⟨w.heap.size, 7, none⟩ = some (.int .u8 (F.wt : Int)) := Fm.k7 HX.out
                      have k8 : w9.cell? ⟨w.heap.size, 8, none⟩ = some (.bool true) := (show w9.cell? ⟨w.heap.size, 8, none⟩ = some (.bool F.al) from Fm.k8 HX.out).trans (by rw [← HAL.out])
                      have k6 : w9.cell? ⟨w.heap.size, 6, none⟩ = some (.int .u32 (F.oth : Int)) := Fm.k6 HX.out
                      have k0 : w9.cell? ⟨w.heap.size, 0, none⟩ = some (.int .u8 (F.ty : Int)) := Fm.k0 HX.out
                      go_wp2_with fail
                      go_meet
                      exact ⟨by first | rfl | simp [bne, *], HX, HB⟩
                    | false =>
                      have pwz : (F.wt : Int) = 0 := eq_of_beq fwz
                      have poz : ¬ (F.oth : Int) = 0 := ne_of_beq_false foz
                      go_wp2_with (refine wpList_fmg (by rfl) _ rfl rfl HX.out ?_)
                      refine (hleans _).mono ?_
                      rintro e w9 ⟨rfl, hb⟩
                      have HX := Lib.hid (HX.out.below hb HX.out.lt)
                      have HB := Lib.hid (HB.out.trans (hb.mono HB.out.size))
                      clear hb
                      have k7 : w9.cell? ⟨w.heap.size, 7, none⟩ = some (.int .u8 (F.wt : Int)) := Fm.k7 HX.out
                      have k8 : w9.cell? ⟨w.heap.size, 8, none⟩ = some (.bool true) := (show w9.cell? ⟨w.heap.size, 8, none⟩ = some (.bool F.al) from Fm.k8 HX.out).trans (by rw [← HAL.out])
                      have k6 : w9.cell? ⟨w.heap.size, 6, none⟩ = some (.int .u32 (F.oth : Int)) := Fm.k6 HX.out
                      have k0 : w9.cell? ⟨w.heap.size, 0, none⟩ = some (.int .u8 (F.ty : Int)) := Fm.k0 HX.out
                      go_wp2_with (refine wpList_fmg (by rfl) _ rfl rfl HX.out ?_)
                      refine (hleans _).mono ?_
                      rintro e w9 ⟨rfl, hb⟩
                      have HX := Lib.hid (HX.out.below hb HX.out.lt)
                      have HB := Lib.hid (HB.out.trans (hb.mono HB.out.size))
                      clear hb
                      have k7 : w9.cell? ⟨w.heap.size, 7, none⟩ = some (.int .u8 (F.wt : Int)) := Fm.k7 HX.out
                      have k8 : w9.cell? ⟨w.heap.size, 8, none⟩ = some (.bool true) := (show w9.cell? ⟨w.heap.size, 8, none⟩ = some (.bool F.al) from Fm.k8 HX.out).trans (by rw [← HAL.out])
                      have k6 : w9.cell? ⟨w.heap.size, 6, none⟩ = some (.int .u32 (F.oth : Int)) := Fm.k6 HX.out
                      have k0 : w9.cell? ⟨w.heap.size, 0, none⟩ = some (.int .u8 (F.ty : Int)) := Fm.k0 HX.out
                      go_wp2_with fail
                      go_meet
                      exact ⟨by first | rfl | simp [bne, *], HX, HB⟩
                  | false =>
                    have pwz : (F.wt : Int) = 0 := eq_of_beq fwz
                    go_wp2_with (refine wpList_fmg (by rfl) _ rfl rfl HX.out ?_)
                    refine (hleans _).mono ?_
                    rintro e w9 ⟨rfl, hb⟩
                    have HX := Lib.hid (HX.out.below hb HX.out.lt)
                    have HB := Lib.hid (HB.out.trans (hb.mono HB.out.size))
                    clear hb
                    have k7 : w9.cell? ⟨w.heap.size, 7, none⟩ = some (.int .u8 (F.wt : Int)) := Fm.k7 HX.out
                    have k8 : w9.cell? ⟨w.heap.size, 8, none⟩ = some (.bool true) := (show w9.cell? ⟨w.heap.size, 8, none⟩ = some (.bool F.al) from Fm.k8 HX.out).trans (by rw [← HAL.out])
                    have k6 : w9.cell? ⟨w.heap.size, 6, none⟩ = some (.int .u32 (F.oth : Int)) := Fm.k6 HX.out
                    have k0 : w9.cell? ⟨w.heap.size, 0, none⟩ = some (.int .u8 (F.ty : Int)) := Fm.k0 HX.out
                    go_wp2_with fail
                    go_meet
                    exact ⟨by first | rfl | simp [bne, *], HX, HB⟩
                | false =>
                  cases oz with
                  | true =>
                    have pwz : (F.wt : Int) = 0 := eq_of_beq fwz
                    have poz : (F.oth : Int) = 0 := eq_of_beq foz
                    go_wp2_with fail
                    go_meet
                    exact ⟨by first | rfl | simp [bne, *], HX, HB⟩
                  | false =>
                    cases le with
                    | true =>
                      have pwz : (F.wt : Int) = 0 := eq_of_beq fwz
                      have poz : ¬ (F.oth : Int) = 0 := ne_of_beq_false foz
                      go_wp2_with (refine wpList_fmg (by rfl) _ rfl rfl HX.out ?_)
                      refine (hleans _).mono ?_
                      rintro e w9 ⟨rfl, hb⟩
                      have HX := Lib.hid (HX.out.below hb HX.out.lt)
                      have HB := Lib.hid (HB.out.trans (hb.mono HB.out.size))
                      clear hb
                      have k7 : w9.cell? ⟨w.heap.size, 7, none⟩ = some (.int .u8 (F.wt : Int)) := Fm.k7 HX.out
                      have k8 : w9.cell? ⟨w.heap.size, 8, none⟩ = some (.bool false) := (show w9.cell? ⟨w.heap.size, 8, none⟩ = some (.bool F.al) from Fm.k8 HX.out).trans (by rw [← HAL.out])
                      have k6 : w9.cell? ⟨w.heap.size, 6, none⟩ = some (.int .u32 (F.oth : Int)) := Fm.k6 HX.out
                      have k0 : w9.cell? ⟨w.heap.size, 0, none⟩ = some (.int .u8 (F.ty : Int)) := Fm.k0 HX.out
                      go_wp2_with fail
                      go_meet
                      exact ⟨by first | rfl | simp [bne, *], HX, HB⟩
                    | false =>
                      cases t5 with
                      | true =>
                        have pwz : (F.wt : Int) = 0 := eq_of_beq fwz
                        have poz : ¬ (F.oth : Int) = 0 := ne_of_beq_false foz
                        have pt5 : (F.ty : Int) = 5 := eq_of_beq ft5
                        go_wp2_with (refine wpList_fmg (by rfl) _ rfl rfl HX.out ?_)
                        refine (hleans _).mono ?_
                        rintro e w9 ⟨rfl, hb⟩
                        have HX := Lib.hid (HX.out.below hb HX.out.lt)
                        have HB := Lib.hid (HB.out.trans (hb.mono HB.out.size))
                        clear hb
                        have k7 : w9.cell? ⟨w.heap.size, 7, none⟩ = some (.int .u8 (F.wt : Int)) := Fm.k7 HX.out
                        have k8 : w9.cell? ⟨w.heap.size, 8, none⟩ = some (.bool false) := (show w9.cell? ⟨w.heap.size, 8, none⟩ = some (.bool F.al) from Fm.k8 HX.out).trans (by rw [← HAL.out])
                        have k6 : w9.cell? ⟨w.heap.size, 6, none⟩ = some (.int .u32 (F.oth : Int)) := Fm.k6 HX.out
                        have k0 : w9.cell? ⟨w.heap.size, 0, none⟩ = some (.int .u8 (F.ty : Int)) := Fm.k0 HX.out
                        go_wp2_with fail
                        go_meet
                        exact ⟨by first | rfl | simp [bne, *], HX, HB⟩
                      | false =>
                        cases t7 with
                        | true =>
                          have pwz : (F.wt : Int) = 0 := eq_of_beq fwz
                          have poz : ¬ (F.oth : Int) = 0 := ne_of_beq_false foz
                          have pt5 : ¬ (F.ty : Int) = 5 := ne_of_beq_false ft5
                          have pt7 : (F.ty : Int) = 7 := eq_of_beq ft7
                          go_wp2_with (refine wpList_fmg (by rfl) _ rfl rfl HX.out ?_)
                          refine (hleans _).mono ?_
                          rintro e w9 ⟨rfl, hb⟩
                          have HX := Lib.hid (HX.out.below hb HX.out.lt)
                          have HB := Lib.hid (HB.out.trans (hb.mono HB.out.size))
                          clear hb
                          have k7 : w9.cell? ⟨w.heap.size, 7, none⟩ = some (.int .u8 (F.wt : Int)) := Fm.k7 HX.out
                          have k8 : w9.cell? ⟨w.heap.size, 8, none⟩ = some (.bool false) := (show w9.cell? ⟨w.heap.size, 8, none⟩ = some (.bool F.al) from Fm.k8 HX.out).trans (by rw [← HAL.out])
                          have k6 : w9.cell? ⟨w.heap.size, 6, none⟩ = some (.int .u32 (F.oth : Int)) := Fm.k6 HX.out
                          have k0 : w9.cell? ⟨w.heap.size, 0, none⟩ = some (.int .u8 (F.ty : Int)) := Fm.k0 HX.out
                          go_wp2_with fail
                          go_meet
                          exact ⟨by first | rfl | simp [bne, *], HX, HB⟩
                        | false =>
                          have pwz : (F.wt : Int) = 0 := eq_of_beq fwz
                          have poz : ¬ (F.oth : Int) = 0 := ne_of_beq_false foz
                          have pt5 : ¬ (F.ty : Int) = 5 := ne_of_beq_false ft5
                          have pt7 : ¬ (F.ty : Int) = 7 := ne_of_beq_false ft7
                          go_wp2_with (refine wpList_fmg (by rfl) _ rfl rfl HX.out ?_)
                          refine (hleans _).mono ?_
                          rintro e w9 ⟨rfl, hb⟩
                          have HX := Lib.hid (HX.out.below hb HX.out.lt)
                          have HB := Lib.hid (HB.out.trans (hb.mono HB.out.size))
                          clear hb
                          have k7 : w9.cell? ⟨w.heap.size, 7, none⟩ = some (.int .u8 (F.wt : Int)) := Fm.k7 HX.out
                          have k8 : w9.cell? ⟨w.heap.size, 8, none⟩ = some (.bool false) := (show w9.cell? ⟨w.heap.size, 8, none⟩ = some (.bool F.al) from Fm.k8 HX.out).trans (by rw [← HAL.out])
                          have k6 : w9.cell? ⟨w.heap.size, 6, none⟩ = some (.int .u32 (F.oth : Int)) := Fm.k6 HX.out
                          have k0 : w9.cell? ⟨w.heap.size, 0, none⟩ = some (.int .u8 (F.ty : Int)) := Fm.k0 HX.out
                          go_wp2_with fail
                          go_meet
                          exact ⟨by first | rfl | simp [bne, *], HX, HB⟩
              | false =>
                cases le with
                | true =>
                  cases oz with
                  | true =>
                    have pwz : ¬ (F.wt : Int) = 0 := ne_of_beq_false fwz
                    have poz : (F.oth : Int) = 0 := eq_of_beq foz
                    go_wp2_with (refine wpList_fmg (by rfl) _ rfl rfl HX.out ?_)
                    refine (hleans _).mono ?_
                    rintro e w9 ⟨rfl, hb⟩
                    have HX := Lib.hid (HX.out.below hb HX.out.lt)
                    have HB := Lib.hid (HB.out.trans (hb.mono HB.out.size))
                    clear hb
                    have k7 : w9.cell? ⟨w.heap.size, 7, none⟩ = some (.int .u8 (F.wt : Int)) := Fm.k7 HX.out
                    have k8 : w9.cell? ⟨w.heap.size, 8, none⟩ = some (.bool al) := (show w9.cell? ⟨w.heap.size, 8, none⟩ = some (.bool F.al) from Fm.k8 HX.out).trans (by rw [← HAL.out])
                    have k6 : w9.cell? ⟨w.heap.size, 6, none⟩ = some (.int .u32 (F.oth : Int)) := Fm.k6 HX.out
                    have k0 : w9.cell? ⟨w.heap.size, 0, none⟩ = some (.int .u8 (F.ty : Int)) := Fm.k0 HX.out
                    go_wp2_with fail
                    go_meet
                    exact ⟨by first | rfl | simp [bne, *], HX, HB⟩
                  | false =>
                    have pwz : ¬ (F.wt : Int) = 0 := ne_of_beq_false fwz
                    have poz : ¬ (F.oth : Int) = 0 := ne_of_beq_false foz
                    go_wp2_with (refine wpList_fmg (by rfl) _ rfl rfl HX.out ?_)
                    refine (hleans _).mono ?_
                    rintro e w9 ⟨rfl, hb⟩
                    have HX := Lib.hid (HX.out.below hb HX.out.lt)
                    have HB := Lib.hid (HB.out.trans (hb.mono HB.out.size))
                    clear hb
                    have k7 : w9.cell? ⟨w.heap.size, 7, none⟩ = some (.int .u8 (F.wt : Int)) := Fm.k7 HX.out
                    have k8 : w9.cell? ⟨w.heap.size, 8, none⟩ = some (.bool al) := (show w9.cell? ⟨w.heap.size, 8, none⟩ = some (.bool F.al) from Fm.k8 HX.out).trans (by rw [← HAL.out])
                    have k6 : w9.cell? ⟨w.heap.size, 6, none⟩ = some (.int .u32 (F.oth : Int)) := Fm.k6 HX.out
                    have k0 : w9.cell? ⟨w.heap.size, 0, none⟩ = some (.int .u8 (F.ty : Int)) := Fm.k0 HX.out
                    go_wp2_with (refine wpList_fmg (by rfl) _ rfl rfl HX.out ?_)
                    refine (hleans _).mono ?_
                    rintro e w9 ⟨rfl, hb⟩
                    have HX := Lib.hid (HX.out.below hb HX.out.lt)
                    have HB := Lib.hid (HB.out.trans (hb.mono HB.out.size))
                    clear hb
                    have k7 : w9.cell? ⟨w.heap.size, 7, none⟩ = some (.int .u8 (F.wt : Int)) := Fm.k7 HX.out
                    have k8 : w9.cell? ⟨w.heap.size, 8, none⟩ = some (.bool al) := (show w9.cell? ⟨w.heap.size, 8, none⟩ = some (.bool F.al) from Fm.k8 HX.out).trans (by rw [← HAL.out])
                    have k6 : w9.cell? ⟨w.heap.size, 6, none⟩ = some (.int .u32 (F.oth : Int)) := Fm.k6 HX.out
                    have k0 : w9.cell? ⟨w.heap.size, 0, none⟩ = some (.int .u8 (F.ty : Int)) := Fm.k0 HX.out
                    go_wp2_with fail
                    go_meet
                    exact ⟨by first | rfl | simp [bne, *], HX, HB⟩
                | false =>
                  have pwz : ¬ (F.wt : Int) = 0 := ne_of_beq_false fwz
                  go_wp2_with (refine wpList_fmg (by rfl) _ rfl rfl HX.out ?_)
                  refine (hleans _).mono ?_
                  rintro e w9 ⟨rfl, hb⟩
                  have HX := Lib.hid (HX.out.below hb HX.out.lt)
                  have HB := Lib.hid (HB.out.trans (hb.mono HB.out.size))
                  clear hb
                  have k7 : w9.cell? ⟨w.heap.size, 7, none⟩ = some (.int .u8 (F.wt : Int)) := Fm.k7 HX.out
                  have k8 : w9.cell? ⟨w.heap.size, 8, none⟩ = some (.bool al) := (show w9.cell? ⟨w.heap.size, 8, none⟩ = some (.bool F.al) from Fm.k8 HX.out).trans (by rw [← HAL.out])
                  have k6 : w9.cell? ⟨w.heap.size, 6, none⟩ = some (.int .u32 (F.oth : Int)) := Fm.k6 HX.out
                  have k0 : w9.cell? ⟨w.heap.size, 0, none⟩ = some (.int .u8 (F.ty : Int)) := Fm.k0 HX.out
                  go_wp2_with fail
                  go_meet
                  exact ⟨by first | rfl | simp [bne, *], HX, HB⟩
            case rest =>
              obtain ⟨rfl, HX2, HB2⟩ := hcut
              clear HX HB
              have HX := HX2
              have HB := HB2
              clear HX2 HB2
              generalize wc = w8 at *
              obtain ⟨b, hb⟩ : ∃ b, (((!wz || al) && !le) || (((!oz && !le) && !t5) && !t7)) = b := ⟨_, rfl⟩
              rw [hb]
              cases b with
              | true =>
                have hb := Lib.hid hb
                clear HPAY
                go_wp2_with fail
                go_ret
                rw [HM.out, hb.out]
                exact ⟨by simp, HB.out⟩
              | false =>
                have HN6 := Lib.hid hb
                clear hb
                go_upto_region 8 with fail
                go_cut [112] from 79 to 112 (fun v wx => v = .bool (((((!cz && !t3) && !t7) || (!vz && !t8)) || (sn && !t4))) ∧ Hid (Row wx w.heap.size 36 (F.fm dA dc sA sc).c) ∧ Hid (Below w.heap.size w wx))
                case first =>
                  clear HPAY Hle2 HM HPL Hpp Hp0 Hp255 Hpm Hs1 Ho1 Hw1 Hwz Hle Hoz Hdn Ht2 Ht5 Ht6 Hd8 Hdl Hsl Hpl
                  have k5 : w8.cell? ⟨w.heap.size, 5, none⟩ = some (.int .u32 (F.code : Int)) := Fm.k5 HX.out
                  have k0 : w8.cell? ⟨w.heap.size, 0, none⟩ = some (.int .u8 (F.ty : Int)) := Fm.k0 HX.out
                  have k9 : w8.cell? ⟨w.heap.size, 9, none⟩ = some (.int .u32 (F.win : Int)) := Fm.k9 HX.out
                  have k10 : w8.cell? ⟨w.heap.size, 10, none⟩ = some (.slice sA F.sets.length sc) := Fm.k10 HX.out
                  have fcz := Hcz.out
                  have ft3 := Ht3.out
                  have ft7 := Ht7.out
                  have fvz := Hvz.out
                  have ft8 := Ht8.out
                  have fsn := Hsn.out
                  have ft4 := Ht4.out
                  cases cz with
                  | true =>
                    cases vz with
                    | true =>
                      cases sn with
                      | true =>
                        cases t4 with
                        | true =>
                          have pcz : (F.code : Int) = 0 := eq_of_beq fcz
                          have pvz : (F.win : Int) = 0 := eq_of_beq fvz
                          have pt4 : (F.ty : Int) = 4 := eq_of_beq ft4
                          have gsn : 0 < F.sets.length := by have := of_decide_eq_true fsn; omega
                          go_wp2_with fail
                          go_meet
                          exact ⟨by first | rfl | simp [bne, *], HX, HB⟩
                        | false =>
                          have pcz : (F.code : Int) = 0 := eq_of_beq fcz
                          have pvz : (F.win : Int) = 0 := eq_of_beq fvz
                          have pt4 : ¬ (F.ty : Int) = 4 := ne_of_beq_false ft4
                          have gsn : 0 < F.sets.length := by have := of_decide_eq_true fsn; omega
                          go_wp2_with fail
                          go_meet
                          exact ⟨by first | rfl | simp [bne, *], HX, HB⟩
                      | false =>
                        have pcz : (F.code : Int) = 0 := eq_of_beq fcz
                        have pvz : (F.win : Int) = 0 := eq_of_beq fvz
                        have gsn : ¬ 0 < F.sets.length := by have := of_decide_eq_false fsn; omega
                        go_wp2_with fail
                        go_meet
                        exact ⟨by first | rfl | simp [bne, *], HX, HB⟩
                    | false =>
                      cases t8 with
                      | true =>
                        cases sn with
                        | true =>
                          cases t4 with
                          | true =>
                            have pcz : (F.code : Int) = 0 := eq_of_beq fcz
                            have pvz : ¬ (F.win : Int) = 0 := ne_of_beq_false fvz
                            have pt8 : (F.ty : Int) = 8 := eq_of_beq ft8
                            have pt4 : (F.ty : Int) = 4 := eq_of_beq ft4
                            exfalso; omega
                          | false =>
                            have pcz : (F.code : Int) = 0 := eq_of_beq fcz
                            have pvz : ¬ (F.win : Int) = 0 := ne_of_beq_false fvz
                            have pt8 : (F.ty : Int) = 8 := eq_of_beq ft8
                            have pt4 : ¬ (F.ty : Int) = 4 := ne_of_beq_false ft4
                            have gsn : 0 < F.sets.length := by have := of_decide_eq_true fsn; omega
                            go_wp2_with fail
                            go_meet
                            exact ⟨by first | rfl | simp [bne, *], HX, HB⟩
                        | false =>
                          have pcz : (F.code : Int) = 0 := eq_of_beq fcz
                          have pvz : ¬ (F.win : Int) = 0 := ne_of_beq_false fvz
                          have pt8 : (F.ty : Int) = 8 := eq_of_beq ft8
                          have gsn : ¬ 0 < F.sets.length := by have := of_decide_eq_false fsn; omega
                          go_wp2_with fail
                          go_meet
                          exact ⟨by first | rfl | simp [bne, *], HX, HB⟩
                      | false =>
                        have pcz : (F.code : Int) = 0 := eq_of_beq fcz
                        have pvz : ¬ (F.win : Int) = 0 := ne_of_beq_false fvz
                        have pt8 : ¬ (F.ty : Int) = 8 := ne_of_beq_false ft8
                        go_wp2_with fail
                        go_meet
                        exact ⟨by first | rfl | simp [bne, *], HX, HB⟩
                  | false =>
                    cases t3 with
                    | true =>
                      cases vz with
                      | true =>
                        cases sn with
                        | true =>
                          cases t4 with
                          | true =>
                            have pcz : ¬ (F.code : Int) = 0 := ne_of_beq_false fcz
                            have pt3 : (F.ty : Int) = 3 := eq_of_beq ft3
                            have pvz : (F.win : Int) = 0 := eq_of_beq fvz
                            have pt4 : (F.ty : Int) = 4 := eq_of_beq ft4
                            exfalso; omega
                          | false =>
                            have pcz : ¬ (F.code : Int) = 0 := ne_of_beq_false fcz
                            have pt3 : (F.ty : Int) = 3 := eq_of_beq ft3
                            have pvz : (F.win : Int) = 0 := eq_of_beq fvz
                            have pt4 : ¬ (F.ty : Int) = 4 := ne_of_beq_false ft4
                            have gsn : 0 < F.sets.length := by have := of_decide_eq_true fsn; omega
                            go_wp2_with fail
                            go_meet
                            exact ⟨by first | rfl | simp [bne, *], HX, HB⟩
                        | false =>
                          have pcz : ¬ (F.code : Int) = 0 := ne_of_beq_false fcz
                          have pt3 : (F.ty : Int) = 3 := eq_of_beq ft3
                          have pvz : (F.win : Int) = 0 := eq_of_beq fvz
                          have gsn : ¬ 0 < F.sets.length := by have := of_decide_eq_false fsn; omega
                          go_wp2_with fail
                          go_meet
                          exact ⟨by first | rfl | simp [bne, *], HX, HB⟩
                      | false =>
                        cases t8 with
                        | true =>
                          cases sn with
                          | true =>
                            cases t4 with
                            | true =>
                              have pcz : ¬ (F.code : Int) = 0 := ne_of_beq_false fcz
                              have pt3 : (F.ty : Int) = 3 := eq_of_beq ft3
                              have pvz : ¬ (F.win : Int) = 0 := ne_of_beq_false fvz
                              have pt8 : (F.ty : Int) = 8 := eq_of_beq ft8
                              have pt4 : (F.ty : Int) = 4 := eq_of_beq ft4
                              exfalso; omega
                            | false =>
                              have pcz : ¬ (F.code : Int) = 0 := ne_of_beq_false fcz
                              have pt3 : (F.ty : Int) = 3 := eq_of_beq ft3
                              have pvz : ¬ (F.win : Int) = 0 := ne_of_beq_false fvz
                              have pt8 : (F.ty : Int) = 8 := eq_of_beq ft8
                              have pt4 : ¬ (F.ty : Int) = 4 := ne_of_beq_false ft4
                              exfalso; omega
                          | false =>
                            have pcz : ¬ (F.code : Int) = 0 := ne_of_beq_false fcz
                            have pt3 : (F.ty : Int) = 3 := eq_of_beq ft3
                            have pvz : ¬ (F.win : Int) = 0 := ne_of_beq_false fvz
                            have pt8 : (F.ty : Int) = 8 := eq_of_beq ft8
                            exfalso; omega
                        | false =>
                          have pcz : ¬ (F.code : Int) = 0 := ne_of_beq_false fcz
                          have pt3 : (F.ty : Int) = 3 := eq_of_beq ft3
                          have pvz : ¬ (F.win : Int) = 0 := ne_of_beq_false fvz
                          have pt8 : ¬ (F.ty : Int) = 8 := ne_of_beq_false ft8
                          go_wp2_with fail
                          go_meet
                          exact ⟨by first | rfl | simp [bne, *], HX, HB⟩
                    | false =>
                      cases t7 with
                      | true =>
                        cases vz with
                        | true =>
                          cases sn with
                          | true =>
                            cases t4 with
                            | true =>
                              have pcz : ¬ (F.code : Int) = 0 := ne_of_beq_false fcz
                              have pt3 : ¬ (F.ty : Int) = 3 := ne_of_beq_false ft3
                              have pt7 : (F.ty : Int) = 7 := eq_of_beq ft7
                              have pvz : (F.win : Int) = 0 := eq_of_beq fvz
                              have pt4 : (F.ty : Int) = 4 := eq_of_beq ft4
                              exfalso; omega
                            | false =>
                              have pcz : ¬ (F.code : Int) = 0 := ne_of_beq_false fcz
                              have pt3 : ¬ (F.ty : Int) = 3 := ne_of_beq_false ft3
                              have pt7 : (F.ty : Int) = 7 := eq_of_beq ft7
                              have pvz : (F.win : Int) = 0 := eq_of_beq fvz
                              have pt4 : ¬ (F.ty : Int) = 4 := ne_of_beq_false ft4
                              have gsn : 0 < F.sets.length := by have := of_decide_eq_true fsn; omega
                              go_wp2_with fail
                              go_meet
                              exact ⟨by first | rfl | simp [bne, *], HX, HB⟩
                          | false =>
                            have pcz : ¬ (F.code : Int) = 0 := ne_of_beq_false fcz
                            have pt3 : ¬ (F.ty : Int) = 3 := ne_of_beq_false ft3
                            have pt7 : (F.ty : Int) = 7 := eq_of_beq ft7
                            have pvz : (F.win : Int) = 0 := eq_of_beq fvz
                            have gsn : ¬ 0 < F.sets.length := by have := of_decide_eq_false fsn; omega
                            go_wp2_with fail
                            go_meet
                            exact ⟨by first | rfl | simp [bne, *], HX, HB⟩
                        | false =>
                          cases t8 with
                          | true =>
                            cases sn with
                            | true =>
                              cases t4 with
                              | true =>
                                have pcz : ¬ (F.code : Int) = 0 := ne_of_beq_false fcz
                                have pt3 : ¬ (F.ty : Int) = 3 := ne_of_beq_false ft3
                                have pt7 : (F.ty : Int) = 7 := eq_of_beq ft7
                                have pvz : ¬ (F.win : Int) = 0 := ne_of_beq_false fvz
                                have pt8 : (F.ty : Int) = 8 := eq_of_beq ft8
                                have pt4 : (F.ty : Int) = 4 := eq_of_beq ft4
                                exfalso; omega
                              | false =>
                                have pcz : ¬ (F.code : Int) = 0 := ne_of_beq_false fcz
                                have pt3 : ¬ (F.ty : Int) = 3 := ne_of_beq_false ft3
                                have pt7 : (F.ty : Int) = 7 := eq_of_beq ft7
                                have pvz : ¬ (F.win : Int) = 0 := ne_of_beq_false fvz
                                have pt8 : (F.ty : Int) = 8 := eq_of_beq ft8
                                have pt4 : ¬ (F.ty : Int) = 4 := ne_of_beq_false ft4
                                exfalso; omega
                            | false =>
                              have pcz : ¬ (F.code : Int) = 0 := ne_of_beq_false fcz
                              have pt3 : ¬ (F.ty : Int) = 3 := ne_of_beq_false ft3
                              have pt7 : (F.ty : Int) = 7 := eq_of_beq ft7
                              have pvz : ¬ (F.win : Int) = 0 := ne_of_beq_false fvz
                              have pt8 : (F.ty : Int) = 8 := eq_of_beq ft8
                              exfalso; omega
                          | false =>
                            have pcz : ¬ (F.code : Int) = 0 := ne_of_beq_false fcz
                            have pt3 : ¬ (F.ty : Int) = 3 := ne_of_beq_false ft3
                            have pt7 : (F.ty : Int) = 7 := eq_of_beq ft7
                            have pvz : ¬ (F.win : Int) = 0 := ne_of_beq_false fvz
                            have pt8 : ¬ (F.ty : Int) = 8 := ne_of_beq_false ft8
                            go_wp2_with fail
                            go_meet
                            exact ⟨by first | rfl | simp [bne, *], HX, HB⟩
                      | false =>
                        have pcz : ¬ (F.code : Int) = 0 := ne_of_beq_false fcz
                        have pt3 : ¬ (F.ty : Int) = 3 := ne_of_beq_false ft3
                        have pt7 : ¬ (F.ty : Int) = 7 := ne_of_beq_false ft7
                        go_wp2_with fail
                        go_meet
                        exact ⟨by first | rfl | simp [bne, *], HX, HB⟩
                case rest =>
                  obtain ⟨rfl, HX2, HB2⟩ := hcut
                  clear HX HB
                  have HX := HX2
                  have HB := HB2
                  clear HX2 HB2
                  generalize wc = w10 at *
                  obtain ⟨b, hb⟩ : ∃ b, ((((!cz && !t3) && !t7) || (!vz && !t8)) || (sn && !t4)) = b := ⟨_, rfl⟩
                  rw [hb]
                  cases b with
                  | true =>
                    have hb := Lib.hid hb
                    clear HPAY
                    go_wp2_with fail
                    go_ret
                    rw [HM.out, hb.out]
                    exact ⟨by simp, HB.out⟩
                  | false =>
                    have HN8 := Lib.hid hb
                    clear hb
                    go_upto_region 10 with fail
                    go_cut [147] from 113 to 147 (fun v wx => v = .bool (((dn && (((t2 || t3) || t4) || t8)) || (t6 && !d8))) ∧ Hid (Row wx w.heap.size 36 (F.fm dA dc sA sc).c) ∧ Hid (Below w.heap.size w wx))
                    case first =>
                      clear HPAY Hle2 HM HPL Hpp Hp0 Hp255 Hpm Hs1 Ho1 Hw1 Hwz Hle Hoz Hcz Hvz Hsn Ht5 Ht7 Hdl Hsl Hpl
                      have k3 : w10.cell? ⟨w.heap.size, 3, none⟩ = some (.slice dA F.dat.length dc) := Fm.k3 HX.out
                      have k0 : w10.cell? ⟨w.heap.size, 0, none⟩ = some (.int .u8 (F.ty : Int)) := Fm.k0 HX.out
                      have fdn := Hdn.out
                      have ft2 := Ht2.out
                      have ft3 := Ht3.out
                      have ft4 := Ht4.out
                      have ft8 := Ht8.out
                      have ft6 := Ht6.out
                      have fd8 := Hd8.out
                      cases dn with
                      | true =>
                        cases t2 with
                        | true =>
                          have pt2 : (F.ty : Int) = 2 := eq_of_beq ft2
                          have gdn : 0 < F.dat.length := by have := of_decide_eq_true fdn; omega
                          go_wp2_with fail
                          go_meet
                          exact ⟨by first | rfl | simp [bne, *], HX, HB⟩
                        | false =>
                          cases t3 with
                          | true =>
                            have pt2 : ¬ (F.ty : Int) = 2 := ne_of_beq_false ft2
                            have pt3 : (F.ty : Int) = 3 := eq_of_beq ft3
                            have gdn : 0 < F.dat.length := by have := of_decide_eq_true fdn; omega
                            go_wp2_with fail
                            go_meet
                            exact ⟨by first | rfl | simp [bne, *], HX, HB⟩
                          | false =>
                            cases t4 with
                            | true =>
                              have pt2 : ¬ (F.ty : Int) = 2 := ne_of_beq_false ft2
                              have pt3 : ¬ (F.ty : Int) = 3 := ne_of_beq_false ft3
                              have pt4 : (F.ty : Int) = 4 := eq_of_beq ft4
                              have gdn : 0 < F.dat.length := by have := of_decide_eq_true fdn; omega
                              go_wp2_with fail
                              go_meet
                              exact ⟨by first | rfl | simp [bne, *], HX, HB⟩
                            | false =>
                              cases t8 with
                              | true =>
                                have pt2 : ¬ (F.ty : Int) = 2 := ne_of_beq_false ft2
                                have pt3 : ¬ (F.ty : Int) = 3 := ne_of_beq_false ft3
                                have pt4 : ¬ (F.ty : Int) = 4 := ne_of_beq_false ft4
                                have pt8 : (F.ty : Int) = 8 := eq_of_beq ft8
                                have gdn : 0 < F.dat.length := by have := of_decide_eq_true fdn; omega
                                go_wp2_with fail
                                go_meet
                                exact ⟨by first | rfl | simp [bne, *], HX, HB⟩
                              | false =>
                                cases t6 with
                                | true =>
                                  cases d8 with
                                  | true =>
                                    have pt2 : ¬ (F.ty : Int) = 2 := ne_of_beq_false ft2
                                    have pt3 : ¬ (F.ty : Int) = 3 := ne_of_beq_false ft3
                                    have pt4 : ¬ (F.ty : Int) = 4 := ne_of_beq_false ft4
                                    have pt8 : ¬ (F.ty : Int) = 8 := ne_of_beq_false ft8
                                    have pt6 : (F.ty : Int) = 6 := eq_of_beq ft6
                                    have pd8 : (F.dat.length : Int) = 8 := eq_of_beq fd8
                                    have gdn : 0 < F.dat.length := by have := of_decide_eq_true fdn; omega
                                    go_wp2_with fail
                                    go_meet
                                    exact ⟨by first | rfl | simp [bne, *], HX, HB⟩
                                  | false =>
                                    have pt2 : ¬ (F.ty : Int) = 2 := ne_of_beq_false ft2
                                    have pt3 : ¬ (F.ty : Int) = 3 := ne_of_beq_false ft3
                                    have pt4 : ¬ (F.ty : Int) = 4 := ne_of_beq_false ft4
                                    have pt8 : ¬ (F.ty : Int) = 8 := ne_of_beq_false ft8
                                    have pt6 : (F.ty : Int) = 6 := eq_of_beq ft6
                                    have pd8 : ¬ (F.dat.length : Int) = 8 := ne_of_beq_false fd8
                                    have gdn : 0 < F.dat.length := by have := of_decide_eq_true fdn; omega
                                    go_wp2_with fail
                                    go_meet
                                    exact ⟨by first | rfl | simp [bne, *], HX, HB⟩
                                | false =>
                                  have pt2 : ¬ (F.ty : Int) = 2 := ne_of_beq_false ft2
                                  have pt3 : ¬ (F.ty : Int) = 3 := ne_of_beq_false ft3
                                  have pt4 : ¬ (F.ty : Int) = 4 := ne_of_beq_false ft4
                                  have pt8 : ¬ (F.ty : Int) = 8 := ne_of_beq_false ft8
                                  have pt6 : ¬ (F.ty : Int) = 6 := ne_of_beq_false ft6
                                  have gdn : 0 < F.dat.length := by have := of_decide_eq_true fdn; omega
                                  go_wp2_with fail
                                  go_meet
                                  exact ⟨by first | rfl | simp [bne, *], HX, HB⟩
                      | false =>
                        cases t6 with
                        | true =>
                          cases d8 with
                          | true =>
                            have pt6 : (F.ty : Int) = 6 := eq_of_beq ft6
                            have pd8 : (F.dat.length : Int) = 8 := eq_of_beq fd8
                            have gdn : ¬ 0 < F.dat.length := by have := of_decide_eq_false fdn; omega
                            exfalso; omega
                          | false =>
                            have pt6 : (F.ty : Int) = 6 := eq_of_beq ft6
                            have pd8 : ¬ (F.dat.length : Int) = 8 := ne_of_beq_false fd8
                            have gdn : ¬ 0 < F.dat.length := by have := of_decide_eq_false fdn; omega
                            go_wp2_with fail
                            go_meet
                            exact ⟨by first | rfl | simp [bne, *], HX, HB⟩
                        | false =>
                          have pt6 : ¬ (F.ty : Int) = 6 := ne_of_beq_false ft6
                          have gdn : ¬ 0 < F.dat.length := by have := of_decide_eq_false fdn; omega
                          go_wp2_with fail
                          go_meet
                          exact ⟨by first | rfl | simp [bne, *], HX, HB⟩
                    case rest =>
                      obtain ⟨rfl, HX2, HB2⟩ := hcut
                      clear HX HB
                      have HX := HX2
                      have HB := HB2
                      clear HX2 HB2
                      generalize wc = w12 at *
                      obtain ⟨b, hb⟩ : ∃ b, ((dn && (((t2 || t3) || t4) || t8)) || (t6 && !d8)) = b := ⟨_, rfl⟩
                      rw [hb]
                      cases b with
                      | true =>
                        have hb := Lib.hid hb
                        clear HPAY
                        go_wp2_with fail
                        go_ret
                        rw [HM.out, hb.out]
                        exact ⟨by simp, HB.out⟩
                      | false =>
                        have HN10 := Lib.hid hb
                        clear hb
                        have k3 : w12.cell? ⟨w.heap.size, 3, none⟩ = some (.slice dA F.dat.length dc) := Fm.k3 HX.out
                        have k10 : w12.cell? ⟨w.heap.size, 10, none⟩ = some (.slice sA F.sets.length sc) := Fm.k10 HX.out
                        have fdl := Hdl.out
                        have fsl := Hsl.out
                        have hpl := HPL.out
                        have hp : F.pad ≤ 255 := pad_le HN2.out Hpp.out Hp255.out Hpm.out
                        have hpay := HPAY.out hp
                        have HM2 := HM.out
                        rw [HN2.out, HN4.out, HN6.out, HN8.out, HN10.out] at HM2
                        have HM2 := Lib.hid HM2
                        cases dl with
                        | true =>
                          cases sl with
                          | true =>
                            cases pl with
                            | true =>
                              go_wp2_with (first | (refine wpList_fmg (by rfl) _ rfl rfl HX.out ?_) | (go_at_call 30; refine (hpay _ HB.out).mono ?_; rintro e w9 ⟨rfl, hb⟩; have HB := Lib.hid (HB.out.trans (hb.mono HB.out.size)); have hsz := tb_size (payL F); clear hb))
                              go_ret
                              rw [HM2.out]
                              exact ⟨rfl, HB.out⟩
                            | false =>
                              go_wp2_with (first | (refine wpList_fmg (by rfl) _ rfl rfl HX.out ?_) | (go_at_call 30; refine (hpay _ HB.out).mono ?_; rintro e w9 ⟨rfl, hb⟩; have HB := Lib.hid (HB.out.trans (hb.mono HB.out.size)); have hsz := tb_size (payL F); clear hb))
                              go_ret
                              rw [HM2.out]
                              exact ⟨rfl, HB.out⟩
                          | false =>
                            go_wp2_with (first | (refine wpList_fmg (by rfl) _ rfl rfl HX.out ?_) | (go_at_call 30; refine (hpay _ HB.out).mono ?_; rintro e w9 ⟨rfl, hb⟩; have HB := Lib.hid (HB.out.trans (hb.mono HB.out.size)); have hsz := tb_size (payL F); clear hb))
                            go_ret
                            rw [HM2.out]
                            exact ⟨rfl, HB.out⟩
                        | false =>
                          go_wp2_with (first | (refine wpList_fmg (by rfl) _ rfl rfl HX.out ?_) | (go_at_call 30; refine (hpay _ HB.out).mono ?_; rintro e w9 ⟨rfl, hb⟩; have HB := Lib.hid (HB.out.trans (hb.mono HB.out.size)); have hsz := tb_size (payL F); clear hb))
                          go_ret
                          rw [HM2.out]
                          exact ⟨rfl, HB.out⟩
end Go.Proofs.YtnjnepploockiaaDoor
