/-
  StreamOn: the law's walk. Condition: the frames are read; errors.errorType as the program's text lays it.
-/
import Derived.Test.YtngngebkecanmaaDoorTig
import Derived.Test.YtngngebkecanmaaDoorTrc
import Derived.Test.YtngngebkecanmaaDoorTop
namespace Go.Proofs.YtngngebkecanmaaDoor
open Go.RowKit Go.WideShapes

attribute [local irreducible] ftc cm sd On
set_option maxRecDepth 100000 in
set_option maxHeartbeats 8000000 in
theorem on_law {w : World} {A : Option Addr} {c : Nat} {O : List Op11} (hR : RdS w (· < w.heap.size) A (enl oc11 O)) (hG : GlobE w) :
    Calls Tryd.prog 4 #[.slice A O.length c] w fun e w' => e = .returned (.bool true) ∧ Below w.heap.size w w' := by
  have HR := Lib.hid hR
  have HG := Lib.hid hG
  clear hR hG
  by_cases hlen : 2000 < O.length
  · have h' : (2000 : Int) < (O.length : Int) := by omega
    clear HR hlen
    go_enter Tryd.func4, Tryd.ntmps4
    go_wp2_with fail
    refine (fixed_any HG.out).mono ?_
    rintro e w1 ⟨rfl, hb⟩
    have HB2 := Lib.hid hb
    clear hb
    go_wp2
    go_ret
    exact ⟨rfl, HB2.out⟩
  have h' : decide ((2000 : Int) < (O.length : Int)) = false := by simp; omega
  have h2000 : O.length ≤ 2000 := by omega
  clear hlen
  go_enter Tryd.func4, Tryd.ntmps4
  go_upto_region 6 with fail
  clear h'
  go_loopw [3, 4, 23] (fun sv ov i wr => ∃ (k : Nat) (s : Int) (b : Bool), k ≤ O.length ∧ i = .int .i64 k ∧ sv = .int .u8 s ∧ ov = .bool b ∧ Hid (0 ≤ s ∧ s ≤ 6) ∧ Hid (b = true → 4 ≤ s) ∧ Hid (Below w.heap.size w wr))
    (fun _ _ i _ => O.length - (intOf i).toNat)
  case atStart => exact ⟨0, 0, false, Nat.zero_le _, rfl, rfl, rfl, by show _ ∧ _; omega, by show _ → _; simp, Below.refl _ _⟩
  case round =>
    obtain ⟨k, s, b, hk, rfl, rfl, rfl, HS, HB, HW⟩ := hrel
    have HGr := Lib.hid (HG.out.below HW.out)
    by_cases hlt : k < O.length
    · obtain ⟨bb, q, rfl, hb, f0, f1, f2⟩ := (HR.out.below HW.out).op11 hlt
      have HK := Lib.hid O[k].hk
      generalize O[k].st = st at *
      generalize O[k].kd = kd at *
      generalize O[k].en = en at *
      have k0 : (0 : Int) ≤ (k : Int) := by omega
      have k1 : (k : Int) < (O.length : Int) := by omega
      have HO := Lib.hid (Row.new wr 28 #[.bool st, .int .u8 kd, .bool en])
      have HW1 := Lib.hid (HW.out.trans (((Below.refl wr.heap.size wr).alloc (Nat.le_refl _) (.cells #[.bool st, .int .u8 kd, .bool en] 28)).mono HW.out.size))
      have HG1 := Lib.hid (HG.out.below HW1.out)
      clear hb HW HGr
      go_upto_region 8 with fail
      clear f0 f1 f2
      generalize wr.alloc (.cells #[.bool st, .int .u8 kd, .bool en] 28) = w5 at *
      generalize wr.heap.size = po at *
      have o0 := HO.out.cell (j := 0) (v := .bool st) rfl
      go_upto_if 29 with fail
      go_cut [3] (fun v wx => ∃ t, v = .int .u8 t ∧ Hid (0 ≤ t ∧ t ≤ 6) ∧ Hid (On s t) ∧ Hid (Below w.heap.size w wx))
      case first =>
        have HSD := Lib.hid (fun W => send_any s kd en W)
        have HRS := Lib.hid (fun W => rsend_any s kd en HK.out.1 W)
        have HCM := Lib.hid (fun (W : World) (h : GlobE W) => comeF_any s kd en h)
        have HRC := Lib.hid (fun W => rcome_any s kd en HS.out.1 HK.out.1 W)
        have HR1 := Lib.hid (sd_range s kd en HS.out)
        have HR2 := Lib.hid (cm_range s kd en HS.out)
        have HN1 := Lib.hid (sd_on s kd en HS.out)
        have HN2 := Lib.hid (cm_on s kd en HS.out)
        have HC2 := Lib.hid (cm_codes s kd en)
        unfold SdP at HSD HRS
        unfold CmF at HCM
        unfold CmR at HRC
        have o1 := HO.out.cell (j := 1) (v := .int .u8 kd) rfl
        have o2 := HO.out.cell (j := 2) (v := .bool en) rfl
        cases st
        · clear HSD HRS HR1 HN1
          generalize cm s kd en = p at *
          obtain ⟨t, a, b2⟩ := p
          obtain ⟨x, hx1, hx2, -⟩ := ft_nz a b2 HC2.out
          have HX1 := Lib.hid hx1
          have HX2 := Lib.hid hx2
          clear hx1 hx2 HC2
          go_wp2_with fail
          refine (HCM.out _ HG1.out).mono ?_
          rintro e' w6 ⟨rfl, hb6⟩
          have HW6 := Lib.hid (HW1.out.trans (hb6.mono HW1.out.size))
          have HO6 := Lib.hid (HO.out.below hb6 HO.out.lt)
          obtain ⟨w7, hw7, t1, t2, t3⟩ := one_fault w6 a b2
          have T1 := Lib.hid t1
          have T2 := Lib.hid t2
          have T7 := Lib.hid hw7
          have HW7 := Lib.hid (HW6.out.trans (t3.mono HW6.out.size))
          have HO7 := Lib.hid (HO6.out.below t3 HO6.out.lt)
          clear hb6 t1 t2 t3 hw7 HW6 HO6 HW1 HO HCM o0 o1 o2 HG1
          go_upto_region 16 with (refine wpList_sw (cs := ftc a b2) rfl _ _ rfl rfl rfl T1.out (ft_sz _ _ _ _) (ft_ok _ _) ?_)
          rw [T7.out]
          clear T1 T7
          generalize w6.heap.size = p1 at *
          have o1 := HO7.out.cell (j := 1) (v := .int .u8 kd) rfl
          have o2 := HO7.out.cell (j := 2) (v := .bool en) rfl
          go_wp2_with fail
          refine (HRC.out _).mono ?_
          rintro e' w8 ⟨rfl, hb8⟩
          have HW8 := Lib.hid (HW7.out.trans (hb8.mono HW7.out.size))
          have HT8 := Lib.hid (T2.out.below hb8 T2.out.lt)
          clear hb8 HW7 HO7 T2 o1 o2 HRC
          have e1 : (t != t) = false := by simp
          have e2 : (x != x) = false := by simp
          have hx1 := HX1.out
          have hx2 := HX2.out
          go_wp2_with (refine wpList_ldg (by rfl) _ rfl rfl HT8.out (ft_ok _ _) ?_)
          go_meet
          exact ⟨t, rfl, HR2, HN2, HW8⟩
        · clear HCM HRC HR2 HN2 HC2
          generalize sd s kd en = p at *
          obtain ⟨t, ok⟩ := p
          have e1 : (t != t) = false := by simp
          go_wp2_with fail
          refine (HSD.out _).mono ?_
          rintro e' w6 ⟨rfl, rfl⟩
          go_wp2_with fail
          refine (HRS.out _).mono ?_
          rintro e' w6 ⟨rfl, rfl⟩
          go_wp2_with fail
          go_meet
          exact ⟨t, rfl, HR1, HN1, HW1⟩
      case rest =>
        obtain ⟨t, rfl, HT, HN, HW2⟩ := hcut
        generalize wc = w6 at *
        clear HO HW1 HG1 o0
        have HM : Hid ((b = true ∧ 4 ≤ t ∧ ((s != 0) = true) ∧ decide (t < s) = false) ∨ (b = false ∧ s = 0) ∨ (b = false ∧ ((s != 0) = true) ∧ decide (t < s) = false)) := by
          have hon := HN.out
          unfold On at hon
          cases b
          · by_cases h0 : s = 0
            · exact .inr (.inl ⟨rfl, h0⟩)
            · exact .inr (.inr ⟨rfl, bne_iff_ne.2 h0, decide_eq_false (by have := hon.1 h0; omega)⟩)
          · have h4 := HB.out rfl
            exact .inl ⟨rfl, hon.2 h4, bne_iff_ne.2 (by omega), decide_eq_false (by have := hon.1 (by omega); omega)⟩
        have HL := Lib.hid (fun W => live_any t W)
        clear HN HS HB
        rcases HM.out with ⟨rfl, h4, e1, e2⟩ | ⟨rfl, rfl⟩ | ⟨rfl, e1, e2⟩
        · have hl : decide (1 ≤ t ∧ t ≤ 3) = false := decide_eq_false (by omega)
          rw [hl] at HL
          have H4 := Lib.hid h4
          clear hl h4 HM
          go_wp2_with fail
          refine (HL.out _).mono ?_
          rintro e' w7 ⟨rfl, rfl⟩
          go_wp2_with fail
          go_roundw
          case rel => exact ⟨k + 1, t, true, by omega, by go_num, rfl, rfl, HT, fun _ => H4.out, HW2⟩
          case measure => simp [intOf]; omega
        · by_cases h4 : 4 ≤ t
          · have H4 := Lib.hid h4
            clear HM HL
            go_wp2_with fail
            go_roundw
            case rel => exact ⟨k + 1, t, true, by omega, by go_num, rfl, rfl, HT, fun _ => H4.out, HW2⟩
            case measure => simp [intOf]; omega
          · have e4 : decide (4 ≤ t) = false := decide_eq_false h4
            clear HM HL h4
            go_wp2_with fail
            go_roundw
            case rel => exact ⟨k + 1, t, false, by omega, by go_num, rfl, rfl, HT, (fun e => by cases e), HW2⟩
            case measure => simp [intOf]; omega
        · by_cases h4 : 4 ≤ t
          · have H4 := Lib.hid h4
            clear HM HL
            go_wp2_with fail
            go_roundw
            case rel => exact ⟨k + 1, t, true, by omega, by go_num, rfl, rfl, HT, fun _ => H4.out, HW2⟩
            case measure => simp [intOf]; omega
          · have e4 : decide (4 ≤ t) = false := decide_eq_false h4
            clear HM HL h4
            go_wp2_with fail
            go_roundw
            case rel => exact ⟨k + 1, t, false, by omega, by go_num, rfl, rfl, HT, (fun e => by cases e), HW2⟩
            case measure => simp [intOf]; omega
    · clear HS HB
      go_wp2_with fail
      refine (fixed_any HGr.out).mono ?_
      rintro e w7 ⟨rfl, hb7⟩
      have HW7 := Lib.hid (HW.out.trans (hb7.mono HW.out.size))
      clear hb7 HW HGr
      go_wp2_with fail
      go_ret
      exact ⟨rfl, HW7.out⟩
end Go.Proofs.YtngngebkecanmaaDoor
