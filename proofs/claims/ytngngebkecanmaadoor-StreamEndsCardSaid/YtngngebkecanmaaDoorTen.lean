/-
  StreamEnds: the law's walk. Condition: the frames are read; errors.errorType as the program's text lays it.
-/
import Derived.Test.YtngngebkecanmaaDoorTig
import Derived.Test.YtngngebkecanmaaDoorTop
namespace Go.Proofs.YtngngebkecanmaaDoor
open Go.RowKit Go.WideShapes

/-- States that belong together. -/
def Pr (a b : Int) : Prop := (a = 1 ∧ b = 1) ∨ (a = 4 ∧ b = 4) ∨ (a = 2 ∧ b = 3) ∨ (a = 3 ∧ b = 2) ∨ (a = 5 ∧ b = 6) ∨ (a = 6 ∧ b = 5)
theorem Pr.symm {a b : Int} (h : Pr a b) : Pr b a := by unfold Pr at *; omega
theorem ends_ways {P : Int → Prop} (h0 : P 0) (h1 : P 1) (h3 : P 3) (h8 : P 8) (hn : ∀ k, k ≠ 0 → k ≠ 1 → k ≠ 3 → k ≠ 8 → P k) (k : Int) : P k := by
  by_cases e0 : k = 0
  · subst e0; exact h0
  by_cases e1 : k = 1
  · subst e1; exact h1
  by_cases e3 : k = 3
  · subst e3; exact h3
  by_cases e8 : k = 8
  · subst e8; exact h8
  exact hn k e0 e1 e3 e8
/-- What one side may send, the other one comes by. -/
theorem ends_step (x y : Int) (e : Bool) (h : Pr x y) (k : Int) : ¬ (k = 1 ∧ e = false) → (sd x k e).2 = true → (cm y k e).2.1 = 0 ∧ (cm y k e).2.2 = 0 ∧ Pr (sd x k e).1 (cm y k e).1 := by
  refine ends_ways (P := fun k => ¬ (k = 1 ∧ e = false) → (sd x k e).2 = true → (cm y k e).2.1 = 0 ∧ (cm y k e).2.2 = 0 ∧ Pr (sd x k e).1 (cm y k e).1) ?_ ?_ ?_ ?_ ?_ k
  case refine_5 =>
    intro k e0 e1 e3 e8 _ hok
    exfalso
    unfold sd at hok
    rcases h with ⟨rfl, rfl⟩ | ⟨rfl, rfl⟩ | ⟨rfl, rfl⟩ | ⟨rfl, rfl⟩ | ⟨rfl, rfl⟩ | ⟨rfl, rfl⟩ <;> simp [e0, e1, e3, e8] at hok
  all_goals
    intro hne hok
    unfold Pr
    rcases h with ⟨rfl, rfl⟩ | ⟨rfl, rfl⟩ | ⟨rfl, rfl⟩ | ⟨rfl, rfl⟩ | ⟨rfl, rfl⟩ | ⟨rfl, rfl⟩ <;> cases e <;> revert hne hok <;> decide
attribute [local irreducible] ftc cm sd Pr
set_option maxRecDepth 100000 in
set_option maxHeartbeats 8000000 in
theorem ends_law {w : World} {A : Option Addr} {c : Nat} {O : List Op11} (hR : RdS w (· < w.heap.size) A (enl oc11 O)) (hG : GlobE w) :
    Calls Tryd.prog 5 #[.slice A O.length c] w fun e w' => e = .returned (.bool true) ∧ Below w.heap.size w w' := by
  have HR := Lib.hid hR
  have HG := Lib.hid hG
  clear hR hG
  by_cases hlen : 2000 < O.length
  · have h' : (2000 : Int) < (O.length : Int) := by omega
    clear HR hlen
    go_enter Tryd.func5, Tryd.ntmps5
    go_wp2_with fail
    refine (fixed_any HG.out).mono ?_
    rintro e w1 ⟨rfl, hb⟩
    have HB2 := Lib.hid hb
    clear hb
    go_wp2
    go_ret
    exact ⟨rfl, HB2.out⟩
  have h' : decide ((2000 : Int) < (O.length : Int)) = false := by simp; omega
  have h2000 : O.length ≤ 2000 := by omega
  have HP0 : Hid (Pr 1 1) := by show Pr _ _; unfold Pr; omega
  clear hlen
  go_enter Tryd.func5, Tryd.ntmps5
  go_upto_region 5 with fail
  clear h'
  go_loopw [3, 4, 20] (fun av bv i wr => ∃ (k : Nat) (a b : Int), k ≤ O.length ∧ i = .int .i64 k ∧ av = .int .u8 a ∧ bv = .int .u8 b ∧ Hid (Pr a b) ∧ Hid (Below w.heap.size w wr))
    (fun _ _ i _ => O.length - (intOf i).toNat)
  case atStart => exact ⟨0, 1, 1, Nat.zero_le _, rfl, rfl, rfl, HP0, Below.refl _ _⟩
  case round =>
    obtain ⟨k, a, b, hk, rfl, rfl, rfl, HP, HW⟩ := hrel
    have HGr := Lib.hid (HG.out.below HW.out)
    by_cases hlt : k < O.length
    · obtain ⟨bb, q, rfl, hb, f0, f1, f2⟩ := (HR.out.below HW.out).op11 hlt
      generalize O[k].st = st at *
      generalize O[k].kd = kd at *
      generalize O[k].en = en at *
      have k0 : (0 : Int) ≤ (k : Int) := by omega
      have k1 : (k : Int) < (O.length : Int) := by omega
      have HO := Lib.hid (Row.new wr 28 #[.bool st, .int .u8 kd, .bool en])
      have HW1 := Lib.hid (HW.out.trans (((Below.refl wr.heap.size wr).alloc (Nat.le_refl _) (.cells #[.bool st, .int .u8 kd, .bool en] 28)).mono HW.out.size))
      have HG1 := Lib.hid (HG.out.below HW1.out)
      clear hb HW HGr
      go_upto_region 7 with fail
      clear f0 f1 f2
      generalize wr.alloc (.cells #[.bool st, .int .u8 kd, .bool en] 28) = w5 at *
      generalize wr.heap.size = po at *
      have o1 := HO.out.cell (j := 1) (v := .int .u8 kd) rfl
      have o2 := HO.out.cell (j := 2) (v := .bool en) rfl
      by_cases hc : kd = 1 ∧ en = false
      · obtain ⟨rfl, rfl⟩ := hc
        go_wp2_with fail
        go_roundw
        case rel => exact ⟨k + 1, a, b, by omega, by go_num, rfl, rfl, HP, HW1⟩
        case measure => simp [intOf]; omega
      have HNE := Lib.hid hc
      have HKW : Hid (kd = 1 ∧ en = true ∨ (kd == 1) = false) := by
        show _ ∨ _
        by_cases h1 : kd = 1
        · cases en
          · exact absurd ⟨h1, rfl⟩ hc
          · exact .inl ⟨h1, rfl⟩
        · exact .inr (ne_f h1)
      clear hc
      go_cut [31] (fun v wx => v = .bool false ∧ wx = w5)
      case first =>
        rcases HKW.out with ⟨rfl, rfl⟩ | e1
        all_goals
          clear HKW HNE
          go_wp2_with fail
          go_meet
          exact ⟨rfl, rfl⟩
      case rest =>
        obtain ⟨rfl, rfl⟩ := hcut
        clear HKW o1 o2
        have o0 := HO.out.cell (j := 0) (v := .bool st) rfl
        obtain ⟨x, y, hxy⟩ : ∃ x y : Int, st = false ∧ x = a ∧ y = b ∨ st = true ∧ x = b ∧ y = a := by
          cases st
          · exact ⟨a, b, .inl ⟨rfl, rfl, rfl⟩⟩
          · exact ⟨b, a, .inr ⟨rfl, rfl, rfl⟩⟩
        have HX := Lib.hid hxy
        have HPX : Hid (Pr x y) := by
          show Pr _ _
          rcases hxy with ⟨_, rfl, rfl⟩ | ⟨_, rfl, rfl⟩
          · exact HP.out
          · exact HP.out.symm
        clear hxy
        go_upto_if 35 with fail
        go_cut [7, 8] (fun v7 v8 wx => v7 = .int .u8 x ∧ v8 = .int .u8 y ∧ wx = wc)
        case first =>
          rcases HX.out with ⟨rfl, rfl, rfl⟩ | ⟨rfl, rfl, rfl⟩
          all_goals
            clear HX
            go_wp2_with fail
            go_meet
            exact ⟨rfl, rfl, rfl⟩
        case rest =>
          obtain ⟨rfl, rfl, hwc⟩ := hcut
          have HSD := Lib.hid (fun W => send_any x kd en W)
          have HCM := Lib.hid (fun (W : World) (h : GlobE W) => comeF_any y kd en h)
          have HST := Lib.hid (ends_step x y en HPX.out kd HNE.out)
          unfold SdP at HSD
          unfold CmF at HCM
          generalize sd x kd en = p at *
          generalize cm y kd en = q at *
          obtain ⟨t, ok⟩ := p
          obtain ⟨u, fa, fb⟩ := q
          have o1 := HO.out.cell (j := 1) (v := .int .u8 kd) rfl
          have o2 := HO.out.cell (j := 2) (v := .bool en) rfl
          subst hwc
          clear HNE o0
          go_wp2_with fail
          refine (HSD.out _).mono ?_
          rintro e' w6 ⟨rfl, rfl⟩
          clear HSD
          cases ok
          · clear HST HCM HX HPX o1 o2
            go_wp2_with fail
            go_roundw
            case rel => exact ⟨k + 1, a, b, by omega, by go_num, rfl, rfl, HP, HW1⟩
            case measure => simp [intOf]; omega
          clear HP
          obtain ⟨hfa, hfb, hpr⟩ := HST.out rfl
          have hfa' : fa = 0 := hfa
          have hfb' : fb = 0 := hfb
          have HPR : Hid (Pr t u) := hpr
          clear hfa hfb hpr HST
          subst hfa' hfb'
          go_wp2_with fail
          refine (HCM.out _ HG1.out).mono ?_
          rintro e' w7 ⟨rfl, hb7⟩
          have HW7 := Lib.hid (HW1.out.trans (hb7.mono HW1.out.size))
          have HO7 := Lib.hid (HO.out.below hb7 HO.out.lt)
          obtain ⟨w8, hw8, t1, t2, t3⟩ := one_fault w7 0 0
          have T1 := Lib.hid t1
          have T2 := Lib.hid t2
          have T7 := Lib.hid hw8
          have HW8 := Lib.hid (HW7.out.trans (t3.mono HW7.out.size))
          have HO8 := Lib.hid (HO7.out.below t3 HO7.out.lt)
          clear hb7 t1 t2 t3 hw8 HW7 HO7 HW1 HO HCM o1 o2 HG1
          go_upto_region 14 with (refine wpList_sw (cs := ftc 0 0) rfl _ _ rfl rfl rfl T1.out (ft_sz _ _ _ _) (ft_ok _ _) ?_)
          rw [T7.out]
          clear T1 T7
          generalize w7.heap.size = p1 at *
          have e1 := ft_n00
          have o0 := HO8.out.cell (j := 0) (v := .bool st) rfl
          obtain ⟨a', b', hab⟩ : ∃ a' b' : Int, st = false ∧ a' = t ∧ b' = u ∨ st = true ∧ a' = u ∧ b' = t := by
            cases st
            · exact ⟨t, u, .inl ⟨rfl, rfl, rfl⟩⟩
            · exact ⟨u, t, .inr ⟨rfl, rfl, rfl⟩⟩
          have HAB := Lib.hid hab
          have HPA : Hid (Pr a' b') := by
            show Pr _ _
            rcases hab with ⟨_, rfl, rfl⟩ | ⟨_, rfl, rfl⟩
            · exact HPR.out
            · exact HPR.out.symm
          clear hab HPR HX HPX
          go_upto_region 16 with (refine wpList_ld rfl _ rfl rfl T2.out (ft_ok _ _) ?_)
          go_upto_if 62 with fail
          go_cut [3, 4] (fun v3 v4 wx => v3 = .int .u8 a' ∧ v4 = .int .u8 b' ∧ wx = w8)
          case first =>
            rcases HAB.out with ⟨rfl, rfl, rfl⟩ | ⟨rfl, rfl, rfl⟩
            all_goals
              clear HAB
              go_wp2_with fail
              go_meet
              exact ⟨rfl, rfl, rfl⟩
          case rest =>
            obtain ⟨rfl, rfl, hwc⟩ := hcut
            subst hwc
            clear HAB T2 e1 o0 HO8
            have HPB := Lib.hid HPA.out
            have hpa := HPA.out
            clear HPA
            unfold Pr at hpa
            rcases hpa with ⟨rfl, rfl⟩ | ⟨rfl, rfl⟩ | ⟨rfl, rfl⟩ | ⟨rfl, rfl⟩ | ⟨rfl, rfl⟩ | ⟨rfl, rfl⟩
            all_goals
              go_wp2_with fail
              go_roundw
              case rel => exact ⟨k + 1, _, _, by omega, by go_num, rfl, rfl, HPB, HW8⟩
              case measure => simp [intOf]; omega
    · clear HP
      go_wp2_with fail
      refine (fixed_any HGr.out).mono ?_
      rintro e w7 ⟨rfl, hb7⟩
      have HW7 := Lib.hid (HW.out.trans (hb7.mono HW.out.size))
      clear hb7 HW HGr
      go_wp2_with fail
      go_ret
      exact ⟨rfl, HW7.out⟩
end Go.Proofs.YtngngebkecanmaaDoor
