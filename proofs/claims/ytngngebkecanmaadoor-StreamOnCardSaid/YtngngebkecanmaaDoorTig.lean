/-
  StreamIgnored: the law's walk. Condition: the bounds of its arguments, errors.errorType as the program's text lays it.
-/
import Derived.Test.YtngngebkecanmaaDoorTfx
namespace Go.Proofs.YtngngebkecanmaaDoor
open Go.RowKit Go.WideShapes

/-- A fault and none, held against each other. -/
theorem ft_nz (a b : Int) (h : a = 0 ∧ b = 0 ∨ 1 ≤ a) : ∃ x : Bool, (∀ W : World, (binOp .neq 31 (.agg (ftc a b)) (.agg #[.int .u8 0, .int .u32 0])).run Tryd.prog W = .ok (.bool x) W) ∧ (a != 0) = x ∧ (x = false → a = 0 ∧ b = 0) := by
  rcases h with ⟨rfl, rfl⟩ | h
  · exact ⟨false, fun W => ft_neq 0 0 0 0 W, rfl, fun _ => ⟨rfl, rfl⟩⟩
  · refine ⟨true, fun W => ?_, bne_iff_ne.2 (by omega), fun e => by cases e⟩
    have e := ft_neq a b 0 0 W
    rw [decide_eq_false (show ¬ a = 0 by omega)] at e
    exact e
theorem ft_n00 (W : World) : (binOp .neq 31 (.agg (ftc 0 0)) (.agg #[.int .u8 0, .int .u32 0])).run Tryd.prog W = .ok (.bool false) W := ft_neq 0 0 0 0 W
/-- What is a fault changes no state; no state but Idle becomes Open. -/
theorem cm_ig (s k : Int) (e : Bool) : (1 ≤ (cm s k e).2.1 → (cm s k e).1 = s) ∧ ((cm s k e).1 = 1 → s = 1 ∨ s = 0) := by
  unfold cm cmOn cmBe gotS
  repeat' split
  all_goals first | omega | (simp only []; omega)
theorem sd_ig (s k : Int) (e : Bool) : ((sd s k e).2 = true ∨ (sd s k e).1 = s) ∧ ((sd s k e).1 = 1 → s = 1 ∨ s = 0) := by
  unfold sd sentS
  repeat' split
  all_goals first | omega | (simp only []; first | omega | (simp; omega) | simp)
theorem cm_pr (s : Int) (e : Bool) : cm s 2 e = (if 6 < s then (s, 1, 2) else (s, 0, 0)) := by unfold cm; simp
attribute [local irreducible] ftc cm sd
set_option maxRecDepth 100000 in
set_option maxHeartbeats 4000000 in
theorem ignored_law (s k : Int) (e : Bool) (hs : 0 ≤ s) {w : World} (hG : GlobE w) : Calls Tryd.prog 7 #[.int .u8 s, .int .u8 k, .bool e] w fun e w' => e = .returned (.bool true) ∧ Below w.heap.size w w' := by
  have HG := Lib.hid hG
  have HP := Lib.hid (fun (W : World) (h : GlobE W) => comeF_any s 2 e h)
  have HC := Lib.hid (fun (W : World) (h : GlobE W) => comeF_any s k e h)
  have HD := Lib.hid (fun W => send_any s k e W)
  have HI := Lib.hid (cm_ig s k e)
  have HJ := Lib.hid (sd_ig s k e)
  have HK := Lib.hid (cm_codes s k e)
  have HE := Lib.hid (cm_pr s e)
  have HS := Lib.hid hs
  rw [show cm s 2 e = _ from HE.out] at HP
  clear hG hs HE
  unfold SdP at HD
  unfold CmF at HC HP
  generalize cm s k e = p at *
  generalize sd s k e = q at *
  obtain ⟨t, a, b⟩ := p
  obtain ⟨u, ok⟩ := q
  obtain ⟨x, hx1, hx2, hx3⟩ := ft_nz a b HK.out
  have HX : Hid (x = true → t = s) := fun e => HI.out.1 (by have := HK.out; rcases this with ⟨h, _⟩ | h; (have h : a = 0 := h; subst h; rw [e] at hx2; exact absurd hx2 (by decide)); exact h)
  have HT : Hid (t = 1 → s = 1 ∨ s = 0) := HI.out.2
  have HU : Hid (u = 1 → s = 1 ∨ s = 0) := HJ.out.2
  have HV : Hid (ok = true ∨ u = s) := HJ.out.1
  clear HI HJ HK hx2 hx3
  have HX1 := Lib.hid hx1
  clear hx1
  have HQ : Hid (∃ a1 b1, (∀ W, GlobE W → Calls Tryd.prog 11 #[.int .u8 s, .int .u8 2, .bool e] W fun e w' => e = .returned (.tuple #[.int .u8 s, .agg (ftc a1 b1)]) ∧ Below W.heap.size W w') ∧ (6 < s ∨ s ≤ 6 ∧ a1 = 0 ∧ b1 = 0)) := by
    by_cases h6 : 6 < s
    · refine ⟨1, 2, fun W h => ?_, .inl h6⟩
      have := HP.out W h
      rw [if_pos h6] at this
      exact this
    · refine ⟨0, 0, fun W h => ?_, .inr ⟨by omega, rfl, rfl⟩⟩
      have := HP.out W h
      rw [if_neg h6] at this
      exact this
  clear HP
  obtain ⟨a1, b1, hp, hq⟩ := HQ.out
  have HP := Lib.hid hp
  have H6 := Lib.hid hq
  clear hp hq HQ
  go_enter Tryd.func7, Tryd.ntmps7
  go_wp2_with fail
  refine (HP.out _ HG.out).mono ?_
  rintro e' w1 ⟨rfl, hb1⟩
  have HB1 := Lib.hid hb1
  obtain ⟨w2, hw2, t1, t2, t3⟩ := one_fault w1 a1 b1
  have T1 := Lib.hid t1
  have T2 := Lib.hid t2
  have T7 := Lib.hid hw2
  have HB2 := Lib.hid (HB1.out.trans (t3.mono HB1.out.size))
  have HG2 := Lib.hid (HG.out.below HB2.out)
  clear hb1 t1 t2 t3 hw2 HB1 HP HG
  go_upto_region 2 with (refine wpList_sw (cs := ftc a1 b1) rfl _ _ rfl rfl rfl T1.out (ft_sz _ _ _ _) (ft_ok _ _) ?_)
  rw [T7.out]
  clear T1 T7
  generalize w1.heap.size = p1 at *
  go_frame
  go_cut [30] (fun v wx => v = .bool false ∧ wx = w2)
  case first =>
    have e1 : (s != s) = false := by simp
    rcases H6.out with h6 | ⟨h6, rfl, rfl⟩
    · have d6 : decide (s ≤ 6) = false := decide_eq_false (by omega)
      clear h6 H6
      go_wp2_with fail
      go_meet
      exact ⟨rfl, rfl⟩
    · have e2 := ft_n00
      clear H6
      go_wp2_with (refine wpList_ldg (by rfl) _ rfl rfl T2.out (ft_ok _ _) ?_)
      go_meet
      exact ⟨rfl, rfl⟩
  case rest =>
    obtain ⟨rfl, rfl⟩ := hcut
    clear T2 H6
    go_wp2_with fail
    refine (HC.out _ HG2.out).mono ?_
    rintro e' w3 ⟨rfl, hb1⟩
    have HB1 := Lib.hid (HB2.out.trans (hb1.mono HB2.out.size))
    obtain ⟨w4, hw4, t1, t2, t3⟩ := one_fault w3 a b
    have T1 := Lib.hid t1
    have T2 := Lib.hid t2
    have T7 := Lib.hid hw4
    have HB4 := Lib.hid (HB1.out.trans (t3.mono HB1.out.size))
    have HG4 := Lib.hid (HG2.out.below ((hb1.trans (t3.mono hb1.size))))
    clear hb1 t1 t2 t3 hw4 HB1 HB2 HG2 HC
    go_upto_region 5 with (refine wpList_sw (cs := ftc a b) rfl _ _ rfl rfl rfl T1.out (ft_sz _ _ _ _) (ft_ok _ _) ?_)
    rw [T7.out]
    clear T1 T7
    generalize w3.heap.size = p3 at *
    go_frame
    go_cut [57] (fun v wx => v = .bool false ∧ wx = w4)
    case first =>
      have hx1 := HX1.out
      have HTT : Hid ((t = 1 ∧ s = 1) ∨ (t = 1 ∧ s = 0) ∨ (t == 1) = false) := by
        by_cases h : t = 1
        · rcases HT.out h with h' | h'
          · exact .inl ⟨h, h'⟩
          · exact .inr (.inl ⟨h, h'⟩)
        · exact .inr (.inr (ne_f h))
      clear HT HU HV
      cases x
      · clear HX
        rcases HTT.out with ⟨rfl, rfl⟩ | ⟨rfl, rfl⟩ | et
        all_goals
          clear HTT
          go_wp2_with (refine wpList_ld rfl _ rfl rfl T2.out (ft_ok _ _) ?_)
          go_meet
          exact ⟨rfl, rfl⟩
      · obtain rfl := HX.out rfl
        have e1 : (t != t) = false := by simp
        clear HX
        rcases HTT.out with ⟨rfl, -⟩ | ⟨h1, h2⟩ | et
        · clear HTT
          go_wp2_with (refine wpList_ld rfl _ rfl rfl T2.out (ft_ok _ _) ?_)
          go_meet
          exact ⟨rfl, rfl⟩
        · exact absurd (h1.symm.trans h2) (by decide)
        · clear HTT
          go_wp2_with (refine wpList_ld rfl _ rfl rfl T2.out (ft_ok _ _) ?_)
          go_meet
          exact ⟨rfl, rfl⟩
    case rest =>
      obtain ⟨rfl, rfl⟩ := hcut
      clear T2 HX HT HX1
      go_wp2_with fail
      refine (HD.out _).mono ?_
      rintro e' w5 ⟨rfl, rfl⟩
      go_wp2_with fail
      refine (fixed_any HG4.out).mono ?_
      rintro e' w6 ⟨rfl, hb⟩
      have HB6 := Lib.hid (HB4.out.trans (hb.mono HB4.out.size))
      clear hb HB4 HG4 HD
      have HUU : Hid ((u = 1 ∧ s = 1) ∨ (u = 1 ∧ s = 0) ∨ (u != 1) = true) := by
        by_cases h : u = 1
        · rcases HU.out h with h' | h'
          · exact .inl ⟨h, h'⟩
          · exact .inr (.inl ⟨h, h'⟩)
        · exact .inr (.inr (bne_iff_ne.2 h))
      clear HU
      cases ok
      · obtain rfl : u = s := by have := HV.out; simpa using this
        have e1 : (u == u) = true := by simp
        rcases HUU.out with ⟨rfl, -⟩ | ⟨h1, h2⟩ | et
        · clear HUU HV
          go_wp2_with fail
          go_ret
          exact ⟨rfl, HB6.out⟩
        · exact absurd (h1.symm.trans h2) (by decide)
        · clear HUU HV
          go_wp2_with fail
          go_ret
          exact ⟨rfl, HB6.out⟩
      · clear HV
        rcases HUU.out with ⟨rfl, rfl⟩ | ⟨rfl, rfl⟩ | et
        all_goals
          clear HUU
          go_wp2_with fail
          go_ret
          exact ⟨rfl, HB6.out⟩
end Go.Proofs.YtngngebkecanmaaDoor
