/-
  The document's Head, by its contract. Conditions: how many bytes there may be.
-/
import Derived.Test.YtejlbgllfkfkfaaDoorIrm
namespace Go.Proofs.YtejlbgllfkfkfaaDoor
open Go.RowKit Go.WideShapes

/-- A head's cells. -/
def hdC (h : Hd) : Array Value := #[.int .i64 h.front, .int .i64 h.size, .int .i64 h.code, .bool h.short]
theorem hd_info : (Tryd.prog.info? 53).map (·.size) = some 4 := by kernel_rfl
theorem hd_ok (h : Hd) : AgOk Tryd.prog 53 (hdC h) := ⟨⟨_, Tryd.underlying53⟩, hd_info, by unfold hdC; kernel_rfl⟩
theorem hd_sz (h h' : Hd) : (hdC h).size = (hdC h').size := rfl
def RHeadP (h : Hd) (w : World) (e : Ending) (w' : World) : Prop := e = .returned (.agg (hdC h)) ∧ Below w.heap.size w w'
def hd0 : Hd := ⟨0, 0, 0, false⟩
theorem hd0_eq : (#[.int .i64 0, .int .i64 0, .int .i64 0, .bool false] : Array Value) = hdC hd0 := rfl
theorem txb_cons (b : UInt8) (r : List UInt8) : (txb (b :: r)).toList.isEmpty = false := by unfold txb; rw [ByteArray.toList_mk]; rfl
set_option maxRecDepth 100000 in
set_option maxHeartbeats 1000000 in
theorem rheadI_nil (m : Bool) (w : World) : Calls Tryd.prog 19 #[.string (txb []), .bool m] w (RHeadP hShort w) := by
  have HR0 := Lib.hid (Row.new w 53 (hdC hd0))
  have HB0 : Hid (Below w.heap.size w (w.alloc (.cells (hdC hd0) 53))) := (Below.refl _ _).alloc (Nat.le_refl _) _
  rw [txb_nil]
  go_enter Tryd.func19, Tryd.ntmps19
  go_wp2_with (refine wpList_sw (cs := hdC hShort) rfl _ _ rfl rfl (by unfold hdC; rfl) HR0.out (hd_sz _ _) (hd_ok _) ?_)
  exact bodyPost_ret (ret_ag (fn := Tryd.f19) rfl _ rfl (HR0.out.setRow _) (hd_ok _)) rfl ⟨rfl, below_setRow HB0.out _ _ (Nat.le_refl _)⟩
/-- What the first byte says. -/
theorem badFirst_eq {b : Nat} (_hb : b < 256) : decide (badFirst b) = (!decide (b / 16 % 8 = 0) || !decide (okOp (b % 16)) || (decide (7 < b % 16) && decide (b < 128))) := by
  rw [Bool.eq_iff_iff, decide_eq_true_iff]
  unfold badFirst
  simp only [Bool.or_eq_true, Bool.and_eq_true, Bool.not_eq_true', decide_eq_true_iff, decide_eq_false_iff_not, ne_eq, or_assoc]
set_option maxRecDepth 100000 in
set_option maxHeartbeats 1000000 in
theorem rheadI_one (b : UInt8) (m : Bool) (w : World) : Calls Tryd.prog 19 #[.string (txb [b]), .bool m] w (RHeadP (hdI m [b]) w) := by
  have HR0 := Lib.hid (Row.new w 53 (hdC hd0))
  have HB0 : Hid (Below w.heap.size w (w.alloc (.cells (hdC hd0) 53))) := (Below.refl _ _).alloc (Nat.le_refl _) _
  have ht := txb_cons b []
  have hsz : (txb [b]).size = 1 := txb_size [b]
  have hat : ∀ W, (Instr.index 9 (.string (txb [b])) (.int .i64 0)).run Tryd.prog W = .ok (.int .u8 (b.toNat : Int)) W := fun W => txb_at [b] 0 (by simp) W
  have hkn := rknownI_any (b.toNat % 16)
  obtain ⟨h, hd⟩ : ∃ h, h = hdI m [b] := ⟨_, rfl⟩
  rw [← hd]
  have HH : Hid (h = if badFirst b.toNat then hBad 1002 else hShort) := by show _ = _; rw [hd]; rfl
  have hbf := badFirst_eq b.toNat_lt
  have q1 : (((b.toNat : Int) / 16 % 8) != 0) = !decide (b.toNat / 16 % 8 = 0) := by rw [Bool.eq_iff_iff]; simp; omega
  have q2 : decide ((7 : Int) < (b.toNat : Int) % 16) = decide (7 < b.toNat % 16) := by rw [decide_eq_decide]; omega
  have q3 : decide ((b.toNat : Int) < 128) = decide (b.toNat < 128) := by rw [decide_eq_decide]; omega
  have q4 : ((b.toNat % 16 : Nat) : Int) = (b.toNat : Int) % 16 := by omega
  rw [q4] at hkn
  generalize txb [b] = t at *
  generalize b.toNat = b at *
  clear hd
  have HR1 := Lib.hid HR0.out
  go_enter Tryd.func19, Tryd.ntmps19
  go_upto_region 4 with fail
  rw [hd0_eq]
  generalize w.alloc (.cells (hdC hd0) 53) = w1 at *
  obtain ⟨bf, hbd⟩ : ∃ bf, bf = decide (badFirst b) := ⟨_, rfl⟩
  rw [← hbd] at hbf
  go_cut [34] (fun v wx => v = .bool bf ∧ wx = w1)
  case first =>
    have HBF := Lib.hid hbf
    clear hbf hbd
    generalize decide (b / 16 % 8 = 0) = z1 at *
    generalize decide (okOp (b % 16)) = z2 at *
    generalize decide (7 < b % 16) = z3 at *
    generalize decide (b < 128) = z4 at *
    cases z1
    · go_wp2_with (go_at_call 22; refine (hkn _).mono ?_; rintro e w' ⟨rfl, rfl⟩)
      go_meet
      case rel => exact ⟨by rw [HBF.out]; rfl, rfl⟩
    cases z2
    · go_wp2_with (go_at_call 22; refine (hkn _).mono ?_; rintro e w' ⟨rfl, rfl⟩)
      go_meet
      case rel => exact ⟨by rw [HBF.out]; rfl, rfl⟩
    cases z3
    all_goals
      go_wp2_with (go_at_call 22; refine (hkn _).mono ?_; rintro e w' ⟨rfl, rfl⟩)
      go_meet
      case rel => exact ⟨by rw [HBF.out]; rfl, rfl⟩
  case rest =>
    obtain ⟨rfl, rfl⟩ := hcut
    have hB := HB0.out
    by_cases hb : badFirst b
    · have e : h = hBad 1002 := by rw [HH.out, if_pos hb]
      have HE := Lib.hid e
      rw [decide_eq_true hb] at hbd
      subst hbd
      clear hbf hb e
      go_wp2_with (refine wpList_sw (cs := hdC (hBad 1002)) rfl _ _ rfl rfl (by unfold hdC; rfl) HR1.out (hd_sz _ _) (hd_ok _) ?_)
      rw [HE.out]
      exact bodyPost_ret (ret_ag (fn := Tryd.f19) rfl _ rfl (HR1.out.setRow _) (hd_ok _)) rfl ⟨rfl, below_setRow hB _ _ (Nat.le_refl _)⟩
    · have e : h = hShort := by rw [HH.out, if_neg hb]
      have HE := Lib.hid e
      rw [decide_eq_false hb] at hbd
      subst hbd
      clear hbf hb e
      go_wp2_with (refine wpList_sw (cs := hdC hShort) rfl _ _ rfl rfl (by unfold hdC; rfl) HR1.out (hd_sz _ _) (hd_ok _) ?_)
      rw [HE.out]
      exact bodyPost_ret (ret_ag (fn := Tryd.f19) rfl _ rfl (HR1.out.setRow _) (hd_ok _)) rfl ⟨rfl, below_setRow hB _ _ (Nat.le_refl _)⟩
theorem valL_four {a b : List UInt8} (h : b.length = 4) : valL (a ++ b) = valL a * 4294967296 + valL b := by
  match b, h with
  | [w, x, y, z], _ =>
    rw [show a ++ [w, x, y, z] = (((a ++ [w]) ++ [x]) ++ [y]) ++ [z] by simp, valL_snoc, valL_snoc, valL_snoc, valL_snoc]
    simp only [valL, List.foldl_cons, List.foldl_nil]
    omega
theorem badSecond_eq (b s : Nat) (m : Bool) : decide (badSecond b s m) = ((decide (127 < s) != m) || (decide (7 < b % 16) && decide (125 < s % 128))) := by
  rw [Bool.eq_iff_iff, decide_eq_true_iff]
  unfold badSecond
  simp
set_option maxRecDepth 100000 in
set_option maxHeartbeats 8000000 in
theorem rheadI_two (b s : UInt8) (r : List UInt8) (hl : r.length ≤ 900000) (m : Bool) (w : World) : Calls Tryd.prog 19 #[.string (txb (b :: s :: r)), .bool m] w (RHeadP (hdI m (b :: s :: r)) w) := by
  have HR0 := Lib.hid (Row.new w 53 (hdC hd0))
  have HB0 : Hid (Below w.heap.size w (w.alloc (.cells (hdC hd0) 53))) := (Below.refl _ _).alloc (Nat.le_refl _) _
  have ht := txb_cons b (s :: r)
  have hsz : (txb (b :: s :: r)).size = r.length + 2 := txb_size (b :: s :: r)
  have hat : ∀ W, (Instr.index 9 (.string (txb (b :: s :: r))) (.int .i64 0)).run Tryd.prog W = .ok (.int .u8 (b.toNat : Int)) W := fun W => txb_at (b :: s :: r) 0 (by simp) W
  have hat1 : ∀ W, (Instr.index 9 (.string (txb (b :: s :: r))) (.int .i64 1)).run Tryd.prog W = .ok (.int .u8 (s.toNat : Int)) W := fun W => txb_at (b :: s :: r) 1 (by simp) W
  have HCUT : Hid (∀ (i j : Int) (h0 : 2 ≤ i) (hij : i ≤ j) (hj : j ≤ (r.length : Int) + 2) (W : World), (Instr.slice 9 (.string (txb (b :: s :: r))) (some (.int .i64 i)) (some (.int .i64 j)) none).run Tryd.prog W = .ok (.string (txb ((r.drop (i.toNat - 2)).take (j.toNat - i.toNat)))) W) := fun i j h0 hij hj W => by
    rw [txb_cut (b :: s :: r) i j (by omega) hij (by simp; omega) W]
    obtain ⟨k, rfl⟩ : ∃ k : Nat, i = (k : Int) + 2 := ⟨(i - 2).toNat, by omega⟩
    rw [show ((k : Int) + 2).toNat = k + 2 by omega, Nat.add_sub_cancel]
    rfl
  have hkn := rknownI_any (b.toNat % 16)
  obtain ⟨h, hd⟩ : ∃ h, h = hdI m (b :: s :: r) := ⟨_, rfl⟩
  rw [← hd]
  have HH : Hid (h = if badFirst b.toNat ∨ badSecond b.toNat s.toNat m then hBad 1002 else lenH m (s.toNat % 128) r) := by show _ = _; rw [hd]; rfl
  have hbs := badSecond_eq b.toNat s.toNat m
  have hs256 := s.toNat_lt
  have hbf := badFirst_eq b.toNat_lt
  have q1 : (((b.toNat : Int) / 16 % 8) != 0) = !decide (b.toNat / 16 % 8 = 0) := by rw [Bool.eq_iff_iff]; simp; omega
  have q2 : decide ((7 : Int) < (b.toNat : Int) % 16) = decide (7 < b.toNat % 16) := by rw [decide_eq_decide]; omega
  have q3 : decide ((b.toNat : Int) < 128) = decide (b.toNat < 128) := by rw [decide_eq_decide]; omega
  have q4 : ((b.toNat % 16 : Nat) : Int) = (b.toNat : Int) % 16 := by omega
  rw [q4] at hkn
  have q5 : decide ((127 : Int) < (s.toNat : Int)) = decide (127 < s.toNat) := by rw [decide_eq_decide]; omega
  have q6 : decide ((125 : Int) < (s.toNat : Int) % 128) = decide (125 < s.toNat % 128) := by rw [decide_eq_decide]; omega
  generalize txb (b :: s :: r) = t at *
  generalize b.toNat = b at *
  generalize s.toNat = s at *
  clear hd
  have HR1 := Lib.hid HR0.out
  go_enter Tryd.func19, Tryd.ntmps19
  go_upto_region 4 with fail
  rw [hd0_eq]
  generalize w.alloc (.cells (hdC hd0) 53) = w1 at *
  obtain ⟨bf, hbd⟩ : ∃ bf, bf = decide (badFirst b) := ⟨_, rfl⟩
  rw [← hbd] at hbf
  go_cut [34] (fun v wx => v = .bool bf ∧ wx = w1)
  case first =>
    have HBF := Lib.hid hbf
    clear hbf hbd
    generalize decide (b / 16 % 8 = 0) = z1 at *
    generalize decide (okOp (b % 16)) = z2 at *
    generalize decide (7 < b % 16) = z3 at *
    generalize decide (b < 128) = z4 at *
    cases z1
    · go_wp2_with (go_at_call 22; refine (hkn _).mono ?_; rintro e w' ⟨rfl, rfl⟩)
      go_meet
      case rel => exact ⟨by rw [HBF.out]; rfl, rfl⟩
    cases z2
    · go_wp2_with (go_at_call 22; refine (hkn _).mono ?_; rintro e w' ⟨rfl, rfl⟩)
      go_meet
      case rel => exact ⟨by rw [HBF.out]; rfl, rfl⟩
    cases z3
    all_goals
      go_wp2_with (go_at_call 22; refine (hkn _).mono ?_; rintro e w' ⟨rfl, rfl⟩)
      go_meet
      case rel => exact ⟨by rw [HBF.out]; rfl, rfl⟩
  case rest =>
    obtain ⟨rfl, rfl⟩ := hcut
    have hB := HB0.out
    by_cases hb : badFirst b
    · have e : h = hBad 1002 := by rw [HH.out, if_pos (.inl hb)]
      have HE := Lib.hid e
      rw [decide_eq_true hb] at hbd
      subst hbd
      clear hbf hb e
      go_wp2_with (refine wpList_sw (cs := hdC (hBad 1002)) rfl _ _ rfl rfl (by unfold hdC; rfl) HR1.out (hd_sz _ _) (hd_ok _) ?_)
      rw [HE.out]
      exact bodyPost_ret (ret_ag (fn := Tryd.f19) rfl _ rfl (HR1.out.setRow _) (hd_ok _)) rfl ⟨rfl, below_setRow hB _ _ (Nat.le_refl _)⟩
    rw [decide_eq_false hb] at hbd
    subst hbd
    clear hbf hkn
    have hs2 : decide ((r.length : Int) + 2 < 2) = false := by simp; omega
    go_upto_region 9 with fail
    obtain ⟨bs, hbsd⟩ : ∃ bs, bs = decide (badSecond b s m) := ⟨_, rfl⟩
    rw [← hbsd] at hbs
    go_cut [56] (fun v wx => v = .bool bs ∧ wx = wc)
    case first =>
      have HBS := Lib.hid hbs
      clear hbs hbsd
      generalize decide (127 < s) = z1 at *
      generalize decide (7 < b % 16) = z3 at *
      generalize decide (125 < s % 128) = z4 at *
      cases z1
      all_goals cases m
      all_goals cases z3
      all_goals
        go_wp2_with fail
        go_meet
        case rel => exact ⟨by rw [HBS.out]; rfl, rfl⟩
    case rest =>
      obtain ⟨rfl, rfl⟩ := hcut
      by_cases hb2 : badSecond b s m
      · have e : h = hBad 1002 := by rw [HH.out, if_pos (.inr hb2)]
        have HE := Lib.hid e
        rw [decide_eq_true hb2] at hbsd
        subst hbsd
        clear hbs hb2 e
        go_wp2_with (refine wpList_sw (cs := hdC (hBad 1002)) rfl _ _ rfl rfl (by unfold hdC; rfl) HR1.out (hd_sz _ _) (hd_ok _) ?_)
        rw [HE.out]
        exact bodyPost_ret (ret_ag (fn := Tryd.f19) rfl _ rfl (HR1.out.setRow _) (hd_ok _)) rfl ⟨rfl, below_setRow HB0.out _ _ (Nat.le_refl _)⟩
      have e0 : h = lenH m (s % 128) r := by rw [HH.out, if_neg (by rintro (x | x); exact hb x; exact hb2 x)]
      rw [decide_eq_false hb2] at hbsd
      subst hbsd
      have HE0 := Lib.hid e0
      clear hbs hb2 hb HH e0 q1 q2 q3 q4 q5 q6 hat hat1 ht
      obtain ⟨k, hk⟩ : ∃ k, k = s % 128 := ⟨_, rfl⟩
      have hks : (s : Int) % 128 = (k : Int) := by omega
      have hk128 : k < 128 := by omega
      rw [← hk] at HE0
      rw [hks]
      clear hk hks hs256
      by_cases h126 : k = 126
      · subst h126
        by_cases hr : r.length < 2
        · have e : h = hShort := by rw [HE0.out]; unfold lenH; rw [if_pos rfl, if_pos hr]
          have HE := Lib.hid e
          have hq : decide ((r.length : Int) + 2 < 4) = true := by simp; omega
          clear e hr
          go_wp2_with (refine wpList_sw (cs := hdC hShort) rfl _ _ rfl rfl (by unfold hdC; rfl) HR1.out (hd_sz _ _) (hd_ok _) ?_)
          rw [HE.out]
          exact bodyPost_ret (ret_ag (fn := Tryd.f19) rfl _ rfl (HR1.out.setRow _) (hd_ok _)) rfl ⟨rfl, below_setRow HB0.out _ _ (Nat.le_refl _)⟩
        have hq : decide ((r.length : Int) + 2 < 4) = false := by simp; omega
        have hcu := HCUT.out 2 4 (by omega) (by omega) (by omega)
        have hva := ivalue_any (r.take 2) (by rw [List.length_take]; omega)
        have hcu2 : ∀ W, (Instr.slice 9 (.string t) (some (.int .i64 2)) (some (.int .i64 4)) none).run Tryd.prog W = .ok (.string (txb (r.take 2))) W := fun W => hcu W
        have hl2 : (r.take 2).length = 2 := by rw [List.length_take]; omega
        have hvl : valL (r.take 2) < 65536 := valL_lt' hl2
        have HE1 : Hid (h = if valL (r.take 2) < 126 then hBad 1002 else if 4096 < valL (r.take 2) then hBad 1009 else ⟨4 + four4 m, valL (r.take 2), 0, false⟩) := by show _ = _; rw [HE0.out]; unfold lenH; rw [if_pos rfl, if_neg hr]
        clear hcu hl2 hr HE0
        generalize valL (r.take 2) = v at *
        generalize txb (r.take 2) = t2 at *
        by_cases h1 : v < 126
        · have e : h = hBad 1002 := by rw [HE1.out, if_pos h1]
          have HE := Lib.hid e
          have hq1 : (v : Int) < 126 := by omega
          clear e h1 HE1
          go_wp2_with (first | (go_at_call 31; refine (hva _).mono ?_; rintro e w' ⟨rfl, rfl⟩) | (refine wpList_sw (cs := hdC (hBad 1002)) rfl _ _ rfl rfl (by unfold hdC; rfl) HR1.out (hd_sz _ _) (hd_ok _) ?_))
          rw [HE.out]
          exact bodyPost_ret (ret_ag (fn := Tryd.f19) rfl _ rfl (HR1.out.setRow _) (hd_ok _)) rfl ⟨rfl, below_setRow HB0.out _ _ (Nat.le_refl _)⟩
        have hq1 : ¬ (v : Int) < 126 := by omega
        by_cases h2 : 4096 < v
        · have e : h = hBad 1009 := by rw [HE1.out, if_neg h1, if_pos h2]
          have HE := Lib.hid e
          have hq2 : (4096 : Int) < (v : Int) := by omega
          clear e h1 h2 HE1
          go_wp2_with (first | (go_at_call 31; refine (hva _).mono ?_; rintro e w' ⟨rfl, rfl⟩) | (refine wpList_sw (cs := hdC (hBad 1009)) rfl _ _ rfl rfl (by unfold hdC; rfl) HR1.out (hd_sz _ _) (hd_ok _) ?_))
          rw [HE.out]
          exact bodyPost_ret (ret_ag (fn := Tryd.f19) rfl _ rfl (HR1.out.setRow _) (hd_ok _)) rfl ⟨rfl, below_setRow HB0.out _ _ (Nat.le_refl _)⟩
        have hq2 : ¬ (4096 : Int) < (v : Int) := by omega
        have e : h = ⟨4 + four4 m, v, 0, false⟩ := by rw [HE1.out, if_neg h1, if_neg h2]
        have HE := Lib.hid e
        clear e h1 h2 HE1
        cases m
        · go_wp2_with (first | (go_at_call 31; refine (hva _).mono ?_; rintro e w' ⟨rfl, rfl⟩) | (refine wpList_sw (cs := hdC ⟨4, v, 0, false⟩) rfl _ _ rfl rfl (by unfold hdC; rfl) HR1.out (hd_sz _ _) (hd_ok _) ?_))
          rw [HE.out]
          exact bodyPost_ret (ret_ag (fn := Tryd.f19) rfl _ rfl (HR1.out.setRow _) (hd_ok _)) rfl ⟨rfl, below_setRow HB0.out _ _ (Nat.le_refl _)⟩
        · go_wp2_with (first | (go_at_call 31; refine (hva _).mono ?_; rintro e w' ⟨rfl, rfl⟩) | (refine wpList_sw (cs := hdC ⟨8, v, 0, false⟩) rfl _ _ rfl rfl (by unfold hdC; rfl) HR1.out (hd_sz _ _) (hd_ok _) ?_))
          rw [HE.out]
          exact bodyPost_ret (ret_ag (fn := Tryd.f19) rfl _ rfl (HR1.out.setRow _) (hd_ok _)) rfl ⟨rfl, below_setRow HB0.out _ _ (Nat.le_refl _)⟩
      have n126 : ((k : Int) == 126) = false := beq_eq_false_iff_ne.2 (by omega)
      by_cases h127 : k = 127
      · subst h127
        clear n126
        by_cases hr : r.length < 8
        · have e : h = hShort := by rw [HE0.out]; unfold lenH; rw [if_neg (by omega), if_pos rfl, if_pos hr]
          have HE := Lib.hid e
          have hq : decide ((r.length : Int) + 2 < 10) = true := by simp; omega
          clear e hr
          go_wp2_with (refine wpList_sw (cs := hdC hShort) rfl _ _ rfl rfl (by unfold hdC; rfl) HR1.out (hd_sz _ _) (hd_ok _) ?_)
          rw [HE.out]
          exact bodyPost_ret (ret_ag (fn := Tryd.f19) rfl _ rfl (HR1.out.setRow _) (hd_ok _)) rfl ⟨rfl, below_setRow HB0.out _ _ (Nat.le_refl _)⟩
        have hq : decide ((r.length : Int) + 2 < 10) = false := by simp; omega
        have hcu := HCUT.out 2 6 (by omega) (by omega) (by omega)
        have hcv := HCUT.out 6 10 (by omega) (by omega) (by omega)
        have hva := ivalue_any (r.take 4) (by rw [List.length_take]; omega)
        have hvb := ivalue_any ((r.drop 4).take 4) (by rw [List.length_take]; omega)
        have hcu2 : ∀ W, (Instr.slice 9 (.string t) (some (.int .i64 2)) (some (.int .i64 6)) none).run Tryd.prog W = .ok (.string (txb (r.take 4))) W := fun W => hcu W
        have hcv2 : ∀ W, (Instr.slice 9 (.string t) (some (.int .i64 6)) (some (.int .i64 10)) none).run Tryd.prog W = .ok (.string (txb ((r.drop 4).take 4))) W := fun W => hcv W
        have hl4 : (r.take 4).length = 4 := by rw [List.length_take]; omega
        have hl5 : ((r.drop 4).take 4).length = 4 := by rw [List.length_take, List.length_drop]; omega
        have hvl : valL (r.take 4) < 4294967296 := valL_lt' hl4
        have hvm : valL ((r.drop 4).take 4) < 4294967296 := valL_lt' hl5
        have h8 : r.take 8 = r.take 4 ++ (r.drop 4).take 4 := by rw [← List.take_add]
        have hv8 : valL (r.take 8) = valL (r.take 4) * 4294967296 + valL ((r.drop 4).take 4) := by rw [h8]; exact valL_four hl5
        have HE1 : Hid (h = if valL (r.take 4) * 4294967296 + valL ((r.drop 4).take 4) < 65536 ∨ 9223372036854775808 ≤ valL (r.take 4) * 4294967296 + valL ((r.drop 4).take 4) then hBad 1002 else hBad 1009) := by show _ = _; rw [HE0.out]; unfold lenH; rw [if_neg (by omega), if_pos rfl, if_neg hr, hv8]
        clear hcu hcv hl4 hl5 h8 hv8 hr HE0 HCUT
        generalize valL (r.take 4) = v at *
        generalize valL ((r.drop 4).take 4) = u at *
        generalize txb (r.take 4) = t2 at *
        generalize txb ((r.drop 4).take 4) = t3 at *
        go_upto_region 23 with (go_at_call 31; refine (hva _).mono ?_; rintro e w' ⟨rfl, rfl⟩)
        clear hva hcu2
        go_upto_region 24 with (go_at_call 31; refine (hvb _).mono ?_; rintro e w' ⟨rfl, rfl⟩)
        clear hvb hcv2 hq
        by_cases hz : v = 0
        · subst hz
          by_cases h1 : u < 65536
          · have e : h = hBad 1002 := by rw [HE1.out, if_pos (.inl (by omega))]
            have HE := Lib.hid e
            have hq1 : decide ((u : Int) < 65536) = true := by simp; omega
            clear e h1 HE1
            go_wp2_with (refine wpList_sw (cs := hdC (hBad 1002)) rfl _ _ rfl rfl (by unfold hdC; rfl) HR1.out (hd_sz _ _) (hd_ok _) ?_)
            rw [HE.out]
            exact bodyPost_ret (ret_ag (fn := Tryd.f19) rfl _ rfl (HR1.out.setRow _) (hd_ok _)) rfl ⟨rfl, below_setRow HB0.out _ _ (Nat.le_refl _)⟩
          have e : h = hBad 1009 := by rw [HE1.out, if_neg (by omega)]
          have HE := Lib.hid e
          have hq1 : decide ((u : Int) < 65536) = false := by simp; omega
          clear e h1 HE1
          go_wp2_with (refine wpList_sw (cs := hdC (hBad 1009)) rfl _ _ rfl rfl (by unfold hdC; rfl) HR1.out (hd_sz _ _) (hd_ok _) ?_)
          rw [HE.out]
          exact bodyPost_ret (ret_ag (fn := Tryd.f19) rfl _ rfl (HR1.out.setRow _) (hd_ok _)) rfl ⟨rfl, below_setRow HB0.out _ _ (Nat.le_refl _)⟩
        have hz0 : ((v : Int) == 0) = false := beq_eq_false_iff_ne.2 (by omega)
        by_cases h1 : 2147483647 < v
        · have e : h = hBad 1002 := by rw [HE1.out, if_pos (.inr (by omega))]
          have HE := Lib.hid e
          have hq1 : decide ((2147483647 : Int) < (v : Int)) = true := by simp; omega
          clear e h1 HE1 hz
          go_wp2_with (refine wpList_sw (cs := hdC (hBad 1002)) rfl _ _ rfl rfl (by unfold hdC; rfl) HR1.out (hd_sz _ _) (hd_ok _) ?_)
          rw [HE.out]
          exact bodyPost_ret (ret_ag (fn := Tryd.f19) rfl _ rfl (HR1.out.setRow _) (hd_ok _)) rfl ⟨rfl, below_setRow HB0.out _ _ (Nat.le_refl _)⟩
        have e : h = hBad 1009 := by rw [HE1.out, if_neg (by omega)]
        have HE := Lib.hid e
        have hq1 : decide ((2147483647 : Int) < (v : Int)) = false := by simp; omega
        clear e h1 HE1 hz
        go_wp2_with (refine wpList_sw (cs := hdC (hBad 1009)) rfl _ _ rfl rfl (by unfold hdC; rfl) HR1.out (hd_sz _ _) (hd_ok _) ?_)
        rw [HE.out]
        exact bodyPost_ret (ret_ag (fn := Tryd.f19) rfl _ rfl (HR1.out.setRow _) (hd_ok _)) rfl ⟨rfl, below_setRow HB0.out _ _ (Nat.le_refl _)⟩
      have n127 : ((k : Int) == 127) = false := beq_eq_false_iff_ne.2 (by omega)
      have e : h = ⟨2 + four4 m, k, 0, false⟩ := by rw [HE0.out]; unfold lenH; rw [if_neg h126, if_neg h127]
      have HE := Lib.hid e
      have hq2 : ¬ (4096 : Int) < (k : Int) := by omega
      clear e HE0 h126 h127
      cases m
      · go_wp2_with (refine wpList_sw (cs := hdC ⟨2, k, 0, false⟩) rfl _ _ rfl rfl (by unfold hdC; rfl) HR1.out (hd_sz _ _) (hd_ok _) ?_)
        rw [HE.out]
        exact bodyPost_ret (ret_ag (fn := Tryd.f19) rfl _ rfl (HR1.out.setRow _) (hd_ok _)) rfl ⟨rfl, below_setRow HB0.out _ _ (Nat.le_refl _)⟩
      · go_wp2_with (refine wpList_sw (cs := hdC ⟨6, k, 0, false⟩) rfl _ _ rfl rfl (by unfold hdC; rfl) HR1.out (hd_sz _ _) (hd_ok _) ?_)
        rw [HE.out]
        exact bodyPost_ret (ret_ag (fn := Tryd.f19) rfl _ rfl (HR1.out.setRow _) (hd_ok _)) rfl ⟨rfl, below_setRow HB0.out _ _ (Nat.le_refl _)⟩
theorem rheadI_any (l : List UInt8) (hl : l.length ≤ 900000) (m : Bool) (w : World) : Calls Tryd.prog 19 #[.string (txb l), .bool m] w (RHeadP (hdI m l) w) := by
  match l, hl with
  | [], _ => exact rheadI_nil m w
  | [b], _ => exact rheadI_one b m w
  | b :: s :: r, hl => exact rheadI_two b s r (by simp at hl; omega) m w
end Go.Proofs.YtejlbgllfkfkfaaDoor
