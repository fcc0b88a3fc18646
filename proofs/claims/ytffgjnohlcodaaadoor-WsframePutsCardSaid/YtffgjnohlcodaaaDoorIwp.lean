/-
  WsframePuts: the law's walk. Conditions: errors.errorType holds what the program's text lays.
-/
import Derived.Test.YtffgjnohlcodaaaDoorIba
import Derived.Test.YtffgjnohlcodaaaDoorIeq
import Derived.Test.YtffgjnohlcodaaaDoorIfx
import Derived.Test.YtffgjnohlcodaaaDoorIrm
import Derived.Test.YtffgjnohlcodaaaDoorIge
import Derived.Test.YtffgjnohlcodaaaDoorIrp
import Derived.Test.YtffgjnohlcodaaaDoorIsa
import Derived.Orders
namespace Go.Proofs.YtffgjnohlcodaaaDoor
open Go.RowKit Go.WideShapes

theorem mayI_small {p : Pc} (h : p.May) : p.put.length ≤ 9000 := by
  have hn : p.dat.length ≤ 4096 := h.2.2.1
  rw [put_length hn]
  have : frontI p.mask p.dat.length ≤ 14 := by
    unfold frontI four4 behindN
    repeat' split
    all_goals omega
  omega
set_option maxRecDepth 100000 in
set_option maxHeartbeats 4000000 in
theorem wputs_law {p : Pc} (hop : p.op < 256) (hkey : p.key < 4294967296) {m : Bool} {A : Option Addr} {c : Nat} {w : World} (hr : RdB w w.heap.size A p.dat) (hG : GlobE w) :
    Calls Tryd.prog 3 #[.agg (pcC p.fin p.op p.mask p.key A p.dat.length c), .bool m] w fun e w' => e = .returned (.bool true) ∧ Below w.heap.size w w' := by
  obtain ⟨fin, op, mask, key, dat⟩ := p
  simp only at hop hkey hr ⊢
  have HB0 : Hid (Below w.heap.size w (w.alloc (.cells (pcC fin op mask key A dat.length c) 25))) := (Below.refl _ _).alloc (Nat.le_refl _) _
  have HR0 := Lib.hid (Row.new w 25 (pcC fin op mask key A dat.length c))
  have HD0 := Lib.hid (hr.below HB0.out)
  have HGw := Lib.hid hG
  obtain ⟨c0, c1, c2, c3, c4⟩ := pc_cells HR0.out
  clear hr hG
  by_cases hl : 9000 < dat.length
  · have h1 : (9000 : Int) < (dat.length : Int) := by omega
    clear hl
    go_enter Tryd.func3, Tryd.ntmps3
    go_wp2_with fail
    refine (fixed16_any _).mono ?_
    rintro e w1 ⟨rfl, hb1⟩
    go_wp2_with fail
    go_ret
    exact ⟨rfl, HB0.out.trans (hb1.mono HB0.out.size)⟩
  have h1 : ¬ (9000 : Int) < (dat.length : Int) := by omega
  go_enter Tryd.func3, Tryd.ntmps3
  go_upto_region 3 with fail
  clear c0 c1 c2 c3 c4
  generalize w.alloc (.cells (pcC fin op mask key A dat.length c) 25) = w1 at *
  obtain ⟨p0, hp⟩ : ∃ p0, p0 = w.heap.size := ⟨_, rfl⟩
  have HPP : Hid (w.heap.size = p0) := hp.symm
  simp only [← hp] at HR0 HD0 ⊢
  clear hp
  have hs1 : p0 ≤ w1.heap.size := Nat.le_of_lt HR0.out.lt
  have hpx := iput_any (Pc.mk fin op mask key dat) hop hkey (c := c) HD0.out hs1 (show dat.length ≤ 1000000 by omega)
  simp only at hpx
  obtain ⟨L, hL⟩ : ∃ L, L = (Pc.mk fin op mask key dat).putL := ⟨_, rfl⟩
  rw [← hL] at hpx
  have HL := Lib.hid hL
  clear hL
  have hma := imay_any fin op mask key A dat.length c
  have hrm := rmayI_any fin op mask key A dat.length c
  obtain ⟨mb, hmb⟩ : ∃ mb, mb = decide (MayI fin op mask key dat.length) := ⟨_, rfl⟩
  rw [← hmb] at hma hrm
  go_upto_region 4 with (first
    | (refine wpList_ld rfl _ rfl rfl HR0.out (pc_ok _ _ _ _ _ _ _) ?_)
    | (go_at_call 9; refine hpx.mono ?_; rintro e w2 ⟨Ax, cx, rfl, hOx, hb2⟩))
  have hcx : L.length ≤ cx := by
    obtain ⟨A', c2, e1, h2, _⟩ := hOx.shape
    injection e1 with _ _ e3
    rw [e3]; exact h2
  have HRX := Lib.hid (RdB.ownI hOx)
  have HR2 := Lib.hid (HR0.out.below hb2 HR0.out.lt)
  have HD2 := Lib.hid (HD0.out.below (hb2.mono hs1))
  have HB2 := Lib.hid (HB0.out.trans (hb2.mono HB0.out.size))
  clear hOx hb2 hpx HR0 HD0 HB0 hs1
  have hmm : (mb != mb) = false := by simp
  go_cut [20] (fun v wx => v = .bool false ∧ Hid (Below w2.heap.size w2 wx))
  case first =>
    have hld : Row w2.drew p0 25 (pcC fin op mask key A dat.length c) := HR2.out
    have HBd : Hid (Below w2.heap.size w2 w2.drew) := (Below.refl _ _).drew
    refine wp_region_held_drew (S := fun w' => Row w' p0 25 (pcC fin op mask key A dat.length c)) (by kernel_rfl) hld (fun hHeld => ?_)
    refine wpAnyH_take (i := 0) (v := _) rfl (by kernel_rfl) (by kernel_rfl) (by kernel_rfl) (fun _ _ _ h => h) (yields_ld (by rfl) _ rfl rfl (pc_ok _ _ _ _ _ _ _) (fun _ hSw => hSw)) (by assumption) ?rest0w1
    try simp only [Act.put, List.getElem_toArray, List.getElem_cons_zero, List.setIfInBounds_toArray, List.set_cons_zero, List.set_cons_succ]
    refine wpAnyH_take (i := 2) (v := _) rfl (by kernel_rfl) (by kernel_rfl) (by kernel_rfl) (fun _ _ _ h => h) (yields_ld (by rfl) _ rfl rfl (pc_ok _ _ _ _ _ _ _) (fun _ hSw => hSw)) (by assumption) ?rest2w2
    try simp only [Act.put, List.getElem_toArray, List.getElem_cons_zero, List.getElem_cons_succ, List.setIfInBounds_toArray, List.set_cons_zero, List.set_cons_succ]
    refine wpAnyH_ready (rs := [1]) (by kernel_rfl) (by simp) ?_
    refine AllReadyH.cons rfl (fun K hK => ?_) AllReadyH.nil
    go_simp
    go_at_call 10
    refine (hma _).mono ?_
    rintro e w3 ⟨rfl, hb3⟩
    have HB3 := Lib.hid (HBd.out.trans (hb3.mono HBd.out.size))
    clear hb3 HBd hld
    have h3 : Row w3 p0 25 (pcC fin op mask key A dat.length c) := HR2.out.below HB3.out HR2.out.lt
    refine hK.out _ _ (h3) (fun hHeld => ?_)
    clear hK K
    try simp only [Act.put, List.getElem_toArray, List.getElem_cons_zero, List.getElem_cons_succ, List.setIfInBounds_toArray, List.set_cons_zero, List.set_cons_succ]
    refine wpAnyH_ready (rs := [3]) (by kernel_rfl) (by simp) ?_
    refine AllReadyH.cons rfl (fun K hK => ?_) AllReadyH.nil
    go_simp
    go_at_call 11
    refine (hrm _).mono ?_
    rintro e w4 ⟨rfl, hb4⟩
    have HB4 := Lib.hid (HB3.out.trans (hb4.mono HB3.out.size))
    clear hb4 HB3 h3
    have h4 : Row w4 p0 25 (pcC fin op mask key A dat.length c) := HR2.out.below HB4.out HR2.out.lt
    refine hK.out _ _ (h4) (fun hHeld => ?_)
    clear hK K
    try simp only [Act.put, List.getElem_toArray, List.getElem_cons_zero, List.getElem_cons_succ, List.setIfInBounds_toArray, List.set_cons_zero, List.set_cons_succ]
    refine wpAnyH_take (i := 4) (v := ?v4) rfl (by kernel_rfl) (by kernel_rfl) (by kernel_rfl) (fun _ _ _ h => h) (Or.inl ⟨by rfl, ?hy4⟩) (by assumption) ?rest4
    case hy4 => (intro w hSw; (try dsimp only at hSw); go_simp <;> with_reducible rfl)
    try simp only [Act.put, List.getElem_toArray, List.getElem_cons_zero, List.getElem_cons_succ, List.setIfInBounds_toArray, List.set_cons_zero, List.set_cons_succ]
    refine wpAnyH_done (by kernel_rfl) ?_ _
    go_wp2_with fail
    go_meet
    exact ⟨rfl, HB4.out⟩
  case rest =>
    obtain ⟨rfl, HBc⟩ := hcut
    have HRc := Lib.hid (HR2.out.below HBc.out HR2.out.lt)
    have HDc := Lib.hid (HD2.out.below (HBc.out.mono (Nat.le_of_lt HR2.out.lt)))
    have HXc := Lib.hid ((HRX.out.below HBc.out).more HBc.out.size)
    have HB5 := Lib.hid (HB2.out.trans (HBc.out.mono HB2.out.size))
    clear HRX HR2 HD2 HB2 HBc hma
    by_cases hm : MayI fin op mask key dat.length
    · rw [decide_eq_true hm] at hmb
      subst hmb
      have hmay : (Pc.mk fin op mask key dat).May := hm
      have e : L = (Pc.mk fin op mask key dat).put := by rw [HL.out]; exact if_pos hm
      have hl9 : L.length ≤ 9000 := by rw [e]; exact mayI_small hmay
      have HMAY := Lib.hid hmay
      have HLE := Lib.hid e
      clear e hm hmay hmm
      go_upto_region 8 with (first
        | (refine wpList_ld rfl _ rfl rfl HRc.out (pc_ok _ _ _ _ _ _ _) ?_)
        | (go_at_call 11; refine (hrm _).mono ?_; rintro e w6 ⟨rfl, hb6⟩))
      have HR6 := Lib.hid (HRc.out.below hb6 HRc.out.lt)
      have HD6 := Lib.hid (HDc.out.below (hb6.mono (Nat.le_of_lt HRc.out.lt)))
      have HX6 := Lib.hid ((HXc.out.below hb6).more hb6.size)
      have HB6 := Lib.hid (HB5.out.trans (hb6.mono HB5.out.size))
      clear hb6 HRc HDc HXc HB5 hrm
      have hpu := rputI_any (Pc.mk fin op mask key dat) HMAY.out hkey (c := c) HD6.out (Nat.le_of_lt HR6.out.lt)
      rw [← HLE.out] at hpu
      simp only at hpu
      go_upto_region 9 with (first
        | (refine wpList_ld rfl _ rfl rfl HR6.out (pc_ok _ _ _ _ _ _ _) ?_)
        | (go_at_call 12; refine hpu.mono ?_; rintro e w7 ⟨rfl, hb7⟩))
      have HR7 := Lib.hid (HR6.out.below hb7 HR6.out.lt)
      have HD7 := Lib.hid (HD6.out.below (hb7.mono (Nat.le_of_lt HR6.out.lt)))
      have HX7 := Lib.hid ((HX6.out.below hb7).more hb7.size)
      have HB7 := Lib.hid (HB6.out.trans (hb7.mono HB6.out.size))
      clear hb7 HR6 HD6 HX6 HB6 hpu
      have HG7 := Lib.hid (HGw.out.below HB7.out)
      have hgt := iget_any (c := cx) (m := m) HX7.out (Nat.le_refl _) (by omega) hcx HG7.out
      obtain ⟨q, hq⟩ : ∃ q, q = getI m L := ⟨_, rfl⟩
      rw [← hq] at hgt
      have HQ : Hid ((m ≠ mask ∧ q = (Pc.zero, 1002)) ∨ (m = mask ∧ q = (⟨fin, op, mask, key, dat⟩, 0))) := by
        show _ ∨ _
        by_cases h : m = mask
        · right; refine ⟨h, ?_⟩; rw [hq, HLE.out, h]; exact getI_put HMAY.out hkey
        · left; refine ⟨h, ?_⟩; rw [hq, HLE.out]; exact getI_other HMAY.out h
      clear hq
      obtain ⟨⟨qf, qo, qm, qk, qd⟩, qc⟩ := q
      have hgn : Calls Tryd.prog 13 #[.slice Ax L.length cx, .bool m] w7 fun e w' => ∃ A' c', e = .returned (.tuple #[.agg (pcC qf qo qm qk A' qd.length c'), .agg (ftI (scI qc) qc)]) ∧ RdB w' w'.heap.size A' qd ∧ Below w7.heap.size w7 w' := hgt.mono (by
        rintro e w' ⟨A', c', rfl, h1, _, h2⟩
        exact ⟨A', c', rfl, h1, h2⟩)
      clear hgt
      go_wp2_with fail
      refine hgn.mono ?_
      rintro e w9 ⟨Ac, cc, rfl, hrc, hb9⟩
      obtain ⟨w10, e10, r10, r11, hb10, hz10, s10, s11⟩ := varsI w9 (pcC qf qo qm qk Ac qd.length cc) (ftI (scI qc) qc) rfl rfl
      have hb := hb9.trans (hb10.mono hb9.size)
      have HRC := Lib.hid ((hrc.below hb10).more hb10.size)
      have HC1 := Lib.hid r10
      have HF1 := Lib.hid r11
      have HRa := Lib.hid (HR7.out.below hb HR7.out.lt)
      have HDa := Lib.hid (HD7.out.below (hb.mono (Nat.le_of_lt HR7.out.lt)))
      have HXa := Lib.hid ((HX7.out.below hb).more hb.size)
      have HBa := Lib.hid (HB7.out.trans (hb.mono HB7.out.size))
      go_upto_region 10 with (first
        | (refine wpList_sw (cs := pcC qf qo qm qk Ac qd.length cc) rfl _ _ rfl rfl rfl s10 (pc_sz _ _ _ _ _ _ _ _ _ _ _ _ _ _) (pc_ok _ _ _ _ _ _ _) ?_)
        | (refine wpList_sw (cs := ftI (scI qc) qc) rfl _ _ rfl rfl rfl s11 (ftI_sz _ _ _ _) (ftI_ok _ _) ?_))
      rw [pcC0_eq, ftI0_eq, e10]
      clear e10 r10 r11 s10 s11 hb10 hb9 hb hrc hgn HR7 HD7 HX7 HB7 hz10 HG7
      generalize w9.heap.size = p7 at *
      have htx := run_text (P := Tryd.prog) (c := cx) Tryd.underlying23 Tryd.underlying5 Tryd.underlying9 HXa.out
      rw [show ByteArray.mk L.toArray = txb L from rfl] at htx
      generalize txb L = tL at *
      have cm : w10.cell? ⟨p0, 2, none⟩ = some (.bool mask) := (pc_cells HRa.out).2.2.1
      rcases HQ.out with ⟨hne, hqe⟩ | ⟨hmeq, hqe⟩
      · have hmk : (!m == mask) = true := by
          revert hne
          cases m <;> cases mask <;> simp
        injection hqe with e1 e2
        subst e2
        clear e1 hne HQ
        go_upto_region 13 with fail
        have hld : Row w10.drew (p7 + 1) 31 (ftI (scI 1002) 1002) := HF1.out
        have HBd : Hid (Below w10.heap.size w10 w10.drew) := (Below.refl _ _).drew
        have hto := toldI_any 1002 (by omega)
        have hqf := fun W => ft_eqlI (scI 1002) 1002 W
        clear htx cm hmk
        refine wp_region_held_drew (S := fun w' => Row w' (p7 + 1) 31 (ftI (scI 1002) 1002)) (by kernel_rfl) hld (fun hHeld => ?_)
        refine wpAnyH_ready (rs := [0]) (by kernel_rfl) (by simp) ?_
        refine AllReadyH.cons rfl (fun K hK => ?_) AllReadyH.nil
        go_simp
        go_at_call 8
        refine (fixed16_any _).mono ?_
        rintro e w11 ⟨rfl, hb11⟩
        have HB11 := Lib.hid (HBd.out.trans (hb11.mono HBd.out.size))
        clear hb11 HBd hld
        have h11 : Row w11 (p7 + 1) 31 (ftI (scI 1002) 1002) := HF1.out.below HB11.out HF1.out.lt
        refine hK.out _ _ (h11) (fun hHeld => ?_)
        clear hK K
        try simp only [Act.put, List.getElem_toArray, List.getElem_cons_zero, List.getElem_cons_succ, List.setIfInBounds_toArray, List.set_cons_zero, List.set_cons_succ]
        refine wpAnyH_take (i := 1) (v := ?v1q4) rfl (by kernel_rfl) (by kernel_rfl) (by kernel_rfl) (fun _ _ _ h => h) (Or.inl ⟨by rfl, ?hy1q4⟩) (by assumption) ?rest1q4
        case hy1q4 => (intro w hSw; (try dsimp only at hSw); go_simp <;> with_reducible rfl)
        try simp only [Act.put, List.getElem_toArray, List.getElem_cons_zero, List.getElem_cons_succ, List.setIfInBounds_toArray, List.set_cons_zero, List.set_cons_succ]
        refine wpAnyH_take (i := 2) (v := _) rfl (by kernel_rfl) (by kernel_rfl) (by kernel_rfl) (fun _ _ _ h => h) (yields_ld (by rfl) _ rfl rfl (ftI_ok _ _) (fun _ hSw => hSw)) (by assumption) ?rest2w3
        try simp only [Act.put, List.getElem_toArray, List.getElem_cons_zero, List.getElem_cons_succ, List.setIfInBounds_toArray, List.set_cons_zero, List.set_cons_succ]
        refine wpAnyH_ready (rs := [3]) (by kernel_rfl) (by simp) ?_
        refine AllReadyH.cons rfl (fun K hK => ?_) AllReadyH.nil
        go_simp
        go_at_call 14
        refine (hto _).mono ?_
        rintro e w12 ⟨rfl, hb12⟩
        have HB12 := Lib.hid (HB11.out.trans (hb12.mono HB11.out.size))
        clear hb12 HB11 h11
        have h12 : Row w12 (p7 + 1) 31 (ftI (scI 1002) 1002) := HF1.out.below HB12.out HF1.out.lt
        refine hK.out _ _ (h12) (fun hHeld => ?_)
        clear hK K
        try simp only [Act.put, List.getElem_toArray, List.getElem_cons_zero, List.getElem_cons_succ, List.setIfInBounds_toArray, List.set_cons_zero, List.set_cons_succ]
        refine wpAnyH_take (i := 4) (v := ?v4q5) rfl (by kernel_rfl) (by kernel_rfl) (by kernel_rfl) (fun _ _ _ h => h) (Or.inl ⟨by rfl, ?hy4q5⟩) (by assumption) ?rest4q5
        case hy4q5 => (intro w hSw; (try dsimp only at hSw); go_simp <;> with_reducible rfl)
        try simp only [Act.put, List.getElem_toArray, List.getElem_cons_zero, List.getElem_cons_succ, List.setIfInBounds_toArray, List.set_cons_zero, List.set_cons_succ]
        refine wpAnyH_take (i := 5) (v := ?v5q5) rfl (by kernel_rfl) (by kernel_rfl) (by kernel_rfl) (fun _ _ _ h => h) (Or.inl ⟨by rfl, ?hy5q5⟩) (by assumption) ?rest5q5
        case hy5q5 => (intro w hSw; (try dsimp only at hSw); go_simp <;> with_reducible rfl)
        try simp only [Act.put, List.getElem_toArray, List.getElem_cons_zero, List.getElem_cons_succ, List.setIfInBounds_toArray, List.set_cons_zero, List.set_cons_succ]
        refine wpAnyH_take (i := 6) (v := ?v6q5) rfl (by kernel_rfl) (by kernel_rfl) (by kernel_rfl) (fun _ _ _ h => h) (Or.inl ⟨by rfl, ?hy6q5⟩) (by assumption) ?rest6q5
        case hy6q5 => (intro w hSw; (try dsimp only at hSw); go_simp <;> with_reducible rfl)
        try simp only [Act.put, List.getElem_toArray, List.getElem_cons_zero, List.getElem_cons_succ, List.setIfInBounds_toArray, List.set_cons_zero, List.set_cons_succ]
        refine wpAnyH_done (by kernel_rfl) ?_ _
        go_wp2_with fail
        go_ret
        exact ⟨rfl, HBa.out.trans (HB12.out.mono HBa.out.size)⟩
      · injection hqe with e1 e2
        injection e1 with e3 e4 e5 e6 e7
        replace e3 := e3.symm
        replace e4 := e4.symm
        replace e5 := e5.symm
        replace e6 := e6.symm
        replace e7 := e7.symm
        subst e2 e3 e4 e5 e6 e7
        have hmk : (!m == mask) = false := by rw [hmeq]; cases mask <;> rfl
        clear hmeq
        clear HQ
        go_upto_region 14 with fail
        clear htx cm hmk
        have hqf := fun W => ft_zeroI W
        go_wp2_with fail
        refine (fixed16_any _).mono ?_
        rintro e w11 ⟨rfl, hb11⟩
        have HF2 : Hid (Row w11 (p7 + 1) 31 (ftI 0 0)) := HF1.out.below hb11 HF1.out.lt
        have HC2 := Lib.hid (HC1.out.below hb11 HC1.out.lt)
        have HR2 := Lib.hid (HRa.out.below hb11 HRa.out.lt)
        have HB11 := Lib.hid (HBa.out.trans (hb11.mono HBa.out.size))
        have hsm := rsameI_any fin op mask key dat (c := c) (c' := cc) ((HDa.out.below (hb11.mono (Nat.le_of_lt HRa.out.lt))).more (Nat.le_trans (Nat.le_of_lt HRa.out.lt) hb11.size)) ((HRC.out.below hb11).more hb11.size) (Nat.le_refl _)
        clear hb11 HF1 HC1 HRa HDa HRC HXa HBa
        go_wp2_with (first
          | (refine wpList_ldg (by rfl) _ rfl rfl HF2.out (ftI_ok _ _) ?_)
          | (refine wpList_ldg (by rfl) _ rfl rfl HR2.out (pc_ok _ _ _ _ _ _ _) ?_)
          | (refine wpList_ldg (by rfl) _ rfl rfl HC2.out (pc_ok _ _ _ _ _ _ _) ?_)
          | (go_at_call 15; refine hsm.mono ?_; rintro e w12 ⟨rfl, hb12⟩))
        go_ret
        exact ⟨rfl, HB11.out.trans (hb12.mono HB11.out.size)⟩
    · rw [decide_eq_false hm] at hmb
      subst hmb
      have e : L = [] := by rw [HL.out]; exact if_neg hm
      subst e
      go_wp2_with (first
        | (refine wpList_ld rfl _ rfl rfl HRc.out (pc_ok _ _ _ _ _ _ _) ?_)
        | (go_at_call 11; refine (hrm _).mono ?_; rintro e w6 ⟨rfl, hb6⟩)
        | (go_at_call 8; refine (fixed16_any _).mono ?_; rintro e w7 ⟨rfl, hb7⟩))
      go_ret
      exact ⟨rfl, (HB5.out.trans (hb6.mono HB5.out.size)).trans (hb7.mono (Nat.le_trans HB5.out.size hb6.size))⟩
end Go.Proofs.YtffgjnohlcodaaaDoor
