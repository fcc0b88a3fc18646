/-
  WsframeGets: the law's walk. Conditions: errors.errorType holds what the program's text lays.
-/
import Derived.Test.YtffgjnohlcodaaaDoorIrg
import Derived.Test.YtffgjnohlcodaaaDoorIsa
import Derived.Test.YtffgjnohlcodaaaDoorIeq
import Derived.Test.YtffgjnohlcodaaaDoorIfx
import Derived.Orders
namespace Go.Proofs.YtffgjnohlcodaaaDoor
open Go.RowKit Go.WideShapes

theorem getI_codeI (m : Bool) (l : List UInt8) : (getI m l).2 < 4294967296 := by
  have := hdI_small m l
  unfold getI
  split
  · show _ < _; simp only; omega
  · split <;> (show _ < _; simp only; omega)
set_option maxRecDepth 100000 in
set_option maxHeartbeats 4000000 in
theorem wgets_law {A : Option Addr} {c : Nat} {l : List UInt8} {m : Bool} {w : World} (hG : GlobE w) (hcp : l.length ≤ c) (hr : RdB w w.heap.size A l) :
    Calls Tryd.prog 4 #[.slice A l.length c, .bool m] w fun e w' => e = .returned (.bool true) ∧ Below w.heap.size w w' := by
  by_cases hl : 9000 < l.length
  · have h1 : (9000 : Int) < (l.length : Int) := by omega
    go_enter Tryd.func4, Tryd.ntmps4
    go_wp2_with (go_at_call 8; refine (fixed16_any _).mono ?_; rintro e w' ⟨rfl, hb⟩)
    go_ret
    exact ⟨rfl, hb⟩
  have h1 : ¬ (9000 : Int) < (l.length : Int) := by omega
  have hget := iget_any (c := c) (m := m) hr (Nat.le_refl _) (by omega) hcp hG
  have hrg := rgetI_any l (by omega) m
  have hqc := getI_codeI m l
  have HG := Lib.hid hG
  have HR := Lib.hid hr
  obtain ⟨q, hq⟩ : ∃ q, q = getI m l := ⟨_, rfl⟩
  rw [← hq] at hget hrg hqc
  clear hG hr hq
  obtain ⟨⟨fin, op, mask, key, dat⟩, code⟩ := q
  go_enter Tryd.func4, Tryd.ntmps4
  go_wp2_with fail
  refine hget.mono ?_
  rintro e w2 ⟨A2, c2, rfl, hrd2, _, hb2⟩
  have HRD2 := Lib.hid hrd2
  have HB2 := Lib.hid hb2
  have HR2 := Lib.hid (HR.out.below hb2)
  have HG2 := Lib.hid (HG.out.below hb2)
  clear hget hrd2 hb2 HR HG
  obtain ⟨w3, e3, r5, r6, hb3, hz3, s5, s6⟩ := varsI w2 (pcC fin op mask key A2 dat.length c2) (ftI (scI code) code) rfl rfl
  go_upto_region 4 with (first
    | (refine wpList_sw (cs := pcC fin op mask key A2 dat.length c2) rfl _ _ rfl rfl rfl s5 (pc_sz _ _ _ _ _ _ _ _ _ _ _ _ _ _) (pc_ok _ _ _ _ _ _ _) ?_)
    | (refine wpList_sw (cs := ftI (scI code) code) rfl _ _ rfl rfl rfl s6 (ftI_sz _ _ _ _) (ftI_ok _ _) ?_))
  rw [pcC0_eq, ftI0_eq, e3]
  have HR5 := Lib.hid r5
  have HR6 := Lib.hid r6
  have HRD3 := Lib.hid ((HRD2.out.below hb3).more hb3.size)
  have HB3 := Lib.hid (HB2.out.trans (hb3.mono HB2.out.size))
  have HR3 := Lib.hid (HR2.out.below (hb3.mono HB2.out.size))
  have HG3 := Lib.hid (HG2.out.below hb3)
  have htx := run_text (P := Tryd.prog) (c := c) Tryd.underlying23 Tryd.underlying5 Tryd.underlying9 HR3.out
  rw [show ByteArray.mk l.toArray = txb l from rfl] at htx
  clear e3 r5 r6 hb3 s5 s6 HRD2 HB2 HR2 HG2 hz3
  generalize w2.heap.size = p5 at *
  have HP5 : Hid (p5 + 1 < w3.heap.size) := HR6.out.lt
  go_wp2_with fail
  refine (hrg _).mono ?_
  rintro e w4 ⟨A4, c4, rfl, hrd4, hb4⟩
  clear htx hrg
  obtain ⟨w5, e5, r7, hb5, hz5, s7⟩ := varI w4 25 (pcC false 0 false 0 none 0 0) (pcC fin op mask key A4 dat.length c4)
  have hb45 := hb4.trans (hb5.mono hb4.size)
  have HR5b := Lib.hid (HR5.out.below hb45 HR5.out.lt)
  have HR6b := Lib.hid (HR6.out.below hb45 HR6.out.lt)
  have HR7 := Lib.hid r7
  have HRD5 := Lib.hid ((HRD3.out.below hb45).more hb45.size)
  have HRD6 := Lib.hid ((hrd4.below hb5).more hb5.size)
  have HB5 := Lib.hid (HB3.out.trans (hb45.mono HB3.out.size))
  have HRb := Lib.hid (HR3.out.below (hb45.mono HB3.out.size))
  have HG5 := Lib.hid (HG3.out.below hb45)
  have HP7 : Hid (p5 + 1 < w4.heap.size) := Nat.lt_of_lt_of_le HP5.out hb4.size
  go_upto_region 5 with (refine wpList_sw (cs := pcC fin op mask key A4 dat.length c4) rfl _ _ rfl rfl rfl s7 (pc_sz _ _ _ _ _ _ _ _ _ _ _ _ _ _) (pc_ok _ _ _ _ _ _ _) ?_)
  rw [pcC0_eq, e5]
  clear e5 r7 hb4 hb5 hb45 s7 hz5 hrd4 HR5 HR6 HRD3 HB3 HR3 HG3
  generalize w4.heap.size = p7 at *
  have hld : Row w5.drew p5 25 (pcC fin op mask key A2 dat.length c2) ∧ Row w5.drew p7 25 (pcC fin op mask key A4 dat.length c4) ∧ Row w5.drew (p5 + 1) 31 (ftI (scI code) code) := ⟨HR5b.out, HR7.out, HR6b.out⟩
  have HSM := Lib.hid (rsameI_any fin op mask key dat (c := c2) (c' := c4) (show RdB w5.drew w5.drew.heap.size A2 dat from HRD5.out) (show RdB w5.drew w5.drew.heap.size A4 dat from HRD6.out) (Nat.le_refl _))
  have HTO := Lib.hid (toldI_any code hqc)
  have hnq := fun W => ft_neqI (scI code) code W
  go_cut [39] (fun v wx => v = .bool false ∧ Hid (Below w5.heap.size w5 wx))
  case first =>
    refine wp_region_held_drew (S := fun w' => Row w' p5 25 (pcC fin op mask key A2 dat.length c2) ∧ Row w' p7 25 (pcC fin op mask key A4 dat.length c4) ∧ Row w' (p5 + 1) 31 (ftI (scI code) code)) (by kernel_rfl) hld (fun hHeld => ?_)
    refine wpAnyH_take (i := 0) (v := _) rfl (by kernel_rfl) (by kernel_rfl) (by kernel_rfl) (fun _ _ _ h => h) (yields_ld (by rfl) _ rfl rfl (pc_ok _ _ _ _ _ _ _) (fun _ hSw => hSw.1)) (by assumption) ?rest0w1
    try simp only [Act.put, List.getElem_toArray, List.getElem_cons_zero, List.setIfInBounds_toArray, List.set_cons_zero, List.set_cons_succ]
    refine wpAnyH_take (i := 1) (v := _) rfl (by kernel_rfl) (by kernel_rfl) (by kernel_rfl) (fun _ _ _ h => h) (yields_ld (by rfl) _ rfl rfl (pc_ok _ _ _ _ _ _ _) (fun _ hSw => hSw.2.1)) (by assumption) ?rest1w2
    try simp only [Act.put, List.getElem_toArray, List.getElem_cons_zero, List.getElem_cons_succ, List.setIfInBounds_toArray, List.set_cons_zero, List.set_cons_succ]
    refine wpAnyH_ready (rs := [2]) (by kernel_rfl) (by simp) ?_
    refine AllReadyH.cons rfl (fun K hK => ?_) AllReadyH.nil
    go_simp
    go_at_call 15
    refine HSM.out.mono ?_
    rintro e w6 ⟨rfl, hb6⟩
    have HB6 : Hid (Below w5.heap.size w5 w6) := (((Below.refl _ _).drew).trans hb6)
    have h6 : Row w6 p5 25 (pcC fin op mask key A2 dat.length c2) ∧ Row w6 p7 25 (pcC fin op mask key A4 dat.length c4) ∧ Row w6 (p5 + 1) 31 (ftI (scI code) code) := ⟨HR5b.out.below HB6.out HR5b.out.lt, HR7.out.below HB6.out HR7.out.lt, HR6b.out.below HB6.out HR6b.out.lt⟩
    clear hb6
    refine hK.out _ _ (h6) (fun hHeld => ?_)
    clear hK K
    try simp only [Act.put, List.getElem_toArray, List.getElem_cons_zero, List.getElem_cons_succ, List.setIfInBounds_toArray, List.set_cons_zero, List.set_cons_succ]
    refine wpAnyH_take (i := 3) (v := ?v3) rfl (by kernel_rfl) (by kernel_rfl) (by kernel_rfl) (fun _ _ _ h => h) (Or.inl ⟨by rfl, ?hy3⟩) (by assumption) ?rest3
    case hy3 => (intro w hSw; (try dsimp only at hSw); go_simp <;> with_reducible rfl)
    try simp only [Act.put, List.getElem_toArray, List.getElem_cons_zero, List.getElem_cons_succ, List.setIfInBounds_toArray, List.set_cons_zero, List.set_cons_succ]
    refine wpAnyH_take (i := 4) (v := ?v4) rfl (by kernel_rfl) (by kernel_rfl) (by kernel_rfl) (fun _ _ _ h => h) (Or.inl ⟨by rfl, ?hy4⟩) (by assumption) ?rest4
    case hy4 => (intro w hSw; (try dsimp only at hSw); go_simp <;> with_reducible rfl)
    try simp only [Act.put, List.getElem_toArray, List.getElem_cons_zero, List.getElem_cons_succ, List.setIfInBounds_toArray, List.set_cons_zero, List.set_cons_succ]
    refine wpAnyH_take (i := 6) (v := ?v6) rfl (by kernel_rfl) (by kernel_rfl) (by kernel_rfl) (fun _ _ _ h => h) (Or.inl ⟨by rfl, ?hy6⟩) (by assumption) ?rest6
    case hy6 => (intro w hSw; (try dsimp only at hSw); go_simp <;> with_reducible rfl)
    try simp only [Act.put, List.getElem_toArray, List.getElem_cons_zero, List.getElem_cons_succ, List.setIfInBounds_toArray, List.set_cons_zero, List.set_cons_succ]
    refine wpAnyH_take (i := 5) (v := _) rfl (by kernel_rfl) (by kernel_rfl) (by kernel_rfl) (fun _ _ _ h => h) (yields_ld (by rfl) _ rfl rfl (ftI_ok _ _) (fun _ hSw => hSw.2.2)) (by assumption) ?rest5w3
    try simp only [Act.put, List.getElem_toArray, List.getElem_cons_zero, List.getElem_cons_succ, List.setIfInBounds_toArray, List.set_cons_zero, List.set_cons_succ]
    refine wpAnyH_ready (rs := [7]) (by kernel_rfl) (by simp) ?_
    refine AllReadyH.cons rfl (fun K hK => ?_) AllReadyH.nil
    go_simp
    go_at_call 14
    refine (HTO.out _).mono ?_
    rintro e w7 ⟨rfl, hb7⟩
    have HB7 := Lib.hid (HB6.out.trans (hb7.mono HB6.out.size))
    have h7 : Row w7 p5 25 (pcC fin op mask key A2 dat.length c2) ∧ Row w7 p7 25 (pcC fin op mask key A4 dat.length c4) ∧ Row w7 (p5 + 1) 31 (ftI (scI code) code) := ⟨HR5b.out.below HB7.out HR5b.out.lt, HR7.out.below HB7.out HR7.out.lt, HR6b.out.below HB7.out HR6b.out.lt⟩
    clear hb7
    refine hK.out _ _ (h7) (fun hHeld => ?_)
    clear hK K
    try simp only [Act.put, List.getElem_toArray, List.getElem_cons_zero, List.getElem_cons_succ, List.setIfInBounds_toArray, List.set_cons_zero, List.set_cons_succ]
    refine wpAnyH_take (i := 8) (v := ?v8q5) rfl (by kernel_rfl) (by kernel_rfl) (by kernel_rfl) (fun _ _ _ h => h) (Or.inl ⟨by rfl, ?hy8q5⟩) (by assumption) ?rest8q5
    case hy8q5 => (intro w hSw; (try dsimp only at hSw); go_simp <;> with_reducible rfl)
    try simp only [Act.put, List.getElem_toArray, List.getElem_cons_zero, List.getElem_cons_succ, List.setIfInBounds_toArray, List.set_cons_zero, List.set_cons_succ]
    refine wpAnyH_take (i := 9) (v := ?v9q6) rfl (by kernel_rfl) (by kernel_rfl) (by kernel_rfl) (fun _ _ _ h => h) (Or.inl ⟨by rfl, ?hy9q6⟩) (by assumption) ?rest9q6
    case hy9q6 => (intro w hSw; (try dsimp only at hSw); go_simp <;> with_reducible rfl)
    try simp only [Act.put, List.getElem_toArray, List.getElem_cons_zero, List.getElem_cons_succ, List.setIfInBounds_toArray, List.set_cons_zero, List.set_cons_succ]
    refine wpAnyH_done (by kernel_rfl) ?_ _
    go_wp2_with fail
    go_meet
    exact ⟨rfl, HB7⟩
  case rest =>
    obtain ⟨rfl, HBc⟩ := hcut
    have HRc := Lib.hid (HRb.out.below (HBc.out.mono HB5.out.size))
    have HGc := Lib.hid (HG5.out.below HBc.out)
    have HBt := Lib.hid (HB5.out.trans (HBc.out.mono HB5.out.size))
    have hhd := ihead_any (c := c) (m := m) HRc.out HBt.out.size (by omega) hcp HGc.out
    clear HBc HRb HG5 HB5 hld HSM HTO hnq HR5b HR6b HR7 HRD5 HRD6 HP7 HP5 hqc
    go_wp2_with fail
    refine hhd.mono ?_
    rintro e w8 ⟨rfl, hb8⟩
    have hsm := hdI_small m l
    have hrh := rheadI_any l (by omega) m
    generalize hdI m l = h at *
    obtain ⟨w9, e9, r9, hb9, hz9, s9⟩ := varI w8 31 (ftI 0 0) (ftI (scI h.code) h.code)
    have hb89 := hb8.trans (hb9.mono hb8.size)
    have HR9 := Lib.hid (HRc.out.below (hb89.mono HBt.out.size))
    have HB9 := Lib.hid (HBt.out.trans (hb89.mono HBt.out.size))
    have HF9 := Lib.hid r9
    go_upto_region 8 with (refine wpList_sw (cs := ftI (scI h.code) h.code) rfl _ _ rfl rfl rfl s9 (ftI_sz _ _ _ _) (ftI_ok _ _) ?_)
    rw [ftI0_eq, e9]
    have htx := run_text (P := Tryd.prog) (c := c) Tryd.underlying23 Tryd.underlying5 Tryd.underlying9 HR9.out
    rw [show ByteArray.mk l.toArray = txb l from rfl] at htx
    clear e9 r9 hb8 hb9 hb89 hz9 s9 hhd HRc HGc HBt
    generalize w8.heap.size = p10 at *
    go_wp2_with fail
    refine (hrh _).mono ?_
    rintro e w10 ⟨rfl, hb10⟩
    obtain ⟨w11, e11, r11, hb11, hz11, s11⟩ := varI w10 42 (hdC hd0) (hdC h)
    have hb01 := hb10.trans (hb11.mono hb10.size)
    have HF11 := Lib.hid (HF9.out.below hb01 HF9.out.lt)
    have HB11 := Lib.hid (HB9.out.trans (hb01.mono HB9.out.size))
    have HH11 := Lib.hid r11
    clear htx
    go_upto_region 9 with (refine wpList_sw (cs := hdC h) rfl _ _ rfl rfl rfl s11 (hd_sz _ _) (hd_ok _) ?_)
    rw [hd0_eq, e11]
    clear e11 r11 hb10 hb11 hb01 hz11 s11 hrh HR9 HB9 HF9
    generalize w10.heap.size = p12 at *
    have hS : Hid (∀ W, Below w11.heap.size w11 W → Row W p10 31 (ftI (scI h.code) h.code) ∧ W.cell? ⟨p12, 0, none⟩ = some (.int .i64 h.front) ∧ W.cell? ⟨p12, 1, none⟩ = some (.int .i64 h.size) ∧ W.cell? ⟨p12, 2, none⟩ = some (.int .i64 h.code) ∧ W.cell? ⟨p12, 3, none⟩ = some (.bool h.short)) := fun W hW => by
      obtain ⟨d0, d1, d2, d3⟩ := hd_cells (HH11.out.below hW HH11.out.lt)
      exact ⟨HF11.out.below hW HF11.out.lt, d0, d1, d2, d3⟩
    have hsum : IntKind.i64.wrap ((h.front : Int) + (h.size : Int)) = (h.front : Int) + (h.size : Int) := IntWalk.i64_in _ (by omega)
    have hto := toldI_any h.code (by omega)
    generalize h.front = f at *
    generalize h.size = v at *
    generalize h.short = sh at *
    generalize h.code = code2 at *
    have hqf := fun W => ft_eqlI (scI code2) code2 W
    have hqs : ((!sh) == (!sh)) = true := by simp
    have hqn : ((f : Int) + (v : Int) == (f : Int) + (v : Int)) = true := by simp
    have k11 := hS.out w11.drew (Below.refl _ _).drew
    have HBd : Hid (Below w11.heap.size w11 w11.drew) := (Below.refl _ _).drew
    clear HF11 HH11
    refine wp_region_held_drew (S := fun w' => Row w' p10 31 (ftI (scI code2) code2) ∧ w'.cell? ⟨p12, 0, none⟩ = some (.int .i64 f) ∧ w'.cell? ⟨p12, 1, none⟩ = some (.int .i64 v) ∧ w'.cell? ⟨p12, 2, none⟩ = some (.int .i64 code2) ∧ w'.cell? ⟨p12, 3, none⟩ = some (.bool sh)) (by kernel_rfl) k11 (fun hHeld => ?_)
    refine wpAnyH_ready (rs := [0]) (by kernel_rfl) (by simp) ?_
    refine AllReadyH.cons rfl (fun K hK => ?_) AllReadyH.nil
    go_simp
    go_at_call 8
    refine (fixed16_any _).mono ?_
    rintro e w12 ⟨rfl, hb12⟩
    have HB12 := Lib.hid (HBd.out.trans (hb12.mono HBd.out.size))
    clear hb12 k11 HBd
    have k12 := hS.out w12 HB12.out
    refine hK.out _ _ (k12) (fun hHeld => ?_)
    clear hK K
    try simp only [Act.put, List.getElem_toArray, List.getElem_cons_zero, List.getElem_cons_succ, List.setIfInBounds_toArray, List.set_cons_zero, List.set_cons_succ]
    refine wpAnyH_take (i := 1) (v := ?v1q7) rfl (by kernel_rfl) (by kernel_rfl) (by kernel_rfl) (fun _ _ _ h => h) (Or.inl ⟨by rfl, ?hy1q7⟩) (by assumption) ?rest1q7
    case hy1q7 => (intro w hSw; (try dsimp only at hSw); go_simp <;> with_reducible rfl)
    try simp only [Act.put, List.getElem_toArray, List.getElem_cons_zero, List.getElem_cons_succ, List.setIfInBounds_toArray, List.set_cons_zero, List.set_cons_succ]
    refine wpAnyH_take (i := 2) (v := ?v2q7) rfl (by kernel_rfl) (by kernel_rfl) (by kernel_rfl) (fun _ _ _ h => h) (Or.inl ⟨by rfl, ?hy2q7⟩) (by assumption) ?rest2q7
    case hy2q7 => (intro w hSw; (try dsimp only at hSw); go_simp <;> with_reducible rfl)
    try simp only [Act.put, List.getElem_toArray, List.getElem_cons_zero, List.getElem_cons_succ, List.setIfInBounds_toArray, List.set_cons_zero, List.set_cons_succ]
    refine wpAnyH_take (i := 3) (v := ?v3q7) rfl (by kernel_rfl) (by kernel_rfl) (by kernel_rfl) (fun _ _ _ h => h) (Or.inl ⟨by rfl, ?hy3q7⟩) (by assumption) ?rest3q7
    case hy3q7 => (intro w hSw; (try dsimp only at hSw); go_simp <;> with_reducible rfl)
    try simp only [Act.put, List.getElem_toArray, List.getElem_cons_zero, List.getElem_cons_succ, List.setIfInBounds_toArray, List.set_cons_zero, List.set_cons_succ]
    refine wpAnyH_take (i := 4) (v := ?v4q7) rfl (by kernel_rfl) (by kernel_rfl) (by kernel_rfl) (fun _ _ _ h => h) (Or.inl ⟨by rfl, ?hy4q7⟩) (by assumption) ?rest4q7
    case hy4q7 => (intro w hSw; (try dsimp only at hSw); go_simp <;> with_reducible rfl)
    try simp only [Act.put, List.getElem_toArray, List.getElem_cons_zero, List.getElem_cons_succ, List.setIfInBounds_toArray, List.set_cons_zero, List.set_cons_succ]
    refine wpAnyH_take (i := 5) (v := ?v5q7) rfl (by kernel_rfl) (by kernel_rfl) (by kernel_rfl) (fun _ _ _ h => h) (Or.inl ⟨by rfl, ?hy5q7⟩) (by assumption) ?rest5q7
    case hy5q7 => (intro w hSw; (try dsimp only at hSw); go_simp <;> with_reducible rfl)
    try simp only [Act.put, List.getElem_toArray, List.getElem_cons_zero, List.getElem_cons_succ, List.setIfInBounds_toArray, List.set_cons_zero, List.set_cons_succ]
    refine wpAnyH_take (i := 6) (v := ?v6q7) rfl (by kernel_rfl) (by kernel_rfl) (by kernel_rfl) (fun _ _ _ h => h) (Or.inl ⟨by rfl, ?hy6q7⟩) (by assumption) ?rest6q7
    case hy6q7 => (intro w hSw; (try dsimp only at hSw); go_simp <;> with_reducible rfl)
    try simp only [Act.put, List.getElem_toArray, List.getElem_cons_zero, List.getElem_cons_succ, List.setIfInBounds_toArray, List.set_cons_zero, List.set_cons_succ]
    refine wpAnyH_take (i := 7) (v := ?v7q7) rfl (by kernel_rfl) (by kernel_rfl) (by kernel_rfl) (fun _ _ _ h => h) (Or.inl ⟨by rfl, ?hy7q7⟩) (by assumption) ?rest7q7
    case hy7q7 => (intro w hSw; (try dsimp only at hSw); go_simp <;> with_reducible rfl)
    try simp only [Act.put, List.getElem_toArray, List.getElem_cons_zero, List.getElem_cons_succ, List.setIfInBounds_toArray, List.set_cons_zero, List.set_cons_succ]
    refine wpAnyH_take (i := 8) (v := ?v8q7) rfl (by kernel_rfl) (by kernel_rfl) (by kernel_rfl) (fun _ _ _ h => h) (Or.inl ⟨by rfl, ?hy8q7⟩) (by assumption) ?rest8q7
    case hy8q7 => (intro w hSw; (try dsimp only at hSw); go_simp <;> with_reducible rfl)
    try simp only [Act.put, List.getElem_toArray, List.getElem_cons_zero, List.getElem_cons_succ, List.setIfInBounds_toArray, List.set_cons_zero, List.set_cons_succ]
    refine wpAnyH_take (i := 9) (v := _) rfl (by kernel_rfl) (by kernel_rfl) (by kernel_rfl) (fun _ _ _ h => h) (yields_ld (by rfl) _ rfl rfl (ftI_ok _ _) (fun _ hSw => hSw.1)) (by assumption) ?rest9w4
    try simp only [Act.put, List.getElem_toArray, List.getElem_cons_zero, List.getElem_cons_succ, List.setIfInBounds_toArray, List.set_cons_zero, List.set_cons_succ]
    refine wpAnyH_take (i := 10) (v := ?v10q8) rfl (by kernel_rfl) (by kernel_rfl) (by kernel_rfl) (fun _ _ _ h => h) (Or.inl ⟨by rfl, ?hy10q8⟩) (by assumption) ?rest10q8
    case hy10q8 => (intro w hSw; (try dsimp only at hSw); go_simp <;> with_reducible rfl)
    try simp only [Act.put, List.getElem_toArray, List.getElem_cons_zero, List.getElem_cons_succ, List.setIfInBounds_toArray, List.set_cons_zero, List.set_cons_succ]
    refine wpAnyH_take (i := 11) (v := ?v11q8) rfl (by kernel_rfl) (by kernel_rfl) (by kernel_rfl) (fun _ _ _ h => h) (Or.inl ⟨by rfl, ?hy11q8⟩) (by assumption) ?rest11q8
    case hy11q8 => (intro w hSw; (try dsimp only at hSw); go_simp <;> with_reducible rfl)
    try simp only [Act.put, List.getElem_toArray, List.getElem_cons_zero, List.getElem_cons_succ, List.setIfInBounds_toArray, List.set_cons_zero, List.set_cons_succ]
    refine wpAnyH_ready (rs := [12]) (by kernel_rfl) (by simp) ?_
    refine AllReadyH.cons rfl (fun K hK => ?_) AllReadyH.nil
    go_simp
    go_at_call 14
    refine (hto _).mono ?_
    rintro e w13 ⟨rfl, hb13⟩
    have HB13 := Lib.hid (HB12.out.trans (hb13.mono HB12.out.size))
    clear hb13 k12 HB12
    have k13 := hS.out w13 HB13.out
    refine hK.out _ _ (k13) (fun hHeld => ?_)
    clear hK K
    try simp only [Act.put, List.getElem_toArray, List.getElem_cons_zero, List.getElem_cons_succ, List.setIfInBounds_toArray, List.set_cons_zero, List.set_cons_succ]
    refine wpAnyH_take (i := 13) (v := ?v13q9) rfl (by kernel_rfl) (by kernel_rfl) (by kernel_rfl) (fun _ _ _ h => h) (Or.inl ⟨by rfl, ?hy13q9⟩) (by assumption) ?rest13q9
    case hy13q9 => (intro w hSw; (try dsimp only at hSw); go_simp <;> with_reducible rfl)
    try simp only [Act.put, List.getElem_toArray, List.getElem_cons_zero, List.getElem_cons_succ, List.setIfInBounds_toArray, List.set_cons_zero, List.set_cons_succ]
    refine wpAnyH_take (i := 14) (v := ?v14q9) rfl (by kernel_rfl) (by kernel_rfl) (by kernel_rfl) (fun _ _ _ h => h) (Or.inl ⟨by rfl, ?hy14q9⟩) (by assumption) ?rest14q9
    case hy14q9 => (intro w hSw; (try dsimp only at hSw); go_simp <;> with_reducible rfl)
    try simp only [Act.put, List.getElem_toArray, List.getElem_cons_zero, List.getElem_cons_succ, List.setIfInBounds_toArray, List.set_cons_zero, List.set_cons_succ]
    refine wpAnyH_take (i := 15) (v := ?v15q9) rfl (by kernel_rfl) (by kernel_rfl) (by kernel_rfl) (fun _ _ _ h => h) (Or.inl ⟨by rfl, ?hy15q9⟩) (by assumption) ?rest15q9
    case hy15q9 => (intro w hSw; (try dsimp only at hSw); go_simp <;> with_reducible rfl)
    try simp only [Act.put, List.getElem_toArray, List.getElem_cons_zero, List.getElem_cons_succ, List.setIfInBounds_toArray, List.set_cons_zero, List.set_cons_succ]
    refine wpAnyH_take (i := 16) (v := ?v16q9) rfl (by kernel_rfl) (by kernel_rfl) (by kernel_rfl) (fun _ _ _ h => h) (Or.inl ⟨by rfl, ?hy16q9⟩) (by assumption) ?rest16q9
    case hy16q9 => (intro w hSw; (try dsimp only at hSw); go_simp <;> with_reducible rfl)
    try simp only [Act.put, List.getElem_toArray, List.getElem_cons_zero, List.getElem_cons_succ, List.setIfInBounds_toArray, List.set_cons_zero, List.set_cons_succ]
    refine wpAnyH_take (i := 17) (v := ?v17q9) rfl (by kernel_rfl) (by kernel_rfl) (by kernel_rfl) (fun _ _ _ h => h) (Or.inl ⟨by rfl, ?hy17q9⟩) (by assumption) ?rest17q9
    case hy17q9 => (intro w hSw; (try dsimp only at hSw); go_simp <;> with_reducible rfl)
    try simp only [Act.put, List.getElem_toArray, List.getElem_cons_zero, List.getElem_cons_succ, List.setIfInBounds_toArray, List.set_cons_zero, List.set_cons_succ]
    refine wpAnyH_take (i := 18) (v := ?v18q9) rfl (by kernel_rfl) (by kernel_rfl) (by kernel_rfl) (fun _ _ _ h => h) (Or.inl ⟨by rfl, ?hy18q9⟩) (by assumption) ?rest18q9
    case hy18q9 => (intro w hSw; (try dsimp only at hSw); go_simp <;> with_reducible rfl)
    try simp only [Act.put, List.getElem_toArray, List.getElem_cons_zero, List.getElem_cons_succ, List.setIfInBounds_toArray, List.set_cons_zero, List.set_cons_succ]
    refine wpAnyH_take (i := 19) (v := ?v19q9) rfl (by kernel_rfl) (by kernel_rfl) (by kernel_rfl) (fun _ _ _ h => h) (Or.inl ⟨by rfl, ?hy19q9⟩) (by assumption) ?rest19q9
    case hy19q9 => (intro w hSw; (try dsimp only at hSw); go_simp <;> with_reducible rfl)
    try simp only [Act.put, List.getElem_toArray, List.getElem_cons_zero, List.getElem_cons_succ, List.setIfInBounds_toArray, List.set_cons_zero, List.set_cons_succ]
    refine wpAnyH_take (i := 20) (v := ?v20q9) rfl (by kernel_rfl) (by kernel_rfl) (by kernel_rfl) (fun _ _ _ h => h) (Or.inl ⟨by rfl, ?hy20q9⟩) (by assumption) ?rest20q9
    case hy20q9 => (intro w hSw; (try dsimp only at hSw); go_simp <;> with_reducible rfl)
    try simp only [Act.put, List.getElem_toArray, List.getElem_cons_zero, List.getElem_cons_succ, List.setIfInBounds_toArray, List.set_cons_zero, List.set_cons_succ]
    refine wpAnyH_take (i := 21) (v := ?v21q9) rfl (by kernel_rfl) (by kernel_rfl) (by kernel_rfl) (fun _ _ _ h => h) (Or.inl ⟨by rfl, ?hy21q9⟩) (by assumption) ?rest21q9
    case hy21q9 => (intro w hSw; (try dsimp only at hSw); go_simp <;> with_reducible rfl)
    try simp only [Act.put, List.getElem_toArray, List.getElem_cons_zero, List.getElem_cons_succ, List.setIfInBounds_toArray, List.set_cons_zero, List.set_cons_succ]
    refine wpAnyH_take (i := 22) (v := ?v22q9) rfl (by kernel_rfl) (by kernel_rfl) (by kernel_rfl) (fun _ _ _ h => h) (Or.inl ⟨by rfl, ?hy22q9⟩) (by assumption) ?rest22q9
    case hy22q9 => (intro w hSw; (try dsimp only at hSw); go_simp <;> with_reducible rfl)
    try simp only [Act.put, List.getElem_toArray, List.getElem_cons_zero, List.getElem_cons_succ, List.setIfInBounds_toArray, List.set_cons_zero, List.set_cons_succ]
    refine wpAnyH_take (i := 23) (v := ?v23q9) rfl (by kernel_rfl) (by kernel_rfl) (by kernel_rfl) (fun _ _ _ h => h) (Or.inl ⟨by rfl, ?hy23q9⟩) (by assumption) ?rest23q9
    case hy23q9 => (intro w hSw; (try dsimp only at hSw); go_simp <;> with_reducible rfl)
    try simp only [Act.put, List.getElem_toArray, List.getElem_cons_zero, List.getElem_cons_succ, List.setIfInBounds_toArray, List.set_cons_zero, List.set_cons_succ]
    refine wpAnyH_take (i := 24) (v := ?v24q9) rfl (by kernel_rfl) (by kernel_rfl) (by kernel_rfl) (fun _ _ _ h => h) (Or.inl ⟨by rfl, ?hy24q9⟩) (by assumption) ?rest24q9
    case hy24q9 => (intro w hSw; (try dsimp only at hSw); go_simp <;> with_reducible rfl)
    try simp only [Act.put, List.getElem_toArray, List.getElem_cons_zero, List.getElem_cons_succ, List.setIfInBounds_toArray, List.set_cons_zero, List.set_cons_succ]
    refine wpAnyH_done (by kernel_rfl) ?_ _
    go_wp2_with fail
    go_ret
    exact ⟨rfl, HB11.out.trans (HB13.out.mono HB11.out.size)⟩
end Go.Proofs.YtffgjnohlcodaaaDoor
