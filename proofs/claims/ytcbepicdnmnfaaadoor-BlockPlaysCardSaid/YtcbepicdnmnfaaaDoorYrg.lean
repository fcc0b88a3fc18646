/-
  The document's Take where a frame's data is added, and whatever comes, by their contracts. Conditions: the frame's data is read, at most 9000 bytes of it.
-/
import Derived.Test.YtcbepicdnmnfaaaDoorYrf
import Derived.IntWalk
namespace Go.Proofs.YtcbepicdnmnfaaaDoor
open Go.RowKit Go.WideShapes

theorem fl_one {n : Nat} (h : n < 256) : ∃ z : Nat, ((n : Nat) : Int).tmod 2 = (z : Int) ∧ IntKind.u8.wrap (z : Int) = (z : Int) ∧ ((z : Int) == 1) = decide (n % 2 = 1) :=
  ⟨n % 2, by rw [Int.tmod_eq_emod_of_nonneg (by omega)]; omega, IntWalk.u8_in _ (by omega), by rw [int_eq]; congr 1; apply propext; omega⟩
theorem fl_four {n : Nat} (h : n < 256) : ∃ q4 y : Nat, ((n : Nat) : Int).tdiv 4 = (q4 : Int) ∧ IntKind.u8.wrap (q4 : Int) = (q4 : Int) ∧ ((q4 : Nat) : Int).tmod 2 = (y : Int) ∧ IntKind.u8.wrap (y : Int) = (y : Int) ∧ ((y : Int) == 1) = decide (n / 4 % 2 = 1) :=
  ⟨n / 4, n / 4 % 2, by rw [Int.tdiv_eq_ediv_of_nonneg (by omega)]; omega, IntWalk.u8_in _ (by omega), by rw [Int.tmod_eq_emod_of_nonneg (by omega)]; omega, IntWalk.u8_in _ (by omega), by rw [int_eq]; congr 1; apply propext; omega⟩
theorem rgc_blk {m : Gm} (hi : m.busy = true) (hb : m.bad = 0) (L : List UInt8) : (rgc m).setIfInBounds 2 (.string (tb L)) = rgc ⟨true, m.st, L, m.en, m.more, 0⟩ := by
  cases m
  simp only at hi hb
  subst hi hb
  rfl
theorem rgc_more (st : Nat) (L : List UInt8) (en : Bool) (more k : Nat) : (rgc ⟨true, st, L, en, more, 0⟩).setIfInBounds 4 (.int .i64 k) = rgc ⟨true, st, L, en, k, 0⟩ := rfl
attribute [local irreducible] Fm.c rgc
set_option maxRecDepth 100000 in
set_option maxHeartbeats 4000000 in
theorem rtk_head_great (m : Gm) (x : Fm) (d : List UInt8) (hb : m.bad = 0) (hi : m.busy = false) (ht : x.ty = 1) (h8 : 8192 < d.length) (hfl : x.fl < 256) (hdn : x.dn = d.length) (hd : d.length ≤ 9000) {w : World} (hD : RdB w w.heap.size x.dA d) :
    Calls Tryd.prog 9 #[.agg (rgc m), .agg x.c] w (RTkP w ((gmF 11, false, gm0))) := by
  obtain ⟨w1, hw1, t1, t2, t3, t4, t5, t6⟩ := r_vars w m x
  obtain ⟨w2, hw2, u1, u2, u3⟩ := r_none w1
  have T7 := Lib.hid hw1
  have U7 := Lib.hid hw2
  have U1 := Lib.hid u1
  have R7 : Hid (Row w2 (w.heap.size + 4) 28 (rgc gm0)) := by
    have := u2
    rw [t6] at this
    exact this
  have RG := Lib.hid (t1.below u3 t1.lt)
  have RX := Lib.hid (t2.below u3 t2.lt)
  have R4 := Lib.hid (t3.below u3 t3.lt)
  have R6 := Lib.hid (t4.below u3 t4.lt)
  have HB := Lib.hid (t5.trans (u3.mono t5.size))
  have HS := Lib.hid t6
  have HN7 : Hid (w.heap.size + 4 = w1.heap.size) := t6.symm
  have HD : Hid (RdB w2 w.heap.size x.dA d) := (hD.below t5).below (u3.mono t5.size)
  have HDL : Hid (d.length ≤ 9000) := hd
  have HDN : Hid (x.dn = d.length) := hdn
  clear hw1 hw2 t1 t2 t3 t4 t5 t6 u1 u2 u3
  clear hD
  have HFA : Hid (∃ z : Nat, ((x.fl : Nat) : Int).tmod 2 = (z : Int) ∧ IntKind.u8.wrap (z : Int) = (z : Int) ∧ ((z : Int) == 1) = decide (x.fl % 2 = 1)) := fl_one hfl
  have HFB : Hid (∃ q4 y : Nat, ((x.fl : Nat) : Int).tdiv 4 = (q4 : Int) ∧ IntKind.u8.wrap (q4 : Int) = (q4 : Int) ∧ ((q4 : Nat) : Int).tmod 2 = (y : Int) ∧ IntKind.u8.wrap (y : Int) = (y : Int) ∧ ((y : Int) == 1) = decide (x.fl / 4 % 2 = 1)) := fl_four hfl
  have eb : ((m.bad : Int) != 0) = false := by rw [hb]; rfl
  have hi' := Lib.hid hi
  have hb' := Lib.hid hb
  have e9 : ((x.ty : Int) == 9) = false := by rw [ht]; rfl
  have e1 : ((x.ty : Int) != 1) = false := by rw [ht]; rfl
  clear hb hi ht hdn hd hfl
  go_enter Tryd.func9, Tryd.ntmps9
  go_upto_region 1 with fail
  rw [T7.out]
  go_upto_region 2 with (first | (refine wpList_build_is rfl 28 _ rfl (rgc gm0) (by kernel_rfl) ?_) | (refine wpList_sw (cs := rgc gm0) rfl _ _ rfl rfl rfl U1.out (rg_sz _ _) (rg_ok _) ?_))
  rw [U7.out]
  rw [← HN7.out]
  clear T7 U7 U1 HS
  generalize hp : w.heap.size = p at *
  have HP := Lib.hid hp
  clear hp
  obtain ⟨g0, g1, g2, g3, g4, g5⟩ := rg_cells RG.out
  obtain ⟨x0, x1, x2, x3, _⟩ := fm_cells RX.out
  rw [hi'.out] at g0
  have htxt : (convert 29 9 (.slice x.dA x.dn x.dc)).run Tryd.prog w2 = .ok (.string (tb d)) w2 := by rw [HDN.out]; exact run_text Tryd.underlying29 Tryd.underlying5 Tryd.underlying9 HD.out
  obtain ⟨z, hzm, hzw, hze⟩ := HFA.out
  clear HFA
  have RG3 := Lib.hid (RG.out.setRow (rgc (gbeg x.fl x.st d)))
  have RX3 := Lib.hid (RX.out.row_far (b := p + 1) (k := p) (by omega) (rgc (gbeg x.fl x.st d)))
  have R43 := Lib.hid (R4.out.row_far (b := p + 2) (k := p) (by omega) (rgc (gbeg x.fl x.st d)))
  have R63 := Lib.hid (R6.out.row_far (b := p + 3) (k := p) (by omega) (rgc (gbeg x.fl x.st d)))
  have R73 := Lib.hid (R7.out.row_far (b := p + 4) (k := p) (by omega) (rgc (gbeg x.fl x.st d)))
  have HB3 := Lib.hid (below_setRow HB.out p (rgc (gbeg x.fl x.st d)) (Nat.le_refl _))
  go_upto_region 9 with fail
  clear g0 g1 g2 g3 g4 g5 x0 eb e9 e1 hi' hb'
  go_upto_region 14 with (first | (refine wpList_build_is rfl 28 _ rfl (rgc (gbeg x.fl x.st d)) (by kernel_rfl) ?_) | (refine wpList_sw (cs := rgc (gbeg x.fl x.st d)) rfl _ _ rfl rfl rfl RG.out (rg_sz _ _) (rg_ok _) ?_))
  clear x1 x2 x3 htxt hzm hzw hze RG RX R4 R6 R7 HB HD
  generalize w2.setRow p (rgc (gbeg x.fl x.st d)) = w3 at *
  obtain ⟨_, _, g2, _, g4, _⟩ := rg_cells RG3.out
  obtain ⟨_, x1, _⟩ := fm_cells RX3.out
  have g2' : w3.cell? ⟨p, 2, none⟩ = some (.string (tb d)) := g2
  have g4' : w3.cell? ⟨p, 4, none⟩ = some (.int .i64 0) := g4
  clear g2 g4
  have RG := RG3
  have R4 := R43
  have R6 := R63
  have R7 := R73
  have HB := HB3
  clear RG3 R43 R63 R73 HB3
  obtain ⟨n, hn1⟩ : ∃ n, (tb d).size = n := ⟨_, rfl⟩
  have hn2 : n = d.length := by rw [← hn1, tb_size]
  have n8 : (8192 : Int) < (n : Int) := by omega
  clear hn2 h8
  clear HFB
  go_wp2_with fail
  clear g2' g4' x1
  have RG' : Hid (Row w3.drew p 28 (rgc (gbeg x.fl x.st d))) := RG.out
  have R4' : Hid (Row w3.drew (p + 2) 28 (rgc gm0)) := R4.out
  have R6' : Hid (Row w3.drew (p + 3) 28 (rgc gm0)) := R6.out
  have R7' : Hid (Row w3.drew (p + 4) 28 (rgc gm0)) := R7.out
  have HB' : Hid (Below p w w3.drew) := HB.out.drew
  refine wp_region_held_drew (S := fun w' => Row w' p 28 (rgc (gbeg x.fl x.st d)) ∧ Row w' (p + 4) 28 (rgc gm0)) (by kernel_rfl) ⟨RG'.out, R7'.out⟩ (fun hHeld => ?_)
  clear hHeld
  have hHeld : Row w3.drew p 28 (rgc (gbeg x.fl x.st d)) ∧ Row w3.drew (p + 4) 28 (rgc gm0) := ⟨RG'.out, R7'.out⟩
  clear RG R4 R6 R7 HB
  generalize w3.drew = q at *
  refine wpAnyH_take (i := 0) (v := _) rfl (by kernel_rfl) (by kernel_rfl) (by kernel_rfl) (fun _ _ _ h => h) (yields_ld (by rfl) _ rfl rfl (rg_ok _) (fun _ hSw => hSw.1)) (by assumption) ?rest0w1
  try simp only [Act.put, List.getElem_toArray, List.getElem_cons_zero, List.setIfInBounds_toArray, List.set_cons_zero, List.set_cons_succ]
  refine wpAnyH_take (i := 2) (v := _) rfl (by kernel_rfl) (by kernel_rfl) (by kernel_rfl) (fun _ _ _ h => h) (yields_ld (by rfl) _ rfl rfl (rg_ok _) (fun _ hSw => hSw.2)) (by assumption) ?rest2w2
  try simp only [Act.put, List.getElem_toArray, List.getElem_cons_zero, List.getElem_cons_succ, List.setIfInBounds_toArray, List.set_cons_zero, List.set_cons_succ]
  refine wpAnyH_ready (rs := [1]) (by kernel_rfl) (by simp) ?_
  refine AllReadyH.cons rfl (fun K hK => ?_) AllReadyH.nil
  go_simp
  go_at_call 17
  refine (rfails_any _ 11 _).mono ?_
  rintro e q2 ⟨rfl, hq⟩
  have RG2 := Lib.hid (RG'.out.below hq RG'.out.lt)
  have R42 := Lib.hid (R4'.out.below hq R4'.out.lt)
  have R62 := Lib.hid (R6'.out.below hq R6'.out.lt)
  have R72 := Lib.hid (R7'.out.below hq R7'.out.lt)
  have HB2 := Lib.hid (HB'.out.trans (hq.mono (by have := HB'.out.size; have := HP.out; omega)))
  clear RG' R4' R6' R7' HB' hq hHeld
  refine hK.out _ _ ⟨RG2.out, R72.out⟩ (fun hHeld => ?_)
  clear hK K
  try simp only [Act.put, List.getElem_toArray, List.getElem_cons_zero, List.getElem_cons_succ, List.setIfInBounds_toArray, List.set_cons_zero, List.set_cons_succ]
  refine wpAnyH_ready (rs := [3]) (by kernel_rfl) (by simp) ?_
  refine AllReadyH.cons rfl (fun K hK => ?_) AllReadyH.nil
  refine step_sw (cs := rgc (gmF 11)) rfl _ _ rfl rfl rfl R42.out (rg_sz _ _) (rg_ok _) ?_
  refine hK.out _ _ ⟨RG2.out.row_far (by omega) _, R72.out.row_far (by omega) _⟩ (fun hHeld => ?_)
  clear hK K
  try simp only [Act.put, List.getElem_toArray, List.getElem_cons_zero, List.getElem_cons_succ]
  refine wpAnyH_take (i := 4) (v := ?v4) rfl (by kernel_rfl) (by kernel_rfl) (by kernel_rfl) (fun _ _ _ h => h) (Or.inl ⟨by rfl, ?hy4⟩) (by assumption) ?rest4
  case hy4 => (intro w hSw; (try dsimp only at hSw); go_simp <;> with_reducible rfl)
  try simp only [Act.put, List.getElem_toArray, List.getElem_cons_zero, List.getElem_cons_succ, List.setIfInBounds_toArray, List.set_cons_zero, List.set_cons_succ]
  refine wpAnyH_ready (rs := [5]) (by kernel_rfl) (by simp) ?_
  refine AllReadyH.cons rfl (fun K hK => ?_) AllReadyH.nil
  refine step_sw (cs := rgc gm0) rfl _ _ rfl rfl rfl (R62.out.row_far (by omega) _) (rg_sz _ _) (rg_ok _) ?_
  refine hK.out _ _ ⟨(RG2.out.row_far (by omega) _).row_far (by omega) _, (R72.out.row_far (by omega) _).row_far (by omega) _⟩ (fun hHeld => ?_)
  clear hK K
  try simp only [Act.put, List.getElem_toArray, List.getElem_cons_zero, List.getElem_cons_succ]
  refine wpAnyH_done (by kernel_rfl) ?_ _
  go_wp2_with fail
  refine bodyPost_ret (ret_ava' rfl _ rfl ((R42.out.setRow _).row_far (by omega) _) (rg_ok _) rfl rfl ((R62.out.row_far (by omega) _).setRow _) (rg_ok _)) rfl ⟨rfl, ?_⟩
  rw [HP.out]
  exact below_setRow (below_setRow HB2.out _ _ (by omega)) _ _ (by omega)
set_option maxRecDepth 100000 in
set_option maxHeartbeats 4000000 in
theorem rtk_head_end (m : Gm) (x : Fm) (d : List UInt8) (hb : m.bad = 0) (hi : m.busy = false) (ht : x.ty = 1) (h8 : d.length ≤ 8192) (h4 : x.fl / 4 % 2 = 1) (hfl : x.fl < 256) (hdn : x.dn = d.length) (hd : d.length ≤ 9000) {w : World} (hD : RdB w w.heap.size x.dA d) :
    Calls Tryd.prog 9 #[.agg (rgc m), .agg x.c] w (RTkP w ((gm0, true, gbeg x.fl x.st d))) := by
  obtain ⟨w1, hw1, t1, t2, t3, t4, t5, t6⟩ := r_vars w m x
  obtain ⟨w2, hw2, u1, u2, u3⟩ := r_none w1
  have T7 := Lib.hid hw1
  have U7 := Lib.hid hw2
  have U1 := Lib.hid u1
  have R7 : Hid (Row w2 (w.heap.size + 4) 28 (rgc gm0)) := by
    have := u2
    rw [t6] at this
    exact this
  have RG := Lib.hid (t1.below u3 t1.lt)
  have RX := Lib.hid (t2.below u3 t2.lt)
  have R4 := Lib.hid (t3.below u3 t3.lt)
  have R6 := Lib.hid (t4.below u3 t4.lt)
  have HB := Lib.hid (t5.trans (u3.mono t5.size))
  have HS := Lib.hid t6
  have HN7 : Hid (w.heap.size + 4 = w1.heap.size) := t6.symm
  have HD : Hid (RdB w2 w.heap.size x.dA d) := (hD.below t5).below (u3.mono t5.size)
  have HDL : Hid (d.length ≤ 9000) := hd
  have HDN : Hid (x.dn = d.length) := hdn
  clear hw1 hw2 t1 t2 t3 t4 t5 t6 u1 u2 u3
  clear hD
  have HFA : Hid (∃ z : Nat, ((x.fl : Nat) : Int).tmod 2 = (z : Int) ∧ IntKind.u8.wrap (z : Int) = (z : Int) ∧ ((z : Int) == 1) = decide (x.fl % 2 = 1)) := fl_one hfl
  have HFB : Hid (∃ q4 y : Nat, ((x.fl : Nat) : Int).tdiv 4 = (q4 : Int) ∧ IntKind.u8.wrap (q4 : Int) = (q4 : Int) ∧ ((q4 : Nat) : Int).tmod 2 = (y : Int) ∧ IntKind.u8.wrap (y : Int) = (y : Int) ∧ ((y : Int) == 1) = decide (x.fl / 4 % 2 = 1)) := fl_four hfl
  have eb : ((m.bad : Int) != 0) = false := by rw [hb]; rfl
  have hi' := Lib.hid hi
  have hb' := Lib.hid hb
  have e9 : ((x.ty : Int) == 9) = false := by rw [ht]; rfl
  have e1 : ((x.ty : Int) != 1) = false := by rw [ht]; rfl
  have HH4 : Hid (decide (x.fl / 4 % 2 = 1) = true) := decide_eq_true h4
  clear h4
  clear hb hi ht hdn hd hfl
  go_enter Tryd.func9, Tryd.ntmps9
  go_upto_region 1 with fail
  rw [T7.out]
  go_upto_region 2 with (first | (refine wpList_build_is rfl 28 _ rfl (rgc gm0) (by kernel_rfl) ?_) | (refine wpList_sw (cs := rgc gm0) rfl _ _ rfl rfl rfl U1.out (rg_sz _ _) (rg_ok _) ?_))
  rw [U7.out]
  rw [← HN7.out]
  clear T7 U7 U1 HS
  generalize hp : w.heap.size = p at *
  have HP := Lib.hid hp
  clear hp
  obtain ⟨g0, g1, g2, g3, g4, g5⟩ := rg_cells RG.out
  obtain ⟨x0, x1, x2, x3, _⟩ := fm_cells RX.out
  rw [hi'.out] at g0
  have htxt : (convert 29 9 (.slice x.dA x.dn x.dc)).run Tryd.prog w2 = .ok (.string (tb d)) w2 := by rw [HDN.out]; exact run_text Tryd.underlying29 Tryd.underlying5 Tryd.underlying9 HD.out
  obtain ⟨z, hzm, hzw, hze⟩ := HFA.out
  clear HFA
  have RG3 := Lib.hid (RG.out.setRow (rgc (gbeg x.fl x.st d)))
  have RX3 := Lib.hid (RX.out.row_far (b := p + 1) (k := p) (by omega) (rgc (gbeg x.fl x.st d)))
  have R43 := Lib.hid (R4.out.row_far (b := p + 2) (k := p) (by omega) (rgc (gbeg x.fl x.st d)))
  have R63 := Lib.hid (R6.out.row_far (b := p + 3) (k := p) (by omega) (rgc (gbeg x.fl x.st d)))
  have R73 := Lib.hid (R7.out.row_far (b := p + 4) (k := p) (by omega) (rgc (gbeg x.fl x.st d)))
  have HB3 := Lib.hid (below_setRow HB.out p (rgc (gbeg x.fl x.st d)) (Nat.le_refl _))
  go_upto_region 9 with fail
  clear g0 g1 g2 g3 g4 g5 x0 eb e9 e1 hi' hb'
  go_upto_region 14 with (first | (refine wpList_build_is rfl 28 _ rfl (rgc (gbeg x.fl x.st d)) (by kernel_rfl) ?_) | (refine wpList_sw (cs := rgc (gbeg x.fl x.st d)) rfl _ _ rfl rfl rfl RG.out (rg_sz _ _) (rg_ok _) ?_))
  clear x1 x2 x3 htxt hzm hzw hze RG RX R4 R6 R7 HB HD
  generalize w2.setRow p (rgc (gbeg x.fl x.st d)) = w3 at *
  obtain ⟨_, _, g2, _, g4, _⟩ := rg_cells RG3.out
  obtain ⟨_, x1, _⟩ := fm_cells RX3.out
  have g2' : w3.cell? ⟨p, 2, none⟩ = some (.string (tb d)) := g2
  have g4' : w3.cell? ⟨p, 4, none⟩ = some (.int .i64 0) := g4
  clear g2 g4
  have RG := RG3
  have R4 := R43
  have R6 := R63
  have R7 := R73
  have HB := HB3
  clear RG3 R43 R63 R73 HB3
  obtain ⟨n, hn1⟩ : ∃ n, (tb d).size = n := ⟨_, rfl⟩
  have hn2 : n = d.length := by rw [← hn1, tb_size]
  have n8 : decide ((8192 : Int) < (n : Int)) = false := decide_eq_false (by omega)
  clear hn2 h8
  obtain ⟨q4, y, hqm, hqw, hym, hyw, hye⟩ := HFB.out
  rw [HH4.out] at hye
  clear HFB HH4
  go_wp2_with fail
  clear g2' g4' x1
  have RG' : Hid (Row w3.drew p 28 (rgc (gbeg x.fl x.st d))) := RG.out
  have R4' : Hid (Row w3.drew (p + 2) 28 (rgc gm0)) := R4.out
  have R6' : Hid (Row w3.drew (p + 3) 28 (rgc gm0)) := R6.out
  have R7' : Hid (Row w3.drew (p + 4) 28 (rgc gm0)) := R7.out
  have HB' : Hid (Below p w w3.drew) := HB.out.drew
  refine wp_region_held_drew (S := fun w' => Row w' p 28 (rgc (gbeg x.fl x.st d)) ∧ Row w' (p + 4) 28 (rgc gm0)) (by kernel_rfl) ⟨RG'.out, R7'.out⟩ (fun hHeld => ?_)
  clear hHeld
  have hHeld : Row w3.drew p 28 (rgc (gbeg x.fl x.st d)) ∧ Row w3.drew (p + 4) 28 (rgc gm0) := ⟨RG'.out, R7'.out⟩
  clear RG R4 R6 R7 HB
  generalize w3.drew = q at *
  refine wpAnyH_take (i := 0) (v := _) rfl (by kernel_rfl) (by kernel_rfl) (by kernel_rfl) (fun _ _ _ h => h) (yields_ld (by rfl) _ rfl rfl (rg_ok _) (fun _ hSw => hSw.2)) (by assumption) ?rest0w3
  try simp only [Act.put, List.getElem_toArray, List.getElem_cons_zero, List.setIfInBounds_toArray, List.set_cons_zero, List.set_cons_succ]
  refine wpAnyH_take (i := 1) (v := _) rfl (by kernel_rfl) (by kernel_rfl) (by kernel_rfl) (fun _ _ _ h => h) (yields_ld (by rfl) _ rfl rfl (rg_ok _) (fun _ hSw => hSw.1)) (by assumption) ?rest1w4
  try simp only [Act.put, List.getElem_toArray, List.getElem_cons_zero, List.getElem_cons_succ, List.setIfInBounds_toArray, List.set_cons_zero, List.set_cons_succ]
  refine wpAnyH_ready (rs := [2]) (by kernel_rfl) (by simp) ?_
  refine AllReadyH.cons rfl (fun K hK => ?_) AllReadyH.nil
  refine step_sw (cs := rgc gm0) rfl _ _ rfl rfl rfl R4'.out (rg_sz _ _) (rg_ok _) ?_
  refine hK.out _ _ ⟨RG'.out.row_far (by omega) _, R7'.out.row_far (by omega) _⟩ (fun hHeld => ?_)
  clear hK K
  try simp only [Act.put, List.getElem_toArray, List.getElem_cons_zero, List.getElem_cons_succ]
  refine wpAnyH_take (i := 3) (v := ?v3q7) rfl (by kernel_rfl) (by kernel_rfl) (by kernel_rfl) (fun _ _ _ h => h) (Or.inl ⟨by rfl, ?hy3q7⟩) (by assumption) ?rest3q7
  case hy3q7 => (intro w hSw; (try dsimp only at hSw); go_simp <;> with_reducible rfl)
  try simp only [Act.put, List.getElem_toArray, List.getElem_cons_zero, List.getElem_cons_succ, List.setIfInBounds_toArray, List.set_cons_zero, List.set_cons_succ]
  refine wpAnyH_ready (rs := [4]) (by kernel_rfl) (by simp) ?_
  refine AllReadyH.cons rfl (fun K hK => ?_) AllReadyH.nil
  refine step_sw (cs := rgc (gbeg x.fl x.st d)) rfl _ _ rfl rfl rfl (R6'.out.row_far (by omega) _) (rg_sz _ _) (rg_ok _) ?_
  refine hK.out _ _ ⟨(RG'.out.row_far (by omega) _).row_far (by omega) _, (R7'.out.row_far (by omega) _).row_far (by omega) _⟩ (fun hHeld => ?_)
  clear hK K
  try simp only [Act.put, List.getElem_toArray, List.getElem_cons_zero, List.getElem_cons_succ]
  refine wpAnyH_done (by kernel_rfl) ?_ _
  go_wp2_with fail
  refine bodyPost_ret (ret_ava' rfl _ rfl ((R4'.out.setRow _).row_far (by omega) _) (rg_ok _) rfl rfl ((R6'.out.row_far (by omega) _).setRow _) (rg_ok _)) rfl ⟨rfl, ?_⟩
  rw [HP.out]
  exact below_setRow (below_setRow HB'.out _ _ (by omega)) _ _ (by omega)
set_option maxRecDepth 100000 in
set_option maxHeartbeats 4000000 in
theorem rtk_head_on (m : Gm) (x : Fm) (d : List UInt8) (hb : m.bad = 0) (hi : m.busy = false) (ht : x.ty = 1) (h8 : d.length ≤ 8192) (h4 : x.fl / 4 % 2 ≠ 1) (hfl : x.fl < 256) (hdn : x.dn = d.length) (hd : d.length ≤ 9000) {w : World} (hD : RdB w w.heap.size x.dA d) :
    Calls Tryd.prog 9 #[.agg (rgc m), .agg x.c] w (RTkP w ((gbeg x.fl x.st d, false, gm0))) := by
  obtain ⟨w1, hw1, t1, t2, t3, t4, t5, t6⟩ := r_vars w m x
  obtain ⟨w2, hw2, u1, u2, u3⟩ := r_none w1
  have T7 := Lib.hid hw1
  have U7 := Lib.hid hw2
  have U1 := Lib.hid u1
  have R7 : Hid (Row w2 (w.heap.size + 4) 28 (rgc gm0)) := by
    have := u2
    rw [t6] at this
    exact this
  have RG := Lib.hid (t1.below u3 t1.lt)
  have RX := Lib.hid (t2.below u3 t2.lt)
  have R4 := Lib.hid (t3.below u3 t3.lt)
  have R6 := Lib.hid (t4.below u3 t4.lt)
  have HB := Lib.hid (t5.trans (u3.mono t5.size))
  have HS := Lib.hid t6
  have HN7 : Hid (w.heap.size + 4 = w1.heap.size) := t6.symm
  have HD : Hid (RdB w2 w.heap.size x.dA d) := (hD.below t5).below (u3.mono t5.size)
  have HDL : Hid (d.length ≤ 9000) := hd
  have HDN : Hid (x.dn = d.length) := hdn
  clear hw1 hw2 t1 t2 t3 t4 t5 t6 u1 u2 u3
  clear hD
  have HFA : Hid (∃ z : Nat, ((x.fl : Nat) : Int).tmod 2 = (z : Int) ∧ IntKind.u8.wrap (z : Int) = (z : Int) ∧ ((z : Int) == 1) = decide (x.fl % 2 = 1)) := fl_one hfl
  have HFB : Hid (∃ q4 y : Nat, ((x.fl : Nat) : Int).tdiv 4 = (q4 : Int) ∧ IntKind.u8.wrap (q4 : Int) = (q4 : Int) ∧ ((q4 : Nat) : Int).tmod 2 = (y : Int) ∧ IntKind.u8.wrap (y : Int) = (y : Int) ∧ ((y : Int) == 1) = decide (x.fl / 4 % 2 = 1)) := fl_four hfl
  have eb : ((m.bad : Int) != 0) = false := by rw [hb]; rfl
  have hi' := Lib.hid hi
  have hb' := Lib.hid hb
  have e9 : ((x.ty : Int) == 9) = false := by rw [ht]; rfl
  have e1 : ((x.ty : Int) != 1) = false := by rw [ht]; rfl
  have HH4 : Hid (decide (x.fl / 4 % 2 = 1) = false) := decide_eq_false h4
  clear h4
  clear hb hi ht hdn hd hfl
  go_enter Tryd.func9, Tryd.ntmps9
  go_upto_region 1 with fail
  rw [T7.out]
  go_upto_region 2 with (first | (refine wpList_build_is rfl 28 _ rfl (rgc gm0) (by kernel_rfl) ?_) | (refine wpList_sw (cs := rgc gm0) rfl _ _ rfl rfl rfl U1.out (rg_sz _ _) (rg_ok _) ?_))
  rw [U7.out]
  rw [← HN7.out]
  clear T7 U7 U1 HS
  generalize hp : w.heap.size = p at *
  have HP := Lib.hid hp
  clear hp
  obtain ⟨g0, g1, g2, g3, g4, g5⟩ := rg_cells RG.out
  obtain ⟨x0, x1, x2, x3, _⟩ := fm_cells RX.out
  rw [hi'.out] at g0
  have htxt : (convert 29 9 (.slice x.dA x.dn x.dc)).run Tryd.prog w2 = .ok (.string (tb d)) w2 := by rw [HDN.out]; exact run_text Tryd.underlying29 Tryd.underlying5 Tryd.underlying9 HD.out
  obtain ⟨z, hzm, hzw, hze⟩ := HFA.out
  clear HFA
  have RG3 := Lib.hid (RG.out.setRow (rgc (gbeg x.fl x.st d)))
  have RX3 := Lib.hid (RX.out.row_far (b := p + 1) (k := p) (by omega) (rgc (gbeg x.fl x.st d)))
  have R43 := Lib.hid (R4.out.row_far (b := p + 2) (k := p) (by omega) (rgc (gbeg x.fl x.st d)))
  have R63 := Lib.hid (R6.out.row_far (b := p + 3) (k := p) (by omega) (rgc (gbeg x.fl x.st d)))
  have R73 := Lib.hid (R7.out.row_far (b := p + 4) (k := p) (by omega) (rgc (gbeg x.fl x.st d)))
  have HB3 := Lib.hid (below_setRow HB.out p (rgc (gbeg x.fl x.st d)) (Nat.le_refl _))
  go_upto_region 9 with fail
  clear g0 g1 g2 g3 g4 g5 x0 eb e9 e1 hi' hb'
  go_upto_region 14 with (first | (refine wpList_build_is rfl 28 _ rfl (rgc (gbeg x.fl x.st d)) (by kernel_rfl) ?_) | (refine wpList_sw (cs := rgc (gbeg x.fl x.st d)) rfl _ _ rfl rfl rfl RG.out (rg_sz _ _) (rg_ok _) ?_))
  clear x1 x2 x3 htxt hzm hzw hze RG RX R4 R6 R7 HB HD
  generalize w2.setRow p (rgc (gbeg x.fl x.st d)) = w3 at *
  obtain ⟨_, _, g2, _, g4, _⟩ := rg_cells RG3.out
  obtain ⟨_, x1, _⟩ := fm_cells RX3.out
  have g2' : w3.cell? ⟨p, 2, none⟩ = some (.string (tb d)) := g2
  have g4' : w3.cell? ⟨p, 4, none⟩ = some (.int .i64 0) := g4
  clear g2 g4
  have RG := RG3
  have R4 := R43
  have R6 := R63
  have R7 := R73
  have HB := HB3
  clear RG3 R43 R63 R73 HB3
  obtain ⟨n, hn1⟩ : ∃ n, (tb d).size = n := ⟨_, rfl⟩
  have hn2 : n = d.length := by rw [← hn1, tb_size]
  have n8 : decide ((8192 : Int) < (n : Int)) = false := decide_eq_false (by omega)
  clear hn2 h8
  obtain ⟨q4, y, hqm, hqw, hym, hyw, hye⟩ := HFB.out
  rw [HH4.out] at hye
  clear HFB HH4
  go_wp2_with fail
  clear g2' g4' x1
  have RG' : Hid (Row w3.drew p 28 (rgc (gbeg x.fl x.st d))) := RG.out
  have R4' : Hid (Row w3.drew (p + 2) 28 (rgc gm0)) := R4.out
  have R6' : Hid (Row w3.drew (p + 3) 28 (rgc gm0)) := R6.out
  have R7' : Hid (Row w3.drew (p + 4) 28 (rgc gm0)) := R7.out
  have HB' : Hid (Below p w w3.drew) := HB.out.drew
  refine wp_region_held_drew (S := fun w' => Row w' p 28 (rgc (gbeg x.fl x.st d)) ∧ Row w' (p + 4) 28 (rgc gm0)) (by kernel_rfl) ⟨RG'.out, R7'.out⟩ (fun hHeld => ?_)
  clear hHeld
  have hHeld : Row w3.drew p 28 (rgc (gbeg x.fl x.st d)) ∧ Row w3.drew (p + 4) 28 (rgc gm0) := ⟨RG'.out, R7'.out⟩
  clear RG R4 R6 R7 HB
  generalize w3.drew = q at *
  refine wpAnyH_take (i := 0) (v := _) rfl (by kernel_rfl) (by kernel_rfl) (by kernel_rfl) (fun _ _ _ h => h) (yields_ld (by rfl) _ rfl rfl (rg_ok _) (fun _ hSw => hSw.1)) (by assumption) ?rest0w5
  try simp only [Act.put, List.getElem_toArray, List.getElem_cons_zero, List.setIfInBounds_toArray, List.set_cons_zero, List.set_cons_succ]
  refine wpAnyH_take (i := 1) (v := _) rfl (by kernel_rfl) (by kernel_rfl) (by kernel_rfl) (fun _ _ _ h => h) (yields_ld (by rfl) _ rfl rfl (rg_ok _) (fun _ hSw => hSw.2)) (by assumption) ?rest1w6
  try simp only [Act.put, List.getElem_toArray, List.getElem_cons_zero, List.getElem_cons_succ, List.setIfInBounds_toArray, List.set_cons_zero, List.set_cons_succ]
  refine wpAnyH_ready (rs := [2]) (by kernel_rfl) (by simp) ?_
  refine AllReadyH.cons rfl (fun K hK => ?_) AllReadyH.nil
  refine step_sw (cs := rgc (gbeg x.fl x.st d)) rfl _ _ rfl rfl rfl R4'.out (rg_sz _ _) (rg_ok _) ?_
  refine hK.out _ _ ⟨RG'.out.row_far (by omega) _, R7'.out.row_far (by omega) _⟩ (fun hHeld => ?_)
  clear hK K
  try simp only [Act.put, List.getElem_toArray, List.getElem_cons_zero, List.getElem_cons_succ]
  refine wpAnyH_take (i := 3) (v := ?v3q8) rfl (by kernel_rfl) (by kernel_rfl) (by kernel_rfl) (fun _ _ _ h => h) (Or.inl ⟨by rfl, ?hy3q8⟩) (by assumption) ?rest3q8
  case hy3q8 => (intro w hSw; (try dsimp only at hSw); go_simp <;> with_reducible rfl)
  try simp only [Act.put, List.getElem_toArray, List.getElem_cons_zero, List.getElem_cons_succ, List.setIfInBounds_toArray, List.set_cons_zero, List.set_cons_succ]
  refine wpAnyH_ready (rs := [4]) (by kernel_rfl) (by simp) ?_
  refine AllReadyH.cons rfl (fun K hK => ?_) AllReadyH.nil
  refine step_sw (cs := rgc gm0) rfl _ _ rfl rfl rfl (R6'.out.row_far (by omega) _) (rg_sz _ _) (rg_ok _) ?_
  refine hK.out _ _ ⟨(RG'.out.row_far (by omega) _).row_far (by omega) _, (R7'.out.row_far (by omega) _).row_far (by omega) _⟩ (fun hHeld => ?_)
  clear hK K
  try simp only [Act.put, List.getElem_toArray, List.getElem_cons_zero, List.getElem_cons_succ]
  refine wpAnyH_done (by kernel_rfl) ?_ _
  go_wp2_with fail
  refine bodyPost_ret (ret_ava' rfl _ rfl ((R4'.out.setRow _).row_far (by omega) _) (rg_ok _) rfl rfl ((R6'.out.row_far (by omega) _).setRow _) (rg_ok _)) rfl ⟨rfl, ?_⟩
  rw [HP.out]
  exact below_setRow (below_setRow HB'.out _ _ (by omega)) _ _ (by omega)
end Go.Proofs.YtcbepicdnmnfaaaDoor
