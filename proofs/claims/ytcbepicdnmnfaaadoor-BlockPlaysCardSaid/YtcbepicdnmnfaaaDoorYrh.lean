/-
  The document's Take where a frame is added to a block that is begun, by its contract. Conditions: the frame's data is read, at most 9000 bytes of it.
-/
import Derived.Test.YtcbepicdnmnfaaaDoorYrg
import Derived.IntWalk
namespace Go.Proofs.YtcbepicdnmnfaaaDoor
open Go.RowKit Go.WideShapes

attribute [local irreducible] Fm.c rgc
set_option maxRecDepth 100000 in
set_option maxHeartbeats 4000000 in
theorem rtk_more_great (m : Gm) (x : Fm) (d : List UInt8) (hb : m.bad = 0) (hi : m.busy = true) (ht : x.ty = 9) (hs : x.st = m.st) (hbl : m.blk.length ≤ 8192) (hm : m.more ≤ 16) (h8 : 8192 < m.blk.length + d.length) (hfl : x.fl < 256) (hdn : x.dn = d.length) (hd : d.length ≤ 9000) {w : World} (hD : RdB w w.heap.size x.dA d) :
    Calls Tryd.prog 9 #[.agg (rgc m), .agg x.c] w (RTkP w ((gmF 11, false, gm0))) := by
  obtain ⟨w1, hw1, t1, t2, t3, t4, t5, t6⟩ := r_vars w m x
  obtain ⟨w2, hw2, u1, u2, u3⟩ := r_none w1
  have T7 := Lib.hid hw1
  have U7 := Lib.hid hw2
  have U1 := Lib.hid u1
  have R7 : Hid (Row w2 (w.heap.size + 4) 28 (rgc gm0)) := by
    have := u2
    rw [t6] at this
    exact this
  have RG := Lib.hid (t1.below u3 t1.lt)
  have RX := Lib.hid (t2.below u3 t2.lt)
  have R4 := Lib.hid (t3.below u3 t3.lt)
  have R6 := Lib.hid (t4.below u3 t4.lt)
  have HB := Lib.hid (t5.trans (u3.mono t5.size))
  have HS := Lib.hid t6
  have HN7 : Hid (w.heap.size + 4 = w1.heap.size) := t6.symm
  have HD : Hid (RdB w2 w.heap.size x.dA d) := (hD.below t5).below (u3.mono t5.size)
  have HDL : Hid (d.length ≤ 9000) := hd
  have HDN : Hid (x.dn = d.length) := hdn
  clear hw1 hw2 t1 t2 t3 t4 t5 t6 u1 u2 u3
  clear hD
  have HFA : Hid (∃ z : Nat, ((x.fl : Nat) : Int).tmod 2 = (z : Int) ∧ IntKind.u8.wrap (z : Int) = (z : Int) ∧ ((z : Int) == 1) = decide (x.fl % 2 = 1)) := fl_one hfl
  have HFB : Hid (∃ q4 y : Nat, ((x.fl : Nat) : Int).tdiv 4 = (q4 : Int) ∧ IntKind.u8.wrap (q4 : Int) = (q4 : Int) ∧ ((q4 : Nat) : Int).tmod 2 = (y : Int) ∧ IntKind.u8.wrap (y : Int) = (y : Int) ∧ ((y : Int) == 1) = decide (x.fl / 4 % 2 = 1)) := fl_four hfl
  have eb : ((m.bad : Int) != 0) = false := by rw [hb]; rfl
  have hi' := Lib.hid hi
  have hb' := Lib.hid hb
  have e9 : ((x.ty : Int) != 9) = false := by rw [ht]; rfl
  have es : ((x.st : Int) != (m.st : Int)) = false := by rw [hs]; simp
  have HHS := Lib.hid hs
  clear hb hi ht hdn hfl hs
  go_enter Tryd.func9, Tryd.ntmps9
  go_upto_region 1 with fail
  rw [T7.out]
  go_upto_region 2 with (first | (refine wpList_build_is rfl 28 _ rfl (rgc gm0) (by kernel_rfl) ?_) | (refine wpList_sw (cs := rgc gm0) rfl _ _ rfl rfl rfl U1.out (rg_sz _ _) (rg_ok _) ?_))
  rw [U7.out]
  rw [← HN7.out]
  clear T7 U7 U1 HS
  generalize hp : w.heap.size = p at *
  have HP := Lib.hid hp
  clear hp
  obtain ⟨g0, g1, g2, g3, g4, g5⟩ := rg_cells RG.out
  obtain ⟨x0, x1, x2, x3, _⟩ := fm_cells RX.out
  rw [hi'.out] at g0
  obtain ⟨k, hk⟩ : ∃ k : Nat, k = m.more + 1 := ⟨_, rfl⟩
  have hwk : IntKind.i64.wrap ((m.more : Int) + 1) = (k : Int) := by rw [IntWalk.i64_in _ (by omega)]; omega
  obtain ⟨L, hL⟩ : ∃ L, m.blk ++ d = L := ⟨_, rfl⟩
  have htxt : (convert 29 9 (.slice x.dA x.dn x.dc)).run Tryd.prog w2 = .ok (.string (tb d)) w2 := by rw [HDN.out]; exact run_text Tryd.underlying29 Tryd.underlying5 Tryd.underlying9 HD.out
  have hadd := tb_add m.blk d (by omega) (by omega)
  rw [hL] at hadd
  obtain ⟨n, hn2⟩ : ∃ n, n = m.blk.length + d.length := ⟨_, rfl⟩
  have HGA : Hid (gadd m d = ⟨true, m.st, L, m.en, k, 0⟩) := by
    show _ = _
    unfold gadd
    rw [hL, hk]
  have hn1 : (tb L).size = n := by rw [tb_size, ← hL, List.length_append, hn2]
  have n8 : (8192 : Int) < (n : Int) := by omega
  have ht2 := RG.out.thawed 2
  have RG2 : Hid (Row (w2.setCell ⟨p, 2, none⟩ (.string (tb L))) p 28 (rgc ⟨true, m.st, L, m.en, m.more, 0⟩)) := by
    have := RG.out.stored 2 (.string (tb L))
    rw [rgc_blk hi'.out hb'.out] at this
    exact this
  have g42 := (rg_cells RG2.out).2.2.2.2.1
  have ht4 := RG2.out.thawed 4
  have RG3 : Hid (Row ((w2.setCell ⟨p, 2, none⟩ (.string (tb L))).setCell ⟨p, 4, none⟩ (.int .i64 k)) p 28 (rgc ⟨true, m.st, L, m.en, k, 0⟩)) := by
    have := RG2.out.stored 4 (.int .i64 k)
    rw [rgc_more] at this
    exact this
  have RX3 := Lib.hid ((RX.out.set_far (b := p + 1) (k := p) (by omega) 2 (.string (tb L))).set_far (b := p + 1) (k := p) (by omega) 4 (.int .i64 k))
  have R43 := Lib.hid ((R4.out.set_far (b := p + 2) (k := p) (by omega) 2 (.string (tb L))).set_far (b := p + 2) (k := p) (by omega) 4 (.int .i64 k))
  have R63 := Lib.hid ((R6.out.set_far (b := p + 3) (k := p) (by omega) 2 (.string (tb L))).set_far (b := p + 3) (k := p) (by omega) 4 (.int .i64 k))
  have R73 := Lib.hid ((R7.out.set_far (b := p + 4) (k := p) (by omega) 2 (.string (tb L))).set_far (b := p + 4) (k := p) (by omega) 4 (.int .i64 k))
  have HB3 := Lib.hid ((HB.out.setCell (p := ⟨p, 2, none⟩) (Nat.le_refl _) (.string (tb L))).setCell (p := ⟨p, 4, none⟩) (Nat.le_refl _) (.int .i64 k))
  clear hL hk hn2 hbl hm hd h8 
  clear RG RX R4 R6 R7 HB HD RG2 HFA HHS
  go_upto_region 12 with fail
  clear g0 g1 g3 g5 x0 x2 eb e9 es hi' hb'
  go_upto_region 14 with fail
  clear g2 g4 x1 x3 htxt hadd ht2 ht4 g42 hwk
  generalize (w2.setCell ⟨p, 2, none⟩ (.string (tb L))).setCell ⟨p, 4, none⟩ (.int .i64 k) = w3 at *
  obtain ⟨_, _, g2, _, g4, _⟩ := rg_cells RG3.out
  obtain ⟨_, x1, _⟩ := fm_cells RX3.out
  have RG := RG3
  have R4 := R43
  have R6 := R63
  have R7 := R73
  have HB := HB3
  clear RG3 R43 R63 R73 HB3
  clear HFB
  go_wp2_with fail
  clear g2 g4 x1
  have RG' : Hid (Row w3.drew p 28 (rgc ⟨true, m.st, L, m.en, k, 0⟩)) := RG.out
  have R4' : Hid (Row w3.drew (p + 2) 28 (rgc gm0)) := R4.out
  have R6' : Hid (Row w3.drew (p + 3) 28 (rgc gm0)) := R6.out
  have R7' : Hid (Row w3.drew (p + 4) 28 (rgc gm0)) := R7.out
  have HB' : Hid (Below p w w3.drew) := HB.out.drew
  refine wp_region_held_drew (S := fun w' => Row w' p 28 (rgc ⟨true, m.st, L, m.en, k, 0⟩) ∧ Row w' (p + 4) 28 (rgc gm0)) (by kernel_rfl) ⟨RG'.out, R7'.out⟩ (fun hHeld => ?_)
  clear hHeld
  have hHeld : Row w3.drew p 28 (rgc ⟨true, m.st, L, m.en, k, 0⟩) ∧ Row w3.drew (p + 4) 28 (rgc gm0) := ⟨RG'.out, R7'.out⟩
  clear RG R4 R6 R7 HB
  generalize w3.drew = q at *
  refine wpAnyH_take (i := 0) (v := _) rfl (by kernel_rfl) (by kernel_rfl) (by kernel_rfl) (fun _ _ _ h => h) (yields_ld (by rfl) _ rfl rfl (rg_ok _) (fun _ hSw => hSw.1)) (by assumption) ?rest0w1
  try simp only [Act.put, List.getElem_toArray, List.getElem_cons_zero, List.setIfInBounds_toArray, List.set_cons_zero, List.set_cons_succ]
  refine wpAnyH_take (i := 2) (v := _) rfl (by kernel_rfl) (by kernel_rfl) (by kernel_rfl) (fun _ _ _ h => h) (yields_ld (by rfl) _ rfl rfl (rg_ok _) (fun _ hSw => hSw.2)) (by assumption) ?rest2w2
  try simp only [Act.put, List.getElem_toArray, List.getElem_cons_zero, List.getElem_cons_succ, List.setIfInBounds_toArray, List.set_cons_zero, List.set_cons_succ]
  refine wpAnyH_ready (rs := [1]) (by kernel_rfl) (by simp) ?_
  refine AllReadyH.cons rfl (fun K hK => ?_) AllReadyH.nil
  go_simp
  go_at_call 17
  refine (rfails_any _ 11 _).mono ?_
  rintro e q2 ⟨rfl, hq⟩
  have RG2 := Lib.hid (RG'.out.below hq RG'.out.lt)
  have R42 := Lib.hid (R4'.out.below hq R4'.out.lt)
  have R62 := Lib.hid (R6'.out.below hq R6'.out.lt)
  have R72 := Lib.hid (R7'.out.below hq R7'.out.lt)
  have HB2 := Lib.hid (HB'.out.trans (hq.mono (by have := HB'.out.size; have := HP.out; omega)))
  clear RG' R4' R6' R7' HB' hq hHeld
  refine hK.out _ _ ⟨RG2.out, R72.out⟩ (fun hHeld => ?_)
  clear hK K
  try simp only [Act.put, List.getElem_toArray, List.getElem_cons_zero, List.getElem_cons_succ, List.setIfInBounds_toArray, List.set_cons_zero, List.set_cons_succ]
  refine wpAnyH_ready (rs := [3]) (by kernel_rfl) (by simp) ?_
  refine AllReadyH.cons rfl (fun K hK => ?_) AllReadyH.nil
  refine step_sw (cs := rgc (gmF 11)) rfl _ _ rfl rfl rfl R42.out (rg_sz _ _) (rg_ok _) ?_
  refine hK.out _ _ ⟨RG2.out.row_far (by omega) _, R72.out.row_far (by omega) _⟩ (fun hHeld => ?_)
  clear hK K
  try simp only [Act.put, List.getElem_toArray, List.getElem_cons_zero, List.getElem_cons_succ]
  refine wpAnyH_take (i := 4) (v := ?v4) rfl (by kernel_rfl) (by kernel_rfl) (by kernel_rfl) (fun _ _ _ h => h) (Or.inl ⟨by rfl, ?hy4⟩) (by assumption) ?rest4
  case hy4 => (intro w hSw; (try dsimp only at hSw); go_simp <;> with_reducible rfl)
  try simp only [Act.put, List.getElem_toArray, List.getElem_cons_zero, List.getElem_cons_succ, List.setIfInBounds_toArray, List.set_cons_zero, List.set_cons_succ]
  refine wpAnyH_ready (rs := [5]) (by kernel_rfl) (by simp) ?_
  refine AllReadyH.cons rfl (fun K hK => ?_) AllReadyH.nil
  refine step_sw (cs := rgc gm0) rfl _ _ rfl rfl rfl (R62.out.row_far (by omega) _) (rg_sz _ _) (rg_ok _) ?_
  refine hK.out _ _ ⟨(RG2.out.row_far (by omega) _).row_far (by omega) _, (R72.out.row_far (by omega) _).row_far (by omega) _⟩ (fun hHeld => ?_)
  clear hK K
  try simp only [Act.put, List.getElem_toArray, List.getElem_cons_zero, List.getElem_cons_succ]
  refine wpAnyH_done (by kernel_rfl) ?_ _
  go_wp2_with fail
  refine bodyPost_ret (ret_ava' rfl _ rfl ((R42.out.setRow _).row_far (by omega) _) (rg_ok _) rfl rfl ((R62.out.row_far (by omega) _).setRow _) (rg_ok _)) rfl ?_
  refine ⟨?_, ?_⟩
  · first | rfl | (rw [HGA.out]; rfl)
  rw [HP.out]
  exact below_setRow (below_setRow HB2.out _ _ (by omega)) _ _ (by omega)
set_option maxRecDepth 100000 in
set_option maxHeartbeats 4000000 in
theorem rtk_more_many (m : Gm) (x : Fm) (d : List UInt8) (hb : m.bad = 0) (hi : m.busy = true) (ht : x.ty = 9) (hs : x.st = m.st) (hbl : m.blk.length ≤ 8192) (_hm : m.more ≤ 16) (h8 : m.blk.length + d.length ≤ 8192) (h6 : m.more = 16) (hfl : x.fl < 256) (hdn : x.dn = d.length) (hd : d.length ≤ 9000) {w : World} (hD : RdB w w.heap.size x.dA d) :
    Calls Tryd.prog 9 #[.agg (rgc m), .agg x.c] w (RTkP w ((gmF 11, false, gm0))) := by
  obtain ⟨w1, hw1, t1, t2, t3, t4, t5, t6⟩ := r_vars w m x
  obtain ⟨w2, hw2, u1, u2, u3⟩ := r_none w1
  have T7 := Lib.hid hw1
  have U7 := Lib.hid hw2
  have U1 := Lib.hid u1
  have R7 : Hid (Row w2 (w.heap.size + 4) 28 (rgc gm0)) := by
    have := u2
    rw [t6] at this
    exact this
  have RG := Lib.hid (t1.below u3 t1.lt)
  have RX := Lib.hid (t2.below u3 t2.lt)
  have R4 := Lib.hid (t3.below u3 t3.lt)
  have R6 := Lib.hid (t4.below u3 t4.lt)
  have HB := Lib.hid (t5.trans (u3.mono t5.size))
  have HS := Lib.hid t6
  have HN7 : Hid (w.heap.size + 4 = w1.heap.size) := t6.symm
  have HD : Hid (RdB w2 w.heap.size x.dA d) := (hD.below t5).below (u3.mono t5.size)
  have HDL : Hid (d.length ≤ 9000) := hd
  have HDN : Hid (x.dn = d.length) := hdn
  clear hw1 hw2 t1 t2 t3 t4 t5 t6 u1 u2 u3
  clear hD
  have HFA : Hid (∃ z : Nat, ((x.fl : Nat) : Int).tmod 2 = (z : Int) ∧ IntKind.u8.wrap (z : Int) = (z : Int) ∧ ((z : Int) == 1) = decide (x.fl % 2 = 1)) := fl_one hfl
  have HFB : Hid (∃ q4 y : Nat, ((x.fl : Nat) : Int).tdiv 4 = (q4 : Int) ∧ IntKind.u8.wrap (q4 : Int) = (q4 : Int) ∧ ((q4 : Nat) : Int).tmod 2 = (y : Int) ∧ IntKind.u8.wrap (y : Int) = (y : Int) ∧ ((y : Int) == 1) = decide (x.fl / 4 % 2 = 1)) := fl_four hfl
  have eb : ((m.bad : Int) != 0) = false := by rw [hb]; rfl
  have hi' := Lib.hid hi
  have hb' := Lib.hid hb
  have e9 : ((x.ty : Int) != 9) = false := by rw [ht]; rfl
  have es : ((x.st : Int) != (m.st : Int)) = false := by rw [hs]; simp
  have HHS := Lib.hid hs
  clear hb hi ht hdn hfl hs
  go_enter Tryd.func9, Tryd.ntmps9
  go_upto_region 1 with fail
  rw [T7.out]
  go_upto_region 2 with (first | (refine wpList_build_is rfl 28 _ rfl (rgc gm0) (by kernel_rfl) ?_) | (refine wpList_sw (cs := rgc gm0) rfl _ _ rfl rfl rfl U1.out (rg_sz _ _) (rg_ok _) ?_))
  rw [U7.out]
  rw [← HN7.out]
  clear T7 U7 U1 HS
  generalize hp : w.heap.size = p at *
  have HP := Lib.hid hp
  clear hp
  obtain ⟨g0, g1, g2, g3, g4, g5⟩ := rg_cells RG.out
  obtain ⟨x0, x1, x2, x3, _⟩ := fm_cells RX.out
  rw [hi'.out] at g0
  obtain ⟨k, hk⟩ : ∃ k : Nat, k = m.more + 1 := ⟨_, rfl⟩
  have hwk : IntKind.i64.wrap ((m.more : Int) + 1) = (k : Int) := by rw [IntWalk.i64_in _ (by omega)]; omega
  obtain ⟨L, hL⟩ : ∃ L, m.blk ++ d = L := ⟨_, rfl⟩
  have htxt : (convert 29 9 (.slice x.dA x.dn x.dc)).run Tryd.prog w2 = .ok (.string (tb d)) w2 := by rw [HDN.out]; exact run_text Tryd.underlying29 Tryd.underlying5 Tryd.underlying9 HD.out
  have hadd := tb_add m.blk d (by omega) (by omega)
  rw [hL] at hadd
  obtain ⟨n, hn2⟩ : ∃ n, n = m.blk.length + d.length := ⟨_, rfl⟩
  have HGA : Hid (gadd m d = ⟨true, m.st, L, m.en, k, 0⟩) := by
    show _ = _
    unfold gadd
    rw [hL, hk]
  have hn1 : (tb L).size = n := by rw [tb_size, ← hL, List.length_append, hn2]
  have n8 : decide ((8192 : Int) < (n : Int)) = false := decide_eq_false (by omega)
  have n6 : (16 : Int) < (k : Int) := by omega
  have ht2 := RG.out.thawed 2
  have RG2 : Hid (Row (w2.setCell ⟨p, 2, none⟩ (.string (tb L))) p 28 (rgc ⟨true, m.st, L, m.en, m.more, 0⟩)) := by
    have := RG.out.stored 2 (.string (tb L))
    rw [rgc_blk hi'.out hb'.out] at this
    exact this
  have g42 := (rg_cells RG2.out).2.2.2.2.1
  have ht4 := RG2.out.thawed 4
  have RG3 : Hid (Row ((w2.setCell ⟨p, 2, none⟩ (.string (tb L))).setCell ⟨p, 4, none⟩ (.int .i64 k)) p 28 (rgc ⟨true, m.st, L, m.en, k, 0⟩)) := by
    have := RG2.out.stored 4 (.int .i64 k)
    rw [rgc_more] at this
    exact this
  have RX3 := Lib.hid ((RX.out.set_far (b := p + 1) (k := p) (by omega) 2 (.string (tb L))).set_far (b := p + 1) (k := p) (by omega) 4 (.int .i64 k))
  have R43 := Lib.hid ((R4.out.set_far (b := p + 2) (k := p) (by omega) 2 (.string (tb L))).set_far (b := p + 2) (k := p) (by omega) 4 (.int .i64 k))
  have R63 := Lib.hid ((R6.out.set_far (b := p + 3) (k := p) (by omega) 2 (.string (tb L))).set_far (b := p + 3) (k := p) (by omega) 4 (.int .i64 k))
  have R73 := Lib.hid ((R7.out.set_far (b := p + 4) (k := p) (by omega) 2 (.string (tb L))).set_far (b := p + 4) (k := p) (by omega) 4 (.int .i64 k))
  have HB3 := Lib.hid ((HB.out.setCell (p := ⟨p, 2, none⟩) (Nat.le_refl _) (.string (tb L))).setCell (p := ⟨p, 4, none⟩) (Nat.le_refl _) (.int .i64 k))
  clear hL hk hn2 hbl _hm hd h8 h6
  clear RG RX R4 R6 R7 HB HD RG2 HFA HHS
  go_upto_region 12 with fail
  clear g0 g1 g3 g5 x0 x2 eb e9 es hi' hb'
  go_upto_region 14 with fail
  clear g2 g4 x1 x3 htxt hadd ht2 ht4 g42 hwk
  generalize (w2.setCell ⟨p, 2, none⟩ (.string (tb L))).setCell ⟨p, 4, none⟩ (.int .i64 k) = w3 at *
  obtain ⟨_, _, g2, _, g4, _⟩ := rg_cells RG3.out
  obtain ⟨_, x1, _⟩ := fm_cells RX3.out
  have RG := RG3
  have R4 := R43
  have R6 := R63
  have R7 := R73
  have HB := HB3
  clear RG3 R43 R63 R73 HB3
  clear HFB
  go_wp2_with fail
  clear g2 g4 x1
  have RG' : Hid (Row w3.drew p 28 (rgc ⟨true, m.st, L, m.en, k, 0⟩)) := RG.out
  have R4' : Hid (Row w3.drew (p + 2) 28 (rgc gm0)) := R4.out
  have R6' : Hid (Row w3.drew (p + 3) 28 (rgc gm0)) := R6.out
  have R7' : Hid (Row w3.drew (p + 4) 28 (rgc gm0)) := R7.out
  have HB' : Hid (Below p w w3.drew) := HB.out.drew
  refine wp_region_held_drew (S := fun w' => Row w' p 28 (rgc ⟨true, m.st, L, m.en, k, 0⟩) ∧ Row w' (p + 4) 28 (rgc gm0)) (by kernel_rfl) ⟨RG'.out, R7'.out⟩ (fun hHeld => ?_)
  clear hHeld
  have hHeld : Row w3.drew p 28 (rgc ⟨true, m.st, L, m.en, k, 0⟩) ∧ Row w3.drew (p + 4) 28 (rgc gm0) := ⟨RG'.out, R7'.out⟩
  clear RG R4 R6 R7 HB
  generalize w3.drew = q at *
  refine wpAnyH_take (i := 0) (v := _) rfl (by kernel_rfl) (by kernel_rfl) (by kernel_rfl) (fun _ _ _ h => h) (yields_ld (by rfl) _ rfl rfl (rg_ok _) (fun _ hSw => hSw.1)) (by assumption) ?rest0w3
  try simp only [Act.put, List.getElem_toArray, List.getElem_cons_zero, List.setIfInBounds_toArray, List.set_cons_zero, List.set_cons_succ]
  refine wpAnyH_take (i := 2) (v := _) rfl (by kernel_rfl) (by kernel_rfl) (by kernel_rfl) (fun _ _ _ h => h) (yields_ld (by rfl) _ rfl rfl (rg_ok _) (fun _ hSw => hSw.2)) (by assumption) ?rest2w4
  try simp only [Act.put, List.getElem_toArray, List.getElem_cons_zero, List.getElem_cons_succ, List.setIfInBounds_toArray, List.set_cons_zero, List.set_cons_succ]
  refine wpAnyH_ready (rs := [1]) (by kernel_rfl) (by simp) ?_
  refine AllReadyH.cons rfl (fun K hK => ?_) AllReadyH.nil
  go_simp
  go_at_call 17
  refine (rfails_any _ 11 _).mono ?_
  rintro e q2 ⟨rfl, hq⟩
  have RG2 := Lib.hid (RG'.out.below hq RG'.out.lt)
  have R42 := Lib.hid (R4'.out.below hq R4'.out.lt)
  have R62 := Lib.hid (R6'.out.below hq R6'.out.lt)
  have R72 := Lib.hid (R7'.out.below hq R7'.out.lt)
  have HB2 := Lib.hid (HB'.out.trans (hq.mono (by have := HB'.out.size; have := HP.out; omega)))
  clear RG' R4' R6' R7' HB' hq hHeld
  refine hK.out _ _ ⟨RG2.out, R72.out⟩ (fun hHeld => ?_)
  clear hK K
  try simp only [Act.put, List.getElem_toArray, List.getElem_cons_zero, List.getElem_cons_succ, List.setIfInBounds_toArray, List.set_cons_zero, List.set_cons_succ]
  refine wpAnyH_ready (rs := [3]) (by kernel_rfl) (by simp) ?_
  refine AllReadyH.cons rfl (fun K hK => ?_) AllReadyH.nil
  refine step_sw (cs := rgc (gmF 11)) rfl _ _ rfl rfl rfl R42.out (rg_sz _ _) (rg_ok _) ?_
  refine hK.out _ _ ⟨RG2.out.row_far (by omega) _, R72.out.row_far (by omega) _⟩ (fun hHeld => ?_)
  clear hK K
  try simp only [Act.put, List.getElem_toArray, List.getElem_cons_zero, List.getElem_cons_succ]
  refine wpAnyH_take (i := 4) (v := ?v4q9) rfl (by kernel_rfl) (by kernel_rfl) (by kernel_rfl) (fun _ _ _ h => h) (Or.inl ⟨by rfl, ?hy4q9⟩) (by assumption) ?rest4q9
  case hy4q9 => (intro w hSw; (try dsimp only at hSw); go_simp <;> with_reducible rfl)
  try simp only [Act.put, List.getElem_toArray, List.getElem_cons_zero, List.getElem_cons_succ, List.setIfInBounds_toArray, List.set_cons_zero, List.set_cons_succ]
  refine wpAnyH_ready (rs := [5]) (by kernel_rfl) (by simp) ?_
  refine AllReadyH.cons rfl (fun K hK => ?_) AllReadyH.nil
  refine step_sw (cs := rgc gm0) rfl _ _ rfl rfl rfl (R62.out.row_far (by omega) _) (rg_sz _ _) (rg_ok _) ?_
  refine hK.out _ _ ⟨(RG2.out.row_far (by omega) _).row_far (by omega) _, (R72.out.row_far (by omega) _).row_far (by omega) _⟩ (fun hHeld => ?_)
  clear hK K
  try simp only [Act.put, List.getElem_toArray, List.getElem_cons_zero, List.getElem_cons_succ]
  refine wpAnyH_done (by kernel_rfl) ?_ _
  go_wp2_with fail
  refine bodyPost_ret (ret_ava' rfl _ rfl ((R42.out.setRow _).row_far (by omega) _) (rg_ok _) rfl rfl ((R62.out.row_far (by omega) _).setRow _) (rg_ok _)) rfl ?_
  refine ⟨?_, ?_⟩
  · first | rfl | (rw [HGA.out]; rfl)
  rw [HP.out]
  exact below_setRow (below_setRow HB2.out _ _ (by omega)) _ _ (by omega)
set_option maxRecDepth 100000 in
set_option maxHeartbeats 4000000 in
theorem rtk_more_end (m : Gm) (x : Fm) (d : List UInt8) (hb : m.bad = 0) (hi : m.busy = true) (ht : x.ty = 9) (hs : x.st = m.st) (hbl : m.blk.length ≤ 8192) (hm : m.more ≤ 16) (h8 : m.blk.length + d.length ≤ 8192) (h6 : m.more < 16) (h4 : x.fl / 4 % 2 = 1) (hfl : x.fl < 256) (hdn : x.dn = d.length) (hd : d.length ≤ 9000) {w : World} (hD : RdB w w.heap.size x.dA d) :
    Calls Tryd.prog 9 #[.agg (rgc m), .agg x.c] w (RTkP w ((gm0, true, gadd m d))) := by
  obtain ⟨w1, hw1, t1, t2, t3, t4, t5, t6⟩ := r_vars w m x
  obtain ⟨w2, hw2, u1, u2, u3⟩ := r_none w1
  have T7 := Lib.hid hw1
  have U7 := Lib.hid hw2
  have U1 := Lib.hid u1
  have R7 : Hid (Row w2 (w.heap.size + 4) 28 (rgc gm0)) := by
    have := u2
    rw [t6] at this
    exact this
  have RG := Lib.hid (t1.below u3 t1.lt)
  have RX := Lib.hid (t2.below u3 t2.lt)
  have R4 := Lib.hid (t3.below u3 t3.lt)
  have R6 := Lib.hid (t4.below u3 t4.lt)
  have HB := Lib.hid (t5.trans (u3.mono t5.size))
  have HS := Lib.hid t6
  have HN7 : Hid (w.heap.size + 4 = w1.heap.size) := t6.symm
  have HD : Hid (RdB w2 w.heap.size x.dA d) := (hD.below t5).below (u3.mono t5.size)
  have HDL : Hid (d.length ≤ 9000) := hd
  have HDN : Hid (x.dn = d.length) := hdn
  clear hw1 hw2 t1 t2 t3 t4 t5 t6 u1 u2 u3
  clear hD
  have HFA : Hid (∃ z : Nat, ((x.fl : Nat) : Int).tmod 2 = (z : Int) ∧ IntKind.u8.wrap (z : Int) = (z : Int) ∧ ((z : Int) == 1) = decide (x.fl % 2 = 1)) := fl_one hfl
  have HFB : Hid (∃ q4 y : Nat, ((x.fl : Nat) : Int).tdiv 4 = (q4 : Int) ∧ IntKind.u8.wrap (q4 : Int) = (q4 : Int) ∧ ((q4 : Nat) : Int).tmod 2 = (y : Int) ∧ IntKind.u8.wrap (y : Int) = (y : Int) ∧ ((y : Int) == 1) = decide (x.fl / 4 % 2 = 1)) := fl_four hfl
  have eb : ((m.bad : Int) != 0) = false := by rw [hb]; rfl
  have hi' := Lib.hid hi
  have hb' := Lib.hid hb
  have e9 : ((x.ty : Int) != 9) = false := by rw [ht]; rfl
  have es : ((x.st : Int) != (m.st : Int)) = false := by rw [hs]; simp
  have HH4 : Hid (decide (x.fl / 4 % 2 = 1) = true) := decide_eq_true h4
  clear h4
  have HHS := Lib.hid hs
  clear hb hi ht hdn hfl hs
  go_enter Tryd.func9, Tryd.ntmps9
  go_upto_region 1 with fail
  rw [T7.out]
  go_upto_region 2 with (first | (refine wpList_build_is rfl 28 _ rfl (rgc gm0) (by kernel_rfl) ?_) | (refine wpList_sw (cs := rgc gm0) rfl _ _ rfl rfl rfl U1.out (rg_sz _ _) (rg_ok _) ?_))
  rw [U7.out]
  rw [← HN7.out]
  clear T7 U7 U1 HS
  generalize hp : w.heap.size = p at *
  have HP := Lib.hid hp
  clear hp
  obtain ⟨g0, g1, g2, g3, g4, g5⟩ := rg_cells RG.out
  obtain ⟨x0, x1, x2, x3, _⟩ := fm_cells RX.out
  rw [hi'.out] at g0
  obtain ⟨k, hk⟩ : ∃ k : Nat, k = m.more + 1 := ⟨_, rfl⟩
  have hwk : IntKind.i64.wrap ((m.more : Int) + 1) = (k : Int) := by rw [IntWalk.i64_in _ (by omega)]; omega
  obtain ⟨L, hL⟩ : ∃ L, m.blk ++ d = L := ⟨_, rfl⟩
  have htxt : (convert 29 9 (.slice x.dA x.dn x.dc)).run Tryd.prog w2 = .ok (.string (tb d)) w2 := by rw [HDN.out]; exact run_text Tryd.underlying29 Tryd.underlying5 Tryd.underlying9 HD.out
  have hadd := tb_add m.blk d (by omega) (by omega)
  rw [hL] at hadd
  obtain ⟨n, hn2⟩ : ∃ n, n = m.blk.length + d.length := ⟨_, rfl⟩
  have HGA : Hid (gadd m d = ⟨true, m.st, L, m.en, k, 0⟩) := by
    show _ = _
    unfold gadd
    rw [hL, hk]
  have hn1 : (tb L).size = n := by rw [tb_size, ← hL, List.length_append, hn2]
  have n8 : decide ((8192 : Int) < (n : Int)) = false := decide_eq_false (by omega)
  have n6 : decide ((16 : Int) < (k : Int)) = false := decide_eq_false (by omega)
  have ht2 := RG.out.thawed 2
  have RG2 : Hid (Row (w2.setCell ⟨p, 2, none⟩ (.string (tb L))) p 28 (rgc ⟨true, m.st, L, m.en, m.more, 0⟩)) := by
    have := RG.out.stored 2 (.string (tb L))
    rw [rgc_blk hi'.out hb'.out] at this
    exact this
  have g42 := (rg_cells RG2.out).2.2.2.2.1
  have ht4 := RG2.out.thawed 4
  have RG3 : Hid (Row ((w2.setCell ⟨p, 2, none⟩ (.string (tb L))).setCell ⟨p, 4, none⟩ (.int .i64 k)) p 28 (rgc ⟨true, m.st, L, m.en, k, 0⟩)) := by
    have := RG2.out.stored 4 (.int .i64 k)
    rw [rgc_more] at this
    exact this
  have RX3 := Lib.hid ((RX.out.set_far (b := p + 1) (k := p) (by omega) 2 (.string (tb L))).set_far (b := p + 1) (k := p) (by omega) 4 (.int .i64 k))
  have R43 := Lib.hid ((R4.out.set_far (b := p + 2) (k := p) (by omega) 2 (.string (tb L))).set_far (b := p + 2) (k := p) (by omega) 4 (.int .i64 k))
  have R63 := Lib.hid ((R6.out.set_far (b := p + 3) (k := p) (by omega) 2 (.string (tb L))).set_far (b := p + 3) (k := p) (by omega) 4 (.int .i64 k))
  have R73 := Lib.hid ((R7.out.set_far (b := p + 4) (k := p) (by omega) 2 (.string (tb L))).set_far (b := p + 4) (k := p) (by omega) 4 (.int .i64 k))
  have HB3 := Lib.hid ((HB.out.setCell (p := ⟨p, 2, none⟩) (Nat.le_refl _) (.string (tb L))).setCell (p := ⟨p, 4, none⟩) (Nat.le_refl _) (.int .i64 k))
  clear hL hk hn2 hbl hm hd h8 h6
  clear RG RX R4 R6 R7 HB HD RG2 HFA HHS
  go_upto_region 12 with fail
  clear g0 g1 g3 g5 x0 x2 eb e9 es hi' hb'
  go_upto_region 14 with fail
  clear g2 g4 x1 x3 htxt hadd ht2 ht4 g42 hwk
  generalize (w2.setCell ⟨p, 2, none⟩ (.string (tb L))).setCell ⟨p, 4, none⟩ (.int .i64 k) = w3 at *
  obtain ⟨_, _, g2, _, g4, _⟩ := rg_cells RG3.out
  obtain ⟨_, x1, _⟩ := fm_cells RX3.out
  have RG := RG3
  have R4 := R43
  have R6 := R63
  have R7 := R73
  have HB := HB3
  clear RG3 R43 R63 R73 HB3
  obtain ⟨q4, y, hqm, hqw, hym, hyw, hye⟩ := HFB.out
  rw [HH4.out] at hye
  clear HFB HH4
  go_wp2_with fail
  clear g2 g4 x1
  have RG' : Hid (Row w3.drew p 28 (rgc ⟨true, m.st, L, m.en, k, 0⟩)) := RG.out
  have R4' : Hid (Row w3.drew (p + 2) 28 (rgc gm0)) := R4.out
  have R6' : Hid (Row w3.drew (p + 3) 28 (rgc gm0)) := R6.out
  have R7' : Hid (Row w3.drew (p + 4) 28 (rgc gm0)) := R7.out
  have HB' : Hid (Below p w w3.drew) := HB.out.drew
  refine wp_region_held_drew (S := fun w' => Row w' p 28 (rgc ⟨true, m.st, L, m.en, k, 0⟩) ∧ Row w' (p + 4) 28 (rgc gm0)) (by kernel_rfl) ⟨RG'.out, R7'.out⟩ (fun hHeld => ?_)
  clear hHeld
  have hHeld : Row w3.drew p 28 (rgc ⟨true, m.st, L, m.en, k, 0⟩) ∧ Row w3.drew (p + 4) 28 (rgc gm0) := ⟨RG'.out, R7'.out⟩
  clear RG R4 R6 R7 HB
  generalize w3.drew = q at *
  refine wpAnyH_take (i := 0) (v := _) rfl (by kernel_rfl) (by kernel_rfl) (by kernel_rfl) (fun _ _ _ h => h) (yields_ld (by rfl) _ rfl rfl (rg_ok _) (fun _ hSw => hSw.2)) (by assumption) ?rest0w5
  try simp only [Act.put, List.getElem_toArray, List.getElem_cons_zero, List.setIfInBounds_toArray, List.set_cons_zero, List.set_cons_succ]
  refine wpAnyH_take (i := 1) (v := _) rfl (by kernel_rfl) (by kernel_rfl) (by kernel_rfl) (fun _ _ _ h => h) (yields_ld (by rfl) _ rfl rfl (rg_ok _) (fun _ hSw => hSw.1)) (by assumption) ?rest1w6
  try simp only [Act.put, List.getElem_toArray, List.getElem_cons_zero, List.getElem_cons_succ, List.setIfInBounds_toArray, List.set_cons_zero, List.set_cons_succ]
  refine wpAnyH_ready (rs := [2]) (by kernel_rfl) (by simp) ?_
  refine AllReadyH.cons rfl (fun K hK => ?_) AllReadyH.nil
  refine step_sw (cs := rgc gm0) rfl _ _ rfl rfl rfl R4'.out (rg_sz _ _) (rg_ok _) ?_
  refine hK.out _ _ ⟨RG'.out.row_far (by omega) _, R7'.out.row_far (by omega) _⟩ (fun hHeld => ?_)
  clear hK K
  try simp only [Act.put, List.getElem_toArray, List.getElem_cons_zero, List.getElem_cons_succ]
  refine wpAnyH_take (i := 3) (v := ?v3q10) rfl (by kernel_rfl) (by kernel_rfl) (by kernel_rfl) (fun _ _ _ h => h) (Or.inl ⟨by rfl, ?hy3q10⟩) (by assumption) ?rest3q10
  case hy3q10 => (intro w hSw; (try dsimp only at hSw); go_simp <;> with_reducible rfl)
  try simp only [Act.put, List.getElem_toArray, List.getElem_cons_zero, List.getElem_cons_succ, List.setIfInBounds_toArray, List.set_cons_zero, List.set_cons_succ]
  refine wpAnyH_ready (rs := [4]) (by kernel_rfl) (by simp) ?_
  refine AllReadyH.cons rfl (fun K hK => ?_) AllReadyH.nil
  refine step_sw (cs := rgc ⟨true, m.st, L, m.en, k, 0⟩) rfl _ _ rfl rfl rfl (R6'.out.row_far (by omega) _) (rg_sz _ _) (rg_ok _) ?_
  refine hK.out _ _ ⟨(RG'.out.row_far (by omega) _).row_far (by omega) _, (R7'.out.row_far (by omega) _).row_far (by omega) _⟩ (fun hHeld => ?_)
  clear hK K
  try simp only [Act.put, List.getElem_toArray, List.getElem_cons_zero, List.getElem_cons_succ]
  refine wpAnyH_done (by kernel_rfl) ?_ _
  go_wp2_with fail
  refine bodyPost_ret (ret_ava' rfl _ rfl ((R4'.out.setRow _).row_far (by omega) _) (rg_ok _) rfl rfl ((R6'.out.row_far (by omega) _).setRow _) (rg_ok _)) rfl ?_
  refine ⟨?_, ?_⟩
  · first | rfl | (rw [HGA.out]; rfl)
  rw [HP.out]
  exact below_setRow (below_setRow HB'.out _ _ (by omega)) _ _ (by omega)
set_option maxRecDepth 100000 in
set_option maxHeartbeats 4000000 in
theorem rtk_more_on (m : Gm) (x : Fm) (d : List UInt8) (hb : m.bad = 0) (hi : m.busy = true) (ht : x.ty = 9) (hs : x.st = m.st) (hbl : m.blk.length ≤ 8192) (hm : m.more ≤ 16) (h8 : m.blk.length + d.length ≤ 8192) (h6 : m.more < 16) (h4 : x.fl / 4 % 2 ≠ 1) (hfl : x.fl < 256) (hdn : x.dn = d.length) (hd : d.length ≤ 9000) {w : World} (hD : RdB w w.heap.size x.dA d) :
    Calls Tryd.prog 9 #[.agg (rgc m), .agg x.c] w (RTkP w ((gadd m d, false, gm0))) := by
  obtain ⟨w1, hw1, t1, t2, t3, t4, t5, t6⟩ := r_vars w m x
  obtain ⟨w2, hw2, u1, u2, u3⟩ := r_none w1
  have T7 := Lib.hid hw1
  have U7 := Lib.hid hw2
  have U1 := Lib.hid u1
  have R7 : Hid (Row w2 (w.heap.size + 4) 28 (rgc gm0)) := by
    have := u2
    rw [t6] at this
    exact this
  have RG := Lib.hid (t1.below u3 t1.lt)
  have RX := Lib.hid (t2.below u3 t2.lt)
  have R4 := Lib.hid (t3.below u3 t3.lt)
  have R6 := Lib.hid (t4.below u3 t4.lt)
  have HB := Lib.hid (t5.trans (u3.mono t5.size))
  have HS := Lib.hid t6
  have HN7 : Hid (w.heap.size + 4 = w1.heap.size) := t6.symm
  have HD : Hid (RdB w2 w.heap.size x.dA d) := (hD.below t5).below (u3.mono t5.size)
  have HDL : Hid (d.length ≤ 9000) := hd
  have HDN : Hid (x.dn = d.length) := hdn
  clear hw1 hw2 t1 t2 t3 t4 t5 t6 u1 u2 u3
  clear hD
  have HFA : Hid (∃ z : Nat, ((x.fl : Nat) : Int).tmod 2 = (z : Int) ∧ IntKind.u8.wrap (z : Int) = (z : Int) ∧ ((z : Int) == 1) = decide (x.fl % 2 = 1)) := fl_one hfl
  have HFB : Hid (∃ q4 y : Nat, ((x.fl : Nat) : Int).tdiv 4 = (q4 : Int) ∧ IntKind.u8.wrap (q4 : Int) = (q4 : Int) ∧ ((q4 : Nat) : Int).tmod 2 = (y : Int) ∧ IntKind.u8.wrap (y : Int) = (y : Int) ∧ ((y : Int) == 1) = decide (x.fl / 4 % 2 = 1)) := fl_four hfl
  have eb : ((m.bad : Int) != 0) = false := by rw [hb]; rfl
  have hi' := Lib.hid hi
  have hb' := Lib.hid hb
  have e9 : ((x.ty : Int) != 9) = false := by rw [ht]; rfl
  have es : ((x.st : Int) != (m.st : Int)) = false := by rw [hs]; simp
  have HH4 : Hid (decide (x.fl / 4 % 2 = 1) = false) := decide_eq_false h4
  clear h4
  have HHS := Lib.hid hs
  clear hb hi ht hdn hfl hs
  go_enter Tryd.func9, Tryd.ntmps9
  go_upto_region 1 with fail
  rw [T7.out]
  go_upto_region 2 with (first | (refine wpList_build_is rfl 28 _ rfl (rgc gm0) (by kernel_rfl) ?_) | (refine wpList_sw (cs := rgc gm0) rfl _ _ rfl rfl rfl U1.out (rg_sz _ _) (rg_ok _) ?_))
  rw [U7.out]
  rw [← HN7.out]
  clear T7 U7 U1 HS
  generalize hp : w.heap.size = p at *
  have HP := Lib.hid hp
  clear hp
  obtain ⟨g0, g1, g2, g3, g4, g5⟩ := rg_cells RG.out
  obtain ⟨x0, x1, x2, x3, _⟩ := fm_cells RX.out
  rw [hi'.out] at g0
  obtain ⟨k, hk⟩ : ∃ k : Nat, k = m.more + 1 := ⟨_, rfl⟩
  have hwk : IntKind.i64.wrap ((m.more : Int) + 1) = (k : Int) := by rw [IntWalk.i64_in _ (by omega)]; omega
  obtain ⟨L, hL⟩ : ∃ L, m.blk ++ d = L := ⟨_, rfl⟩
  have htxt : (convert 29 9 (.slice x.dA x.dn x.dc)).run Tryd.prog w2 = .ok (.string (tb d)) w2 := by rw [HDN.out]; exact run_text Tryd.underlying29 Tryd.underlying5 Tryd.underlying9 HD.out
  have hadd := tb_add m.blk d (by omega) (by omega)
  rw [hL] at hadd
  obtain ⟨n, hn2⟩ : ∃ n, n = m.blk.length + d.length := ⟨_, rfl⟩
  have HGA : Hid (gadd m d = ⟨true, m.st, L, m.en, k, 0⟩) := by
    show _ = _
    unfold gadd
    rw [hL, hk]
  have hn1 : (tb L).size = n := by rw [tb_size, ← hL, List.length_append, hn2]
  have n8 : decide ((8192 : Int) < (n : Int)) = false := decide_eq_false (by omega)
  have n6 : decide ((16 : Int) < (k : Int)) = false := decide_eq_false (by omega)
  have ht2 := RG.out.thawed 2
  have RG2 : Hid (Row (w2.setCell ⟨p, 2, none⟩ (.string (tb L))) p 28 (rgc ⟨true, m.st, L, m.en, m.more, 0⟩)) := by
    have := RG.out.stored 2 (.string (tb L))
    rw [rgc_blk hi'.out hb'.out] at this
    exact this
  have g42 := (rg_cells RG2.out).2.2.2.2.1
  have ht4 := RG2.out.thawed 4
  have RG3 : Hid (Row ((w2.setCell ⟨p, 2, none⟩ (.string (tb L))).setCell ⟨p, 4, none⟩ (.int .i64 k)) p 28 (rgc ⟨true, m.st, L, m.en, k, 0⟩)) := by
    have := RG2.out.stored 4 (.int .i64 k)
    rw [rgc_more] at this
    exact this
  have RX3 := Lib.hid ((RX.out.set_far (b := p + 1) (k := p) (by omega) 2 (.string (tb L))).set_far (b := p + 1) (k := p) (by omega) 4 (.int .i64 k))
  have R43 := Lib.hid ((R4.out.set_far (b := p + 2) (k := p) (by omega) 2 (.string (tb L))).set_far (b := p + 2) (k := p) (by omega) 4 (.int .i64 k))
  have R63 := Lib.hid ((R6.out.set_far (b := p + 3) (k := p) (by omega) 2 (.string (tb L))).set_far (b := p + 3) (k := p) (by omega) 4 (.int .i64 k))
  have R73 := Lib.hid ((R7.out.set_far (b := p + 4) (k := p) (by omega) 2 (.string (tb L))).set_far (b := p + 4) (k := p) (by omega) 4 (.int .i64 k))
  have HB3 := Lib.hid ((HB.out.setCell (p := ⟨p, 2, none⟩) (Nat.le_refl _) (.string (tb L))).setCell (p := ⟨p, 4, none⟩) (Nat.le_refl _) (.int .i64 k))
  clear hL hk hn2 hbl hm hd h8 h6
  clear RG RX R4 R6 R7 HB HD RG2 HFA HHS
  go_upto_region 12 with fail
  clear g0 g1 g3 g5 x0 x2 eb e9 es hi' hb'
  go_upto_region 14 with fail
  clear g2 g4 x1 x3 htxt hadd ht2 ht4 g42 hwk
  generalize (w2.setCell ⟨p, 2, none⟩ (.string (tb L))).setCell ⟨p, 4, none⟩ (.int .i64 k) = w3 at *
  obtain ⟨_, _, g2, _, g4, _⟩ := rg_cells RG3.out
  obtain ⟨_, x1, _⟩ := fm_cells RX3.out
  have RG := RG3
  have R4 := R43
  have R6 := R63
  have R7 := R73
  have HB := HB3
  clear RG3 R43 R63 R73 HB3
  obtain ⟨q4, y, hqm, hqw, hym, hyw, hye⟩ := HFB.out
  rw [HH4.out] at hye
  clear HFB HH4
  go_wp2_with fail
  clear g2 g4 x1
  have RG' : Hid (Row w3.drew p 28 (rgc ⟨true, m.st, L, m.en, k, 0⟩)) := RG.out
  have R4' : Hid (Row w3.drew (p + 2) 28 (rgc gm0)) := R4.out
  have R6' : Hid (Row w3.drew (p + 3) 28 (rgc gm0)) := R6.out
  have R7' : Hid (Row w3.drew (p + 4) 28 (rgc gm0)) := R7.out
  have HB' : Hid (Below p w w3.drew) := HB.out.drew
  refine wp_region_held_drew (S := fun w' => Row w' p 28 (rgc ⟨true, m.st, L, m.en, k, 0⟩) ∧ Row w' (p + 4) 28 (rgc gm0)) (by kernel_rfl) ⟨RG'.out, R7'.out⟩ (fun hHeld => ?_)
  clear hHeld
  have hHeld : Row w3.drew p 28 (rgc ⟨true, m.st, L, m.en, k, 0⟩) ∧ Row w3.drew (p + 4) 28 (rgc gm0) := ⟨RG'.out, R7'.out⟩
  clear RG R4 R6 R7 HB
  generalize w3.drew = q at *
  refine wpAnyH_take (i := 0) (v := _) rfl (by kernel_rfl) (by kernel_rfl) (by kernel_rfl) (fun _ _ _ h => h) (yields_ld (by rfl) _ rfl rfl (rg_ok _) (fun _ hSw => hSw.1)) (by assumption) ?rest0w7
  try simp only [Act.put, List.getElem_toArray, List.getElem_cons_zero, List.setIfInBounds_toArray, List.set_cons_zero, List.set_cons_succ]
  refine wpAnyH_take (i := 1) (v := _) rfl (by kernel_rfl) (by kernel_rfl) (by kernel_rfl) (fun _ _ _ h => h) (yields_ld (by rfl) _ rfl rfl (rg_ok _) (fun _ hSw => hSw.2)) (by assumption) ?rest1w8
  try simp only [Act.put, List.getElem_toArray, List.getElem_cons_zero, List.getElem_cons_succ, List.setIfInBounds_toArray, List.set_cons_zero, List.set_cons_succ]
  refine wpAnyH_ready (rs := [2]) (by kernel_rfl) (by simp) ?_
  refine AllReadyH.cons rfl (fun K hK => ?_) AllReadyH.nil
  refine step_sw (cs := rgc ⟨true, m.st, L, m.en, k, 0⟩) rfl _ _ rfl rfl rfl R4'.out (rg_sz _ _) (rg_ok _) ?_
  refine hK.out _ _ ⟨RG'.out.row_far (by omega) _, R7'.out.row_far (by omega) _⟩ (fun hHeld => ?_)
  clear hK K
  try simp only [Act.put, List.getElem_toArray, List.getElem_cons_zero, List.getElem_cons_succ]
  refine wpAnyH_take (i := 3) (v := ?v3q11) rfl (by kernel_rfl) (by kernel_rfl) (by kernel_rfl) (fun _ _ _ h => h) (Or.inl ⟨by rfl, ?hy3q11⟩) (by assumption) ?rest3q11
  case hy3q11 => (intro w hSw; (try dsimp only at hSw); go_simp <;> with_reducible rfl)
  try simp only [Act.put, List.getElem_toArray, List.getElem_cons_zero, List.getElem_cons_succ, List.setIfInBounds_toArray, List.set_cons_zero, List.set_cons_succ]
  refine wpAnyH_ready (rs := [4]) (by kernel_rfl) (by simp) ?_
  refine AllReadyH.cons rfl (fun K hK => ?_) AllReadyH.nil
  refine step_sw (cs := rgc gm0) rfl _ _ rfl rfl rfl (R6'.out.row_far (by omega) _) (rg_sz _ _) (rg_ok _) ?_
  refine hK.out _ _ ⟨(RG'.out.row_far (by omega) _).row_far (by omega) _, (R7'.out.row_far (by omega) _).row_far (by omega) _⟩ (fun hHeld => ?_)
  clear hK K
  try simp only [Act.put, List.getElem_toArray, List.getElem_cons_zero, List.getElem_cons_succ]
  refine wpAnyH_done (by kernel_rfl) ?_ _
  go_wp2_with fail
  refine bodyPost_ret (ret_ava' rfl _ rfl ((R4'.out.setRow _).row_far (by omega) _) (rg_ok _) rfl rfl ((R6'.out.row_far (by omega) _).setRow _) (rg_ok _)) rfl ?_
  refine ⟨?_, ?_⟩
  · first | rfl | (rw [HGA.out]; rfl)
  rw [HP.out]
  exact below_setRow (below_setRow HB'.out _ _ (by omega)) _ _ (by omega)
theorem rtake_any (m : Gm) (hok : m.Ok) (x : Fm) (d : List UInt8) (hfl : x.fl < 256) (hdn : x.dn = d.length) (hd : d.length ≤ 9000) {w : World} (hD : RdB w w.heap.size x.dA d) :
    Calls Tryd.prog 9 #[.agg (rgc m), .agg x.c] w (RTkP w (gtk m x.ty x.fl x.st d)) := by
  by_cases hb : m.bad = 0
  · cases hi : m.busy
    · by_cases h1 : x.ty = 1
      · rw [gtk_head hb hi h1]
        by_cases h8 : 8192 < d.length
        · rw [gfin_great (.inl h8)]
          exact rtk_head_great m x d hb hi h1 h8 hfl hdn hd hD
        · have hne : ¬ (8192 < (gbeg x.fl x.st d).blk.length ∨ 16 < (gbeg x.fl x.st d).more) := by
            show ¬ (8192 < d.length ∨ 16 < 0)
            omega
          by_cases h4 : x.fl / 4 % 2 = 1
          · rw [gfin_end hne h4]
            exact rtk_head_end m x d hb hi h1 (by omega) h4 hfl hdn hd hD
          · rw [gfin_on hne h4]
            exact rtk_head_on m x d hb hi h1 (by omega) h4 hfl hdn hd hD
      · by_cases h9 : x.ty = 9
        · exact rtk_lone m x d hb hi h9 w
        · exact rtk_pass m x d hb hi h1 h9 w
    · by_cases h9 : x.ty = 9
      · by_cases hs : x.st = m.st
        · rw [gtk_more hb hi ⟨h9, hs⟩]
          have hl := hok.len
          have hm := hok.mor
          by_cases h8 : 8192 < m.blk.length + d.length
          · rw [gfin_great (.inl (by show 8192 < (m.blk ++ d).length; rw [List.length_append]; exact h8))]
            exact rtk_more_great m x d hb hi h9 hs hl hm h8 hfl hdn hd hD
          · by_cases h6 : m.more = 16
            · rw [gfin_great (.inr (by show 16 < m.more + 1; omega))]
              exact rtk_more_many m x d hb hi h9 hs hl hm (by omega) h6 hfl hdn hd hD
            · have hne : ¬ (8192 < (gadd m d).blk.length ∨ 16 < (gadd m d).more) := by
                show ¬ (8192 < (m.blk ++ d).length ∨ 16 < m.more + 1)
                rw [List.length_append]
                omega
              by_cases h4 : x.fl / 4 % 2 = 1
              · rw [gfin_end hne h4]
                exact rtk_more_end m x d hb hi h9 hs hl hm (by omega) (by omega) h4 hfl hdn hd hD
              · rw [gfin_on hne h4]
                exact rtk_more_on m x d hb hi h9 hs hl hm (by omega) (by omega) h4 hfl hdn hd hD
        · exact rtk_else_st m x d hb hi h9 hs w
      · exact rtk_else_ty m x d hb hi h9 w
  · exact rtk_bad m x d hb w
end Go.Proofs.YtcbepicdnmnfaaaDoor
