/-
  The document's gatherer: fails, and Take where nothing is added, by their contracts. No conditions but those that each theorem names.
-/
import Derived.Test.YtcbepicdnmnfaaaDoorYtk
import Derived.Deep.RegionHeld3
namespace Go.Proofs.YtcbepicdnmnfaaaDoor
open Go.RowKit Go.WideShapes

theorem tb_size (l : List UInt8) : (tb l).size = l.length := by simp [tb, ByteArray.size]
theorem tb_append (a b : List UInt8) : tb a ++ tb b = tb (a ++ b) := by unfold tb; rw [ByteArray.mk_append_mk]
theorem tb_add (a b : List UInt8) (ha : a.length ≤ 1000000) (hb : b.length ≤ 1000000) (W : World) : (Op.stringOp .add (tb a) (tb b)).run Tryd.prog W = .ok (.string (tb (a ++ b))) W := by
  rw [← tb_append]
  exact run_string_add W (tb a) (tb b) (by rw [tb_size]; omega) (by rw [tb_size]; omega)
theorem rg_zero : #[Value.bool false, .int .u32 0, .string ⟨#[]⟩, .bool false, .int .i64 0, .int .i64 0] = rgc gm0 := rfl
theorem rg_cells {w : World} {g : Nat} {m : Gm} (h : Row w g 28 (rgc m)) : w.cell? ⟨g, 0, none⟩ = some (.bool m.busy) ∧ w.cell? ⟨g, 1, none⟩ = some (.int .u32 m.st) ∧ w.cell? ⟨g, 2, none⟩ = some (.string (tb m.blk)) ∧ w.cell? ⟨g, 3, none⟩ = some (.bool m.en) ∧ w.cell? ⟨g, 4, none⟩ = some (.int .i64 m.more) ∧ w.cell? ⟨g, 5, none⟩ = some (.int .i64 m.bad) :=
  ⟨h.cell rfl, h.cell rfl, h.cell rfl, h.cell rfl, h.cell rfl, h.cell rfl⟩
theorem fails_var (w : World) (m : Gm) : ∃ w', (w.alloc (.cells (rgc m) 28)).alloc (.cells #[.bool false, .int .u32 0, .string ⟨#[]⟩, .bool false, .int .i64 0, .int .i64 0] 28) = w' ∧ Row w' (w.heap.size + 1) 28 (rgc gm0) ∧ Below w.heap.size w w' :=
  ⟨_, rfl, by rw [rg_zero]; exact Row.made _ _ _ (by simp), ((Below.refl _ _).alloc (Nat.le_refl _) _).alloc (by simp) _⟩
/-- The five variables of the document's Take. -/
theorem r_vars (w : World) (m : Gm) (x : Fm) : ∃ w', (((((w.alloc (.cells (rgc m) 28)).alloc (.cells x.c 32)).alloc (.cells #[.bool false, .int .u32 0, .string ⟨#[]⟩, .bool false, .int .i64 0, .int .i64 0] 28)).alloc (.cells #[.bool false, .int .u32 0, .string ⟨#[]⟩, .bool false, .int .i64 0, .int .i64 0] 28))) = w' ∧
    Row w' w.heap.size 28 (rgc m) ∧ Row w' (w.heap.size + 1) 32 x.c ∧ Row w' (w.heap.size + 2) 28 (rgc gm0) ∧ Row w' (w.heap.size + 3) 28 (rgc gm0) ∧ Below w.heap.size w w' ∧ w'.heap.size = w.heap.size + 4 := by
  refine ⟨_, rfl, (((Row.new w _ _).alloc _).alloc _).alloc _, ((Row.made _ _ _ (by simp)).alloc _).alloc _, ?_, ?_, ((((Below.refl _ _).alloc (Nat.le_refl _) _).alloc (by simp) _).alloc (by simp; omega) _).alloc (by simp; omega) _, by simp⟩
  · rw [rg_zero]; exact (Row.made _ _ _ (by simp)).alloc _
  · rw [rg_zero]; exact Row.made _ _ _ (by simp)
theorem r_none (w : World) : ∃ w', (w.alloc (.cells #[.bool false, .int .u32 0, .string ⟨#[]⟩, .bool false, .int .i64 0, .int .i64 0] 28)).setRow w.heap.size (rgc gm0) = w' ∧ Row (w.alloc (.cells #[.bool false, .int .u32 0, .string ⟨#[]⟩, .bool false, .int .i64 0, .int .i64 0] 28)) w.heap.size 28 (rgc gm0) ∧ Row w' w.heap.size 28 (rgc gm0) ∧ Below w.heap.size w w' := by
  have h1 : Row (w.alloc (.cells #[.bool false, .int .u32 0, .string ⟨#[]⟩, .bool false, .int .i64 0, .int .i64 0] 28)) w.heap.size 28 (rgc gm0) := by rw [rg_zero]; exact Row.new w _ _
  exact ⟨_, rfl, h1, h1.setRow _, below_setRow ((Below.refl _ _).alloc (Nat.le_refl _) _) _ _ (by omega)⟩
/-- What the document's Take leaves. -/
def RTkP (w : World) (r : Gm × Bool × Gm) (e : Ending) (w' : World) : Prop := e = .returned (.tuple #[.agg (rgc r.1), .bool r.2.1, .agg (rgc r.2.2)]) ∧ Below w.heap.size w w'
/-- Handed back out of two variables, and a value. -/
theorem ret_ava' {P : Program} {T T' : TypeId} {fn : Func} {p q r : Tmp} {v : Value} {w : World} {g g' : Nat} {cs cs' : Array Value} (h : fn.results = #[.cell p T, .tmp q, .cell r T']) (tmps : Array Value) (hp : tmps.getD p undef = .pointer (some ⟨g, 0, none⟩)) (hR : Row w g T cs) (hk : AgOk P T cs)
    (hq : tmps.getD q undef = v) (hr : tmps.getD r undef = .pointer (some ⟨g', 0, none⟩)) (hR' : Row w g' T' cs') (hk' : AgOk P T' cs') : (results fn tmps).run P w = .ok (.tuple #[.agg cs, v, .agg cs']) w := by
  have hl := run_ld hk hR
  have hl' := run_ld hk' hR'
  have hp' : tmps[p]?.getD undef = .pointer (some ⟨g, 0, none⟩) := by simpa using hp
  have hq' : tmps[q]?.getD undef = v := by simpa using hq
  have hr' : tmps[r]?.getD undef = .pointer (some ⟨g', 0, none⟩) := by simpa using hr
  simp only [results, h]
  simp [hp', hq', hr', asAddr, hl, hl']
attribute [local irreducible] Fm.c rgc
set_option maxRecDepth 100000 in
set_option maxHeartbeats 4000000 in
theorem rfails_any (m : Gm) (n : Nat) (w : World) : Calls Tryd.prog 17 #[.agg (rgc m), .int .i64 n] w fun e w' => e = .returned (.agg (rgc (gmF n))) ∧ Below w.heap.size w w' := by
  obtain ⟨w1, hw1, t1, t2⟩ := fails_var w m
  have T7 := Lib.hid hw1
  have T1 := Lib.hid t1
  have T2 := Lib.hid t2
  clear hw1 t1 t2
  go_enter Tryd.func17, Tryd.ntmps17
  go_upto_region 1 with fail
  rw [T7.out]
  clear T7
  go_wp2_with (first | (refine wpList_build_is rfl 28 _ rfl (rgc (gmF n)) (by kernel_rfl) ?_) | (refine wpList_sw (cs := rgc (gmF n)) rfl _ _ rfl rfl rfl T1.out (rg_sz _ _) (rg_ok _) ?_))
  refine bodyPost_ret (v := .agg (rgc (gmF n))) (ret_ag rfl _ rfl (T1.out.setRow _) (rg_ok _)) rfl ?_
  exact ⟨rfl, below_setRow T2.out _ _ (by omega)⟩
set_option maxRecDepth 100000 in
set_option maxHeartbeats 4000000 in
theorem rtk_bad (m : Gm) (x : Fm) (d : List UInt8) (hb : m.bad ≠ 0) (w : World) :
    Calls Tryd.prog 9 #[.agg (rgc m), .agg x.c] w (RTkP w (gtk m x.ty x.fl x.st d)) := by
  rw [gtk_bad hb]
  obtain ⟨w1, hw1, t1, t2, t3, t4, t5, t6⟩ := r_vars w m x
  obtain ⟨w2, hw2, u1, u2, u3⟩ := r_none w1
  have T7 := Lib.hid hw1
  have U7 := Lib.hid hw2
  have U1 := Lib.hid u1
  have R7 : Hid (Row w2 (w.heap.size + 4) 28 (rgc gm0)) := by
    have := u2
    rw [t6] at this
    exact this
  have RG := Lib.hid (t1.below u3 t1.lt)
  have RX := Lib.hid (t2.below u3 t2.lt)
  have R4 := Lib.hid (t3.below u3 t3.lt)
  have R6 := Lib.hid (t4.below u3 t4.lt)
  have HB := Lib.hid (t5.trans (u3.mono t5.size))
  have HS := Lib.hid t6
  have HN7 : Hid (w.heap.size + 4 = w1.heap.size) := t6.symm
  clear hw1 hw2 t1 t2 t3 t4 t5 t6 u1 u2 u3
  have eb : ((m.bad : Int) != 0) = true := bne_iff_ne.2 (by omega)
  clear hb
  go_enter Tryd.func9, Tryd.ntmps9
  go_upto_region 1 with fail
  rw [T7.out]
  go_upto_region 2 with (first | (refine wpList_build_is rfl 28 _ rfl (rgc gm0) (by kernel_rfl) ?_) | (refine wpList_sw (cs := rgc gm0) rfl _ _ rfl rfl rfl U1.out (rg_sz _ _) (rg_ok _) ?_))
  rw [U7.out]
  rw [← HN7.out]
  clear T7 U7 U1 HS
  generalize hp : w.heap.size = p at *
  have HP := Lib.hid hp
  clear hp
  obtain ⟨g0, g1, g2, g3, g4, g5⟩ := rg_cells RG.out
  obtain ⟨x0, x1, x2, x3, _⟩ := fm_cells RX.out
  go_wp2_with fail
  clear g0 g1 g2 g3 g4 g5 x0 x1 x2 x3
  have RG' : Hid (Row w2.drew p 28 (rgc m)) := RG.out
  have R4' : Hid (Row w2.drew (p + 2) 28 (rgc gm0)) := R4.out
  have R6' : Hid (Row w2.drew (p + 3) 28 (rgc gm0)) := R6.out
  have R7' : Hid (Row w2.drew (p + 4) 28 (rgc gm0)) := R7.out
  have HB' : Hid (Below p w w2.drew) := HB.out.drew
  refine wp_region_held_drew (S := fun w' => Row w' p 28 (rgc m) ∧ Row w' (p + 4) 28 (rgc gm0)) (by kernel_rfl) ⟨RG'.out, R7'.out⟩ (fun hHeld => ?_)
  clear hHeld
  have hHeld : Row w2.drew p 28 (rgc m) ∧ Row w2.drew (p + 4) 28 (rgc gm0) := ⟨RG'.out, R7'.out⟩
  clear RG R4 R6 R7 HB
  generalize w2.drew = q at *
  refine wpAnyH_take (i := 0) (v := _) rfl (by kernel_rfl) (by kernel_rfl) (by kernel_rfl) (fun _ _ _ h => h) (yields_ld (by rfl) _ rfl rfl (rg_ok _) (fun _ hSw => hSw.1)) (by assumption) ?rest0w1
  try simp only [Act.put, List.getElem_toArray, List.getElem_cons_zero, List.setIfInBounds_toArray, List.set_cons_zero, List.set_cons_succ]
  refine wpAnyH_take (i := 1) (v := _) rfl (by kernel_rfl) (by kernel_rfl) (by kernel_rfl) (fun _ _ _ h => h) (yields_ld (by rfl) _ rfl rfl (rg_ok _) (fun _ hSw => hSw.2)) (by assumption) ?rest1w2
  try simp only [Act.put, List.getElem_toArray, List.getElem_cons_zero, List.getElem_cons_succ, List.setIfInBounds_toArray, List.set_cons_zero, List.set_cons_succ]
  refine wpAnyH_ready (rs := [2]) (by kernel_rfl) (by simp) ?_
  refine AllReadyH.cons rfl (fun K hK => ?_) AllReadyH.nil
  refine step_sw (cs := rgc m) rfl _ _ rfl rfl rfl R4'.out (rg_sz _ _) (rg_ok _) ?_
  refine hK.out _ _ ⟨RG'.out.row_far (by omega) _, R7'.out.row_far (by omega) _⟩ (fun hHeld => ?_)
  clear hK K
  try simp only [Act.put, List.getElem_toArray, List.getElem_cons_zero, List.getElem_cons_succ]
  refine wpAnyH_take (i := 3) (v := ?v3) rfl (by kernel_rfl) (by kernel_rfl) (by kernel_rfl) (fun _ _ _ h => h) (Or.inl ⟨by rfl, ?hy3⟩) (by assumption) ?rest3
  case hy3 => (intro w hSw; (try dsimp only at hSw); go_simp <;> with_reducible rfl)
  try simp only [Act.put, List.getElem_toArray, List.getElem_cons_zero, List.getElem_cons_succ, List.setIfInBounds_toArray, List.set_cons_zero, List.set_cons_succ]
  refine wpAnyH_ready (rs := [4]) (by kernel_rfl) (by simp) ?_
  refine AllReadyH.cons rfl (fun K hK => ?_) AllReadyH.nil
  refine step_sw (cs := rgc gm0) rfl _ _ rfl rfl rfl (R6'.out.row_far (by omega) _) (rg_sz _ _) (rg_ok _) ?_
  refine hK.out _ _ ⟨(RG'.out.row_far (by omega) _).row_far (by omega) _, (R7'.out.row_far (by omega) _).row_far (by omega) _⟩ (fun hHeld => ?_)
  clear hK K
  try simp only [Act.put, List.getElem_toArray, List.getElem_cons_zero, List.getElem_cons_succ]
  refine wpAnyH_done (by kernel_rfl) ?_ _
  go_wp2_with fail
  refine bodyPost_ret (ret_ava' rfl _ rfl ((R4'.out.setRow _).row_far (by omega) _) (rg_ok _) rfl rfl ((R6'.out.row_far (by omega) _).setRow _) (rg_ok _)) rfl ⟨rfl, ?_⟩
  rw [HP.out]
  exact below_setRow (below_setRow HB'.out _ _ (by omega)) _ _ (by omega)
set_option maxRecDepth 100000 in
set_option maxHeartbeats 4000000 in
theorem rtk_lone (m : Gm) (x : Fm) (d : List UInt8) (hb : m.bad = 0) (hi : m.busy = false) (ht : x.ty = 9) (w : World) :
    Calls Tryd.prog 9 #[.agg (rgc m), .agg x.c] w (RTkP w (gtk m x.ty x.fl x.st d)) := by
  rw [gtk_lone hb hi ht]
  obtain ⟨w1, hw1, t1, t2, t3, t4, t5, t6⟩ := r_vars w m x
  obtain ⟨w2, hw2, u1, u2, u3⟩ := r_none w1
  have T7 := Lib.hid hw1
  have U7 := Lib.hid hw2
  have U1 := Lib.hid u1
  have R7 : Hid (Row w2 (w.heap.size + 4) 28 (rgc gm0)) := by
    have := u2
    rw [t6] at this
    exact this
  have RG := Lib.hid (t1.below u3 t1.lt)
  have RX := Lib.hid (t2.below u3 t2.lt)
  have R4 := Lib.hid (t3.below u3 t3.lt)
  have R6 := Lib.hid (t4.below u3 t4.lt)
  have HB := Lib.hid (t5.trans (u3.mono t5.size))
  have HS := Lib.hid t6
  have HN7 : Hid (w.heap.size + 4 = w1.heap.size) := t6.symm
  clear hw1 hw2 t1 t2 t3 t4 t5 t6 u1 u2 u3
  have eb : ((m.bad : Int) != 0) = false := by rw [hb]; rfl
  have e9 : ((x.ty : Int) == 9) = true := by rw [ht]; rfl
  have hi' := Lib.hid hi
  clear hb hi ht
  go_enter Tryd.func9, Tryd.ntmps9
  go_upto_region 1 with fail
  rw [T7.out]
  go_upto_region 2 with (first | (refine wpList_build_is rfl 28 _ rfl (rgc gm0) (by kernel_rfl) ?_) | (refine wpList_sw (cs := rgc gm0) rfl _ _ rfl rfl rfl U1.out (rg_sz _ _) (rg_ok _) ?_))
  rw [U7.out]
  rw [← HN7.out]
  clear T7 U7 U1 HS
  generalize hp : w.heap.size = p at *
  have HP := Lib.hid hp
  clear hp
  obtain ⟨g0, g1, g2, g3, g4, g5⟩ := rg_cells RG.out
  obtain ⟨x0, x1, x2, x3, _⟩ := fm_cells RX.out
  rw [hi'.out] at g0
  go_wp2_with fail
  clear g0 g1 g2 g3 g4 g5 x0 x1 x2 x3
  have RG' : Hid (Row w2.drew p 28 (rgc m)) := RG.out
  have R4' : Hid (Row w2.drew (p + 2) 28 (rgc gm0)) := R4.out
  have R6' : Hid (Row w2.drew (p + 3) 28 (rgc gm0)) := R6.out
  have R7' : Hid (Row w2.drew (p + 4) 28 (rgc gm0)) := R7.out
  have HB' : Hid (Below p w w2.drew) := HB.out.drew
  refine wp_region_held_drew (S := fun w' => Row w' p 28 (rgc m) ∧ Row w' (p + 4) 28 (rgc gm0)) (by kernel_rfl) ⟨RG'.out, R7'.out⟩ (fun hHeld => ?_)
  clear hHeld
  have hHeld : Row w2.drew p 28 (rgc m) ∧ Row w2.drew (p + 4) 28 (rgc gm0) := ⟨RG'.out, R7'.out⟩
  clear RG R4 R6 R7 HB
  generalize w2.drew = q at *
  refine wpAnyH_take (i := 0) (v := _) rfl (by kernel_rfl) (by kernel_rfl) (by kernel_rfl) (fun _ _ _ h => h) (yields_ld (by rfl) _ rfl rfl (rg_ok _) (fun _ hSw => hSw.1)) (by assumption) ?rest0w3
  try simp only [Act.put, List.getElem_toArray, List.getElem_cons_zero, List.setIfInBounds_toArray, List.set_cons_zero, List.set_cons_succ]
  refine wpAnyH_take (i := 2) (v := _) rfl (by kernel_rfl) (by kernel_rfl) (by kernel_rfl) (fun _ _ _ h => h) (yields_ld (by rfl) _ rfl rfl (rg_ok _) (fun _ hSw => hSw.2)) (by assumption) ?rest2w4
  try simp only [Act.put, List.getElem_toArray, List.getElem_cons_zero, List.getElem_cons_succ, List.setIfInBounds_toArray, List.set_cons_zero, List.set_cons_succ]
  refine wpAnyH_ready (rs := [1]) (by kernel_rfl) (by simp) ?_
  refine AllReadyH.cons rfl (fun K hK => ?_) AllReadyH.nil
  go_simp
  go_at_call 17
  refine (rfails_any _ 1 _).mono ?_
  rintro e q2 ⟨rfl, hq⟩
  have RG2 := Lib.hid (RG'.out.below hq RG'.out.lt)
  have R42 := Lib.hid (R4'.out.below hq R4'.out.lt)
  have R62 := Lib.hid (R6'.out.below hq R6'.out.lt)
  have R72 := Lib.hid (R7'.out.below hq R7'.out.lt)
  have HB2 := Lib.hid (HB'.out.trans (hq.mono (by have := HB'.out.size; have := HP.out; omega)))
  clear RG' R4' R6' R7' HB' hq hHeld
  refine hK.out _ _ ⟨RG2.out, R72.out⟩ (fun hHeld => ?_)
  clear hK K
  try simp only [Act.put, List.getElem_toArray, List.getElem_cons_zero, List.getElem_cons_succ, List.setIfInBounds_toArray, List.set_cons_zero, List.set_cons_succ]
  refine wpAnyH_ready (rs := [3]) (by kernel_rfl) (by simp) ?_
  refine AllReadyH.cons rfl (fun K hK => ?_) AllReadyH.nil
  refine step_sw (cs := rgc (gmF 1)) rfl _ _ rfl rfl rfl R42.out (rg_sz _ _) (rg_ok _) ?_
  refine hK.out _ _ ⟨RG2.out.row_far (by omega) _, R72.out.row_far (by omega) _⟩ (fun hHeld => ?_)
  clear hK K
  try simp only [Act.put, List.getElem_toArray, List.getElem_cons_zero, List.getElem_cons_succ]
  refine wpAnyH_take (i := 4) (v := ?v4q11) rfl (by kernel_rfl) (by kernel_rfl) (by kernel_rfl) (fun _ _ _ h => h) (Or.inl ⟨by rfl, ?hy4q11⟩) (by assumption) ?rest4q11
  case hy4q11 => (intro w hSw; (try dsimp only at hSw); go_simp <;> with_reducible rfl)
  try simp only [Act.put, List.getElem_toArray, List.getElem_cons_zero, List.getElem_cons_succ, List.setIfInBounds_toArray, List.set_cons_zero, List.set_cons_succ]
  refine wpAnyH_ready (rs := [5]) (by kernel_rfl) (by simp) ?_
  refine AllReadyH.cons rfl (fun K hK => ?_) AllReadyH.nil
  refine step_sw (cs := rgc gm0) rfl _ _ rfl rfl rfl (R62.out.row_far (by omega) _) (rg_sz _ _) (rg_ok _) ?_
  refine hK.out _ _ ⟨(RG2.out.row_far (by omega) _).row_far (by omega) _, (R72.out.row_far (by omega) _).row_far (by omega) _⟩ (fun hHeld => ?_)
  clear hK K
  try simp only [Act.put, List.getElem_toArray, List.getElem_cons_zero, List.getElem_cons_succ]
  refine wpAnyH_done (by kernel_rfl) ?_ _
  go_wp2_with fail
  refine bodyPost_ret (ret_ava' rfl _ rfl ((R42.out.setRow _).row_far (by omega) _) (rg_ok _) rfl rfl ((R62.out.row_far (by omega) _).setRow _) (rg_ok _)) rfl ⟨rfl, ?_⟩
  rw [HP.out]
  exact below_setRow (below_setRow HB2.out _ _ (by omega)) _ _ (by omega)
set_option maxRecDepth 100000 in
set_option maxHeartbeats 4000000 in
theorem rtk_pass (m : Gm) (x : Fm) (d : List UInt8) (hb : m.bad = 0) (hi : m.busy = false) (h1 : x.ty ≠ 1) (h9 : x.ty ≠ 9) (w : World) :
    Calls Tryd.prog 9 #[.agg (rgc m), .agg x.c] w (RTkP w (gtk m x.ty x.fl x.st d)) := by
  rw [gtk_pass hb hi h1 h9]
  obtain ⟨w1, hw1, t1, t2, t3, t4, t5, t6⟩ := r_vars w m x
  obtain ⟨w2, hw2, u1, u2, u3⟩ := r_none w1
  have T7 := Lib.hid hw1
  have U7 := Lib.hid hw2
  have U1 := Lib.hid u1
  have R7 : Hid (Row w2 (w.heap.size + 4) 28 (rgc gm0)) := by
    have := u2
    rw [t6] at this
    exact this
  have RG := Lib.hid (t1.below u3 t1.lt)
  have RX := Lib.hid (t2.below u3 t2.lt)
  have R4 := Lib.hid (t3.below u3 t3.lt)
  have R6 := Lib.hid (t4.below u3 t4.lt)
  have HB := Lib.hid (t5.trans (u3.mono t5.size))
  have HS := Lib.hid t6
  have HN7 : Hid (w.heap.size + 4 = w1.heap.size) := t6.symm
  clear hw1 hw2 t1 t2 t3 t4 t5 t6 u1 u2 u3
  have eb : ((m.bad : Int) != 0) = false := by rw [hb]; rfl
  have e9 : ((x.ty : Int) == 9) = false := ne_f (by omega)
  have e1 : ((x.ty : Int) != 1) = true := bne_iff_ne.2 (by omega)
  have hi' := Lib.hid hi
  clear hb hi h1 h9
  go_enter Tryd.func9, Tryd.ntmps9
  go_upto_region 1 with fail
  rw [T7.out]
  go_upto_region 2 with (first | (refine wpList_build_is rfl 28 _ rfl (rgc gm0) (by kernel_rfl) ?_) | (refine wpList_sw (cs := rgc gm0) rfl _ _ rfl rfl rfl U1.out (rg_sz _ _) (rg_ok _) ?_))
  rw [U7.out]
  rw [← HN7.out]
  clear T7 U7 U1 HS
  generalize hp : w.heap.size = p at *
  have HP := Lib.hid hp
  clear hp
  obtain ⟨g0, g1, g2, g3, g4, g5⟩ := rg_cells RG.out
  obtain ⟨x0, x1, x2, x3, _⟩ := fm_cells RX.out
  rw [hi'.out] at g0
  go_wp2_with fail
  clear g0 g1 g2 g3 g4 g5 x0 x1 x2 x3
  have RG' : Hid (Row w2.drew p 28 (rgc m)) := RG.out
  have R4' : Hid (Row w2.drew (p + 2) 28 (rgc gm0)) := R4.out
  have R6' : Hid (Row w2.drew (p + 3) 28 (rgc gm0)) := R6.out
  have R7' : Hid (Row w2.drew (p + 4) 28 (rgc gm0)) := R7.out
  have HB' : Hid (Below p w w2.drew) := HB.out.drew
  refine wp_region_held_drew (S := fun w' => Row w' p 28 (rgc m) ∧ Row w' (p + 4) 28 (rgc gm0)) (by kernel_rfl) ⟨RG'.out, R7'.out⟩ (fun hHeld => ?_)
  clear hHeld
  have hHeld : Row w2.drew p 28 (rgc m) ∧ Row w2.drew (p + 4) 28 (rgc gm0) := ⟨RG'.out, R7'.out⟩
  clear RG R4 R6 R7 HB
  generalize w2.drew = q at *
  refine wpAnyH_take (i := 0) (v := _) rfl (by kernel_rfl) (by kernel_rfl) (by kernel_rfl) (fun _ _ _ h => h) (yields_ld (by rfl) _ rfl rfl (rg_ok _) (fun _ hSw => hSw.1)) (by assumption) ?rest0w5
  try simp only [Act.put, List.getElem_toArray, List.getElem_cons_zero, List.setIfInBounds_toArray, List.set_cons_zero, List.set_cons_succ]
  refine wpAnyH_take (i := 1) (v := _) rfl (by kernel_rfl) (by kernel_rfl) (by kernel_rfl) (fun _ _ _ h => h) (yields_ld (by rfl) _ rfl rfl (rg_ok _) (fun _ hSw => hSw.2)) (by assumption) ?rest1w6
  try simp only [Act.put, List.getElem_toArray, List.getElem_cons_zero, List.getElem_cons_succ, List.setIfInBounds_toArray, List.set_cons_zero, List.set_cons_succ]
  refine wpAnyH_ready (rs := [2]) (by kernel_rfl) (by simp) ?_
  refine AllReadyH.cons rfl (fun K hK => ?_) AllReadyH.nil
  refine step_sw (cs := rgc m) rfl _ _ rfl rfl rfl R4'.out (rg_sz _ _) (rg_ok _) ?_
  refine hK.out _ _ ⟨RG'.out.row_far (by omega) _, R7'.out.row_far (by omega) _⟩ (fun hHeld => ?_)
  clear hK K
  try simp only [Act.put, List.getElem_toArray, List.getElem_cons_zero, List.getElem_cons_succ]
  refine wpAnyH_take (i := 3) (v := ?v3q12) rfl (by kernel_rfl) (by kernel_rfl) (by kernel_rfl) (fun _ _ _ h => h) (Or.inl ⟨by rfl, ?hy3q12⟩) (by assumption) ?rest3q12
  case hy3q12 => (intro w hSw; (try dsimp only at hSw); go_simp <;> with_reducible rfl)
  try simp only [Act.put, List.getElem_toArray, List.getElem_cons_zero, List.getElem_cons_succ, List.setIfInBounds_toArray, List.set_cons_zero, List.set_cons_succ]
  refine wpAnyH_ready (rs := [4]) (by kernel_rfl) (by simp) ?_
  refine AllReadyH.cons rfl (fun K hK => ?_) AllReadyH.nil
  refine step_sw (cs := rgc gm0) rfl _ _ rfl rfl rfl (R6'.out.row_far (by omega) _) (rg_sz _ _) (rg_ok _) ?_
  refine hK.out _ _ ⟨(RG'.out.row_far (by omega) _).row_far (by omega) _, (R7'.out.row_far (by omega) _).row_far (by omega) _⟩ (fun hHeld => ?_)
  clear hK K
  try simp only [Act.put, List.getElem_toArray, List.getElem_cons_zero, List.getElem_cons_succ]
  refine wpAnyH_done (by kernel_rfl) ?_ _
  go_wp2_with fail
  refine bodyPost_ret (ret_ava' rfl _ rfl ((R4'.out.setRow _).row_far (by omega) _) (rg_ok _) rfl rfl ((R6'.out.row_far (by omega) _).setRow _) (rg_ok _)) rfl ⟨rfl, ?_⟩
  rw [HP.out]
  exact below_setRow (below_setRow HB'.out _ _ (by omega)) _ _ (by omega)
set_option maxRecDepth 100000 in
set_option maxHeartbeats 4000000 in
theorem rtk_else_ty (m : Gm) (x : Fm) (d : List UInt8) (hb : m.bad = 0) (hi : m.busy = true) (ht : x.ty ≠ 9) (w : World) :
    Calls Tryd.prog 9 #[.agg (rgc m), .agg x.c] w (RTkP w (gtk m x.ty x.fl x.st d)) := by
  rw [gtk_else hb hi (fun e => ht e.1)]
  obtain ⟨w1, hw1, t1, t2, t3, t4, t5, t6⟩ := r_vars w m x
  obtain ⟨w2, hw2, u1, u2, u3⟩ := r_none w1
  have T7 := Lib.hid hw1
  have U7 := Lib.hid hw2
  have U1 := Lib.hid u1
  have R7 : Hid (Row w2 (w.heap.size + 4) 28 (rgc gm0)) := by
    have := u2
    rw [t6] at this
    exact this
  have RG := Lib.hid (t1.below u3 t1.lt)
  have RX := Lib.hid (t2.below u3 t2.lt)
  have R4 := Lib.hid (t3.below u3 t3.lt)
  have R6 := Lib.hid (t4.below u3 t4.lt)
  have HB := Lib.hid (t5.trans (u3.mono t5.size))
  have HS := Lib.hid t6
  have HN7 : Hid (w.heap.size + 4 = w1.heap.size) := t6.symm
  clear hw1 hw2 t1 t2 t3 t4 t5 t6 u1 u2 u3
  have eb : ((m.bad : Int) != 0) = false := by rw [hb]; rfl
  have e9 : ((x.ty : Int) != 9) = true := bne_iff_ne.2 (by omega)
  have hi' := Lib.hid hi
  clear hb hi ht
  go_enter Tryd.func9, Tryd.ntmps9
  go_upto_region 1 with fail
  rw [T7.out]
  go_upto_region 2 with (first | (refine wpList_build_is rfl 28 _ rfl (rgc gm0) (by kernel_rfl) ?_) | (refine wpList_sw (cs := rgc gm0) rfl _ _ rfl rfl rfl U1.out (rg_sz _ _) (rg_ok _) ?_))
  rw [U7.out]
  rw [← HN7.out]
  clear T7 U7 U1 HS
  generalize hp : w.heap.size = p at *
  have HP := Lib.hid hp
  clear hp
  obtain ⟨g0, g1, g2, g3, g4, g5⟩ := rg_cells RG.out
  obtain ⟨x0, x1, x2, x3, _⟩ := fm_cells RX.out
  rw [hi'.out] at g0
  go_wp2_with fail
  clear g0 g1 g2 g3 g4 g5 x0 x1 x2 x3
  have RG' : Hid (Row w2.drew p 28 (rgc m)) := RG.out
  have R4' : Hid (Row w2.drew (p + 2) 28 (rgc gm0)) := R4.out
  have R6' : Hid (Row w2.drew (p + 3) 28 (rgc gm0)) := R6.out
  have R7' : Hid (Row w2.drew (p + 4) 28 (rgc gm0)) := R7.out
  have HB' : Hid (Below p w w2.drew) := HB.out.drew
  refine wp_region_held_drew (S := fun w' => Row w' p 28 (rgc m) ∧ Row w' (p + 4) 28 (rgc gm0)) (by kernel_rfl) ⟨RG'.out, R7'.out⟩ (fun hHeld => ?_)
  clear hHeld
  have hHeld : Row w2.drew p 28 (rgc m) ∧ Row w2.drew (p + 4) 28 (rgc gm0) := ⟨RG'.out, R7'.out⟩
  clear RG R4 R6 R7 HB
  generalize w2.drew = q at *
  refine wpAnyH_take (i := 0) (v := _) rfl (by kernel_rfl) (by kernel_rfl) (by kernel_rfl) (fun _ _ _ h => h) (yields_ld (by rfl) _ rfl rfl (rg_ok _) (fun _ hSw => hSw.1)) (by assumption) ?rest0w7
  try simp only [Act.put, List.getElem_toArray, List.getElem_cons_zero, List.setIfInBounds_toArray, List.set_cons_zero, List.set_cons_succ]
  refine wpAnyH_take (i := 2) (v := _) rfl (by kernel_rfl) (by kernel_rfl) (by kernel_rfl) (fun _ _ _ h => h) (yields_ld (by rfl) _ rfl rfl (rg_ok _) (fun _ hSw => hSw.2)) (by assumption) ?rest2w8
  try simp only [Act.put, List.getElem_toArray, List.getElem_cons_zero, List.getElem_cons_succ, List.setIfInBounds_toArray, List.set_cons_zero, List.set_cons_succ]
  refine wpAnyH_ready (rs := [1]) (by kernel_rfl) (by simp) ?_
  refine AllReadyH.cons rfl (fun K hK => ?_) AllReadyH.nil
  go_simp
  go_at_call 17
  refine (rfails_any _ 1 _).mono ?_
  rintro e q2 ⟨rfl, hq⟩
  have RG2 := Lib.hid (RG'.out.below hq RG'.out.lt)
  have R42 := Lib.hid (R4'.out.below hq R4'.out.lt)
  have R62 := Lib.hid (R6'.out.below hq R6'.out.lt)
  have R72 := Lib.hid (R7'.out.below hq R7'.out.lt)
  have HB2 := Lib.hid (HB'.out.trans (hq.mono (by have := HB'.out.size; have := HP.out; omega)))
  clear RG' R4' R6' R7' HB' hq hHeld
  refine hK.out _ _ ⟨RG2.out, R72.out⟩ (fun hHeld => ?_)
  clear hK K
  try simp only [Act.put, List.getElem_toArray, List.getElem_cons_zero, List.getElem_cons_succ, List.setIfInBounds_toArray, List.set_cons_zero, List.set_cons_succ]
  refine wpAnyH_ready (rs := [3]) (by kernel_rfl) (by simp) ?_
  refine AllReadyH.cons rfl (fun K hK => ?_) AllReadyH.nil
  refine step_sw (cs := rgc (gmF 1)) rfl _ _ rfl rfl rfl R42.out (rg_sz _ _) (rg_ok _) ?_
  refine hK.out _ _ ⟨RG2.out.row_far (by omega) _, R72.out.row_far (by omega) _⟩ (fun hHeld => ?_)
  clear hK K
  try simp only [Act.put, List.getElem_toArray, List.getElem_cons_zero, List.getElem_cons_succ]
  refine wpAnyH_take (i := 4) (v := ?v4q13) rfl (by kernel_rfl) (by kernel_rfl) (by kernel_rfl) (fun _ _ _ h => h) (Or.inl ⟨by rfl, ?hy4q13⟩) (by assumption) ?rest4q13
  case hy4q13 => (intro w hSw; (try dsimp only at hSw); go_simp <;> with_reducible rfl)
  try simp only [Act.put, List.getElem_toArray, List.getElem_cons_zero, List.getElem_cons_succ, List.setIfInBounds_toArray, List.set_cons_zero, List.set_cons_succ]
  refine wpAnyH_ready (rs := [5]) (by kernel_rfl) (by simp) ?_
  refine AllReadyH.cons rfl (fun K hK => ?_) AllReadyH.nil
  refine step_sw (cs := rgc gm0) rfl _ _ rfl rfl rfl (R62.out.row_far (by omega) _) (rg_sz _ _) (rg_ok _) ?_
  refine hK.out _ _ ⟨(RG2.out.row_far (by omega) _).row_far (by omega) _, (R72.out.row_far (by omega) _).row_far (by omega) _⟩ (fun hHeld => ?_)
  clear hK K
  try simp only [Act.put, List.getElem_toArray, List.getElem_cons_zero, List.getElem_cons_succ]
  refine wpAnyH_done (by kernel_rfl) ?_ _
  go_wp2_with fail
  refine bodyPost_ret (ret_ava' rfl _ rfl ((R42.out.setRow _).row_far (by omega) _) (rg_ok _) rfl rfl ((R62.out.row_far (by omega) _).setRow _) (rg_ok _)) rfl ⟨rfl, ?_⟩
  rw [HP.out]
  exact below_setRow (below_setRow HB2.out _ _ (by omega)) _ _ (by omega)
set_option maxRecDepth 100000 in
set_option maxHeartbeats 4000000 in
theorem rtk_else_st (m : Gm) (x : Fm) (d : List UInt8) (hb : m.bad = 0) (hi : m.busy = true) (ht : x.ty = 9) (hs : x.st ≠ m.st) (w : World) :
    Calls Tryd.prog 9 #[.agg (rgc m), .agg x.c] w (RTkP w (gtk m x.ty x.fl x.st d)) := by
  rw [gtk_else hb hi (fun e => hs e.2)]
  obtain ⟨w1, hw1, t1, t2, t3, t4, t5, t6⟩ := r_vars w m x
  obtain ⟨w2, hw2, u1, u2, u3⟩ := r_none w1
  have T7 := Lib.hid hw1
  have U7 := Lib.hid hw2
  have U1 := Lib.hid u1
  have R7 : Hid (Row w2 (w.heap.size + 4) 28 (rgc gm0)) := by
    have := u2
    rw [t6] at this
    exact this
  have RG := Lib.hid (t1.below u3 t1.lt)
  have RX := Lib.hid (t2.below u3 t2.lt)
  have R4 := Lib.hid (t3.below u3 t3.lt)
  have R6 := Lib.hid (t4.below u3 t4.lt)
  have HB := Lib.hid (t5.trans (u3.mono t5.size))
  have HS := Lib.hid t6
  have HN7 : Hid (w.heap.size + 4 = w1.heap.size) := t6.symm
  clear hw1 hw2 t1 t2 t3 t4 t5 t6 u1 u2 u3
  have eb : ((m.bad : Int) != 0) = false := by rw [hb]; rfl
  have e9 : ((x.ty : Int) != 9) = false := by rw [ht]; rfl
  have es : ((x.st : Int) != (m.st : Int)) = true := bne_iff_ne.2 (by omega)
  have hi' := Lib.hid hi
  clear hb hi ht hs
  go_enter Tryd.func9, Tryd.ntmps9
  go_upto_region 1 with fail
  rw [T7.out]
  go_upto_region 2 with (first | (refine wpList_build_is rfl 28 _ rfl (rgc gm0) (by kernel_rfl) ?_) | (refine wpList_sw (cs := rgc gm0) rfl _ _ rfl rfl rfl U1.out (rg_sz _ _) (rg_ok _) ?_))
  rw [U7.out]
  rw [← HN7.out]
  clear T7 U7 U1 HS
  generalize hp : w.heap.size = p at *
  have HP := Lib.hid hp
  clear hp
  obtain ⟨g0, g1, g2, g3, g4, g5⟩ := rg_cells RG.out
  obtain ⟨x0, x1, x2, x3, _⟩ := fm_cells RX.out
  rw [hi'.out] at g0
  go_wp2_with fail
  clear g0 g1 g2 g3 g4 g5 x0 x1 x2 x3
  have RG' : Hid (Row w2.drew p 28 (rgc m)) := RG.out
  have R4' : Hid (Row w2.drew (p + 2) 28 (rgc gm0)) := R4.out
  have R6' : Hid (Row w2.drew (p + 3) 28 (rgc gm0)) := R6.out
  have R7' : Hid (Row w2.drew (p + 4) 28 (rgc gm0)) := R7.out
  have HB' : Hid (Below p w w2.drew) := HB.out.drew
  refine wp_region_held_drew (S := fun w' => Row w' p 28 (rgc m) ∧ Row w' (p + 4) 28 (rgc gm0)) (by kernel_rfl) ⟨RG'.out, R7'.out⟩ (fun hHeld => ?_)
  clear hHeld
  have hHeld : Row w2.drew p 28 (rgc m) ∧ Row w2.drew (p + 4) 28 (rgc gm0) := ⟨RG'.out, R7'.out⟩
  clear RG R4 R6 R7 HB
  generalize w2.drew = q at *
  refine wpAnyH_take (i := 0) (v := _) rfl (by kernel_rfl) (by kernel_rfl) (by kernel_rfl) (fun _ _ _ h => h) (yields_ld (by rfl) _ rfl rfl (rg_ok _) (fun _ hSw => hSw.1)) (by assumption) ?rest0w9
  try simp only [Act.put, List.getElem_toArray, List.getElem_cons_zero, List.setIfInBounds_toArray, List.set_cons_zero, List.set_cons_succ]
  refine wpAnyH_take (i := 2) (v := _) rfl (by kernel_rfl) (by kernel_rfl) (by kernel_rfl) (fun _ _ _ h => h) (yields_ld (by rfl) _ rfl rfl (rg_ok _) (fun _ hSw => hSw.2)) (by assumption) ?rest2w10
  try simp only [Act.put, List.getElem_toArray, List.getElem_cons_zero, List.getElem_cons_succ, List.setIfInBounds_toArray, List.set_cons_zero, List.set_cons_succ]
  refine wpAnyH_ready (rs := [1]) (by kernel_rfl) (by simp) ?_
  refine AllReadyH.cons rfl (fun K hK => ?_) AllReadyH.nil
  go_simp
  go_at_call 17
  refine (rfails_any _ 1 _).mono ?_
  rintro e q2 ⟨rfl, hq⟩
  have RG2 := Lib.hid (RG'.out.below hq RG'.out.lt)
  have R42 := Lib.hid (R4'.out.below hq R4'.out.lt)
  have R62 := Lib.hid (R6'.out.below hq R6'.out.lt)
  have R72 := Lib.hid (R7'.out.below hq R7'.out.lt)
  have HB2 := Lib.hid (HB'.out.trans (hq.mono (by have := HB'.out.size; have := HP.out; omega)))
  clear RG' R4' R6' R7' HB' hq hHeld
  refine hK.out _ _ ⟨RG2.out, R72.out⟩ (fun hHeld => ?_)
  clear hK K
  try simp only [Act.put, List.getElem_toArray, List.getElem_cons_zero, List.getElem_cons_succ, List.setIfInBounds_toArray, List.set_cons_zero, List.set_cons_succ]
  refine wpAnyH_ready (rs := [3]) (by kernel_rfl) (by simp) ?_
  refine AllReadyH.cons rfl (fun K hK => ?_) AllReadyH.nil
  refine step_sw (cs := rgc (gmF 1)) rfl _ _ rfl rfl rfl R42.out (rg_sz _ _) (rg_ok _) ?_
  refine hK.out _ _ ⟨RG2.out.row_far (by omega) _, R72.out.row_far (by omega) _⟩ (fun hHeld => ?_)
  clear hK K
  try simp only [Act.put, List.getElem_toArray, List.getElem_cons_zero, List.getElem_cons_succ]
  refine wpAnyH_take (i := 4) (v := ?v4q14) rfl (by kernel_rfl) (by kernel_rfl) (by kernel_rfl) (fun _ _ _ h => h) (Or.inl ⟨by rfl, ?hy4q14⟩) (by assumption) ?rest4q14
  case hy4q14 => (intro w hSw; (try dsimp only at hSw); go_simp <;> with_reducible rfl)
  try simp only [Act.put, List.getElem_toArray, List.getElem_cons_zero, List.getElem_cons_succ, List.setIfInBounds_toArray, List.set_cons_zero, List.set_cons_succ]
  refine wpAnyH_ready (rs := [5]) (by kernel_rfl) (by simp) ?_
  refine AllReadyH.cons rfl (fun K hK => ?_) AllReadyH.nil
  refine step_sw (cs := rgc gm0) rfl _ _ rfl rfl rfl (R62.out.row_far (by omega) _) (rg_sz _ _) (rg_ok _) ?_
  refine hK.out _ _ ⟨(RG2.out.row_far (by omega) _).row_far (by omega) _, (R72.out.row_far (by omega) _).row_far (by omega) _⟩ (fun hHeld => ?_)
  clear hK K
  try simp only [Act.put, List.getElem_toArray, List.getElem_cons_zero, List.getElem_cons_succ]
  refine wpAnyH_done (by kernel_rfl) ?_ _
  go_wp2_with fail
  refine bodyPost_ret (ret_ava' rfl _ rfl ((R42.out.setRow _).row_far (by omega) _) (rg_ok _) rfl rfl ((R62.out.row_far (by omega) _).setRow _) (rg_ok _)) rfl ⟨rfl, ?_⟩
  rw [HP.out]
  exact below_setRow (below_setRow HB2.out _ _ (by omega)) _ _ (by omega)
end Go.Proofs.YtcbepicdnmnfaaaDoor
