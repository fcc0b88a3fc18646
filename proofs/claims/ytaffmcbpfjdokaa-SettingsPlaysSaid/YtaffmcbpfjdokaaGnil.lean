/-
  A nil side's Ack and Send, by their contracts; SettingsNil: the law's walk. No conditions.
-/
import Derived.Test.YtaffmcbpfjdokaaGsd
import Derived.Test.YtaffmcbpfjdokaaGaw
namespace Go.Proofs.Ytaffmcbpfjdokaa
open Go.RowKit Go.WideShapes

/-- The two results' variables, as they are made. -/
theorem two_res (w : World) : Row ((w.alloc (.cells #[.int .u32 0, .bool false, .int .u32 0, .int .u32 0, .int .u32 0, .int .u32 0, .bool false] 24)).alloc (.cells #[.int .u8 0, .int .u32 0] 28)) w.heap.size 24 zS.c ∧
    Row ((w.alloc (.cells #[.int .u32 0, .bool false, .int .u32 0, .int .u32 0, .int .u32 0, .int .u32 0, .bool false] 24)).alloc (.cells #[.int .u8 0, .int .u32 0] 28)) (w.heap.size + 1) 28 (ftc 0 0) ∧
    Below w.heap.size w ((w.alloc (.cells #[.int .u32 0, .bool false, .int .u32 0, .int .u32 0, .int .u32 0, .int .u32 0, .bool false] 24)).alloc (.cells #[.int .u8 0, .int .u32 0] 28)) ∧
    ((w.alloc (.cells #[.int .u32 0, .bool false, .int .u32 0, .int .u32 0, .int .u32 0, .int .u32 0, .bool false] 24)).alloc (.cells #[.int .u8 0, .int .u32 0] 28)).heap.size = w.heap.size + 2 := by
  refine ⟨by rw [zc]; exact (Row.new w _ _).alloc _, by rw [ftz]; exact Row.made _ _ _ (by simp), ((Below.refl _ _).alloc (Nat.le_refl _) _).alloc (by simp) _, by simp⟩
theorem fault_var (w : World) : Row (w.alloc (.cells #[.int .u8 0, .int .u32 0] 28)) w.heap.size 28 (ftc 0 0) ∧ Below w.heap.size w (w.alloc (.cells #[.int .u8 0, .int .u32 0] 28)) ∧ (w.alloc (.cells #[.int .u8 0, .int .u32 0] 28)).heap.size = w.heap.size + 1 := by
  refine ⟨by rw [ftz]; exact Row.new w _ _, (Below.refl _ _).alloc (Nat.le_refl _) _, by simp⟩
attribute [local irreducible] St.c ftc sec

set_option maxRecDepth 100000 in
set_option maxHeartbeats 2000000 in
theorem ack_nil (w : World) : Calls Try.prog 16 #[.pointer none] w fun e w' => e = .returned (.tuple #[.agg begS.c, .agg (ftc 1 2)]) ∧ Below w.heap.size w w' := by
  obtain ⟨r2, r3, rb, rs⟩ := two_res w
  have H2 := Lib.hid r2
  have H3 := Lib.hid r3
  have HB := Lib.hid rb
  clear r2 r3 rb rs
  go_enter Try.func16, Try.ntmps16
  go_wp2_with fail
  refine (begi_any _).mono ?_
  rintro e w1 ⟨rfl, hb1⟩
  have H21 := Lib.hid (H2.out.below hb1 H2.out.lt)
  have H31 := Lib.hid (H3.out.below hb1 H3.out.lt)
  have HB1 := Lib.hid (HB.out.trans (hb1.mono HB.out.size))
  clear hb1 H2 H3 HB
  go_wp2_with fail
  refine (connFault_any 2 _).mono ?_
  rintro e w2 ⟨rfl, hb2⟩
  have H22 := Lib.hid (H21.out.below hb2 H21.out.lt)
  have H32 := Lib.hid ((H31.out.below hb2 H31.out.lt).setRow' (k := w.heap.size) (by omega) begS.c)
  have HB2 := Lib.hid (HB1.out.trans (hb2.mono HB1.out.size))
  clear hb2 H21 H31 HB1
  go_wp2_with (first | (refine wpList_sw (cs := begS.c) rfl _ _ rfl rfl rfl H22.out (St.sz _ _) (St.ok _) ?_) | (refine wpList_sw (cs := ftc 1 2) rfl _ _ rfl rfl rfl H32.out (ft_sz _ _ _ _) (ft_ok _ _) ?_))
  exact bodyPost_ret (ret_ag2 rfl _ rfl ((H22.out.setRow _).setRow' (k := w.heap.size + 1) (by omega) _) (St.ok _) rfl (H32.out.setRow _) (ft_ok _ _)) rfl ⟨rfl, below_setRow (below_setRow HB2.out _ _ (Nat.le_refl _)) _ _ (by omega)⟩
set_option maxRecDepth 100000 in
set_option maxHeartbeats 2000000 in
theorem send_nil (x : Value) (w : World) : Calls Try.prog 15 #[.pointer none, x] w fun e w' => e = .returned (.agg (ftc 1 2)) ∧ Below w.heap.size w w' := by
  obtain ⟨r2, rb, rs⟩ := fault_var w
  have H2 := Lib.hid r2
  have HB := Lib.hid rb
  clear r2 rb rs
  go_enter Try.func15, Try.ntmps15
  go_wp2_with fail
  refine (connFault_any 2 _).mono ?_
  rintro e w2 ⟨rfl, hb2⟩
  have H22 := Lib.hid (H2.out.below hb2 H2.out.lt)
  have HB2 := Lib.hid (HB.out.trans (hb2.mono HB.out.size))
  clear hb2 H2 HB
  go_wp2_with (refine wpList_sw (cs := ftc 1 2) rfl _ _ rfl rfl rfl H22.out (ft_sz _ _ _ _) (ft_ok _ _) ?_)
  exact bodyPost_ret (ret_ag rfl _ rfl (H22.out.setRow _) (ft_ok _ _)) rfl ⟨rfl, below_setRow HB2.out _ _ (Nat.le_refl _)⟩
set_option maxRecDepth 100000 in
set_option maxHeartbeats 4000000 in
theorem nil_law {A : Option Addr} {c : Nat} {l : List (Nat × Nat)} (w : World) :
    Calls Try.prog 6 #[.slice A l.length c] w fun e w' => e = .returned (.bool true) ∧ Below w.heap.size w w' := by
  have hzf : ftc 1 2 = #[.int .u8 1, .int .u32 2] := by unfold ftc; rfl
  have HZF := Lib.hid hzf
  clear hzf
  go_enter Try.func6, Try.ntmps6
  go_wp2_with fail
  refine (ack_nil _).mono ?_
  rintro e w2 ⟨rfl, hb2⟩
  obtain ⟨w3, hw3, t1, t2, t3, t4, t5, t6⟩ := two_vars w2 begS 1 2
  have T1 := Lib.hid t1
  have T2 := Lib.hid t2
  have T3 := Lib.hid t3
  have T4 := Lib.hid t4
  have T7 := Lib.hid hw3
  have HB3 := Lib.hid (hb2.trans (t5.mono hb2.size))
  clear t1 t2 t3 t4 t5 t6 hw3 hb2
  go_upto_region 3 with (first | (refine wpList_sw (cs := begS.c) rfl _ _ rfl rfl rfl T1.out (St.sz _ _) (St.ok _) ?_) | (refine wpList_sw (cs := ftc 1 2) rfl _ _ rfl rfl rfl T2.out (ft_sz _ _ _ _) (ft_ok _ _) ?_))
  rw [T7.out]
  clear T1 T2 T7
  generalize w2.heap.size = p at *
  obtain ⟨r2, rb, rs⟩ := fault_var w3
  have F1 := Lib.hid r2
  have X4 := Lib.hid ((T3.out.below rb T3.out.lt).setRow' (k := w3.heap.size) (by have := T3.out.lt; omega) (ftc 1 2))
  have Y4 := Lib.hid ((T4.out.below rb T4.out.lt).setRow' (k := w3.heap.size) (by have := T4.out.lt; omega) (ftc 1 2))
  have F4 := Lib.hid (r2.setRow (ftc 1 2))
  have HB4 := Lib.hid (below_setRow (HB3.out.trans (rb.mono HB3.out.size)) w3.heap.size (ftc 1 2) HB3.out.size)
  clear r2 rb rs T3 T4 HB3
  go_upto_region 4 with (refine wpList_sw (cs := ftc 1 2) rfl _ _ rfl rfl (by rw [HZF.out]; rfl) F1.out (ft_sz _ _ _ _) (ft_ok _ _) ?_)
  clear F1
  generalize (w3.alloc (.cells #[.int .u8 0, .int .u32 0] 28)).setRow w3.heap.size (ftc 1 2) = w4 at *
  generalize w3.heap.size = p6 at *
  have e1 := st_refl begS
  have e2 := ft_refl 1 2
  refine wp_region_held_drew (S := fun w' => Row w' p 24 begS.c ∧ Row w' (p + 1) 28 (ftc 1 2) ∧ Row w' p6 28 (ftc 1 2)) (by kernel_rfl) ⟨X4.out, Y4.out, F4.out⟩ (fun hHeld => ?_)
  have HD := Lib.hid (below_dN HB4.out 1)
  clear X4 Y4 F4 HB4
  refine wpAnyH_ready (rs := [0]) (by kernel_rfl) (by simp) ?_
  refine AllReadyH.cons rfl (fun K hK => ?_) AllReadyH.nil
  go_simp
  go_at_call 7
  refine (fixed_any _).mono ?_
  rintro e w_0 ⟨rfl, hb_0⟩
  have HB_0 := Lib.hid (HD.out.trans (hb_0.mono HD.out.size))
  have hk := And.intro (hHeld.1.below hb_0 hHeld.1.lt) (And.intro (hHeld.2.1.below hb_0 hHeld.2.1.lt) (hHeld.2.2.below hb_0 hHeld.2.2.lt))
  clear hb_0 HD hHeld
  go_simp
  refine hK.out _ _ hk (fun hHeld => ?_)
  clear hK K hk
  try simp only [Act.put, List.getElem_toArray, List.getElem_cons_zero, List.getElem_cons_succ, List.setIfInBounds_toArray, List.set_cons_zero, List.set_cons_succ]
  refine wpAnyH_take (i := 1) (v := ?v1) rfl (by kernel_rfl) (by kernel_rfl) (by kernel_rfl) (fun _ _ _ h => h) (Or.inl ⟨by rfl, ?hy1⟩) (by assumption) ?rest1
  case hy1 => (intro w hSw; (try dsimp only at hSw); go_simp <;> with_reducible rfl)
  try simp only [Act.put, List.getElem_toArray, List.getElem_cons_zero, List.getElem_cons_succ, List.setIfInBounds_toArray, List.set_cons_zero, List.set_cons_succ]
  refine wpAnyH_take (i := 2) (v := ?v2) rfl (by kernel_rfl) (by kernel_rfl) (by kernel_rfl) (fun _ _ _ h => h) (Or.inl ⟨by rfl, ?hy2⟩) (by assumption) ?rest2
  case hy2 => (intro w hSw; (try dsimp only at hSw); go_simp <;> with_reducible rfl)
  try simp only [Act.put, List.getElem_toArray, List.getElem_cons_zero, List.getElem_cons_succ, List.setIfInBounds_toArray, List.set_cons_zero, List.set_cons_succ]
  refine wpAnyH_take (i := 3) (v := ?v3) rfl (by kernel_rfl) (by kernel_rfl) (by kernel_rfl) (fun _ _ _ h => h) (Or.inl ⟨by rfl, ?hy3⟩) (by assumption) ?rest3
  case hy3 => (intro w hSw; (try dsimp only at hSw); go_simp <;> with_reducible rfl)
  try simp only [Act.put, List.getElem_toArray, List.getElem_cons_zero, List.getElem_cons_succ, List.setIfInBounds_toArray, List.set_cons_zero, List.set_cons_succ]
  refine wpAnyH_take (i := 5) (v := _) rfl (by kernel_rfl) (by kernel_rfl) (by kernel_rfl) (fun _ _ _ h => h) (yields_ld (by rfl) _ rfl rfl (ft_ok _ _) (fun _ hSw => hSw.2.2)) (by assumption) ?rest5w1
  try simp only [Act.put, List.getElem_toArray, List.getElem_cons_zero, List.getElem_cons_succ, List.setIfInBounds_toArray, List.set_cons_zero, List.set_cons_succ]
  refine wpAnyH_ready (rs := [4]) (by kernel_rfl) (by simp) ?_
  refine AllReadyH.cons rfl (fun K hK => ?_) AllReadyH.nil
  go_simp
  go_at_call 15
  refine (send_nil _ _).mono ?_
  rintro e w_1 ⟨rfl, hb_1⟩
  have HB_1 := Lib.hid (HB_0.out.trans (hb_1.mono HB_0.out.size))
  have hk := And.intro (hHeld.1.below hb_1 hHeld.1.lt) (And.intro (hHeld.2.1.below hb_1 hHeld.2.1.lt) (hHeld.2.2.below hb_1 hHeld.2.2.lt))
  clear hb_1 HB_0 hHeld
  go_simp
  refine hK.out _ _ hk (fun hHeld => ?_)
  clear hK K hk
  try simp only [Act.put, List.getElem_toArray, List.getElem_cons_zero, List.getElem_cons_succ, List.setIfInBounds_toArray, List.set_cons_zero, List.set_cons_succ]
  refine wpAnyH_take (i := 6) (v := ?v6q7) rfl (by kernel_rfl) (by kernel_rfl) (by kernel_rfl) (fun _ _ _ h => h) (Or.inl ⟨by rfl, ?hy6q7⟩) (by assumption) ?rest6q7
  case hy6q7 => (intro w hSw; (try dsimp only at hSw); go_simp <;> with_reducible rfl)
  try simp only [Act.put, List.getElem_toArray, List.getElem_cons_zero, List.getElem_cons_succ, List.setIfInBounds_toArray, List.set_cons_zero, List.set_cons_succ]
  refine wpAnyH_take (i := 7) (v := ?v7q7) rfl (by kernel_rfl) (by kernel_rfl) (by kernel_rfl) (fun _ _ _ h => h) (Or.inl ⟨by rfl, ?hy7q7⟩) (by assumption) ?rest7q7
  case hy7q7 => (intro w hSw; (try dsimp only at hSw); go_simp <;> with_reducible rfl)
  try simp only [Act.put, List.getElem_toArray, List.getElem_cons_zero, List.getElem_cons_succ, List.setIfInBounds_toArray, List.set_cons_zero, List.set_cons_succ]
  refine wpAnyH_take (i := 8) (v := ?v8q7) rfl (by kernel_rfl) (by kernel_rfl) (by kernel_rfl) (fun _ _ _ h => h) (Or.inl ⟨by rfl, ?hy8q7⟩) (by assumption) ?rest8q7
  case hy8q7 => (intro w hSw; (try dsimp only at hSw); go_simp <;> with_reducible rfl)
  try simp only [Act.put, List.getElem_toArray, List.getElem_cons_zero, List.getElem_cons_succ, List.setIfInBounds_toArray, List.set_cons_zero, List.set_cons_succ]
  refine wpAnyH_take (i := 9) (v := _) rfl (by kernel_rfl) (by kernel_rfl) (by kernel_rfl) (fun _ _ _ h => h) (yields_ld (by rfl) _ rfl rfl (ft_ok _ _) (fun _ hSw => hSw.2.1)) (by assumption) ?rest9w2
  try simp only [Act.put, List.getElem_toArray, List.getElem_cons_zero, List.getElem_cons_succ, List.setIfInBounds_toArray, List.set_cons_zero, List.set_cons_succ]
  refine wpAnyH_take (i := 10) (v := _) rfl (by kernel_rfl) (by kernel_rfl) (by kernel_rfl) (fun _ _ _ h => h) (yields_ld (by rfl) _ rfl rfl (ft_ok _ _) (fun _ hSw => hSw.2.2)) (by assumption) ?rest10w3
  try simp only [Act.put, List.getElem_toArray, List.getElem_cons_zero, List.getElem_cons_succ, List.setIfInBounds_toArray, List.set_cons_zero, List.set_cons_succ]
  refine wpAnyH_take (i := 11) (v := ?v11q8) rfl (by kernel_rfl) (by kernel_rfl) (by kernel_rfl) (fun _ _ _ h => h) (Or.inl ⟨by rfl, ?hy11q8⟩) (by assumption) ?rest11q8
  case hy11q8 => (intro w hSw; (try dsimp only at hSw); go_simp <;> with_reducible rfl)
  try simp only [Act.put, List.getElem_toArray, List.getElem_cons_zero, List.getElem_cons_succ, List.setIfInBounds_toArray, List.set_cons_zero, List.set_cons_succ]
  refine wpAnyH_take (i := 12) (v := ?v12q8) rfl (by kernel_rfl) (by kernel_rfl) (by kernel_rfl) (fun _ _ _ h => h) (Or.inl ⟨by rfl, ?hy12q8⟩) (by assumption) ?rest12q8
  case hy12q8 => (intro w hSw; (try dsimp only at hSw); go_simp <;> with_reducible rfl)
  try simp only [Act.put, List.getElem_toArray, List.getElem_cons_zero, List.getElem_cons_succ, List.setIfInBounds_toArray, List.set_cons_zero, List.set_cons_succ]
  refine wpAnyH_take (i := 13) (v := ?v13q8) rfl (by kernel_rfl) (by kernel_rfl) (by kernel_rfl) (fun _ _ _ h => h) (Or.inl ⟨by rfl, ?hy13q8⟩) (by assumption) ?rest13q8
  case hy13q8 => (intro w hSw; (try dsimp only at hSw); go_simp <;> with_reducible rfl)
  try simp only [Act.put, List.getElem_toArray, List.getElem_cons_zero, List.getElem_cons_succ, List.setIfInBounds_toArray, List.set_cons_zero, List.set_cons_succ]
  refine wpAnyH_take (i := 14) (v := _) rfl (by kernel_rfl) (by kernel_rfl) (by kernel_rfl) (fun _ _ _ h => h) (yields_ld (by rfl) _ rfl rfl (St.ok _) (fun _ hSw => hSw.1)) (by assumption) ?rest14w4
  try simp only [Act.put, List.getElem_toArray, List.getElem_cons_zero, List.getElem_cons_succ, List.setIfInBounds_toArray, List.set_cons_zero, List.set_cons_succ]
  refine wpAnyH_ready (rs := [15]) (by kernel_rfl) (by simp) ?_
  refine AllReadyH.cons rfl (fun K hK => ?_) AllReadyH.nil
  go_simp
  go_at_call 12
  refine (rbegi_any _).mono ?_
  rintro e w_2 ⟨rfl, hb_2⟩
  have HB_2 := Lib.hid (HB_1.out.trans (hb_2.mono HB_1.out.size))
  have hk := And.intro (hHeld.1.below hb_2 hHeld.1.lt) (And.intro (hHeld.2.1.below hb_2 hHeld.2.1.lt) (hHeld.2.2.below hb_2 hHeld.2.2.lt))
  clear hb_2 HB_1 hHeld
  go_simp
  refine hK.out _ _ hk (fun hHeld => ?_)
  clear hK K hk
  try simp only [Act.put, List.getElem_toArray, List.getElem_cons_zero, List.getElem_cons_succ, List.setIfInBounds_toArray, List.set_cons_zero, List.set_cons_succ]
  refine wpAnyH_take (i := 16) (v := ?v16q9) rfl (by kernel_rfl) (by kernel_rfl) (by kernel_rfl) (fun _ _ _ h => h) (Or.inl ⟨by rfl, ?hy16q9⟩) (by assumption) ?rest16q9
  case hy16q9 => (intro w hSw; (try dsimp only at hSw); go_simp <;> with_reducible rfl)
  try simp only [Act.put, List.getElem_toArray, List.getElem_cons_zero, List.getElem_cons_succ, List.setIfInBounds_toArray, List.set_cons_zero, List.set_cons_succ]
  refine wpAnyH_take (i := 17) (v := ?v17q9) rfl (by kernel_rfl) (by kernel_rfl) (by kernel_rfl) (fun _ _ _ h => h) (Or.inl ⟨by rfl, ?hy17q9⟩) (by assumption) ?rest17q9
  case hy17q9 => (intro w hSw; (try dsimp only at hSw); go_simp <;> with_reducible rfl)
  try simp only [Act.put, List.getElem_toArray, List.getElem_cons_zero, List.getElem_cons_succ, List.setIfInBounds_toArray, List.set_cons_zero, List.set_cons_succ]
  refine wpAnyH_take (i := 18) (v := ?v18q9) rfl (by kernel_rfl) (by kernel_rfl) (by kernel_rfl) (fun _ _ _ h => h) (Or.inl ⟨by rfl, ?hy18q9⟩) (by assumption) ?rest18q9
  case hy18q9 => (intro w hSw; (try dsimp only at hSw); go_simp <;> with_reducible rfl)
  try simp only [Act.put, List.getElem_toArray, List.getElem_cons_zero, List.getElem_cons_succ, List.setIfInBounds_toArray, List.set_cons_zero, List.set_cons_succ]
  refine wpAnyH_take (i := 19) (v := ?v19q9) rfl (by kernel_rfl) (by kernel_rfl) (by kernel_rfl) (fun _ _ _ h => h) (Or.inl ⟨by rfl, ?hy19q9⟩) (by assumption) ?rest19q9
  case hy19q9 => (intro w hSw; (try dsimp only at hSw); go_simp <;> with_reducible rfl)
  try simp only [Act.put, List.getElem_toArray, List.getElem_cons_zero, List.getElem_cons_succ, List.setIfInBounds_toArray, List.set_cons_zero, List.set_cons_succ]
  refine wpAnyH_take (i := 21) (v := _) rfl (by kernel_rfl) (by kernel_rfl) (by kernel_rfl) (fun _ _ _ h => h) (yields_ld (by rfl) _ rfl rfl (St.ok _) (fun _ hSw => hSw.1)) (by assumption) ?rest21w5
  try simp only [Act.put, List.getElem_toArray, List.getElem_cons_zero, List.getElem_cons_succ, List.setIfInBounds_toArray, List.set_cons_zero, List.set_cons_succ]
  refine wpAnyH_ready (rs := [20]) (by kernel_rfl) (by simp) ?_
  refine AllReadyH.cons rfl (fun K hK => ?_) AllReadyH.nil
  go_simp
  go_at_call 17
  refine (now_nil _).mono ?_
  rintro e w_3 ⟨rfl, hb_3⟩
  have HB_3 := Lib.hid (HB_2.out.trans (hb_3.mono HB_2.out.size))
  have hk := And.intro (hHeld.1.below hb_3 hHeld.1.lt) (And.intro (hHeld.2.1.below hb_3 hHeld.2.1.lt) (hHeld.2.2.below hb_3 hHeld.2.2.lt))
  clear hb_3 HB_2 hHeld
  go_simp
  refine hK.out _ _ hk (fun hHeld => ?_)
  clear hK K hk
  try simp only [Act.put, List.getElem_toArray, List.getElem_cons_zero, List.getElem_cons_succ, List.setIfInBounds_toArray, List.set_cons_zero, List.set_cons_succ]
  refine wpAnyH_take (i := 22) (v := ?v22q10) rfl (by kernel_rfl) (by kernel_rfl) (by kernel_rfl) (fun _ _ _ h => h) (Or.inl ⟨by rfl, ?hy22q10⟩) (by assumption) ?rest22q10
  case hy22q10 => (intro w hSw; (try dsimp only at hSw); go_simp <;> with_reducible rfl)
  try simp only [Act.put, List.getElem_toArray, List.getElem_cons_zero, List.getElem_cons_succ, List.setIfInBounds_toArray, List.set_cons_zero, List.set_cons_succ]
  refine wpAnyH_take (i := 23) (v := ?v23q10) rfl (by kernel_rfl) (by kernel_rfl) (by kernel_rfl) (fun _ _ _ h => h) (Or.inl ⟨by rfl, ?hy23q10⟩) (by assumption) ?rest23q10
  case hy23q10 => (intro w hSw; (try dsimp only at hSw); go_simp <;> with_reducible rfl)
  try simp only [Act.put, List.getElem_toArray, List.getElem_cons_zero, List.getElem_cons_succ, List.setIfInBounds_toArray, List.set_cons_zero, List.set_cons_succ]
  refine wpAnyH_take (i := 24) (v := ?v24q10) rfl (by kernel_rfl) (by kernel_rfl) (by kernel_rfl) (fun _ _ _ h => h) (Or.inl ⟨by rfl, ?hy24q10⟩) (by assumption) ?rest24q10
  case hy24q10 => (intro w hSw; (try dsimp only at hSw); go_simp <;> with_reducible rfl)
  try simp only [Act.put, List.getElem_toArray, List.getElem_cons_zero, List.getElem_cons_succ, List.setIfInBounds_toArray, List.set_cons_zero, List.set_cons_succ]
  refine wpAnyH_take (i := 25) (v := ?v25q10) rfl (by kernel_rfl) (by kernel_rfl) (by kernel_rfl) (fun _ _ _ h => h) (Or.inl ⟨by rfl, ?hy25q10⟩) (by assumption) ?rest25q10
  case hy25q10 => (intro w hSw; (try dsimp only at hSw); go_simp <;> with_reducible rfl)
  try simp only [Act.put, List.getElem_toArray, List.getElem_cons_zero, List.getElem_cons_succ, List.setIfInBounds_toArray, List.set_cons_zero, List.set_cons_succ]
  refine wpAnyH_take (i := 27) (v := _) rfl (by kernel_rfl) (by kernel_rfl) (by kernel_rfl) (fun _ _ _ h => h) (yields_ld (by rfl) _ rfl rfl (St.ok _) (fun _ hSw => hSw.1)) (by assumption) ?rest27w6
  try simp only [Act.put, List.getElem_toArray, List.getElem_cons_zero, List.getElem_cons_succ, List.setIfInBounds_toArray, List.set_cons_zero, List.set_cons_succ]
  refine wpAnyH_ready (rs := [26]) (by kernel_rfl) (by simp) ?_
  refine AllReadyH.cons rfl (fun K hK => ?_) AllReadyH.nil
  go_simp
  go_at_call 18
  refine (last_nil _).mono ?_
  rintro e w_4 ⟨rfl, hb_4⟩
  have HB_4 := Lib.hid (HB_3.out.trans (hb_4.mono HB_3.out.size))
  have hk := And.intro (hHeld.1.below hb_4 hHeld.1.lt) (And.intro (hHeld.2.1.below hb_4 hHeld.2.1.lt) (hHeld.2.2.below hb_4 hHeld.2.2.lt))
  clear hb_4 HB_3 hHeld
  go_simp
  refine hK.out _ _ hk (fun hHeld => ?_)
  clear hK K hk
  try simp only [Act.put, List.getElem_toArray, List.getElem_cons_zero, List.getElem_cons_succ, List.setIfInBounds_toArray, List.set_cons_zero, List.set_cons_succ]
  refine wpAnyH_take (i := 28) (v := ?v28q11) rfl (by kernel_rfl) (by kernel_rfl) (by kernel_rfl) (fun _ _ _ h => h) (Or.inl ⟨by rfl, ?hy28q11⟩) (by assumption) ?rest28q11
  case hy28q11 => (intro w hSw; (try dsimp only at hSw); go_simp <;> with_reducible rfl)
  try simp only [Act.put, List.getElem_toArray, List.getElem_cons_zero, List.getElem_cons_succ, List.setIfInBounds_toArray, List.set_cons_zero, List.set_cons_succ]
  refine wpAnyH_take (i := 29) (v := ?v29q11) rfl (by kernel_rfl) (by kernel_rfl) (by kernel_rfl) (fun _ _ _ h => h) (Or.inl ⟨by rfl, ?hy29q11⟩) (by assumption) ?rest29q11
  case hy29q11 => (intro w hSw; (try dsimp only at hSw); go_simp <;> with_reducible rfl)
  try simp only [Act.put, List.getElem_toArray, List.getElem_cons_zero, List.getElem_cons_succ, List.setIfInBounds_toArray, List.set_cons_zero, List.set_cons_succ]
  refine wpAnyH_take (i := 30) (v := ?v30q11) rfl (by kernel_rfl) (by kernel_rfl) (by kernel_rfl) (fun _ _ _ h => h) (Or.inl ⟨by rfl, ?hy30q11⟩) (by assumption) ?rest30q11
  case hy30q11 => (intro w hSw; (try dsimp only at hSw); go_simp <;> with_reducible rfl)
  try simp only [Act.put, List.getElem_toArray, List.getElem_cons_zero, List.getElem_cons_succ, List.setIfInBounds_toArray, List.set_cons_zero, List.set_cons_succ]
  refine wpAnyH_take (i := 31) (v := ?v31q11) rfl (by kernel_rfl) (by kernel_rfl) (by kernel_rfl) (fun _ _ _ h => h) (Or.inl ⟨by rfl, ?hy31q11⟩) (by assumption) ?rest31q11
  case hy31q11 => (intro w hSw; (try dsimp only at hSw); go_simp <;> with_reducible rfl)
  try simp only [Act.put, List.getElem_toArray, List.getElem_cons_zero, List.getElem_cons_succ, List.setIfInBounds_toArray, List.set_cons_zero, List.set_cons_succ]
  refine wpAnyH_ready (rs := [32]) (by kernel_rfl) (by simp) ?_
  refine AllReadyH.cons rfl (fun K hK => ?_) AllReadyH.nil
  go_simp
  go_at_call 19
  refine (waits_nil _).mono ?_
  rintro e wq ⟨rfl, rfl⟩
  go_simp
  refine hK.out _ _ hHeld (fun hHeld => ?_)
  clear hK K
  try simp only [Act.put, List.getElem_toArray, List.getElem_cons_zero, List.getElem_cons_succ, List.setIfInBounds_toArray, List.set_cons_zero, List.set_cons_succ]
  refine wpAnyH_take (i := 33) (v := ?v33q12) rfl (by kernel_rfl) (by kernel_rfl) (by kernel_rfl) (fun _ _ _ h => h) (Or.inl ⟨by rfl, ?hy33q12⟩) (by assumption) ?rest33q12
  case hy33q12 => (intro w hSw; (try dsimp only at hSw); go_simp <;> with_reducible rfl)
  try simp only [Act.put, List.getElem_toArray, List.getElem_cons_zero, List.getElem_cons_succ, List.setIfInBounds_toArray, List.set_cons_zero, List.set_cons_succ]
  refine wpAnyH_take (i := 34) (v := ?v34q12) rfl (by kernel_rfl) (by kernel_rfl) (by kernel_rfl) (fun _ _ _ h => h) (Or.inl ⟨by rfl, ?hy34q12⟩) (by assumption) ?rest34q12
  case hy34q12 => (intro w hSw; (try dsimp only at hSw); go_simp <;> with_reducible rfl)
  try simp only [Act.put, List.getElem_toArray, List.getElem_cons_zero, List.getElem_cons_succ, List.setIfInBounds_toArray, List.set_cons_zero, List.set_cons_succ]
  refine wpAnyH_take (i := 35) (v := ?v35q12) rfl (by kernel_rfl) (by kernel_rfl) (by kernel_rfl) (fun _ _ _ h => h) (Or.inl ⟨by rfl, ?hy35q12⟩) (by assumption) ?rest35q12
  case hy35q12 => (intro w hSw; (try dsimp only at hSw); go_simp <;> with_reducible rfl)
  try simp only [Act.put, List.getElem_toArray, List.getElem_cons_zero, List.getElem_cons_succ, List.setIfInBounds_toArray, List.set_cons_zero, List.set_cons_succ]
  refine wpAnyH_done (by kernel_rfl) ?_ _
  clear hHeld
  go_wp2_with fail
  go_ret
  exact ⟨rfl, HB_4.out⟩
end Go.Proofs.Ytaffmcbpfjdokaa
