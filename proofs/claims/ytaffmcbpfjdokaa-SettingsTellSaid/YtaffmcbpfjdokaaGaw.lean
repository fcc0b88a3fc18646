/-
  SettingsApply: the law's walk. Condition: the list is read.
-/
import Derived.Test.YtaffmcbpfjdokaaGfix
namespace Go.Proofs.Ytaffmcbpfjdokaa
open Go.RowKit Go.WideShapes

theorem st_refl (x : St) (w : World) : (binOp .eql 24 (.agg x.c) (.agg x.c)).run Try.prog w = .ok (.bool true) w := by rw [st_eql, decide_eq_true rfl]
theorem ft_refl (s c : Nat) (w : World) : (binOp .eql 28 (.agg (ftc s c)) (.agg (ftc s c))).run Try.prog w = .ok (.bool true) w := by rw [ft_eql, decide_eq_true rfl, decide_eq_true rfl]; rfl
/-- One variable for settings: made, and stored into. -/
theorem one_var (w : World) (x : St) : ∃ w', ((w.alloc (.cells #[.int .u32 0, .bool false, .int .u32 0, .int .u32 0, .int .u32 0, .int .u32 0, .bool false] 24)).setRow w.heap.size x.c) = w' ∧
    Row (w.alloc (.cells #[.int .u32 0, .bool false, .int .u32 0, .int .u32 0, .int .u32 0, .int .u32 0, .bool false] 24)) w.heap.size 24 zS.c ∧ Row w' w.heap.size 24 x.c ∧ Below w.heap.size w w' ∧ w'.heap.size = w.heap.size + 1 := by
  have h1 : Row (w.alloc (.cells #[.int .u32 0, .bool false, .int .u32 0, .int .u32 0, .int .u32 0, .int .u32 0, .bool false] 24)) w.heap.size 24 zS.c := by rw [zc]; exact Row.new w _ _
  exact ⟨_, rfl, h1, h1.setRow _, below_setRow ((Below.refl _ _).alloc (Nat.le_refl _) _) _ _ (by omega), by simp⟩
attribute [local irreducible] St.c ftc sec

set_option maxRecDepth 100000 in
set_option maxHeartbeats 4000000 in
theorem apply_law (s : St) {A : Option Addr} {c : Nat} {l : List (Nat × Nat)} {w : World} (hr : RdS w (· < w.heap.size) A (enl sgc l)) :
    Calls Try.prog 3 #[.agg s.c, .slice A l.length c] w fun e w' => e = .returned (.bool true) ∧ Below w.heap.size w w' := by
  have HS := Lib.hid (Row.new w 24 s.c)
  have hb : Below w.heap.size w (w.alloc (.cells s.c 24)) := (Below.refl _ _).alloc (Nat.le_refl _) _
  have HB := Lib.hid hb
  by_cases hlen : 5000 < l.length
  · have h' : (5000 : Int) < (l.length : Int) := by omega
    clear hr hb HS hlen
    go_enter Try.func3, Try.ntmps3
    go_wp2_with fail
    refine (fixed_any _).mono ?_
    rintro e w1 ⟨rfl, hb⟩
    have HB2 := Lib.hid (HB.out.trans (hb.mono HB.out.size))
    clear hb HB
    go_wp2
    go_ret
    exact ⟨rfl, HB2.out⟩
  have h' : decide ((5000 : Int) < (l.length : Int)) = false := by simp; omega
  have hap := fun (W : World) (h : RdS W (· < W.heap.size) A (enl sgc l)) => apply_any s (c := c) h (by omega)
  have hra := fun (W : World) (h : RdS W (· < W.heap.size) A (enl sgc l)) => rapply_any s (c := c) h (by omega)
  have hle := apN_le s l s
  have HR1 := Lib.hid (hr.up hb)
  unfold ApPost at hap
  unfold RaPost at hra
  generalize (apN s s l).1 = x at *
  generalize (apN s s l).2 = n at *
  have htd := fun W => told_any hle W
  generalize (if n = 0 then 0 else 1) = sc at *
  generalize cdN n = cd at *
  generalize l.length = len at *
  clear hr hb hlen hle
  go_enter Try.func3, Try.ntmps3
  go_upto_region 1 with fail
  generalize w.alloc (.cells s.c 24) = w1 at *
  go_wp2_with (refine wpList_ld rfl _ rfl rfl HS.out (St.ok _) ?_)
  refine (hap _ HR1.out).mono ?_
  rintro e w2 ⟨rfl, hb2⟩
  obtain ⟨w3, hw3, t1, t2, t3, t4, t5, t6⟩ := two_vars w2 x sc n
  have T1 := Lib.hid t1
  have T2 := Lib.hid t2
  have T3 := Lib.hid t3
  have T4 := Lib.hid t4
  have T7 := Lib.hid hw3
  have hb3 := hb2.trans (t5.mono hb2.size)
  have HS3 := Lib.hid (HS.out.below hb3 HS.out.lt)
  have HB3 := Lib.hid (HB.out.trans (hb3.mono HB.out.size))
  have HR3 := Lib.hid (HR1.out.up hb3)
  clear t1 t2 t3 t4 t5 t6 hw3 hb2 hb3 HS HB HR1 hap
  go_upto_region 4 with (first | (refine wpList_sw (cs := x.c) rfl _ _ rfl rfl rfl T1.out (St.sz _ _) (St.ok _) ?_) | (refine wpList_sw (cs := ftc sc n) rfl _ _ rfl rfl rfl T2.out (ft_sz _ _ _ _) (ft_ok _ _) ?_))
  rw [T7.out]
  clear T1 T2 T7
  generalize w2.heap.size = p at *
  go_wp2_with (refine wpList_ld rfl _ rfl rfl HS3.out (St.ok _) ?_)
  refine (hra _ HR3.out).mono ?_
  rintro e w4 ⟨rfl, hb4⟩
  obtain ⟨w5, hw5, t1, t2, t3, t4⟩ := one_var w4 x
  have T1 := Lib.hid t1
  have T2 := Lib.hid t2
  have T7 := Lib.hid hw5
  have hb5 := hb4.trans (t3.mono hb4.size)
  have X5 := Lib.hid (T3.out.below hb5 T3.out.lt)
  have F5 := Lib.hid (T4.out.below hb5 T4.out.lt)
  have HB5 := Lib.hid (HB3.out.trans (hb5.mono HB3.out.size))
  clear t1 t2 t3 t4 hw5 hb4 hb5 HS3 HB3 HR3 T3 T4 hra
  go_upto_region 5 with (refine wpList_sw (cs := x.c) rfl _ _ rfl rfl rfl T1.out (St.sz _ _) (St.ok _) ?_)
  rw [T7.out]
  clear T1 T7
  generalize w4.heap.size = p7 at *
  have e1 := st_refl x
  have e2 := ft_refl sc n
  have e3 := st_refl begS
  refine wp_region_held_drew (S := fun w' => Row w' p 24 x.c ∧ Row w' p7 24 x.c ∧ Row w' (p + 1) 28 (ftc sc n)) (by kernel_rfl) ⟨X5.out, T2.out, F5.out⟩ (fun hHeld => ?_)
  have HD := Lib.hid (below_dN HB5.out 1)
  clear X5 T2 F5 HB5
  refine wpAnyH_ready (rs := [0]) (by kernel_rfl) (by simp) ?_
  refine AllReadyH.cons rfl (fun K hK => ?_) AllReadyH.nil
  go_simp
  go_at_call 7
  refine (fixed_any _).mono ?_
  rintro e w6 ⟨rfl, hb6⟩
  have HB6 := Lib.hid (HD.out.trans (hb6.mono HD.out.size))
  have hk := And.intro (hHeld.1.below hb6 hHeld.1.lt) (And.intro (hHeld.2.1.below hb6 hHeld.2.1.lt) (hHeld.2.2.below hb6 hHeld.2.2.lt))
  clear hb6 HD hHeld
  go_simp
  refine hK.out _ _ hk (fun hHeld => ?_)
  clear hK K hk
  try simp only [Act.put, List.getElem_toArray, List.getElem_cons_zero, List.getElem_cons_succ, List.setIfInBounds_toArray, List.set_cons_zero, List.set_cons_succ]
  refine wpAnyH_take (i := 1) (v := ?v1) rfl (by kernel_rfl) (by kernel_rfl) (by kernel_rfl) (fun _ _ _ h => h) (Or.inl ⟨by rfl, ?hy1⟩) (by assumption) ?rest1
  case hy1 => (intro w hSw; (try dsimp only at hSw); go_simp <;> with_reducible rfl)
  try simp only [Act.put, List.getElem_toArray, List.getElem_cons_zero, List.getElem_cons_succ, List.setIfInBounds_toArray, List.set_cons_zero, List.set_cons_succ]
  refine wpAnyH_take (i := 2) (v := _) rfl (by kernel_rfl) (by kernel_rfl) (by kernel_rfl) (fun _ _ _ h => h) (yields_ld (by rfl) _ rfl rfl (St.ok _) (fun _ hSw => hSw.1)) (by assumption) ?rest2w1
  try simp only [Act.put, List.getElem_toArray, List.getElem_cons_zero, List.getElem_cons_succ, List.setIfInBounds_toArray, List.set_cons_zero, List.set_cons_succ]
  refine wpAnyH_take (i := 3) (v := _) rfl (by kernel_rfl) (by kernel_rfl) (by kernel_rfl) (fun _ _ _ h => h) (yields_ld (by rfl) _ rfl rfl (St.ok _) (fun _ hSw => hSw.2.1)) (by assumption) ?rest3w2
  try simp only [Act.put, List.getElem_toArray, List.getElem_cons_zero, List.getElem_cons_succ, List.setIfInBounds_toArray, List.set_cons_zero, List.set_cons_succ]
  refine wpAnyH_take (i := 4) (v := ?v4q4) rfl (by kernel_rfl) (by kernel_rfl) (by kernel_rfl) (fun _ _ _ h => h) (Or.inl ⟨by rfl, ?hy4q4⟩) (by assumption) ?rest4q4
  case hy4q4 => (intro w hSw; (try dsimp only at hSw); go_simp <;> with_reducible rfl)
  try simp only [Act.put, List.getElem_toArray, List.getElem_cons_zero, List.getElem_cons_succ, List.setIfInBounds_toArray, List.set_cons_zero, List.set_cons_succ]
  refine wpAnyH_take (i := 5) (v := ?v5q4) rfl (by kernel_rfl) (by kernel_rfl) (by kernel_rfl) (fun _ _ _ h => h) (Or.inl ⟨by rfl, ?hy5q4⟩) (by assumption) ?rest5q4
  case hy5q4 => (intro w hSw; (try dsimp only at hSw); go_simp <;> with_reducible rfl)
  try simp only [Act.put, List.getElem_toArray, List.getElem_cons_zero, List.getElem_cons_succ, List.setIfInBounds_toArray, List.set_cons_zero, List.set_cons_succ]
  refine wpAnyH_take (i := 6) (v := ?v6q4) rfl (by kernel_rfl) (by kernel_rfl) (by kernel_rfl) (fun _ _ _ h => h) (Or.inl ⟨by rfl, ?hy6q4⟩) (by assumption) ?rest6q4
  case hy6q4 => (intro w hSw; (try dsimp only at hSw); go_simp <;> with_reducible rfl)
  try simp only [Act.put, List.getElem_toArray, List.getElem_cons_zero, List.getElem_cons_succ, List.setIfInBounds_toArray, List.set_cons_zero, List.set_cons_succ]
  refine wpAnyH_take (i := 7) (v := _) rfl (by kernel_rfl) (by kernel_rfl) (by kernel_rfl) (fun _ _ _ h => h) (yields_ld (by rfl) _ rfl rfl (ft_ok _ _) (fun _ hSw => hSw.2.2)) (by assumption) ?rest7w3
  try simp only [Act.put, List.getElem_toArray, List.getElem_cons_zero, List.getElem_cons_succ, List.setIfInBounds_toArray, List.set_cons_zero, List.set_cons_succ]
  refine wpAnyH_take (i := 8) (v := ?v8q5) rfl (by kernel_rfl) (by kernel_rfl) (by kernel_rfl) (fun _ _ _ h => h) (Or.inl ⟨by rfl, ?hy8q5⟩) (by assumption) ?rest8q5
  case hy8q5 => (intro w hSw; (try dsimp only at hSw); go_simp <;> with_reducible rfl)
  try simp only [Act.put, List.getElem_toArray, List.getElem_cons_zero, List.getElem_cons_succ, List.setIfInBounds_toArray, List.set_cons_zero, List.set_cons_succ]
  refine wpAnyH_ready (rs := [9]) (by kernel_rfl) (by simp) ?_
  refine AllReadyH.cons rfl (fun K hK => ?_) AllReadyH.nil
  go_simp
  go_at_call 10
  refine (htd _).mono ?_
  rintro e w7 ⟨rfl, hb7⟩
  have HB7 := Lib.hid (HB6.out.trans (hb7.mono HB6.out.size))
  have hk := And.intro (hHeld.1.below hb7 hHeld.1.lt) (And.intro (hHeld.2.1.below hb7 hHeld.2.1.lt) (hHeld.2.2.below hb7 hHeld.2.2.lt))
  clear hb7 HB6 hHeld htd
  go_simp
  refine hK.out _ _ hk (fun hHeld => ?_)
  clear hK K hk
  try simp only [Act.put, List.getElem_toArray, List.getElem_cons_zero, List.getElem_cons_succ, List.setIfInBounds_toArray, List.set_cons_zero, List.set_cons_succ]
  refine wpAnyH_take (i := 10) (v := ?v10q6) rfl (by kernel_rfl) (by kernel_rfl) (by kernel_rfl) (fun _ _ _ h => h) (Or.inl ⟨by rfl, ?hy10q6⟩) (by assumption) ?rest10q6
  case hy10q6 => (intro w hSw; (try dsimp only at hSw); go_simp <;> with_reducible rfl)
  try simp only [Act.put, List.getElem_toArray, List.getElem_cons_zero, List.getElem_cons_succ, List.setIfInBounds_toArray, List.set_cons_zero, List.set_cons_succ]
  refine wpAnyH_take (i := 11) (v := ?v11q6) rfl (by kernel_rfl) (by kernel_rfl) (by kernel_rfl) (fun _ _ _ h => h) (Or.inl ⟨by rfl, ?hy11q6⟩) (by assumption) ?rest11q6
  case hy11q6 => (intro w hSw; (try dsimp only at hSw); go_simp <;> with_reducible rfl)
  try simp only [Act.put, List.getElem_toArray, List.getElem_cons_zero, List.getElem_cons_succ, List.setIfInBounds_toArray, List.set_cons_zero, List.set_cons_succ]
  refine wpAnyH_take (i := 12) (v := ?v12q6) rfl (by kernel_rfl) (by kernel_rfl) (by kernel_rfl) (fun _ _ _ h => h) (Or.inl ⟨by rfl, ?hy12q6⟩) (by assumption) ?rest12q6
  case hy12q6 => (intro w hSw; (try dsimp only at hSw); go_simp <;> with_reducible rfl)
  try simp only [Act.put, List.getElem_toArray, List.getElem_cons_zero, List.getElem_cons_succ, List.setIfInBounds_toArray, List.set_cons_zero, List.set_cons_succ]
  refine wpAnyH_ready (rs := [13]) (by kernel_rfl) (by simp) ?_
  refine AllReadyH.cons rfl (fun K hK => ?_) AllReadyH.nil
  go_simp
  go_at_call 11
  refine (begi_any _).mono ?_
  rintro e w8 ⟨rfl, hb8⟩
  have HB8 := Lib.hid (HB7.out.trans (hb8.mono HB7.out.size))
  have hk := And.intro (hHeld.1.below hb8 hHeld.1.lt) (And.intro (hHeld.2.1.below hb8 hHeld.2.1.lt) (hHeld.2.2.below hb8 hHeld.2.2.lt))
  clear hb8 HB7 hHeld
  go_simp
  refine hK.out _ _ hk (fun hHeld => ?_)
  clear hK K hk
  try simp only [Act.put, List.getElem_toArray, List.getElem_cons_zero, List.getElem_cons_succ, List.setIfInBounds_toArray, List.set_cons_zero, List.set_cons_succ]
  refine wpAnyH_ready (rs := [14]) (by kernel_rfl) (by simp) ?_
  refine AllReadyH.cons rfl (fun K hK => ?_) AllReadyH.nil
  go_simp
  go_at_call 12
  refine (rbegi_any _).mono ?_
  rintro e w9 ⟨rfl, hb9⟩
  have HB9 := Lib.hid (HB8.out.trans (hb9.mono HB8.out.size))
  have hk := And.intro (hHeld.1.below hb9 hHeld.1.lt) (And.intro (hHeld.2.1.below hb9 hHeld.2.1.lt) (hHeld.2.2.below hb9 hHeld.2.2.lt))
  clear hb9 HB8 hHeld
  go_simp
  refine hK.out _ _ hk (fun hHeld => ?_)
  clear hK K hk
  try simp only [Act.put, List.getElem_toArray, List.getElem_cons_zero, List.getElem_cons_succ, List.setIfInBounds_toArray, List.set_cons_zero, List.set_cons_succ]
  refine wpAnyH_take (i := 15) (v := ?v15q7) rfl (by kernel_rfl) (by kernel_rfl) (by kernel_rfl) (fun _ _ _ h => h) (Or.inl ⟨by rfl, ?hy15q7⟩) (by assumption) ?rest15q7
  case hy15q7 => (intro w hSw; (try dsimp only at hSw); go_simp <;> with_reducible rfl)
  try simp only [Act.put, List.getElem_toArray, List.getElem_cons_zero, List.getElem_cons_succ, List.setIfInBounds_toArray, List.set_cons_zero, List.set_cons_succ]
  refine wpAnyH_take (i := 16) (v := ?v16q7) rfl (by kernel_rfl) (by kernel_rfl) (by kernel_rfl) (fun _ _ _ h => h) (Or.inl ⟨by rfl, ?hy16q7⟩) (by assumption) ?rest16q7
  case hy16q7 => (intro w hSw; (try dsimp only at hSw); go_simp <;> with_reducible rfl)
  try simp only [Act.put, List.getElem_toArray, List.getElem_cons_zero, List.getElem_cons_succ, List.setIfInBounds_toArray, List.set_cons_zero, List.set_cons_succ]
  refine wpAnyH_take (i := 17) (v := ?v17q7) rfl (by kernel_rfl) (by kernel_rfl) (by kernel_rfl) (fun _ _ _ h => h) (Or.inl ⟨by rfl, ?hy17q7⟩) (by assumption) ?rest17q7
  case hy17q7 => (intro w hSw; (try dsimp only at hSw); go_simp <;> with_reducible rfl)
  try simp only [Act.put, List.getElem_toArray, List.getElem_cons_zero, List.getElem_cons_succ, List.setIfInBounds_toArray, List.set_cons_zero, List.set_cons_succ]
  refine wpAnyH_done (by kernel_rfl) ?_ _
  clear hHeld
  go_wp2_with fail
  go_ret
  exact ⟨rfl, HB9.out⟩
end Go.Proofs.Ytaffmcbpfjdokaa
