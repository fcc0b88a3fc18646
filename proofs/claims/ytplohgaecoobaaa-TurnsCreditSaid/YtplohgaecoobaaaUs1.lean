/-
  step: Grow and Shift, by contract. Conditions: the rings are the model's.
-/
import Derived.Test.YtplohgaecoobaaaUs0
namespace Go.Proofs.Ytplohgaecoobaaa
open Go.RowKit Go.WideShapes

theorem gwS_in (l n : Int) (b sh : Bool) : 0 ≤ gwS l n b sh ∧ gwS l n b sh ≤ 3 := by
  unfold gwS scN
  split
  · split <;> omega
  · omega
theorem rmGrow_in (m : Rm) (s n : Nat) : 0 ≤ (rmGrow m s n).2 ∧ (rmGrow m s n).2 ≤ 3 := by
  unfold rmGrow
  split
  · exact gwS_in _ _ _ _
  · split
    · exact ⟨Int.le_refl _, (by show (0 : Int) ≤ 3; decide)⟩
    · exact gwS_in _ _ _ _
theorem shL_in (d : Int) : ∀ l : List Sn, 0 ≤ (shL d l).2 ∧ (shL d l).2 ≤ 3
  | [] => ⟨Int.le_refl _, (by show (0 : Int) ≤ 3; decide)⟩
  | x :: r => by
    unfold shL
    split
    · exact ⟨(by show (0 : Int) ≤ 1; decide), (by show (1 : Int) ≤ 3; decide)⟩
    · exact shL_in d r
theorem rmShift_in (m : Rm) (d : Int) : 0 ≤ (rmShift m d).2 ∧ (rmShift m d).2 ≤ 3 := shL_in d m.l
theorem td_eql (z : Int) (W : World) : (binOp .eql 56 (.agg (tdc z)) (.agg (tdc z))).run Try.prog W = .ok (.bool true) W := by
  unfold tdc
  split
  · have := ft_eql 0 0 0 0 W
    simpa using this
  · have := ft_eql z.toNat 3 z.toNat 3 W
    simpa using this
attribute [local irreducible] snc rrc ovc rmGrow rmShift tdc
set_option maxRecDepth 100000 in
set_option maxHeartbeats 4000000 in
theorem step_grow {w : World} {F : Nat → Prop} {g : Nat} {m : Rm} {A : Option Addr} {c : Nat} (hT : Tr w F g m) (hm : m.Ok) (hs : m.Sm) (hR : RgS w (fun b => ¬ F b) A c (rot m.l m.t)) (o : Ov) (hk : o.kd = 3) :
    Calls Try.prog 12 #[.pointer (some ⟨g, 0, none⟩), .agg (rrc A m.l.length c m.t m.w), .agg (ovc o)] w (StP w F g (rmGrow m o.st o.x).1) := by
  obtain ⟨w0, hw0, t1, t2, t3, t4, t5⟩ := three_ref w (rrc A m.l.length c m.t m.w) (ovc o) #[.slice none 0 0, .int .i64 0, .int .i64 0, .bool false] 31 36 31
  have HW := Lib.hid hw0
  rw [rr_zero] at t3
  have T1 := Lib.hid t1
  have T2 := Lib.hid t2
  have T3 := Lib.hid t3
  have T4 := Lib.hid t4
  have HLT := Lib.hid hT.lts
  have HT0 := Lib.hid (hT.below t4)
  have HR0 := Lib.hid (hR.begin t4)
  have hw3 : w.heap.size + 3 ≤ w0.heap.size := by omega
  obtain ⟨c0, c1, c2, c3, c4, c5, c6⟩ := ov_cells t2
  rw [hk] at c0
  have HOP := Lib.hid (fun (W : World) (S : Nat → Prop) (h : RgS W S A c (rot m.l m.t)) => growM hm h o.st o.x o.hx)
  have HTO := Lib.hid (fun (W : World) (h : Tr W F g m) => tgrow_any h hm hs o.st o.x o.hx)
  have HIN := Lib.hid (rmGrow_in m o.st o.x)
  clear hw0 t1 t2 t3 t4 hT hR hk hm hs c2 c3 c4
  go_enter Try.func12, Try.ntmps12
  go_upto_region 1 with fail
  rw [HW.out]
  clear HW
  generalize (rmGrow m o.st o.x).1 = m' at *
  generalize (rmGrow m o.st o.x).2 = z at *
  go_wp2_with (refine wpList_ld rfl _ rfl rfl T1.out (rr_ok _ _ _ _ _) ?_)
  refine (HOP.out _ _ HR0.out).mono ?_
  rintro e w1 ⟨A1, c1', rfl, hR1, hb1⟩
  have HR1 := Lib.hid (hR1.made hw3)
  have HT1 := Lib.hid (HT0.out.below hb1)
  have T21 := Lib.hid (T2.out.below hb1 T2.out.lt)
  have T31 := Lib.hid (T3.out.below hb1 T3.out.lt)
  have T41 := Lib.hid (T4.out.trans (hb1.mono T4.out.size))
  clear hb1 hR1 HT0 HR0 T1 T2 T3 T4 c0 c1 c5 c6 HOP
  obtain ⟨w2, hw2, u1, u2, u3, u4⟩ := one_rr w1 A1 m'.l.length c1' m'.t m'.w
  rw [← rr_zero] at u1
  have HW2 := Lib.hid hw2
  have U1 := Lib.hid u1
  have U2 := Lib.hid u2
  have HR2 := Lib.hid (HR1.out.on u3)
  have hw23 : w.heap.size + 3 ≤ w2.heap.size := by have := T31.out.lt; have := u3.size; omega
  have HW23 := Lib.hid hw23
  have HT2 := Lib.hid (HT1.out.below u3)
  have T22 := Lib.hid (T21.out.below u3 T21.out.lt)
  have T32 := Lib.hid (T31.out.below u3 T31.out.lt)
  have T42 := Lib.hid (T41.out.trans (u3.mono T41.out.size))
  have hpp : w.heap.size + 2 < w1.heap.size := T31.out.lt
  clear hw2 u1 u2 u3 u4 hw3 hw23 HR1 HT1 T21 T31 T41
  go_upto_region 19 with (refine wpList_sw (cs := rrc A1 m'.l.length c1' m'.t m'.w) rfl _ _ rfl rfl rfl U1.out (by rw [rr_size]; rfl) (rr_ok _ _ _ _ _) ?_)
  rw [HW2.out]
  clear HW2 U1
  generalize w1.heap.size = p at *
  have d1 : w2.drew.cell? ⟨w.heap.size + 1, 1, none⟩ = some (.int .u32 o.st) := (ov_cells T22.out).2.1
  have d2 : w2.drew.cell? ⟨w.heap.size + 1, 5, none⟩ = some (.int .u32 o.x) := (ov_cells T22.out).2.2.2.2.2.1
  refine wp_region_E 11 (fun w' => Row w' p 31 (rrc A1 m'.l.length c1' m'.t m'.w) ∧ w'.cell? ⟨w.heap.size + 1, 1, none⟩ = some (.int .u32 o.st) ∧ w'.cell? ⟨w.heap.size + 1, 5, none⟩ = some (.int .u32 o.x)) (by kernel_rfl) ⟨U2.out, d1, d2⟩ (fun hHeld => ?_)
  refine wpAnyE_take (i := 0) (v := ?v0) rfl (by kernel_rfl) (by kernel_rfl) (by kernel_rfl) (by kernel_rfl) (fun _ _ _ h => h) (Or.inl ⟨by rfl, ?hy0⟩) (by assumption) ?rest0
  case hy0 => (intro w hSw; (try dsimp only at hSw); go_simp <;> with_reducible rfl)
  try simp only [Act.put, List.getElem_toArray, List.getElem_cons_zero, List.setIfInBounds_toArray, List.set_cons_zero, List.set_cons_succ]
  refine wpAnyE_take (i := 1) (v := ?v1) rfl (by kernel_rfl) (by kernel_rfl) (by kernel_rfl) (by kernel_rfl) (fun _ _ _ h => h) (Or.inl ⟨by rfl, ?hy1⟩) (by assumption) ?rest1
  case hy1 => (intro w hSw; (try dsimp only at hSw); go_simp <;> with_reducible rfl)
  try simp only [Act.put, List.getElem_toArray, List.getElem_cons_zero, List.getElem_cons_succ, List.setIfInBounds_toArray, List.set_cons_zero, List.set_cons_succ]
  refine wpAnyE_take (i := 2) (v := ?v2) rfl (by kernel_rfl) (by kernel_rfl) (by kernel_rfl) (by kernel_rfl) (fun _ _ _ h => h) (Or.inl ⟨by rfl, ?hy2⟩) (by assumption) ?rest2
  case hy2 => (intro w hSw; (try dsimp only at hSw); go_simp <;> with_reducible rfl)
  try simp only [Act.put, List.getElem_toArray, List.getElem_cons_zero, List.getElem_cons_succ, List.setIfInBounds_toArray, List.set_cons_zero, List.set_cons_succ]
  refine wpAnyE_take (i := 3) (v := ?v3) rfl (by kernel_rfl) (by kernel_rfl) (by kernel_rfl) (by kernel_rfl) (fun _ _ _ h => h) (Or.inl ⟨by rfl, ?hy3⟩) (by assumption) ?rest3
  case hy3 => (intro w hSw; (try dsimp only at hSw); go_simp <;> with_reducible rfl)
  try simp only [Act.put, List.getElem_toArray, List.getElem_cons_zero, List.getElem_cons_succ, List.setIfInBounds_toArray, List.set_cons_zero, List.set_cons_succ]
  refine wpAnyE_take (i := 4) (v := ?v4) rfl (by kernel_rfl) (by kernel_rfl) (by kernel_rfl) (by kernel_rfl) (fun _ _ _ h => h) (Or.inl ⟨by rfl, ?hy4⟩) (by assumption) ?rest4
  case hy4 => (intro w hSw; (try dsimp only at hSw); go_simp <;> with_reducible rfl)
  try simp only [Act.put, List.getElem_toArray, List.getElem_cons_zero, List.getElem_cons_succ, List.setIfInBounds_toArray, List.set_cons_zero, List.set_cons_succ]
  refine wpAnyE_take (i := 6) (v := ?v6) rfl (by kernel_rfl) (by kernel_rfl) (by kernel_rfl) (by kernel_rfl) (fun _ _ _ h => h) (Or.inl ⟨by rfl, ?hy6⟩) (by assumption) ?rest6
  case hy6 => (intro w hSw; (try dsimp only at hSw); go_simp <;> with_reducible rfl)
  try simp only [Act.put, List.getElem_toArray, List.getElem_cons_zero, List.getElem_cons_succ, List.setIfInBounds_toArray, List.set_cons_zero, List.set_cons_succ]
  refine wpAnyE_take (i := 9) (v := _) rfl (by kernel_rfl) (by kernel_rfl) (by kernel_rfl) (by kernel_rfl) (fun _ _ _ h => h) (yields_ld (by rfl) _ rfl rfl (rr_ok _ _ _ _ _) (fun _ hSw => hSw.1)) (by assumption) ?rest9w1
  try simp only [Act.put, List.getElem_toArray, List.getElem_cons_zero, List.getElem_cons_succ, List.setIfInBounds_toArray, List.set_cons_zero, List.set_cons_succ]
  refine wpAnyE_next (i := 5) (by kernel_rfl) rfl (fun K hK => ?_)
  go_simp
  go_at_call 24
  refine (HTO.out w2.drew (HT2.out.keep (w' := w2.drew) fun _ _ => rfl)).mono ?_
  rintro e w3 ⟨rfl, F', hT3, hF3, hN3⟩
  have hF3' : Fs F w2 w3 := ⟨hF3.os, hF3.tape, hF3.output, hF3.size, hF3.block⟩
  have hlt := HLT.out
  have hnF : ∀ k, w.heap.size ≤ k → ¬ F k := fun k h1 h2 => by have := hlt k h2; omega
  have V2 := Lib.hid (hF3'.row (hnF _ (by omega)) U2.out)
  have T23 := Lib.hid (hF3'.row (hnF _ (by omega)) T22.out)
  have T33 := Lib.hid (hF3'.row (hnF _ (by omega)) T32.out)
  have HT3 := Lib.hid hT3
  have HF3 := Lib.hid hF3'
  have HN3 : Hid (∀ k, F' k → F k ∨ w2.heap.size ≤ k) := hN3
  clear hT3 hF3 hF3' hN3 hnF U2 T22 T32 HT2 d1 d2 HTO hHeld hlt
  have d1 := (ov_cells T23.out).2.1
  have d2 := (ov_cells T23.out).2.2.2.2.2.1
  go_simp
  refine hK.out _ _ ⟨V2.out, d1, d2⟩ (fun hHeld => ?_)
  clear hK K hHeld
  try simp only [Act.put, List.getElem_toArray, List.getElem_cons_zero, List.getElem_cons_succ, List.setIfInBounds_toArray, List.set_cons_zero, List.set_cons_succ]
  refine wpAnyE_next (i := 7) (by kernel_rfl) rfl (fun K hK => ?_)
  go_simp
  go_at_call 32
  refine (told_any z HIN.out w3).mono ?_
  rintro e w4 ⟨rfl, hb4⟩
  have V24 := Lib.hid (V2.out.below hb4 V2.out.lt)
  have T24 := Lib.hid (T23.out.below hb4 T23.out.lt)
  have T34 := Lib.hid (T33.out.below hb4 T33.out.lt)
  have HF4 := Lib.hid (HF3.out.then_below hb4)
  have HST := Lib.hid (st_end HLT.out T42.out HW23.out HR2.out HF4.out HN3.out (HT3.out.below hb4) (rrc A1 m'.l.length c1' m'.t m'.w))
  clear hb4 V2 T23 T33 HT3 HF3 HF4 HN3 HR2 T42 d1 d2
  have d1 := (ov_cells T24.out).2.1
  have d2 := (ov_cells T24.out).2.2.2.2.2.1
  have hq := td_eql z
  go_simp
  refine hK.out _ _ ⟨V24.out, d1, d2⟩ (fun hHeld => ?_)
  clear hK K
  try simp only [Act.put, List.getElem_toArray, List.getElem_cons_zero, List.getElem_cons_succ, List.setIfInBounds_toArray, List.set_cons_zero, List.set_cons_succ]
  refine wpAnyE_take (i := 8) (v := ?v8q3) rfl (by kernel_rfl) (by kernel_rfl) (by kernel_rfl) (by kernel_rfl) (fun _ _ _ h => h) (Or.inl ⟨by rfl, ?hy8q3⟩) (by assumption) ?rest8q3
  case hy8q3 => (intro w hSw; (try dsimp only at hSw); go_simp <;> with_reducible rfl)
  try simp only [Act.put, List.getElem_toArray, List.getElem_cons_zero, List.getElem_cons_succ, List.setIfInBounds_toArray, List.set_cons_zero, List.set_cons_succ]
  refine wpAnyE_take (i := 10) (v := ?v10q3) rfl (by kernel_rfl) (by kernel_rfl) (by kernel_rfl) (by kernel_rfl) (fun _ _ _ h => h) (Or.inl ⟨by rfl, ?hy10q3⟩) (by assumption) ?rest10q3
  case hy10q3 => (intro w hSw; (try dsimp only at hSw); go_simp <;> with_reducible rfl)
  try simp only [Act.put, List.getElem_toArray, List.getElem_cons_zero, List.getElem_cons_succ, List.setIfInBounds_toArray, List.set_cons_zero, List.set_cons_succ]
  refine wpAnyE_last (by kernel_rfl) rfl (by kernel_rfl) (fun K hK => ?_)
  refine step_sw (cs := rrc A1 m'.l.length c1' m'.t m'.w) rfl _ _ rfl rfl rfl T34.out (rr_sz _ _ _ _ _ _ _ _ _ _) (rr_ok _ _ _ _ _) ?_
  refine hK.out _ _ ?_
  clear hK K hHeld d1 d2 hq
  try simp only [Act.put, List.getElem_toArray, List.getElem_cons_zero, List.getElem_cons_succ]
  have V3 := Lib.hid (T34.out.setRow (rrc A1 m'.l.length c1' m'.t m'.w))
  clear T34 T24 V24
  go_wp2_with fail
  exact bodyPost_ret (ret_vag (v := .bool true) rfl _ rfl rfl V3.out (rr_ok _ _ _ _ _)) rfl HST.out
set_option maxRecDepth 100000 in
set_option maxHeartbeats 4000000 in
theorem step_shift {w : World} {F : Nat → Prop} {g : Nat} {m : Rm} {A : Option Addr} {c : Nat} (hT : Tr w F g m) (hm : m.Ok) (hs : m.Sm) (hR : RgS w (fun b => ¬ F b) A c (rot m.l m.t)) (o : Ov) (hk : o.kd = 4) :
    Calls Try.prog 12 #[.pointer (some ⟨g, 0, none⟩), .agg (rrc A m.l.length c m.t m.w), .agg (ovc o)] w (StP w F g (rmShift m ((o.y : Int) - o.x)).1) := by
  obtain ⟨w0, hw0, t1, t2, t3, t4, t5⟩ := three_ref w (rrc A m.l.length c m.t m.w) (ovc o) #[.slice none 0 0, .int .i64 0, .int .i64 0, .bool false] 31 36 31
  have HW := Lib.hid hw0
  rw [rr_zero] at t3
  have T1 := Lib.hid t1
  have T2 := Lib.hid t2
  have T3 := Lib.hid t3
  have T4 := Lib.hid t4
  have HLT := Lib.hid hT.lts
  have HT0 := Lib.hid (hT.below t4)
  have HR0 := Lib.hid (hR.begin t4)
  have hw3 : w.heap.size + 3 ≤ w0.heap.size := by omega
  obtain ⟨c0, c1, c2, c3, c4, c5, c6⟩ := ov_cells t2
  rw [hk] at c0
  have HOP := Lib.hid (fun (W : World) (S : Nat → Prop) (h : RgS W S A c (rot m.l m.t)) => shiftM hm h o.x o.y o.hx o.hy)
  have HTO := Lib.hid (fun (W : World) (h : Tr W F g m) => tshift_any h hm hs o.x o.y o.hx o.hy)
  have HIN := Lib.hid (rmShift_in m ((o.y : Int) - o.x))
  clear hw0 t1 t2 t3 t4 hT hR hk hm hs c2 c3 c4
  go_enter Try.func12, Try.ntmps12
  go_upto_region 1 with fail
  rw [HW.out]
  clear HW
  generalize (rmShift m ((o.y : Int) - o.x)).1 = m' at *
  generalize (rmShift m ((o.y : Int) - o.x)).2 = z at *
  go_wp2_with (refine wpList_ld rfl _ rfl rfl T1.out (rr_ok _ _ _ _ _) ?_)
  refine (HOP.out _ _ HR0.out).mono ?_
  rintro e w1 ⟨A1, c1', rfl, hR1, hb1⟩
  have HR1 := Lib.hid (hR1.made hw3)
  have HT1 := Lib.hid (HT0.out.below hb1)
  have T21 := Lib.hid (T2.out.below hb1 T2.out.lt)
  have T31 := Lib.hid (T3.out.below hb1 T3.out.lt)
  have T41 := Lib.hid (T4.out.trans (hb1.mono T4.out.size))
  clear hb1 hR1 HT0 HR0 T1 T2 T3 T4 c0 c1 c5 c6 HOP
  obtain ⟨w2, hw2, u1, u2, u3, u4⟩ := one_rr w1 A1 m'.l.length c1' m'.t m'.w
  rw [← rr_zero] at u1
  have HW2 := Lib.hid hw2
  have U1 := Lib.hid u1
  have U2 := Lib.hid u2
  have HR2 := Lib.hid (HR1.out.on u3)
  have hw23 : w.heap.size + 3 ≤ w2.heap.size := by have := T31.out.lt; have := u3.size; omega
  have HW23 := Lib.hid hw23
  have HT2 := Lib.hid (HT1.out.below u3)
  have T22 := Lib.hid (T21.out.below u3 T21.out.lt)
  have T32 := Lib.hid (T31.out.below u3 T31.out.lt)
  have T42 := Lib.hid (T41.out.trans (u3.mono T41.out.size))
  have hpp : w.heap.size + 2 < w1.heap.size := T31.out.lt
  clear hw2 u1 u2 u3 u4 hw3 hw23 HR1 HT1 T21 T31 T41
  go_upto_region 22 with (refine wpList_sw (cs := rrc A1 m'.l.length c1' m'.t m'.w) rfl _ _ rfl rfl rfl U1.out (by rw [rr_size]; rfl) (rr_ok _ _ _ _ _) ?_)
  rw [HW2.out]
  clear HW2 U1
  generalize w1.heap.size = p at *
  have d1 : w2.drew.cell? ⟨w.heap.size + 1, 5, none⟩ = some (.int .u32 o.x) := (ov_cells T22.out).2.2.2.2.2.1
  have d2 : w2.drew.cell? ⟨w.heap.size + 1, 6, none⟩ = some (.int .u32 o.y) := (ov_cells T22.out).2.2.2.2.2.2
  refine wp_region_E 11 (fun w' => Row w' p 31 (rrc A1 m'.l.length c1' m'.t m'.w) ∧ w'.cell? ⟨w.heap.size + 1, 5, none⟩ = some (.int .u32 o.x) ∧ w'.cell? ⟨w.heap.size + 1, 6, none⟩ = some (.int .u32 o.y)) (by kernel_rfl) ⟨U2.out, d1, d2⟩ (fun hHeld => ?_)
  refine wpAnyE_take (i := 0) (v := ?v0q4) rfl (by kernel_rfl) (by kernel_rfl) (by kernel_rfl) (by kernel_rfl) (fun _ _ _ h => h) (Or.inl ⟨by rfl, ?hy0q4⟩) (by assumption) ?rest0q4
  case hy0q4 => (intro w hSw; (try dsimp only at hSw); go_simp <;> with_reducible rfl)
  try simp only [Act.put, List.getElem_toArray, List.getElem_cons_zero, List.setIfInBounds_toArray, List.set_cons_zero, List.set_cons_succ]
  refine wpAnyE_take (i := 1) (v := ?v1q4) rfl (by kernel_rfl) (by kernel_rfl) (by kernel_rfl) (by kernel_rfl) (fun _ _ _ h => h) (Or.inl ⟨by rfl, ?hy1q4⟩) (by assumption) ?rest1q4
  case hy1q4 => (intro w hSw; (try dsimp only at hSw); go_simp <;> with_reducible rfl)
  try simp only [Act.put, List.getElem_toArray, List.getElem_cons_zero, List.getElem_cons_succ, List.setIfInBounds_toArray, List.set_cons_zero, List.set_cons_succ]
  refine wpAnyE_take (i := 2) (v := ?v2q4) rfl (by kernel_rfl) (by kernel_rfl) (by kernel_rfl) (by kernel_rfl) (fun _ _ _ h => h) (Or.inl ⟨by rfl, ?hy2q4⟩) (by assumption) ?rest2q4
  case hy2q4 => (intro w hSw; (try dsimp only at hSw); go_simp <;> with_reducible rfl)
  try simp only [Act.put, List.getElem_toArray, List.getElem_cons_zero, List.getElem_cons_succ, List.setIfInBounds_toArray, List.set_cons_zero, List.set_cons_succ]
  refine wpAnyE_take (i := 3) (v := ?v3q4) rfl (by kernel_rfl) (by kernel_rfl) (by kernel_rfl) (by kernel_rfl) (fun _ _ _ h => h) (Or.inl ⟨by rfl, ?hy3q4⟩) (by assumption) ?rest3q4
  case hy3q4 => (intro w hSw; (try dsimp only at hSw); go_simp <;> with_reducible rfl)
  try simp only [Act.put, List.getElem_toArray, List.getElem_cons_zero, List.getElem_cons_succ, List.setIfInBounds_toArray, List.set_cons_zero, List.set_cons_succ]
  refine wpAnyE_take (i := 4) (v := ?v4q4) rfl (by kernel_rfl) (by kernel_rfl) (by kernel_rfl) (by kernel_rfl) (fun _ _ _ h => h) (Or.inl ⟨by rfl, ?hy4q4⟩) (by assumption) ?rest4q4
  case hy4q4 => (intro w hSw; (try dsimp only at hSw); go_simp <;> with_reducible rfl)
  try simp only [Act.put, List.getElem_toArray, List.getElem_cons_zero, List.getElem_cons_succ, List.setIfInBounds_toArray, List.set_cons_zero, List.set_cons_succ]
  refine wpAnyE_take (i := 6) (v := ?v6q4) rfl (by kernel_rfl) (by kernel_rfl) (by kernel_rfl) (by kernel_rfl) (fun _ _ _ h => h) (Or.inl ⟨by rfl, ?hy6q4⟩) (by assumption) ?rest6q4
  case hy6q4 => (intro w hSw; (try dsimp only at hSw); go_simp <;> with_reducible rfl)
  try simp only [Act.put, List.getElem_toArray, List.getElem_cons_zero, List.getElem_cons_succ, List.setIfInBounds_toArray, List.set_cons_zero, List.set_cons_succ]
  refine wpAnyE_take (i := 9) (v := _) rfl (by kernel_rfl) (by kernel_rfl) (by kernel_rfl) (by kernel_rfl) (fun _ _ _ h => h) (yields_ld (by rfl) _ rfl rfl (rr_ok _ _ _ _ _) (fun _ hSw => hSw.1)) (by assumption) ?rest9w2
  try simp only [Act.put, List.getElem_toArray, List.getElem_cons_zero, List.getElem_cons_succ, List.setIfInBounds_toArray, List.set_cons_zero, List.set_cons_succ]
  refine wpAnyE_next (i := 5) (by kernel_rfl) rfl (fun K hK => ?_)
  go_simp
  go_at_call 26
  refine (HTO.out w2.drew (HT2.out.keep (w' := w2.drew) fun _ _ => rfl)).mono ?_
  rintro e w3 ⟨rfl, F', hT3, hF3, hN3⟩
  have hF3' : Fs F w2 w3 := ⟨hF3.os, hF3.tape, hF3.output, hF3.size, hF3.block⟩
  have hlt := HLT.out
  have hnF : ∀ k, w.heap.size ≤ k → ¬ F k := fun k h1 h2 => by have := hlt k h2; omega
  have V2 := Lib.hid (hF3'.row (hnF _ (by omega)) U2.out)
  have T23 := Lib.hid (hF3'.row (hnF _ (by omega)) T22.out)
  have T33 := Lib.hid (hF3'.row (hnF _ (by omega)) T32.out)
  have HT3 := Lib.hid hT3
  have HF3 := Lib.hid hF3'
  have HN3 : Hid (∀ k, F' k → F k ∨ w2.heap.size ≤ k) := hN3
  clear hT3 hF3 hF3' hN3 hnF U2 T22 T32 HT2 d1 d2 HTO hHeld hlt
  have d1 := (ov_cells T23.out).2.2.2.2.2.1
  have d2 := (ov_cells T23.out).2.2.2.2.2.2
  go_simp
  refine hK.out _ _ ⟨V2.out, d1, d2⟩ (fun hHeld => ?_)
  clear hK K hHeld
  try simp only [Act.put, List.getElem_toArray, List.getElem_cons_zero, List.getElem_cons_succ, List.setIfInBounds_toArray, List.set_cons_zero, List.set_cons_succ]
  refine wpAnyE_next (i := 7) (by kernel_rfl) rfl (fun K hK => ?_)
  go_simp
  go_at_call 32
  refine (told_any z HIN.out w3).mono ?_
  rintro e w4 ⟨rfl, hb4⟩
  have V24 := Lib.hid (V2.out.below hb4 V2.out.lt)
  have T24 := Lib.hid (T23.out.below hb4 T23.out.lt)
  have T34 := Lib.hid (T33.out.below hb4 T33.out.lt)
  have HF4 := Lib.hid (HF3.out.then_below hb4)
  have HST := Lib.hid (st_end HLT.out T42.out HW23.out HR2.out HF4.out HN3.out (HT3.out.below hb4) (rrc A1 m'.l.length c1' m'.t m'.w))
  clear hb4 V2 T23 T33 HT3 HF3 HF4 HN3 HR2 T42 d1 d2
  have d1 := (ov_cells T24.out).2.2.2.2.2.1
  have d2 := (ov_cells T24.out).2.2.2.2.2.2
  have hq := td_eql z
  go_simp
  refine hK.out _ _ ⟨V24.out, d1, d2⟩ (fun hHeld => ?_)
  clear hK K
  try simp only [Act.put, List.getElem_toArray, List.getElem_cons_zero, List.getElem_cons_succ, List.setIfInBounds_toArray, List.set_cons_zero, List.set_cons_succ]
  refine wpAnyE_take (i := 8) (v := ?v8q5) rfl (by kernel_rfl) (by kernel_rfl) (by kernel_rfl) (by kernel_rfl) (fun _ _ _ h => h) (Or.inl ⟨by rfl, ?hy8q5⟩) (by assumption) ?rest8q5
  case hy8q5 => (intro w hSw; (try dsimp only at hSw); go_simp <;> with_reducible rfl)
  try simp only [Act.put, List.getElem_toArray, List.getElem_cons_zero, List.getElem_cons_succ, List.setIfInBounds_toArray, List.set_cons_zero, List.set_cons_succ]
  refine wpAnyE_take (i := 10) (v := ?v10q5) rfl (by kernel_rfl) (by kernel_rfl) (by kernel_rfl) (by kernel_rfl) (fun _ _ _ h => h) (Or.inl ⟨by rfl, ?hy10q5⟩) (by assumption) ?rest10q5
  case hy10q5 => (intro w hSw; (try dsimp only at hSw); go_simp <;> with_reducible rfl)
  try simp only [Act.put, List.getElem_toArray, List.getElem_cons_zero, List.getElem_cons_succ, List.setIfInBounds_toArray, List.set_cons_zero, List.set_cons_succ]
  refine wpAnyE_last (by kernel_rfl) rfl (by kernel_rfl) (fun K hK => ?_)
  refine step_sw (cs := rrc A1 m'.l.length c1' m'.t m'.w) rfl _ _ rfl rfl rfl T34.out (rr_sz _ _ _ _ _ _ _ _ _ _) (rr_ok _ _ _ _ _) ?_
  refine hK.out _ _ ?_
  clear hK K hHeld d1 d2 hq
  try simp only [Act.put, List.getElem_toArray, List.getElem_cons_zero, List.getElem_cons_succ]
  have V3 := Lib.hid (T34.out.setRow (rrc A1 m'.l.length c1' m'.t m'.w))
  clear T34 T24 V24
  go_wp2_with fail
  exact bodyPost_ret (ret_vag (v := .bool true) rfl _ rfl rfl V3.out (rr_ok _ _ _ _ _)) rfl HST.out
end Go.Proofs.Ytplohgaecoobaaa
