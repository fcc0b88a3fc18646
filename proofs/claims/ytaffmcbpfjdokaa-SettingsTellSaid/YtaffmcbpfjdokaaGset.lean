/-
  settings' set and the document's with, by their contracts. No conditions.
-/
import Derived.Test.YtaffmcbpfjdokaaGch
import Derived.Deep.CutBlock
import Derived.Deep.DeepCutAuto
namespace Go.Proofs.Ytaffmcbpfjdokaa
open Go.RowKit Go.WideShapes

theorem set_row0 {w : World} {g : Nat} {s : St} {v : Nat} (h : Row w g 24 s.c) : Row (w.setCell ⟨g, 0, none⟩ (.int .u32 (v : Int))) g 24 (stN s 1 v).c := h.stored 0 _
theorem set_row2 {w : World} {g : Nat} {s : St} {v : Nat} (h : Row w g 24 s.c) : Row (w.setCell ⟨g, 2, none⟩ (.int .u32 (v : Int))) g 24 (stN s 3 v).c := h.stored 2 _
theorem set_row3 {w : World} {g : Nat} {s : St} {v : Nat} (h : Row w g 24 s.c) : Row (w.setCell ⟨g, 3, none⟩ (.int .u32 (v : Int))) g 24 (stN s 4 v).c := h.stored 3 _
theorem set_row4 {w : World} {g : Nat} {s : St} {v : Nat} (h : Row w g 24 s.c) : Row (w.setCell ⟨g, 4, none⟩ (.int .u32 (v : Int))) g 24 (stN s 5 v).c := h.stored 4 _
theorem set_row5 {w : World} {g : Nat} {s : St} {v : Nat} (h : Row w g 24 s.c) : Row (w.setCell ⟨g, 5, none⟩ (.int .u32 (v : Int))) g 24 (stN s 6 v).c := h.stored 5 _
theorem set_row1 {w : World} {g : Nat} {s : St} {v : Nat} (h : Row w g 24 s.c) : Row (w.setCell ⟨g, 1, none⟩ (.bool (decide (v = 1)))) g 24 (stN s 2 v).c := h.stored 1 _
theorem set_row6 {w : World} {g : Nat} {s : St} {v : Nat} (h : Row w g 24 s.c) : Row (w.setCell ⟨g, 6, none⟩ (.bool (decide (v = 1)))) g 24 (stN s 8 v).c := h.stored 6 _
/-- The ways of a setting that is set. -/
theorem way2 (i : Nat) : (i = 1 ∨ i = 2 ∨ i = 3 ∨ i = 4 ∨ i = 5 ∨ i = 6 ∨ i = 8) ∨ ((((i : Int) == 1) = false ∧ ((i : Int) == 2) = false ∧ ((i : Int) == 3) = false ∧ ((i : Int) == 4) = false ∧ ((i : Int) == 5) = false ∧ ((i : Int) == 6) = false ∧ ((i : Int) == 8) = false) ∧ ∀ s v, stN s i v = s) := by
  by_cases h1 : i = 1
  · exact .inl (.inl h1)
  by_cases h2 : i = 2
  · exact .inl (.inr (.inl h2))
  by_cases h3 : i = 3
  · exact .inl (.inr (.inr (.inl h3)))
  by_cases h4 : i = 4
  · exact .inl (.inr (.inr (.inr (.inl h4))))
  by_cases h5 : i = 5
  · exact .inl (.inr (.inr (.inr (.inr (.inl h5)))))
  by_cases h6 : i = 6
  · exact .inl (.inr (.inr (.inr (.inr (.inr (.inl h6))))))
  by_cases h8 : i = 8
  · exact .inl (.inr (.inr (.inr (.inr (.inr (.inr h8))))))
  exact .inr ⟨⟨ne_nat (b := 1) h1, ne_nat (b := 2) h2, ne_nat (b := 3) h3, ne_nat (b := 4) h4, ne_nat (b := 5) h5, ne_nat (b := 6) h6, ne_nat (b := 8) h8⟩, fun s v => by unfold stN; rw [if_neg h1, if_neg h2, if_neg h3, if_neg h4, if_neg h5, if_neg h6, if_neg h8]⟩
theorem one_eq (v : Nat) : ((v : Int) == 1) = decide (v = 1) := nat_eq v 1
attribute [local irreducible] St.c ftc

set_option maxRecDepth 100000 in
set_option maxHeartbeats 2000000 in
theorem set_any (s : St) (i v : Nat) (w : World) : Calls Try.prog 21 #[.agg s.c, .agg (sec i v)] w fun e w' => e = .returned (.agg (stN s i v).c) ∧ Below w.heap.size w w' := by
  have hz : zS.c = #[.int .u32 0, .bool false, .int .u32 0, .int .u32 0, .int .u32 0, .int .u32 0, .bool false] := by unfold St.c; rfl
  have HS : Hid (Row (((w.alloc (.cells s.c 24)).alloc (.cells (sec i v) 39)).alloc (.cells #[.int .u32 0, .bool false, .int .u32 0, .int .u32 0, .int .u32 0, .int .u32 0, .bool false] 24)) w.heap.size 24 s.c) := ((Row.new w _ _).alloc _).alloc _
  have HX : Hid (Row (((w.alloc (.cells s.c 24)).alloc (.cells (sec i v) 39)).alloc (.cells #[.int .u32 0, .bool false, .int .u32 0, .int .u32 0, .int .u32 0, .int .u32 0, .bool false] 24)) (w.heap.size + 1) 39 (sec i v)) := (Row.made _ _ _ (by simp)).alloc _
  have HR : Hid (Row (((w.alloc (.cells s.c 24)).alloc (.cells (sec i v) 39)).alloc (.cells #[.int .u32 0, .bool false, .int .u32 0, .int .u32 0, .int .u32 0, .int .u32 0, .bool false] 24)) (w.heap.size + 2) 24 zS.c) := by show Row _ _ _ _; rw [hz]; exact Row.made _ _ _ (by simp)
  have HB : Hid (Below w.heap.size w (((w.alloc (.cells s.c 24)).alloc (.cells (sec i v) 39)).alloc (.cells #[.int .u32 0, .bool false, .int .u32 0, .int .u32 0, .int .u32 0, .int .u32 0, .bool false] 24))) := (((Below.refl _ _).alloc (Nat.le_refl _) _).alloc (by simp) _).alloc (by simp; omega) _
  have HD : Hid (w.heap.size < w.heap.size + 2) := by show _ < _; omega
  go_enter Try.func21, Try.ntmps21
  go_upto_region 1 with fail
  generalize ((w.alloc (.cells s.c 24)).alloc (.cells (sec i v) 39)).alloc (.cells #[.int .u32 0, .bool false, .int .u32 0, .int .u32 0, .int .u32 0, .int .u32 0, .bool false] 24) = w1 at *
  obtain ⟨x0, x1⟩ := se_cells HX.out
  obtain ⟨s0, s1, s2, s3, s4, s5, s6⟩ := st_cells HS.out
  have z0 := HS.out.thawed 0
  have z1 := HS.out.thawed 1
  have z2 := HS.out.thawed 2
  have z3 := HS.out.thawed 3
  have z4 := HS.out.thawed 4
  have z5 := HS.out.thawed 5
  have z6 := HS.out.thawed 6
  have hv1 := one_eq v
  have HRx : ∀ (j : Nat) (x : Value), Hid (Row (w1.setCell ⟨w.heap.size, j, none⟩ x) (w.heap.size + 2) 24 zS.c) := fun j x => HR.out.stored' (by simp) x
  have HBx : ∀ (j : Nat) (x : Value) (c : Array Value), Hid (Below w.heap.size w ((w1.setCell ⟨w.heap.size, j, none⟩ x).setRow (w.heap.size + 2) c)) := fun j x c => below_setRow (HB.out.setCell (p := ⟨w.heap.size, j, none⟩) (Nat.le_refl _) x) _ _ (by omega)
  clear hz
  rcases way2 i with (rfl | rfl | rfl | rfl | rfl | rfl | rfl) | ⟨⟨e1, e2, e3, e4, e5, e6, e8⟩, hN⟩
  · have HS2 := Lib.hid (set_row0 (v := v) HS.out)
    go_wp2_with (first | (refine wpList_ld rfl _ rfl rfl HS2.out (St.ok _) ?_) | (refine wpList_sw (cs := (stN s 1 v).c) rfl _ _ rfl rfl rfl (HRx _ _).out (St.sz _ _) (St.ok _) ?_))
    exact bodyPost_ret (ret_ag rfl _ rfl ((HRx _ _).out.setRow _) (St.ok _)) rfl ⟨rfl, (HBx _ _ _).out⟩
  · have HS2 := Lib.hid (set_row1 (v := v) HS.out)
    go_wp2_with (first | (refine wpList_ld rfl _ rfl rfl HS2.out (St.ok _) ?_) | (refine wpList_sw (cs := (stN s 2 v).c) rfl _ _ rfl rfl rfl (HRx _ _).out (St.sz _ _) (St.ok _) ?_))
    exact bodyPost_ret (ret_ag rfl _ rfl ((HRx _ _).out.setRow _) (St.ok _)) rfl ⟨rfl, (HBx _ _ _).out⟩
  · have HS2 := Lib.hid (set_row2 (v := v) HS.out)
    go_wp2_with (first | (refine wpList_ld rfl _ rfl rfl HS2.out (St.ok _) ?_) | (refine wpList_sw (cs := (stN s 3 v).c) rfl _ _ rfl rfl rfl (HRx _ _).out (St.sz _ _) (St.ok _) ?_))
    exact bodyPost_ret (ret_ag rfl _ rfl ((HRx _ _).out.setRow _) (St.ok _)) rfl ⟨rfl, (HBx _ _ _).out⟩
  · have HS2 := Lib.hid (set_row3 (v := v) HS.out)
    go_wp2_with (first | (refine wpList_ld rfl _ rfl rfl HS2.out (St.ok _) ?_) | (refine wpList_sw (cs := (stN s 4 v).c) rfl _ _ rfl rfl rfl (HRx _ _).out (St.sz _ _) (St.ok _) ?_))
    exact bodyPost_ret (ret_ag rfl _ rfl ((HRx _ _).out.setRow _) (St.ok _)) rfl ⟨rfl, (HBx _ _ _).out⟩
  · have HS2 := Lib.hid (set_row4 (v := v) HS.out)
    go_wp2_with (first | (refine wpList_ld rfl _ rfl rfl HS2.out (St.ok _) ?_) | (refine wpList_sw (cs := (stN s 5 v).c) rfl _ _ rfl rfl rfl (HRx _ _).out (St.sz _ _) (St.ok _) ?_))
    exact bodyPost_ret (ret_ag rfl _ rfl ((HRx _ _).out.setRow _) (St.ok _)) rfl ⟨rfl, (HBx _ _ _).out⟩
  · have HS2 := Lib.hid (set_row5 (v := v) HS.out)
    go_wp2_with (first | (refine wpList_ld rfl _ rfl rfl HS2.out (St.ok _) ?_) | (refine wpList_sw (cs := (stN s 6 v).c) rfl _ _ rfl rfl rfl (HRx _ _).out (St.sz _ _) (St.ok _) ?_))
    exact bodyPost_ret (ret_ag rfl _ rfl ((HRx _ _).out.setRow _) (St.ok _)) rfl ⟨rfl, (HBx _ _ _).out⟩
  · have HS2 := Lib.hid (set_row6 (v := v) HS.out)
    go_wp2_with (first | (refine wpList_ld rfl _ rfl rfl HS2.out (St.ok _) ?_) | (refine wpList_sw (cs := (stN s 8 v).c) rfl _ _ rfl rfl rfl (HRx _ _).out (St.sz _ _) (St.ok _) ?_))
    exact bodyPost_ret (ret_ag rfl _ rfl ((HRx _ _).out.setRow _) (St.ok _)) rfl ⟨rfl, (HBx _ _ _).out⟩
  · have HN := Lib.hid (hN s v)
    clear hN
    go_wp2_with (first | (refine wpList_ld rfl _ rfl rfl HS.out (St.ok _) ?_) | (refine wpList_sw (cs := s.c) rfl _ _ rfl rfl rfl HR.out (St.sz _ _) (St.ok _) ?_))
    exact bodyPost_ret (ret_ag rfl _ rfl (HR.out.setRow _) (St.ok _)) rfl ⟨by rw [HN.out], below_setRow HB.out _ _ (by omega)⟩
set_option maxRecDepth 100000 in
set_option maxHeartbeats 2000000 in
theorem with_any (s : St) (i v : Nat) (w : World) : Calls Try.prog 23 #[.agg s.c, .agg (sec i v)] w fun e w' => e = .returned (.agg (stN s i v).c) ∧ Below w.heap.size w w' := by
  have hz : zS.c = #[.int .u32 0, .bool false, .int .u32 0, .int .u32 0, .int .u32 0, .int .u32 0, .bool false] := by unfold St.c; rfl
  have HS : Hid (Row (((w.alloc (.cells s.c 24)).alloc (.cells (sec i v) 39)).alloc (.cells #[.int .u32 0, .bool false, .int .u32 0, .int .u32 0, .int .u32 0, .int .u32 0, .bool false] 24)) w.heap.size 24 s.c) := ((Row.new w _ _).alloc _).alloc _
  have HX : Hid (Row (((w.alloc (.cells s.c 24)).alloc (.cells (sec i v) 39)).alloc (.cells #[.int .u32 0, .bool false, .int .u32 0, .int .u32 0, .int .u32 0, .int .u32 0, .bool false] 24)) (w.heap.size + 1) 39 (sec i v)) := (Row.made _ _ _ (by simp)).alloc _
  have HR : Hid (Row (((w.alloc (.cells s.c 24)).alloc (.cells (sec i v) 39)).alloc (.cells #[.int .u32 0, .bool false, .int .u32 0, .int .u32 0, .int .u32 0, .int .u32 0, .bool false] 24)) (w.heap.size + 2) 24 zS.c) := by show Row _ _ _ _; rw [hz]; exact Row.made _ _ _ (by simp)
  have HB : Hid (Below w.heap.size w (((w.alloc (.cells s.c 24)).alloc (.cells (sec i v) 39)).alloc (.cells #[.int .u32 0, .bool false, .int .u32 0, .int .u32 0, .int .u32 0, .int .u32 0, .bool false] 24))) := (((Below.refl _ _).alloc (Nat.le_refl _) _).alloc (by simp) _).alloc (by simp; omega) _
  have HD : Hid (w.heap.size < w.heap.size + 2) := by show _ < _; omega
  go_enter Try.func23, Try.ntmps23
  go_upto_region 1 with fail
  generalize ((w.alloc (.cells s.c 24)).alloc (.cells (sec i v) 39)).alloc (.cells #[.int .u32 0, .bool false, .int .u32 0, .int .u32 0, .int .u32 0, .int .u32 0, .bool false] 24) = w1 at *
  obtain ⟨x0, x1⟩ := se_cells HX.out
  obtain ⟨s0, s1, s2, s3, s4, s5, s6⟩ := st_cells HS.out
  have z0 := HS.out.thawed 0
  have z1 := HS.out.thawed 1
  have z2 := HS.out.thawed 2
  have z3 := HS.out.thawed 3
  have z4 := HS.out.thawed 4
  have z5 := HS.out.thawed 5
  have z6 := HS.out.thawed 6
  have hv1 := one_eq v
  have HRx : ∀ (j : Nat) (x : Value), Hid (Row (w1.setCell ⟨w.heap.size, j, none⟩ x) (w.heap.size + 2) 24 zS.c) := fun j x => HR.out.stored' (by simp) x
  have HBx : ∀ (j : Nat) (x : Value) (c : Array Value), Hid (Below w.heap.size w ((w1.setCell ⟨w.heap.size, j, none⟩ x).setRow (w.heap.size + 2) c)) := fun j x c => below_setRow (HB.out.setCell (p := ⟨w.heap.size, j, none⟩) (Nat.le_refl _) x) _ _ (by omega)
  clear hz
  rcases way2 i with (rfl | rfl | rfl | rfl | rfl | rfl | rfl) | ⟨⟨e1, e2, e3, e4, e5, e6, e8⟩, hN⟩
  · have HS2 := Lib.hid (set_row0 (v := v) HS.out)
    go_wp2_with (first | (refine wpList_ld rfl _ rfl rfl HS2.out (St.ok _) ?_) | (refine wpList_sw (cs := (stN s 1 v).c) rfl _ _ rfl rfl rfl (HRx _ _).out (St.sz _ _) (St.ok _) ?_))
    exact bodyPost_ret (ret_ag rfl _ rfl ((HRx _ _).out.setRow _) (St.ok _)) rfl ⟨rfl, (HBx _ _ _).out⟩
  · have HS2 := Lib.hid (set_row1 (v := v) HS.out)
    go_wp2_with (first | (refine wpList_ld rfl _ rfl rfl HS2.out (St.ok _) ?_) | (refine wpList_sw (cs := (stN s 2 v).c) rfl _ _ rfl rfl rfl (HRx _ _).out (St.sz _ _) (St.ok _) ?_))
    exact bodyPost_ret (ret_ag rfl _ rfl ((HRx _ _).out.setRow _) (St.ok _)) rfl ⟨rfl, (HBx _ _ _).out⟩
  · have HS2 := Lib.hid (set_row2 (v := v) HS.out)
    go_wp2_with (first | (refine wpList_ld rfl _ rfl rfl HS2.out (St.ok _) ?_) | (refine wpList_sw (cs := (stN s 3 v).c) rfl _ _ rfl rfl rfl (HRx _ _).out (St.sz _ _) (St.ok _) ?_))
    exact bodyPost_ret (ret_ag rfl _ rfl ((HRx _ _).out.setRow _) (St.ok _)) rfl ⟨rfl, (HBx _ _ _).out⟩
  · have HS2 := Lib.hid (set_row3 (v := v) HS.out)
    go_wp2_with (first | (refine wpList_ld rfl _ rfl rfl HS2.out (St.ok _) ?_) | (refine wpList_sw (cs := (stN s 4 v).c) rfl _ _ rfl rfl rfl (HRx _ _).out (St.sz _ _) (St.ok _) ?_))
    exact bodyPost_ret (ret_ag rfl _ rfl ((HRx _ _).out.setRow _) (St.ok _)) rfl ⟨rfl, (HBx _ _ _).out⟩
  · have HS2 := Lib.hid (set_row4 (v := v) HS.out)
    go_wp2_with (first | (refine wpList_ld rfl _ rfl rfl HS2.out (St.ok _) ?_) | (refine wpList_sw (cs := (stN s 5 v).c) rfl _ _ rfl rfl rfl (HRx _ _).out (St.sz _ _) (St.ok _) ?_))
    exact bodyPost_ret (ret_ag rfl _ rfl ((HRx _ _).out.setRow _) (St.ok _)) rfl ⟨rfl, (HBx _ _ _).out⟩
  · have HS2 := Lib.hid (set_row5 (v := v) HS.out)
    go_wp2_with (first | (refine wpList_ld rfl _ rfl rfl HS2.out (St.ok _) ?_) | (refine wpList_sw (cs := (stN s 6 v).c) rfl _ _ rfl rfl rfl (HRx _ _).out (St.sz _ _) (St.ok _) ?_))
    exact bodyPost_ret (ret_ag rfl _ rfl ((HRx _ _).out.setRow _) (St.ok _)) rfl ⟨rfl, (HBx _ _ _).out⟩
  · have HS2 := Lib.hid (set_row6 (v := v) HS.out)
    go_wp2_with (first | (refine wpList_ld rfl _ rfl rfl HS2.out (St.ok _) ?_) | (refine wpList_sw (cs := (stN s 8 v).c) rfl _ _ rfl rfl rfl (HRx _ _).out (St.sz _ _) (St.ok _) ?_))
    exact bodyPost_ret (ret_ag rfl _ rfl ((HRx _ _).out.setRow _) (St.ok _)) rfl ⟨rfl, (HBx _ _ _).out⟩
  · have HN := Lib.hid (hN s v)
    clear hN
    go_wp2_with (first | (refine wpList_ld rfl _ rfl rfl HS.out (St.ok _) ?_) | (refine wpList_sw (cs := s.c) rfl _ _ rfl rfl rfl HR.out (St.sz _ _) (St.ok _) ?_))
    exact bodyPost_ret (ret_ag rfl _ rfl (HR.out.setRow _) (St.ok _)) rfl ⟨by rw [HN.out], below_setRow HB.out _ _ (by omega)⟩
end Go.Proofs.Ytaffmcbpfjdokaa
