/-
  Worse, by its contract: which of two faults weighs more, as a plain function of scopes and codes.
-/
import Derived.Test.YtjkfckdoliflmaaDoorBase
import Derived.Deep.RegionWith
import Derived.Deep.DeepCutAuto
namespace Go.Proofs.YtjkfckdoliflmaaDoor
open Go.RowKit Go.Extern.Stop Go.Stop Go.Extern

/-- Does the second one weigh more? -/
def takesB (x y c d : Int) : Bool := (decide (x = y) && decide (d < c)) || (decide (x ≠ y) && (decide (x = 0) || (decide (y ≠ 0) && decide (y < x))))

theorem tb_A {x y c d : Int} (h1 : x = y) (h2 : d < c) : takesB x y c d = true := by unfold takesB; simp [h1, h2]
theorem tb_B {x y c d : Int} (h1 : x = y) (h2 : ¬ d < c) : takesB x y c d = false := by unfold takesB; simp [h1]; omega
theorem tb_C {x y c d : Int} (h1 : ¬ x = y) (h2 : x = 0) : takesB x y c d = true := by
  have h3 : ¬ 0 = y := fun h => h1 (h2.trans h)
  unfold takesB; simp [h2, h3]
theorem tb_D {x y c d : Int} (h2 : ¬ x = 0) (h3 : y = 0) : takesB x y c d = false := by unfold takesB; simp [h2, h3]
theorem tb_E {x y c d : Int} (h1 : ¬ x = y) (h3 : ¬ y = 0) (h4 : y < x) : takesB x y c d = true := by unfold takesB; simp [h1, h3, h4]
theorem tb_F {x y c d : Int} (h1 : ¬ x = y) (h2 : ¬ x = 0) (h4 : ¬ y < x) : takesB x y c d = false := by unfold takesB; simp [h1, h2]; omega

theorem frozen_new {w : World} {cs : Array Value} {t : TypeId} {b i : Nat} (h : b = w.heap.size) : (w.alloc (.cells cs t)).frozen? ⟨b, i, none⟩ = false := by
  subst h; simp

set_option maxHeartbeats 1000000 in
theorem worse_any (s c s2 c2 : Int) (w : World) :
    Calls Tryd.prog 11 #[.agg #[.int .u8 s, .int .u32 c], .agg #[.int .u8 s2, .int .u32 c2]] w fun e w' =>
      e = .returned (if takesB (sc s) (sc s2) c c2 then .agg #[.int .u8 s2, .int .u32 c2] else .agg #[.int .u8 s, .int .u32 c]) ∧ Below w.heap.size w w' := by
  have hs1 := scope_any s c
  have hs2 := scope_any s2 c2
  obtain ⟨x, hx⟩ : ∃ x, sc s = x := ⟨_, rfl⟩
  obtain ⟨y, hy⟩ : ∃ y, sc s2 = y := ⟨_, rfl⟩
  rw [hx] at hs1
  rw [hy] at hs2
  rw [hx, hy]
  obtain ⟨R, hR⟩ : ∃ R : Value, R = if takesB x y c c2 then .agg #[.int .u8 s2, .int .u32 c2] else .agg #[.int .u8 s, .int .u32 c] := ⟨_, rfl⟩
  rw [← hR]
  have HR := Lib.hid hR
  have H1 := Lib.hid hs1
  have H2 := Lib.hid hs2
  clear hs1 hs2 hx hy hR
  go_enter Tryd.func11, Tryd.ntmps11
  go_upto_region 1 with (fail)
  go_cut [5, 6] (fun t5 t6 wc => Value.int .u8 x = t5 ∧ Value.int .u8 y = t6 ∧ Below (w.heap.size + 3) (((w.alloc (.cells #[.int .u8 s, .int .u32 c] 24)).alloc (.cells #[.int .u8 s2, .int .u32 c2] 24)).alloc (.cells #[.int .u8 0, .int .u32 0] 24)) wc)
  case first =>
    go_region_with (first | (go_at_call_of 14 s2; refine ((H2.out) _).mono ?_; rintro e w' ⟨rfl, rfl⟩) | (go_at_call_of 14 s; refine ((H1.out) _).mono ?_; rintro e w' ⟨rfl, rfl⟩))
    all_goals (go_wp2_with fail; go_meet; exact ⟨rfl, rfl, (((Below.refl _ _).alloc (by simp) _).alloc (by simp <;> omega) _).drew⟩)
  case rest =>
    obtain ⟨rfl, rfl, hb⟩ := hcut
    have k := fun (b i : Nat) (h : b < w.heap.size + 3) => hb.cell (p := ⟨b, i, none⟩) h
    have kz := fun (b i : Nat) (h : b < w.heap.size + 3) => hb.frozen (p := ⟨b, i, none⟩) h
    have c0 : wc.cell? ⟨w.heap.size, 0, none⟩ = some (.int .u8 s) := by
      rw [k _ _ (by omega), World.cell?_alloc_lt _ _ _ (by simp <;> omega), World.cell?_alloc_lt _ _ _ (by simp <;> omega), World.cell?_alloc_at _ _ _ _ (by simp)]; rfl
    have c1 : wc.cell? ⟨w.heap.size, 1, none⟩ = some (.int .u32 c) := by
      rw [k _ _ (by omega), World.cell?_alloc_lt _ _ _ (by simp <;> omega), World.cell?_alloc_lt _ _ _ (by simp <;> omega), World.cell?_alloc_at _ _ _ _ (by simp)]; rfl
    have d0 : wc.cell? ⟨w.heap.size + 1, 0, none⟩ = some (.int .u8 s2) := by
      rw [k _ _ (by omega), World.cell?_alloc_lt _ _ _ (by simp <;> omega), World.cell?_alloc_at _ _ _ _ (by simp)]; rfl
    have d1 : wc.cell? ⟨w.heap.size + 1, 1, none⟩ = some (.int .u32 c2) := by
      rw [k _ _ (by omega), World.cell?_alloc_lt _ _ _ (by simp <;> omega), World.cell?_alloc_at _ _ _ _ (by simp)]; rfl
    have r0 : wc.cell? ⟨w.heap.size + 1 + 1, 0, none⟩ = some (.int .u8 0) := by
      rw [k _ _ (by omega), World.cell?_alloc_at _ _ _ _ (by simp)]; rfl
    have r1 : wc.cell? ⟨w.heap.size + 1 + 1, 1, none⟩ = some (.int .u32 0) := by
      rw [k _ _ (by omega), World.cell?_alloc_at _ _ _ _ (by simp)]; rfl
    have z0 : wc.frozen? ⟨w.heap.size + 1 + 1, 0, none⟩ = false := by
      rw [kz _ _ (by omega)]; exact frozen_new (by simp)
    have z1 : wc.frozen? ⟨w.heap.size + 1 + 1, 1, none⟩ = false := by
      rw [kz _ _ (by omega)]; exact frozen_new (by simp)
    have HB : Below w.heap.size w wc := ((((Below.refl _ _).alloc (Nat.le_refl _) _).alloc (by simp) _).alloc (by simp <;> omega) _).trans (hb.mono (by omega))
    clear k kz hb H1 H2
    by_cases h1 : x = y
    · have e1 : (x == y) = true := beq_iff_eq.2 h1
      have e2 : (x != y) = false := by simp [h1]
      have X1 := Lib.hid h1
      clear h1
      by_cases h2 : c2 < c
      · have hT : takesB x y c c2 = true := tb_A X1.out h2
        have HT := Lib.hid (HR.out.trans (by rw [hT]; rfl : _ = .agg #[.int .u8 s2, .int .u32 c2]))
        clear hT
        clear HR
        go_wp2
        refine bodyPost_ret (v := .agg #[.int .u8 s2, .int .u32 c2]) (by simp [results, Tryd.results11, go_sem, r0, r1]) rfl ⟨?_, (HB.setCell (by simp <;> omega) _).setCell (by simp <;> omega) _⟩
        rw [HT.out]
      · have hT : takesB x y c c2 = false := tb_B X1.out h2
        have HT := Lib.hid (HR.out.trans (by rw [hT]; rfl : _ = .agg #[.int .u8 s, .int .u32 c]))
        clear hT
        clear HR
        go_wp2
        refine bodyPost_ret (v := .agg #[.int .u8 s, .int .u32 c]) (by simp [results, Tryd.results11, go_sem, r0, r1]) rfl ⟨?_, (HB.setCell (by simp <;> omega) _).setCell (by simp <;> omega) _⟩
        rw [HT.out]
    · have e1 : (x == y) = false := beq_eq_false_iff_ne.2 h1
      have e2 : (x != y) = true := by simp [h1]
      have X1 := Lib.hid h1
      clear h1
      by_cases h2 : x = 0
      · have e3 : (x == 0) = true := beq_iff_eq.2 h2
        have X2 := Lib.hid h2
        clear h2
        have hT : takesB x y c c2 = true := tb_C X1.out X2.out
        have HT := Lib.hid (HR.out.trans (by rw [hT]; rfl : _ = .agg #[.int .u8 s2, .int .u32 c2]))
        clear hT
        clear HR
        go_wp2
        refine bodyPost_ret (v := .agg #[.int .u8 s2, .int .u32 c2]) (by simp [results, Tryd.results11, go_sem, r0, r1]) rfl ⟨?_, (HB.setCell (by simp <;> omega) _).setCell (by simp <;> omega) _⟩
        rw [HT.out]
      · have e3 : (x == 0) = false := beq_eq_false_iff_ne.2 h2
        have X2 := Lib.hid h2
        clear h2
        by_cases h3 : y = 0
        · have e4 : (y != 0) = false := by simp [h3]
          have X3 := Lib.hid h3
          clear h3
          have hT : takesB x y c c2 = false := tb_D X2.out X3.out
          have HT := Lib.hid (HR.out.trans (by rw [hT]; rfl : _ = .agg #[.int .u8 s, .int .u32 c]))
          clear hT
          clear HR
          go_wp2
          refine bodyPost_ret (v := .agg #[.int .u8 s, .int .u32 c]) (by simp [results, Tryd.results11, go_sem, r0, r1]) rfl ⟨?_, (HB.setCell (by simp <;> omega) _).setCell (by simp <;> omega) _⟩
          rw [HT.out]
        · have e4 : (y != 0) = true := by simp [h3]
          have X3 := Lib.hid h3
          clear h3
          by_cases h4 : y < x
          · have hT : takesB x y c c2 = true := tb_E X1.out X3.out h4
            have HT := Lib.hid (HR.out.trans (by rw [hT]; rfl : _ = .agg #[.int .u8 s2, .int .u32 c2]))
            clear hT
            clear HR
            go_wp2
            refine bodyPost_ret (v := .agg #[.int .u8 s2, .int .u32 c2]) (by simp [results, Tryd.results11, go_sem, r0, r1]) rfl ⟨?_, (HB.setCell (by simp <;> omega) _).setCell (by simp <;> omega) _⟩
            rw [HT.out]
          · have hT : takesB x y c c2 = false := tb_F X1.out X2.out h4
            have HT := Lib.hid (HR.out.trans (by rw [hT]; rfl : _ = .agg #[.int .u8 s, .int .u32 c]))
            clear hT
            clear HR
            go_wp2
            refine bodyPost_ret (v := .agg #[.int .u8 s, .int .u32 c]) (by simp [results, Tryd.results11, go_sem, r0, r1]) rfl ⟨?_, (HB.setCell (by simp <;> omega) _).setCell (by simp <;> omega) _⟩
            rw [HT.out]
end Go.Proofs.YtjkfckdoliflmaaDoor
