/-
  A meter's Use, by contract. Condition: what a meter is.
-/
import Derived.Test.YtnlkgjcfkgbiiaaWmt
import Derived.Test.YtnlkgjcfkgbiiaaLast
namespace Go.Proofs.Ytnlkgjcfkgbiiaa
open Go.RowKit Go.WideShapes

/-- What is untold, with what is used up. -/
def usU (z l u n : Int) : Int := u + min (max n 0) (z - l - u)
theorem usU_in {z l u : Int} (hk : MtOk z l u) (n : Int) : u ≤ usU z l u n ∧ usU z l u n ≤ z - l := by
  obtain ⟨k1, k2, k3, k4⟩ := hk
  unfold usU
  omega
/-- Half of the size, rounded up, and at least one. -/
def halfM (z : Int) : Int := max ((z + 1) / 2) 1
/-- What is told, the window, what is untold, behind Use. -/
def useN (z l u n : Int) : Int × Int × Int := if usU z l u n < halfM z then (0, l, usU z l u n) else (usU z l u n, l + usU z l u n, 0)
theorem useN_keep {z l u n : Int} (h : usU z l u n < halfM z) : useN z l u n = (0, l, usU z l u n) := if_pos h
theorem useN_tell {z l u n : Int} (h : ¬ usU z l u n < halfM z) : useN z l u n = (usU z l u n, l + usU z l u n, 0) := if_neg h
/-- What Use leaves. -/
def UsePost (w : World) (g : Nat) (z : Int) (s : Nat) (r : Int × Int × Int) (e : Ending) (w' : World) : Prop := e = .returned (.int .u32 r.1) ∧ Row w' g 68 (mtc z r.2.1 s r.2.2) ∧ Fs (fun k => k = g) w w'
attribute [local irreducible] wnc rwc mtc rmc btw
set_option maxRecDepth 100000 in
set_option maxHeartbeats 2000000 in
theorem use_any {w : World} {g : Nat} {z l u : Int} {s : Nat} (h : Row w g 68 (mtc z l s u)) (hk : MtOk z l u) (n : Int) : Calls Try.prog 23 #[.pointer (some ⟨g, 0, none⟩), .int .i64 n] w (UsePost w g z s (useN z l u n)) := by
  obtain ⟨r, hr⟩ : ∃ r, useN z l u n = r := ⟨_, rfl⟩
  rw [hr]
  unfold useN at hr
  have hU := usU_in hk n
  have hud : u + min (max n 0) (z - l - u) = usU z l u n := rfl
  obtain ⟨k1, k2, k3, k4⟩ := hk
  have hw : IntKind.i64.wrap (usU z l u n) = usU z l u n := IntWalk.i64_in _ (by omega)
  have HO := Lib.hid (fun (W : World) (hW : Row W g 68 (mtc z l s u)) => mowed_any hW ⟨k1, k2, k3, k4⟩)
  have hwz : IntKind.i64.wrap (z + 1) = z + 1 := IntWalk.i64_in _ (by omega)
  have hq : (z + 1).tdiv 2 = (z + 1) / 2 := Int.tdiv_eq_ediv_of_nonneg (by omega)
  have hwq : IntKind.i64.wrap ((z + 1) / 2) = (z + 1) / 2 := IntWalk.i64_in _ (by omega)
  have hM : max ((z + 1) / 2) 1 = halfM z := rfl
  generalize halfM z = M at *
  generalize usU z l u n = U at *
  have HR := Lib.hid h
  have HRR := Lib.hid hr
  have HLT : Hid (g < w.heap.size) := h.lt
  have hw32 : IntKind.u32.wrap U = U := IntWalk.u32_in _ (by omega)
  have HG : Hid (∀ W : World, Row W g 68 (mtc z l s 0) → Calls Try.prog 15 #[.pointer (some ⟨g, 1, none⟩), .int .u32 U] W fun e w' => e = .returned (.agg (ftc 0 0)) ∧ Row w' g 68 (mtc z (l + U) s 0) ∧ Fs (fun k => k = g) W w') := fun W hW => by
    have := grow_yesm hW (by omega) (n := U) (by omega) (by omega)
    rwa [show max (l + U) (-2147483648) = l + U by omega] at this
  clear h k1 k2 k3 k4 hU hr
  go_enter Try.func23, Try.ntmps23
  go_wp2_with fail
  have HRd : Hid (Row w.drew g 68 (mtc z l s u)) := by show Row _ _ _ _; exact HR.out
  clear HR
  refine wp_region_E 12 (fun w' => w'.cell? ⟨g, 3, none⟩ = some (.int .i64 u)) (by kernel_rfl) (mt_cells HRd.out).2.2.2 (fun hHeld => ?_)
  refine wpAnyE_take (i := 0) (v := ?v0) rfl (by kernel_rfl) (by kernel_rfl) (by kernel_rfl) (by kernel_rfl) (fun _ _ _ h => h) (Or.inl ⟨by rfl, ?hy0⟩) (by assumption) ?rest0
  case hy0 => (intro w hSw; (try dsimp only at hSw); go_simp <;> with_reducible rfl)
  try simp only [Act.put, List.getElem_toArray, List.getElem_cons_zero, List.setIfInBounds_toArray, List.set_cons_zero, List.set_cons_succ]
  refine wpAnyE_take (i := 1) (v := ?v1) rfl (by kernel_rfl) (by kernel_rfl) (by kernel_rfl) (by kernel_rfl) (fun _ _ _ h => h) (Or.inl ⟨by rfl, ?hy1⟩) (by assumption) ?rest1
  case hy1 => (intro w hSw; (try dsimp only at hSw); go_simp <;> with_reducible rfl)
  try simp only [Act.put, List.getElem_toArray, List.getElem_cons_zero, List.getElem_cons_succ, List.setIfInBounds_toArray, List.set_cons_zero, List.set_cons_succ]
  refine wpAnyE_take (i := 2) (v := ?v2) rfl (by kernel_rfl) (by kernel_rfl) (by kernel_rfl) (by kernel_rfl) (fun _ _ _ h => h) (Or.inl ⟨by rfl, ?hy2⟩) (by assumption) ?rest2
  case hy2 => (intro w hSw; (try dsimp only at hSw); go_simp <;> with_reducible rfl)
  try simp only [Act.put, List.getElem_toArray, List.getElem_cons_zero, List.getElem_cons_succ, List.setIfInBounds_toArray, List.set_cons_zero, List.set_cons_succ]
  refine wpAnyE_take (i := 3) (v := ?v3) rfl (by kernel_rfl) (by kernel_rfl) (by kernel_rfl) (by kernel_rfl) (fun _ _ _ h => h) (Or.inl ⟨by rfl, ?hy3⟩) (by assumption) ?rest3
  case hy3 => (intro w hSw; (try dsimp only at hSw); go_simp <;> with_reducible rfl)
  try simp only [Act.put, List.getElem_toArray, List.getElem_cons_zero, List.getElem_cons_succ, List.setIfInBounds_toArray, List.set_cons_zero, List.set_cons_succ]
  refine wpAnyE_take (i := 4) (v := ?v4) rfl (by kernel_rfl) (by kernel_rfl) (by kernel_rfl) (by kernel_rfl) (fun _ _ _ h => h) (Or.inl ⟨by rfl, ?hy4⟩) (by assumption) ?rest4
  case hy4 => (intro w hSw; (try dsimp only at hSw); go_simp <;> with_reducible rfl)
  try simp only [Act.put, List.getElem_toArray, List.getElem_cons_zero, List.getElem_cons_succ, List.setIfInBounds_toArray, List.set_cons_zero, List.set_cons_succ]
  refine wpAnyE_take (i := 5) (v := ?v5) rfl (by kernel_rfl) (by kernel_rfl) (by kernel_rfl) (by kernel_rfl) (fun _ _ _ h => h) (Or.inl ⟨by rfl, ?hy5⟩) (by assumption) ?rest5
  case hy5 => (intro w hSw; (try dsimp only at hSw); go_simp <;> with_reducible rfl)
  try simp only [Act.put, List.getElem_toArray, List.getElem_cons_zero, List.getElem_cons_succ, List.setIfInBounds_toArray, List.set_cons_zero, List.set_cons_succ]
  refine wpAnyE_take (i := 6) (v := ?v6) rfl (by kernel_rfl) (by kernel_rfl) (by kernel_rfl) (by kernel_rfl) (fun _ _ _ h => h) (Or.inl ⟨by rfl, ?hy6⟩) (by assumption) ?rest6
  case hy6 => (intro w hSw; (try dsimp only at hSw); go_simp <;> with_reducible rfl)
  try simp only [Act.put, List.getElem_toArray, List.getElem_cons_zero, List.getElem_cons_succ, List.setIfInBounds_toArray, List.set_cons_zero, List.set_cons_succ]
  refine wpAnyE_next (i := 7) (by kernel_rfl) rfl (fun K hK => ?_)
  go_simp
  go_at_call 25
  refine (HO.out _ HRd.out).mono ?_
  rintro e w2 ⟨rfl, hb2⟩
  have hR2 := HRd.out.below hb2 HLT.out
  have HB2 : Hid (Below w.heap.size w w2) := ((Below.refl w.heap.size w).drew).trans hb2
  go_simp
  refine hK.out _ _ (mt_cells hR2).2.2.2 (fun hHeld => ?_)
  clear hK K
  try simp only [Act.put, List.getElem_toArray, List.getElem_cons_zero, List.getElem_cons_succ, List.setIfInBounds_toArray, List.set_cons_zero, List.set_cons_succ]
  refine wpAnyE_take (i := 8) (v := ?v8q1) rfl (by kernel_rfl) (by kernel_rfl) (by kernel_rfl) (by kernel_rfl) (fun _ _ _ h => h) (Or.inl ⟨by rfl, ?hy8q1⟩) (by assumption) ?rest8q1
  case hy8q1 => (intro w hSw; (try dsimp only at hSw); go_simp <;> with_reducible rfl)
  try simp only [Act.put, List.getElem_toArray, List.getElem_cons_zero, List.getElem_cons_succ, List.setIfInBounds_toArray, List.set_cons_zero, List.set_cons_succ]
  refine wpAnyE_take (i := 9) (v := ?v9q1) rfl (by kernel_rfl) (by kernel_rfl) (by kernel_rfl) (by kernel_rfl) (fun _ _ _ h => h) (Or.inl ⟨by rfl, ?hy9q1⟩) (by assumption) ?rest9q1
  case hy9q1 => (intro w hSw; (try dsimp only at hSw); go_simp <;> with_reducible rfl)
  try simp only [Act.put, List.getElem_toArray, List.getElem_cons_zero, List.getElem_cons_succ, List.setIfInBounds_toArray, List.set_cons_zero, List.set_cons_succ]
  refine wpAnyE_take (i := 10) (v := ?v10q1) rfl (by kernel_rfl) (by kernel_rfl) (by kernel_rfl) (by kernel_rfl) (fun _ _ _ h => h) (Or.inl ⟨by rfl, ?hy10q1⟩) (by assumption) ?rest10q1
  case hy10q1 => (intro w hSw; (try dsimp only at hSw); go_simp <;> with_reducible rfl)
  try simp only [Act.put, List.getElem_toArray, List.getElem_cons_zero, List.getElem_cons_succ, List.setIfInBounds_toArray, List.set_cons_zero, List.set_cons_succ]
  refine wpAnyE_take (i := 11) (v := ?v11q1) rfl (by kernel_rfl) (by kernel_rfl) (by kernel_rfl) (by kernel_rfl) (fun _ _ _ h => h) (Or.inl ⟨by rfl, ?hy11q1⟩) (by assumption) ?rest11q1
  case hy11q1 => (intro w hSw; (try dsimp only at hSw); go_simp <;> with_reducible rfl)
  try simp only [Act.put, List.getElem_toArray, List.getElem_cons_zero, List.getElem_cons_succ, List.setIfInBounds_toArray, List.set_cons_zero, List.set_cons_succ]
  refine wpAnyE_last (by kernel_rfl) rfl (by kernel_rfl) (fun K hK => ?_)
  have hR3 := Lib.hid (mt_setu (u' := U) hR2)
  have h1f := hR2.thawed 3
  have HF3 := Lib.hid (fs_set w2 g 3 (.int .i64 U))
  clear hR2 HRd
  go_simp
  refine hK.out _ _ ?_
  clear hK K
  try simp only [Act.put, List.getElem_toArray, List.getElem_cons_zero, List.getElem_cons_succ, List.setIfInBounds_toArray, List.set_cons_zero, List.set_cons_succ]
  have HF4 : Hid (Fs (fun k => k = g) w (w2.setCell ⟨g, 3, none⟩ (.int .i64 U))) := (Fs.of_below HB2.out).trans HF3.out fun _ _ h => h
  clear hHeld HB2 hb2 h1f HF3
  generalize w2.setCell ⟨g, 3, none⟩ (.int .i64 U) = w3 at *
  go_wp2_with fail
  have HR4 : Hid (Row w3.drew g 68 (mtc z l s U)) := by show Row _ _ _ _; exact hR3.out
  obtain ⟨d0, d1, d2, d3⟩ := mt_cells HR4.out
  refine wp_region_held_drew (S := fun w' => w'.cell? ⟨g, 0, none⟩ = some (.int .i64 z) ∧ w'.cell? ⟨g, 3, none⟩ = some (.int .i64 U)) (by kernel_rfl) ⟨d0, d3⟩ (fun hHeld => ?_)
  refine wpAnyH_take (i := 0) (v := ?v0q2) rfl (by kernel_rfl) (by kernel_rfl) (by kernel_rfl) (fun _ _ _ h => h) (Or.inl ⟨by rfl, ?hy0q2⟩) (by assumption) ?rest0q2
  case hy0q2 => (intro w hSw; (try dsimp only at hSw); go_simp <;> with_reducible rfl)
  try simp only [Act.put, List.getElem_toArray, List.getElem_cons_zero, List.setIfInBounds_toArray, List.set_cons_zero, List.set_cons_succ]
  refine wpAnyH_take (i := 1) (v := ?v1q2) rfl (by kernel_rfl) (by kernel_rfl) (by kernel_rfl) (fun _ _ _ h => h) (Or.inl ⟨by rfl, ?hy1q2⟩) (by assumption) ?rest1q2
  case hy1q2 => (intro w hSw; (try dsimp only at hSw); go_simp <;> with_reducible rfl)
  try simp only [Act.put, List.getElem_toArray, List.getElem_cons_zero, List.getElem_cons_succ, List.setIfInBounds_toArray, List.set_cons_zero, List.set_cons_succ]
  refine wpAnyH_take (i := 2) (v := ?v2q2) rfl (by kernel_rfl) (by kernel_rfl) (by kernel_rfl) (fun _ _ _ h => h) (Or.inl ⟨by rfl, ?hy2q2⟩) (by assumption) ?rest2q2
  case hy2q2 => (intro w hSw; (try dsimp only at hSw); go_simp <;> with_reducible rfl)
  try simp only [Act.put, List.getElem_toArray, List.getElem_cons_zero, List.getElem_cons_succ, List.setIfInBounds_toArray, List.set_cons_zero, List.set_cons_succ]
  refine wpAnyH_take (i := 3) (v := ?v3q2) rfl (by kernel_rfl) (by kernel_rfl) (by kernel_rfl) (fun _ _ _ h => h) (Or.inl ⟨by rfl, ?hy3q2⟩) (by assumption) ?rest3q2
  case hy3q2 => (intro w hSw; (try dsimp only at hSw); go_simp <;> with_reducible rfl)
  try simp only [Act.put, List.getElem_toArray, List.getElem_cons_zero, List.getElem_cons_succ, List.setIfInBounds_toArray, List.set_cons_zero, List.set_cons_succ]
  refine wpAnyH_take (i := 4) (v := ?v4q2) rfl (by kernel_rfl) (by kernel_rfl) (by kernel_rfl) (fun _ _ _ h => h) (Or.inl ⟨by rfl, ?hy4q2⟩) (by assumption) ?rest4q2
  case hy4q2 => (intro w hSw; (try dsimp only at hSw); go_simp <;> with_reducible rfl)
  try simp only [Act.put, List.getElem_toArray, List.getElem_cons_zero, List.getElem_cons_succ, List.setIfInBounds_toArray, List.set_cons_zero, List.set_cons_succ]
  refine wpAnyH_take (i := 5) (v := ?v5q2) rfl (by kernel_rfl) (by kernel_rfl) (by kernel_rfl) (fun _ _ _ h => h) (Or.inl ⟨by rfl, ?hy5q2⟩) (by assumption) ?rest5q2
  case hy5q2 => (intro w hSw; (try dsimp only at hSw); go_simp <;> with_reducible rfl)
  try simp only [Act.put, List.getElem_toArray, List.getElem_cons_zero, List.getElem_cons_succ, List.setIfInBounds_toArray, List.set_cons_zero, List.set_cons_succ]
  refine wpAnyH_take (i := 6) (v := ?v6q2) rfl (by kernel_rfl) (by kernel_rfl) (by kernel_rfl) (fun _ _ _ h => h) (Or.inl ⟨by rfl, ?hy6q2⟩) (by assumption) ?rest6q2
  case hy6q2 => (intro w hSw; (try dsimp only at hSw); go_simp <;> with_reducible rfl)
  try simp only [Act.put, List.getElem_toArray, List.getElem_cons_zero, List.getElem_cons_succ, List.setIfInBounds_toArray, List.set_cons_zero, List.set_cons_succ]
  refine wpAnyH_take (i := 7) (v := ?v7q2) rfl (by kernel_rfl) (by kernel_rfl) (by kernel_rfl) (fun _ _ _ h => h) (Or.inl ⟨by rfl, ?hy7q2⟩) (by assumption) ?rest7q2
  case hy7q2 => (intro w hSw; (try dsimp only at hSw); go_simp <;> with_reducible rfl)
  try simp only [Act.put, List.getElem_toArray, List.getElem_cons_zero, List.getElem_cons_succ, List.setIfInBounds_toArray, List.set_cons_zero, List.set_cons_succ]
  refine wpAnyH_take (i := 8) (v := ?v8q2) rfl (by kernel_rfl) (by kernel_rfl) (by kernel_rfl) (fun _ _ _ h => h) (Or.inl ⟨by rfl, ?hy8q2⟩) (by assumption) ?rest8q2
  case hy8q2 => (intro w hSw; (try dsimp only at hSw); go_simp <;> with_reducible rfl)
  try simp only [Act.put, List.getElem_toArray, List.getElem_cons_zero, List.getElem_cons_succ, List.setIfInBounds_toArray, List.set_cons_zero, List.set_cons_succ]
  refine wpAnyH_take (i := 9) (v := ?v9q2) rfl (by kernel_rfl) (by kernel_rfl) (by kernel_rfl) (fun _ _ _ h => h) (Or.inl ⟨by rfl, ?hy9q2⟩) (by assumption) ?rest9q2
  case hy9q2 => (intro w hSw; (try dsimp only at hSw); go_simp <;> with_reducible rfl)
  try simp only [Act.put, List.getElem_toArray, List.getElem_cons_zero, List.getElem_cons_succ, List.setIfInBounds_toArray, List.set_cons_zero, List.set_cons_succ]
  refine wpAnyH_take (i := 10) (v := ?v10q2) rfl (by kernel_rfl) (by kernel_rfl) (by kernel_rfl) (fun _ _ _ h => h) (Or.inl ⟨by rfl, ?hy10q2⟩) (by assumption) ?rest10q2
  case hy10q2 => (intro w hSw; (try dsimp only at hSw); go_simp <;> with_reducible rfl)
  try simp only [Act.put, List.getElem_toArray, List.getElem_cons_zero, List.getElem_cons_succ, List.setIfInBounds_toArray, List.set_cons_zero, List.set_cons_succ]
  refine wpAnyH_take (i := 11) (v := ?v11q2) rfl (by kernel_rfl) (by kernel_rfl) (by kernel_rfl) (fun _ _ _ h => h) (Or.inl ⟨by rfl, ?hy11q2⟩) (by assumption) ?rest11q2
  case hy11q2 => (intro w hSw; (try dsimp only at hSw); go_simp <;> with_reducible rfl)
  try simp only [Act.put, List.getElem_toArray, List.getElem_cons_zero, List.getElem_cons_succ, List.setIfInBounds_toArray, List.set_cons_zero, List.set_cons_succ]
  refine wpAnyH_done (by kernel_rfl) ?_ _
  clear hHeld d0 d1 d2 HO hwz hq hwq hM hud hw
  have HF5 : Hid (Fs (fun k => k = g) w w3.drew) := HF4.out.drewN 1
  clear HF4 hR3
  generalize w3.drew = w4 at *
  by_cases hUM : U < M
  · go_wp2_with fail
    go_ret
    obtain rfl : _ = r := (if_pos hUM).symm.trans HRR.out
    exact ⟨rfl, HR4.out, HF5.out⟩
  · have HUM := Lib.hid hUM
    have dUM : decide (U < M) = false := by simp; omega
    have hth := HR4.out.thawed 3
    have HR5 := Lib.hid (mt_setu (u' := 0) HR4.out)
    have HF6 : Hid (Fs (fun k => k = g) w (w4.setCell ⟨g, 3, none⟩ (.int .i64 0))) := HF5.out.setCell (fun _ => rfl) _ _
    clear hUM HR4 HF5
    go_upto_region 8 with fail
    generalize w4.setCell ⟨g, 3, none⟩ (.int .i64 0) = w5 at *
    go_wp2_with fail
    refine (HG.out _ HR5.out).mono ?_
    rintro e w6 ⟨rfl, hr, hf⟩
    have HR7 := Lib.hid hr
    have HF7 := Lib.hid (HF6.out.trans hf fun _ _ h => h)
    clear hr hf HR5 HF6 HG
    go_wp2_with fail
    go_ret
    obtain rfl : _ = r := (if_neg (show ¬ U < M by have := HUM.out; omega)).symm.trans HRR.out
    exact ⟨rfl, HR7.out, HF7.out⟩
end Go.Proofs.Ytnlkgjcfkgbiiaa
