/-
  frame's size, by its contract. Conditions: at most 10^6 bytes and settings; padding of at most 10^6 bytes.
-/
import Derived.Test.YtooaajnkiokpnaaGreatDoorFpad
import Derived.Deep.RegionHeld3
namespace Go.Proofs.YtooaajnkiokpnaaGreatDoor
open Go.RowKit Go.WideShapes
attribute [local irreducible] Fm.c

set_option maxRecDepth 100000 in
set_option maxHeartbeats 2000000 in
theorem size_any7 (x : Fm) (hf : x.fl < 256) (hd : x.dn ≤ 1000000) (hs : x.sn ≤ 1000000) (hp0 : -1000000 ≤ x.pad) (hp1 : x.pad ≤ 1000000) (w : World) : Calls Tryz.prog 148 #[.agg x.c] w fun e w' => e = .returned (.int .i64 (sizeZ x.ty x.fl x.dn x.pad x.sn)) ∧ Below w.heap.size w w' := by
  have HR := Lib.hid (Row.new w 66 x.c)
  have hah := ahead_any x hf
  have hpd := isPadded_any x hf
  have hal := aheadN_le x.ty x.fl
  have HB : Hid (Below w.heap.size w (w.alloc (.cells x.c 66))) := (Below.refl _ _).alloc (Nat.le_refl _) _
  have hz : sizeZ x.ty x.fl x.dn x.pad x.sn = ((aheadN x.ty x.fl + 6 * x.sn + x.dn : Nat) : Int) + if padB x.ty x.fl = true then 1 + x.pad else 0 := by unfold sizeZ; omega
  rw [hz]
  obtain ⟨N, hN⟩ : ∃ N, N = aheadN x.ty x.fl := ⟨_, rfl⟩
  rw [← hN] at hah hal ⊢
  clear hN hz hf
  obtain ⟨R, hR⟩ : ∃ R : Int, R = ((N + 6 * x.sn + x.dn : Nat) : Int) + if padB x.ty x.fl = true then 1 + x.pad else 0 := ⟨_, rfl⟩
  rw [← hR]
  have HRv := Lib.hid hR
  clear hR
  have s1 : IntKind.i64.wrap ((6 : Int) * (x.sn : Int)) = ((6 * x.sn : Nat) : Int) := by rw [IntWalk.i64_in _ (by omega)]; omega
  have s2 : IntKind.i64.wrap ((N : Int) + ((6 * x.sn : Nat) : Int)) = ((N + 6 * x.sn : Nat) : Int) := by rw [IntWalk.i64_in _ (by omega)]; omega
  have s3 : IntKind.i64.wrap (((N + 6 * x.sn : Nat) : Int) + (x.dn : Int)) = ((N + 6 * x.sn + x.dn : Nat) : Int) := by rw [IntWalk.i64_in _ (by omega)]; omega
  have hMl : N + 6 * x.sn + x.dn ≤ 7000008 := by omega
  generalize hM : N + 6 * x.sn + x.dn = M at *
  have HM := Lib.hid hM
  clear hM
  go_enter Tryz.func148, Tryz.ntmps148
  go_wp2_with fail
  generalize w.alloc (.cells x.c 66) = w0 at *
  obtain ⟨_, _, _, d3, _, _, _, _, _, _, d10⟩ := fm_cells (HR.out : Row w0.drew _ _ _)
  refine wp_region_held_drew (S := fun w' => Row w' w.heap.size 66 x.c ∧ w'.cell? ⟨w.heap.size, 3, none⟩ = some (.slice x.dA x.dn x.dc) ∧ w'.cell? ⟨w.heap.size, 10, none⟩ = some (.slice x.sA x.sn x.sc)) (by kernel_rfl) ⟨HR.out, d3, d10⟩ (fun hHeld => ?_)
  refine wpAnyH_take (i := 0) (v := _) rfl (by kernel_rfl) (by kernel_rfl) (by kernel_rfl) (fun _ _ _ h => h) (yields_fm (by rfl) _ rfl rfl (fun _ hSw => hSw.1)) (by assumption) ?rest0
  try simp only [Act.put, List.getElem_toArray, List.getElem_cons_zero, List.getElem_cons_succ, List.setIfInBounds_toArray, List.set_cons_zero, List.set_cons_succ]
  refine wpAnyH_take (i := 2) (v := ?v2q1) rfl (by kernel_rfl) (by kernel_rfl) (by kernel_rfl) (fun _ _ _ h => h) (Or.inl ⟨by rfl, ?hy2q1⟩) (by assumption) ?rest2q1
  case hy2q1 => (intro w hSw; (try dsimp only at hSw); go_simp <;> with_reducible rfl)
  try simp only [Act.put, List.getElem_toArray, List.getElem_cons_zero, List.getElem_cons_succ, List.setIfInBounds_toArray, List.set_cons_zero, List.set_cons_succ]
  refine wpAnyH_take (i := 3) (v := ?v3q1) rfl (by kernel_rfl) (by kernel_rfl) (by kernel_rfl) (fun _ _ _ h => h) (Or.inl ⟨by rfl, ?hy3q1⟩) (by assumption) ?rest3q1
  case hy3q1 => (intro w hSw; (try dsimp only at hSw); go_simp <;> with_reducible rfl)
  try simp only [Act.put, List.getElem_toArray, List.getElem_cons_zero, List.getElem_cons_succ, List.setIfInBounds_toArray, List.set_cons_zero, List.set_cons_succ]
  refine wpAnyH_take (i := 4) (v := ?v4q1) rfl (by kernel_rfl) (by kernel_rfl) (by kernel_rfl) (fun _ _ _ h => h) (Or.inl ⟨by rfl, ?hy4q1⟩) (by assumption) ?rest4q1
  case hy4q1 => (intro w hSw; (try dsimp only at hSw); go_simp <;> with_reducible rfl)
  try simp only [Act.put, List.getElem_toArray, List.getElem_cons_zero, List.getElem_cons_succ, List.setIfInBounds_toArray, List.set_cons_zero, List.set_cons_succ]
  refine wpAnyH_take (i := 5) (v := ?v5q1) rfl (by kernel_rfl) (by kernel_rfl) (by kernel_rfl) (fun _ _ _ h => h) (Or.inl ⟨by rfl, ?hy5q1⟩) (by assumption) ?rest5q1
  case hy5q1 => (intro w hSw; (try dsimp only at hSw); go_simp <;> with_reducible rfl)
  try simp only [Act.put, List.getElem_toArray, List.getElem_cons_zero, List.getElem_cons_succ, List.setIfInBounds_toArray, List.set_cons_zero, List.set_cons_succ]
  refine wpAnyH_take (i := 7) (v := ?v7q1) rfl (by kernel_rfl) (by kernel_rfl) (by kernel_rfl) (fun _ _ _ h => h) (Or.inl ⟨by rfl, ?hy7q1⟩) (by assumption) ?rest7q1
  case hy7q1 => (intro w hSw; (try dsimp only at hSw); go_simp <;> with_reducible rfl)
  try simp only [Act.put, List.getElem_toArray, List.getElem_cons_zero, List.getElem_cons_succ, List.setIfInBounds_toArray, List.set_cons_zero, List.set_cons_succ]
  refine wpAnyH_take (i := 8) (v := ?v8q1) rfl (by kernel_rfl) (by kernel_rfl) (by kernel_rfl) (fun _ _ _ h => h) (Or.inl ⟨by rfl, ?hy8q1⟩) (by assumption) ?rest8q1
  case hy8q1 => (intro w hSw; (try dsimp only at hSw); go_simp <;> with_reducible rfl)
  try simp only [Act.put, List.getElem_toArray, List.getElem_cons_zero, List.getElem_cons_succ, List.setIfInBounds_toArray, List.set_cons_zero, List.set_cons_succ]
  refine wpAnyH_take (i := 9) (v := ?v9q1) rfl (by kernel_rfl) (by kernel_rfl) (by kernel_rfl) (fun _ _ _ h => h) (Or.inl ⟨by rfl, ?hy9q1⟩) (by assumption) ?rest9q1
  case hy9q1 => (intro w hSw; (try dsimp only at hSw); go_simp <;> with_reducible rfl)
  try simp only [Act.put, List.getElem_toArray, List.getElem_cons_zero, List.getElem_cons_succ, List.setIfInBounds_toArray, List.set_cons_zero, List.set_cons_succ]
  refine wpAnyH_ready (rs := [1]) (by kernel_rfl) (by simp) ?_
  refine AllReadyH.cons rfl (fun K hK => ?_) AllReadyH.nil
  go_simp
  go_at_call 187
  refine (hah _).mono ?_
  rintro e w1 ⟨rfl, hb1⟩
  have HR1 := Lib.hid (Row.below (show Row w0.drew w.heap.size 66 x.c from HR.out) hb1 HR.out.lt)
  have HB1 := Lib.hid (HB.out.drew.trans (hb1.mono HB.out.size))
  obtain ⟨_, _, _, e3, e4, _, _, _, _, _, e10⟩ := fm_cells HR1.out
  refine hK.out _ _ ⟨HR1.out, e3, e10⟩ (fun hHeld => ?_)
  clear hK K hb1
  try simp only [Act.put, List.getElem_toArray, List.getElem_cons_zero, List.getElem_cons_succ, List.setIfInBounds_toArray, List.set_cons_zero, List.set_cons_succ]
  refine wpAnyH_take (i := 6) (v := ?v6q2) rfl (by kernel_rfl) (by kernel_rfl) (by kernel_rfl) (fun _ _ _ h => h) (Or.inl ⟨by rfl, ?hy6q2⟩) (by assumption) ?rest6q2
  case hy6q2 => (intro w hSw; (try dsimp only at hSw); go_simp <;> with_reducible rfl)
  try simp only [Act.put, List.getElem_toArray, List.getElem_cons_zero, List.getElem_cons_succ, List.setIfInBounds_toArray, List.set_cons_zero, List.set_cons_succ]
  refine wpAnyH_take (i := 10) (v := ?v10q2) rfl (by kernel_rfl) (by kernel_rfl) (by kernel_rfl) (fun _ _ _ h => h) (Or.inl ⟨by rfl, ?hy10q2⟩) (by assumption) ?rest10q2
  case hy10q2 => (intro w hSw; (try dsimp only at hSw); go_simp <;> with_reducible rfl)
  try simp only [Act.put, List.getElem_toArray, List.getElem_cons_zero, List.getElem_cons_succ, List.setIfInBounds_toArray, List.set_cons_zero, List.set_cons_succ]
  refine wpAnyH_take (i := 11) (v := ?v11q2) rfl (by kernel_rfl) (by kernel_rfl) (by kernel_rfl) (fun _ _ _ h => h) (Or.inl ⟨by rfl, ?hy11q2⟩) (by assumption) ?rest11q2
  case hy11q2 => (intro w hSw; (try dsimp only at hSw); go_simp <;> with_reducible rfl)
  try simp only [Act.put, List.getElem_toArray, List.getElem_cons_zero, List.getElem_cons_succ, List.setIfInBounds_toArray, List.set_cons_zero, List.set_cons_succ]
  refine wpAnyH_done (by kernel_rfl) ?_ _
  clear hah s1 s2 s3 e3 e10 d3 d10 HR HB
  go_wp2_with (refine wpList_fm rfl _ rfl rfl HR1.out ?_)
  cases hpB : padB x.ty x.fl with
  | false =>
    rw [hpB] at hpd
    have hv := HRv.out
    rw [hpB, if_neg (by simp), Int.add_zero] at hv
    have HV := Lib.hid hv
    clear hv hpB HRv
    refine (hpd _).mono ?_
    rintro e w2 ⟨rfl, hb2⟩
    have HB2 := Lib.hid (HB1.out.trans (hb2.mono HB1.out.size))
    clear hb2 hpd
    go_wp2_with fail
    go_ret
    exact ⟨ret1 (by have h1 := HV.out; have h2 := HM.out; omega), HB2.out⟩
  | true =>
    rw [hpB] at hpd
    have hv := HRv.out
    rw [hpB, if_pos rfl] at hv
    have HV := Lib.hid hv
    clear hv hpB HRv
    refine (hpd _).mono ?_
    rintro e w2 ⟨rfl, hb2⟩
    have HB2 := Lib.hid (HB1.out.trans (hb2.mono HB1.out.size))
    have k4 := (hb2.cell (p := ⟨w.heap.size, 4, none⟩) HR1.out.lt).trans e4
    clear hb2 hpd
    go_wp2_with fail
    go_ret
    exact ⟨ret1 (by have h1 := HV.out; have h2 := HM.out; omega), HB2.out⟩
end Go.Proofs.YtooaajnkiokpnaaGreatDoor
