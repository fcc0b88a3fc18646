/-
  add, by its contract. Conditions: the gatherer lies behind the package's variables; the frame's data is read.
-/
import Derived.Test.YtcbepicdnmnfaaaDoorYaf
namespace Go.Proofs.YtcbepicdnmnfaaaDoor
open Go.RowKit Go.WideShapes

attribute [local irreducible] Fm.c whc gac gfin
set_option maxRecDepth 100000 in
set_option maxHeartbeats 4000000 in
theorem add_any {w : World} {base g st : Nat} {A : Option Addr} {c : Nat} {en : Bool} {more : Nat} {blk d : List UInt8} {x : Fm} (hR : Row w g 51 (gac st A blk.length c en true more none)) (hO : Bo w base 5 (.slice A blk.length c) blk)
    (hD : RdB w w.heap.size x.dA d) (hdn : x.dn = d.length) (hfl : x.fl < 256) (hlo : 0 < base ∧ base ≤ g) (hb : blk.length ≤ 8192) (hd : d.length ≤ 1000000000) (hm : more ≤ 17) :
    Calls Tryd.prog 21 #[.pointer (some ⟨g, 0, none⟩), .agg x.c] w (TkP w base g (.slice A blk.length c) (gfin ⟨true, st, blk ++ d, en, more, 0⟩ x.fl)) := by
  by_cases h1 : 8192 < blk.length + x.dn
  · rw [gfin_great (.inl (by show 8192 < (blk ++ d).length; rw [List.length_append]; omega))]
    exact add_great hR hO hD hdn hfl hlo hb hd hm h1
  by_cases h2 : 16 < more
  · rw [gfin_great (.inr h2)]
    exact add_many hR hO hD hdn hfl hlo hb hd hm (by omega) h2
  obtain ⟨w1, hw1, t1, t2, t3, t4⟩ := fr_wh w x
  have T7 := Lib.hid hw1
  have TX := Lib.hid t1
  have TW := Lib.hid t2
  have HR : Hid (Row w1 g 51 (gac st A blk.length c en true more none)) := hR.below t3 hR.lt
  have HD : Hid (RdB w1 w.heap.size x.dA d) := hD.below t3
  have HO : Hid (Bo w1 base 5 (.slice A blk.length c) blk) := OwS.below hO t3
  have HN := Lib.hid hdn
  have HF : Hid (Fs (gvS g (.slice A blk.length c)) w w1) := Fs.of_below t3
  have HLT : Hid (∀ k, ob (.slice A blk.length c) k → base ≤ k ∧ k < w.heap.size) := fun k hk => OwS.lt hO k hk
  have HGL := Lib.hid hR.lt
  have HSZ : Hid (w.heap.size < w1.heap.size) := by show _ < _; rw [t4]; omega
  have HLO := Lib.hid hlo
  have HBL := Lib.hid hb
  have HFL := Lib.hid hfl
  have f1 := (ga_cells HR.out).2.1
  have f4 := (ga_cells HR.out).2.2.2.2.1
  have d3 : w1.cell? ⟨w.heap.size, 3, none⟩ = some (.slice x.dA x.dn x.dc) := (fm_cells TX.out).2.2.2.1
  clear hw1 t1 t2 t3 t4 hR hD hO hlo hfl
  obtain ⟨m, hm1⟩ : ∃ m : Nat, m = blk.length + x.dn := ⟨_, rfl⟩
  have hs : IntKind.i64.wrap ((blk.length : Int) + (x.dn : Int)) = (m : Int) := by rw [IntWalk.i64_in _ (by omega)]; omega
  obtain ⟨L, HL⟩ : ∃ L, Hid (blk ++ d = L) := ⟨_, rfl⟩
  rw [HL.out]
  have HLN : Hid (L.length = m) := by show _ = _; rw [← HL.out, List.length_append]; omega
  have g8 : decide ((8192 : Int) < (m : Int)) = false := decide_eq_false (by omega)
  have g16 : decide ((16 : Int) < (more : Int)) = false := decide_eq_false (by omega)
  have HLE : Hid (¬ (8192 < (Gm.mk true st L en more 0).blk.length ∨ 16 < (Gm.mk true st L en more 0).more)) := by
    show ¬ (8192 < L.length ∨ 16 < more)
    rw [HLN.out]
    omega
  have HM8 : Hid (m ≤ 8192) := by show m ≤ 8192; omega
  have HMR : Hid (more ≤ 16) := by show more ≤ 16; omega
  have HD9 : Hid (d.length ≤ 1000000000) := hd
  obtain ⟨i0, hi0, hz0, hz1, hz2⟩ := info_parts u8_info
  clear hm1 h1 h2 hb hd hm hdn
  go_enter Tryd.func21, Tryd.ntmps21
  go_upto_region 1 with fail
  rw [T7.out]
  clear T7
  refine wp_region_held_drew (S := fun w' => w'.cell? ⟨w.heap.size, 3, none⟩ = some (.slice x.dA x.dn x.dc) ∧ w'.cell? ⟨g, 1, none⟩ = some (.slice A blk.length c) ∧ w'.cell? ⟨g, 4, none⟩ = some (.int .i64 more)) (by kernel_rfl) ⟨d3, f1, f4⟩ (fun hHeld => ?_)
  refine wpAnyH_take (i := 0) (v := ?v0) rfl (by kernel_rfl) (by kernel_rfl) (by kernel_rfl) (fun _ _ _ h => h) (Or.inl ⟨by rfl, ?hy0⟩) (by assumption) ?rest0
  case hy0 => (intro w hSw; (try dsimp only at hSw); go_simp <;> with_reducible rfl)
  try simp only [Act.put, List.getElem_toArray, List.getElem_cons_zero, List.setIfInBounds_toArray, List.set_cons_zero, List.set_cons_succ]
  refine wpAnyH_take (i := 2) (v := ?v2) rfl (by kernel_rfl) (by kernel_rfl) (by kernel_rfl) (fun _ _ _ h => h) (Or.inl ⟨by rfl, ?hy2⟩) (by assumption) ?rest2
  case hy2 => (intro w hSw; (try dsimp only at hSw); go_simp <;> with_reducible rfl)
  try simp only [Act.put, List.getElem_toArray, List.getElem_cons_zero, List.getElem_cons_succ, List.setIfInBounds_toArray, List.set_cons_zero, List.set_cons_succ]
  refine wpAnyH_take (i := 3) (v := ?v3) rfl (by kernel_rfl) (by kernel_rfl) (by kernel_rfl) (fun _ _ _ h => h) (Or.inl ⟨by rfl, ?hy3⟩) (by assumption) ?rest3
  case hy3 => (intro w hSw; (try dsimp only at hSw); go_simp <;> with_reducible rfl)
  try simp only [Act.put, List.getElem_toArray, List.getElem_cons_zero, List.getElem_cons_succ, List.setIfInBounds_toArray, List.set_cons_zero, List.set_cons_succ]
  refine wpAnyH_take (i := 4) (v := ?v4) rfl (by kernel_rfl) (by kernel_rfl) (by kernel_rfl) (fun _ _ _ h => h) (Or.inl ⟨by rfl, ?hy4⟩) (by assumption) ?rest4
  case hy4 => (intro w hSw; (try dsimp only at hSw); go_simp <;> with_reducible rfl)
  try simp only [Act.put, List.getElem_toArray, List.getElem_cons_zero, List.getElem_cons_succ, List.setIfInBounds_toArray, List.set_cons_zero, List.set_cons_succ]
  refine wpAnyH_ready (rs := [1]) (by kernel_rfl) (by simp) ?_
  refine AllReadyH.cons rfl (fun K hK => ?_) AllReadyH.nil
  go_simp
  go_at_call 12
  refine (bheld_cell (w := w1.drew) f1).mono ?_
  rintro e w' ⟨rfl, rfl⟩
  refine hK.out _ _ ⟨d3, f1, f4⟩ (fun hHeld => ?_)
  clear hK K
  try simp only [Act.put, List.getElem_toArray, List.getElem_cons_zero, List.getElem_cons_succ, List.setIfInBounds_toArray, List.set_cons_zero, List.set_cons_succ]
  refine wpAnyH_take (i := 5) (v := ?v5q1) rfl (by kernel_rfl) (by kernel_rfl) (by kernel_rfl) (fun _ _ _ h => h) (Or.inl ⟨by rfl, ?hy5q1⟩) (by assumption) ?rest5q1
  case hy5q1 => (intro w hSw; (try dsimp only at hSw); go_simp <;> with_reducible rfl)
  try simp only [Act.put, List.getElem_toArray, List.getElem_cons_zero, List.getElem_cons_succ, List.setIfInBounds_toArray, List.set_cons_zero, List.set_cons_succ]
  refine wpAnyH_take (i := 6) (v := ?v6q1) rfl (by kernel_rfl) (by kernel_rfl) (by kernel_rfl) (fun _ _ _ h => h) (Or.inl ⟨by rfl, ?hy6q1⟩) (by assumption) ?rest6q1
  case hy6q1 => (intro w hSw; (try dsimp only at hSw); go_simp <;> with_reducible rfl)
  try simp only [Act.put, List.getElem_toArray, List.getElem_cons_zero, List.getElem_cons_succ, List.setIfInBounds_toArray, List.set_cons_zero, List.set_cons_succ]
  refine wpAnyH_take (i := 7) (v := ?v7q1) rfl (by kernel_rfl) (by kernel_rfl) (by kernel_rfl) (fun _ _ _ h => h) (Or.inl ⟨by rfl, ?hy7q1⟩) (by assumption) ?rest7q1
  case hy7q1 => (intro w hSw; (try dsimp only at hSw); go_simp <;> with_reducible rfl)
  try simp only [Act.put, List.getElem_toArray, List.getElem_cons_zero, List.getElem_cons_succ, List.setIfInBounds_toArray, List.set_cons_zero, List.set_cons_succ]
  refine wpAnyH_take (i := 8) (v := ?v8q1) rfl (by kernel_rfl) (by kernel_rfl) (by kernel_rfl) (fun _ _ _ h => h) (Or.inl ⟨by rfl, ?hy8q1⟩) (by assumption) ?rest8q1
  case hy8q1 => (intro w hSw; (try dsimp only at hSw); go_simp <;> with_reducible rfl)
  try simp only [Act.put, List.getElem_toArray, List.getElem_cons_zero, List.getElem_cons_succ, List.setIfInBounds_toArray, List.set_cons_zero, List.set_cons_succ]
  refine wpAnyH_take (i := 9) (v := ?v9q1) rfl (by kernel_rfl) (by kernel_rfl) (by kernel_rfl) (fun _ _ _ h => h) (Or.inl ⟨by rfl, ?hy9q1⟩) (by assumption) ?rest9q1
  case hy9q1 => (intro w hSw; (try dsimp only at hSw); go_simp <;> with_reducible rfl)
  try simp only [Act.put, List.getElem_toArray, List.getElem_cons_zero, List.getElem_cons_succ, List.setIfInBounds_toArray, List.set_cons_zero, List.set_cons_succ]
  refine wpAnyH_take (i := 10) (v := ?v10q1) rfl (by kernel_rfl) (by kernel_rfl) (by kernel_rfl) (fun _ _ _ h => h) (Or.inl ⟨by rfl, ?hy10q1⟩) (by assumption) ?rest10q1
  case hy10q1 => (intro w hSw; (try dsimp only at hSw); go_simp <;> with_reducible rfl)
  try simp only [Act.put, List.getElem_toArray, List.getElem_cons_zero, List.getElem_cons_succ, List.setIfInBounds_toArray, List.set_cons_zero, List.set_cons_succ]
  refine wpAnyH_take (i := 11) (v := ?v11q1) rfl (by kernel_rfl) (by kernel_rfl) (by kernel_rfl) (fun _ _ _ h => h) (Or.inl ⟨by rfl, ?hy11q1⟩) (by assumption) ?rest11q1
  case hy11q1 => (intro w hSw; (try dsimp only at hSw); go_simp <;> with_reducible rfl)
  try simp only [Act.put, List.getElem_toArray, List.getElem_cons_zero, List.getElem_cons_succ, List.setIfInBounds_toArray, List.set_cons_zero, List.set_cons_succ]
  refine wpAnyH_take (i := 12) (v := ?v12q1) rfl (by kernel_rfl) (by kernel_rfl) (by kernel_rfl) (fun _ _ _ h => h) (Or.inl ⟨by rfl, ?hy12q1⟩) (by assumption) ?rest12q1
  case hy12q1 => (intro w hSw; (try dsimp only at hSw); go_simp <;> with_reducible rfl)
  try simp only [Act.put, List.getElem_toArray, List.getElem_cons_zero, List.getElem_cons_succ, List.setIfInBounds_toArray, List.set_cons_zero, List.set_cons_succ]
  refine wpAnyH_take (i := 13) (v := ?v13q1) rfl (by kernel_rfl) (by kernel_rfl) (by kernel_rfl) (fun _ _ _ h => h) (Or.inl ⟨by rfl, ?hy13q1⟩) (by assumption) ?rest13q1
  case hy13q1 => (intro w hSw; (try dsimp only at hSw); go_simp <;> with_reducible rfl)
  try simp only [Act.put, List.getElem_toArray, List.getElem_cons_zero, List.getElem_cons_succ, List.setIfInBounds_toArray, List.set_cons_zero, List.set_cons_succ]
  refine wpAnyH_done (by kernel_rfl) ?_ _
  clear g8 g16 hs
  have HR2 : Hid (Row w1.drew g 51 (gac st A blk.length c en true more none)) := HR.out
  have TW2 : Hid (Row w1.drew (w.heap.size + 1) 34 (whc 0 none 0 0 false)) := TW.out
  have TX2 : Hid (Row w1.drew w.heap.size 32 x.c) := TX.out
  have HF2 : Hid (Fs (gvS g (.slice A blk.length c)) w w1.drew) := HF.out.drewN 1
  have HO2 : Hid (Bo w1.drew base 5 (.slice A blk.length c) blk) := HO.out
  have HD2 : Hid (RdB w1.drew w.heap.size x.dA d) := HD.out
  have HS2 : Hid (w.heap.size < w1.drew.heap.size) := HSZ.out
  have f1' : w1.drew.cell? ⟨g, 1, none⟩ = some (.slice A blk.length c) := f1
  have d3' : w1.drew.cell? ⟨w.heap.size, 3, none⟩ = some (.slice x.dA x.dn x.dc) := d3
  clear HR TW HF HO HD TX HSZ f1 f4 d3
  generalize w1.drew = w2 at *
  generalize hpx : w.heap.size = px at *
  have HPX := Lib.hid hpx
  clear hpx
  go_wp2_with fail
  have HR3 : Hid (Row w2.drew g 51 (gac st A blk.length c en true more none)) := HR2.out
  have TW3 : Hid (Row w2.drew (px + 1) 34 (whc 0 none 0 0 false)) := TW2.out
  have TX3 : Hid (Row w2.drew px 32 x.c) := TX2.out
  have HF3 : Hid (Fs (gvS g (.slice A blk.length c)) w w2.drew) := HF2.out.drewN 1
  have HO3 : Hid (Bo w2.drew base 5 (.slice A blk.length c) blk) := HO2.out
  have HD3 : Hid (RdB w2.drew px x.dA d) := HD2.out
  have HS3 : Hid (px < w2.drew.heap.size) := HS2.out
  have f1 : w2.drew.cell? ⟨g, 1, none⟩ = some (.slice A blk.length c) := f1'
  have d3 : w2.drew.cell? ⟨px, 3, none⟩ = some (.slice x.dA x.dn x.dc) := d3'
  clear HR2 TW2 TX2 HF2 HO2 HD2 HS2
  refine wp_region_E 12 (fun w' => w'.cell? ⟨g, 1, none⟩ = some (.slice A blk.length c) ∧ w'.cell? ⟨px, 3, none⟩ = some (.slice x.dA x.dn x.dc)) (by kernel_rfl) ⟨f1, d3⟩ (fun hHeld => ?_)
  generalize w2.drew = w3 at *
  clear f1' d3'
  refine wpAnyE_take (i := 0) (v := ?v0q2) rfl (by kernel_rfl) (by kernel_rfl) (by kernel_rfl) (by kernel_rfl) (fun _ _ _ h => h) (Or.inl ⟨by rfl, ?hy0q2⟩) (by assumption) ?rest0q2
  case hy0q2 => (intro w hSw; (try dsimp only at hSw); go_simp <;> with_reducible rfl)
  try simp only [Act.put, List.getElem_toArray, List.getElem_cons_zero, List.setIfInBounds_toArray, List.set_cons_zero, List.set_cons_succ]
  refine wpAnyE_take (i := 1) (v := ?v1q2) rfl (by kernel_rfl) (by kernel_rfl) (by kernel_rfl) (by kernel_rfl) (fun _ _ _ h => h) (Or.inl ⟨by rfl, ?hy1q2⟩) (by assumption) ?rest1q2
  case hy1q2 => (intro w hSw; (try dsimp only at hSw); go_simp <;> with_reducible rfl)
  try simp only [Act.put, List.getElem_toArray, List.getElem_cons_zero, List.getElem_cons_succ, List.setIfInBounds_toArray, List.set_cons_zero, List.set_cons_succ]
  refine wpAnyE_take (i := 2) (v := ?v2q2) rfl (by kernel_rfl) (by kernel_rfl) (by kernel_rfl) (by kernel_rfl) (fun _ _ _ h => h) (Or.inl ⟨by rfl, ?hy2q2⟩) (by assumption) ?rest2q2
  case hy2q2 => (intro w hSw; (try dsimp only at hSw); go_simp <;> with_reducible rfl)
  try simp only [Act.put, List.getElem_toArray, List.getElem_cons_zero, List.getElem_cons_succ, List.setIfInBounds_toArray, List.set_cons_zero, List.set_cons_succ]
  refine wpAnyE_take (i := 3) (v := ?v3q2) rfl (by kernel_rfl) (by kernel_rfl) (by kernel_rfl) (by kernel_rfl) (fun _ _ _ h => h) (Or.inl ⟨by rfl, ?hy3q2⟩) (by assumption) ?rest3q2
  case hy3q2 => (intro w hSw; (try dsimp only at hSw); go_simp <;> with_reducible rfl)
  try simp only [Act.put, List.getElem_toArray, List.getElem_cons_zero, List.getElem_cons_succ, List.setIfInBounds_toArray, List.set_cons_zero, List.set_cons_succ]
  refine wpAnyE_take (i := 4) (v := ?v4q2) rfl (by kernel_rfl) (by kernel_rfl) (by kernel_rfl) (by kernel_rfl) (fun _ _ _ h => h) (Or.inl ⟨by rfl, ?hy4q2⟩) (by assumption) ?rest4q2
  case hy4q2 => (intro w hSw; (try dsimp only at hSw); go_simp <;> with_reducible rfl)
  try simp only [Act.put, List.getElem_toArray, List.getElem_cons_zero, List.getElem_cons_succ, List.setIfInBounds_toArray, List.set_cons_zero, List.set_cons_succ]
  refine wpAnyE_take (i := 5) (v := ?v5q2) rfl (by kernel_rfl) (by kernel_rfl) (by kernel_rfl) (by kernel_rfl) (fun _ _ _ h => h) (Or.inl ⟨by rfl, ?hy5q2⟩) (by assumption) ?rest5q2
  case hy5q2 => (intro w hSw; (try dsimp only at hSw); go_simp <;> with_reducible rfl)
  try simp only [Act.put, List.getElem_toArray, List.getElem_cons_zero, List.getElem_cons_succ, List.setIfInBounds_toArray, List.set_cons_zero, List.set_cons_succ]
  refine wpAnyE_take (i := 6) (v := ?v6q2) rfl (by kernel_rfl) (by kernel_rfl) (by kernel_rfl) (by kernel_rfl) (fun _ _ _ h => h) (Or.inl ⟨by rfl, ?hy6q2⟩) (by assumption) ?rest6q2
  case hy6q2 => (intro w hSw; (try dsimp only at hSw); go_simp <;> with_reducible rfl)
  try simp only [Act.put, List.getElem_toArray, List.getElem_cons_zero, List.getElem_cons_succ, List.setIfInBounds_toArray, List.set_cons_zero, List.set_cons_succ]
  refine wpAnyE_take (i := 7) (v := ?v7q2) rfl (by kernel_rfl) (by kernel_rfl) (by kernel_rfl) (by kernel_rfl) (fun _ _ _ h => h) (Or.inl ⟨by rfl, ?hy7q2⟩) (by assumption) ?rest7q2
  case hy7q2 => (intro w hSw; (try dsimp only at hSw); go_simp <;> with_reducible rfl)
  try simp only [Act.put, List.getElem_toArray, List.getElem_cons_zero, List.getElem_cons_succ, List.setIfInBounds_toArray, List.set_cons_zero, List.set_cons_succ]
  refine wpAnyE_next (i := 8) (by kernel_rfl) rfl (fun K hK => ?_)
  refine step_appBo rfl (.tmp 29) (.tmp 31) 29 rfl base 5 i0 Tryd.underlying29 hi0 hz0 hz1 hz2 (.slice A blk.length c) blk rfl HO3.out px x.dA d x.dn x.dc rfl HN.out HD3.out (by have := HBL.out; have := HD9.out; omega) (by have := HGL.out; have := HLO.out; have := HS3.out; omega) (fun v4 w4 hO4 hF4 hN4 => ?_)
  rw [HL.out] at hO4
  obtain ⟨A', c', rfl, hle⟩ := hO4.shape
  have HR4 : Hid (Row w4 g 51 (gac st A blk.length c en true more none)) := hF4.row (HO3.out.ne HR3.out (by decide)) HR3.out
  have TW4 : Hid (Row w4 (px + 1) 34 (whc 0 none 0 0 false)) := hF4.row (HO3.out.ne TW3.out (by decide)) TW3.out
  have TX4 : Hid (Row w4 px 32 x.c) := hF4.row (HO3.out.ne TX3.out (by decide)) TX3.out
  have HF4 : Hid (Fs (gvS g (.slice A blk.length c)) w w4) := HF3.out.trans hF4 (fun k _ hk => .inr hk)
  have HN4 : Hid (Nx w (.slice A blk.length c) (.slice A' L.length c')) := by
    rcases hN4 with h | h
    · exact .inl h
    · exact .inr fun k hk => by have := h k hk; have := HS3.out; have := HPX.out; omega
  have HO4 := Lib.hid hO4
  have q1 := (ga_cells HR4.out).2.1
  have q3 := (fm_cells TX4.out).2.2.2.1
  have ht := HR4.out.thawed 1
  clear hO4 hF4 hN4 hle HR3 TW3 TX3 HF3 HO3 HD3 HS3 f1 d3 hHeld
  refine hK.out _ _ ⟨q1, q3⟩ (fun hHeld => ?_)
  clear hK K
  try simp only [Act.put, List.getElem_toArray, List.getElem_cons_zero, List.getElem_cons_succ, List.setIfInBounds_toArray, List.set_cons_zero, List.set_cons_succ]
  refine wpAnyE_take (i := 9) (v := ?v9q3) rfl (by kernel_rfl) (by kernel_rfl) (by kernel_rfl) (by kernel_rfl) (fun _ _ _ h => h) (Or.inl ⟨by rfl, ?hy9q3⟩) (by assumption) ?rest9q3
  case hy9q3 => (intro w hSw; (try dsimp only at hSw); go_simp <;> with_reducible rfl)
  try simp only [Act.put, List.getElem_toArray, List.getElem_cons_zero, List.getElem_cons_succ, List.setIfInBounds_toArray, List.set_cons_zero, List.set_cons_succ]
  refine wpAnyE_take (i := 10) (v := ?v10q3) rfl (by kernel_rfl) (by kernel_rfl) (by kernel_rfl) (by kernel_rfl) (fun _ _ _ h => h) (Or.inl ⟨by rfl, ?hy10q3⟩) (by assumption) ?rest10q3
  case hy10q3 => (intro w hSw; (try dsimp only at hSw); go_simp <;> with_reducible rfl)
  try simp only [Act.put, List.getElem_toArray, List.getElem_cons_zero, List.getElem_cons_succ, List.setIfInBounds_toArray, List.set_cons_zero, List.set_cons_succ]
  refine wpAnyE_take (i := 11) (v := ?v11q3) rfl (by kernel_rfl) (by kernel_rfl) (by kernel_rfl) (by kernel_rfl) (fun _ _ _ h => h) (Or.inl ⟨by rfl, ?hy11q3⟩) (by assumption) ?rest11q3
  case hy11q3 => (intro w hSw; (try dsimp only at hSw); go_simp <;> with_reducible rfl)
  try simp only [Act.put, List.getElem_toArray, List.getElem_cons_zero, List.getElem_cons_succ, List.setIfInBounds_toArray, List.set_cons_zero, List.set_cons_succ]
  refine wpAnyE_last (by kernel_rfl) rfl (by kernel_rfl) (fun K hK => ?_)
  go_simp
  refine hK.out _ _ ?_
  clear hK K
  try simp only [Act.put, List.getElem_toArray, List.getElem_cons_zero, List.getElem_cons_succ, List.setIfInBounds_toArray, List.set_cons_zero, List.set_cons_succ]
  have HR5 : Hid (Row (w4.setCell ⟨g, 1, none⟩ (.slice A' L.length c')) g 51 (gac st A' L.length c' en true more none)) := by
    have := HR4.out.stored 1 (.slice A' L.length c')
    rw [gac_sets] at this
    exact this
  have TW5 := Lib.hid (TW4.out.set_far (Row.ne TW4.out HR4.out (by decide)) 1 (.slice A' L.length c'))
  have TX5 := Lib.hid (TX4.out.set_far (Row.ne TX4.out HR4.out (by decide)) 1 (.slice A' L.length c'))
  have HF5 := Lib.hid (HF4.out.setCell (g := g) (fun _ => .inl rfl) 1 (.slice A' L.length c'))
  have HO5 : Hid (Bo (w4.setCell ⟨g, 1, none⟩ (.slice A' L.length c')) base 5 (.slice A' L.length c') L) := HO4.out.set_far (HO4.out.ne HR4.out (by decide)) 1 _
  clear HR4 TW4 TX4 HF4 HO4 q1 q3 ht hHeld
  generalize w4.setCell ⟨g, 1, none⟩ (.slice A' L.length c') = w5 at *
  have k1 := (fm_cells TX5.out).2.1
  have h4 := and4 ⟨x.fl, HFL.out⟩
  simp only at h4
  have HOK : Hid (Gm.Ok ⟨true, st, L, en, more, 0⟩) := ⟨fun e => (by cases e), fun _ => rfl, by show L.length ≤ 8192; rw [HLN.out]; exact HM8.out, HMR.out, by show 0 ≤ 11; omega⟩
  by_cases hf : x.fl / 4 % 2 = 1
  · have HE := Lib.hid (gfin_end (m := ⟨true, st, L, en, more, 0⟩) HLE.out hf)
    rw [hf] at h4
    clear hf HLE HM8 HMR HD9 HLN
    obtain ⟨w6, hw6, t1, t2, t3⟩ := one_wh w5 st A' L.length c' en
    have T7 := Lib.hid hw6
    have T1 := Lib.hid t1
    have T2 := Lib.hid t2
    have HR6 : Hid (Row w6 g 51 (gac st A' L.length c' en true more none)) := HR5.out.below t3 HR5.out.lt
    have TW6 : Hid (Row w6 (px + 1) 34 (whc 0 none 0 0 false)) := TW5.out.below t3 TW5.out.lt
    have HF6 : Hid (Fs (gvS g (.slice A blk.length c)) w w6) := HF5.out.then_below t3
    have HO6 : Hid (Bo w6 base 5 (.slice A' L.length c') L) := OwS.below HO5.out t3
    have HPT := Lib.hid (ga_part HR5.out)
    have HNE : Hid (w5.heap.size ≠ px + 1) := fun e => absurd TW5.out.lt (by omega)
    clear hw6 t1 t2 t3
    go_upto_region 7 with (first | (refine wpList_ldm (cs := whc st A' L.length c' en) rfl _ rfl rfl HPT.out (wh_ok _ _ _ _ _) ?_) | (refine wpList_sw (cs := whc st A' L.length c' en) rfl _ _ rfl rfl rfl T1.out (wh_sz _ _ _ _ _ _ _ _ _ _) (wh_ok _ _ _ _ _) ?_))
    rw [T7.out]
    clear T7 T1 HR5 TW5 HF5 HO5 HPT TX5 k1 h4
    generalize w5.heap.size = pw at *
    go_wp2_with (first | (refine wpList_build_is rfl 51 _ rfl (gac 0 none 0 0 false false 0 none) (by kernel_rfl) ?_) | (refine wpList_sw (cs := gac 0 none 0 0 false false 0 none) rfl _ _ rfl rfl rfl HR6.out (by rw [ga_six, ga_six]) (ga_ok _ _ _ _ _ _ _ _) ?_) | (refine wpList_ld rfl _ rfl rfl (T2.out.row_far (Row.ne T2.out HR6.out (by decide)) _) (wh_ok _ _ _ _ _) ?_) | (refine wpList_sw (cs := whc st A' L.length c' en) rfl _ _ rfl rfl rfl (TW6.out.row_far (Row.ne TW6.out HR6.out (by decide)) _) (wh_sz _ _ _ _ _ _ _ _ _ _) (wh_ok _ _ _ _ _) ?_))
    have HGA : Ga ((w6.setRow g (gac 0 none 0 0 false false 0 none)).setRow (px + 1) (whc st A' L.length c' en)) base g gm0 none 0 none :=
      ⟨(HR6.out.setRow _).row_far (Row.ne HR6.out TW6.out (by decide)) _, Bo.nil, fun _ => ⟨rfl, rfl⟩, .inl ⟨rfl, rfl⟩, gm0_ok, HLO.out⟩
    refine bodyPost_ret (v := .tuple #[.agg (whc st A' L.length c' en), .bool true, .nilIface]) (ret_avv rfl _ rfl ((TW6.out.row_far (Row.ne TW6.out HR6.out (by decide)) _).setRow _) (wh_ok _ _ _ _ _) rfl rfl) rfl ?_
    rw [HE.out]
    exact TkP.whole (m := ⟨true, st, L, en, more, 0⟩) ((HF6.out.setRow (g := g) (fun _ => .inl rfl) _).setRow (g := px + 1) (fun h => absurd h (by have := HPX.out; omega)) _) HGA ((HO6.out.row_far (HO6.out.ne HR6.out (by decide)) _).row_far (HO6.out.ne TW6.out (by decide)) _) HN4.out
  · have HE := Lib.hid (gfin_on (m := ⟨true, st, L, en, more, 0⟩) HLE.out hf)
    rw [show x.fl / 4 % 2 = 0 by omega] at h4
    clear hf HLE HM8 HMR HD9 HLN
    go_wp2_with (first | (refine wpList_build_is rfl 34 _ rfl (whc 0 none 0 0 false) (by kernel_rfl) ?_) | (refine wpList_sw (cs := whc 0 none 0 0 false) rfl _ _ rfl rfl rfl TW5.out (wh_sz _ _ _ _ _ _ _ _ _ _) (wh_ok _ _ _ _ _) ?_))
    have HGA : Ga (w5.setRow (px + 1) (whc 0 none 0 0 false)) base g ⟨true, st, L, en, more, 0⟩ A' c' none :=
      ⟨HR5.out.row_far (Row.ne HR5.out TW5.out (by decide)) _, HO5.out.row_far (HO5.out.ne TW5.out (by decide)) _, fun e => (by cases e), .inl ⟨rfl, rfl⟩, HOK.out, HLO.out⟩
    refine bodyPost_ret (v := .tuple #[.agg (whc 0 none 0 0 false), .bool false, .nilIface]) (ret_avv rfl _ rfl (TW5.out.setRow _) (wh_ok _ _ _ _ _) rfl rfl) rfl ?_
    rw [HE.out]
    exact TkP.on (m := ⟨true, st, L, en, more, 0⟩) rfl (HF5.out.setRow (g := px + 1) (fun h => absurd h (by have := HPX.out; omega)) _) HGA HN4.out
end Go.Proofs.YtcbepicdnmnfaaaDoor
