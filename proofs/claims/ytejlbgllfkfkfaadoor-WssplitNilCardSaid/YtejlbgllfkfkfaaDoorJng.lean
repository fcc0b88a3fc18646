/-
  Next of a good splitter, by its contract. Conditions: the splitter lies behind the package's variables; errors.errorType holds what the program's text lays.
-/
import Derived.Test.YtejlbgllfkfkfaaDoorJnx
namespace Go.Proofs.YtejlbgllfkfkfaaDoor
open Go.RowKit Go.WideShapes

theorem scI_ne {c : Nat} (h : c ≠ 0) : scI c = 3 := if_neg h
theorem scI_lt (c : Nat) : scI c < 4 := by unfold scI; split <;> omega
theorem Row.keepJ {w w' : World} {g : Nat} {t : TypeId} {cs : Array Value} (h : Row w g t cs) (hk : w'.heap[g]? = w.heap[g]?) : Row w' g t cs := hk.trans h
theorem rds_far {w : World} {S : Nat → Prop} {A : Option Addr} {cs : List Value} (h : RdS w S A cs) {pp : Nat} (hS : ∀ k, S k → k ≠ pp) (x : Array Value) : RdS (w.setRow pp x) S A cs := h.keep fun k hk => setRow_other _ _ _ _ (hS k hk)
set_option maxRecDepth 100000 in
set_option maxHeartbeats 4000000 in
theorem jnext_good {w : World} {base g c : Nat} {A : Option Addr} {m : Bool} {l : List UInt8} (h : JG w base g (.slice A l.length c) m l) (hc : l.length ≤ c) (hG : GlobE w) :
    Calls Tryd.prog 12 #[.pointer (some ⟨g, 0, none⟩)] w (NxJ w base g (.slice A l.length c) m (njN m l false)) := by
  have H0 : Hid (NJ w base g (.slice A l.length c) m l ((w.alloc (.cells #[.bool false, .int .u8 0, .bool false, .int .u32 0, .slice none 0 0] 31)).alloc (.cells #[.int .u8 0, .int .u32 0] 33))) := NJ.start h hG
  have hll := h.len
  clear h hG
  go_enter Tryd.func12, Tryd.ntmps12
  go_upto_region 1 with fail
  generalize ((w.alloc (.cells #[.bool false, .int .u8 0, .bool false, .int .u32 0, .slice none 0 0] 31)).alloc (.cells #[.int .u8 0, .int .u32 0] 33)) = w1 at *
  have hb := jbad_cell (w := w1) (g := g) (x := false) (H0.out.jg.row.cell rfl)
  go_wp2_with fail
  refine hb.mono ?_
  rintro e w2 ⟨rfl, rfl⟩
  clear hb
  have HH : Hid (∀ W, NJ w base g (.slice A l.length c) m l W → Calls Tryd.prog 17 #[.slice A l.length c, .bool m] W (HeadP (hdI m l) W)) := fun W hW => ihead_any (c := c) (m := m) (Bo.reads hW.jg.own) (Nat.le_refl _) (by omega) hc hW.gl
  go_upto_region 3 with fail
  go_cut [5, 6, 7] (fun v5 v6 v7 wx => ∃ pf, v5 = .int .i64 (((hdI m l).front + (hdI m l).size : Nat) : Int) ∧ v6 = .pointer (some ⟨pf, 0, none⟩) ∧ v7 = .bool (!(hdI m l).short) ∧ Hid (NJ w base g (.slice A l.length c) m l wx) ∧ Hid (Row wx pf 33 (ftI (scI (hdI m l).code) (hdI m l).code)) ∧ Hid (w.heap.size + 2 ≤ pf))
  case first =>
    have H1 : Hid (NJ w base g (.slice A l.length c) m l w2.drew) := H0.out.drew
    have d0 : w2.drew.cell? ⟨g, 0, none⟩ = some (.slice A l.length c) := H1.out.jg.row.cell rfl
    have d1 : w2.drew.cell? ⟨g, 1, none⟩ = some (.bool m) := H1.out.jg.row.cell rfl
    clear H0
    refine wp_region_held_drew (S := fun w' => w'.cell? ⟨g, 0, none⟩ = some (.slice A l.length c) ∧ w'.cell? ⟨g, 1, none⟩ = some (.bool m)) (by kernel_rfl) ⟨d0, d1⟩ (fun hHeld => ?_)
    clear d0 d1
    generalize w2.drew = w3 at *
    generalize hdI m l = hd at *
    refine wpAnyH_take (i := 0) (v := ?v0) rfl (by kernel_rfl) (by kernel_rfl) (by kernel_rfl) (fun _ _ _ h => h) (Or.inl ⟨by rfl, ?hy0⟩) (by assumption) ?rest0
    case hy0 => (intro w hSw; (try dsimp only at hSw); go_simp <;> with_reducible rfl)
    try simp only [Act.put, List.getElem_toArray, List.getElem_cons_zero, List.setIfInBounds_toArray, List.set_cons_zero, List.set_cons_succ]
    refine wpAnyH_take (i := 1) (v := ?v1) rfl (by kernel_rfl) (by kernel_rfl) (by kernel_rfl) (fun _ _ _ h => h) (Or.inl ⟨by rfl, ?hy1⟩) (by assumption) ?rest1
    case hy1 => (intro w hSw; (try dsimp only at hSw); go_simp <;> with_reducible rfl)
    try simp only [Act.put, List.getElem_toArray, List.getElem_cons_zero, List.getElem_cons_succ, List.setIfInBounds_toArray, List.set_cons_zero, List.set_cons_succ]
    refine wpAnyH_take (i := 2) (v := ?v2) rfl (by kernel_rfl) (by kernel_rfl) (by kernel_rfl) (fun _ _ _ h => h) (Or.inl ⟨by rfl, ?hy2⟩) (by assumption) ?rest2
    case hy2 => (intro w hSw; (try dsimp only at hSw); go_simp <;> with_reducible rfl)
    try simp only [Act.put, List.getElem_toArray, List.getElem_cons_zero, List.getElem_cons_succ, List.setIfInBounds_toArray, List.set_cons_zero, List.set_cons_succ]
    refine wpAnyH_take (i := 3) (v := ?v3) rfl (by kernel_rfl) (by kernel_rfl) (by kernel_rfl) (fun _ _ _ h => h) (Or.inl ⟨by rfl, ?hy3⟩) (by assumption) ?rest3
    case hy3 => (intro w hSw; (try dsimp only at hSw); go_simp <;> with_reducible rfl)
    try simp only [Act.put, List.getElem_toArray, List.getElem_cons_zero, List.getElem_cons_succ, List.setIfInBounds_toArray, List.set_cons_zero, List.set_cons_succ]
    refine wpAnyH_take (i := 4) (v := ?v4) rfl (by kernel_rfl) (by kernel_rfl) (by kernel_rfl) (fun _ _ _ h => h) (Or.inl ⟨by rfl, ?hy4⟩) (by assumption) ?rest4
    case hy4 => (intro w hSw; (try dsimp only at hSw); go_simp <;> with_reducible rfl)
    try simp only [Act.put, List.getElem_toArray, List.getElem_cons_zero, List.getElem_cons_succ, List.setIfInBounds_toArray, List.set_cons_zero, List.set_cons_succ]
    refine wpAnyH_take (i := 5) (v := ?v5) rfl (by kernel_rfl) (by kernel_rfl) (by kernel_rfl) (fun _ _ _ h => h) (Or.inl ⟨by rfl, ?hy5⟩) (by assumption) ?rest5
    case hy5 => (intro w hSw; (try dsimp only at hSw); go_simp <;> with_reducible rfl)
    try simp only [Act.put, List.getElem_toArray, List.getElem_cons_zero, List.getElem_cons_succ, List.setIfInBounds_toArray, List.set_cons_zero, List.set_cons_succ]
    refine wpAnyH_take (i := 6) (v := ?v6) rfl (by kernel_rfl) (by kernel_rfl) (by kernel_rfl) (fun _ _ _ h => h) (Or.inl ⟨by rfl, ?hy6⟩) (by assumption) ?rest6
    case hy6 => (intro w hSw; (try dsimp only at hSw); go_simp <;> with_reducible rfl)
    try simp only [Act.put, List.getElem_toArray, List.getElem_cons_zero, List.getElem_cons_succ, List.setIfInBounds_toArray, List.set_cons_zero, List.set_cons_succ]
    refine wpAnyH_take (i := 7) (v := ?v7) rfl (by kernel_rfl) (by kernel_rfl) (by kernel_rfl) (fun _ _ _ h => h) (Or.inl ⟨by rfl, ?hy7⟩) (by assumption) ?rest7
    case hy7 => (intro w hSw; (try dsimp only at hSw); go_simp <;> with_reducible rfl)
    try simp only [Act.put, List.getElem_toArray, List.getElem_cons_zero, List.getElem_cons_succ, List.setIfInBounds_toArray, List.set_cons_zero, List.set_cons_succ]
    refine wpAnyH_ready (rs := [8, 13]) (by kernel_rfl) (by simp) ?_
    refine AllReadyH.cons rfl (fun K hK => ?_) (AllReadyH.cons rfl (fun K hK => ?_) AllReadyH.nil)
    · go_simp
      go_at_call 17
      refine (HH.out _ H1.out).mono ?_
      rintro e w4 ⟨rfl, hb4⟩
      have H4 := Lib.hid (H1.out.below hb4)
      clear hb4 H1 hHeld HH
      refine hK.out _ _ ⟨H4.out.jg.row.cell rfl, H4.out.jg.row.cell rfl⟩ (fun hHeld => ?_)
      clear hK K
      try simp only [Act.put, List.getElem_toArray, List.getElem_cons_zero, List.getElem_cons_succ, List.setIfInBounds_toArray, List.set_cons_zero, List.set_cons_succ]
      refine wpAnyH_take (i := 9) (v := ?v9q1) rfl (by kernel_rfl) (by kernel_rfl) (by kernel_rfl) (fun _ _ _ h => h) (Or.inl ⟨by rfl, ?hy9q1⟩) (by assumption) ?rest9q1
      case hy9q1 => (intro w hSw; (try dsimp only at hSw); go_simp <;> with_reducible rfl)
      try simp only [Act.put, List.getElem_toArray, List.getElem_cons_zero, List.getElem_cons_succ, List.setIfInBounds_toArray, List.set_cons_zero, List.set_cons_succ]
      refine wpAnyH_take (i := 10) (v := ?v10q1) rfl (by kernel_rfl) (by kernel_rfl) (by kernel_rfl) (fun _ _ _ h => h) (Or.inl ⟨by rfl, ?hy10q1⟩) (by assumption) ?rest10q1
      case hy10q1 => (intro w hSw; (try dsimp only at hSw); go_simp <;> with_reducible rfl)
      try simp only [Act.put, List.getElem_toArray, List.getElem_cons_zero, List.getElem_cons_succ, List.setIfInBounds_toArray, List.set_cons_zero, List.set_cons_succ]
      refine wpAnyH_take (i := 11) (v := ?v11q1) rfl (by kernel_rfl) (by kernel_rfl) (by kernel_rfl) (fun _ _ _ h => h) (Or.inl ⟨by rfl, ?hy11q1⟩) (by assumption) ?rest11q1
      case hy11q1 => (intro w hSw; (try dsimp only at hSw); go_simp <;> with_reducible rfl)
      try simp only [Act.put, List.getElem_toArray, List.getElem_cons_zero, List.getElem_cons_succ, List.setIfInBounds_toArray, List.set_cons_zero, List.set_cons_succ]
      refine wpAnyH_take (i := 12) (v := ?v12q1) rfl (by kernel_rfl) (by kernel_rfl) (by kernel_rfl) (fun _ _ _ h => h) (Or.inl ⟨by rfl, ?hy12q1⟩) (by assumption) ?rest12q1
      case hy12q1 => (intro w hSw; (try dsimp only at hSw); go_simp <;> with_reducible rfl)
      try simp only [Act.put, List.getElem_toArray, List.getElem_cons_zero, List.getElem_cons_succ, List.setIfInBounds_toArray, List.set_cons_zero, List.set_cons_succ]
      refine wpAnyH_ready (rs := [13]) (by kernel_rfl) (by simp) ?_
      refine AllReadyH.cons rfl (fun K hK => ?_) AllReadyH.nil
      go_simp
      have hb5 : Below w4.heap.size w4 (w4.alloc (.cells #[.int .u8 0, .int .u32 0] 33)) := (Below.refl _ _).alloc (Nat.le_refl _) _
      have H5 := Lib.hid (H4.out.below hb5)
      have HV : Hid (Row (w4.alloc (.cells #[.int .u8 0, .int .u32 0] 33)) w4.heap.size 33 (ftI 0 0)) := Row.new w4 _ _
      have HP : Hid (w.heap.size + 2 ≤ w4.heap.size) := H4.out.rt.lt
      clear hb5 H4
      generalize w4.alloc (.cells #[.int .u8 0, .int .u32 0] 33) = w5 at *
      generalize w4.heap.size = pf at *
      refine hK.out _ _ ⟨H5.out.jg.row.cell rfl, H5.out.jg.row.cell rfl⟩ (fun hHeld => ?_)
      clear hK K
      try simp only [Act.put, List.getElem_toArray, List.getElem_cons_zero, List.getElem_cons_succ, List.setIfInBounds_toArray, List.set_cons_zero, List.set_cons_succ]
      refine wpAnyH_take (i := 14) (v := ?v14q2) rfl (by kernel_rfl) (by kernel_rfl) (by kernel_rfl) (fun _ _ _ h => h) (Or.inl ⟨by rfl, ?hy14q2⟩) (by assumption) ?rest14q2
      case hy14q2 => (intro w hSw; (try dsimp only at hSw); go_simp <;> with_reducible rfl)
      try simp only [Act.put, List.getElem_toArray, List.getElem_cons_zero, List.getElem_cons_succ, List.setIfInBounds_toArray, List.set_cons_zero, List.set_cons_succ]
      refine wpAnyH_ready (rs := [15]) (by kernel_rfl) (by simp) ?_
      refine AllReadyH.cons rfl (fun K hK => ?_) AllReadyH.nil
      refine step_sw (cs := ftI (scI hd.code) hd.code) rfl _ _ rfl rfl rfl HV.out (ftI_sz _ _ _ _) (ftI_ok _ _) ?_
      have H6 := Lib.hid (H5.out.far (ftI (scI hd.code) hd.code) HP.out)
      have HV6 := Lib.hid (HV.out.setRow (ftI (scI hd.code) hd.code))
      refine hK.out _ _ ⟨H6.out.jg.row.cell rfl, H6.out.jg.row.cell rfl⟩ (fun hHeld => ?_)
      clear hK K
      try simp only [Act.put, List.getElem_toArray, List.getElem_cons_zero, List.getElem_cons_succ]
      refine wpAnyH_take (i := 16) (v := ?v16q3) rfl (by kernel_rfl) (by kernel_rfl) (by kernel_rfl) (fun _ _ _ h => h) (Or.inl ⟨by rfl, ?hy16q3⟩) (by assumption) ?rest16q3
      case hy16q3 => (intro w hSw; (try dsimp only at hSw); go_simp <;> with_reducible rfl)
      try simp only [Act.put, List.getElem_toArray, List.getElem_cons_zero, List.getElem_cons_succ, List.setIfInBounds_toArray, List.set_cons_zero, List.set_cons_succ]
      refine wpAnyH_done (by kernel_rfl) ?_ _
      go_wp2_with fail
      go_meet
      exact ⟨pf, rfl, rfl, rfl, H6, HV6, HP⟩
    · go_simp
      have hb5 : Below w3.heap.size w3 (w3.alloc (.cells #[.int .u8 0, .int .u32 0] 33)) := (Below.refl _ _).alloc (Nat.le_refl _) _
      have H5 := Lib.hid (H1.out.below hb5)
      have HV : Hid (Row (w3.alloc (.cells #[.int .u8 0, .int .u32 0] 33)) w3.heap.size 33 (ftI 0 0)) := Row.new w3 _ _
      have HP : Hid (w.heap.size + 2 ≤ w3.heap.size) := H1.out.rt.lt
      clear hb5 H1 hHeld
      generalize w3.alloc (.cells #[.int .u8 0, .int .u32 0] 33) = w5 at *
      generalize w3.heap.size = pf at *
      refine hK.out _ _ ⟨H5.out.jg.row.cell rfl, H5.out.jg.row.cell rfl⟩ (fun hHeld => ?_)
      clear hK K
      try simp only [Act.put, List.getElem_toArray, List.getElem_cons_zero, List.getElem_cons_succ, List.setIfInBounds_toArray, List.set_cons_zero, List.set_cons_succ]
      refine wpAnyH_ready (rs := [8]) (by kernel_rfl) (by simp) ?_
      refine AllReadyH.cons rfl (fun K hK => ?_) AllReadyH.nil
      go_simp
      go_at_call 17
      refine (HH.out _ H5.out).mono ?_
      rintro e w4 ⟨rfl, hb4⟩
      have H6 := Lib.hid (H5.out.below hb4)
      have HV6 := Lib.hid (HV.out.below hb4 HV.out.lt)
      clear hb4 H5 hHeld HH HV
      refine hK.out _ _ ⟨H6.out.jg.row.cell rfl, H6.out.jg.row.cell rfl⟩ (fun hHeld => ?_)
      clear hK K
      try simp only [Act.put, List.getElem_toArray, List.getElem_cons_zero, List.getElem_cons_succ, List.setIfInBounds_toArray, List.set_cons_zero, List.set_cons_succ]
      refine wpAnyH_take (i := 9) (v := ?v9q4) rfl (by kernel_rfl) (by kernel_rfl) (by kernel_rfl) (fun _ _ _ h => h) (Or.inl ⟨by rfl, ?hy9q4⟩) (by assumption) ?rest9q4
      case hy9q4 => (intro w hSw; (try dsimp only at hSw); go_simp <;> with_reducible rfl)
      try simp only [Act.put, List.getElem_toArray, List.getElem_cons_zero, List.getElem_cons_succ, List.setIfInBounds_toArray, List.set_cons_zero, List.set_cons_succ]
      refine wpAnyH_take (i := 10) (v := ?v10q4) rfl (by kernel_rfl) (by kernel_rfl) (by kernel_rfl) (fun _ _ _ h => h) (Or.inl ⟨by rfl, ?hy10q4⟩) (by assumption) ?rest10q4
      case hy10q4 => (intro w hSw; (try dsimp only at hSw); go_simp <;> with_reducible rfl)
      try simp only [Act.put, List.getElem_toArray, List.getElem_cons_zero, List.getElem_cons_succ, List.setIfInBounds_toArray, List.set_cons_zero, List.set_cons_succ]
      refine wpAnyH_take (i := 11) (v := ?v11q4) rfl (by kernel_rfl) (by kernel_rfl) (by kernel_rfl) (fun _ _ _ h => h) (Or.inl ⟨by rfl, ?hy11q4⟩) (by assumption) ?rest11q4
      case hy11q4 => (intro w hSw; (try dsimp only at hSw); go_simp <;> with_reducible rfl)
      try simp only [Act.put, List.getElem_toArray, List.getElem_cons_zero, List.getElem_cons_succ, List.setIfInBounds_toArray, List.set_cons_zero, List.set_cons_succ]
      refine wpAnyH_take (i := 12) (v := ?v12q4) rfl (by kernel_rfl) (by kernel_rfl) (by kernel_rfl) (fun _ _ _ h => h) (Or.inl ⟨by rfl, ?hy12q4⟩) (by assumption) ?rest12q4
      case hy12q4 => (intro w hSw; (try dsimp only at hSw); go_simp <;> with_reducible rfl)
      try simp only [Act.put, List.getElem_toArray, List.getElem_cons_zero, List.getElem_cons_succ, List.setIfInBounds_toArray, List.set_cons_zero, List.set_cons_succ]
      refine wpAnyH_take (i := 14) (v := ?v14q4) rfl (by kernel_rfl) (by kernel_rfl) (by kernel_rfl) (fun _ _ _ h => h) (Or.inl ⟨by rfl, ?hy14q4⟩) (by assumption) ?rest14q4
      case hy14q4 => (intro w hSw; (try dsimp only at hSw); go_simp <;> with_reducible rfl)
      try simp only [Act.put, List.getElem_toArray, List.getElem_cons_zero, List.getElem_cons_succ, List.setIfInBounds_toArray, List.set_cons_zero, List.set_cons_succ]
      refine wpAnyH_ready (rs := [15]) (by kernel_rfl) (by simp) ?_
      refine AllReadyH.cons rfl (fun K hK => ?_) AllReadyH.nil
      refine step_sw (cs := ftI (scI hd.code) hd.code) rfl _ _ rfl rfl rfl HV6.out (ftI_sz _ _ _ _) (ftI_ok _ _) ?_
      have H7 := Lib.hid (H6.out.far (ftI (scI hd.code) hd.code) HP.out)
      have HV7 := Lib.hid (HV6.out.setRow (ftI (scI hd.code) hd.code))
      refine hK.out _ _ ⟨H7.out.jg.row.cell rfl, H7.out.jg.row.cell rfl⟩ (fun hHeld => ?_)
      clear hK K
      try simp only [Act.put, List.getElem_toArray, List.getElem_cons_zero, List.getElem_cons_succ]
      refine wpAnyH_take (i := 16) (v := ?v16q5) rfl (by kernel_rfl) (by kernel_rfl) (by kernel_rfl) (fun _ _ _ h => h) (Or.inl ⟨by rfl, ?hy16q5⟩) (by assumption) ?rest16q5
      case hy16q5 => (intro w hSw; (try dsimp only at hSw); go_simp <;> with_reducible rfl)
      try simp only [Act.put, List.getElem_toArray, List.getElem_cons_zero, List.getElem_cons_succ, List.setIfInBounds_toArray, List.set_cons_zero, List.set_cons_succ]
      refine wpAnyH_done (by kernel_rfl) ?_ _
      go_wp2_with fail
      go_meet
      exact ⟨pf, rfl, rfl, rfl, H7, HV7, HP⟩
  case rest =>
    obtain ⟨pf, rfl, rfl, rfl, H4, HV4, HP⟩ := hcut
    clear H0 HH
    have kf : wc.cell? ⟨pf, 0, none⟩ = some (.int .u8 ((scI (hdI m l).code : Nat) : Int)) := HV4.out.cell rfl
    have hcl : whJ m l = (hdI m l).front + (hdI m l).size := rfl
    rw [← hcl]
    rcases cases_J m l with hw | hf | hgo
    · rw [hw.1] at kf
      have kf0 : wc.cell? ⟨pf, 0, none⟩ = some (.int .u8 0) := kf
      have HW := Lib.hid hw
      have HZ := Lib.hid (H4.out.res zpJ (ftI 0 0))
      have d0 : wc.cell? ⟨g, 0, none⟩ = some (.slice A l.length c) := H4.out.jg.row.cell rfl
      clear kf hcl hc hll
      by_cases hs : (hdI m l).short = true
      · rw [hs]
        clear hw hs
        go_wp2_with (first
          | (refine wpList_sw (cs := zpJ) rfl _ _ rfl rfl rfl H4.out.rp rfl (pc_ok _ _ _ _ _ _ _) ?_)
          | (refine wpList_sw (cs := ftI 0 0) rfl _ _ rfl rfl rfl HZ.out.2.2.1 (ftI_sz _ _ _ _) (ftI_ok _ _) ?_))
        refine bodyPost_ret (retJ3 (fn := Tryd.f12) rfl _ rfl HZ.out.1 (pc_ok _ _ _ _ _ _ _) rfl HZ.out.2.1 (ftI_ok _ _) rfl) rfl ?_
        rw [nj_wait HW.out]
        exact ⟨none, 0, _, rfl, RdS.nil, Nat.le_refl _, .inl ⟨rfl, HZ.out.2.2.2.1⟩, HZ.out.2.2.2.2.1, fun _ h => h⟩
      · have hs0 : (hdI m l).short = false := by simpa using hs
        have hlt : l.length < whJ m l := hw.2.elim (fun h => absurd h hs) id
        rw [hs0]
        clear hw hs hs0
        generalize whJ m l = N at *
        have hd : decide ((l.length : Int) < (N : Int)) = true := decide_eq_true (by omega)
        have hd2 : decide (l.length < N) = true := decide_eq_true hlt
        go_wp2_with (first
          | (refine wpList_sw (cs := zpJ) rfl _ _ rfl rfl rfl H4.out.rp rfl (pc_ok _ _ _ _ _ _ _) ?_)
          | (refine wpList_sw (cs := ftI 0 0) rfl _ _ rfl rfl rfl HZ.out.2.2.1 (ftI_sz _ _ _ _) (ftI_ok _ _) ?_))
        refine bodyPost_ret (retJ3 (fn := Tryd.f12) rfl _ rfl HZ.out.1 (pc_ok _ _ _ _ _ _ _) rfl HZ.out.2.1 (ftI_ok _ _) rfl) rfl ?_
        rw [nj_wait HW.out]
        exact ⟨none, 0, _, rfl, RdS.nil, Nat.le_refl _, .inl ⟨rfl, HZ.out.2.2.2.1⟩, HZ.out.2.2.2.2.1, fun _ h => h⟩
    · have HNJ := Lib.hid (nj_fault hf)
      have hsc := scI_ne hf
      rw [hsc] at kf
      have kf0 : wc.cell? ⟨pf, 0, none⟩ = some (.int .u8 3) := kf
      clear hf hcl hc hll kf
      generalize (hdI m l).code = cd at *
      have hgl := H4.out.lt
      have hp := HP.out
      have HP1 := Lib.hid (H4.out.rp.setRow' (k := g) (by omega) (jsp (.slice none 0 0) false true))
      have HT1 := Lib.hid (H4.out.rt.setRow' (k := g) (by omega) (jsp (.slice none 0 0) false true))
      have HV1 := Lib.hid (HV4.out.setRow' (k := g) (by omega) (jsp (.slice none 0 0) false true))
      have HX1 : Hid (JX (wc.setRow g (jsp (.slice none 0 0) false true)) base g (.slice none 0 0) []) := ⟨H4.out.jg.row.setRow _, ⟨rfl, rfl⟩, H4.out.jg.lo⟩
      have HF1 := Lib.hid (H4.out.fs.setRow (g := g) (fun _ => .inl rfl) (jsp (.slice none 0 0) false true))
      go_upto_region 6 with (refine wpList_sw (cs := jsp (.slice none 0 0) false true) rfl _ _ rfl rfl rfl H4.out.jg.row (jsp_sz _ _ _ _ _ _) (jsp_ok _ _) ?_)
      clear H4 HV4 kf0
      generalize wc.setRow g (jsp (.slice none 0 0) false true) = w5 at *
      have HP2 : Hid (Row w5.drew w.heap.size 31 zpJ) := HP1.out
      have HT2 : Hid (Row (w5.drew.setRow w.heap.size zpJ) (w.heap.size + 1) 33 (ftI 0 0)) := Row.setRow' (show Row w5.drew _ _ _ from HT1.out) (by omega) _
      have hV2 : Row w5.drew pf 33 (ftI (scI cd) cd) := HV1.out
      refine wp_region_held_drew (S := fun w' => Row w' pf 33 (ftI (scI cd) cd)) (by kernel_rfl) hV2 (fun hHeld => ?_)
      refine wpAnyH_take (i := 0) (v := ?v0q6) rfl (by kernel_rfl) (by kernel_rfl) (by kernel_rfl) (fun _ _ _ h => h) (Or.inl ⟨by rfl, ?hy0q6⟩) (by assumption) ?rest0q6
      case hy0q6 => (intro w hSw; (try dsimp only at hSw); go_simp <;> with_reducible rfl)
      try simp only [Act.put, List.getElem_toArray, List.getElem_cons_zero, List.setIfInBounds_toArray, List.set_cons_zero, List.set_cons_succ]
      refine wpAnyH_take (i := 1) (v := .agg (ftI (scI cd) cd)) rfl (by kernel_rfl) (by kernel_rfl) (by kernel_rfl) (fun _ _ _ h => h) (yields_ld (by rfl) _ rfl rfl (ftI_ok _ _) (fun _ hSw => hSw)) (by assumption) ?restA
      try simp only [Act.put, List.getElem_toArray, List.getElem_cons_zero, List.getElem_cons_succ, List.setIfInBounds_toArray, List.set_cons_zero, List.set_cons_succ]
      refine wpAnyH_ready (rs := [2]) (by kernel_rfl) (by simp) ?_
      refine AllReadyH.cons rfl (fun K hK => ?_) AllReadyH.nil
      refine step_sw (cs := zpJ) rfl _ _ rfl rfl rfl HP2.out rfl (pc_ok _ _ _ _ _ _ _) ?_
      refine hK.out _ _ (hHeld.setRow' (by omega) _) (fun hHeld => ?_)
      clear hK K
      try simp only [Act.put, List.getElem_toArray, List.getElem_cons_zero, List.getElem_cons_succ]
      refine wpAnyH_ready (rs := [3]) (by kernel_rfl) (by simp) ?_
      refine AllReadyH.cons rfl (fun K hK => ?_) AllReadyH.nil
      refine step_sw (cs := ftI (scI cd) cd) rfl _ _ rfl rfl rfl HT2.out (ftI_sz _ _ _ _) (ftI_ok _ _) ?_
      refine hK.out _ _ (hHeld.setRow' (by omega) _) (fun hHeld => ?_)
      clear hK K
      try simp only [Act.put, List.getElem_toArray, List.getElem_cons_zero, List.getElem_cons_succ]
      refine wpAnyH_take (i := 4) (v := ?v4q7) rfl (by kernel_rfl) (by kernel_rfl) (by kernel_rfl) (fun _ _ _ h => h) (Or.inl ⟨by rfl, ?hy4q7⟩) (by assumption) ?rest4q7
      case hy4q7 => (intro w hSw; (try dsimp only at hSw); go_simp <;> with_reducible rfl)
      try simp only [Act.put, List.getElem_toArray, List.getElem_cons_zero, List.getElem_cons_succ, List.setIfInBounds_toArray, List.set_cons_zero, List.set_cons_succ]
      refine wpAnyH_done (by kernel_rfl) ?_ _
      go_wp2_with fail
      refine bodyPost_ret (retJ3 (fn := Tryd.f12) rfl _ rfl ((HP2.out.setRow _).setRow' (by omega) _) (pc_ok _ _ _ _ _ _ _) rfl (HT2.out.setRow _) (ftI_ok _ _) rfl) rfl ?_
      rw [HNJ.out]
      have hk : Fs (fun k => k = w.heap.size ∨ k = w.heap.size + 1) w5 ((w5.drew.setRow w.heap.size zpJ).setRow (w.heap.size + 1) (ftI (scI cd) cd)) := (((Fs.refl _ w5).drewN 1).setRow (g := w.heap.size) (fun _ => .inl rfl) _).setRow (g := w.heap.size + 1) (fun _ => .inr rfl) _
      refine ⟨none, 0, .slice none 0 0, rfl, RdS.nil, Nat.le_refl _, .inr ⟨rfl, HX1.out.keep (hk.block g HX1.out.row.lt (by omega))⟩, HF1.out.trans hk (fun k hk h => by omega), fun k h => (by cases h)⟩
    · have HNJ := Lib.hid (nj_go hgo)
      have hq2 := getI_J hgo
      have hN2 := whole_J hgo
      have hNl : whJ m l ≤ l.length := hgo.2.2
      have hsh : (hdI m l).short = false := hgo.2.1
      rw [hsh]
      rw [hgo.1] at kf
      have kf0 : wc.cell? ⟨pf, 0, none⟩ = some (.int .u8 0) := kf
      clear hgo hcl kf hsh
      obtain ⟨N, hN⟩ : ∃ N, N = whJ m l := ⟨_, rfl⟩
      rw [← hN] at hq2 hN2 hNl HNJ ⊢
      clear hN
      have hd1 : decide ((l.length : Int) < (N : Int)) = false := decide_eq_false (by omega)
      have hd2 : decide (l.length < N) = false := decide_eq_false (by omega)
      have hd3 : ¬ l.length < N := by omega
      have d0 : wc.cell? ⟨g, 0, none⟩ = some (.slice A l.length c) := H4.out.jg.row.cell rfl
      obtain ⟨i0, hi0, hz0, hz1, hz2⟩ := infoI infoI8
      have hlt : (l.take N).length = N := by rw [List.length_take]; omega
      have hcu := (cut_upto (P := Tryd.prog) Tryd.underlying22 hi0 hz1 (Bo.reads H4.out.jg.own) hc (k := N) hNl).1
      obtain ⟨q, hq⟩ : ∃ q, q = getI m (l.take N) := ⟨_, rfl⟩
      rw [← hq] at hq2 HNJ
      have HGE : Hid (∀ W, NJ w base g (.slice A l.length c) m l W → Calls Tryd.prog 18 #[.slice A N c, .bool m] W (GetN q W)) := fun W hW => by
        have h1 := (cut_upto (P := Tryd.prog) Tryd.underlying22 hi0 hz1 (Bo.reads hW.jg.own) hc (k := N) hNl).2
        have h2 := iget_new (c := c) (m := m) h1 (Nat.le_refl _) (by omega) (by omega) hW.gl
        rw [hlt, ← hq] at h2
        exact h2
      have HQ2 := Lib.hid hq2
      clear hq hlt hq2
      go_upto_region 9 with fail
      clear hd1 hd2 hd3 d0 kf0
      go_cut [8] (fun v8 wx => ∃ pp Ad cd, v8 = .pointer (some ⟨pp, 0, none⟩) ∧ Hid (NJ w base g (.slice A l.length c) m l wx) ∧ Hid (Row wx pf 33 (ftI (scI q.2) q.2)) ∧ Hid (Row wx pp 31 (pcA q.1 Ad cd)) ∧ Hid (RdS wx (fun k => w.heap.size + 2 ≤ k ∧ k < wx.heap.size ∧ k ≠ pp ∧ k ≠ pf) Ad (byc q.1.dat)) ∧ q.1.dat.length ≤ cd ∧ Hid (w.heap.size + 2 ≤ pp ∧ pp ≠ pf))
      case first =>
        have H1 : Hid (NJ w base g (.slice A l.length c) m l wc.drew) := H4.out.drew
        have HV1 : Hid (Row wc.drew pf 33 (ftI (scI (hdI m l).code) (hdI m l).code)) := HV4.out
        have d0 : wc.drew.cell? ⟨g, 0, none⟩ = some (.slice A l.length c) := H1.out.jg.row.cell rfl
        have d1 : wc.drew.cell? ⟨g, 1, none⟩ = some (.bool m) := H1.out.jg.row.cell rfl
        clear H4 HV4 HNJ
        refine wp_region_held_drew (S := fun w' => w'.cell? ⟨g, 0, none⟩ = some (.slice A l.length c) ∧ w'.cell? ⟨g, 1, none⟩ = some (.bool m)) (by kernel_rfl) ⟨d0, d1⟩ (fun hHeld => ?_)
        clear d0 d1
        generalize wc.drew = w3 at *
        refine wpAnyH_take (i := 0) (v := ?v0q8) rfl (by kernel_rfl) (by kernel_rfl) (by kernel_rfl) (fun _ _ _ h => h) (Or.inl ⟨by rfl, ?hy0q8⟩) (by assumption) ?rest0q8
        case hy0q8 => (intro w hSw; (try dsimp only at hSw); go_simp <;> with_reducible rfl)
        try simp only [Act.put, List.getElem_toArray, List.getElem_cons_zero, List.setIfInBounds_toArray, List.set_cons_zero, List.set_cons_succ]
        refine wpAnyH_take (i := 1) (v := ?v1q8) rfl (by kernel_rfl) (by kernel_rfl) (by kernel_rfl) (fun _ _ _ h => h) (Or.inl ⟨by rfl, ?hy1q8⟩) (by assumption) ?rest1q8
        case hy1q8 => (intro w hSw; (try dsimp only at hSw); go_simp <;> with_reducible rfl)
        try simp only [Act.put, List.getElem_toArray, List.getElem_cons_zero, List.getElem_cons_succ, List.setIfInBounds_toArray, List.set_cons_zero, List.set_cons_succ]
        refine wpAnyH_take (i := 2) (v := ?v2q8) rfl (by kernel_rfl) (by kernel_rfl) (by kernel_rfl) (fun _ _ _ h => h) (Or.inl ⟨by rfl, ?hy2q8⟩) (by assumption) ?rest2q8
        case hy2q8 => (intro w hSw; (try dsimp only at hSw); go_simp <;> with_reducible rfl)
        try simp only [Act.put, List.getElem_toArray, List.getElem_cons_zero, List.getElem_cons_succ, List.setIfInBounds_toArray, List.set_cons_zero, List.set_cons_succ]
        refine wpAnyH_take (i := 3) (v := ?v3q8) rfl (by kernel_rfl) (by kernel_rfl) (by kernel_rfl) (fun _ _ _ h => h) (Or.inl ⟨by rfl, ?hy3q8⟩) (by assumption) ?rest3q8
        case hy3q8 => (intro w hSw; (try dsimp only at hSw); go_simp <;> with_reducible rfl)
        try simp only [Act.put, List.getElem_toArray, List.getElem_cons_zero, List.getElem_cons_succ, List.setIfInBounds_toArray, List.set_cons_zero, List.set_cons_succ]
        refine wpAnyH_take (i := 4) (v := ?v4q8) rfl (by kernel_rfl) (by kernel_rfl) (by kernel_rfl) (fun _ _ _ h => h) (Or.inl ⟨by rfl, ?hy4q8⟩) (by assumption) ?rest4q8
        case hy4q8 => (intro w hSw; (try dsimp only at hSw); go_simp <;> with_reducible rfl)
        try simp only [Act.put, List.getElem_toArray, List.getElem_cons_zero, List.getElem_cons_succ, List.setIfInBounds_toArray, List.set_cons_zero, List.set_cons_succ]
        refine wpAnyH_take (i := 5) (v := ?v5q8) rfl (by kernel_rfl) (by kernel_rfl) (by kernel_rfl) (fun _ _ _ h => h) (Or.inl ⟨by rfl, ?hy5q8⟩) (by assumption) ?rest5q8
        case hy5q8 => (intro w hSw; (try dsimp only at hSw); go_simp <;> with_reducible rfl)
        try simp only [Act.put, List.getElem_toArray, List.getElem_cons_zero, List.getElem_cons_succ, List.setIfInBounds_toArray, List.set_cons_zero, List.set_cons_succ]
        refine wpAnyH_take (i := 6) (v := ?v6q8) rfl (by kernel_rfl) (by kernel_rfl) (by kernel_rfl) (fun _ _ _ h => h) (Or.inl ⟨by rfl, ?hy6q8⟩) (by assumption) ?rest6q8
        case hy6q8 => (intro w hSw; (try dsimp only at hSw); go_simp <;> with_reducible rfl)
        try simp only [Act.put, List.getElem_toArray, List.getElem_cons_zero, List.getElem_cons_succ, List.setIfInBounds_toArray, List.set_cons_zero, List.set_cons_succ]
        refine wpAnyH_take (i := 7) (v := ?v7q8) rfl (by kernel_rfl) (by kernel_rfl) (by kernel_rfl) (fun _ _ _ h => h) (Or.inl ⟨by rfl, ?hy7q8⟩) (by assumption) ?rest7q8
        case hy7q8 => (intro w hSw; (try dsimp only at hSw); go_simp <;> with_reducible rfl)
        try simp only [Act.put, List.getElem_toArray, List.getElem_cons_zero, List.getElem_cons_succ, List.setIfInBounds_toArray, List.set_cons_zero, List.set_cons_succ]
        refine wpAnyH_take (i := 8) (v := ?v8q8) rfl (by kernel_rfl) (by kernel_rfl) (by kernel_rfl) (fun _ _ _ h => h) (Or.inl ⟨by rfl, ?hy8q8⟩) (by assumption) ?rest8q8
        case hy8q8 => (intro w hSw; (try dsimp only at hSw); go_simp <;> with_reducible rfl)
        try simp only [Act.put, List.getElem_toArray, List.getElem_cons_zero, List.getElem_cons_succ, List.setIfInBounds_toArray, List.set_cons_zero, List.set_cons_succ]
        refine wpAnyH_take (i := 9) (v := ?v9q8) rfl (by kernel_rfl) (by kernel_rfl) (by kernel_rfl) (fun _ _ _ h => h) (Or.inl ⟨by rfl, ?hy9q8⟩) (by assumption) ?rest9q8
        case hy9q8 => (intro w hSw; (try dsimp only at hSw); go_simp <;> with_reducible rfl)
        try simp only [Act.put, List.getElem_toArray, List.getElem_cons_zero, List.getElem_cons_succ, List.setIfInBounds_toArray, List.set_cons_zero, List.set_cons_succ]
        refine wpAnyH_ready (rs := [10, 14]) (by kernel_rfl) (by simp) ?_
        refine AllReadyH.cons rfl (fun K hK => ?_) (AllReadyH.cons rfl (fun K hK => ?_) AllReadyH.nil)
        · go_simp
          go_at_call 18
          refine (HGE.out _ H1.out).mono ?_
          rintro e w4 ⟨Ad, cd, rfl, hd4, hcd, hb4⟩
          have H4 := Lib.hid (H1.out.below hb4)
          have HV4 := Lib.hid (HV1.out.below hb4 HV1.out.lt)
          have HS4 := Lib.hid hb4.size
          have HD4 := Lib.hid hd4
          have HZ4 : Hid (w.heap.size + 2 ≤ w3.heap.size ∧ pf < w3.heap.size) := ⟨H1.out.rt.lt, HV1.out.lt⟩
          clear hd4 hb4 H1 HV1 hHeld HGE
          refine hK.out _ _ (⟨H4.out.jg.row.cell rfl, H4.out.jg.row.cell rfl⟩) (fun hHeld => ?_)
          clear hK K
          try simp only [Act.put, List.getElem_toArray, List.getElem_cons_zero, List.getElem_cons_succ, List.setIfInBounds_toArray, List.set_cons_zero, List.set_cons_succ]
          refine wpAnyH_take (i := 11) (v := ?v11q9) rfl (by kernel_rfl) (by kernel_rfl) (by kernel_rfl) (fun _ _ _ h => h) (Or.inl ⟨by rfl, ?hy11q9⟩) (by assumption) ?rest11q9
          case hy11q9 => (intro w hSw; (try dsimp only at hSw); go_simp <;> with_reducible rfl)
          try simp only [Act.put, List.getElem_toArray, List.getElem_cons_zero, List.getElem_cons_succ, List.setIfInBounds_toArray, List.set_cons_zero, List.set_cons_succ]
          refine wpAnyH_take (i := 12) (v := ?v12q9) rfl (by kernel_rfl) (by kernel_rfl) (by kernel_rfl) (fun _ _ _ h => h) (Or.inl ⟨by rfl, ?hy12q9⟩) (by assumption) ?rest12q9
          case hy12q9 => (intro w hSw; (try dsimp only at hSw); go_simp <;> with_reducible rfl)
          try simp only [Act.put, List.getElem_toArray, List.getElem_cons_zero, List.getElem_cons_succ, List.setIfInBounds_toArray, List.set_cons_zero, List.set_cons_succ]
          refine wpAnyH_take (i := 13) (v := ?v13q9) rfl (by kernel_rfl) (by kernel_rfl) (by kernel_rfl) (fun _ _ _ h => h) (Or.inl ⟨by rfl, ?hy13q9⟩) (by assumption) ?rest13q9
          case hy13q9 => (intro w hSw; (try dsimp only at hSw); go_simp <;> with_reducible rfl)
          try simp only [Act.put, List.getElem_toArray, List.getElem_cons_zero, List.getElem_cons_succ, List.setIfInBounds_toArray, List.set_cons_zero, List.set_cons_succ]
          refine wpAnyH_ready (rs := [14]) (by kernel_rfl) (by simp) ?_
          refine AllReadyH.cons rfl (fun K hK => ?_) AllReadyH.nil
          go_simp
          have hb5 : Below w4.heap.size w4 (w4.alloc (.cells #[.bool false, .int .u8 0, .bool false, .int .u32 0, .slice none 0 0] 31)) := (Below.refl _ _).alloc (Nat.le_refl _) _
          have H5 := Lib.hid (H4.out.below hb5)
          have HV5 := Lib.hid (HV4.out.below hb5 HV4.out.lt)
          have HP5 : Hid (Row (w4.alloc (.cells #[.bool false, .int .u8 0, .bool false, .int .u32 0, .slice none 0 0] 31)) w4.heap.size 31 zpJ) := Row.new w4 _ _
          have HD5 : Hid (RdS (w4.alloc (.cells #[.bool false, .int .u8 0, .bool false, .int .u32 0, .slice none 0 0] 31)) (fun k => w.heap.size + 2 ≤ k ∧ k < (w4.alloc (.cells #[.bool false, .int .u8 0, .bool false, .int .u32 0, .slice none 0 0] 31)).heap.size ∧ k ≠ w4.heap.size ∧ k ≠ pf) Ad (byc q.1.dat)) := (HD4.out.keep fun k hk => hb5.block k hk.2).imp fun k hk hl => ⟨by have := HZ4.out; omega, hl, by omega, by have := HZ4.out; omega⟩
          have HPP : Hid (w.heap.size + 2 ≤ w4.heap.size ∧ w4.heap.size ≠ pf) := ⟨by have := HZ4.out; have := HS4.out; omega, by have := HZ4.out; have := HS4.out; omega⟩
          clear hb5 H4 HV4 HD4 HS4 HZ4
          generalize w4.alloc (.cells #[.bool false, .int .u8 0, .bool false, .int .u32 0, .slice none 0 0] 31) = w5 at *
          generalize w4.heap.size = pp at *
          refine hK.out _ _ (⟨H5.out.jg.row.cell rfl, H5.out.jg.row.cell rfl⟩) (fun hHeld => ?_)
          clear hK K
          try simp only [Act.put, List.getElem_toArray, List.getElem_cons_zero, List.getElem_cons_succ, List.setIfInBounds_toArray, List.set_cons_zero, List.set_cons_succ]
          refine wpAnyH_ready (rs := [15]) (by kernel_rfl) (by simp) ?_
          refine AllReadyH.cons rfl (fun K hK => ?_) AllReadyH.nil
          refine step_sw (cs := pcA q.1 Ad cd) rfl _ _ rfl rfl rfl HP5.out rfl (pc_ok _ _ _ _ _ _ _) ?_
          have H6 := Lib.hid (H5.out.far (pcA q.1 Ad cd) HPP.out.1)
          have HV6 := Lib.hid (HV5.out.setRow' (k := pp) HPP.out.2.symm (pcA q.1 Ad cd))
          have HP6 := Lib.hid (HP5.out.setRow (pcA q.1 Ad cd))
          have HD6 := Lib.hid (rds_far HD5.out (pp := pp) (fun k hk => hk.2.2.1) (pcA q.1 Ad cd))
          refine hK.out _ _ (⟨H6.out.jg.row.cell rfl, H6.out.jg.row.cell rfl⟩) (fun hHeld => ?_)
          clear hK K
          try simp only [Act.put, List.getElem_toArray, List.getElem_cons_zero, List.getElem_cons_succ]
          refine wpAnyH_ready (rs := [16]) (by kernel_rfl) (by simp) ?_
          refine AllReadyH.cons rfl (fun K hK => ?_) AllReadyH.nil
          refine step_sw (cs := ftI (scI q.2) q.2) rfl _ _ rfl rfl rfl HV6.out (ftI_sz _ _ _ _) (ftI_ok _ _) ?_
          have H7 := Lib.hid (H6.out.far (ftI (scI q.2) q.2) HP.out)
          have HV7 := Lib.hid (HV6.out.setRow (ftI (scI q.2) q.2))
          have HP7 := Lib.hid (HP6.out.setRow' (k := pf) HPP.out.2 (ftI (scI q.2) q.2))
          have HD7 := Lib.hid (rds_far HD6.out (pp := pf) (fun k hk => hk.2.2.2) (ftI (scI q.2) q.2))
          refine hK.out _ _ (⟨H7.out.jg.row.cell rfl, H7.out.jg.row.cell rfl⟩) (fun hHeld => ?_)
          clear hK K
          try simp only [Act.put, List.getElem_toArray, List.getElem_cons_zero, List.getElem_cons_succ]
          refine wpAnyH_done (by kernel_rfl) ?_ _
          go_wp2_with fail
          go_meet
          exact ⟨pp, Ad, cd, rfl, H7, HV7, HP7, HD7.out.imp fun k hk _ => ⟨hk.1, by simpa using hk.2.1, hk.2.2⟩, hcd, HPP⟩
        · go_simp
          have hb5 : Below w3.heap.size w3 (w3.alloc (.cells #[.bool false, .int .u8 0, .bool false, .int .u32 0, .slice none 0 0] 31)) := (Below.refl _ _).alloc (Nat.le_refl _) _
          have H5 := Lib.hid (H1.out.below hb5)
          have HV5 := Lib.hid (HV1.out.below hb5 HV1.out.lt)
          have HP5 : Hid (Row (w3.alloc (.cells #[.bool false, .int .u8 0, .bool false, .int .u32 0, .slice none 0 0] 31)) w3.heap.size 31 zpJ) := Row.new w3 _ _
          have HPP : Hid (w.heap.size + 2 ≤ w3.heap.size ∧ w3.heap.size ≠ pf) := ⟨H1.out.rt.lt, by have := HV1.out.lt; omega⟩
          clear hb5 H1 HV1 hHeld
          generalize w3.alloc (.cells #[.bool false, .int .u8 0, .bool false, .int .u32 0, .slice none 0 0] 31) = w5 at *
          generalize w3.heap.size = pp at *
          refine hK.out _ _ (⟨H5.out.jg.row.cell rfl, H5.out.jg.row.cell rfl⟩) (fun hHeld => ?_)
          clear hK K
          try simp only [Act.put, List.getElem_toArray, List.getElem_cons_zero, List.getElem_cons_succ, List.setIfInBounds_toArray, List.set_cons_zero, List.set_cons_succ]
          refine wpAnyH_ready (rs := [10]) (by kernel_rfl) (by simp) ?_
          refine AllReadyH.cons rfl (fun K hK => ?_) AllReadyH.nil
          go_simp
          go_at_call 18
          refine (HGE.out _ H5.out).mono ?_
          rintro e w4 ⟨Ad, cd, rfl, hd4, hcd, hb4⟩
          have H6 := Lib.hid (H5.out.below hb4)
          have HV6 := Lib.hid (HV5.out.below hb4 HV5.out.lt)
          have HP6 := Lib.hid (HP5.out.below hb4 HP5.out.lt)
          have hp5 := HP5.out.lt
          have hv5 := HV5.out.lt
          have hr5 := H5.out.rt.lt
          have HD6 : Hid (RdS w4 (fun k => w.heap.size + 2 ≤ k ∧ k < w4.heap.size ∧ k ≠ pp ∧ k ≠ pf) Ad (byc q.1.dat)) := hd4.imp fun k hk hl => ⟨by omega, hl, by omega, by omega⟩
          clear hd4 hb4 H5 HV5 HP5 hHeld HGE hp5 hv5 hr5
          refine hK.out _ _ (⟨H6.out.jg.row.cell rfl, H6.out.jg.row.cell rfl⟩) (fun hHeld => ?_)
          clear hK K
          try simp only [Act.put, List.getElem_toArray, List.getElem_cons_zero, List.getElem_cons_succ, List.setIfInBounds_toArray, List.set_cons_zero, List.set_cons_succ]
          refine wpAnyH_take (i := 11) (v := ?v11q10) rfl (by kernel_rfl) (by kernel_rfl) (by kernel_rfl) (fun _ _ _ h => h) (Or.inl ⟨by rfl, ?hy11q10⟩) (by assumption) ?rest11q10
          case hy11q10 => (intro w hSw; (try dsimp only at hSw); go_simp <;> with_reducible rfl)
          try simp only [Act.put, List.getElem_toArray, List.getElem_cons_zero, List.getElem_cons_succ, List.setIfInBounds_toArray, List.set_cons_zero, List.set_cons_succ]
          refine wpAnyH_take (i := 12) (v := ?v12q10) rfl (by kernel_rfl) (by kernel_rfl) (by kernel_rfl) (fun _ _ _ h => h) (Or.inl ⟨by rfl, ?hy12q10⟩) (by assumption) ?rest12q10
          case hy12q10 => (intro w hSw; (try dsimp only at hSw); go_simp <;> with_reducible rfl)
          try simp only [Act.put, List.getElem_toArray, List.getElem_cons_zero, List.getElem_cons_succ, List.setIfInBounds_toArray, List.set_cons_zero, List.set_cons_succ]
          refine wpAnyH_take (i := 13) (v := ?v13q10) rfl (by kernel_rfl) (by kernel_rfl) (by kernel_rfl) (fun _ _ _ h => h) (Or.inl ⟨by rfl, ?hy13q10⟩) (by assumption) ?rest13q10
          case hy13q10 => (intro w hSw; (try dsimp only at hSw); go_simp <;> with_reducible rfl)
          try simp only [Act.put, List.getElem_toArray, List.getElem_cons_zero, List.getElem_cons_succ, List.setIfInBounds_toArray, List.set_cons_zero, List.set_cons_succ]
          refine wpAnyH_ready (rs := [15]) (by kernel_rfl) (by simp) ?_
          refine AllReadyH.cons rfl (fun K hK => ?_) AllReadyH.nil
          refine step_sw (cs := pcA q.1 Ad cd) rfl _ _ rfl rfl rfl HP6.out rfl (pc_ok _ _ _ _ _ _ _) ?_
          have H7 := Lib.hid (H6.out.far (pcA q.1 Ad cd) HPP.out.1)
          have HV7 := Lib.hid (HV6.out.setRow' (k := pp) HPP.out.2.symm (pcA q.1 Ad cd))
          have HP7 := Lib.hid (HP6.out.setRow (pcA q.1 Ad cd))
          have HD7 := Lib.hid (rds_far HD6.out (pp := pp) (fun k hk => hk.2.2.1) (pcA q.1 Ad cd))
          refine hK.out _ _ (⟨H7.out.jg.row.cell rfl, H7.out.jg.row.cell rfl⟩) (fun hHeld => ?_)
          clear hK K
          try simp only [Act.put, List.getElem_toArray, List.getElem_cons_zero, List.getElem_cons_succ]
          refine wpAnyH_ready (rs := [16]) (by kernel_rfl) (by simp) ?_
          refine AllReadyH.cons rfl (fun K hK => ?_) AllReadyH.nil
          refine step_sw (cs := ftI (scI q.2) q.2) rfl _ _ rfl rfl rfl HV7.out (ftI_sz _ _ _ _) (ftI_ok _ _) ?_
          have H8 := Lib.hid (H7.out.far (ftI (scI q.2) q.2) HP.out)
          have HV8 := Lib.hid (HV7.out.setRow (ftI (scI q.2) q.2))
          have HP8 := Lib.hid (HP7.out.setRow' (k := pf) HPP.out.2 (ftI (scI q.2) q.2))
          have HD8 := Lib.hid (rds_far HD7.out (pp := pf) (fun k hk => hk.2.2.2) (ftI (scI q.2) q.2))
          refine hK.out _ _ (⟨H8.out.jg.row.cell rfl, H8.out.jg.row.cell rfl⟩) (fun hHeld => ?_)
          clear hK K
          try simp only [Act.put, List.getElem_toArray, List.getElem_cons_zero, List.getElem_cons_succ]
          refine wpAnyH_done (by kernel_rfl) ?_ _
          go_wp2_with fail
          go_meet
          exact ⟨pp, Ad, cd, rfl, H8, HV8, HP8, HD8.out.imp fun k hk _ => ⟨hk.1, by simpa using hk.2.1, hk.2.2⟩, hcd, HPP⟩
      case rest =>
        obtain ⟨pp, Ad, cd, rfl, H5, HV5, HP5, HD5, hcd, HPP⟩ := hcut
        clear H4 HV4 HGE hcu
        obtain ⟨i0, hi0, hz0, hz1, hz2⟩ := infoI infoI8
        obtain ⟨A6, hcut6, hO6, hob⟩ := run_tail (P := Tryd.prog) wc base 22 5 i0 1 Tryd.underlying22 hi0 hz1 H5.out.jg.own N hNl
        have hO6 : Bo wc base 5 (.slice A6 (l.length - N) (c - N)) (l.drop N) := by
          show OwS _ _ _ _ _ _ _
          rw [List.length_drop]
          have h1 : (byc l).drop (N * 1) = byc (l.drop N) := by rw [Nat.mul_one]; unfold byc; rw [List.map_drop]
          rw [← h1]
          exact hO6
        have d0 : wc.cell? ⟨g, 0, none⟩ = some (.slice A l.length c) := H5.out.jg.row.cell rfl
        have ht := H5.out.jg.row.thawed 0
        have hgl := H5.out.lt
        have hnob : ¬ ob (.slice A6 (l.length - N) (c - N)) g := fun hk => H5.out.jg.far (by unfold ob at hk ⊢; rw [← hob]; exact hk)
        have HOB : Hid (∀ k, ob (.slice A6 (l.length - N) (c - N)) k → ob (.slice A l.length c) k) := fun k hk => by unfold ob at hk ⊢; rw [← hob]; exact hk
        have HJ6 : Hid (JG (wc.setCell ⟨g, 0, none⟩ (.slice A6 (l.length - N) (c - N))) base g (.slice A6 (l.length - N) (c - N)) m (l.drop N)) := ⟨H5.out.jg.row.stored 0 _, OwS.setCell hO6 (a := ⟨g, 0, none⟩) hnob _, by rw [List.length_drop]; omega, H5.out.jg.lo⟩
        have HF6 : Hid (Fs (jvS g (.slice A l.length c)) w (wc.setCell ⟨g, 0, none⟩ (.slice A6 (l.length - N) (c - N)))) := H5.out.fs.setCell (g := g) (fun _ => .inl rfl) 0 _
        have hn6 : ∀ k, k ≠ g → (wc.setCell ⟨g, 0, none⟩ (.slice A6 (l.length - N) (c - N))).heap[k]? = wc.heap[k]? := fun k hk => Below.heap_setCell wc _ _ k hk
        have hp5 := H5.out.rt.lt
        have hpp := HPP.out
        have hpf := HP.out
        have HP6 := Lib.hid (H5.out.rp.keepJ (hn6 w.heap.size (by omega)))
        have HT6 := Lib.hid (H5.out.rt.keepJ (hn6 (w.heap.size + 1) (by omega)))
        have HV6 := Lib.hid (HV5.out.keepJ (hn6 pf (by omega)))
        have HQ6 := Lib.hid (HP5.out.keepJ (hn6 pp (by omega)))
        have HD6 : Hid (RdS (wc.setCell ⟨g, 0, none⟩ (.slice A6 (l.length - N) (c - N))) (fun k => w.heap.size + 2 ≤ k ∧ k < (wc.setCell ⟨g, 0, none⟩ (.slice A6 (l.length - N) (c - N))).heap.size) Ad (byc q.1.dat)) := (HD5.out.keep fun k hk => hn6 k (by omega)).imp fun k hk _ => ⟨hk.1, by simpa [World.setCell] using hk.2.1⟩
        have HLT : Hid (l.length - N ≤ l.length) := Nat.sub_le _ _
        clear hO6 hob hnob hn6 hp5 hpp hpf HP5 HV5 HD5
        go_upto_region 11 with fail
        clear d0 ht hcut6 H5
        generalize wc.setCell ⟨g, 0, none⟩ (.slice A6 (l.length - N) (c - N)) = w6 at *
        have HP7 : Hid (Row w6.drew w.heap.size 31 zpJ) := HP6.out
        have hp := HP.out
        have hpp := HPP.out
        have HT7 : Hid (Row (w6.drew.setRow w.heap.size (pcA q.1 Ad cd)) (w.heap.size + 1) 33 (ftI 0 0)) := Row.setRow' (show Row w6.drew _ _ _ from HT6.out) (by omega) _
        have hV7 : Row w6.drew pf 33 (ftI (scI q.2) q.2) := HV6.out
        have hQ7 : Row w6.drew pp 31 (pcA q.1 Ad cd) := HQ6.out
        refine wp_region_held_drew (S := fun w' => Row w' pp 31 (pcA q.1 Ad cd) ∧ Row w' pf 33 (ftI (scI q.2) q.2)) (by kernel_rfl) ⟨hQ7, hV7⟩ (fun hHeld => ?_)
        refine wpAnyH_take (i := 0) (v := .agg (pcA q.1 Ad cd)) rfl (by kernel_rfl) (by kernel_rfl) (by kernel_rfl) (fun _ _ _ h => h) (yields_ld (by rfl) _ rfl rfl (pc_ok _ _ _ _ _ _ _) (fun _ hSw => hSw.1)) (by assumption) ?restC
        try simp only [Act.put, List.getElem_toArray, List.getElem_cons_zero, List.setIfInBounds_toArray, List.set_cons_zero, List.set_cons_succ]
        refine wpAnyH_take (i := 1) (v := .agg (ftI (scI q.2) q.2)) rfl (by kernel_rfl) (by kernel_rfl) (by kernel_rfl) (fun _ _ _ h => h) (yields_ld (by rfl) _ rfl rfl (ftI_ok _ _) (fun _ hSw => hSw.2)) (by assumption) ?restB
        try simp only [Act.put, List.getElem_toArray, List.getElem_cons_zero, List.getElem_cons_succ, List.setIfInBounds_toArray, List.set_cons_zero, List.set_cons_succ]
        refine wpAnyH_ready (rs := [2]) (by kernel_rfl) (by simp) ?_
        refine AllReadyH.cons rfl (fun K hK => ?_) AllReadyH.nil
        refine step_sw (cs := pcA q.1 Ad cd) rfl _ _ rfl rfl rfl HP7.out rfl (pc_ok _ _ _ _ _ _ _) ?_
        refine hK.out _ _ (⟨hHeld.1.setRow' (by omega) _, hHeld.2.setRow' (by omega) _⟩) (fun hHeld => ?_)
        clear hK K
        try simp only [Act.put, List.getElem_toArray, List.getElem_cons_zero, List.getElem_cons_succ]
        refine wpAnyH_ready (rs := [3]) (by kernel_rfl) (by simp) ?_
        refine AllReadyH.cons rfl (fun K hK => ?_) AllReadyH.nil
        refine step_sw (cs := ftI (scI q.2) q.2) rfl _ _ rfl rfl rfl HT7.out (ftI_sz _ _ _ _) (ftI_ok _ _) ?_
        refine hK.out _ _ (⟨hHeld.1.setRow' (by omega) _, hHeld.2.setRow' (by omega) _⟩) (fun hHeld => ?_)
        clear hK K
        try simp only [Act.put, List.getElem_toArray, List.getElem_cons_zero, List.getElem_cons_succ]
        refine wpAnyH_take (i := 4) (v := ?v4q11) rfl (by kernel_rfl) (by kernel_rfl) (by kernel_rfl) (fun _ _ _ h => h) (Or.inl ⟨by rfl, ?hy4q11⟩) (by assumption) ?rest4q11
        case hy4q11 => (intro w hSw; (try dsimp only at hSw); go_simp <;> with_reducible rfl)
        try simp only [Act.put, List.getElem_toArray, List.getElem_cons_zero, List.getElem_cons_succ, List.setIfInBounds_toArray, List.set_cons_zero, List.set_cons_succ]
        refine wpAnyH_done (by kernel_rfl) ?_ _
        go_wp2_with fail
        refine bodyPost_ret (retJ3 (fn := Tryd.f12) rfl _ rfl ((HP7.out.setRow _).setRow' (by omega) _) (pc_ok _ _ _ _ _ _ _) rfl (HT7.out.setRow _) (ftI_ok _ _) rfl) rfl ?_
        rw [HNJ.out]
        have hk : Fs (fun k => k = w.heap.size ∨ k = w.heap.size + 1) w6 ((w6.drew.setRow w.heap.size (pcA q.1 Ad cd)).setRow (w.heap.size + 1) (ftI (scI q.2) q.2)) := (((Fs.refl _ w6).drewN 1).setRow (g := w.heap.size) (fun _ => .inl rfl) _).setRow (g := w.heap.size + 1) (fun _ => .inr rfl) _
        refine ⟨Ad, cd, _, rfl, (hk.reads HD6.out fun k h => ⟨h.2, by omega⟩).imp fun k h hl => ⟨by omega, hl⟩, hcd, .inl ⟨rfl, HJ6.out.keep (hk.block g HJ6.out.row.lt (by omega)) fun k h => hk.block k (HJ6.out.lts.2 k h).2 (by have := hgl.2 k (HOB.out k h); omega)⟩, HF6.out.trans hk (fun k hk h => by omega), HOB.out⟩
theorem jnext_any {w : World} {base g : Nat} {v : Value} {m bad : Bool} {l : List UInt8} (h : Sj w base g v m l bad) (hG : GlobE w) : Calls Tryd.prog 12 #[.pointer (some ⟨g, 0, none⟩)] w (NxJ w base g v m (njN m l bad)) := by
  cases bad with
  | true => exact jnext_bad h
  | false =>
    rcases h with ⟨_, h⟩ | ⟨h0, _⟩
    · obtain ⟨A, c, rfl, hc⟩ := Bo.shape h.own
      exact jnext_good h hc hG
    · cases h0
end Go.Proofs.YtejlbgllfkfkfaaDoor
