/-
  The document's Same of two rows of frames that read the same, by its contract. Conditions: both are read.
-/
import Derived.Test.YtejlbgllfkfkfaaDoorJpl
import Derived.Test.YtejlbgllfkfkfaaDoorIsa
namespace Go.Proofs.YtejlbgllfkfkfaaDoor
open Go.RowKit Go.WideShapes

/-- Element number k of a slice, in memory. -/
theorem pe_at {w : World} {R : Nat → Prop} {A : Option Addr} {L : List Pe} (h : RdS w R A (enl Pe.cs L)) {k : Nat} (hk : k < L.length) : ∃ g p, A = some ⟨g, p, none⟩ ∧ R g ∧ w.rangeAt g (p + k * 5) (pcA L[k].p L[k].A L[k].c).toList := by
  have hl := enl_length pe_len L
  obtain ⟨g, p, e, hg, hc⟩ := h (by intro e; rw [e] at hl; simp at hl; omega)
  refine ⟨g, p, e, hg, fun j v hv => ?_⟩
  have hj : j < 5 := (List.getElem?_eq_some_iff.1 hv).1
  have := hc (k * 5 + j) v (by rw [enl_at pe_len hk hj]; exact hv)
  rwa [show p + (k * 5 + j) = p + k * 5 + j by omega] at this
set_option maxRecDepth 100000 in
set_option maxHeartbeats 8000000 in
theorem sameJ_any {La Lb : List Pe} (hrd : La.map Pe.p = Lb.map Pe.p) {A B : Option Addr} {ca cb : Nat} {w : World} (ha : RdS w (· < w.heap.size) A (enl Pe.cs La)) (hb : RdS w (· < w.heap.size) B (enl Pe.cs Lb))
    (hia : ∀ e ∈ La, RdS w (· < w.heap.size) e.A (byc e.p.dat)) (hib : ∀ e ∈ Lb, RdS w (· < w.heap.size) e.A (byc e.p.dat)) (hn : La.length ≤ 1000000) :
    Calls Tryd.prog 14 #[.slice A La.length ca, .slice B Lb.length cb] w fun e w' => e = .returned (.bool true) ∧ Below w.heap.size w w' := by
  have hlen : Lb.length = La.length := by
    have := congrArg List.length hrd
    simpa using this.symm
  rw [hlen]
  have HK : Hid (∀ k, k < La.length → ∃ g p g' p' q dA dc eA ec, A = some ⟨g, p, none⟩ ∧ B = some ⟨g', p', none⟩ ∧ g < w.heap.size ∧ g' < w.heap.size ∧
      w.rangeAt g (p + k * 5) (pcA q dA dc).toList ∧ w.rangeAt g' (p' + k * 5) (pcA q eA ec).toList ∧ RdB w w.heap.size dA q.dat ∧ RdB w w.heap.size eA q.dat) := fun k hk => by
    have hk' : k < Lb.length := by omega
    obtain ⟨g, p, e1, hg, r1⟩ := pe_at ha hk
    obtain ⟨g', p', e2, hg', r2⟩ := pe_at hb hk'
    have hq : La[k].p = Lb[k].p := by
      have h1 : (La.map Pe.p)[k]? = (Lb.map Pe.p)[k]? := by rw [hrd]
      rw [List.getElem?_map, List.getElem?_map, List.getElem?_eq_getElem hk, List.getElem?_eq_getElem hk'] at h1
      exact Option.some.inj h1
    have i1 := hia _ (List.getElem_mem hk)
    have i2 := hib _ (List.getElem_mem hk')
    rw [← hq] at r2 i2
    exact ⟨g, p, g', p', La[k].p, _, _, _, _, e1, e2, hg, hg', r1, r2, RdB.ofS i1 fun _ h _ => h, RdB.ofS i2 fun _ h _ => h⟩
  clear ha hb hia hib hrd hlen
  generalize La.length = n at *
  go_enter Tryd.func14, Tryd.ntmps14
  go_wp2_with fail
  go_loopw [13] (fun i wr => ∃ k : Nat, k ≤ n ∧ i = .int .i64 k ∧ Hid (Below w.heap.size w wr)) (fun i _ => n - (intOf i).toNat)
  case atStart => exact ⟨0, Nat.zero_le _, rfl, Below.refl _ _⟩
  case round =>
    obtain ⟨k, hk, rfl, hB⟩ := hrel
    by_cases hlt : k < n
    · obtain ⟨g, p, g', p', q, dA, dc, eA, ec, rfl, rfl, hg, hg', r1, r2, i1, i2⟩ := HK.out k hlt
      have hkn : (k : Int) < (n : Int) := by omega
      have keep : ∀ W : World, Below w.heap.size w W → W.rangeAt g (p + k * 5) (pcA q dA dc).toList ∧ W.rangeAt g' (p' + k * 5) (pcA q eA ec).toList := fun W hW =>
        ⟨fun j v hv => (hW.cell (p := ⟨g, p + k * 5 + j, none⟩) hg).trans (r1 j v hv), fun j v hv => (hW.cell (p := ⟨g', p' + k * 5 + j, none⟩) hg').trans (r2 j v hv)⟩
      have HKp := Lib.hid keep
      have HI := Lib.hid (And.intro i1 i2)
      have hB1 : Hid (Below w.heap.size w wr.drew) := hB.out.drew
      have hk0 := keep _ hB1.out
      clear keep r1 r2 i1 i2
      go_wp2_with fail
      refine wp_region_held_drew (S := fun W => W.rangeAt g (p + k * 5) (pcA q dA dc).toList ∧ W.rangeAt g' (p' + k * 5) (pcA q eA ec).toList) (by kernel_rfl) hk0 (fun hHeld => ?_)
      clear hk0
      refine wpAnyH_take (i := 0) (v := ?v0) rfl (by kernel_rfl) (by kernel_rfl) (by kernel_rfl) (fun _ _ _ h => h) (Or.inl ⟨by rfl, ?hy0⟩) (by assumption) ?rest0
      case hy0 => (intro w hSw; (try dsimp only at hSw); go_simp <;> with_reducible rfl)
      try simp only [Act.put, List.getElem_toArray, List.getElem_cons_zero, List.setIfInBounds_toArray, List.set_cons_zero, List.set_cons_succ]
      refine wpAnyH_take (i := 1) (v := ?v1) rfl (by kernel_rfl) (by kernel_rfl) (by kernel_rfl) (fun _ _ _ h => h) (Or.inl ⟨by rfl, ?hy1⟩) (by assumption) ?rest1
      case hy1 => (intro w hSw; (try dsimp only at hSw); go_simp <;> with_reducible rfl)
      try simp only [Act.put, List.getElem_toArray, List.getElem_cons_zero, List.getElem_cons_succ, List.setIfInBounds_toArray, List.set_cons_zero, List.set_cons_succ]
      refine wpAnyH_take (i := 2) (v := ?v2) rfl (by kernel_rfl) (by kernel_rfl) (by kernel_rfl) (fun _ _ _ h => h) (Or.inl ⟨by rfl, ?hy2⟩) (by assumption) ?rest2
      case hy2 => (intro w hSw; (try dsimp only at hSw); go_simp <;> with_reducible rfl)
      try simp only [Act.put, List.getElem_toArray, List.getElem_cons_zero, List.getElem_cons_succ, List.setIfInBounds_toArray, List.set_cons_zero, List.set_cons_succ]
      refine wpAnyH_take (i := 3) (v := .agg (pcA q dA dc)) rfl (by kernel_rfl) (by kernel_rfl) (by kernel_rfl) (fun _ _ _ h => h) (yields_ldm (by rfl) _ rfl rfl (pcA_ok _ _ _) (fun _ hSw => hSw.1)) (by assumption) ?restA
      try simp only [Act.put, List.getElem_toArray, List.getElem_cons_zero, List.getElem_cons_succ, List.setIfInBounds_toArray, List.set_cons_zero, List.set_cons_succ]
      refine wpAnyH_take (i := 4) (v := ?v4q1) rfl (by kernel_rfl) (by kernel_rfl) (by kernel_rfl) (fun _ _ _ h => h) (Or.inl ⟨by rfl, ?hy4q1⟩) (by assumption) ?rest4q1
      case hy4q1 => (intro w hSw; (try dsimp only at hSw); go_simp <;> with_reducible rfl)
      try simp only [Act.put, List.getElem_toArray, List.getElem_cons_zero, List.getElem_cons_succ, List.setIfInBounds_toArray, List.set_cons_zero, List.set_cons_succ]
      refine wpAnyH_take (i := 5) (v := ?v5q1) rfl (by kernel_rfl) (by kernel_rfl) (by kernel_rfl) (fun _ _ _ h => h) (Or.inl ⟨by rfl, ?hy5q1⟩) (by assumption) ?rest5q1
      case hy5q1 => (intro w hSw; (try dsimp only at hSw); go_simp <;> with_reducible rfl)
      try simp only [Act.put, List.getElem_toArray, List.getElem_cons_zero, List.getElem_cons_succ, List.setIfInBounds_toArray, List.set_cons_zero, List.set_cons_succ]
      refine wpAnyH_take (i := 6) (v := ?v6q1) rfl (by kernel_rfl) (by kernel_rfl) (by kernel_rfl) (fun _ _ _ h => h) (Or.inl ⟨by rfl, ?hy6q1⟩) (by assumption) ?rest6q1
      case hy6q1 => (intro w hSw; (try dsimp only at hSw); go_simp <;> with_reducible rfl)
      try simp only [Act.put, List.getElem_toArray, List.getElem_cons_zero, List.getElem_cons_succ, List.setIfInBounds_toArray, List.set_cons_zero, List.set_cons_succ]
      refine wpAnyH_take (i := 7) (v := .agg (pcA q eA ec)) rfl (by kernel_rfl) (by kernel_rfl) (by kernel_rfl) (fun _ _ _ h => h) (yields_ldm (by rfl) _ rfl rfl (pcA_ok _ _ _) (fun _ hSw => hSw.2)) (by assumption) ?restB
      try simp only [Act.put, List.getElem_toArray, List.getElem_cons_zero, List.getElem_cons_succ, List.setIfInBounds_toArray, List.set_cons_zero, List.set_cons_succ]
      refine wpAnyH_ready (rs := [8]) (by kernel_rfl) (by simp) ?_
      refine AllReadyH.cons rfl (fun K hK => ?_) AllReadyH.nil
      go_simp
      go_at_call 21
      refine (rsameI_any q.fin q.op q.mask q.key q.dat (c := dc) (c' := ec) (HI.out.1.below hB1.out) (HI.out.2.below hB1.out) hB1.out.size).mono ?_
      rintro e w3 ⟨rfl, hb3⟩
      have hB3 := Lib.hid (hB1.out.trans (hb3.mono hB1.out.size))
      have hk3 := HKp.out _ hB3.out
      refine hK.out _ _ hk3 (fun hHeld => ?_)
      clear hK K hk3 hb3
      try simp only [Act.put, List.getElem_toArray, List.getElem_cons_zero, List.getElem_cons_succ, List.setIfInBounds_toArray, List.set_cons_zero, List.set_cons_succ]
      refine wpAnyH_take (i := 9) (v := ?v9q2) rfl (by kernel_rfl) (by kernel_rfl) (by kernel_rfl) (fun _ _ _ h => h) (Or.inl ⟨by rfl, ?hy9q2⟩) (by assumption) ?rest9q2
      case hy9q2 => (intro w hSw; (try dsimp only at hSw); go_simp <;> with_reducible rfl)
      try simp only [Act.put, List.getElem_toArray, List.getElem_cons_zero, List.getElem_cons_succ, List.setIfInBounds_toArray, List.set_cons_zero, List.set_cons_succ]
      refine wpAnyH_done (by kernel_rfl) ?_ _
      clear hHeld
      go_wp2_with fail
      go_roundw
      case rel => exact ⟨k + 1, by omega, rfl, hB3⟩
      case measure => first | omega | (simp; omega) | (simp [intOf]; omega)
    · obtain rfl : k = n := by omega
      go_wp2_with fail
      go_ret
      exact ⟨rfl, hB.out⟩
end Go.Proofs.YtejlbgllfkfkfaaDoor
