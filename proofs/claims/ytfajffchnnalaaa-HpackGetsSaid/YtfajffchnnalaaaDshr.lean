/-
  The program's shrink, by its contract: the oldest fields go. Conditions: each field of fewer than 2^31 bytes, all of fewer than 2^40.
-/
import Derived.Test.YtfajffchnnalaaaDtab
import Derived.Test.YtfajffchnnalaaaLast
namespace Go.Proofs.Ytfajffchnnalaaa
open Go.RowKit Go.WideShapes

theorem tfield_info : (Try.prog.info? 52).map (fun i => (i.zero, i.size, i.bytes)) = some (some (.agg #[.string ⟨#[]⟩, .string ⟨#[]⟩, .bool false]), 3, 40) := by kernel_rfl
theorem field_parts : ∃ i, Try.prog.info? 52 = some i ∧ i.zero = some (.agg #[.string ⟨#[]⟩, .string ⟨#[]⟩, .bool false]) ∧ i.size = 3 ∧ i.bytes = 40 := by
  cases hi : Try.prog.info? 52 with
  | none => have := tfield_info; rw [hi] at this; simp at this
  | some i => have := tfield_info; rw [hi] at this; simp at this; exact ⟨i, rfl, this.1, this.2.1, this.2.2⟩

theorem fzero_one : ∀ u ∈ (Value.agg #[.string ⟨#[]⟩, .string ⟨#[]⟩, .bool false]).cells.toList, u.oneCell' = true := by
  intro u hu
  change u ∈ [_, _, _] at hu
  simp only [List.mem_cons, List.not_mem_nil, or_false] at hu
  rcases hu with rfl | rfl | rfl <;> rfl

attribute [local irreducible] tot shr sz

set_option maxRecDepth 100000 in
set_option maxHeartbeats 2000000 in
theorem shrink_any {base g most : Nat} {v : Value} {L : List Fd} {w : World} (m : Int) (hL : tot L ≤ 4294967296) (hs : ∀ f ∈ L, sz f ≤ 2147483648) (h : Tb w base g v L most) :
    Calls Try.prog 36 #[pt g, .int .i64 m] w fun e w' => e = .returned (.tuple #[]) ∧ ∃ v', Tb w' base g v' (shr m L) most ∧ Fr g v.ownBlock w w' ∧ v'.ownBlock = v.ownBlock := by
  obtain ⟨A, c, rfl, hc1, hc2⟩ := h.shape
  have hlen : L.length ≤ 4294967296 := by have := tot_len L; omega
  obtain ⟨i0, hi0, hz0, hz1, hz2⟩ := field_parts
  unfold pt
  go_enter Try.func36, Try.ntmps36
  go_wp2_with fail
  have H := Lib.hid h
  clear h
  go_loopw [4] (fun i wr => ∃ k : Nat, k ≤ L.length ∧ i = .int .i64 k ∧ Hid (TabR wr g (.slice A L.length c) (tot (L.drop k)) most) ∧ Hid (Fr g none w wr) ∧ Hid (shr m L = shr m (L.drop k)))
    (fun i _ => L.length - (intOf i).toNat)
  case atStart => exact ⟨0, Nat.zero_le _, rfl, H.out.own, Fr.refl _, rfl⟩
  case round =>
    obtain ⟨k, hk, rfl, hT, hF, hS⟩ := hrel
    by_cases hgo : k < L.length ∧ m < (tot (L.drop k) : Int)
    · obtain ⟨hlt, hgt⟩ := hgo
      · obtain ⟨b, q, hA, hbg, e0, e1, e2⟩ := H.out.field hlt
        subst hA
        have c0 := hT.out.c0
        have c1 := hT.out.c1
        have f0 := hF.out.cell hbg e0
        have f1 := hF.out.cell hbg e1
        have f2 := hF.out.cell hbg e2
        have hsz := size_any L[k] (hs _ (List.getElem_mem hlt))
        have htd := tot_drop hlt
        have hS2 : Hid (shr m L = shr m (L.drop (k + 1))) := by
          show _ = _
          rw [hS.out, shr_drop hlt hgt]
        have hT0 := tot_drop_le L k
        unfold fv at hsz
        unfold tx at hsz f0 f1
        generalize L[k].nm = x at hsz f0 f1
        generalize L[k].vl = y at hsz f0 f1
        generalize L[k].nv = z at hsz f2
        have hZ0 := hs _ (List.getElem_mem hlt)
        generalize sz L[k] = Z at hsz htd hZ0
        obtain ⟨T0, hT0e⟩ : ∃ T0, T0 = tot (L.drop k) := ⟨_, rfl⟩
        obtain ⟨T1, hT1e⟩ : ∃ T1, T1 = tot (L.drop (k + 1)) := ⟨_, rfl⟩
        rw [← hT0e] at htd hgt c1 hT0 hT
        rw [← hT1e] at htd
        have HT1 := Lib.hid hT1e
        have hsub : (T0 : Int) - Z = (T1 : Int) := by omega
        have hT0b : T0 ≤ 4294967296 := by omega
        clear hT1e hT0e htd e0 e1 e2 hs hS hT0
        go_wp2_with fail
        have d0 : wr.drew.cell? ⟨g, 0, none⟩ = _ := c0
        have d1 : wr.drew.cell? ⟨g, 1, none⟩ = _ := c1
        have d2 : wr.drew.cell? ⟨b, q + k * 3, none⟩ = _ := f0
        have d3 : wr.drew.cell? ⟨b, q + k * 3 + 1, none⟩ = _ := f1
        have d4 : wr.drew.cell? ⟨b, q + k * 3 + 2, none⟩ = _ := f2
        have hTd : Hid (TabR wr.drew g (.slice (some ⟨b, q, none⟩) L.length c) T0 most) := by show TabR _ _ _ _ _; exact hT.out
        refine wp_region_E 15 (fun w' => w'.cell? ⟨g, 0, none⟩ = some (.slice (some ⟨b, q, none⟩) L.length c) ∧ w'.cell? ⟨g, 1, none⟩ = some (.int .i64 (T0 : Int)) ∧ w'.cell? ⟨b, q + k * 3, none⟩ = some (.string ⟨x.toArray⟩) ∧ w'.cell? ⟨b, q + k * 3 + 1, none⟩ = some (.string ⟨y.toArray⟩) ∧ w'.cell? ⟨b, q + k * 3 + 2, none⟩ = some (.bool z)) (by kernel_rfl) ⟨d0, d1, d2, d3, d4⟩ (fun hHeld => ?_)
        refine wpAnyE_take (i := 0) (v := ?v0) rfl (by kernel_rfl) (by kernel_rfl) (by kernel_rfl) (by kernel_rfl) (fun _ _ _ h => h) (Or.inl ⟨by rfl, ?hy0⟩) (by assumption) ?rest0
        case hy0 => (intro w hSw; (try dsimp only at hSw); go_simp <;> with_reducible rfl)
        try simp only [Act.put, List.getElem_toArray, List.getElem_cons_zero, List.setIfInBounds_toArray, List.set_cons_zero, List.set_cons_succ]
        refine wpAnyE_take (i := 1) (v := ?v1) rfl (by kernel_rfl) (by kernel_rfl) (by kernel_rfl) (by kernel_rfl) (fun _ _ _ h => h) (Or.inl ⟨by rfl, ?hy1⟩) (by assumption) ?rest1
        case hy1 => (intro w hSw; (try dsimp only at hSw); go_simp <;> with_reducible rfl)
        try simp only [Act.put, List.getElem_toArray, List.getElem_cons_zero, List.getElem_cons_succ, List.setIfInBounds_toArray, List.set_cons_zero, List.set_cons_succ]
        refine wpAnyE_take (i := 2) (v := ?v2) rfl (by kernel_rfl) (by kernel_rfl) (by kernel_rfl) (by kernel_rfl) (fun _ _ _ h => h) (Or.inl ⟨by rfl, ?hy2⟩) (by assumption) ?rest2
        case hy2 => (intro w hSw; (try dsimp only at hSw); go_simp <;> with_reducible rfl)
        try simp only [Act.put, List.getElem_toArray, List.getElem_cons_zero, List.getElem_cons_succ, List.setIfInBounds_toArray, List.set_cons_zero, List.set_cons_succ]
        refine wpAnyE_take (i := 3) (v := ?v3) rfl (by kernel_rfl) (by kernel_rfl) (by kernel_rfl) (by kernel_rfl) (fun _ _ _ h => h) (Or.inl ⟨by rfl, ?hy3⟩) (by assumption) ?rest3
        case hy3 => (intro w hSw; (try dsimp only at hSw); go_simp <;> with_reducible rfl)
        try simp only [Act.put, List.getElem_toArray, List.getElem_cons_zero, List.getElem_cons_succ, List.setIfInBounds_toArray, List.set_cons_zero, List.set_cons_succ]
        refine wpAnyE_take (i := 4) (v := ?v4) rfl (by kernel_rfl) (by kernel_rfl) (by kernel_rfl) (by kernel_rfl) (fun _ _ _ h => h) (Or.inl ⟨by rfl, ?hy4⟩) (by assumption) ?rest4
        case hy4 => (intro w hSw; (try dsimp only at hSw); go_simp <;> with_reducible rfl)
        try simp only [Act.put, List.getElem_toArray, List.getElem_cons_zero, List.getElem_cons_succ, List.setIfInBounds_toArray, List.set_cons_zero, List.set_cons_succ]
        refine wpAnyE_take (i := 5) (v := ?v5) rfl (by kernel_rfl) (by kernel_rfl) (by kernel_rfl) (by kernel_rfl) (fun _ _ _ h => h) (Or.inl ⟨by rfl, ?hy5⟩) (by assumption) ?rest5
        case hy5 => (intro w hSw; (try dsimp only at hSw); go_simp <;> with_reducible rfl)
        try simp only [Act.put, List.getElem_toArray, List.getElem_cons_zero, List.getElem_cons_succ, List.setIfInBounds_toArray, List.set_cons_zero, List.set_cons_succ]
        refine wpAnyE_take (i := 6) (v := ?v6) rfl (by kernel_rfl) (by kernel_rfl) (by kernel_rfl) (by kernel_rfl) (fun _ _ _ h => h) (Or.inl ⟨by rfl, ?hy6⟩) (by assumption) ?rest6
        case hy6 => (intro w hSw; (try dsimp only at hSw); go_simp <;> with_reducible rfl)
        try simp only [Act.put, List.getElem_toArray, List.getElem_cons_zero, List.getElem_cons_succ, List.setIfInBounds_toArray, List.set_cons_zero, List.set_cons_succ]
        refine wpAnyE_take (i := 7) (v := ?v7) rfl (by kernel_rfl) (by kernel_rfl) (by kernel_rfl) (by kernel_rfl) (fun _ _ _ h => h) (Or.inl ⟨by rfl, ?hy7⟩) (by assumption) ?rest7
        case hy7 => (intro w hSw; (try dsimp only at hSw); go_simp <;> with_reducible rfl)
        try simp only [Act.put, List.getElem_toArray, List.getElem_cons_zero, List.getElem_cons_succ, List.setIfInBounds_toArray, List.set_cons_zero, List.set_cons_succ]
        refine wpAnyE_take (i := 8) (v := ?v8) rfl (by kernel_rfl) (by kernel_rfl) (by kernel_rfl) (by kernel_rfl) (fun _ _ _ h => h) (Or.inl ⟨by rfl, ?hy8⟩) (by assumption) ?rest8
        case hy8 => (intro w hSw; (try dsimp only at hSw); go_simp <;> with_reducible rfl)
        try simp only [Act.put, List.getElem_toArray, List.getElem_cons_zero, List.getElem_cons_succ, List.setIfInBounds_toArray, List.set_cons_zero, List.set_cons_succ]
        refine wpAnyE_take (i := 9) (v := ?v9) rfl (by kernel_rfl) (by kernel_rfl) (by kernel_rfl) (by kernel_rfl) (fun _ _ _ h => h) (Or.inl ⟨by rfl, ?hy9⟩) (by assumption) ?rest9
        case hy9 => (intro w hSw; (try dsimp only at hSw); go_simp <;> with_reducible rfl)
        try simp only [Act.put, List.getElem_toArray, List.getElem_cons_zero, List.getElem_cons_succ, List.setIfInBounds_toArray, List.set_cons_zero, List.set_cons_succ]
        refine wpAnyE_take (i := 10) (v := ?v10) rfl (by kernel_rfl) (by kernel_rfl) (by kernel_rfl) (by kernel_rfl) (fun _ _ _ h => h) (Or.inl ⟨by rfl, ?hy10⟩) (by assumption) ?rest10
        case hy10 => (intro w hSw; (try dsimp only at hSw); go_simp <;> with_reducible rfl)
        try simp only [Act.put, List.getElem_toArray, List.getElem_cons_zero, List.getElem_cons_succ, List.setIfInBounds_toArray, List.set_cons_zero, List.set_cons_succ]
        refine wpAnyE_next (i := 11) (by kernel_rfl) rfl (fun K hK => ?_)
        go_simp
        go_at_call 54
        refine (hsz _).mono ?_
        rintro e w2 ⟨rfl, hb2⟩
        have k0 := (hb2.cell (p := ⟨g, 0, none⟩) (World.block_lt_of_cell? _ _ d0)).trans d0
        have k1 := (hb2.cell (p := ⟨g, 1, none⟩) (World.block_lt_of_cell? _ _ d1)).trans d1
        have k2 := (hb2.cell (p := ⟨b, q + k * 3, none⟩) (World.block_lt_of_cell? _ _ d2)).trans d2
        have k3 := (hb2.cell (p := ⟨b, q + k * 3 + 1, none⟩) (World.block_lt_of_cell? _ _ d3)).trans d3
        have k4 := (hb2.cell (p := ⟨b, q + k * 3 + 2, none⟩) (World.block_lt_of_cell? _ _ d4)).trans d4
        have hT2 := Row.below hTd.out hb2 (Row.lt hTd.out)
        have hF2 := Lib.hid ((hF.out.drewN 1).then_below (w'' := w2) hb2)
        go_simp
        refine hK.out _ _ ⟨k0, k1, k2, k3, k4⟩ (fun hHeld => ?_)
        clear hK K
        try simp only [Act.put, List.getElem_toArray, List.getElem_cons_zero, List.getElem_cons_succ, List.setIfInBounds_toArray, List.set_cons_zero, List.set_cons_succ]
        refine wpAnyE_take (i := 12) (v := ?v12q1) rfl (by kernel_rfl) (by kernel_rfl) (by kernel_rfl) (by kernel_rfl) (fun _ _ _ h => h) (Or.inl ⟨by rfl, ?hy12q1⟩) (by assumption) ?rest12q1
        case hy12q1 => (intro w hSw; (try dsimp only at hSw); go_simp <;> with_reducible rfl)
        try simp only [Act.put, List.getElem_toArray, List.getElem_cons_zero, List.getElem_cons_succ, List.setIfInBounds_toArray, List.set_cons_zero, List.set_cons_succ]
        refine wpAnyE_take (i := 13) (v := ?v13q1) rfl (by kernel_rfl) (by kernel_rfl) (by kernel_rfl) (by kernel_rfl) (fun _ _ _ h => h) (Or.inl ⟨by rfl, ?hy13q1⟩) (by assumption) ?rest13q1
        case hy13q1 => (intro w hSw; (try dsimp only at hSw); go_simp <;> with_reducible rfl)
        try simp only [Act.put, List.getElem_toArray, List.getElem_cons_zero, List.getElem_cons_succ, List.setIfInBounds_toArray, List.set_cons_zero, List.set_cons_succ]
        refine wpAnyE_take (i := 14) (v := ?v14q1) rfl (by kernel_rfl) (by kernel_rfl) (by kernel_rfl) (by kernel_rfl) (fun _ _ _ h => h) (Or.inl ⟨by rfl, ?hy14q1⟩) (by assumption) ?rest14q1
        case hy14q1 => (intro w hSw; (try dsimp only at hSw); go_simp <;> with_reducible rfl)
        try simp only [Act.put, List.getElem_toArray, List.getElem_cons_zero, List.getElem_cons_succ, List.setIfInBounds_toArray, List.set_cons_zero, List.set_cons_succ]
        refine wpAnyE_last (by kernel_rfl) rfl (by kernel_rfl) (fun K hK => ?_)
        have hT3 := Lib.hid (Row.stored hT2 1 (.int .i64 (T1 : Int)))
        have h1f := hT2.thawed 1
        go_simp
        refine hK.out _ _ ?_
        clear hK K
        try simp only [Act.put, List.getElem_toArray, List.getElem_cons_zero, List.getElem_cons_succ, List.setIfInBounds_toArray, List.set_cons_zero, List.set_cons_succ]
        go_wp2_with fail
        go_roundw
        case rel =>
          refine ⟨k + 1, by omega, by go_num, ?_, hF2.out.setCell 1 _, hS2⟩
          rw [← HT1.out]
          exact hT3.out
        case measure => simp [intOf]; omega
    · have hd : Hid (shr m L = L.drop k) := by
        show _ = _
        rw [hS.out]
        by_cases hlt : k < L.length
        · exact shr_self (by omega)
        · rw [List.drop_of_length_le (by omega), shr_nil]
      have c0 := hT.out.c0
      have c1 := hT.out.c1
      have c2 := hT.out.c2
      have hO : OwS wr base 52 3 (.slice A L.length c) L.length (enl fdc L) := H.out.row.keep fun b hb => hF.out.block b (H.out.row.lt b hb).2 (fun e => H.out.ne (by rw [hb, e])) (by simp)
      obtain ⟨A', w2, hup, hcl, hgr, hfrom, hO2, hob⟩ := run_shed (P := Try.prog) wr base 31 52 i0 (.agg #[.string ⟨#[]⟩, .string ⟨#[]⟩, .bool false]) 3 Try.underlying31 hi0 hz0 hz1 rfl fzero_one hO k hk
      have hgn : some g ≠ (Value.slice A L.length c).ownBlock := fun e => H.out.ne e.symm
      have hT2 : TabR w2 g (.slice A L.length c) (tot (L.drop k)) most := (hgr.block g (Row.lt hT.out) hgn).trans hT.out
      have k0 := hT2.c0
      have hth := Row.thawed hT2 0
      have HT3 := Lib.hid (Row.stored hT2 0 (.slice A' (L.length - k) (c - k)))
      have HF3 := Lib.hid (((hF.out.wide (o := (Value.slice A L.length c).ownBlock)).trans (Fr.of_grown hgr) (.inl rfl)).setCell 0 (.slice A' (L.length - k) (c - k)))
      have HO2 := Lib.hid (hO2.setCell (a := ⟨g, 0, none⟩) (by rw [hob]; exact H.out.ne) (.slice A' (L.length - k) (c - k)))
      have HOB := Lib.hid hob
      have HNE := Lib.hid hgn
      clear hT2 hgr hob hgn hO2 hO
      by_cases hlt : k < L.length
      · have hgt : decide (m < (tot (L.drop k) : Int)) = false := by simp; omega
        clear hgo
        go_wp2_with fail
        go_end0
        refine ⟨rfl, _, ⟨?_, ?_, ?_, H.out.low⟩, HF3.out, HOB.out⟩
        · rw [hd.out]; exact HT3.out
        · rw [hd.out, List.length_drop, ← enl_drop fdc_len]; exact HO2.out
        · rw [HOB.out]; exact fun e => HNE.out e.symm
      · clear hgo
        go_wp2_with fail
        go_end0
        refine ⟨rfl, _, ⟨?_, ?_, ?_, H.out.low⟩, HF3.out, HOB.out⟩
        · rw [hd.out]; exact HT3.out
        · rw [hd.out, List.length_drop, ← enl_drop fdc_len]; exact HO2.out
        · rw [HOB.out]; exact fun e => HNE.out e.symm
end Go.Proofs.Ytfajffchnnalaaa
