/-
  The program's Add and Limit, by their contracts. Conditions: each field of fewer than 2^31 bytes, a most below 2^32, all of fewer bytes than 2^32.
-/
import Derived.Test.YtfajffchnnalaaaDshr
import Derived.Test.YtfajffchnnalaaaClone
namespace Go.Proofs.Ytfajffchnnalaaa
open Go.RowKit Go.WideShapes

attribute [local irreducible] tot shr sz

/-- The slice behind a step lies where it lay, or in a block that was made. -/
def Nx (w : World) (v v' : Value) : Prop := v'.ownBlock = v.ownBlock ∨ ∀ k, v'.ownBlock = some k → w.heap.size ≤ k

theorem fits_shr {m : Int} {L : List Fd} (hs : ∀ f ∈ L, sz f ≤ 2147483648) : ∀ f ∈ shr m L, sz f ≤ 2147483648 := fun f hf => hs f ((shr_suffix m L).subset hf)

set_option maxRecDepth 100000 in
set_option maxHeartbeats 2000000 in
theorem add_any {base g most : Nat} {v : Value} {L : List Fd} {w : World} (f : Fd) (hf : sz f ≤ 2147483648) (hm : most ≤ 4294967296) (hL : tot L ≤ 4294967296) (hs : ∀ f ∈ L, sz f ≤ 2147483648) (h : Tb w base g v L most) :
    Calls Try.prog 41 #[pt g, fv f] w fun e w' => e = .returned (.tuple #[]) ∧ ∃ v', Tb w' base g v' (addL most f L) most ∧ Fr g v.ownBlock w w' ∧ Nx w v v' := by
  have hsz := size_any f hf
  have hsh := @shrink_any base g most v L
  unfold pt fv tx at *
  go_enter Try.func41, Try.ntmps41
  go_wp2_with fail
  refine (hsz _).mono ?_
  rintro e w1 ⟨rfl, hb1⟩
  have hR1 : Row w1 w.heap.size 52 #[.string ⟨f.nm.toArray⟩, .string ⟨f.vl.toArray⟩, .bool f.nv] := (Row.new w 52 _).below hb1 (by simp)
  have hT1 : Tb w1 base g v L most := (h.alloc _).below hb1
  have c2 := hT1.own.c2
  have HF1 : Hid (Fr g v.ownBlock w w1) := ((Fr.refl w).alloc _).then_below hb1
  have hlt := h.lt
  have hlt2 := fun k hk => (h.row.lt k hk).2
  have H := Lib.hid h
  clear h hb1
  go_wp2_with fail
  refine (hsh ((most : Int) - (sz f : Int)) hL hs hT1).mono ?_
  rintro e w2 ⟨rfl, v1, hT2, hF2, ho2⟩
  have hR2 := hF2.row (b := w.heap.size) (by omega) (fun e => by have := hlt2 _ e.symm; omega) hR1
  have HF2 := Lib.hid (HF1.out.trans hF2 (.inl rfl))
  have HO2 := Lib.hid ho2
  have d2 := hT2.own.c2
  have HT2 := Lib.hid hT2
  have HR2 := Lib.hid hR2
  have HV := Lib.hid hlt2
  clear hF2 ho2 hT1 c2 hR1 HF1 hlt2 hT2 hR2 hsh
  by_cases hgt : most < sz f
  · have hA : Hid (addL most f L = shr ((most : Int) - (sz f : Int)) L) := by show _ = _; unfold addL; rw [if_pos hgt]
    have hgi : (most : Int) < (sz f : Int) := by omega
    go_wp2_with fail
    refine bodyPost_ret (results_none rfl _ _ _) rfl ?_
    refine ⟨rfl, v1, ?_, HF2.out, .inl HO2.out⟩
    rw [hA.out]
    exact HT2.out
  · have hA : Hid (addL most f L = shr ((most : Int) - (sz f : Int)) L ++ [bare f]) := by show _ = _; unfold addL; rw [if_neg hgt]
    have hgd : decide ((most : Int) < (sz f : Int)) = false := by simp; omega
    go_wp2_with fail
    have hL1 : tot (shr ((most : Int) - (sz f : Int)) L) + sz f ≤ most := by
      have := shr_le ((most : Int) - (sz f : Int)) (by omega) L
      omega
    generalize shr ((most : Int) - (sz f : Int)) L = L1 at HT2 hA hL1
    obtain ⟨A1, c1, rfl, hc1, hc2⟩ := HT2.out.shape
    have hln := tot_len L1
    have hn1 : L1.length + 1 ≤ 134217729 := by omega
    obtain ⟨i0, hi0, hz0, hz1, hz2⟩ := field_parts
    have hcx := clone_any f.nm (by have : f.nm.length ≤ sz f := (by unfold sz; omega); omega)
    have hcy := clone_any f.vl (by have : f.vl.length ≤ sz f := (by unfold sz; omega); omega)
    have hgB : w.heap.size ≠ g := by omega
    have hbg : base ≤ g := HT2.out.low
    have d0 : w2.drew.cell? ⟨g, 0, none⟩ = some (.slice A1 L1.length c1) := HT2.out.own.c0
    have d1 : w2.drew.cell? ⟨w.heap.size, 0, none⟩ = some (.string ⟨f.nm.toArray⟩) := HR2.out.cell (j := 0) rfl
    have d2 : w2.drew.cell? ⟨w.heap.size, 1, none⟩ = some (.string ⟨f.vl.toArray⟩) := HR2.out.cell (j := 1) rfl
    have HTd : Hid (Tb w2.drew base g (.slice A1 L1.length c1) L1 most) := HT2.out.drewN 1
    have HFd : Hid (Fr g v.ownBlock w w2.drew) := HF2.out.drewN 1
    refine wp_region_E 16 (fun w' => w'.cell? ⟨g, 0, none⟩ = some (.slice A1 L1.length c1) ∧ w'.cell? ⟨w.heap.size, 0, none⟩ = some (.string ⟨f.nm.toArray⟩) ∧ w'.cell? ⟨w.heap.size, 1, none⟩ = some (.string ⟨f.vl.toArray⟩)) (by kernel_rfl) ⟨d0, d1, d2⟩ (fun hHeld => ?_)
    refine wpAnyE_take (i := 0) (v := ?v0) rfl (by kernel_rfl) (by kernel_rfl) (by kernel_rfl) (by kernel_rfl) (fun _ _ _ h => h) (Or.inl ⟨by rfl, ?hy0⟩) (by assumption) ?rest0
    case hy0 => (intro w hSw; (try dsimp only at hSw); go_simp <;> with_reducible rfl)
    try simp only [Act.put, List.getElem_toArray, List.getElem_cons_zero, List.setIfInBounds_toArray, List.set_cons_zero, List.set_cons_succ]
    refine wpAnyE_take (i := 1) (v := ?v1) rfl (by kernel_rfl) (by kernel_rfl) (by kernel_rfl) (by kernel_rfl) (fun _ _ _ h => h) (Or.inl ⟨by rfl, ?hy1⟩) (by assumption) ?rest1
    case hy1 => (intro w hSw; (try dsimp only at hSw); go_simp <;> with_reducible rfl)
    try simp only [Act.put, List.getElem_toArray, List.getElem_cons_zero, List.getElem_cons_succ, List.setIfInBounds_toArray, List.set_cons_zero, List.set_cons_succ]
    refine wpAnyE_take (i := 2) (v := ?v2) rfl (by kernel_rfl) (by kernel_rfl) (by kernel_rfl) (by kernel_rfl) (fun _ _ _ h => h) (Or.inl ⟨by rfl, ?hy2⟩) (by assumption) ?rest2
    case hy2 => (intro w hSw; (try dsimp only at hSw); go_simp <;> with_reducible rfl)
    try simp only [Act.put, List.getElem_toArray, List.getElem_cons_zero, List.getElem_cons_succ, List.setIfInBounds_toArray, List.set_cons_zero, List.set_cons_succ]
    refine wpAnyE_take (i := 3) (v := ?v3) rfl (by kernel_rfl) (by kernel_rfl) (by kernel_rfl) (by kernel_rfl) (fun _ _ _ h => h) (Or.inl ⟨by rfl, ?hy3⟩) (by assumption) ?rest3
    case hy3 => (intro w hSw; (try dsimp only at hSw); go_simp <;> with_reducible rfl)
    try simp only [Act.put, List.getElem_toArray, List.getElem_cons_zero, List.getElem_cons_succ, List.setIfInBounds_toArray, List.set_cons_zero, List.set_cons_succ]
    refine wpAnyE_take (i := 4) (v := ?v4) rfl (by kernel_rfl) (by kernel_rfl) (by kernel_rfl) (by kernel_rfl) (fun _ _ _ h => h) (Or.inl ⟨by rfl, ?hy4⟩) (by assumption) ?rest4
    case hy4 => (intro w hSw; (try dsimp only at hSw); go_simp <;> with_reducible rfl)
    try simp only [Act.put, List.getElem_toArray, List.getElem_cons_zero, List.getElem_cons_succ, List.setIfInBounds_toArray, List.set_cons_zero, List.set_cons_succ]
    refine wpAnyE_take (i := 5) (v := ?v5) rfl (by kernel_rfl) (by kernel_rfl) (by kernel_rfl) (by kernel_rfl) (fun _ _ _ h => h) (Or.inl ⟨by rfl, ?hy5⟩) (by assumption) ?rest5
    case hy5 => (intro w hSw; (try dsimp only at hSw); go_simp <;> with_reducible rfl)
    try simp only [Act.put, List.getElem_toArray, List.getElem_cons_zero, List.getElem_cons_succ, List.setIfInBounds_toArray, List.set_cons_zero, List.set_cons_succ]
    refine wpAnyE_take (i := 6) (v := ?v6) rfl (by kernel_rfl) (by kernel_rfl) (by kernel_rfl) (by kernel_rfl) (fun _ _ _ h => h) (Or.inl ⟨by rfl, ?hy6⟩) (by assumption) ?rest6
    case hy6 => (intro w hSw; (try dsimp only at hSw); go_simp <;> with_reducible rfl)
    try simp only [Act.put, List.getElem_toArray, List.getElem_cons_zero, List.getElem_cons_succ, List.setIfInBounds_toArray, List.set_cons_zero, List.set_cons_succ]
    refine wpAnyE_take (i := 8) (v := ?v8) rfl (by kernel_rfl) (by kernel_rfl) (by kernel_rfl) (by kernel_rfl) (fun _ _ _ h => h) (Or.inl ⟨by rfl, ?hy8⟩) (by assumption) ?rest8
    case hy8 => (intro w hSw; (try dsimp only at hSw); go_simp <;> with_reducible rfl)
    try simp only [Act.put, List.getElem_toArray, List.getElem_cons_zero, List.getElem_cons_succ, List.setIfInBounds_toArray, List.set_cons_zero, List.set_cons_succ]
    refine wpAnyE_take (i := 9) (v := ?v9) rfl (by kernel_rfl) (by kernel_rfl) (by kernel_rfl) (by kernel_rfl) (fun _ _ _ h => h) (Or.inl ⟨by rfl, ?hy9⟩) (by assumption) ?rest9
    case hy9 => (intro w hSw; (try dsimp only at hSw); go_simp <;> with_reducible rfl)
    try simp only [Act.put, List.getElem_toArray, List.getElem_cons_zero, List.getElem_cons_succ, List.setIfInBounds_toArray, List.set_cons_zero, List.set_cons_succ]
    refine wpAnyE_next (i := 7) (by kernel_rfl) rfl (fun K hK => ?_)
    go_simp
    go_at_call 60
    refine (hcx _).mono ?_
    rintro e w3 ⟨rfl, hb3⟩
    have k0 := (hb3.cell (p := ⟨g, 0, none⟩) (World.block_lt_of_cell? _ _ d0)).trans d0
    have k1 := (hb3.cell (p := ⟨w.heap.size, 0, none⟩) (World.block_lt_of_cell? _ _ d1)).trans d1
    have k2 := (hb3.cell (p := ⟨w.heap.size, 1, none⟩) (World.block_lt_of_cell? _ _ d2)).trans d2
    have HT3 := Lib.hid (HTd.out.below hb3)
    have HF3 := Lib.hid (HFd.out.then_below hb3)
    clear hb3 HTd HFd
    go_simp
    refine hK.out _ _ ⟨k0, k1, k2⟩ (fun hHeld => ?_)
    clear hK K
    try simp only [Act.put, List.getElem_toArray, List.getElem_cons_zero, List.getElem_cons_succ, List.setIfInBounds_toArray, List.set_cons_zero, List.set_cons_succ]
    refine wpAnyE_next (i := 10) (by kernel_rfl) rfl (fun K hK => ?_)
    go_simp
    go_at_call 60
    refine (hcy _).mono ?_
    rintro e w4 ⟨rfl, hb4⟩
    have l0 := (hb4.cell (p := ⟨g, 0, none⟩) (World.block_lt_of_cell? _ _ k0)).trans k0
    have l1 := (hb4.cell (p := ⟨w.heap.size, 0, none⟩) (World.block_lt_of_cell? _ _ k1)).trans k1
    have l2 := (hb4.cell (p := ⟨w.heap.size, 1, none⟩) (World.block_lt_of_cell? _ _ k2)).trans k2
    have HT4 := Lib.hid (HT3.out.below hb4)
    have HF4 := Lib.hid (HF3.out.then_below hb4)
    clear hb4 HT3 HF3
    go_simp
    refine hK.out _ _ ⟨l0, l1, l2⟩ (fun hHeld => ?_)
    clear hK K
    try simp only [Act.put, List.getElem_toArray, List.getElem_cons_zero, List.getElem_cons_succ, List.setIfInBounds_toArray, List.set_cons_zero, List.set_cons_succ]
    refine wpAnyE_take (i := 11) (v := ?v11q1) rfl (by kernel_rfl) (by kernel_rfl) (by kernel_rfl) (by kernel_rfl) (fun _ _ _ h => h) (Or.inl ⟨by rfl, ?hy11q1⟩) (by assumption) ?rest11q1
    case hy11q1 => (intro w hSw; (try dsimp only at hSw); go_simp <;> with_reducible rfl)
    try simp only [Act.put, List.getElem_toArray, List.getElem_cons_zero, List.getElem_cons_succ, List.setIfInBounds_toArray, List.set_cons_zero, List.set_cons_succ]
    refine wpAnyE_next (i := 12) (by kernel_rfl) rfl (fun K hK => ?_)
    go_simp
    have m0 := (World.cell?_alloc_lt w4 (.cells #[.string ⟨f.nm.toArray⟩, .string ⟨f.vl.toArray⟩, .bool false] 52) ⟨g, 0, none⟩ (World.block_lt_of_cell? _ _ l0)).trans l0
    have m1 := (World.cell?_alloc_lt w4 (.cells #[.string ⟨f.nm.toArray⟩, .string ⟨f.vl.toArray⟩, .bool false] 52) ⟨w.heap.size, 0, none⟩ (World.block_lt_of_cell? _ _ l1)).trans l1
    have m2 := (World.cell?_alloc_lt w4 (.cells #[.string ⟨f.nm.toArray⟩, .string ⟨f.vl.toArray⟩, .bool false] 52) ⟨w.heap.size, 1, none⟩ (World.block_lt_of_cell? _ _ l2)).trans l2
    have HT5 := Lib.hid (HT4.out.alloc (.cells #[.string ⟨f.nm.toArray⟩, .string ⟨f.vl.toArray⟩, .bool false] 52))
    have HF5 := Lib.hid (HF4.out.alloc (.cells #[.string ⟨f.nm.toArray⟩, .string ⟨f.vl.toArray⟩, .bool false] 52))
    have HN5 := Lib.hid (World.news_of_block (heap_alloc_last w4 (.cells #[.string ⟨f.nm.toArray⟩, .string ⟨f.vl.toArray⟩, .bool false] 52)))
    refine hK.out _ _ ⟨m0, m1, m2⟩ (fun hHeld => ?_)
    clear hK K
    try simp only [Act.put, List.getElem_toArray, List.getElem_cons_zero, List.getElem_cons_succ, List.setIfInBounds_toArray, List.set_cons_zero, List.set_cons_succ]
    generalize w4.alloc (.cells #[.string ⟨f.nm.toArray⟩, .string ⟨f.vl.toArray⟩, .bool false] 52) = w5 at *
    refine wpAnyE_next (i := 13) (by kernel_rfl) rfl (fun K hK => ?_)
    refine step_appS rfl (.tmp 27) (.tmp 35) 31 rfl base 52 i0 _ 3 40 Try.underlying31 hi0 hz0 hz1 hz2 rfl (.slice A1 L1.length c1) L1.length (enl fdc L1) rfl HT5.out.row ⟨w4.heap.size, 0, none⟩ 1 1 (fdc (bare f)) rfl rfl HN5.out (fdc_one _) (by omega) (by simp only [maxLen]; omega) (by omega) ?_ ?_
    · have := HT5.out.lt
      omega
    intro A6 c6 w6 hO6 hg6 hb6
    have hgn : some g ≠ (Value.slice A1 L1.length c1).ownBlock := fun e => HT5.out.ne e.symm
    have hbn : some w.heap.size ≠ (Value.slice A1 L1.length c1).ownBlock := fun e => by
      have := HV.out _ (HO2.out.symm.trans e.symm)
      omega
    have n0 := (hg6.cell_far ⟨g, 0, none⟩ (World.block_lt_of_cell? _ _ m0) hgn).trans m0
    have n1 := (hg6.cell_far ⟨w.heap.size, 0, none⟩ (World.block_lt_of_cell? _ _ m1) hbn).trans m1
    have n2 := (hg6.cell_far ⟨w.heap.size, 1, none⟩ (World.block_lt_of_cell? _ _ m2) hbn).trans m2
    have hT6 : TabR w6 g (.slice A1 L1.length c1) (tot L1) most := (hg6.block g HT5.out.lt hgn).trans HT5.out.own
    have hthaw := Row.thawed hT6 0
    have hne6 : (Value.slice A6 (L1.length + 1) c6).ownBlock ≠ some g := by
      rcases hb6 with e | e
      · rw [e]; exact HT5.out.ne
      · rw [e]
        have := HT5.out.lt
        intro e
        injection e with e
        omega
    have HT7 : Hid (TabR (w6.setCell ⟨g, 0, none⟩ (.slice A6 (L1.length + 1) c6)) g (.slice A6 (L1.length + 1) c6) (tot L1) most) := Row.stored hT6 0 _
    have HO7 := Lib.hid (hO6.setCell (a := ⟨g, 0, none⟩) hne6 (.slice A6 (L1.length + 1) c6))
    have HF7 : Hid (Fr g v.ownBlock w (w6.setCell ⟨g, 0, none⟩ (.slice A6 (L1.length + 1) c6))) := (HF5.out.trans (Fr.of_grown hg6) (.inl HO2.out)).setCell 0 _
    have HX : Hid (Nx w v (.slice A6 (L1.length + 1) c6)) := by
      rcases hb6 with e | e
      · exact .inl (e.trans HO2.out)
      · refine .inr fun k hk => ?_
        rw [e] at hk
        injection hk with hk
        have := HF5.out.size
        omega
    have HNE := Lib.hid hne6
    have HT6 := Lib.hid hT6
    clear hg6 hb6 hgn hbn hO6 hne6 m0 m1 m2 l0 l1 l2 k0 k1 k2 d0 d1 d2 hT6
    refine hK.out _ _ ⟨n0, n1, n2⟩ (fun hHeld => ?_)
    clear hK K
    try simp only [Act.put, List.getElem_toArray, List.getElem_cons_zero, List.getElem_cons_succ, List.setIfInBounds_toArray, List.set_cons_zero, List.set_cons_succ]
    refine wpAnyE_take (i := 14) (v := ?v14q2) rfl (by kernel_rfl) (by kernel_rfl) (by kernel_rfl) (by kernel_rfl) (fun _ _ _ h => h) (Or.inl ⟨by rfl, ?hy14q2⟩) (by assumption) ?rest14q2
    case hy14q2 => (intro w hSw; (try dsimp only at hSw); go_simp <;> with_reducible rfl)
    try simp only [Act.put, List.getElem_toArray, List.getElem_cons_zero, List.getElem_cons_succ, List.setIfInBounds_toArray, List.set_cons_zero, List.set_cons_succ]
    refine wpAnyE_take (i := 15) (v := ?v15q2) rfl (by kernel_rfl) (by kernel_rfl) (by kernel_rfl) (by kernel_rfl) (fun _ _ _ h => h) (Or.inl ⟨by rfl, ?hy15q2⟩) (by assumption) ?rest15q2
    case hy15q2 => (intro w hSw; (try dsimp only at hSw); go_simp <;> with_reducible rfl)
    try simp only [Act.put, List.getElem_toArray, List.getElem_cons_zero, List.getElem_cons_succ, List.setIfInBounds_toArray, List.set_cons_zero, List.set_cons_succ]
    refine wpAnyE_last (by kernel_rfl) rfl (by kernel_rfl) (fun K hK => ?_)
    go_simp
    refine hK.out _ _ ?_
    clear hK K
    try simp only [Act.put, List.getElem_toArray, List.getElem_cons_zero, List.getElem_cons_succ, List.setIfInBounds_toArray, List.set_cons_zero, List.set_cons_succ]
    generalize w6.setCell ⟨g, 0, none⟩ (.slice A6 (L1.length + 1) c6) = w7 at *
    have p1 := HT7.out.c1
    have hthaw7 := Row.thawed HT7.out 1
    have hsum : (tot L1 : Int) + (sz f : Int) = ((tot (L1 ++ [bare f]) : Nat) : Int) := by
      have : tot (L1 ++ [bare f]) = tot L1 + sz f := by rw [tot_snoc, sz_bare]
      omega
    have hb2 : tot L1 ≤ 4294967296 := by omega
    generalize hT8 : tot (L1 ++ [bare f]) = T8 at hsum
    have HT8 : Hid (TabR (w7.setCell ⟨g, 1, none⟩ (.int .i64 (T8 : Int))) g (.slice A6 (L1.length + 1) c6) T8 most) := Row.stored HT7.out 1 _
    have HO8 := Lib.hid (HO7.out.setCell (a := ⟨g, 1, none⟩) HNE.out (.int .i64 (T8 : Int)))
    have HF8 := Lib.hid (HF7.out.setCell 1 (.int .i64 (T8 : Int)))
    have HE := Lib.hid hT8
    clear hT8
    go_wp2_with fail
    go_end0
    refine ⟨rfl, .slice A6 (L1.length + 1) c6, ⟨?_, ?_, HNE.out, hbg⟩, HF8.out, HX.out⟩
    · rw [hA.out, HE.out]
      exact HT8.out
    · rw [hA.out, List.length_append, enl_append, enl_one]
      exact HO8.out

set_option maxRecDepth 100000 in
set_option maxHeartbeats 2000000 in
theorem limit_any {base g most : Nat} {v : Value} {L : List Fd} {w : World} (m : Nat) (hm : m < 4294967296) (hL : tot L ≤ 4294967296) (hs : ∀ f ∈ L, sz f ≤ 2147483648) (h : Tb w base g v L most) :
    Calls Try.prog 26 #[pt g, .int .u32 (m : Int)] w fun e w' => e = .returned (.tuple #[]) ∧ ∃ v', Tb w' base g v' (shr m L) m ∧ Fr g v.ownBlock w w' ∧ v'.ownBlock = v.ownBlock := by
  have hT : Tb (w.setCell ⟨g, 2, none⟩ (.int .i64 (m : Int))) base g v L m := ⟨Row.stored h.own 2 _, h.row.setCell h.ne _, h.ne, h.low⟩
  have hsh := shrink_any (m : Int) hL hs hT
  have c2 := h.own.c2
  have d2 := hT.own.c2
  have hth := Row.thawed h.own 2
  have HF : Hid (Fr g v.ownBlock w (w.setCell ⟨g, 2, none⟩ (.int .i64 (m : Int)))) := (Fr.refl w).setCell 2 _
  clear h hT
  unfold pt at *
  go_enter Try.func26, Try.ntmps26
  go_wp2_with fail
  refine hsh.mono ?_
  rintro e w1 ⟨rfl, v1, hT1, hF1, ho1⟩
  have HT1 := Lib.hid hT1
  have HF1 := Lib.hid (HF.out.trans hF1 (.inl rfl))
  have HO1 := Lib.hid ho1
  clear hT1 hF1 ho1 hsh
  go_wp2_with fail
  go_end0
  exact ⟨rfl, v1, HT1.out, HF1.out, HO1.out⟩
end Go.Proofs.Ytfajffchnnalaaa
