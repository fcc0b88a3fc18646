/-
  A side's Send, by its contract. Conditions: the list is read; few lists wait.
-/
import Derived.Test.YtaffmcbpfjdokaaGnil
namespace Go.Proofs.Ytaffmcbpfjdokaa
open Go.RowKit Go.WideShapes

theorem info_parts {P : Program} {t : TypeId} {z : Value} {n b : Nat} (h : (P.info? t).map (fun i => (i.zero, i.size, i.bytes)) = some (some z, n, b)) : ∃ i, P.info? t = some i ∧ i.zero = some z ∧ i.size = n ∧ i.bytes = b := by
  cases hi : P.info? t with
  | none => rw [hi] at h; simp at h
  | some i => rw [hi] at h; simp at h; exact ⟨i, rfl, h.1, h.2.1, h.2.2⟩
theorem st_full : (Try.prog.info? 24).map (fun i => (i.zero, i.size, i.bytes)) = some (some (.agg #[.int .u32 0, .bool false, .int .u32 0, .int .u32 0, .int .u32 0, .int .u32 0, .bool false]), 7, 28) := by kernel_rfl
theorem bs_st (x : St) (w : World) : (Instr.buildSlice 44 1 #[(0, .agg x.c)]).run Try.prog w = .ok (.slice (some ⟨w.heap.size, 0, none⟩) 1 1) (w.alloc (.cells x.c 24)) := by unfold St.c; kernel_rfl
theorem ft_11n (w : World) : (binOp .neq 28 (.agg (ftc 1 1)) (.agg #[.int .u8 0, .int .u32 0])).run Try.prog w = .ok (.bool true) w := ft_some (by omega) w
theorem ft_13n (w : World) : (binOp .neq 28 (.agg (ftc 1 3)) (.agg #[.int .u8 0, .int .u32 0])).run Try.prog w = .ok (.bool true) w := ft_some (by omega) w
/-- Behind a list that is sent: what waits, and the fault. -/
def sendN (n : St) (L : List St) (l : List (Nat × Nat)) : List St × Nat := if (apN (lastN n L) (lastN n L) l).2 = 0 then (L ++ [(apN (lastN n L) (lastN n L) l).1], 0) else (L, 1)
/-- What Send leaves. -/
def SendPost (w : World) (base g : Nat) (n : St) (v : Value) (r : List St × Nat) (e : Ending) (w' : World) : Prop :=
  e = .returned (.agg (ftc r.2 r.2)) ∧ ∃ v', Sd w' base g n v' r.1 ∧ Fs (sb g v) w w' ∧ Nx w v v'
attribute [local irreducible] St.c ftc sec

set_option maxRecDepth 100000 in
set_option maxHeartbeats 4000000 in
theorem send_any {w : World} {base g : Nat} {n : St} {v : Value} {L : List St} (h : Sd w base g n v L) (hbase : base ≤ w.heap.size) (hl : L.length ≤ 100000) {A : Option Addr} {c : Nat} {l : List (Nat × Nat)} (hr : RdS w (· < w.heap.size) A (enl sgc l)) (hln : l.length ≤ 1000000000000) :
    Calls Try.prog 15 #[.pointer (some ⟨g, 0, none⟩), .slice A l.length c] w (SendPost w base g n v (sendN n L l)) := by
  obtain ⟨r2, rb, rs⟩ := fault_var w
  have H4 := Lib.hid r2
  have HB := Lib.hid rb
  have H := Lib.hid (h.below rb)
  have HR := Lib.hid (hr.up rb)
  have hgl := h.row.lt
  have HLT := Lib.hid h.lts
  have hap := fun (W : World) (h : RdS W (· < W.heap.size) A (enl sgc l)) => apply_any (lastN n L) (c := c) h hln
  have HS : Hid (sendN n L l = if (apN (lastN n L) (lastN n L) l).2 = 0 then (L ++ [(apN (lastN n L) (lastN n L) l).1], 0) else (L, 1)) := rfl
  unfold ApPost at hap
  clear h hr r2 rb rs
  generalize (apN (lastN n L) (lastN n L) l).1 = x at *
  generalize (apN (lastN n L) (lastN n L) l).2 = m at *
  generalize l.length = len at *
  go_enter Try.func15, Try.ntmps15
  go_upto_region 1 with fail
  generalize w.alloc (.cells #[.int .u8 0, .int .u32 0] 28) = w1 at *
  go_wp2_with fail
  refine (last_any H.out (by omega)).mono ?_
  rintro e w2 ⟨rfl, hb2⟩
  have H2 := Lib.hid (H.out.below hb2)
  have H42 := Lib.hid (H4.out.below hb2 H4.out.lt)
  have HB2 := Lib.hid (HB.out.trans (hb2.mono HB.out.size))
  have HR2 := Lib.hid (HR.out.up hb2)
  clear hb2 H H4 HB HR
  go_wp2_with fail
  refine (hap _ HR2.out).mono ?_
  rintro e w3 ⟨rfl, hb3⟩
  have key : (m = 0 ∧ True) ∨ ¬ m = 0 := by by_cases h0 : m = 0; exact .inl ⟨h0, trivial⟩; exact .inr h0
  rcases key with ⟨h0, _⟩ | h0
  · rw [if_pos h0] at HS ⊢
    obtain ⟨w4, hw4, t1, t2, t3, t4, t5, t6⟩ := two_vars w3 x 0 m
    rw [h0] at hw4 t4 ⊢
    have T1 := Lib.hid t1
    have T2 := Lib.hid t2
    have T3 := Lib.hid t3
    have T4 := Lib.hid t4
    have T7 := Lib.hid hw4
    have hb4 := hb3.trans (t5.mono hb3.size)
    have H5 := Lib.hid (H2.out.below hb4)
    have H45 := Lib.hid (H42.out.below hb4 H42.out.lt)
    have HB5 := Lib.hid (HB2.out.trans (hb4.mono HB2.out.size))
    have hp3 : g < w3.heap.size ∧ w.heap.size < w3.heap.size := by
      have h1 := H2.out.row.lt; have h2 := H42.out.lt; have := hb3.size
      omega
    have hne := ft_none
    clear t1 t2 t3 t4 t5 t6 hw4 hb3 hb4 H2 H42 HB2 HR2 hap h0
    go_upto_region 4 with (first | (refine wpList_sw (cs := x.c) rfl _ _ rfl rfl rfl T1.out (St.sz _ _) (St.ok _) ?_) | (refine wpList_sw (cs := ftc 0 0) rfl _ _ rfl rfl rfl T2.out (ft_sz _ _ _ _) (ft_ok _ _) ?_))
    rw [T7.out]
    clear T1 T2 T7
    generalize w3.heap.size = p at *
    obtain ⟨A1, c1, rfl⟩ := H5.out.shape
    have hsn := H5.out.sent
    go_wp2_with (refine wpList_ld rfl _ rfl rfl T4.out (ft_ok _ _) ?_)
    refine wp_region_E 10 (fun w' => w'.cell? ⟨g, 7, none⟩ = some (.slice A1 L.length c1) ∧ Row w' p 24 x.c) (by kernel_rfl) ⟨hsn, T3.out⟩ (fun hHeld => ?_)
    refine wpAnyE_take (i := 0) (v := ?v0) rfl (by kernel_rfl) (by kernel_rfl) (by kernel_rfl) (by kernel_rfl) (fun _ _ _ h => h) (Or.inl ⟨by rfl, ?hy0⟩) (by assumption) ?rest0
    case hy0 => (intro w hSw; (try dsimp only at hSw); go_simp <;> with_reducible rfl)
    try simp only [Act.put, List.getElem_toArray, List.getElem_cons_zero, List.setIfInBounds_toArray, List.set_cons_zero, List.set_cons_succ]
    refine wpAnyE_take (i := 1) (v := ?v1) rfl (by kernel_rfl) (by kernel_rfl) (by kernel_rfl) (by kernel_rfl) (fun _ _ _ h => h) (Or.inl ⟨by rfl, ?hy1⟩) (by assumption) ?rest1
    case hy1 => (intro w hSw; (try dsimp only at hSw); go_simp <;> with_reducible rfl)
    try simp only [Act.put, List.getElem_toArray, List.getElem_cons_zero, List.getElem_cons_succ, List.setIfInBounds_toArray, List.set_cons_zero, List.set_cons_succ]
    refine wpAnyE_take (i := 2) (v := ?v2) rfl (by kernel_rfl) (by kernel_rfl) (by kernel_rfl) (by kernel_rfl) (fun _ _ _ h => h) (Or.inl ⟨by rfl, ?hy2⟩) (by assumption) ?rest2
    case hy2 => (intro w hSw; (try dsimp only at hSw); go_simp <;> with_reducible rfl)
    try simp only [Act.put, List.getElem_toArray, List.getElem_cons_zero, List.getElem_cons_succ, List.setIfInBounds_toArray, List.set_cons_zero, List.set_cons_succ]
    refine wpAnyE_take (i := 3) (v := ?v3) rfl (by kernel_rfl) (by kernel_rfl) (by kernel_rfl) (by kernel_rfl) (fun _ _ _ h => h) (Or.inl ⟨by rfl, ?hy3⟩) (by assumption) ?rest3
    case hy3 => (intro w hSw; (try dsimp only at hSw); go_simp <;> with_reducible rfl)
    try simp only [Act.put, List.getElem_toArray, List.getElem_cons_zero, List.getElem_cons_succ, List.setIfInBounds_toArray, List.set_cons_zero, List.set_cons_succ]
    refine wpAnyE_take (i := 4) (v := ?v4) rfl (by kernel_rfl) (by kernel_rfl) (by kernel_rfl) (by kernel_rfl) (fun _ _ _ h => h) (Or.inl ⟨by rfl, ?hy4⟩) (by assumption) ?rest4
    case hy4 => (intro w hSw; (try dsimp only at hSw); go_simp <;> with_reducible rfl)
    try simp only [Act.put, List.getElem_toArray, List.getElem_cons_zero, List.getElem_cons_succ, List.setIfInBounds_toArray, List.set_cons_zero, List.set_cons_succ]
    refine wpAnyE_take (i := 5) (v := _) rfl (by kernel_rfl) (by kernel_rfl) (by kernel_rfl) (by kernel_rfl) (fun _ _ _ h => h) (yields_ld (by rfl) _ rfl rfl (St.ok _) (fun _ hSw => hSw.2)) (by assumption) ?rest5w1
    try simp only [Act.put, List.getElem_toArray, List.getElem_cons_zero, List.getElem_cons_succ, List.setIfInBounds_toArray, List.set_cons_zero, List.set_cons_succ]
    refine wpAnyE_next (i := 6) (by kernel_rfl) rfl (fun K hK => ?_)
    refine step_bs1 (bs_st x) rfl (.tmp 26) rfl rfl ?_
    have hal : Below w4.heap.size w4 (w4.drew.alloc (.cells x.c 24)) := ((Below.refl _ _).drew).alloc (Nat.le_refl _) _
    have H6 := Lib.hid (H5.out.below hal)
    have H46 := Lib.hid (H45.out.below hal H45.out.lt)
    have HB6 := Lib.hid (HB5.out.trans (hal.mono HB5.out.size))
    have m0 := H6.out.sent
    have m1 : Row (w4.drew.alloc (.cells x.c 24)) p 24 x.c := T3.out.below hal T3.out.lt
    have HN6 := Lib.hid (Row.new w4.drew 24 x.c)
    have F46 := Lib.hid (T4.out.below hal T4.out.lt)
    have hq : w4.drew.heap.size = w4.heap.size := rfl
    rw [hq] at HN6 ⊢
    have hq2 : (w4.drew.alloc (.cells x.c 24)).heap.size = w4.heap.size + 1 := by simp
    have HQ := Lib.hid hq2
    have hpl : p < w4.heap.size := T3.out.lt
    clear hal hq hq2 H5 H45 HB5 T3 T4 hsn hHeld
    refine hK.out _ _ ⟨m0, m1⟩ (fun hHeld => ?_)
    clear hK K hHeld
    try simp only [Act.put, List.getElem_toArray, List.getElem_cons_zero, List.getElem_cons_succ, List.setIfInBounds_toArray, List.set_cons_zero, List.set_cons_succ]
    generalize w4.drew.alloc (.cells x.c 24) = w5 at *
    generalize w4.heap.size = q at *
    have hHeld : w5.cell? ⟨g, 7, none⟩ = some (.slice A1 L.length c1) ∧ Row w5 p 24 x.c := ⟨m0, m1⟩
    obtain ⟨i0, hi0, hz0, hz1, hz2⟩ := info_parts st_full
    refine wpAnyE_next (i := 7) (by kernel_rfl) rfl (fun K hK => ?_)
    refine step_appS rfl (.tmp 25) (.tmp 27) 44 rfl base 24 i0 _ 7 28 Try.underlying44 hi0 hz0 hz1 hz2 rfl (.slice A1 L.length c1) L.length (enl St.l L) rfl H6.out.own ⟨q, 0, none⟩ 1 1 x.l rfl rfl (fun j u hj => by rw [add_plain, Nat.zero_add]; exact HN6.out.cell (by rw [← St.cl] at hj; simpa using hj)) (St.one x) (by omega) (by simp only [maxLen]; omega) (by omega) (by have := HQ.out; have := HB6.out.size; omega) ?_
    intro A6 c6 w6 hO6 hg6 hb6
    have hgn : some g ≠ (Value.slice A1 L.length c1).ownBlock := fun e => H6.out.ne e.symm
    have hpo : ∀ k, (Value.slice A1 L.length c1).ownBlock = some k → k < w.heap.size := fun k hk => (HLT.out k (.inr hk)).2
    have hrow : Row w6 g 57 (sdc n (.slice A1 L.length c1)) := (hg6.block g H6.out.row.lt hgn).trans H6.out.row
    have n0 := hrow.cell (j := 7) rfl
    have n1 : Row w6 p 24 x.c := (hg6.block p m1.lt (fun e => by have := hpo p e.symm; omega)).trans m1
    have z7 := hrow.thawed 7
    have hne6 : (Value.slice A6 (L.length + 1) c6).ownBlock ≠ some g := by
      rcases hb6 with e | e
      · rw [e]; exact H6.out.ne
      · rw [e]
        have := H6.out.row.lt
        intro e
        injection e with e
        omega
    have H7 : Hid (Sd (w6.setCell ⟨g, 7, none⟩ (.slice A6 (L.length + 1) c6)) base g n (.slice A6 (L.length + 1) c6) (L ++ [x])) := by
      refine ⟨hrow.stored 7 _, ?_, H6.out.gl, hne6⟩
      have := hO6.setCell (a := ⟨g, 7, none⟩) hne6 (.slice A6 (L.length + 1) c6)
      rw [List.length_append, enl_append, enl_one]
      exact this
    have HF7 : Hid (Fs (sb g (.slice A1 L.length c1)) w (w6.setCell ⟨g, 7, none⟩ (.slice A6 (L.length + 1) c6))) :=
      ((Fs.of_below HB6.out).trans (S' := ob (.slice A1 L.length c1)) (Fs.of_grown hg6) (fun k _ h => .inr h)).setCell (fun _ => .inl rfl) 7 _
    have HX7 : Hid (Nx w (.slice A1 L.length c1) (.slice A6 (L.length + 1) c6)) := by
      rcases hb6 with e | e
      · exact .inl e
      · refine .inr fun k hk => ?_
        rw [e] at hk
        injection hk with hk
        have := HB6.out.size
        have := HQ.out
        omega
    have HFAR : Hid (∀ k, sb g (.slice A6 (L.length + 1) c6) k → ¬ k = w.heap.size) := by
      show ∀ _ _, _
      intro k hk e
      rcases hk with rfl | hk
      · omega
      · rcases hb6 with e6 | e6
        · have := hpo k (e6.symm.trans hk)
          omega
        · have h6 : some k = some w5.heap.size := hk.symm.trans e6
          injection h6 with h6
          have := HQ.out
          omega
    have H47 : Hid (Row (w6.setCell ⟨g, 7, none⟩ (.slice A6 (L.length + 1) c6)) w.heap.size 28 (ftc 0 0)) :=
      Row.stored' ((hg6.block w.heap.size H46.out.lt (fun e => by have := hpo _ e.symm; omega)).trans H46.out) (by show w.heap.size ≠ g; omega) _
    clear hO6 hg6 hb6 hgn hpo hne6 H6 H46 HB6 HN6 F46 HQ HLT hi0 hz0 hz1 hz2
    refine hK.out _ _ ⟨n0, n1⟩ (fun hHeld => ?_)
    clear hK K
    try simp only [Act.put, List.getElem_toArray, List.getElem_cons_zero, List.getElem_cons_succ, List.setIfInBounds_toArray, List.set_cons_zero, List.set_cons_succ]
    refine wpAnyE_take (i := 8) (v := ?v8q2) rfl (by kernel_rfl) (by kernel_rfl) (by kernel_rfl) (by kernel_rfl) (fun _ _ _ h => h) (Or.inl ⟨by rfl, ?hy8q2⟩) (by assumption) ?rest8q2
    case hy8q2 => (intro w hSw; (try dsimp only at hSw); go_simp <;> with_reducible rfl)
    try simp only [Act.put, List.getElem_toArray, List.getElem_cons_zero, List.getElem_cons_succ, List.setIfInBounds_toArray, List.set_cons_zero, List.set_cons_succ]
    refine wpAnyE_take (i := 9) (v := ?v9q2) rfl (by kernel_rfl) (by kernel_rfl) (by kernel_rfl) (by kernel_rfl) (fun _ _ _ h => h) (Or.inl ⟨by rfl, ?hy9q2⟩) (by assumption) ?rest9q2
    case hy9q2 => (intro w hSw; (try dsimp only at hSw); go_simp <;> with_reducible rfl)
    try simp only [Act.put, List.getElem_toArray, List.getElem_cons_zero, List.getElem_cons_succ, List.setIfInBounds_toArray, List.set_cons_zero, List.set_cons_succ]
    refine wpAnyE_last (by kernel_rfl) rfl (by kernel_rfl) (fun K hK => ?_)
    go_simp
    refine hK.out _ _ ?_
    clear hK K hHeld m0 m1 n0 n1 z7 hrow
    try simp only [Act.put, List.getElem_toArray, List.getElem_cons_zero, List.getElem_cons_succ, List.setIfInBounds_toArray, List.set_cons_zero, List.set_cons_succ]
    generalize w6.setCell ⟨g, 7, none⟩ (.slice A6 (L.length + 1) c6) = w7 at *
    have hzf : ftc 0 0 = #[.int .u8 0, .int .u32 0] := by unfold ftc; rfl
    have HZF := Lib.hid hzf
    clear hzf
    go_wp2_with (refine wpList_sw (cs := ftc 0 0) rfl _ _ rfl rfl (by rw [HZF.out]; rfl) H47.out (ft_sz _ _ _ _) (ft_ok _ _) ?_)
    refine bodyPost_ret (ret_ag rfl _ rfl (H47.out.setRow _) (ft_ok _ _)) rfl ?_
    have hwl := hgl
    rw [HS.out]
    exact ⟨rfl, _, H7.out.fs (S := fun k => k = w.heap.size) (Fs.setRow (S := fun k => k = w.heap.size) (Fs.refl _ w7) (g := w.heap.size) (fun _ => rfl) (ftc 0 0)) HFAR.out, (HF7.out.setRow (g := w.heap.size) (fun h => by omega) (ftc 0 0)), HX7.out⟩
  · rw [if_neg h0] at HS ⊢
    obtain ⟨w4, hw4, t1, t2, t3, t4, t5, t6⟩ := two_vars w3 x 1 m
    have T1 := Lib.hid t1
    have T2 := Lib.hid t2
    have T4 := Lib.hid t4
    have T7 := Lib.hid hw4
    have hb4 := hb3.trans (t5.mono hb3.size)
    have H5 := Lib.hid (H2.out.below hb4)
    have H45 := Lib.hid (H42.out.below hb4 H42.out.lt)
    have HB5 := Lib.hid (HB2.out.trans (hb4.mono HB2.out.size))
    have hne := ft_some h0
    clear t1 t2 t3 t4 t5 t6 hw4 hb3 hb4 H2 H42 HB2 HR2 hap h0
    go_upto_region 4 with (first | (refine wpList_sw (cs := x.c) rfl _ _ rfl rfl rfl T1.out (St.sz _ _) (St.ok _) ?_) | (refine wpList_sw (cs := ftc 1 m) rfl _ _ rfl rfl rfl T2.out (ft_sz _ _ _ _) (ft_ok _ _) ?_))
    rw [T7.out]
    clear T1 T2 T7
    generalize w3.heap.size = p at *
    go_wp2_with (refine wpList_ld rfl _ rfl rfl T4.out (ft_ok _ _) ?_)
    refine (connFault_any 1 _).mono ?_
    rintro e w5 ⟨rfl, hb5⟩
    have H6 := Lib.hid (H5.out.below hb5)
    have H46 := Lib.hid (H45.out.below hb5 H45.out.lt)
    have HB6 := Lib.hid (HB5.out.trans (hb5.mono HB5.out.size))
    clear hb5 H5 H45 HB5 T4 hne
    go_wp2_with (refine wpList_sw (cs := ftc 1 1) rfl _ _ rfl rfl rfl H46.out (ft_sz _ _ _ _) (ft_ok _ _) ?_)
    refine bodyPost_ret (ret_ag rfl _ rfl (H46.out.setRow _) (ft_ok _ _)) rfl ?_
    rw [HS.out]
    exact ⟨rfl, v, H6.out.fs (S := fun k => k = w.heap.size) (Fs.setRow (S := fun k => k = w.heap.size) (Fs.refl _ w5) (g := w.heap.size) (fun _ => rfl) (ftc 1 1)) (fun k hk e => by have := HLT.out k hk; omega), (Fs.of_below HB6.out).setRow (g := w.heap.size) (fun h => by omega) (ftc 1 1), Nx.refl _ _⟩
end Go.Proofs.Ytaffmcbpfjdokaa
