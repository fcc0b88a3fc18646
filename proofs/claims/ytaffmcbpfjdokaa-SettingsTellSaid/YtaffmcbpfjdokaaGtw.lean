/-
  SettingsTell: the law's walk. No conditions.
-/
import Derived.Test.YtaffmcbpfjdokaaGtel
namespace Go.Proofs.Ytaffmcbpfjdokaa
open Go.RowKit Go.WideShapes

theorem sec_read {w : World} {i v : Nat} : RdS (w.alloc (.cells (sec i v) 39)) (· < (w.alloc (.cells (sec i v) 39)).heap.size) (some ⟨w.heap.size, 0, none⟩) (enl sgc [(i, v)]) := fun _ =>
  ⟨w.heap.size, 0, rfl, by simp, fun j u hj => by
    rw [Nat.zero_add]
    exact (Row.new w 39 (sec i v)).cell (by rw [enl_one, ← sec_l] at hj; simpa using hj)⟩
theorem zs_lit : zS.c = #[.int .u32 0, .bool false, .int .u32 0, .int .u32 0, .int .u32 0, .int .u32 0, .bool false] := rfl
theorem st_zero (y : St) (w : World) : (binOp .eql 24 (.agg y.c) (.agg #[.int .u32 0, .bool false, .int .u32 0, .int .u32 0, .int .u32 0, .int .u32 0, .bool false])).run Try.prog w = .ok (.bool (decide (y = zS))) w := st_eql y zS w
theorem st_nb (x : St) (w : World) : (binOp .neq 24 (.agg x.c) (.agg x.c)).run Try.prog w = .ok (.bool false) w := by rw [st_neq, decide_eq_true rfl]; rfl
theorem built_zero : Try.prog.built 24 [] = some zS.c := by kernel_rfl
theorem apN_single (s : St) (i u : Nat) : apN s s [(i, u)] = if wrN s i u = 0 then (stN s i u, 0) else (s, wrN s i u) := rfl
theorem eq99 {n : Nat} (h : n = 0 ∨ n = 1 ∨ n = 3) (h0 : n ≠ 0) : (((cdN n : Nat) : Int) == 99) = false := by rcases h with rfl | rfl | rfl <;> first | exact absurd rfl h0 | rfl
/-- Of settings that may be. -/
def TellOk (a b : St) : Prop := b.wn ≤ 2147483647 ∧ (16384 ≤ b.fr ∧ b.fr < 16777216) ∧ (b.co = true ∨ a.co = false)
theorem told_facts (a b : St) : ∃ T, tellN a b = T ∧ T.length ≤ 7 ∧ (∀ k, (h : k + 1 < T.length) → T[k].1 < T[k + 1].1) ∧ (∀ k, (h : k < T.length) → wrN zS T[k].1 T[k].2 = 0 → T[k].2 ≠ 0 → stN zS T[k].1 T[k].2 ≠ zS) ∧ (T.length = 0 ↔ a = b) ∧
    (TellOk a b → apN a a T = (b, 0)) :=
  ⟨tellN a b, rfl, tellN_len a b, fun _ h => tellN_rises h, fun _ h h0 hv => all_turns (tellN_mem (List.getElem_mem h)) h0 hv, tellN_nil, fun h => tell_apply h.1 h.2.1 h.2.2⟩
attribute [local irreducible] St.c ftc sec alc allN tellN

set_option maxRecDepth 100000 in
set_option maxHeartbeats 8000000 in
theorem tell_law (a b : St) (w : World) : Calls Try.prog 4 #[.agg a.c, .agg b.c] w fun e w' => e = .returned (.bool true) ∧ Below w.heap.size w w' := by
  have H2 : Hid (Row ((w.alloc (.cells a.c 24)).alloc (.cells b.c 24)) w.heap.size 24 a.c) := (Row.new w _ _).alloc _
  have H3 : Hid (Row ((w.alloc (.cells a.c 24)).alloc (.cells b.c 24)) (w.heap.size + 1) 24 b.c) := Row.made _ _ _ (by simp)
  have HB : Hid (Below w.heap.size w ((w.alloc (.cells a.c 24)).alloc (.cells b.c 24))) := ((Below.refl _ _).alloc (Nat.le_refl _) _).alloc (by simp) _
  go_enter Try.func4, Try.ntmps4
  go_upto_region 1 with fail
  generalize (w.alloc (.cells a.c 24)).alloc (.cells b.c 24) = w1 at *
  go_wp2_with (first | (refine wpList_ld rfl _ rfl rfl H2.out (St.ok _) ?_) | (refine wpList_ld rfl _ rfl rfl H3.out (St.ok _) ?_))
  refine (tell_any a b _).mono ?_
  rintro e w2 ⟨v, rfl, ho, hb2⟩
  obtain ⟨T, hT, x1, x2, x3, x4, x5⟩ := told_facts a b
  rw [hT] at ho
  have HL := Lib.hid x1
  have HRI := Lib.hid x2
  have HTU := Lib.hid x3
  have HEQ := Lib.hid x4
  have HAP := Lib.hid x5
  clear hT x1 x2 x3 x4 x5
  obtain ⟨w3, hw3, t1, t2, t3, t4⟩ := one_var w2 a
  have T1 := Lib.hid t1
  have T7 := Lib.hid t2
  have TW := Lib.hid hw3
  have hb3 := hb2.trans (t3.mono hb2.size)
  have X2 := Lib.hid (H2.out.below hb3 H2.out.lt)
  have X3 := Lib.hid (H3.out.below hb3 H3.out.lt)
  have L2 := Lib.hid (H2.out.below hb2 H2.out.lt)
  have HB3 := Lib.hid (HB.out.trans (hb3.mono HB.out.size))
  obtain ⟨A, c, rfl, _⟩ := ho.shape
  have HR := Lib.hid ((ho.below t3).up.imp (S' := (· < w3.heap.size)) fun _ h _ => h.2)
  clear ho t1 t2 t3 t4 hw3 hb2 hb3 H2 H3 HB
  go_upto_region 4 with (first | (refine wpList_ld rfl _ rfl rfl L2.out (St.ok _) ?_) | (refine wpList_sw (cs := a.c) rfl _ _ rfl rfl rfl T1.out (St.sz _ _) (St.ok _) ?_))
  rw [TW.out]
  clear T1 TW L2
  generalize w2.heap.size = p7 at *
  have hl7 := HL.out
  go_upto_region 5 with fail
  go_loopw [6, 21] (fun n i wr => ∃ k : Nat, k ≤ T.length ∧ i = .int .i64 k ∧ n = .int .i64 k ∧ Hid (Below w3.heap.size w3 wr))
    (fun _ i _ => T.length - (intOf i).toNat)
  case atStart => exact ⟨0, Nat.zero_le _, rfl, rfl, Below.refl _ _⟩
  case round =>
    obtain ⟨k, hk, rfl, rfl, HB⟩ := hrel
    by_cases hlt : k < T.length
    · obtain ⟨bb, q, rfl, hbb, f0, f1⟩ := (HR.out.below HB.out).sett hlt
      have HTk := Lib.hid (HTU.out k hlt)
      have hri := HRI.out
      have hbl : bb < wr.heap.size := Nat.lt_of_lt_of_le hbb HB.out.size
      cases k with
      | zero =>
        simp only [Nat.zero_mul, Nat.add_zero] at f0 f1
        generalize T[0].1 = i at *
        generalize T[0].2 = u at *
        have k1 : (0 : Int) < (T.length : Int) := by omega
        have HC : Hid (Row (wr.alloc (.cells #[.int .u16 (i : Int), .int .u32 (u : Int)] 39)) wr.heap.size 39 (sec i u)) := by show Row _ _ _ _; have := Row.new wr 39 (sec i u); unfold sec at this ⊢; exact this
        have HB4 := Lib.hid (HB.out.alloc HB.out.size (.cells #[.int .u16 (i : Int), .int .u32 (u : Int)] 39))
        clear hri hbb hbl HB
        go_upto_region 7 with fail
        clear f0 f1
        generalize wr.alloc (.cells #[.int .u16 (i : Int), .int .u32 (u : Int)] 39) = w4 at *
        generalize wr.heap.size = p9 at *
        refine wp_region_held_drew (S := fun w' => Row w' p9 39 (sec i u)) (by kernel_rfl) HC.out (fun hHeld => ?_)
        refine wpAnyH_take (i := 0) (v := ?v0) rfl (by kernel_rfl) (by kernel_rfl) (by kernel_rfl) (fun _ _ _ h => h) (Or.inl ⟨by rfl, ?hy0⟩) (by assumption) ?rest0
        case hy0 => (intro w hSw; (try dsimp only at hSw); go_simp <;> with_reducible rfl)
        try simp only [Act.put, List.getElem_toArray, List.getElem_cons_zero, List.setIfInBounds_toArray, List.set_cons_zero, List.set_cons_succ]
        refine wpAnyH_take (i := 1) (v := ?v1) rfl (by kernel_rfl) (by kernel_rfl) (by kernel_rfl) (fun _ _ _ h => h) (Or.inl ⟨by rfl, ?hy1⟩) (by assumption) ?rest1
        case hy1 => (intro w hSw; (try dsimp only at hSw); go_simp <;> with_reducible rfl)
        try simp only [Act.put, List.getElem_toArray, List.getElem_cons_zero, List.getElem_cons_succ, List.setIfInBounds_toArray, List.set_cons_zero, List.set_cons_succ]
        refine wpAnyH_take (i := 2) (v := ?v2) rfl (by kernel_rfl) (by kernel_rfl) (by kernel_rfl) (fun _ _ _ h => h) (Or.inl ⟨by rfl, ?hy2⟩) (by assumption) ?rest2
        case hy2 => (intro w hSw; (try dsimp only at hSw); go_simp <;> with_reducible rfl)
        try simp only [Act.put, List.getElem_toArray, List.getElem_cons_zero, List.getElem_cons_succ, List.setIfInBounds_toArray, List.set_cons_zero, List.set_cons_succ]
        refine wpAnyH_take (i := 3) (v := undef) rfl (by kernel_rfl) (by kernel_rfl) (by kernel_rfl) (fun _ _ _ h => h) (Or.inr ⟨by rfl, rfl⟩) (by assumption) ?rest3
        try simp only [Act.put, List.getElem_toArray, List.getElem_cons_zero, List.getElem_cons_succ, List.setIfInBounds_toArray, List.set_cons_zero, List.set_cons_succ]
        refine wpAnyH_take (i := 4) (v := undef) rfl (by kernel_rfl) (by kernel_rfl) (by kernel_rfl) (fun _ _ _ h => h) (Or.inr ⟨by rfl, rfl⟩) (by assumption) ?rest4
        try simp only [Act.put, List.getElem_toArray, List.getElem_cons_zero, List.getElem_cons_succ, List.setIfInBounds_toArray, List.set_cons_zero, List.set_cons_succ]
        refine wpAnyH_take (i := 5) (v := undef) rfl (by kernel_rfl) (by kernel_rfl) (by kernel_rfl) (fun _ _ _ h => h) (Or.inr ⟨by rfl, rfl⟩) (by assumption) ?rest5
        try simp only [Act.put, List.getElem_toArray, List.getElem_cons_zero, List.getElem_cons_succ, List.setIfInBounds_toArray, List.set_cons_zero, List.set_cons_succ]
        refine wpAnyH_take (i := 6) (v := undef) rfl (by kernel_rfl) (by kernel_rfl) (by kernel_rfl) (fun _ _ _ h => h) (Or.inr ⟨by rfl, rfl⟩) (by assumption) ?rest6
        try simp only [Act.put, List.getElem_toArray, List.getElem_cons_zero, List.getElem_cons_succ, List.setIfInBounds_toArray, List.set_cons_zero, List.set_cons_succ]
        refine wpAnyH_take (i := 7) (v := undef) rfl (by kernel_rfl) (by kernel_rfl) (by kernel_rfl) (fun _ _ _ h => h) (Or.inr ⟨by rfl, rfl⟩) (by assumption) ?rest7
        try simp only [Act.put, List.getElem_toArray, List.getElem_cons_zero, List.getElem_cons_succ, List.setIfInBounds_toArray, List.set_cons_zero, List.set_cons_succ]
        refine wpAnyH_take (i := 8) (v := undef) rfl (by kernel_rfl) (by kernel_rfl) (by kernel_rfl) (fun _ _ _ h => h) (Or.inr ⟨by rfl, rfl⟩) (by assumption) ?rest8
        try simp only [Act.put, List.getElem_toArray, List.getElem_cons_zero, List.getElem_cons_succ, List.setIfInBounds_toArray, List.set_cons_zero, List.set_cons_succ]
        refine wpAnyH_take (i := 9) (v := undef) rfl (by kernel_rfl) (by kernel_rfl) (by kernel_rfl) (fun _ _ _ h => h) (Or.inr ⟨by rfl, rfl⟩) (by assumption) ?rest9
        try simp only [Act.put, List.getElem_toArray, List.getElem_cons_zero, List.getElem_cons_succ, List.setIfInBounds_toArray, List.set_cons_zero, List.set_cons_succ]
        refine wpAnyH_take (i := 10) (v := undef) rfl (by kernel_rfl) (by kernel_rfl) (by kernel_rfl) (fun _ _ _ h => h) (Or.inr ⟨by rfl, rfl⟩) (by assumption) ?rest10
        try simp only [Act.put, List.getElem_toArray, List.getElem_cons_zero, List.getElem_cons_succ, List.setIfInBounds_toArray, List.set_cons_zero, List.set_cons_succ]
        refine wpAnyH_take (i := 11) (v := undef) rfl (by kernel_rfl) (by kernel_rfl) (by kernel_rfl) (fun _ _ _ h => h) (Or.inr ⟨by rfl, rfl⟩) (by assumption) ?rest11
        try simp only [Act.put, List.getElem_toArray, List.getElem_cons_zero, List.getElem_cons_succ, List.setIfInBounds_toArray, List.set_cons_zero, List.set_cons_succ]
        refine wpAnyH_take (i := 12) (v := ?v12) rfl (by kernel_rfl) (by kernel_rfl) (by kernel_rfl) (fun _ _ _ h => h) (Or.inl ⟨by rfl, ?hy12⟩) (by assumption) ?rest12
        case hy12 => (intro w hSw; (try dsimp only at hSw); go_simp <;> with_reducible rfl)
        try simp only [Act.put, List.getElem_toArray, List.getElem_cons_zero, List.getElem_cons_succ, List.setIfInBounds_toArray, List.set_cons_zero, List.set_cons_succ]
        refine wpAnyH_done (by kernel_rfl) ?_ _
        clear hHeld
        have HB5 := Lib.hid (below_dN HB4.out 1)
        have HC5 : Hid (Row (w4.drewN 1) p9 39 (sec i u)) := HC.out
        clear HB4 HC
        generalize hw5 : w4.drew = w5
        have hw5' : w4.drewN 1 = w5 := hw5
        rw [hw5'] at HB5 HC5
        clear hw5 hw5'
        have hra := rapply_any zS (c := 1) (sec_read (w := w5) (i := i) (v := u)) (by simp)
        unfold RaPost at hra
        rw [apN_single] at hra
        have HBs := Lib.hid ((Below.refl w5.heap.size w5).alloc (Nat.le_refl _) (.cells (sec i u) 39))
        by_cases hn : wrN zS i u = 0
        · rw [if_pos hn] at hra
          have HTn := Lib.hid (HTk.out hn)
          simp only [cdN_0] at hra
          clear hn HTk
          generalize stN zS i u = y at *
          go_wp2_with (first | (refine wpList_build_is rfl 24 _ rfl zS.c (by kernel_rfl) ?_) | (refine wpList_ld rfl _ rfl rfl HC5.out (se_ok _ _) ?_) | (refine wpList_bs1 (bs_se i u) rfl _ rfl rfl ?_))
          refine hra.mono ?_
          rintro e w6 ⟨rfl, hb6⟩
          obtain ⟨w7, hw7, t1, t2, t3, t4⟩ := one_var w6 y
          have T1 := Lib.hid t1
          have TW := Lib.hid hw7
          have Y7 := Lib.hid t2
          have hb7 := (HBs.out.trans (hb6.mono HBs.out.size)).trans (t3.mono (Nat.le_trans HBs.out.size hb6.size))
          have HC7 := Lib.hid (HC5.out.below hb7 HC5.out.lt)
          have HB7 := Lib.hid (HB5.out.trans (hb7.mono HB5.out.size))
          clear t1 t2 t3 t4 hw7 hb6 hb7 HC5 HB5 hra HBs
          go_upto_region 10 with (refine wpList_sw (cs := y.c) rfl _ _ rfl rfl rfl T1.out (St.sz _ _) (St.ok _) ?_)
          rw [TW.out]
          clear T1 TW
          generalize w6.heap.size = p10 at *
          have hz := st_zero y
          by_cases hy : y = zS
          · obtain rfl : u = 0 := Classical.byContradiction fun h0 => HTn.out h0 hy
            rw [decide_eq_true hy] at hz
            have x1 : w7.cell? ⟨p9, 1, none⟩ = some (.int .u32 0) := (se_cells HC7.out).2
            clear hy HTn
            go_wp2_with (refine wpList_ldg (by rfl) _ rfl rfl Y7.out (St.ok _) ?_)
            go_roundw
            case rel => exact ⟨1, by omega, by go_num, by go_num, HB7⟩
            case measure => simp [intOf]; omega
          · rw [decide_eq_false hy] at hz
            clear hy HTn
            go_wp2_with (refine wpList_ldg (by rfl) _ rfl rfl Y7.out (St.ok _) ?_)
            go_roundw
            case rel => exact ⟨1, by omega, by go_num, by go_num, HB7⟩
            case measure => simp [intOf]; omega
        · rw [if_neg hn] at hra
          have hle := wrN_le zS i u
          have hc9 := eq99 hle hn
          clear hn HTk hle
          generalize wrN zS i u = m at *
          simp only at hra
          generalize cdN m = cd at *
          go_wp2_with (first | (refine wpList_build_is rfl 24 _ rfl zS.c (by kernel_rfl) ?_) | (refine wpList_ld rfl _ rfl rfl HC5.out (se_ok _ _) ?_) | (refine wpList_bs1 (bs_se i u) rfl _ rfl rfl ?_))
          refine hra.mono ?_
          rintro e w6 ⟨rfl, hb6⟩
          obtain ⟨w7, hw7, t1, t2, t3, t4⟩ := one_var w6 zS
          have T1 := Lib.hid t1
          have TW := Lib.hid hw7
          have hb7 := (HBs.out.trans (hb6.mono HBs.out.size)).trans (t3.mono (Nat.le_trans HBs.out.size hb6.size))
          have HB7 := Lib.hid (HB5.out.trans (hb7.mono HB5.out.size))
          clear t1 t2 t3 t4 hw7 hb6 hb7 HC5 HB5 hra HBs
          go_upto_region 10 with (refine wpList_sw (cs := zS.c) rfl _ _ rfl rfl rfl T1.out (St.sz _ _) (St.ok _) ?_)
          rw [TW.out]
          clear T1 TW
          go_wp2_with fail
          go_roundw
          case rel => exact ⟨1, by omega, by go_num, by go_num, HB7⟩
          case measure => simp [intOf]; omega
      | succ j =>
        obtain ⟨bb', q', e', _, g0, _⟩ := (HR.out.below HB.out).sett (i := j) (by omega)
        injection e' with e'
        injection e' with e1' e2'
        subst e1' e2'
        have hri' := hri j hlt
        generalize T[j + 1].1 = i at *
        generalize T[j + 1].2 = u at *
        generalize (T[j]'(by omega)).1 = ip at *
        have k0 : (0 : Int) ≤ ((j + 1 : Nat) : Int) := by omega
        have k1 : ((j + 1 : Nat) : Int) < (T.length : Int) := by omega
        have HC : Hid (Row (wr.alloc (.cells #[.int .u16 (i : Int), .int .u32 (u : Int)] 39)) wr.heap.size 39 (sec i u)) := by show Row _ _ _ _; have := Row.new wr 39 (sec i u); unfold sec at this ⊢; exact this
        have HB4 := Lib.hid (HB.out.alloc HB.out.size (.cells #[.int .u16 (i : Int), .int .u32 (u : Int)] 39))
        have HG := Lib.hid ((World.cell?_alloc_lt wr (.cells #[.int .u16 (i : Int), .int .u32 (u : Int)] 39) ⟨bb, q + j * 2, none⟩ hbl).trans g0)
        clear hri hbb hbl HB g0
        go_upto_region 7 with fail
        clear f0 f1
        generalize wr.alloc (.cells #[.int .u16 (i : Int), .int .u32 (u : Int)] 39) = w4 at *
        generalize wr.heap.size = p9 at *
        have j0 : (0 : Int) < ((j + 1 : Nat) : Int) := by omega
        have j1 : IntKind.i64.wrap (j : Int) = (j : Int) := IntWalk.i64_in _ (by omega)
        have j2 : (0 : Int) ≤ (j : Int) := by omega
        have j3 : (j : Int) < (T.length : Int) := by omega
        have j4 : decide (i ≤ ip) = false := by simp; omega
        have j5 : decide ((i : Int) ≤ (ip : Int)) = false := by simp; omega
        have x0 := (se_cells HC.out).1
        have g0 := HG.out
        refine wp_region_held_drew (S := fun w' => w'.cell? ⟨bb, q + j * 2, none⟩ = some (.int .u16 (ip : Int)) ∧ w'.cell? ⟨p9, 0, none⟩ = some (.int .u16 (i : Int))) (by kernel_rfl) ⟨g0, x0⟩ (fun hHeld => ?_)
        refine wpAnyH_take (i := 0) (v := ?v0q1) rfl (by kernel_rfl) (by kernel_rfl) (by kernel_rfl) (fun _ _ _ h => h) (Or.inl ⟨by rfl, ?hy0q1⟩) (by assumption) ?rest0q1
        case hy0q1 => (intro w hSw; (try dsimp only at hSw); go_simp <;> with_reducible rfl)
        try simp only [Act.put, List.getElem_toArray, List.getElem_cons_zero, List.setIfInBounds_toArray, List.set_cons_zero, List.set_cons_succ]
        refine wpAnyH_take (i := 1) (v := ?v1q1) rfl (by kernel_rfl) (by kernel_rfl) (by kernel_rfl) (fun _ _ _ h => h) (Or.inl ⟨by rfl, ?hy1q1⟩) (by assumption) ?rest1q1
        case hy1q1 => (intro w hSw; (try dsimp only at hSw); go_simp <;> with_reducible rfl)
        try simp only [Act.put, List.getElem_toArray, List.getElem_cons_zero, List.getElem_cons_succ, List.setIfInBounds_toArray, List.set_cons_zero, List.set_cons_succ]
        refine wpAnyH_take (i := 2) (v := ?v2q1) rfl (by kernel_rfl) (by kernel_rfl) (by kernel_rfl) (fun _ _ _ h => h) (Or.inl ⟨by rfl, ?hy2q1⟩) (by assumption) ?rest2q1
        case hy2q1 => (intro w hSw; (try dsimp only at hSw); go_simp <;> with_reducible rfl)
        try simp only [Act.put, List.getElem_toArray, List.getElem_cons_zero, List.getElem_cons_succ, List.setIfInBounds_toArray, List.set_cons_zero, List.set_cons_succ]
        refine wpAnyH_take (i := 3) (v := ?v3q1) rfl (by kernel_rfl) (by kernel_rfl) (by kernel_rfl) (fun _ _ _ h => h) (Or.inl ⟨by rfl, ?hy3q1⟩) (by assumption) ?rest3q1
        case hy3q1 => (intro w hSw; (try dsimp only at hSw); go_simp <;> with_reducible rfl)
        try simp only [Act.put, List.getElem_toArray, List.getElem_cons_zero, List.getElem_cons_succ, List.setIfInBounds_toArray, List.set_cons_zero, List.set_cons_succ]
        refine wpAnyH_take (i := 4) (v := ?v4q1) rfl (by kernel_rfl) (by kernel_rfl) (by kernel_rfl) (fun _ _ _ h => h) (Or.inl ⟨by rfl, ?hy4q1⟩) (by assumption) ?rest4q1
        case hy4q1 => (intro w hSw; (try dsimp only at hSw); go_simp <;> with_reducible rfl)
        try simp only [Act.put, List.getElem_toArray, List.getElem_cons_zero, List.getElem_cons_succ, List.setIfInBounds_toArray, List.set_cons_zero, List.set_cons_succ]
        refine wpAnyH_take (i := 5) (v := ?v5q1) rfl (by kernel_rfl) (by kernel_rfl) (by kernel_rfl) (fun _ _ _ h => h) (Or.inl ⟨by rfl, ?hy5q1⟩) (by assumption) ?rest5q1
        case hy5q1 => (intro w hSw; (try dsimp only at hSw); go_simp <;> with_reducible rfl)
        try simp only [Act.put, List.getElem_toArray, List.getElem_cons_zero, List.getElem_cons_succ, List.setIfInBounds_toArray, List.set_cons_zero, List.set_cons_succ]
        refine wpAnyH_take (i := 6) (v := ?v6q1) rfl (by kernel_rfl) (by kernel_rfl) (by kernel_rfl) (fun _ _ _ h => h) (Or.inl ⟨by rfl, ?hy6q1⟩) (by assumption) ?rest6q1
        case hy6q1 => (intro w hSw; (try dsimp only at hSw); go_simp <;> with_reducible rfl)
        try simp only [Act.put, List.getElem_toArray, List.getElem_cons_zero, List.getElem_cons_succ, List.setIfInBounds_toArray, List.set_cons_zero, List.set_cons_succ]
        refine wpAnyH_take (i := 7) (v := ?v7q1) rfl (by kernel_rfl) (by kernel_rfl) (by kernel_rfl) (fun _ _ _ h => h) (Or.inl ⟨by rfl, ?hy7q1⟩) (by assumption) ?rest7q1
        case hy7q1 => (intro w hSw; (try dsimp only at hSw); go_simp <;> with_reducible rfl)
        try simp only [Act.put, List.getElem_toArray, List.getElem_cons_zero, List.getElem_cons_succ, List.setIfInBounds_toArray, List.set_cons_zero, List.set_cons_succ]
        refine wpAnyH_take (i := 8) (v := ?v8q1) rfl (by kernel_rfl) (by kernel_rfl) (by kernel_rfl) (fun _ _ _ h => h) (Or.inl ⟨by rfl, ?hy8q1⟩) (by assumption) ?rest8q1
        case hy8q1 => (intro w hSw; (try dsimp only at hSw); go_simp <;> with_reducible rfl)
        try simp only [Act.put, List.getElem_toArray, List.getElem_cons_zero, List.getElem_cons_succ, List.setIfInBounds_toArray, List.set_cons_zero, List.set_cons_succ]
        refine wpAnyH_take (i := 9) (v := ?v9q1) rfl (by kernel_rfl) (by kernel_rfl) (by kernel_rfl) (fun _ _ _ h => h) (Or.inl ⟨by rfl, ?hy9q1⟩) (by assumption) ?rest9q1
        case hy9q1 => (intro w hSw; (try dsimp only at hSw); go_simp <;> with_reducible rfl)
        try simp only [Act.put, List.getElem_toArray, List.getElem_cons_zero, List.getElem_cons_succ, List.setIfInBounds_toArray, List.set_cons_zero, List.set_cons_succ]
        refine wpAnyH_take (i := 10) (v := ?v10q1) rfl (by kernel_rfl) (by kernel_rfl) (by kernel_rfl) (fun _ _ _ h => h) (Or.inl ⟨by rfl, ?hy10q1⟩) (by assumption) ?rest10q1
        case hy10q1 => (intro w hSw; (try dsimp only at hSw); go_simp <;> with_reducible rfl)
        try simp only [Act.put, List.getElem_toArray, List.getElem_cons_zero, List.getElem_cons_succ, List.setIfInBounds_toArray, List.set_cons_zero, List.set_cons_succ]
        refine wpAnyH_take (i := 11) (v := ?v11q1) rfl (by kernel_rfl) (by kernel_rfl) (by kernel_rfl) (fun _ _ _ h => h) (Or.inl ⟨by rfl, ?hy11q1⟩) (by assumption) ?rest11q1
        case hy11q1 => (intro w hSw; (try dsimp only at hSw); go_simp <;> with_reducible rfl)
        try simp only [Act.put, List.getElem_toArray, List.getElem_cons_zero, List.getElem_cons_succ, List.setIfInBounds_toArray, List.set_cons_zero, List.set_cons_succ]
        refine wpAnyH_take (i := 12) (v := ?v12q1) rfl (by kernel_rfl) (by kernel_rfl) (by kernel_rfl) (fun _ _ _ h => h) (Or.inl ⟨by rfl, ?hy12q1⟩) (by assumption) ?rest12q1
        case hy12q1 => (intro w hSw; (try dsimp only at hSw); go_simp <;> with_reducible rfl)
        try simp only [Act.put, List.getElem_toArray, List.getElem_cons_zero, List.getElem_cons_succ, List.setIfInBounds_toArray, List.set_cons_zero, List.set_cons_succ]
        refine wpAnyH_done (by kernel_rfl) ?_ _
        clear hHeld j0 j1 j2 j3 j4 j5 x0 g0 HG
        have HB5 := Lib.hid (below_dN HB4.out 1)
        have HC5 : Hid (Row (w4.drewN 1) p9 39 (sec i u)) := HC.out
        clear HB4 HC
        generalize hw5 : w4.drew = w5
        have hw5' : w4.drewN 1 = w5 := hw5
        rw [hw5'] at HB5 HC5
        clear hw5 hw5'
        have hra := rapply_any zS (c := 1) (sec_read (w := w5) (i := i) (v := u)) (by simp)
        unfold RaPost at hra
        rw [apN_single] at hra
        have HBs := Lib.hid ((Below.refl w5.heap.size w5).alloc (Nat.le_refl _) (.cells (sec i u) 39))
        by_cases hn : wrN zS i u = 0
        · rw [if_pos hn] at hra
          have HTn := Lib.hid (HTk.out hn)
          simp only [cdN_0] at hra
          clear hn HTk
          generalize stN zS i u = y at *
          go_wp2_with (first | (refine wpList_build_is rfl 24 _ rfl zS.c (by kernel_rfl) ?_) | (refine wpList_ld rfl _ rfl rfl HC5.out (se_ok _ _) ?_) | (refine wpList_bs1 (bs_se i u) rfl _ rfl rfl ?_))
          refine hra.mono ?_
          rintro e w6 ⟨rfl, hb6⟩
          obtain ⟨w7, hw7, t1, t2, t3, t4⟩ := one_var w6 y
          have T1 := Lib.hid t1
          have TW := Lib.hid hw7
          have Y7 := Lib.hid t2
          have hb7 := (HBs.out.trans (hb6.mono HBs.out.size)).trans (t3.mono (Nat.le_trans HBs.out.size hb6.size))
          have HC7 := Lib.hid (HC5.out.below hb7 HC5.out.lt)
          have HB7 := Lib.hid (HB5.out.trans (hb7.mono HB5.out.size))
          clear t1 t2 t3 t4 hw7 hb6 hb7 HC5 HB5 hra HBs
          go_upto_region 10 with (refine wpList_sw (cs := y.c) rfl _ _ rfl rfl rfl T1.out (St.sz _ _) (St.ok _) ?_)
          rw [TW.out]
          clear T1 TW
          generalize w6.heap.size = p10 at *
          have hz := st_zero y
          by_cases hy : y = zS
          · obtain rfl : u = 0 := Classical.byContradiction fun h0 => HTn.out h0 hy
            rw [decide_eq_true hy] at hz
            have x1 : w7.cell? ⟨p9, 1, none⟩ = some (.int .u32 0) := (se_cells HC7.out).2
            clear hy HTn
            go_wp2_with (refine wpList_ldg (by rfl) _ rfl rfl Y7.out (St.ok _) ?_)
            go_roundw
            case rel => exact ⟨j + 1 + 1, by omega, by go_num, by go_num, HB7⟩
            case measure => simp [intOf]; omega
          · rw [decide_eq_false hy] at hz
            clear hy HTn
            go_wp2_with (refine wpList_ldg (by rfl) _ rfl rfl Y7.out (St.ok _) ?_)
            go_roundw
            case rel => exact ⟨j + 1 + 1, by omega, by go_num, by go_num, HB7⟩
            case measure => simp [intOf]; omega
        · rw [if_neg hn] at hra
          have hle := wrN_le zS i u
          have hc9 := eq99 hle hn
          clear hn HTk hle
          generalize wrN zS i u = m at *
          simp only at hra
          generalize cdN m = cd at *
          go_wp2_with (first | (refine wpList_build_is rfl 24 _ rfl zS.c (by kernel_rfl) ?_) | (refine wpList_ld rfl _ rfl rfl HC5.out (se_ok _ _) ?_) | (refine wpList_bs1 (bs_se i u) rfl _ rfl rfl ?_))
          refine hra.mono ?_
          rintro e w6 ⟨rfl, hb6⟩
          obtain ⟨w7, hw7, t1, t2, t3, t4⟩ := one_var w6 zS
          have T1 := Lib.hid t1
          have TW := Lib.hid hw7
          have hb7 := (HBs.out.trans (hb6.mono HBs.out.size)).trans (t3.mono (Nat.le_trans HBs.out.size hb6.size))
          have HB7 := Lib.hid (HB5.out.trans (hb7.mono HB5.out.size))
          clear t1 t2 t3 t4 hw7 hb6 hb7 HC5 HB5 hra HBs
          go_upto_region 10 with (refine wpList_sw (cs := zS.c) rfl _ _ rfl rfl rfl T1.out (St.sz _ _) (St.ok _) ?_)
          rw [TW.out]
          clear T1 TW
          go_wp2_with fail
          go_roundw
          case rel => exact ⟨j + 1 + 1, by omega, by go_num, by go_num, HB7⟩
          case measure => simp [intOf]; omega
    · obtain rfl : k = T.length := by omega
      have X2r := Lib.hid (X2.out.below HB.out X2.out.lt)
      have X3r := Lib.hid (X3.out.below HB.out X3.out.lt)
      obtain ⟨a0, a1, a2, a3, a4, a5, a6⟩ := st_cells X2r.out
      obtain ⟨b0, b1, b2, b3, b4, b5, b6⟩ := st_cells X3r.out
      have X7r := Lib.hid (T7.out.below HB.out T7.out.lt)
      have HBr := Lib.hid (HB3.out.trans (HB.out.mono HB3.out.size))
      obtain ⟨d, hd⟩ : ∃ d, decide (a = b) = d := ⟨_, rfl⟩
      have hse : ∀ w, (binOp .eql 24 (.agg a.c) (.agg b.c)).run Try.prog w = .ok (.bool d) w := fun w => by rw [st_eql, hd]
      have hle : ((T.length : Int) == 0) = d := by rw [← hd, show ((T.length : Int) == 0) = decide (T.length = 0) from nat_eq T.length 0]; exact decide_eq_decide.2 HEQ.out
      have h7 : (T.length : Int) ≤ 7 := by omega
      have hdd : (d == d) = true := by simp
      have HAP' : Hid (a.wn ≤ 2147483647 → TellOk a b → apN a a T = (b, 0)) := fun _ => HAP.out
      clear HRI HTU a0 a1 a2 a4 a5 b0 b1 b2 b5 hd HEQ HAP HL hl7 X2 X3 T7 HB3
      by_cases h1 : a.wn ≤ 2147483647
      case neg =>
        have n1 : decide ((a.wn : Int) ≤ 2147483647) = false := by simp; omega
        clear h1 HAP' X7r
        go_upto_region 18 with fail
        clear n1 a3 b3 b4 b6 a6
        go_wp2_with (refine wpList_ld rfl _ rfl rfl X3r.out (St.ok _) ?_)
        refine (tell_any b b _).mono ?_
        rintro e wa ⟨v8, rfl, ho8, hb8⟩
        rw [tellN_self] at ho8
        obtain ⟨A8, c8, rfl, _⟩ := ho8.shape
        have XA8 := Lib.hid (X2r.out.below hb8 X2r.out.lt)
        have XB8 := Lib.hid (X3r.out.below hb8 X3r.out.lt)
        have HB8 := Lib.hid (HBr.out.trans (hb8.mono HBr.out.size))
        clear ho8 hb8 X2r X3r HBr HR HB
        go_wp2_with fail
        refine (fixed_any _).mono ?_
        rintro e wb ⟨rfl, hb9⟩
        have XA9 := Lib.hid (XA8.out.below hb9 XA8.out.lt)
        have XB9 := Lib.hid (XB8.out.below hb9 XB8.out.lt)
        have HB9 := Lib.hid (HB8.out.trans (hb9.mono HB8.out.size))
        clear hb9 XA8 XB8 HB8
        go_wp2_with (first | (refine wpList_ldg (by rfl) _ rfl rfl XA9.out (St.ok _) ?_) | (refine wpList_ldg (by rfl) _ rfl rfl XB9.out (St.ok _) ?_))
        go_ret
        exact ⟨rfl, HB9.out⟩
      have n1 : (a.wn : Int) ≤ 2147483647 := by omega
      by_cases h2 : b.wn ≤ 2147483647
      case neg =>
        have n2 : decide ((b.wn : Int) ≤ 2147483647) = false := by simp; omega
        clear h1 h2 HAP' X7r
        go_upto_region 18 with fail
        clear n1 n2 a3 b3 b4 b6 a6
        go_wp2_with (refine wpList_ld rfl _ rfl rfl X3r.out (St.ok _) ?_)
        refine (tell_any b b _).mono ?_
        rintro e wa ⟨v8, rfl, ho8, hb8⟩
        rw [tellN_self] at ho8
        obtain ⟨A8, c8, rfl, _⟩ := ho8.shape
        have XA8 := Lib.hid (X2r.out.below hb8 X2r.out.lt)
        have XB8 := Lib.hid (X3r.out.below hb8 X3r.out.lt)
        have HB8 := Lib.hid (HBr.out.trans (hb8.mono HBr.out.size))
        clear ho8 hb8 X2r X3r HBr HR HB
        go_wp2_with fail
        refine (fixed_any _).mono ?_
        rintro e wb ⟨rfl, hb9⟩
        have XA9 := Lib.hid (XA8.out.below hb9 XA8.out.lt)
        have XB9 := Lib.hid (XB8.out.below hb9 XB8.out.lt)
        have HB9 := Lib.hid (HB8.out.trans (hb9.mono HB8.out.size))
        clear hb9 XA8 XB8 HB8
        go_wp2_with (first | (refine wpList_ldg (by rfl) _ rfl rfl XA9.out (St.ok _) ?_) | (refine wpList_ldg (by rfl) _ rfl rfl XB9.out (St.ok _) ?_))
        go_ret
        exact ⟨rfl, HB9.out⟩
      have n2 : (b.wn : Int) ≤ 2147483647 := by omega
      by_cases h3 : 16384 ≤ b.fr
      case neg =>
        have n3 : decide ((16384 : Int) ≤ (b.fr : Int)) = false := by simp; omega
        clear h1 h2 h3 HAP' X7r
        go_upto_region 18 with fail
        clear n1 n2 n3 a3 b3 b4 b6 a6
        go_wp2_with (refine wpList_ld rfl _ rfl rfl X3r.out (St.ok _) ?_)
        refine (tell_any b b _).mono ?_
        rintro e wa ⟨v8, rfl, ho8, hb8⟩
        rw [tellN_self] at ho8
        obtain ⟨A8, c8, rfl, _⟩ := ho8.shape
        have XA8 := Lib.hid (X2r.out.below hb8 X2r.out.lt)
        have XB8 := Lib.hid (X3r.out.below hb8 X3r.out.lt)
        have HB8 := Lib.hid (HBr.out.trans (hb8.mono HBr.out.size))
        clear ho8 hb8 X2r X3r HBr HR HB
        go_wp2_with fail
        refine (fixed_any _).mono ?_
        rintro e wb ⟨rfl, hb9⟩
        have XA9 := Lib.hid (XA8.out.below hb9 XA8.out.lt)
        have XB9 := Lib.hid (XB8.out.below hb9 XB8.out.lt)
        have HB9 := Lib.hid (HB8.out.trans (hb9.mono HB8.out.size))
        clear hb9 XA8 XB8 HB8
        go_wp2_with (first | (refine wpList_ldg (by rfl) _ rfl rfl XA9.out (St.ok _) ?_) | (refine wpList_ldg (by rfl) _ rfl rfl XB9.out (St.ok _) ?_))
        go_ret
        exact ⟨rfl, HB9.out⟩
      have n3 : (16384 : Int) ≤ (b.fr : Int) := by omega
      by_cases h4 : b.fr < 16777216
      case neg =>
        have n4 : decide ((b.fr : Int) < 16777216) = false := by simp; omega
        clear h1 h2 h3 h4 HAP' X7r
        go_upto_region 18 with fail
        clear n1 n2 n3 n4 a3 b3 b4 b6 a6
        go_wp2_with (refine wpList_ld rfl _ rfl rfl X3r.out (St.ok _) ?_)
        refine (tell_any b b _).mono ?_
        rintro e wa ⟨v8, rfl, ho8, hb8⟩
        rw [tellN_self] at ho8
        obtain ⟨A8, c8, rfl, _⟩ := ho8.shape
        have XA8 := Lib.hid (X2r.out.below hb8 X2r.out.lt)
        have XB8 := Lib.hid (X3r.out.below hb8 X3r.out.lt)
        have HB8 := Lib.hid (HBr.out.trans (hb8.mono HBr.out.size))
        clear ho8 hb8 X2r X3r HBr HR HB
        go_wp2_with fail
        refine (fixed_any _).mono ?_
        rintro e wb ⟨rfl, hb9⟩
        have XA9 := Lib.hid (XA8.out.below hb9 XA8.out.lt)
        have XB9 := Lib.hid (XB8.out.below hb9 XB8.out.lt)
        have HB9 := Lib.hid (HB8.out.trans (hb9.mono HB8.out.size))
        clear hb9 XA8 XB8 HB8
        go_wp2_with (first | (refine wpList_ldg (by rfl) _ rfl rfl XA9.out (St.ok _) ?_) | (refine wpList_ldg (by rfl) _ rfl rfl XB9.out (St.ok _) ?_))
        go_ret
        exact ⟨rfl, HB9.out⟩
      have n4 : (b.fr : Int) < 16777216 := by omega
      have hbc : b.co = true ∨ (b.co = false ∧ a.co = true) ∨ (b.co = false ∧ a.co = false) := by cases b.co <;> cases a.co <;> simp
      rcases hbc with hc | ⟨hc, hc2⟩ | ⟨hc, hc2⟩
      · have HAPok := Lib.hid (HAP'.out h1 ⟨h2, ⟨h3, h4⟩, .inl hc⟩)
        rw [hc] at b6
        clear h1 h2 h3 h4 hc HAP'
        go_upto_region 15 with fail
        have hra := rapply_any a (c := c) (HR.out.up HB.out) (by omega)
        unfold RaPost at hra
        rw [HAPok.out] at hra
        simp only [cdN_0] at hra
        go_wp2_with (refine wpList_ld rfl _ rfl rfl X7r.out (St.ok _) ?_)
        refine hra.mono ?_
        rintro e w6 ⟨rfl, hb6⟩
        obtain ⟨w7, hw7, t1, t2, t3, t4⟩ := one_var w6 b
        have T1 := Lib.hid t1
        have TW := Lib.hid hw7
        have Y7 := Lib.hid t2
        have hb7 := hb6.trans (t3.mono hb6.size)
        have XA7 := Lib.hid (X2r.out.below hb7 X2r.out.lt)
        have XB7 := Lib.hid (X3r.out.below hb7 X3r.out.lt)
        have HB7 := Lib.hid (HBr.out.trans (hb7.mono HBr.out.size))
        have hnb := st_nb b
        clear t1 t2 t3 t4 hw7 hb6 hb7 hra X2r X3r X7r HBr HAPok HR HB n1 n2 n3 n4 a3 b3 b4 b6 a6
        go_upto_region 16 with (refine wpList_sw (cs := b.c) rfl _ _ rfl rfl rfl T1.out (St.sz _ _) (St.ok _) ?_)
        rw [TW.out]
        clear T1 TW
        generalize w6.heap.size = p12 at *
        go_upto_region 18 with (first | (refine wpList_ldg (by rfl) _ rfl rfl Y7.out (St.ok _) ?_) | (refine wpList_ldg (by rfl) _ rfl rfl XB7.out (St.ok _) ?_))
        clear Y7 hnb
        go_wp2_with (refine wpList_ld rfl _ rfl rfl XB7.out (St.ok _) ?_)
        refine (tell_any b b _).mono ?_
        rintro e wa ⟨v8, rfl, ho8, hb8⟩
        rw [tellN_self] at ho8
        obtain ⟨A8, c8, rfl, _⟩ := ho8.shape
        have XA8 := Lib.hid (XA7.out.below hb8 XA7.out.lt)
        have XB8 := Lib.hid (XB7.out.below hb8 XB7.out.lt)
        have HB8 := Lib.hid (HB7.out.trans (hb8.mono HB7.out.size))
        clear ho8 hb8 XA7 XB7 HB7
        go_wp2_with fail
        refine (fixed_any _).mono ?_
        rintro e wb ⟨rfl, hb9⟩
        have XA9 := Lib.hid (XA8.out.below hb9 XA8.out.lt)
        have XB9 := Lib.hid (XB8.out.below hb9 XB8.out.lt)
        have HB9 := Lib.hid (HB8.out.trans (hb9.mono HB8.out.size))
        clear hb9 XA8 XB8 HB8
        go_wp2_with (first | (refine wpList_ldg (by rfl) _ rfl rfl XA9.out (St.ok _) ?_) | (refine wpList_ldg (by rfl) _ rfl rfl XB9.out (St.ok _) ?_))
        go_ret
        exact ⟨rfl, HB9.out⟩
      · rw [hc] at b6
        rw [hc2] at a6
        clear h1 h2 h3 h4 hc hc2 HAP' X7r
        go_upto_region 18 with fail
        clear n1 n2 n3 n4 a3 b3 b4 b6 a6
        go_wp2_with (refine wpList_ld rfl _ rfl rfl X3r.out (St.ok _) ?_)
        refine (tell_any b b _).mono ?_
        rintro e wa ⟨v8, rfl, ho8, hb8⟩
        rw [tellN_self] at ho8
        obtain ⟨A8, c8, rfl, _⟩ := ho8.shape
        have XA8 := Lib.hid (X2r.out.below hb8 X2r.out.lt)
        have XB8 := Lib.hid (X3r.out.below hb8 X3r.out.lt)
        have HB8 := Lib.hid (HBr.out.trans (hb8.mono HBr.out.size))
        clear ho8 hb8 X2r X3r HBr HR HB
        go_wp2_with fail
        refine (fixed_any _).mono ?_
        rintro e wb ⟨rfl, hb9⟩
        have XA9 := Lib.hid (XA8.out.below hb9 XA8.out.lt)
        have XB9 := Lib.hid (XB8.out.below hb9 XB8.out.lt)
        have HB9 := Lib.hid (HB8.out.trans (hb9.mono HB8.out.size))
        clear hb9 XA8 XB8 HB8
        go_wp2_with (first | (refine wpList_ldg (by rfl) _ rfl rfl XA9.out (St.ok _) ?_) | (refine wpList_ldg (by rfl) _ rfl rfl XB9.out (St.ok _) ?_))
        go_ret
        exact ⟨rfl, HB9.out⟩
      · have HAPok := Lib.hid (HAP'.out h1 ⟨h2, ⟨h3, h4⟩, .inr hc2⟩)
        rw [hc] at b6
        rw [hc2] at a6
        clear h1 h2 h3 h4 hc hc2 HAP'
        go_upto_region 15 with fail
        have hra := rapply_any a (c := c) (HR.out.up HB.out) (by omega)
        unfold RaPost at hra
        rw [HAPok.out] at hra
        simp only [cdN_0] at hra
        go_wp2_with (refine wpList_ld rfl _ rfl rfl X7r.out (St.ok _) ?_)
        refine hra.mono ?_
        rintro e w6 ⟨rfl, hb6⟩
        obtain ⟨w7, hw7, t1, t2, t3, t4⟩ := one_var w6 b
        have T1 := Lib.hid t1
        have TW := Lib.hid hw7
        have Y7 := Lib.hid t2
        have hb7 := hb6.trans (t3.mono hb6.size)
        have XA7 := Lib.hid (X2r.out.below hb7 X2r.out.lt)
        have XB7 := Lib.hid (X3r.out.below hb7 X3r.out.lt)
        have HB7 := Lib.hid (HBr.out.trans (hb7.mono HBr.out.size))
        have hnb := st_nb b
        clear t1 t2 t3 t4 hw7 hb6 hb7 hra X2r X3r X7r HBr HAPok HR HB n1 n2 n3 n4 a3 b3 b4 b6 a6
        go_upto_region 16 with (refine wpList_sw (cs := b.c) rfl _ _ rfl rfl rfl T1.out (St.sz _ _) (St.ok _) ?_)
        rw [TW.out]
        clear T1 TW
        generalize w6.heap.size = p12 at *
        go_upto_region 18 with (first | (refine wpList_ldg (by rfl) _ rfl rfl Y7.out (St.ok _) ?_) | (refine wpList_ldg (by rfl) _ rfl rfl XB7.out (St.ok _) ?_))
        clear Y7 hnb
        go_wp2_with (refine wpList_ld rfl _ rfl rfl XB7.out (St.ok _) ?_)
        refine (tell_any b b _).mono ?_
        rintro e wa ⟨v8, rfl, ho8, hb8⟩
        rw [tellN_self] at ho8
        obtain ⟨A8, c8, rfl, _⟩ := ho8.shape
        have XA8 := Lib.hid (XA7.out.below hb8 XA7.out.lt)
        have XB8 := Lib.hid (XB7.out.below hb8 XB7.out.lt)
        have HB8 := Lib.hid (HB7.out.trans (hb8.mono HB7.out.size))
        clear ho8 hb8 XA7 XB7 HB7
        go_wp2_with fail
        refine (fixed_any _).mono ?_
        rintro e wb ⟨rfl, hb9⟩
        have XA9 := Lib.hid (XA8.out.below hb9 XA8.out.lt)
        have XB9 := Lib.hid (XB8.out.below hb9 XB8.out.lt)
        have HB9 := Lib.hid (HB8.out.trans (hb9.mono HB8.out.size))
        clear hb9 XA8 XB8 HB8
        go_wp2_with (first | (refine wpList_ldg (by rfl) _ rfl rfl XA9.out (St.ok _) ?_) | (refine wpList_ldg (by rfl) _ rfl rfl XB9.out (St.ok _) ?_))
        go_ret
        exact ⟨rfl, HB9.out⟩
end Go.Proofs.Ytaffmcbpfjdokaa
