/-
  settings' Tell, by its contract. No conditions.
-/
import Derived.Test.YtaffmcbpfjdokaaGall
import Derived.Test.YtaffmcbpfjdokaaGsend
namespace Go.Proofs.Ytaffmcbpfjdokaa
open Go.RowKit Go.WideShapes

theorem alc_reads {w : World} {g : Nat} {s : St} (h : Row w g 39 (alc s)) : RdS w (fun k => k = g) (some ⟨g, 0, none⟩) (enl sgc (allN s)) := fun _ => ⟨g, 0, rfl, rfl, fun j u hj => by
  rw [Nat.zero_add]
  exact h.cell (by have hj' : (alc s).toList[j]? = some u := hj; simpa using hj')⟩
theorem se_full : (Try.prog.info? 39).map (fun i => (i.zero, i.size, i.bytes)) = some (some (.agg #[.int .u16 0, .int .u32 0]), 2, 8) := by kernel_rfl
theorem bs_se (i v : Nat) (w : World) : (Instr.buildSlice 25 1 #[(0, .agg (sec i v))]).run Try.prog w = .ok (.slice (some ⟨w.heap.size, 0, none⟩) 1 1) (w.alloc (.cells (sec i v) 39)) := by unfold sec; kernel_rfl
theorem sec_l (i v : Nat) : (sec i v).toList = sgc (i, v) := rfl
theorem se_same (i v : Nat) (w : World) : (binOp .neq 39 (.agg (sec i v)) (.agg (sec i v))).run Try.prog w = .ok (.bool false) w := by rw [se_neq, decide_eq_true rfl]; rfl
theorem se_other {i v i' v' : Nat} (h : ¬ (i, v) = (i', v')) (w : World) : (binOp .neq 39 (.agg (sec i v)) (.agg (sec i' v'))).run Try.prog w = .ok (.bool true) w := by rw [se_neq, decide_eq_false h]; rfl
/-- What lies in memory while Tell goes through the settings. -/
structure TlI (w wr : World) (g1 g2 : Nat) (a b : St) (v : Value) (T : List (Nat × Nat)) : Prop where
  r1 : Row wr g1 39 (alc a)
  r2 : Row wr g2 39 (alc b)
  ow : OwS wr w.heap.size 39 2 v T.length (enl sgc T)
  hb : Below w.heap.size w wr
  d1 : ¬ ob v g1
  d2 : ¬ ob v g2
theorem TlI.below {w wr w' : World} {g1 g2 : Nat} {a b : St} {v : Value} {T : List (Nat × Nat)} (h : TlI w wr g1 g2 a b v T) (hb : Below wr.heap.size wr w') : TlI w w' g1 g2 a b v T :=
  ⟨h.r1.below hb h.r1.lt, h.r2.below hb h.r2.lt, h.ow.below hb, h.hb.trans (hb.mono h.hb.size), h.d1, h.d2⟩
theorem TlI.grow {w wr w' : World} {g1 g2 : Nat} {a b : St} {v v' : Value} {T T' : List (Nat × Nat)} (h : TlI w wr g1 g2 a b v T) (hg : wr.grownBy w' v.ownBlock) (ho : OwS w' w.heap.size 39 2 v' T'.length (enl sgc T')) (hn : v'.ownBlock = v.ownBlock ∨ v'.ownBlock = some wr.heap.size) : TlI w w' g1 g2 a b v' T' := by
  have hf := Fs.of_grown hg
  have hx := Nx.of_new hn
  have h6 : ∀ k, k < wr.heap.size → ¬ ob v k → ¬ ob v' k := fun k hk h1 h2 => by
    rcases hx.own h2 with h3 | h3
    · exact h1 h3
    · omega
  exact ⟨hf.row h.d1 h.r1, hf.row h.d2 h.r2, ho, h.hb.trans (hf.below (fun k hk _ => (h.ow.lt k hk).1) h.hb.size), h6 _ h.r1.lt h.d1, h6 _ h.r2.lt h.d2⟩
attribute [local irreducible] St.c ftc sec alc allN

set_option maxRecDepth 100000 in
set_option maxHeartbeats 4000000 in
theorem tell_any (a b : St) (w : World) : Calls Try.prog 13 #[.agg a.c, .agg b.c] w fun e w' => ∃ v, e = .returned v ∧ OwS w' w.heap.size 39 2 v (tellN a b).length (enl sgc (tellN a b)) ∧ Below w.heap.size w w' := by
  have hla : (allN a).length = 7 := by unfold allN; rfl
  have hlb : (allN b).length = 7 := by unfold allN; rfl
  have HLA := Lib.hid hla
  have HLB := Lib.hid hlb
  have HT : Hid (∀ k, (h1 : k < (allN a).length) → (h2 : k < (allN b).length) → dif ((allN a).take (k + 1)) ((allN b).take (k + 1)) = dif ((allN a).take k) ((allN b).take k) ++ if (allN b)[k] = (allN a)[k] then [] else [(allN b)[k]]) := fun k h1 h2 => dif_take (hla.trans hlb.symm) h1 h2
  have HT0 : Hid (dif ((allN a).take 0) ((allN b).take 0) = []) := by show _ = _; rfl
  have HTE : Hid (dif ((allN a).take 7) ((allN b).take 7) = tellN a b) := by show _ = _; rw [List.take_of_length_le (by omega), List.take_of_length_le (by omega)]; rfl
  have HTL : Hid (∀ k, (dif ((allN a).take k) ((allN b).take k)).length ≤ 7) := fun k => by
    have h1 := (dif_sub ((allN a).take k) ((allN b).take k)).length_le
    rw [List.length_take] at h1
    omega
  have H2 : Hid (Row ((w.alloc (.cells a.c 24)).alloc (.cells b.c 24)) w.heap.size 24 a.c) := (Row.new w _ _).alloc _
  have H3 : Hid (Row ((w.alloc (.cells a.c 24)).alloc (.cells b.c 24)) (w.heap.size + 1) 24 b.c) := Row.made _ _ _ (by simp)
  have HB : Hid (Below w.heap.size w ((w.alloc (.cells a.c 24)).alloc (.cells b.c 24))) := ((Below.refl _ _).alloc (Nat.le_refl _) _).alloc (by simp) _
  clear hla hlb
  go_enter Try.func13, Try.ntmps13
  go_upto_region 1 with fail
  generalize (w.alloc (.cells a.c 24)).alloc (.cells b.c 24) = w1 at *
  refine wp_region_held_drew (S := fun w' => Row w' w.heap.size 24 a.c ∧ Row w' (w.heap.size + 1) 24 b.c) (by kernel_rfl) ⟨H2.out, H3.out⟩ (fun hHeld => ?_)
  have HB1 := Lib.hid (below_dN HB.out 1)
  clear H2 H3 HB
  refine wpAnyH_take (i := 0) (v := _) rfl (by kernel_rfl) (by kernel_rfl) (by kernel_rfl) (fun _ _ _ h => h) (yields_ld (by rfl) _ rfl rfl (St.ok _) (fun _ hSw => hSw.1)) (by assumption) ?rest0w1
  try simp only [Act.put, List.getElem_toArray, List.getElem_cons_zero, List.setIfInBounds_toArray, List.set_cons_zero, List.set_cons_succ]
  refine wpAnyH_take (i := 2) (v := _) rfl (by kernel_rfl) (by kernel_rfl) (by kernel_rfl) (fun _ _ _ h => h) (yields_ld (by rfl) _ rfl rfl (St.ok _) (fun _ hSw => hSw.2)) (by assumption) ?rest2w2
  try simp only [Act.put, List.getElem_toArray, List.getElem_cons_zero, List.getElem_cons_succ, List.setIfInBounds_toArray, List.set_cons_zero, List.set_cons_succ]
  refine wpAnyH_ready (rs := [1]) (by kernel_rfl) (by simp) ?_
  refine AllReadyH.cons rfl (fun K hK => ?_) AllReadyH.nil
  go_simp
  go_at_call 24
  refine (all_any a _).mono ?_
  rintro e w2 ⟨g1, rfl, hg1, hr1, hb2⟩
  have R1 := Lib.hid hr1
  have HB2 := Lib.hid (HB1.out.trans (hb2.mono HB1.out.size))
  have hk := And.intro (hHeld.1.below hb2 hHeld.1.lt) (hHeld.2.below hb2 hHeld.2.lt)
  clear hb2 hr1 hHeld HB1 hg1
  go_simp
  refine hK.out _ _ hk (fun hHeld => ?_)
  clear hK K hk
  try simp only [Act.put, List.getElem_toArray, List.getElem_cons_zero, List.getElem_cons_succ, List.setIfInBounds_toArray, List.set_cons_zero, List.set_cons_succ]
  refine wpAnyH_ready (rs := [3]) (by kernel_rfl) (by simp) ?_
  refine AllReadyH.cons rfl (fun K hK => ?_) AllReadyH.nil
  go_simp
  go_at_call 24
  refine (all_any b _).mono ?_
  rintro e w3 ⟨g2, rfl, hg2, hr2, hb3⟩
  have HI : Hid (TlI w w3 g1 g2 a b (.slice none 0 0) []) := ⟨R1.out.below hb3 R1.out.lt, hr2, OwS.nil, HB2.out.trans (hb3.mono HB2.out.size), by simp [ob, Value.ownBlock], by simp [ob, Value.ownBlock]⟩
  have hk := And.intro (hHeld.1.below hb3 hHeld.1.lt) (hHeld.2.below hb3 hHeld.2.lt)
  clear hb3 hr2 hHeld HB2 hg2 R1
  go_simp
  refine hK.out _ _ hk (fun hHeld => ?_)
  clear hK K hk
  try simp only [Act.put, List.getElem_toArray, List.getElem_cons_zero, List.getElem_cons_succ, List.setIfInBounds_toArray, List.set_cons_zero, List.set_cons_succ]
  refine wpAnyH_take (i := 4) (v := ?v4) rfl (by kernel_rfl) (by kernel_rfl) (by kernel_rfl) (fun _ _ _ h => h) (Or.inl ⟨by rfl, ?hy4⟩) (by assumption) ?rest4
  case hy4 => (intro w hSw; (try dsimp only at hSw); go_simp <;> with_reducible rfl)
  try simp only [Act.put, List.getElem_toArray, List.getElem_cons_zero, List.getElem_cons_succ, List.setIfInBounds_toArray, List.set_cons_zero, List.set_cons_succ]
  refine wpAnyH_take (i := 5) (v := ?v5) rfl (by kernel_rfl) (by kernel_rfl) (by kernel_rfl) (fun _ _ _ h => h) (Or.inl ⟨by rfl, ?hy5⟩) (by assumption) ?rest5
  case hy5 => (intro w hSw; (try dsimp only at hSw); go_simp <;> with_reducible rfl)
  try simp only [Act.put, List.getElem_toArray, List.getElem_cons_zero, List.getElem_cons_succ, List.setIfInBounds_toArray, List.set_cons_zero, List.set_cons_succ]
  refine wpAnyH_done (by kernel_rfl) ?_ _
  clear hHeld
  rw [← HT0.out] at HI
  go_upto_region 4 with fail
  go_loopw [7, 16] (fun v' i wr => ∃ (k : Nat) (v : Value), k ≤ 7 ∧ i = .int .i64 k ∧ v = v' ∧ Hid (TlI w wr g1 g2 a b v (dif ((allN a).take k) ((allN b).take k))))
    (fun _ i _ => 7 - (intOf i).toNat)
  case atStart => exact ⟨0, _, by omega, rfl, rfl, HI⟩
  case round =>
    clear HI HT0
    obtain ⟨k, v, hk, rfl, rfl, HI⟩ := hrel
    by_cases hlt : k < 7
    · have HTk := Lib.hid (HT.out k (by have := HLA.out; omega) (by have := HLB.out; omega))
      have HTL1 := Lib.hid (HTL.out k)
      obtain ⟨b2, q2, e2, hb2, f0, f1⟩ := (alc_reads HI.out.r2).sett (i := k) (by have := HLB.out; omega)
      obtain ⟨b1, q1, e1, hb1, h0, h1⟩ := (alc_reads HI.out.r1).sett (i := k) (by have := HLA.out; omega)
      injection e2 with e2
      injection e2 with e2 e2'
      injection e1 with e1
      injection e1 with e1 e1'
      subst e2 e2' e1 e1'
      have hrg := se_range h0 h1
      simp only [Nat.zero_add] at f0 f1 hrg
      generalize (allN b)[k]'(by have := HLB.out; omega) = y at *
      generalize (allN a)[k]'(by have := HLA.out; omega) = z at *
      obtain ⟨i, u⟩ := y
      obtain ⟨i', u'⟩ := z
      simp only at f0 f1 hrg
      obtain ⟨T, hT⟩ : ∃ T, dif ((allN a).take k) ((allN b).take k) = T := ⟨_, rfl⟩
      rw [hT] at HI HTk HTL1
      have hTl : T.length ≤ 7 := HTL1.out
      have k0 : (0 : Int) ≤ (k : Int) := by omega
      have k1 : (k : Int) < 7 := by omega
      have HC : Hid (Row (wr.alloc (.cells #[.int .u16 (i : Int), .int .u32 (u : Int)] 39)) wr.heap.size 39 (sec i u)) := by show Row _ _ _ _; have := Row.new wr 39 (sec i u); unfold sec at this ⊢; exact this
      have hb1' : Below wr.heap.size wr (wr.alloc (.cells #[.int .u16 (i : Int), .int .u32 (u : Int)] 39)) := (Below.refl _ _).alloc (Nat.le_refl _) _
      have HI1 := Lib.hid (HI.out.below hb1')
      have HRG := Lib.hid (range_below hrg hb1' HI.out.r1.lt)
      clear HI hb1 hb2 hrg h0 h1 HTL1 hT hb1'
      go_upto_region 6 with fail
      clear f0 f1
      generalize wr.alloc (.cells #[.int .u16 (i : Int), .int .u32 (u : Int)] 39) = w4 at *
      generalize wr.heap.size = p9 at *
      by_cases heq : (i, u) = (i', u')
      · rw [if_pos heq, List.append_nil] at HTk
        obtain ⟨rfl, rfl⟩ := Prod.mk.inj heq
        have hne := se_same i u
        clear heq
        refine wp_region_held_drew (S := fun w' => Row w' p9 39 (sec i u) ∧ w'.rangeAt g1 (k * 2) (sec i u).toList) (by kernel_rfl) ⟨HC.out, HRG.out⟩ (fun hHeld => ?_)
        refine wpAnyH_take (i := 0) (v := _) rfl (by kernel_rfl) (by kernel_rfl) (by kernel_rfl) (fun _ _ _ h => h) (yields_ld (by rfl) _ rfl rfl (se_ok _ _) (fun _ hSw => hSw.1)) (by assumption) ?rest0w3
        try simp only [Act.put, List.getElem_toArray, List.getElem_cons_zero, List.setIfInBounds_toArray, List.set_cons_zero, List.set_cons_succ]
        refine wpAnyH_take (i := 1) (v := ?v1q7) rfl (by kernel_rfl) (by kernel_rfl) (by kernel_rfl) (fun _ _ _ h => h) (Or.inl ⟨by rfl, ?hy1q7⟩) (by assumption) ?rest1q7
        case hy1q7 => (intro w hSw; (try dsimp only at hSw); go_simp <;> with_reducible rfl)
        try simp only [Act.put, List.getElem_toArray, List.getElem_cons_zero, List.getElem_cons_succ, List.setIfInBounds_toArray, List.set_cons_zero, List.set_cons_succ]
        refine wpAnyH_take (i := 2) (v := ?v2q7) rfl (by kernel_rfl) (by kernel_rfl) (by kernel_rfl) (fun _ _ _ h => h) (Or.inl ⟨by rfl, ?hy2q7⟩) (by assumption) ?rest2q7
        case hy2q7 => (intro w hSw; (try dsimp only at hSw); go_simp <;> with_reducible rfl)
        try simp only [Act.put, List.getElem_toArray, List.getElem_cons_zero, List.getElem_cons_succ, List.setIfInBounds_toArray, List.set_cons_zero, List.set_cons_succ]
        refine wpAnyH_take (i := 3) (v := ?v3q7) rfl (by kernel_rfl) (by kernel_rfl) (by kernel_rfl) (fun _ _ _ h => h) (Or.inl ⟨by rfl, ?hy3q7⟩) (by assumption) ?rest3q7
        case hy3q7 => (intro w hSw; (try dsimp only at hSw); go_simp <;> with_reducible rfl)
        try simp only [Act.put, List.getElem_toArray, List.getElem_cons_zero, List.getElem_cons_succ, List.setIfInBounds_toArray, List.set_cons_zero, List.set_cons_succ]
        refine wpAnyH_take (i := 4) (v := _) rfl (by kernel_rfl) (by kernel_rfl) (by kernel_rfl) (fun _ _ _ h => h) (yields_ldm (by rfl) _ rfl rfl (se_ok _ _) (fun _ hSw => hSw.2)) (by assumption) ?rest4w4
        try simp only [Act.put, List.getElem_toArray, List.getElem_cons_zero, List.getElem_cons_succ, List.setIfInBounds_toArray, List.set_cons_zero, List.set_cons_succ]
        refine wpAnyH_take (i := 5) (v := ?v5q8) rfl (by kernel_rfl) (by kernel_rfl) (by kernel_rfl) (fun _ _ _ h => h) (Or.inl ⟨by rfl, ?hy5q8⟩) (by assumption) ?rest5q8
        case hy5q8 => (intro w hSw; (try dsimp only at hSw); go_simp <;> with_reducible rfl)
        try simp only [Act.put, List.getElem_toArray, List.getElem_cons_zero, List.getElem_cons_succ, List.setIfInBounds_toArray, List.set_cons_zero, List.set_cons_succ]
        refine wpAnyH_done (by kernel_rfl) ?_ _
        clear hHeld HRG HC hne
        have HI2 := Lib.hid (HI1.out.below ((Below.refl _ _).drew))
        clear HI1
        rw [← HTk.out] at HI2
        go_wp2_with fail
        go_roundw
        case rel => exact ⟨k + 1, v, by omega, by go_num, rfl, HI2⟩
        case measure => simp [intOf]; omega
      · rw [if_neg heq] at HTk
        have hne := se_other heq
        clear heq
        refine wp_region_held_drew (S := fun w' => Row w' p9 39 (sec i u) ∧ w'.rangeAt g1 (k * 2) (sec i' u').toList) (by kernel_rfl) ⟨HC.out, HRG.out⟩ (fun hHeld => ?_)
        refine wpAnyH_take (i := 0) (v := _) rfl (by kernel_rfl) (by kernel_rfl) (by kernel_rfl) (fun _ _ _ h => h) (yields_ld (by rfl) _ rfl rfl (se_ok _ _) (fun _ hSw => hSw.1)) (by assumption) ?rest0w5
        try simp only [Act.put, List.getElem_toArray, List.getElem_cons_zero, List.setIfInBounds_toArray, List.set_cons_zero, List.set_cons_succ]
        refine wpAnyH_take (i := 1) (v := ?v1q9) rfl (by kernel_rfl) (by kernel_rfl) (by kernel_rfl) (fun _ _ _ h => h) (Or.inl ⟨by rfl, ?hy1q9⟩) (by assumption) ?rest1q9
        case hy1q9 => (intro w hSw; (try dsimp only at hSw); go_simp <;> with_reducible rfl)
        try simp only [Act.put, List.getElem_toArray, List.getElem_cons_zero, List.getElem_cons_succ, List.setIfInBounds_toArray, List.set_cons_zero, List.set_cons_succ]
        refine wpAnyH_take (i := 2) (v := ?v2q9) rfl (by kernel_rfl) (by kernel_rfl) (by kernel_rfl) (fun _ _ _ h => h) (Or.inl ⟨by rfl, ?hy2q9⟩) (by assumption) ?rest2q9
        case hy2q9 => (intro w hSw; (try dsimp only at hSw); go_simp <;> with_reducible rfl)
        try simp only [Act.put, List.getElem_toArray, List.getElem_cons_zero, List.getElem_cons_succ, List.setIfInBounds_toArray, List.set_cons_zero, List.set_cons_succ]
        refine wpAnyH_take (i := 3) (v := ?v3q9) rfl (by kernel_rfl) (by kernel_rfl) (by kernel_rfl) (fun _ _ _ h => h) (Or.inl ⟨by rfl, ?hy3q9⟩) (by assumption) ?rest3q9
        case hy3q9 => (intro w hSw; (try dsimp only at hSw); go_simp <;> with_reducible rfl)
        try simp only [Act.put, List.getElem_toArray, List.getElem_cons_zero, List.getElem_cons_succ, List.setIfInBounds_toArray, List.set_cons_zero, List.set_cons_succ]
        refine wpAnyH_take (i := 4) (v := _) rfl (by kernel_rfl) (by kernel_rfl) (by kernel_rfl) (fun _ _ _ h => h) (yields_ldm (by rfl) _ rfl rfl (se_ok _ _) (fun _ hSw => hSw.2)) (by assumption) ?rest4w6
        try simp only [Act.put, List.getElem_toArray, List.getElem_cons_zero, List.getElem_cons_succ, List.setIfInBounds_toArray, List.set_cons_zero, List.set_cons_succ]
        refine wpAnyH_take (i := 5) (v := ?v5q10) rfl (by kernel_rfl) (by kernel_rfl) (by kernel_rfl) (fun _ _ _ h => h) (Or.inl ⟨by rfl, ?hy5q10⟩) (by assumption) ?rest5q10
        case hy5q10 => (intro w hSw; (try dsimp only at hSw); go_simp <;> with_reducible rfl)
        try simp only [Act.put, List.getElem_toArray, List.getElem_cons_zero, List.getElem_cons_succ, List.setIfInBounds_toArray, List.set_cons_zero, List.set_cons_succ]
        refine wpAnyH_done (by kernel_rfl) ?_ _
        clear hHeld HRG hne
        have HI2 := Lib.hid (HI1.out.below ((Below.refl _ _).drew))
        have HC2 : Hid (Row w4.drew p9 39 (sec i u)) := HC.out
        clear HI1 HC
        generalize w4.drew = w5 at *
        obtain ⟨i0, hi0, hz0, hz1, hz2⟩ := info_parts se_full
        have HIa := Lib.hid (HI2.out.below ((Below.refl _ _).alloc (Nat.le_refl _) (.cells (sec i u) 39)))
        have HNa := Lib.hid (Row.new w5 39 (sec i u))
        go_wp2_with (first | (refine wpList_ld rfl _ rfl rfl HC2.out (se_ok _ _) ?_) | (refine wpList_bs1 (bs_se i u) rfl _ rfl rfl ?_) | (at_builtin; go_loud (refine wpList_appS rfl (.tmp 27) (.tmp 29) 25 rfl w.heap.size 39 i0 _ 2 8 Try.underlying25 hi0 hz0 hz1 hz2 rfl v T.length (enl sgc T) rfl HIa.out.ow ⟨w5.heap.size, 0, none⟩ 1 1 (sgc (i, u)) rfl rfl (fun j u' hj => by rw [add_plain, Nat.zero_add]; exact HNa.out.cell (by rw [← sec_l] at hj; simpa using hj)) (sgc_one (i, u)) (by omega) (by simp only [maxLen]; omega) (by omega) HIa.out.hb.size ?_; intro A6 c6 w6 hO6 hg6 hb6)))
        have HI6 : Hid (TlI w w6 g1 g2 a b (.slice A6 (T.length + 1) c6) (T ++ [(i, u)])) := HIa.out.grow hg6 (by rw [List.length_append, enl_append, enl_one]; exact hO6) hb6
        rw [← HTk.out] at HI6
        clear hO6 hg6 hb6 HIa HNa HI2 HC2 hi0 hz0 hz1 hz2
        go_roundw
        case rel => exact ⟨k + 1, _, by omega, by go_num, rfl, HI6⟩
        case measure => simp [intOf]; omega
    · obtain rfl : k = 7 := by omega
      rw [HTE.out] at HI
      go_wp2_with fail
      go_ret
      exact ⟨_, rfl, HI.out.ow, HI.out.hb⟩
end Go.Proofs.Ytaffmcbpfjdokaa
