/-
  settings' may, check, and the document's wrong, by their contracts. No conditions.
-/
import Derived.Test.YtaffmcbpfjdokaaGsm
namespace Go.Proofs.Ytaffmcbpfjdokaa
open Go.RowKit Go.WideShapes

theorem ne_nat {a : Nat} {b : Nat} (h : a ≠ b) : ((a : Int) == (b : Int)) = false := by rw [nat_eq]; exact decide_eq_false h
/-- The ways of a setting. -/
inductive Way (s : St) : Nat → Nat → Nat → Prop
  | two0 (v : Nat) (h : v ≤ 1) : Way s 2 v 0
  | two1 (v : Nat) (h : 1 < v) : Way s 2 v 1
  | four0 (v : Nat) (h : v ≤ 2147483647) : Way s 4 v 0
  | four3 (v : Nat) (h : 2147483647 < v) : Way s 4 v 3
  | five0 (v : Nat) (h : 16384 ≤ v) (h2 : v ≤ 16777215) : Way s 5 v 0
  | fiveL (v : Nat) (h : v < 16384) : Way s 5 v 1
  | fiveG (v : Nat) (h : 16777215 < v) : Way s 5 v 1
  | eight1 : Way s 8 1 0
  | eight0 (h : s.co = false) : Way s 8 0 0
  | eightX (h : s.co = true) : Way s 8 0 1
  | eightG (v : Nat) (h : 1 < v) : Way s 8 v 1
  | rest (i v : Nat) (h2 : i ≠ 2) (h4 : i ≠ 4) (h5 : i ≠ 5) (h8 : i ≠ 8) : Way s i v 0
theorem way (s : St) (i v : Nat) : Way s i v (wrN s i v) := by
  by_cases h2 : i = 2
  · subst h2
    by_cases h : v ≤ 1
    · rw [show wrN s 2 v = 0 by unfold wrN; simp; omega]; exact .two0 v h
    · rw [show wrN s 2 v = 1 by unfold wrN; simp; omega]; exact .two1 v (by omega)
  by_cases h4 : i = 4
  · subst h4
    by_cases h : v ≤ 2147483647
    · rw [show wrN s 4 v = 0 by unfold wrN; simp; omega]; exact .four0 v h
    · rw [show wrN s 4 v = 3 by unfold wrN; simp; omega]; exact .four3 v (by omega)
  by_cases h5 : i = 5
  · subst h5
    by_cases h : v < 16384
    · rw [show wrN s 5 v = 1 by unfold wrN; simp; omega]; exact .fiveL v h
    · by_cases h' : v ≤ 16777215
      · rw [show wrN s 5 v = 0 by unfold wrN; simp; omega]; exact .five0 v (by omega) h'
      · rw [show wrN s 5 v = 1 by unfold wrN; simp; omega]; exact .fiveG v (by omega)
  by_cases h8 : i = 8
  · subst h8
    by_cases h : 1 < v
    · rw [show wrN s 8 v = 1 by unfold wrN; simp; omega]; exact .eightG v h
    · by_cases h1 : v = 1
      · subst h1
        rw [show wrN s 8 1 = 0 by unfold wrN; simp]; exact .eight1
      · obtain rfl : v = 0 := by omega
        by_cases hc : s.co = true
        · rw [show wrN s 8 0 = 1 by unfold wrN; simp [hc]]; exact .eightX hc
        · rw [show wrN s 8 0 = 0 by unfold wrN; simp [hc]]; exact .eight0 (by simpa using hc)
  rw [show wrN s i v = 0 by unfold wrN; simp [h2, h4, h5, h8]]
  exact .rest i v h2 h4 h5 h8
attribute [local irreducible] St.c ftc

set_option maxRecDepth 100000 in
set_option maxHeartbeats 2000000 in
theorem may_any (s : St) (i v : Nat) (w : World) : Calls Try.prog 26 #[.agg s.c, .agg (sec i v)] w fun e w' => e = .returned (.bool (decide (wrN s i v = 0))) ∧ Below w.heap.size w w' := by
  have HS : Hid (Row ((w.alloc (.cells s.c 24)).alloc (.cells (sec i v) 39)) w.heap.size 24 s.c) := (Row.new w _ _).alloc _
  have HX : Hid (Row ((w.alloc (.cells s.c 24)).alloc (.cells (sec i v) 39)) (w.heap.size + 1) 39 (sec i v)) := Row.made _ _ _ (by simp)
  have HB : Hid (Below w.heap.size w ((w.alloc (.cells s.c 24)).alloc (.cells (sec i v) 39))) := ((Below.refl _ _).alloc (Nat.le_refl _) _).alloc (by simp) _
  have c6 := (st_cells HS.out).2.2.2.2.2.2
  obtain ⟨x0, x1⟩ := se_cells HX.out
  have hw := way s i v
  generalize wrN s i v = n at *
  cases hw with
  | two0 _ h =>
    have h' : (v : Int) ≤ 1 := by omega
    clear h c6
    go_enter Try.func26, Try.ntmps26
    go_wp2
    go_ret
    exact ⟨rfl, HB.out⟩
  | two1 _ h =>
    have h' : decide ((v : Int) ≤ 1) = false := by simp; omega
    clear h c6
    go_enter Try.func26, Try.ntmps26
    go_wp2
    go_ret
    exact ⟨rfl, HB.out⟩
  | four0 _ h =>
    have h' : (v : Int) ≤ 2147483647 := by omega
    clear h c6
    go_enter Try.func26, Try.ntmps26
    go_wp2
    go_ret
    exact ⟨rfl, HB.out⟩
  | four3 _ h =>
    have h' : decide ((v : Int) ≤ 2147483647) = false := by simp; omega
    clear h c6
    go_enter Try.func26, Try.ntmps26
    go_wp2
    go_ret
    exact ⟨rfl, HB.out⟩
  | five0 _ h h2 =>
    have h' : (16384 : Int) ≤ (v : Int) := by omega
    have h2' : (v : Int) ≤ 16777215 := by omega
    clear h h2 c6
    go_enter Try.func26, Try.ntmps26
    go_wp2
    go_ret
    exact ⟨rfl, HB.out⟩
  | fiveL _ h =>
    have h' : decide ((16384 : Int) ≤ (v : Int)) = false := by simp; omega
    clear h c6
    go_enter Try.func26, Try.ntmps26
    go_wp2
    go_ret
    exact ⟨rfl, HB.out⟩
  | fiveG _ h =>
    have h' : (16384 : Int) ≤ (v : Int) := by omega
    have h2' : decide ((v : Int) ≤ 16777215) = false := by simp; omega
    clear h c6
    go_enter Try.func26, Try.ntmps26
    go_wp2
    go_ret
    exact ⟨rfl, HB.out⟩
  | eight1 =>
    clear c6
    go_enter Try.func26, Try.ntmps26
    go_wp2
    go_ret
    exact ⟨rfl, HB.out⟩
  | eight0 h =>
    rw [h] at c6
    clear h
    go_enter Try.func26, Try.ntmps26
    go_wp2
    go_ret
    exact ⟨rfl, HB.out⟩
  | eightX h =>
    rw [h] at c6
    clear h
    go_enter Try.func26, Try.ntmps26
    go_wp2
    go_ret
    exact ⟨rfl, HB.out⟩
  | eightG _ h =>
    have h1 : ((v : Int) == 1) = false := ne_nat (b := 1) (by omega)
    have h0 : ((v : Int) == 0) = false := ne_nat (b := 0) (by omega)
    clear h c6
    go_enter Try.func26, Try.ntmps26
    go_wp2
    go_ret
    exact ⟨rfl, HB.out⟩
  | rest _ _ h2 h4 h5 h8 =>
    have e2 : ((i : Int) == 2) = false := ne_nat (b := 2) h2
    have e4 : ((i : Int) == 4) = false := ne_nat (b := 4) h4
    have e5 : ((i : Int) == 5) = false := ne_nat (b := 5) h5
    have e8 : ((i : Int) == 8) = false := ne_nat (b := 8) h8
    clear h2 h4 h5 h8 c6
    go_enter Try.func26, Try.ntmps26
    go_wp2
    go_ret
    exact ⟨rfl, HB.out⟩

set_option maxRecDepth 100000 in
set_option maxHeartbeats 2000000 in
theorem check_any (s : St) (i v : Nat) (w : World) : Calls Try.prog 20 #[.agg s.c, .agg (sec i v)] w fun e w' => e = .returned (.agg (ftc (if wrN s i v = 0 then 0 else 1) (wrN s i v))) ∧ Below w.heap.size w w' := by
  have hz : ftc 0 0 = #[.int .u8 0, .int .u32 0] := by unfold ftc; rfl
  have HS : Hid (Row (((w.alloc (.cells s.c 24)).alloc (.cells (sec i v) 39)).alloc (.cells #[.int .u8 0, .int .u32 0] 28)) w.heap.size 24 s.c) := ((Row.new w _ _).alloc _).alloc _
  have HX : Hid (Row (((w.alloc (.cells s.c 24)).alloc (.cells (sec i v) 39)).alloc (.cells #[.int .u8 0, .int .u32 0] 28)) (w.heap.size + 1) 39 (sec i v)) := (Row.made _ _ _ (by simp)).alloc _
  have HR : Hid (Row (((w.alloc (.cells s.c 24)).alloc (.cells (sec i v) 39)).alloc (.cells #[.int .u8 0, .int .u32 0] 28)) (w.heap.size + 2) 28 (ftc 0 0)) := by show Row _ _ _ _; rw [hz]; exact Row.made _ _ _ (by simp)
  have HB : Hid (Below w.heap.size w (((w.alloc (.cells s.c 24)).alloc (.cells (sec i v) 39)).alloc (.cells #[.int .u8 0, .int .u32 0] 28))) := (((Below.refl _ _).alloc (Nat.le_refl _) _).alloc (by simp) _).alloc (by simp; omega) _
  have hm := may_any s i v
  have hw := wrN_le s i v
  have h4 : i = 4 ∧ (wrN s i v = 3 ∨ wrN s i v = 0) ∨ ((i : Int) == 4) = false ∧ (wrN s i v = 0 ∨ wrN s i v = 1) := by
    by_cases e : i = 4
    · subst e
      refine .inl ⟨rfl, ?_⟩
      by_cases h : 2147483647 < v
      · exact .inl (by simp [wrN, h])
      · exact .inr (by simp [wrN, h])
    · refine .inr ⟨ne_nat (b := 4) e, ?_⟩
      rcases hw with h | h | h
      · exact .inl h
      · exact .inr h
      · exfalso
        unfold wrN at h
        rw [if_neg (fun x => e x.1)] at h
        split at h <;> omega
  clear hz hw
  generalize wrN s i v = n at *
  have hN : n = 0 ∨ ((i = 4 ∧ n = 3) ∨ (((i : Int) == 4) = false ∧ n = 1)) := by
    rcases h4 with ⟨rfl, rfl | rfl⟩ | ⟨e, rfl | rfl⟩
    · exact .inr (.inl ⟨rfl, rfl⟩)
    · exact .inl rfl
    · exact .inl rfl
    · exact .inr (.inr ⟨e, rfl⟩)
  clear h4
  rcases hN with rfl | ⟨rfl, rfl⟩ | ⟨e4, rfl⟩
  · go_enter Try.func20, Try.ntmps20
    go_wp2_with (first | (refine wpList_ld rfl _ rfl rfl HS.out (St.ok _) ?_) | (refine wpList_ld rfl _ rfl rfl HX.out (se_ok _ _) ?_))
    refine (hm _).mono ?_
    rintro e w1 ⟨rfl, hb⟩
    have HR1 := Lib.hid (HR.out.below hb HR.out.lt)
    have HB1 := Lib.hid (HB.out.trans (hb.mono HB.out.size))
    clear hb HR HB HS HX hm
    go_wp2_with (refine wpList_sw (cs := ftc 0 0) rfl _ _ rfl rfl (by unfold ftc; rfl) HR1.out (ft_sz _ _ _ _) (ft_ok _ _) ?_)
    exact bodyPost_ret (ret_ag rfl _ rfl (HR1.out.setRow _) (ft_ok _ _)) rfl ⟨rfl, below_setRow HB1.out _ _ (by omega)⟩
  · go_enter Try.func20, Try.ntmps20
    go_wp2_with (first | (refine wpList_ld rfl _ rfl rfl HS.out (St.ok _) ?_) | (refine wpList_ld rfl _ rfl rfl HX.out (se_ok _ _) ?_))
    refine (hm _).mono ?_
    rintro e w1 ⟨rfl, hb⟩
    have HR1 := Lib.hid (HR.out.below hb HR.out.lt)
    have x0 := (se_cells (HX.out.below hb HX.out.lt)).1
    have HB1 := Lib.hid (HB.out.trans (hb.mono HB.out.size))
    clear hb HR HB HS HX hm
    go_wp2_with fail
    refine (connFault_any 3 _).mono ?_
    rintro e w2 ⟨rfl, hb⟩
    have HR2 := Lib.hid (HR1.out.below hb HR1.out.lt)
    have HB2 := Lib.hid (HB1.out.trans (hb.mono HB1.out.size))
    clear hb HR1 HB1 x0
    go_wp2_with (refine wpList_sw (cs := ftc 1 3) rfl _ _ rfl rfl rfl HR2.out (ft_sz _ _ _ _) (ft_ok _ _) ?_)
    exact bodyPost_ret (ret_ag rfl _ rfl (HR2.out.setRow _) (ft_ok _ _)) rfl ⟨rfl, below_setRow HB2.out _ _ (by omega)⟩
  · go_enter Try.func20, Try.ntmps20
    go_wp2_with (first | (refine wpList_ld rfl _ rfl rfl HS.out (St.ok _) ?_) | (refine wpList_ld rfl _ rfl rfl HX.out (se_ok _ _) ?_))
    refine (hm _).mono ?_
    rintro e w1 ⟨rfl, hb⟩
    have HR1 := Lib.hid (HR.out.below hb HR.out.lt)
    have x0 := (se_cells (HX.out.below hb HX.out.lt)).1
    have HB1 := Lib.hid (HB.out.trans (hb.mono HB.out.size))
    clear hb HR HB HS HX hm
    go_wp2_with fail
    refine (connFault_any 1 _).mono ?_
    rintro e w2 ⟨rfl, hb⟩
    have HR2 := Lib.hid (HR1.out.below hb HR1.out.lt)
    have HB2 := Lib.hid (HB1.out.trans (hb.mono HB1.out.size))
    clear hb HR1 HB1 x0
    go_wp2_with (refine wpList_sw (cs := ftc 1 1) rfl _ _ rfl rfl rfl HR2.out (ft_sz _ _ _ _) (ft_ok _ _) ?_)
    exact bodyPost_ret (ret_ag rfl _ rfl (HR2.out.setRow _) (ft_ok _ _)) rfl ⟨rfl, below_setRow HB2.out _ _ (by omega)⟩
set_option maxRecDepth 100000 in
set_option maxHeartbeats 4000000 in
theorem wrong_any (s : St) (i v : Nat) (w : World) : Calls Try.prog 22 #[.agg s.c, .agg (sec i v)] w fun e w' => e = .returned (.int .i64 (cdN (wrN s i v) : Nat)) ∧ Below w.heap.size w w' := by
  have HS : Hid (Row ((w.alloc (.cells s.c 24)).alloc (.cells (sec i v) 39)) w.heap.size 24 s.c) := (Row.new w _ _).alloc _
  have HX : Hid (Row ((w.alloc (.cells s.c 24)).alloc (.cells (sec i v) 39)) (w.heap.size + 1) 39 (sec i v)) := Row.made _ _ _ (by simp)
  have HB : Hid (Below w.heap.size w ((w.alloc (.cells s.c 24)).alloc (.cells (sec i v) 39))) := ((Below.refl _ _).alloc (Nat.le_refl _) _).alloc (by simp) _
  have c6 := (st_cells HS.out).2.2.2.2.2.2
  obtain ⟨x0, x1⟩ := se_cells HX.out
  have hw := way s i v
  generalize wrN s i v = n at *
  cases hw with
  | two0 _ h =>
    have h' : decide ((1 : Int) < (v : Int)) = false := by simp; omega
    clear h c6
    go_enter Try.func22, Try.ntmps22
    go_wp2
    go_ret
    exact ⟨rfl, HB.out⟩
  | two1 _ h =>
    have h' : (1 : Int) < (v : Int) := by omega
    clear h c6
    go_enter Try.func22, Try.ntmps22
    go_wp2
    go_ret
    exact ⟨rfl, HB.out⟩
  | four0 _ h =>
    have h' : decide ((2147483647 : Int) < (v : Int)) = false := by simp; omega
    clear h c6
    go_enter Try.func22, Try.ntmps22
    go_wp2
    go_ret
    exact ⟨rfl, HB.out⟩
  | four3 _ h =>
    have h' : (2147483647 : Int) < (v : Int) := by omega
    clear h c6
    go_enter Try.func22, Try.ntmps22
    go_wp2
    go_ret
    exact ⟨rfl, HB.out⟩
  | five0 _ h h2 =>
    have h' : decide ((v : Int) < 16384) = false := by simp; omega
    have h2' : decide ((16777215 : Int) < (v : Int)) = false := by simp; omega
    clear h h2 c6
    go_enter Try.func22, Try.ntmps22
    go_wp2
    go_ret
    exact ⟨rfl, HB.out⟩
  | fiveL _ h =>
    have h' : (v : Int) < 16384 := by omega
    clear h c6
    go_enter Try.func22, Try.ntmps22
    go_wp2
    go_ret
    exact ⟨rfl, HB.out⟩
  | fiveG _ h =>
    have h' : decide ((v : Int) < 16384) = false := by simp; omega
    have h2' : (16777215 : Int) < (v : Int) := by omega
    clear h c6
    go_enter Try.func22, Try.ntmps22
    go_wp2
    go_ret
    exact ⟨rfl, HB.out⟩
  | eight1 =>
    clear c6
    go_enter Try.func22, Try.ntmps22
    go_wp2
    go_ret
    exact ⟨rfl, HB.out⟩
  | eight0 h =>
    rw [h] at c6
    clear h
    go_enter Try.func22, Try.ntmps22
    go_wp2
    go_ret
    exact ⟨rfl, HB.out⟩
  | eightX h =>
    rw [h] at c6
    clear h
    go_enter Try.func22, Try.ntmps22
    go_wp2
    go_ret
    exact ⟨rfl, HB.out⟩
  | eightG _ h =>
    have h' : (1 : Int) < (v : Int) := by omega
    clear h c6
    go_enter Try.func22, Try.ntmps22
    go_wp2
    go_ret
    exact ⟨rfl, HB.out⟩
  | rest _ _ h2 h4 h5 h8 =>
    have e2 : ((i : Int) == 2) = false := ne_nat (b := 2) h2
    have e4 : ((i : Int) == 4) = false := ne_nat (b := 4) h4
    have e5 : ((i : Int) == 5) = false := ne_nat (b := 5) h5
    have e8 : ((i : Int) == 8) = false := ne_nat (b := 8) h8
    clear h2 h4 h5 h8 c6
    go_enter Try.func22, Try.ntmps22
    go_wp2
    go_ret
    exact ⟨rfl, HB.out⟩
end Go.Proofs.Ytaffmcbpfjdokaa
