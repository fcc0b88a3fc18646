/-
  The program's At and Find, by their contracts.
-/
import Derived.Test.YtfajffchnnalaaaSfld
import Derived.Laws.ResultCell
namespace Go.Proofs.Ytfajffchnnalaaa
open Go.RowKit Go.WideShapes

theorem field_info : (Try.prog.info? 52).map (·.size) = some 3 := by kernel_rfl
theorem index_field {k : Nat} (h : k < 61) (W : World) : (Instr.index 113 (.agg fldC) (.int .i64 (k : Int))).run Try.prog W = .ok (.agg #[tx (nmL k), tx (vlL k), .bool false]) W := by
  cases hi : Try.prog.info? 52 with
  | none => have := field_info; rw [hi] at this; simp at this
  | some i =>
    have hs := field_info
    rw [hi] at hs
    simp at hs
    rw [run_index_agg Try.underlying113 i hi _ Try.underlying52 rfl .i64 k h W, hs, fldC_part h]
    rfl

set_option maxRecDepth 100000 in
set_option maxHeartbeats 1000000 in
theorem find_any (a b : List UInt8) (w : World) : Calls Try.prog 56 #[tx a, tx b] w fun e w' => e = .returned (.tuple #[.int .i64 (fndN a b : Int), .bool (fndB a b)]) ∧ Below w.heap.size w w' := by
  unfold tx
  go_enter Try.func56, Try.ntmps56
  go_wp2_with fail
  refine (fields_any _).mono ?_
  rintro e w1 ⟨rfl, hb1⟩
  have HB1 := Lib.hid hb1
  clear hb1
  go_wp2_with fail
  go_loopw [6, 10] (fun nd i wr => ∃ (n' i' : Nat), i' ≤ 61 ∧ i = .int .i64 i' ∧ nd = .int .i64 n' ∧ n' ≤ 61 ∧ Hid (n' = first (isN a) i') ∧ Hid (first (isB a b) i' = 0) ∧ Hid (Below w.heap.size w wr))
    (fun _ i _ => 61 - (intOf i).toNat)
  case atStart => exact ⟨0, 0, by omega, rfl, rfl, by omega, rfl, rfl, HB1⟩
  case round =>
    clear HB1
    obtain ⟨n, i, hi, rfl, rfl, hn, hN, hB, hW⟩ := hrel
    by_cases hlt : i < 61
    · have hix := index_field hlt
      unfold tx at hix
      by_cases hn1 : nmL i = a
      · have e1 : (nmL i == a) = true := by rw [hn1, beq_self_eq_true]
        have hA : isN a i = true := by simp [isN, hn1]
        by_cases hv1 : vlL i = b
        · have e2 : (vlL i == b) = true := by rw [hv1, beq_self_eq_true]
          have hF := fnd_hit hlt hB.out (isB_of hA hv1)
          have HF := Lib.hid hF
          clear hn1 hv1 hF hA
          go_wp2_with fail
          go_ret2
          refine ⟨?_, ?_⟩
          · rw [HF.out.1, HF.out.2]; rfl
          · exact hW.out.alloc hW.out.size _
        · have e2 : (vlL i == b) = false := by rw [beq_eq_false_iff_ne]; exact hv1
          have hB2 : Hid (first (isB a b) (i + 1) = 0) := by
            show _ = _
            rw [first_miss (isB_no' hv1)]
            exact hB.out
          by_cases hn0 : n = 0
          · have hN2 : Hid (i + 1 = first (isN a) (i + 1)) := by
              show _ = _
              rw [first_hit (by rw [← hN.out]; exact hn0) hA]
            clear hn1 hv1 hA hN hB
            subst hn0
            go_wp2_with fail
            go_roundw
            case rel => exact ⟨i + 1, i + 1, by omega, by go_num, by go_num, by omega, hN2, hB2, hW.out.alloc hW.out.size _⟩
            case measure => simp [intOf]; omega
          · have hN2 : Hid (n = first (isN a) (i + 1)) := by
              show _ = _
              rw [first_keep (by rw [← hN.out]; exact hn0)]
              exact hN.out
            have e3 : ((n : Int) == 0) = false := by rw [beq_eq_false_iff_ne]; omega
            clear hn1 hv1 hA hN hB
            go_wp2_with fail
            go_roundw
            case rel => exact ⟨n, i + 1, by omega, by go_num, rfl, hn, hN2, hB2, hW.out.alloc hW.out.size _⟩
            case measure => simp [intOf]; omega
      · have e1 : (nmL i == a) = false := by rw [beq_eq_false_iff_ne]; exact hn1
        have hA : isN a i = false := by simp [isN, hn1]
        have hB2 : Hid (first (isB a b) (i + 1) = 0) := by
          show _ = _
          rw [first_miss (isB_no hA)]
          exact hB.out
        have hN2 : Hid (n = first (isN a) (i + 1)) := by
          show _ = _
          rw [first_miss hA]
          exact hN.out
        clear hn1 hA hN hB
        go_wp2_with fail
        go_roundw
        case rel => exact ⟨n, i + 1, by omega, by go_num, rfl, hn, hN2, hB2, hW.out.alloc hW.out.size _⟩
        case measure => simp [intOf]; omega
    · obtain rfl : i = 61 := by omega
      have hF := fnd_miss hB.out
      rw [← hN.out] at hF
      have HF := Lib.hid hF
      clear hF
      go_wp2_with fail
      go_ret2
      refine ⟨?_, hW.out⟩
      rw [HF.out.1, HF.out.2]
      rfl

theorem field_cells (cs : Array Value) (h : cs.size = 3) : (Try.prog.info? 52).map (·.size) = some cs.size := by rw [h]; exact field_info
theorem ret_field {fn : Func} {p u : Tmp} (h : fn.results = #[.cell p 52, .tmp u]) (tmps : Array Value) (w : World) (g : Nat) (cs : Array Value) (hp : tmps.getD p undef = .pointer (some ⟨g, 0, none⟩)) (hR : Row w g 52 cs) (hc : cs.size = 3) :
    (results fn tmps).run Try.prog w = .ok (.tuple #[.agg cs, tmps.getD u undef]) w := by
  rw [results_cell_tmp h, hp]
  simp [asAddr, Result.andThen, run_loadVar_row w g 52 52 cs (0, 0) _ hR Try.underlying52 rfl (field_cells cs hc)]
set_option maxRecDepth 100000 in
set_option maxHeartbeats 1000000 in
theorem at_yes (k : Nat) (hk : k < 61) (w : World) : Calls Try.prog 63 #[.int .i64 ((k : Int) + 1)] w fun e w' => e = .returned (.tuple #[.agg #[tx (nmL k), tx (vlL k), .bool false], .bool true]) ∧ Below w.heap.size w w' := by
  have hix := index_field hk
  unfold tx at hix ⊢
  have h1 : decide ((k : Int) + 1 < 1) = false := by simp; omega
  have h2 : decide ((61 : Int) < (k : Int) + 1) = false := by simp; omega
  go_enter Try.func63, Try.ntmps63
  go_wp2_with fail
  refine (fields_any _).mono ?_
  rintro e w1 ⟨rfl, hb1⟩
  have HR := (Row.new w 52 #[.string ⟨#[]⟩, .string ⟨#[]⟩, .bool false]).below hb1 (by simp)
  have HB1 := Lib.hid (((Below.refl w.heap.size w).alloc (Nat.le_refl _) _).trans (hb1.mono (by simp)))
  clear hb1
  go_wp2_with (refine wpList_store_row rfl 52 (.tmp 2) (.tmp 14) rfl w.heap.size #[.string ⟨(nmL k).toArray⟩, .string ⟨(vlL k).toArray⟩, .bool false] rfl rfl 52 _ HR (field_cells _ rfl) rfl (by kernel_rfl) ?_)
  refine bodyPost_ret (ret_field rfl _ _ w.heap.size _ rfl (HR.setRow _) rfl) rfl ⟨rfl, below_setRow HB1.out _ _ (Nat.le_refl _)⟩

set_option maxRecDepth 100000 in
set_option maxHeartbeats 1000000 in
theorem at_no (n : Int) (hn : n < 1 ∨ 61 < n) (w : World) : Calls Try.prog 63 #[.int .i64 n] w fun e w' => e = .returned (.tuple #[.agg #[tx [], tx [], .bool false], .bool false]) ∧ Below w.heap.size w w' := by
  have hs : n < 1 ∨ (decide (n < 1) = false ∧ (61 : Int) < n) := by
    by_cases h : n < 1
    · exact .inl h
    · exact .inr ⟨by simpa using h, by omega⟩
  clear hn
  unfold tx
  rcases hs with h | ⟨h, h'⟩
  all_goals
    go_enter Try.func63, Try.ntmps63
    go_wp2_with fail
    refine bodyPost_ret (ret_field rfl _ _ w.heap.size _ rfl (Row.new w _ _) rfl) rfl ⟨rfl, (Below.refl _ _).alloc (Nat.le_refl _) _⟩

theorem len_any (w : World) : Calls Try.prog 58 #[] w fun e w' => e = .returned (.int .i64 61) ∧ w' = w := by
  go_enter Try.func58, Try.ntmps58
  go_wp2_with fail
  go_ret
  exact ⟨rfl, rfl⟩
end Go.Proofs.Ytfajffchnnalaaa
