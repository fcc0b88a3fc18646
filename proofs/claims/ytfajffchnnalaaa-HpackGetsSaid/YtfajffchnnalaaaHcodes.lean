/-
  The program's codes, by its contract.
-/
import Derived.Test.YtfajffchnnalaaaHfst
namespace Go.Proofs.Ytfajffchnnalaaa
open Go.RowKit Go.WideShapes

/-- All signs' codes, as cells: the number and how many bits, sign by sign; of the first k signs, noughts behind. -/
def codC (k : Nat) : Array Value := rowF 514 fun j => if j % 2 = 0 then .int .u32 (if j / 2 < k then (cd (j / 2) : Int) else 0) else .int .i64 (if j / 2 < k then (ln (j / 2) : Int) else 0)
theorem codes_info : (Try.prog.info? 128).map (fun i => (i.zero, i.size)) = some (some (.agg (codC 0)), 514) := by kernel_rfl
theorem codC_size (k : Nat) : (codC k).size = 514 := rowF_size _ _
theorem codC_one (k : Nat) : (codC k).all (·.oneCell') = true := rowF_one fun j _ => by split <;> rfl
theorem codC_next (k : Nat) : ((codC k).setIfInBounds (k * 2) (.int .u32 (cd k : Int))).setIfInBounds (k * 2 + 1) (.int .i64 (ln k : Int)) = codC (k + 1) := by
  unfold codC
  rw [rowF_set, rowF_set]
  apply rowF_congr
  intro j hj
  by_cases e1 : j = k * 2 + 1
  · subst e1
    have h1 : (k * 2 + 1) % 2 = 1 := by omega
    have h2 : (k * 2 + 1) / 2 = k := by omega
    simp [h1, h2]
  · by_cases e2 : j = k * 2
    · subst e2
      have h1 : (k * 2) % 2 = 0 := by omega
      have h2 : (k * 2) / 2 = k := by omega
      simp [h2]
    · have h3 : (j / 2 < k + 1) = (j / 2 < k) := by
        apply propext; omega
      simp [e1, e2, h3]
theorem codC_at0 {k j : Nat} (h : j < k) (hj : j < 257) : (codC k)[j * 2]? = some (.int .u32 (cd j : Int)) := by
  unfold codC
  rw [rowF_at _ (by omega)]
  have h1 : (j * 2) % 2 = 0 := by omega
  have h2 : (j * 2) / 2 = j := by omega
  simp [h2, h]
theorem codC_at1 {k j : Nat} (h : j < k) (hj : j < 257) : (codC k)[j * 2 + 1]? = some (.int .i64 (ln j : Int)) := by
  unfold codC
  rw [rowF_at _ (by omega)]
  have h1 : (j * 2 + 1) % 2 = 1 := by omega
  have h2 : (j * 2 + 1) / 2 = j := by omega
  simp [h1, h2, h]
theorem codC_cut {j : Nat} (hj : j < 257) : (codC 257).extract (j * 2) (j * 2 + 2) = #[.int .u32 (cd j : Int), .int .i64 (ln j : Int)] := by
  unfold codC
  rw [rowF_extract2 _ (by omega)]
  have h1 : (j * 2 + 1) % 2 = 1 := by omega
  have h2 : (j * 2 + 1) / 2 = j := by omega
  have h3 : (j * 2) % 2 = 0 := by omega
  have h4 : (j * 2) / 2 = j := by omega
  simp [h1, h2, h4, hj]
theorem code_info : (Try.prog.info? 127).map (fun i => i.size) = some 2 := by kernel_rfl
theorem index_code {j : Nat} (h : j < 257) (W : World) : (Instr.index 128 (.agg (codC 257)) (.int .i64 (j : Int))).run Try.prog W = .ok (.agg #[.int .u32 (cd j : Int), .int .i64 (ln j : Int)]) W := by
  cases hi : Try.prog.info? 127 with
  | none => have := code_info; rw [hi] at this; simp at this
  | some i =>
    have hs : i.size = 2 := by have := code_info; rw [hi] at this; simpa using this
    rw [run_index_agg Try.underlying128 i hi _ Try.underlying127 rfl .i64 j h W, hs, codC_cut h]

/-- What the next code of so many bits is, k signs on. -/
def nxt (k n : Nat) : Nat := fst n + (lens.take k).count n
theorem nxt_zero : u32s (nxt 0) = u32s fst := u32s_congr fun j _ => by simp [nxt]
theorem nxt_next {k : Nat} (h : k < 257) (v : Nat) (hv : v = cd k + 1) : (u32s (nxt k)).setIfInBounds (ln k) (.int .u32 (v : Int)) = u32s (nxt (k + 1)) := by
  subst hv
  rw [u32s_set]
  apply u32s_congr
  intro j _
  unfold nxt
  rw [cnt_next h j]
  by_cases e : j = ln k
  · subst e; rw [if_pos rfl, if_pos rfl]; unfold cd; omega
  · rw [if_neg e, if_neg e]; omega
theorem cd_bd {k : Nat} (h : k < 257) : cd k ≤ 1073742081 := by
  have h1 := ln_all k h
  have h2 := fst_all (ln k) (by omega)
  have h3 := cnt_le k (ln k)
  unfold cd
  omega

set_option maxHeartbeats 2000000 in
set_option maxRecDepth 100000 in
theorem codes_any (w : World) : Calls Try.prog 79 #[] w fun e w' => e = .returned (.agg (codC 257)) ∧ Below w.heap.size w w' := by
  obtain ⟨hz, hsz⟩ := zero_of_info codes_info
  have HSL : Hid ((Try.prog.info? 124).map (·.size) = some lenC.size) := by show _ = _; rw [lenC_size]; exact (zero_of_info ints_info).2
  have HSF : Hid ((Try.prog.info? 135).map (·.size) = some (u32s fst).size) := by show _ = _; rw [u32s_size]; exact (zero_of_info first_info).2
  have HSC : Hid ((Try.prog.info? 128).map (·.size) = some (codC 257).size) := by show _ = _; rw [codC_size]; exact hsz
  obtain ⟨hzl, _⟩ := zero_of_info ints_info
  obtain ⟨hzf, _⟩ := zero_of_info first_info
  go_enter Try.func79, Try.ntmps79
  go_wp2_with fail
  refine (lengths_any _).mono ?_
  rintro e w1 ⟨rfl, hb1⟩
  have hs1 : w.heap.size + 1 ≤ w1.heap.size := by have := hb1.size; simp at this; omega
  have R0 : Row w1 w.heap.size 128 (codC 0) := (Row.new w 128 (codC 0)).below hb1 (by simp)
  have B1 : Below w.heap.size w w1 := ((Below.refl _ _).alloc (Nat.le_refl _) _).trans (hb1.mono (by simp))
  have HB1 := Lib.hid B1
  have HR0 := Lib.hid R0
  clear hb1 B1 R0
  go_wp2_with (first
    | (refine wpList_store_row rfl 124 (.tmp 1) (.tmp 6) rfl w1.heap.size lenC rfl rfl 124 len0 (heap_alloc_last w1 _) HSL.out (by kernel_rfl) lenC_one ?_; rw [World.setRow_alloc_new])
    | (refine wpList_load_row rfl 124 (.tmp 1) rfl w1.heap.size rfl 124 lenC (0, 0) _ (Row.new w1 _ _) Try.underlying124 rfl HSL.out ?_))
  refine (firsts_any _).mono ?_
  rintro e w2 ⟨rfl, hb2⟩
  have hs2 : w1.heap.size + 1 ≤ w2.heap.size := by have := hb2.size; simp at this; omega
  have R1 : Row w2 w1.heap.size 124 lenC := (Row.new w1 124 lenC).below hb2 (by simp)
  have R0 : Row w2 w.heap.size 128 (codC 0) := (HR0.out.alloc _).below hb2 (by simp; omega)
  have B2 : Below w.heap.size w w2 := (HB1.out.alloc (by omega) _).trans (hb2.mono (by simp; omega))
  have HB2 := Lib.hid B2
  have HR1 := Lib.hid R1
  have HR0' := Lib.hid R0
  clear hb2 B2 R0 R1 HR0 HB1
  go_wp2_with (first
    | (refine wpList_store_row rfl 135 (.tmp 2) (.tmp 8) rfl w2.heap.size (u32s fst) rfl rfl 135 _ (heap_alloc_last w2 _) HSF.out (by rw [u32s_size, u32s_size]) (u32s_one _) ?_; rw [World.setRow_alloc_new])
    | (refine wpList_load_row rfl 124 (.tmp 1) rfl w1.heap.size rfl 124 lenC (0, 0) _ ((HR1.out.alloc _).alloc _) Try.underlying124 rfl HSL.out ?_))
  have RN : Row ((w2.alloc (.cells (u32s fst) 135)).alloc (.cells (codC 0) 128)) w2.heap.size 135 (u32s (nxt 0)) := by rw [nxt_zero]; exact (Row.new w2 _ _).alloc _
  have RA : Row ((w2.alloc (.cells (u32s fst) 135)).alloc (.cells (codC 0) 128)) (w2.heap.size + 1) 128 (codC 0) := Row.made _ _ _ (by simp)
  have RR : Row ((w2.alloc (.cells (u32s fst) 135)).alloc (.cells (codC 0) 128)) w.heap.size 128 (codC 0) := (HR0'.out.alloc _).alloc _
  have RB : Below w.heap.size w ((w2.alloc (.cells (u32s fst) 135)).alloc (.cells (codC 0) 128)) := (HB2.out.alloc (by omega) _).alloc (by simp; omega) _
  clear HB2 HR0' HR1
  go_loopw [10] (fun i wr => ∃ k : Nat, k ≤ 257 ∧ i = .int .i64 k ∧ Row wr w2.heap.size 135 (u32s (nxt k)) ∧ Row wr (w2.heap.size + 1) 128 (codC k) ∧ Row wr w.heap.size 128 (codC 0) ∧ Below w.heap.size w wr)
    (fun i _ => 257 - (intOf i).toNat)
  case atStart => exact ⟨0, by omega, rfl, RN, RA, RR, RB⟩
  case round =>
    clear RN RA RR RB
    obtain ⟨k, hk, rfl, RN, RA, RR, RB⟩ := hrel
    by_cases hlt : k < 257
    · have hidx := index_len hlt
      have hb := ln_all k hlt
      have hcd := cd_bd hlt
      have hnn := nxt_next hlt (cd k + 1) rfl
      have hcn := codC_next k
      have hc1 : wr.cell? ⟨w2.heap.size, ln k, none⟩ = some (.int .u32 (cd k : Int)) := RN.cell (u32s_at _ (by omega))
      generalize ln k = n at hidx hb hnn hcn hc1
      generalize cd k = x at hcd hnn hcn hc1
      obtain ⟨hb5, hb30⟩ := hb
      have hfr1 := RN.thawed n
      have hc2 : ∃ v, wr.cell? ⟨w2.heap.size + 1, k * 2, none⟩ = some v := ⟨_, RA.cell (rowF_at _ (by omega))⟩
      have hc3 : ∃ v, wr.cell? ⟨w2.heap.size + 1, k * 2 + 1, none⟩ = some v := ⟨_, RA.cell (rowF_at _ (by omega))⟩
      obtain ⟨v2, hc2⟩ := hc2
      obtain ⟨v3, hc3⟩ := hc3
      have hfr2 := RA.thawed (k * 2)
      have hfr3 := RA.thawed (k * 2 + 1)
      have HNN := Lib.hid hnn
      have HCN := Lib.hid hcn
      have HRN := Lib.hid RN
      have HRA := Lib.hid RA
      have HRR := Lib.hid RR
      have HRB := Lib.hid RB
      clear hnn hcn RN RA RR RB
      go_wp2_with fail
      go_roundw
      case rel =>
        refine ⟨k + 1, by omega, by go_num, ?_, ?_, ?_, ?_⟩
        · have := ((HRN.out.stored' (a := ⟨w2.heap.size + 1, k * 2, none⟩) (by simp) (.int .u32 (x : Int))).stored' (a := ⟨w2.heap.size + 1, k * 2 + 1, none⟩) (by simp) (.int .i64 (n : Int))).stored n (.int .u32 ((x + 1 : Nat) : Int))
          rw [HNN.out] at this
          exact this
        · have := ((HRA.out.stored (k * 2) (.int .u32 (x : Int))).stored (k * 2 + 1) (.int .i64 (n : Int))).stored' (a := ⟨w2.heap.size, n, none⟩) (by simp) (.int .u32 ((x + 1 : Nat) : Int))
          rw [HCN.out] at this
          exact this
        · exact ((HRR.out.stored' (by simp; omega) _).stored' (by simp; omega) _).stored' (by simp; omega) _
        · exact ((HRB.out.setCell (by simp; omega) _).setCell (by simp; omega) _).setCell (by simp; omega) _
      case measure => simp [intOf]; omega
    · obtain rfl : k = 257 := by omega
      have HRA := Lib.hid RA
      have HRR := Lib.hid RR
      have HRB := Lib.hid RB
      clear RN RA RR RB
      go_wp2_with (first
        | (refine wpList_load_row rfl 128 (.tmp 3) rfl (w2.heap.size + 1) rfl 128 (codC 257) (0, 0) _ HRA.out Try.underlying128 rfl HSC.out ?_)
        | (refine wpList_store_row rfl 128 (.tmp 0) (.tmp 27) rfl w.heap.size (codC 257) rfl rfl 128 _ HRR.out HSC.out (by rw [codC_size, codC_size]) (codC_one _) ?_))
      refine bodyPost_ret (v := .agg (codC 257)) (results_cell_row rfl _ _ w.heap.size 128 (codC 257) (0, 0) _ rfl (HRR.out.setRow _) Try.underlying128 rfl HSC.out) rfl ⟨rfl, below_setRow HRB.out _ _ (Nat.le_refl _)⟩
end Go.Proofs.Ytfajffchnnalaaa
