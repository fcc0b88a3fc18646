/-
  The program's firsts, by its contract.
-/
import Derived.Test.YtfajffchnnalaaaHlen
import Derived.StillTailTactics
namespace Go.Proofs.Ytfajffchnnalaaa
open Go.RowKit Go.WideShapes

def u32s (f : Nat → Nat) : Array Value := rowF 31 fun j => .int .u32 (f j : Int)
theorem first_info : (Try.prog.info? 135).map (fun i => (i.zero, i.size)) = some (some (.agg (u32s fun _ => 0)), 31) := by kernel_rfl
theorem i64_info : (Try.prog.info? 3).map (fun i => (i.zero, i.size, i.bytes)) = some (some (.int .i64 0), 1, 8) := by kernel_rfl
theorem u32s_size (f : Nat → Nat) : (u32s f).size = 31 := rowF_size _ _
theorem u32s_one (f : Nat → Nat) : (u32s f).all (·.oneCell') = true := rowF_one fun _ _ => rfl
theorem u32s_at (f : Nat → Nat) {j : Nat} (h : j < 31) : (u32s f)[j]? = some (.int .u32 (f j : Int)) := rowF_at _ h
theorem u32s_set (f : Nat → Nat) (i v : Nat) : (u32s f).setIfInBounds i (.int .u32 (v : Int)) = u32s fun j => if j = i then v else f j := by
  unfold u32s
  rw [rowF_set]
  apply rowF_congr
  intro j _
  by_cases e : j = i <;> simp [e]
theorem u32s_congr {f g : Nat → Nat} (h : ∀ j, j < 31 → f j = g j) : u32s f = u32s g := rowF_congr fun j hj => by rw [h j hj]

theorem lenC_at {k : Nat} (h : k < 257) : lenC[k]? = some (.int .i64 (ln k : Int)) := by
  unfold lenC
  simp [lens_at h]
theorem index_len {k : Nat} (h : k < 257) (W : World) : (Instr.index 124 (.agg lenC) (.int .i64 (k : Int))).run Try.prog W = .ok (.int .i64 (ln k : Int)) W := by
  cases hi : Try.prog.info? 3 with
  | none => have := i64_info; rw [hi] at this; simp at this
  | some i =>
    have hs : i.size = 1 := by have := i64_info; rw [hi] at this; simp at this; exact this.2.1
    exact run_index_one Try.underlying124 i hi hs _ Try.underlying3 rfl .i64 k h (lenC_at h) W

set_option maxHeartbeats 2000000 in
set_option maxRecDepth 100000 in
theorem firsts_any (w : World) : Calls Try.prog 85 #[.agg lenC] w fun e w' => e = .returned (.agg (u32s fst)) ∧ Below w.heap.size w w' := by
  obtain ⟨hz, hsz⟩ := zero_of_info first_info
  have hsz' : (Try.prog.info? 124).map (·.size) = some lenC.size := by rw [lenC_size]; exact (zero_of_info ints_info).2
  go_enter Try.func85, Try.ntmps85
  go_wp2_with (first
    | (refine wpList_load_row rfl 124 (.tmp 1) rfl w.heap.size rfl 124 lenC (0, 0) _ ((((Row.new w _ _).alloc _).alloc _).alloc _) Try.underlying124 rfl hsz' ?_))
  have R4 : Row ((((w.alloc (.cells lenC 124)).alloc (.cells (u32s fun _ => 0) 135)).alloc (.cells (u32s fun _ => 0) 135)).alloc (.cells (u32s fun _ => 0) 135)) (w.heap.size + 1 + 1 + 1) 135 (u32s fun n => (lens.take 0).count n) := by
    simp only [List.take_zero, List.count_nil]
    exact Row.made _ 135 (u32s fun _ => 0) (by simp)
  have R3 : Row ((((w.alloc (.cells lenC 124)).alloc (.cells (u32s fun _ => 0) 135)).alloc (.cells (u32s fun _ => 0) 135)).alloc (.cells (u32s fun _ => 0) 135)) (w.heap.size + 1 + 1) 135 (u32s fun _ => 0) :=
    (Row.made _ 135 (u32s fun _ => 0) (by simp)).alloc _
  have R2 : Row ((((w.alloc (.cells lenC 124)).alloc (.cells (u32s fun _ => 0) 135)).alloc (.cells (u32s fun _ => 0) 135)).alloc (.cells (u32s fun _ => 0) 135)) (w.heap.size + 1) 135 (u32s fun _ => 0) :=
    ((Row.made _ 135 (u32s fun _ => 0) (by simp)).alloc _).alloc _
  have HB : Below w.heap.size w ((((w.alloc (.cells lenC 124)).alloc (.cells (u32s fun _ => 0) 135)).alloc (.cells (u32s fun _ => 0) 135)).alloc (.cells (u32s fun _ => 0) 135)) :=
    ((((Below.refl _ _).alloc (Nat.le_refl _) _).alloc (by simp) _).alloc (by simp; omega) _).alloc (by simp; omega) _
  go_loopw [9] (fun i wr => ∃ k : Nat, k ≤ 257 ∧ i = .int .i64 k ∧ Row wr (w.heap.size + 1 + 1 + 1) 135 (u32s fun n => (lens.take k).count n) ∧ Row wr (w.heap.size + 1 + 1) 135 (u32s fun _ => 0) ∧ Row wr (w.heap.size + 1) 135 (u32s fun _ => 0) ∧ Below w.heap.size w wr)
    (fun i _ => 257 - (intOf i).toNat)
  case atStart => exact ⟨0, by omega, rfl, R4, R3, R2, HB⟩
  case round =>
    obtain ⟨k, hk, rfl, R4, R3, R2, HB⟩ := hrel
    by_cases hlt : k < 257
    · have hidx := index_len hlt
      have hb := ln_all k hlt
      have hnext := cnt_next hlt
      have hcl := cnt_le k (ln k)
      generalize ln k = n at hidx hb hnext hcl
      obtain ⟨c, hc⟩ : ∃ c, c = (lens.take k).count n := ⟨_, rfl⟩
      rw [← hc] at hcl
      have hcell : wr.cell? ⟨w.heap.size + 1 + 1 + 1, n, none⟩ = some (.int .u32 (c : Int)) := by rw [R4.cell (u32s_at _ (show n < 31 by omega)), hc]
      have hfr : wr.frozen? ⟨w.heap.size + 1 + 1 + 1, n, none⟩ = false := R4.thawed n
      obtain ⟨hb5, hb30⟩ := hb
      have HN := Lib.hid hnext
      have HC := Lib.hid hc
      clear hnext hc
      have HR4 := Lib.hid R4
      have HR3 := Lib.hid R3
      have HR2 := Lib.hid R2
      have HBB := Lib.hid HB
      clear R4 R3 R2 HB
      go_wp2_with fail
      go_roundw
      case rel =>
        refine ⟨k + 1, by omega, by go_num, ?_, HR3.out.stored' (by simp) _, HR2.out.stored' (by simp) _, HBB.out.setCell (by simp; omega) _⟩
        have := HR4.out.stored n (.int .u32 ((c + 1 : Nat) : Int))
        rw [u32s_set] at this
        have e : u32s (fun j => if j = n then c + 1 else (lens.take k).count j) = u32s fun n => (lens.take (k + 1)).count n := u32s_congr fun j _ => by
          rw [HN.out j]
          by_cases e : j = n
          · subst e; rw [if_pos rfl, if_pos rfl, HC.out]
          · rw [if_neg e, if_neg e]; rfl
        rw [e] at this
        exact this
      case measure => simp [intOf]; omega
    · obtain rfl : k = 257 := by omega
      have HR4 : Row wr (w.heap.size + 1 + 1 + 1) 135 (u32s fun n => lens.count n) := by
        have := R4
        simp only [cnt_all] at this
        exact this
      clear R4
      go_wp2_with fail
      have R3' : Row wr (w.heap.size + 1 + 1) 135 (u32s fun j => if j ≤ 0 then fst j else 0) := by
        have e : (u32s fun j => if j ≤ 0 then fst j else 0) = u32s fun _ => 0 := u32s_congr fun j _ => by
          by_cases e : j = 0
          · subst e; rfl
          · rw [if_neg (by omega)]
        rw [e]
        exact R3
      go_loopw [18] (fun i wx => ∃ n : Nat, n ≤ 30 ∧ i = .int .i64 n ∧ Row wx (w.heap.size + 1 + 1 + 1) 135 (u32s fun n => lens.count n) ∧ Row wx (w.heap.size + 1 + 1) 135 (u32s fun j => if j ≤ n then fst j else 0) ∧ Row wx (w.heap.size + 1) 135 (u32s fun _ => 0) ∧ Below w.heap.size w wx)
        (fun i _ => 30 - (intOf i).toNat)
      case atStart => exact ⟨0, by omega, rfl, HR4, R3', R2, HB⟩
      case round =>
        clear R3 R3' R2 HB HR4
        obtain ⟨n, hn, rfl, R4, R3, R2, HB⟩ := hrel
        by_cases hlt : n < 30
        · have hx := fst_cnt n hlt
          obtain ⟨x, hxe⟩ : ∃ x, x = fst n := ⟨_, rfl⟩
          obtain ⟨y, hye⟩ : ∃ y, y = lens.count n := ⟨_, rfl⟩
          rw [← hxe, ← hye] at hx
          have hc1 : wr.cell? ⟨w.heap.size + 1 + 1, n, none⟩ = some (.int .u32 (x : Int)) := by rw [R3.cell (u32s_at _ (show n < 31 by omega)), if_pos (Nat.le_refl _), hxe]
          have hc2 : wr.cell? ⟨w.heap.size + 1 + 1 + 1, n, none⟩ = some (.int .u32 (y : Int)) := by rw [R4.cell (u32s_at _ (show n < 31 by omega)), hye]
          have hc3 : wr.cell? ⟨w.heap.size + 1 + 1, n + 1, none⟩ = some (.int .u32 ((0 : Nat) : Int)) := by rw [R3.cell (u32s_at _ (show n + 1 < 31 by omega)), if_neg (by omega)]
          have hfr := R3.thawed (n + 1)
          have hs1 : IntKind.i64.wrap ((n : Int) + 1) = (n : Int) + 1 := IntWalk.i64_in _ (by omega)
          have hs2 : ((n : Int) + 1).toNat = n + 1 := by omega
          have hs3 : 0 ≤ (n : Int) + 1 := by omega
          have hs4 : (n : Int) + 1 < 31 := by omega
          have hs5 : (n : Int) < 31 := by omega
          have hs6 : n < 31 := by omega
          obtain ⟨z, hze⟩ : ∃ z, z = fst (n + 1) := ⟨_, rfl⟩
          have hs7 : Hid (((x : Int) + y) * 2 = (z : Int)) := by
            have : z = (x + y) * 2 := by rw [hze, hxe, hye]; rfl
            show _ = _
            omega
          have HZ := Lib.hid hze
          clear hze
          have HX := Lib.hid hxe
          have HY := Lib.hid hye
          clear hxe hye
          have HR4 := Lib.hid R4
          have HR3 := Lib.hid R3
          have HR2 := Lib.hid R2
          have HBB := Lib.hid HB
          clear R4 R3 R2 HB
          go_wp2_with fail
          go_still_tail 11, (by kernel_rfl)
          change wpList _ _ _ _ _ wr.drew
          have hfr2 : wr.drew.frozen? ⟨w.heap.size + 1 + 1, n + 1, none⟩ = false := hfr
          have hc4 : wr.drew.cell? ⟨w.heap.size + 1 + 1, n + 1, none⟩ = some (.int .u32 ((0 : Nat) : Int)) := hc3
          go_wp2_with fail
          go_roundw
          case rel =>
            refine ⟨n + 1, by omega, by go_num, ?_, ?_, ?_, ?_⟩
            · exact Row.stored' (w := wr.drew) HR4.out (by simp) _
            · have := Row.stored (w := wr.drew) HR3.out (n + 1) (.int .u32 (z : Int))
              rw [u32s_set] at this
              have e : u32s (fun j => if j = n + 1 then z else if j ≤ n then fst j else 0) = u32s fun j => if j ≤ n + 1 then fst j else 0 := u32s_congr fun j _ => by
                by_cases e : j = n + 1
                · subst e; rw [if_pos rfl, if_pos (Nat.le_refl _), HZ.out]
                · rw [if_neg e]
                  by_cases e2 : j ≤ n
                  · rw [if_pos e2, if_pos (by omega)]
                  · rw [if_neg e2, if_neg (by omega)]
              rw [e] at this
              rw [hs7.out]
              exact this
            · exact Row.stored' (w := wr.drew) HR2.out (by simp) _
            · exact (HBB.out.drew).setCell (by simp; omega) _
          case measure => simp [intOf]; omega
        · obtain rfl : n = 30 := by omega
          have e : u32s (fun j => if j ≤ 30 then fst j else 0) = u32s fst := u32s_congr fun j hj => by rw [if_pos (by omega)]
          rw [e] at R3
          have HR3 := Lib.hid R3
          have HR2 := Lib.hid R2
          have HBB := Lib.hid HB
          have HSZ : Hid ((Try.prog.info? 135).map (·.size) = some (u32s fst).size) := by show _ = _; rw [u32s_size]; exact hsz
          clear R4 R3 R2 HB e
          go_wp2_with (first
            | (refine wpList_load_row rfl 135 (.tmp 3) rfl (w.heap.size + 1 + 1) rfl 135 (u32s fst) (0, 0) _ HR3.out Try.underlying135 rfl HSZ.out ?_)
            | (refine wpList_store_row rfl 135 (.tmp 2) (.tmp 33) rfl (w.heap.size + 1) (u32s fst) rfl rfl 135 _ HR2.out HSZ.out (by rw [u32s_size, u32s_size]) (u32s_one _) ?_))
          refine bodyPost_ret (v := .agg (u32s fst)) (results_cell_row rfl _ _ (w.heap.size + 1) 135 (u32s fst) (0, 0) _ rfl (HR2.out.setRow _) Try.underlying135 rfl HSZ.out) rfl ⟨rfl, below_setRow HBB.out _ _ (by omega)⟩
end Go.Proofs.Ytfajffchnnalaaa
