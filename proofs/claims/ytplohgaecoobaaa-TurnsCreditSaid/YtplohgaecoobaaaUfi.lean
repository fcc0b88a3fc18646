/-
  The document's ring: Find, Last, Can, by their contracts. No conditions but those that each theorem names.
-/
import Derived.Test.YtplohgaecoobaaaUst
namespace Go.Proofs.Ytplohgaecoobaaa
open Go.RowKit Go.WideShapes

attribute [local irreducible] snc rrc fd
set_option maxRecDepth 100000 in
set_option maxHeartbeats 1000000 in
theorem rfind_any {w : World} {A : Option Addr} {c f : Nat} {l : Int} {L : List Sn} (h : Rg w A c L) (s : Nat) :
    Calls Try.prog 18 #[.agg (rrc A L.length c f l), .int .u32 s] w fun e w' => e = .returned (.int .i64 (fdI s L)) ∧ Below w.heap.size w w' := by
  have HX : Hid (Row (w.alloc (.cells (rrc A L.length c f l) 31)) w.heap.size 31 (rrc A L.length c f l)) := Row.new w _ _
  have HB : Hid (Below w.heap.size w (w.alloc (.cells (rrc A L.length c f l) 31))) := (Below.refl _ _).alloc (Nat.le_refl _) _
  have HR := Lib.hid (h.up HB.out)
  have hbd := h.bd
  go_enter Try.func18, Try.ntmps18
  go_upto_region 1 with fail
  generalize w.alloc (.cells (rrc A L.length c f l) 31) = w0 at *
  have c0 := (rr_cells HX.out).1
  clear h
  go_wp2_with fail
  go_loop [9] (fun i => ∃ k : Nat, k ≤ L.length ∧ i = .int .i64 k ∧ Hid (k ≤ fd s L)) (fun i => L.length - (intOf i).toNat)
  case atStart => exact ⟨0, Nat.zero_le _, rfl, Nat.zero_le _⟩
  case round =>
    obtain ⟨k, hk, rfl, hF⟩ := hrel
    by_cases hlt : k < L.length
    · obtain ⟨b, q, rfl, hb, hr⟩ := HR.out.at hlt
      have hc := (sn_in hr).1
      by_cases hs : L[k].st = s
      · have e1 : ((L[k].st : Int) == (s : Int)) = true := by rw [hs]; exact beq_self_eq_true _
        have hE : Hid (fdI s L = k) := by
          show _ = _
          unfold fdI
          rw [fd_hit hlt hF.out hs, if_pos hlt]
        clear hr hs hF
        generalize L[k].st = z at *
        go_wp2_with fail
        go_ret
        rw [hE.out]
        exact ⟨rfl, HB.out⟩
      · have e1 : ((L[k].st : Int) == (s : Int)) = false := by
          rw [beq_eq_false_iff_ne]; omega
        have hE : Hid (k + 1 ≤ fd s L) := fd_more hlt hF.out hs
        clear hr hs hF
        generalize L[k].st = z at *
        go_wp2_with fail
        go_round
        case rel => exact ⟨k + 1, by omega, by go_num, hE⟩
        case measure => simp [intOf]; omega
    · obtain rfl : k = L.length := by omega
      have hE : Hid (fdI s L = -1) := by
        show _ = _
        unfold fdI
        rw [if_neg (by have := hF.out; omega)]
      clear hF
      go_wp2_with fail
      go_ret
      rw [hE.out]
      exact ⟨rfl, HB.out⟩
theorem tb_nil (l : List UInt8) : l.isEmpty = decide (l = []) := by cases l <;> rfl
set_option maxRecDepth 100000 in
theorem rlast_any (w : World) (A : Option Addr) (n c f : Nat) (l : Int) (hn : n ≤ 1000000) (hf : f ≤ 1000000) :
    Calls Try.prog 46 #[.agg (rrc A n c f l)] w fun e w' => e = .returned (.int .i64 ((n : Int) - f)) ∧ Below w.heap.size w w' := by
  have HX : Hid (Row (w.alloc (.cells (rrc A n c f l) 31)) w.heap.size 31 (rrc A n c f l)) := Row.new w _ _
  have HB : Hid (Below w.heap.size w (w.alloc (.cells (rrc A n c f l) 31))) := (Below.refl _ _).alloc (Nat.le_refl _) _
  obtain ⟨c0, c1, _, _⟩ := rr_cells HX.out
  have hw : IntKind.i64.wrap ((n : Int) - (f : Int)) = (n : Int) - f := IntWalk.i64_in _ (by omega)
  go_enter Try.func46, Try.ntmps46
  go_upto_region 1 with fail
  generalize w.alloc (.cells (rrc A n c f l) 31) = w0 at *
  go_wp2_with fail
  go_ret
  exact ⟨rfl, HB.out⟩
attribute [local irreducible] can
set_option maxRecDepth 100000 in
set_option maxHeartbeats 1000000 in
theorem rcan_any (w : World) (A : Option Addr) (n c f : Nat) (l : Int) (x : Sn) :
    Calls Try.prog 13 #[.agg (rrc A n c f l), .agg (snc x)] w fun e w' => e = .returned (.bool (can l x)) ∧ Below w.heap.size w w' := by
  obtain ⟨w0, hw0, t1, t2, t3, _⟩ := two_ref w (rrc A n c f l) (snc x) 31 40
  have HB := Lib.hid t3
  have HW := Lib.hid hw0
  obtain ⟨_, _, c2, _⟩ := rr_cells t1
  obtain ⟨_, d1, d2, d3, d4, _⟩ := sn_cells t2
  have e0 := tb_nil x.b
  clear t1 t2 t3 hw0
  have hcan : Hid (can l x = if x.b = [] then x.en && !x.ov else decide (0 < x.lf) && decide (0 < l)) := by show _ = _; unfold can; rfl
  go_enter Try.func13, Try.ntmps13
  go_upto_region 1 with fail
  rw [HW.out]
  clear HW
  by_cases hb : x.b = []
  · rw [if_pos hb] at hcan
    simp only [hb, decide_true] at e0
    rw [hb] at d1
    generalize x.en = a at *
    generalize x.ov = b at *
    clear c2 d4
    cases a <;> cases b
    all_goals
      go_wp2_with fail
      go_ret
      rw [hcan.out]
      exact ⟨rfl, HB.out⟩
  · rw [if_neg hb] at hcan
    simp only [hb, decide_false] at e0
    generalize x.lf = a at *
    clear d2 d3 hb
    by_cases h1 : 0 < a
    · simp only [h1, decide_true, Bool.true_and] at hcan
      go_wp2_with fail
      go_ret
      rw [hcan.out]
      exact ⟨rfl, HB.out⟩
    · have h1' : decide (0 < a) = false := by simp; omega
      simp only [h1', Bool.false_and] at hcan
      go_wp2_with fail
      go_ret
      rw [hcan.out]
      exact ⟨rfl, HB.out⟩
end Go.Proofs.Ytplohgaecoobaaa
