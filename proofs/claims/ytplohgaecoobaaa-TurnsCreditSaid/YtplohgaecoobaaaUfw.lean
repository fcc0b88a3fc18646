/-
  TurnsFair: the law's walk. No conditions.
-/
import Derived.Test.YtplohgaecoobaaaUfm
import Derived.Deep.OwnRows
namespace Go.Proofs.Ytplohgaecoobaaa
open Go.RowKit Go.WideShapes

theorem byc_rep (n : Nat) : (byc (List.replicate n 0)).toArray = madeCells #[Value.int .u8 0] n := by
  apply Array.ext
  · rw [size_madeCells, List.size_toArray, byc_length, List.length_replicate]
  · intro i h1 h2
    simp [madeCells, byc, Nat.mod_one]
theorem mk2k (W : World) : (Instr.makeSlice 34 (.int .i64 2000) (.int .i64 2000)).run Try.prog W = .ok (.slice (some ⟨W.heap.size, 0, none⟩) 2000 2000) (W.alloc (.cells (byc z2k).toArray 5)) := by
  have h := run_make_row' (P := Try.prog) 34 5 (.int .u8 0) 1 Try.underlying34 u8_info rfl .i64 .i64 2000 (by omega) (by omega) W
  unfold z2k
  rw [byc_rep]
  exact h
theorem z2k_len : z2k.length = 2000 := by unfold z2k; rw [List.length_replicate]
theorem rd2k (W : World) : RdS (W.alloc (.cells (byc z2k).toArray 5)) (fun k => k = W.heap.size) (some ⟨W.heap.size, 0, none⟩) (byc z2k) := fun _ => ⟨W.heap.size, 0, rfl, rfl, fun j u hj => by
  rw [Nat.zero_add]
  exact (Row.new W 5 (byc z2k).toArray).cell (by simpa using hj)⟩
attribute [local irreducible] opM frM nxM nxa rmOpen rmPut z2k
set_option maxRecDepth 100000 in
set_option maxHeartbeats 4000000 in
theorem fair_law {n z : Nat} (hn : n < 256) (hz : z < 256) (w : World) : Calls Try.prog 5 #[.int .u8 n, .int .u8 z] w fun e w' => e = .returned (.bool true) ∧ Below w.heap.size w w' := by
  have hr1 : Int.tmod (n : Int) 30 = ((n % 30 : Nat) : Int) := rfl
  have hr2 : Int.tmod (z : Int) 100 = ((z % 100 : Nat) : Int) := rfl
  have hn1 : n % 30 < 30 := Nat.mod_lt _ (by omega)
  have hz1 : z % 100 < 100 := Nat.mod_lt _ (by omega)
  have hw1 : IntKind.i64.wrap (n : Int) = (n : Int) := IntWalk.i64_in _ (by omega)
  have hw2 : IntKind.i64.wrap (z : Int) = (z : Int) := IntWalk.i64_in _ (by omega)
  obtain ⟨K, hK⟩ : ∃ K : Nat, K = 1 + n % 30 := ⟨_, rfl⟩
  obtain ⟨Z, hZ⟩ : ∃ Z : Nat, Z = 1 + z % 100 := ⟨_, rfl⟩
  have hk1 : IntKind.i64.wrap (1 + ((n % 30 : Nat) : Int)) = (K : Int) := by rw [IntWalk.i64_in _ (by omega)]; omega
  have hk2 : IntKind.i64.wrap (1 + ((z % 100 : Nat) : Int)) = (Z : Int) := by rw [IntWalk.i64_in _ (by omega)]; omega
  have hK1 : 0 < K ∧ K ≤ 30 := by omega
  have hZ1 : 0 < Z ∧ Z ≤ 100 := by omega
  have h3K : IntKind.i64.wrap (3 * (K : Int)) = ((3 * K : Nat) : Int) := by rw [IntWalk.i64_in _ (by omega)]; omega
  generalize n % 30 = n3 at *
  generalize z % 100 = z3 at *
  clear hK hZ
  go_enter Try.func5, Try.ntmps5
  go_wp2_with fail
  refine (tnew_any 1073741824 w).mono ?_
  rintro e w1 ⟨g, F, rfl, hT1, hF1, hb1⟩
  rw [opM_0] at hT1
  have HT1 := Lib.hid hT1
  have HFR := Lib.hid hF1
  have HB1 := Lib.hid hb1
  clear hT1 hF1 hb1
  go_wp2_with fail
  go_loopw [20] (fun i wr => ∃ (k : Nat) (F' : Nat → Prop), k ≤ K ∧ i = .int .i64 k ∧ Hid (Tr wr F' g (opM k)) ∧ Hid (∀ x, F' x → w.heap.size ≤ x) ∧ Hid (Below w.heap.size w wr)) (fun i _ => K - (intOf i).toNat)
  case atStart => exact ⟨0, F, Nat.zero_le _, rfl, HT1, HFR, HB1⟩
  case round =>
    clear HT1 HFR HB1
    obtain ⟨k, F1, hk, rfl, HT, HFR, HB⟩ := hrel
    by_cases hlt : k < K
    · obtain ⟨hfo, hfp⟩ := opM_step k
      have hok := opM_ok k (by omega)
      have hsm := opM_sm (k := k) (by omega)
      have HTO := Lib.hid (topen_any HT.out hok hsm (k + 1) 1073741824)
      have HOK2 := Lib.hid (rmOpen_ok hok (k + 1) (by omega) 1073741824)
      have HSM2 := Lib.hid (opo_sm (k := k) (by omega))
      rw [hfo] at HTO
      have HFP := Lib.hid hfp
      have hs1 : IntKind.i64.wrap ((k : Int) + 1) = (k : Int) + 1 := IntWalk.i64_in _ (by omega)
      have hs2 : IntKind.u32.wrap ((k : Int) + 1) = (k : Int) + 1 := IntWalk.u32_in _ (by omega)
      rw [show ((k + 1 : Nat) : Int) = (k : Int) + 1 from rfl] at HTO
      clear hfo hfp hok hsm
      generalize (rmOpen (opM k) (k + 1) 1073741824).1 = mo at *
      go_wp2_with fail
      refine HTO.out.mono ?_
      rintro e w3 ⟨rfl, F3, hT3, hF3, hN3⟩
      have HFR3 : Hid (∀ x, F3 x → w.heap.size ≤ x) := fun x hx => by
        rcases hN3 x hx with h | h
        · exact HFR.out x h
        · have := HB.out.size; omega
      have HB3 := Lib.hid (HB.out.trans (hF3.below (fun x hx _ => HFR.out x hx) HB.out.size))
      have HT3 := Lib.hid hT3
      clear hT3 hF3 hN3 HFR HB HT HTO
      have hmk := mk2k w3
      have hal : Below w3.heap.size w3 (w3.alloc (.cells (byc z2k).toArray 5)) := (Below.refl _ _).alloc (Nat.le_refl _) _
      have HT4 := Lib.hid (HT3.out.below hal)
      have HB4 := Lib.hid (HB3.out.trans (hal.mono HB3.out.size))
      have hpu := tput_any HT4.out HOK2.out HSM2.out (k + 1) (rd2k w3) (fun x hx _ hf => by have := HT3.out.lts x hf; omega) (c := 2000) (by rw [z2k_len]; omega) false
      rw [HFP.out, z2k_len, show ((k + 1 : Nat) : Int) = (k : Int) + 1 from rfl] at hpu
      have HPU := Lib.hid hpu
      have HS4 : Hid (w3.heap.size ≤ (w3.alloc (.cells (byc z2k).toArray 5)).heap.size) := hal.size
      clear hal hpu HT3 HB3 HT4
      go_wp2_with fail
      refine HPU.out.mono ?_
      rintro e w5 ⟨rfl, F5, hT5, hF5, hN5⟩
      have HFR5 : Hid (∀ x, F5 x → w.heap.size ≤ x) := fun x hx => by
        rcases hN5 x hx with h | h
        · exact HFR3.out x h
        · have := HB4.out.size; omega
      have HB5 := Lib.hid (HB4.out.trans (hF5.below (fun x hx _ => HFR3.out x hx) HB4.out.size))
      have HT5 := Lib.hid hT5
      clear hT5 hF5 hN5 HFR3 HB4 hmk HPU HS4 HFP
      go_wp2_with fail
      go_roundw
      case rel => exact ⟨k + 1, F5, by omega, by go_num, HT5, HFR5, HB5⟩
      case measure => simp [intOf]; omega
    · obtain rfl : k = K := by omega
      rw [← frM_0 Z k] at HT
      have hkz : ((k : Int) == 0) = false := by rw [beq_eq_false_iff_ne]; omega
      have hlt' : decide (k < k) = false := decide_eq_false hlt
      go_wp2_with fail
      go_loopw [45] (fun i wr => ∃ (j : Nat) (F' : Nat → Prop), j ≤ 3 * k ∧ i = .int .i64 j ∧ Hid (Tr wr F' g (frM Z k j)) ∧ Hid (∀ x, F' x → w.heap.size ≤ x) ∧ Hid (Below w.heap.size w wr)) (fun i _ => 3 * k - (intOf i).toNat)
      case atStart => exact ⟨0, F1, Nat.zero_le _, rfl, HT, HFR, HB⟩
      case round =>
        clear HT HFR HB
        obtain ⟨j, F2, hj, rfl, HT, HFR, HB⟩ := hrel
        by_cases hjt : j < 3 * k
        · obtain ⟨hnx, hnm⟩ := frM_next hZ1.1 hZ1.2 hK1.1 hK1.2 hjt
          have hok := frM_ok hZ1.1 hZ1.2 hK1.1 hK1.2 j hj
          have hsm := frM_sm (z := Z) (i := j) hK1.2
          have htn := (tnext_any HT.out hok hsm Z).mono fun e w' h => tn_uni hok h
          rw [hnm, hnx] at htn
          have hll : (List.replicate Z (0 : UInt8)).length = Z := List.length_replicate
          have hmk : j % k < k := Nat.mod_lt _ hK1.1
          obtain ⟨q, hq⟩ : ∃ q, q = j % k := ⟨_, rfl⟩
          have hqm : Int.tmod (j : Int) (k : Int) = (q : Int) := by rw [hq]; rfl
          rw [← hq] at htn hmk
          have hs1 : IntKind.i64.wrap ((q : Int) + 1) = (q : Int) + 1 := IntWalk.i64_in _ (by omega)
          have hs2 : IntKind.u32.wrap ((q : Int) + 1) = (q : Int) + 1 := IntWalk.u32_in _ (by omega)
          have hjt' : (j : Int) < ((3 * k : Nat) : Int) := by omega
          have hjt2 : (j : Int) < 3 * (k : Int) := by omega
          generalize List.replicate Z (0 : UInt8) = l at *
          have hn1 : (((q : Int) + 1) != ((q : Int) + 1)) = false := by simp
          have hn2 : ((Z : Int) != (Z : Int)) = false := by simp
          have HTN := Lib.hid htn
          clear htn hok hsm hnm hnx hq
          go_wp2_with fail
          refine HTN.out.mono ?_
          rintro e w3 ⟨A3, c3, rfl, hO3, F3, hT3, hF3, hN3, hD3⟩
          have HT3 := Lib.hid hT3
          have HFR3 : Hid (∀ x, F3 x → w.heap.size ≤ x) := fun x hx => by
            rcases hN3 x hx with h | h
            · exact HFR.out x h
            · have := HB.out.size; omega
          have HB3 := Lib.hid (HB.out.trans (hF3.below (fun x hx _ => HFR.out x hx) HB.out.size))
          clear hO3 hT3 hF3 hN3 hD3 HT HFR HB HTN
          dsimp only
          rw [show ((q + 1 : Nat) : Int) = (q : Int) + 1 from rfl, hll]
          go_wp2_with fail
          go_roundw
          case rel => exact ⟨j + 1, F3, by omega, by go_num, HT3, HFR3, HB3⟩
          case measure => simp [intOf]; omega
        · obtain rfl : j = 3 * k := by omega
          clear HT HFR
          go_wp2_with fail
          refine (fixed13_any _).mono ?_
          rintro e w3 ⟨rfl, hb3⟩
          have HB3 := Lib.hid (HB.out.trans (hb3.mono HB.out.size))
          clear hb3 HB
          go_wp2_with fail
          go_ret
          exact ⟨rfl, HB3.out⟩
theorem fair_int {n z : Int} (hn : 0 ≤ n ∧ n < 256) (hz : 0 ≤ z ∧ z < 256) (w : World) : Calls Try.prog 5 #[.int .u8 n, .int .u8 z] w fun e w' => e = .returned (.bool true) ∧ Below w.heap.size w w' := by
  obtain ⟨a, rfl⟩ := Int.eq_ofNat_of_zero_le hn.1
  obtain ⟨b, rfl⟩ := Int.eq_ofNat_of_zero_le hz.1
  exact fair_law (by omega) (by omega) w
end Go.Proofs.Ytplohgaecoobaaa
