/-
  The document's Reason, by its contract. Conditions: how many bytes there may be.
-/
import Derived.Test.YtdegpchofhnipaaDoorMfi
import Derived.Test.YtdegpchofhnipaaDoorVrg
namespace Go.Proofs.YtdegpchofhnipaaDoor
open Go.RowKit Go.WideShapes

set_option maxRecDepth 100000 in
set_option maxHeartbeats 4000000 in
theorem rreason_any {s : List UInt8} (hl : s.length ≤ 100000) (w : World) : Calls Tryd.prog 22 #[.string (txb s)] w fun e w' => e = .returned (.string (txb (reasonM s))) ∧ Below w.heap.size w w' := by
  have hgd := rgood_any hl w
  have hsz := txb_size s
  have HSL := Lib.hid hl
  have HG : Hid (∀ (n : Nat), n ≤ s.length → ∀ W, Calls Tryd.prog 18 #[.string (txb (s.take n))] W fun e w' => e = .returned (.tuple #[.int .i64 ((goN ut0 (nats (s.take n))).1 : Int), .bool (txtB (nats (s.take n)))]) ∧ Below W.heap.size W w') := fun n hn W => rgood_any (by rw [List.length_take]; omega) W
  have HCU : Hid (∀ n : Nat, n ≤ s.length → ∀ W, (Instr.slice 9 (.string (txb s)) none (some (.int .i64 (n : Int))) none).run Tryd.prog W = .ok (.string (txb (s.take n))) W) := fun n hn W => by
    have h := txb_upto s (n : Int) (by omega) (by omega) W
    rw [Int.toNat_natCast] at h
    exact h
  obtain ⟨n0, hn0⟩ : ∃ n0, n0 = min s.length 123 := ⟨_, rfl⟩
  have hmin : min (s.length : Int) 123 = (n0 : Int) := by omega
  have HN0 : Hid (n0 ≤ s.length ∧ n0 ≤ 123) := ⟨by omega, by omega⟩
  have HRS : Hid (reasonM s = if txtB (nats s) = true then cutR s n0 else []) := by show _ = _; unfold reasonM; rw [hn0]
  generalize (goN ut0 (nats s)).1 = gn at *
  generalize txb s = y at *
  clear hl hn0
  go_enter Tryd.func22, Tryd.ntmps22
  go_wp2_with fail
  refine hgd.mono ?_
  rintro e w1 ⟨rfl, hb1⟩
  have HB1 := Lib.hid hb1
  clear hgd hb1
  cases ht : txtB (nats s)
  · rw [if_neg (by rw [ht]; simp)] at HRS
    clear ht
    go_wp2_with fail
    go_ret
    rw [HRS.out]
    exact ⟨rfl, HB1.out⟩
  · rw [if_pos ht] at HRS
    clear ht
    go_upto_region 5 with fail
    clear hmin
    go_loopw [5] (fun i wr => ∃ n : Nat, i = .int .i64 n ∧ n ≤ n0 ∧ Hid (cutR s n = cutR s n0) ∧ Hid (Below w.heap.size w wr)) (fun i _ => (intOf i).toNat)
    case atStart => exact ⟨n0, rfl, Nat.le_refl _, rfl, HB1⟩
    case round =>
      obtain ⟨n, rfl, hn, HCR, HBr⟩ := hrel
      have hns : n ≤ s.length := Nat.le_trans hn HN0.out.1
      by_cases h0 : 0 < n
      · have hd : decide ((0 : Int) < (n : Int)) = true := decide_eq_true (by omega)
        have hd2 : decide (0 < n) = true := decide_eq_true h0
        have hcut := HCU.out n hns
        have hg := HG.out n hns
        generalize (goN ut0 (nats (s.take n))).1 = gq at *
        cases ht : txtB (nats (s.take n))
        · rw [ht] at hg
          have HM : Hid (cutR s (n - 1) = cutR s n0) := by
            obtain ⟨m, rfl⟩ : ∃ m, n = m + 1 := ⟨n - 1, by omega⟩
            show _ = _
            rw [← HCR.out, cutR_no ht]
            rfl
          have hwr : IntKind.i64.wrap ((n : Int) - 1) = ((n - 1 : Nat) : Int) := by rw [IntWalk.i64_in _ (by have := HN0.out; omega)]; omega
          have HH := Lib.hid h0
          clear ht HCR h0
          generalize txb (s.take n) = y1 at *
          obtain ⟨m, hm⟩ : ∃ m, m = n - 1 := ⟨_, rfl⟩
          rw [← hm] at hwr HM
          have HMM := Lib.hid hm
          clear hm
          go_wp2_with fail
          refine (hg _).mono ?_
          rintro e w3 ⟨rfl, hb3⟩
          have HB3 := Lib.hid (HBr.out.trans (hb3.mono HBr.out.size))
          clear hg hb3 HBr
          go_wp2_with fail
          go_roundw
          case rel => exact ⟨m, rfl, by have := HMM.out; omega, HM, HB3⟩
          case measure => have := HMM.out; have := HH.out; simp [intOf] <;> omega
        · rw [ht] at hg
          have HE : Hid (reasonM s = s.take n) := by show _ = _; rw [HRS.out, ← HCR.out]; exact cutR_yes ht
          have HY : Hid (txb (s.take n) = txb (reasonM s)) := by show _ = _; rw [HE.out]
          clear ht HCR HRS HE
          generalize txb (s.take n) = y1 at *
          go_wp2_with fail
          refine (hg _).mono ?_
          rintro e w3 ⟨rfl, hb3⟩
          have HB3 := Lib.hid (HBr.out.trans (hb3.mono HBr.out.size))
          clear hg hb3 HBr
          go_wp2_with fail
          go_ret
          rw [← HY.out]
          exact ⟨rfl, HB3.out⟩
      · obtain rfl : n = 0 := by omega
        have e1 : reasonM s = [] := by rw [HRS.out, ← HCR.out]; rfl
        have HE := Lib.hid e1
        clear HRS e1
        go_wp2_with fail
        go_ret
        rw [HE.out]
        exact ⟨rfl, HBr.out⟩
end Go.Proofs.YtdegpchofhnipaaDoor
