/-
  What has room of a reason, a close that is made, by their contracts. Conditions: how many bytes the reason may have.
-/
import Derived.Test.YtdegpchofhnipaaDoorMcl
import Derived.Lib.MinMax
import Derived.Lib.ConvBytes
namespace Go.Proofs.YtdegpchofhnipaaDoor
open Go.RowKit Go.WideShapes

theorem bytesM_run (l : List UInt8) (w : World) : ∃ (c : Nat) (w' : World), (convert 9 30 (.string (txb l))).run Tryd.prog w = .ok (.slice (some ⟨w.heap.size, 0, none⟩) l.length c) w' ∧ l.length ≤ c ∧ Below w.heap.size w w' ∧ RdS w' (fun k => w.heap.size ≤ k ∧ k < w'.heap.size) (some ⟨w.heap.size, 0, none⟩) (byc l) := by
  have h := Lib.run_convert_string_bytes (P := Tryd.prog) w 9 30 5 (txb l) Tryd.underlying9 Tryd.underlying30 Tryd.underlying5
  rw [txb_size] at h
  refine ⟨_, _, h, grownCap_ge _ _ _ _, ⟨rfl, rfl, rfl, by rw [Lib.bytesWorld_size]; omega, fun k hk => Lib.bytesWorld_at_old w _ _ k hk⟩, fun _ => ⟨w.heap.size, 0, rfl, ⟨Nat.le_refl _, by rw [Lib.bytesWorld_size]; omega⟩, fun j u hj => ?_⟩⟩
  obtain ⟨hj', rfl⟩ := byc_get hj
  have := Lib.bytesWorld_cell w 5 (txb l) j (by rw [txb_size]; exact hj')
  rw [Nat.zero_add, this]
  simp [txb, List.getElem?_eq_getElem hj']
theorem cutR_yes {s : List UInt8} : ∀ {n : Nat}, txtB (nats (s.take n)) = true → cutR s n = s.take n
  | 0, _ => rfl
  | n + 1, h => by unfold cutR; rw [if_pos h]
theorem cutR_no {s : List UInt8} {n : Nat} (h : txtB (nats (s.take (n + 1))) = false) : cutR s (n + 1) = cutR s n := by
  unfold cutR
  rw [if_neg (by rw [h]; simp)]
  cases n <;> rfl
/-- What fitting leaves. -/
def FitP (w : World) (l : List UInt8) (e : Ending) (w' : World) : Prop := ∃ A c, e = .returned (.slice A l.length c) ∧ RdB w' w'.heap.size A l ∧ l.length ≤ c ∧ Below w.heap.size w w'
set_option maxRecDepth 100000 in
set_option maxHeartbeats 4000000 in
theorem mfit_any {s : List UInt8} (hl : s.length ≤ 100000) (w : World) : Calls Tryd.prog 30 #[.string (txb s)] w (FitP w (reasonM s)) := by
  obtain ⟨c1, w1, hcv, hc1, hb1, hr1⟩ := bytesM_run s w
  obtain ⟨i0, hi0, hz0, hz1, hz2⟩ := infoI infoI8
  have hrb : RdB w1 w1.heap.size (some ⟨w.heap.size, 0, none⟩) s := RdB.ofS hr1 fun _ hk _ => hk.2
  have HR1 := Lib.hid hrb
  have HB1 := Lib.hid hb1
  have hv := valid_any (c := c1) hrb (by omega)
  have HSL := Lib.hid hl
  have HC1 := Lib.hid hc1
  have HCU : Hid (∀ k : Nat, k ≤ s.length → (∀ W, (Instr.slice 30 (.slice (some ⟨w.heap.size, 0, none⟩) s.length c1) none (some (.int .i64 (k : Int))) none).run Tryd.prog W = .ok (.slice (some ⟨w.heap.size, 0, none⟩) k c1) W) ∧ RdB w1 w1.heap.size (some ⟨w.heap.size, 0, none⟩) (s.take k)) := fun k hk => cut_upto (P := Tryd.prog) Tryd.underlying30 hi0 hz1 hrb hc1 hk
  obtain ⟨y, hy⟩ : ∃ y, y = txb s := ⟨_, rfl⟩
  rw [← hy] at hcv ⊢
  obtain ⟨n0, hn0⟩ : ∃ n0, n0 = min s.length 123 := ⟨_, rfl⟩
  have hmin : min (s.length : Int) 123 = (n0 : Int) := by omega
  have HN0 : Hid (n0 ≤ s.length ∧ n0 ≤ 123) := ⟨by omega, by omega⟩
  have HRS : Hid (reasonM s = if txtB (nats s) = true then cutR s n0 else []) := by show _ = _; unfold reasonM; rw [hn0]
  clear hl hb1 hr1 hrb hc1 hi0 hz0 hz1 hz2 hy hn0
  go_enter Tryd.func30, Tryd.ntmps30
  go_wp2_with fail
  refine hv.mono ?_
  rintro e w2 ⟨rfl, hb2⟩
  have HB2 := Lib.hid (HB1.out.trans (hb2.mono HB1.out.size))
  have HK2 := Lib.hid hb2
  clear hcv hv hb2
  cases ht : txtB (nats s)
  · rw [if_neg (by rw [ht]; simp)] at HRS
    have e1 := HRS.out
    clear ht HRS
    go_wp2_with fail
    go_ret
    rw [e1]
    exact ⟨none, 0, rfl, RdB.nil, Nat.le_refl _, HB2.out⟩
  · rw [if_pos ht] at HRS
    clear ht
    go_upto_region 5 with fail
    clear hmin
    go_loopw [4] (fun i wr => ∃ n : Nat, i = .int .i64 n ∧ n ≤ n0 ∧ Hid (cutR s n = cutR s n0) ∧ Hid (Below w1.heap.size w1 wr)) (fun i _ => (intOf i).toNat)
    case atStart => exact ⟨n0, rfl, Nat.le_refl _, rfl, HK2⟩
    case round =>
      obtain ⟨n, rfl, hn, HCR, HBr⟩ := hrel
      have hns : n ≤ s.length := Nat.le_trans hn HN0.out.1
      obtain ⟨hcut, hrd⟩ := HCU.out n hns
      have hlen : (s.take n).length = n := by rw [List.length_take]; omega
      have hv := valid_any (c := c1) ((hrd.below (hb := HBr.out)).more HBr.out.size) (by rw [hlen]; have := HSL.out; omega)
      rw [hlen] at hv
      have HRD := Lib.hid hrd
      have HLEN := Lib.hid hlen
      clear hrd hlen
      cases ht : txtB (nats (s.take n))
      · rw [ht] at hv
        obtain ⟨m, hm⟩ : ∃ m, n = m + 1 := by
          cases n with
          | zero =>
            have h0 : txtB (nats (s.take 0)) = true := rfl
            rw [h0] at ht
            cases ht
          | succ m => exact ⟨m, rfl⟩
        have HC2 : Hid (cutR s m = cutR s n0) := by
          show _ = _
          subst hm
          rw [← cutR_no ht]
          exact HCR.out
        have hn0 := HN0.out
        have hwr : IntKind.i64.wrap ((n : Int) - 1) = (m : Int) := by rw [IntWalk.i64_in _ (by omega)]; omega
        have HM := Lib.hid hm
        clear hm hn0
        clear ht HCR
        go_wp2_with fail
        refine hv.mono ?_
        rintro e w3 ⟨rfl, hb3⟩
        have HB3 := Lib.hid (HBr.out.trans (hb3.mono HBr.out.size))
        clear hv hb3 HBr
        go_wp2_with fail
        go_roundw
        case rel => exact ⟨m, rfl, by have := HM.out; omega, HC2, HB3⟩
        case measure => have := HM.out; simp [intOf] <;> omega
      · rw [ht] at hv
        have HE : Hid (reasonM s = s.take n) := by show _ = _; rw [HRS.out, ← HCR.out]; exact cutR_yes ht
        clear ht HCR HRS
        go_wp2_with fail
        refine hv.mono ?_
        rintro e w3 ⟨rfl, hb3⟩
        have HB3 := Lib.hid (HBr.out.trans (hb3.mono HBr.out.size))
        clear hv hb3 HBr
        go_wp2_with fail
        go_ret
        rw [HE.out]
        exact ⟨_, c1, by rw [HLEN.out]; rfl, (HRD.out.below HB3.out).more HB3.out.size, by rw [HLEN.out]; have := HC1.out; omega, HB1.out.trans (HB3.out.mono HB1.out.size)⟩
end Go.Proofs.YtdegpchofhnipaaDoor
