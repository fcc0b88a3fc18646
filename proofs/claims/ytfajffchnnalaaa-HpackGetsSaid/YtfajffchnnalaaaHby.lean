/-
  The program's byCode, by its contract.
-/
import Derived.Test.YtfajffchnnalaaaHkeys
namespace Go.Proofs.Ytfajffchnnalaaa
open Go.RowKit Go.WideShapes Go.Maps

set_option maxRecDepth 100000 in
theorem make_map (W : World) : (Instr.makeMap 131 (some (.int .i64 257))).run Try.prog W = .ok (.map (some W.heap.size)) (W.alloc (.map #[] 0)) := by
  simp [Instr.makeMap, Sem.run_bind, run_underlying Try.underlying131, asInt]
  rfl
/-- What byCode leaves. -/
def MadeMap (w : World) (e : Ending) (w' : World) : Prop := ∃ g, e = .returned (.map (some g)) ∧ w.heap.size ≤ g ∧ MapAt w' g 257 ∧ Below w.heap.size w w'

set_option maxRecDepth 100000 in
set_option maxHeartbeats 2000000 in
theorem by_any (w : World) : Calls Try.prog 81 #[] w (MadeMap w) := by
  have hmk := make_map
  go_enter Try.func81, Try.ntmps81
  go_wp2_with fail
  refine (codes_any _).mono ?_
  rintro e w1 ⟨rfl, hb1⟩
  have hs1 : w.heap.size + 1 ≤ w1.heap.size := by have := hb1.size; simp at this; omega
  have M0 : MapAt w1 w.heap.size 0 := (show MapAt (w.alloc (.map #[] 0)) w.heap.size 0 from World.ownsMap_made w _ _ _).below hb1 (by simp)
  have HM := Lib.hid M0
  have HB := Lib.hid (((Below.refl _ w).alloc (Nat.le_refl _) (.map #[] 0)).trans (hb1.mono (by simp)))
  clear hb1 M0 hmk
  go_wp2_with fail
  go_loopw [6] (fun i wr => ∃ k : Nat, k ≤ 257 ∧ i = .int .i64 k ∧ Hid (MapAt wr w.heap.size k) ∧ Hid (Below w.heap.size w wr) ∧ w.heap.size < wr.heap.size)
    (fun i _ => 257 - (intOf i).toNat)
  case atStart => exact ⟨0, by omega, rfl, HM, HB, by omega⟩
  case round =>
    obtain ⟨k, hk, rfl, hM, hB, hz⟩ := hrel
    by_cases hlt : k < 257
    · have hidx := index_code hlt
      have hkey := kL_is (cd_u32 hlt) (ln_i64 hlt)
      have hMD : mapD (k + 1) = (mapD k).put (kL (cd k) (ln k)) (.lit (.int .i64 (k : Int))) := rfl
      have hval : plainElem (H := Unit) Try.prog 3 (.int .i64 (k : Int)) = some (.lit (.int .i64 (k : Int)), []) := plainElem_int Try.underlying3 (by
        have h1 : IntKind.i64.min = -9223372036854775808 := rfl
        have h2 : IntKind.i64.max = 9223372036854775807 := rfl
        simp only [Lit.wf, Bool.and_eq_true, decide_eq_true_eq]
        omega)
      have HMD := Lib.hid hMD
      have HV := Lib.hid hval
      have HK := Lib.hid hkey
      clear hMD hval hkey
      generalize kL (cd k) (ln k) = kl at HMD HK
      generalize cd k = x at hidx HK
      generalize ln k = n at hidx HK
      go_wp2_with (at_mapUpdate; go_loud (refine wpList_mapUpdate_own _ rfl _ _ _ 131 rfl 127 3 keyedCode Try.underlying131 _ w.heap.size k (mapD k) rfl (hM.out.alloc _) (by simp only [maxLen]; omega) _ _ kl rfl rfl HK.out _ [] HV.out ?_; intro w2 hown2 hgrow2))
      have hs2 := hgrow2.size
      simp only [World.alloc, Array.size_push] at hs2
      go_roundw
      case rel =>
        refine ⟨k + 1, by omega, by go_num, ?_, ?_, by omega⟩
        · show World.ownsMap _ _ _ _ _ _ (mapD (k + 1))
          rw [HMD.out]
          exact hown2
        · exact (hB.out.alloc (by omega) _).grown hgrow2 (by simp; omega) (fun j hj => by simp at hj; omega)
      case measure => simp [intOf]; omega
    · obtain rfl : k = 257 := by omega
      go_wp2_with fail
      go_ret
      exact ⟨_, rfl, Nat.le_refl _, hM.out, hB.out⟩
end Go.Proofs.Ytfajffchnnalaaa
