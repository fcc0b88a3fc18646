/-
  The document's one and its Sizes, by their contracts. Conditions: at most 1000 bits.
-/
import Derived.Test.YtaegdageiacdbaaProg
import Derived.Test.YtaegdageiacdbaaArr
import Derived.Test.YtaegdageiacdbaaHref
import Derived.Test.YtaegdageiacdbaaHlen
namespace Go.Proofs.Ytaegdageiacdbaa
open Go.RowKit Go.WideShapes

theorem add_bs (a b : List Bool) (ha : a.length ≤ 100000) (hb : b.length ≤ 100000) (W : World) : (Op.stringOp .add (bs a) (bs b)).run Try.prog W = .ok (.string (bs (a ++ b))) W := by
  rw [← bs_append]
  exact run_string_add W (bs a) (bs b) (by rw [bs_size]; omega) (by rw [bs_size]; omega)
theorem slice_bs (l : List Bool) (i j : Nat) (hij : i ≤ j) (hj : j ≤ l.length) (W : World) : (Instr.slice 9 (.string (bs l)) (some (.int .i64 (i : Int))) (some (.int .i64 (j : Int))) none).run Try.prog W = .ok (.string (bs ((l.drop i).take (j - i)))) W := by
  have h := run_slice_string (P := Try.prog) W 9 (bs l) .i64 .i64 (i : Int) (j : Int) Try.underlying9 (by omega) (by omega) (by rw [bs_size]; omega)
  rw [h]
  simp [bs_extract]
theorem bs_one (l : List Bool) {j : Nat} (h : j < l.length) : (bs l).extract j (j + 1) = bs [l[j]] := by
  rw [bs_extract, show j + 1 - j = 1 by omega, List.drop_eq_getElem_cons h]
  rfl

set_option maxRecDepth 100000 in
set_option maxHeartbeats 1000000 in
theorem one_any (l : List Bool) (hl : l.length ≤ 1000) (w : World) : Calls Try.prog 19 #[.string (bs l)] w fun e w' => e = .returned (.string (bs (inc l).1)) ∧ w = w' := by
  have hsz := bs_size l
  go_enter Try.func19, Try.ntmps19
  go_wp2_with fail
  have HSZ := Lib.hid hsz
  clear hsz
  go_loop [3, 4, 5] (fun s c i => ∃ (k : Nat) (i' : Int) (o : List Bool) (cy : Bool), k ≤ l.length ∧ i = .int .i64 i' ∧ s = .string (bs o) ∧ c = .bool cy ∧ -1 ≤ i' ∧ i' < l.length ∧ Hid (i' = k - 1) ∧ Hid (inc (l.drop k) = (o, cy))) (fun _ _ i => (intOf i + 1).toNat)
  case atStart => exact ⟨l.length, _, [], true, Nat.le_refl _, rfl, rfl, rfl, by omega, by omega, by show _ = _; omega, by show _ = _; rw [List.drop_length]; rfl⟩
  case round =>
    obtain ⟨k, i', o, cy, hk, rfl, rfl, rfl, h1, h2, hi, hE⟩ := hrel
    by_cases h0 : 0 ≤ i'
    · obtain ⟨j, rfl⟩ := Int.eq_ofNat_of_zero_le h0
      have hkj : k = j + 1 := by have := hi.out; omega
      subst hkj
      have hjl : j < l.length := by omega
      have hx := slice_bs l j (j + 1) (by omega) (by omega)
      rw [show (l.drop j).take (j + 1 - j) = [l[j]] by rw [show j + 1 - j = 1 by omega, List.drop_eq_getElem_cons hjl]; rfl] at hx
      simp only [Int.natCast_add, Int.natCast_one] at hx
      have hdr : l.drop j = l[j] :: l.drop (j + 1) := List.drop_eq_getElem_cons hjl
      have hol : o.length ≤ 1000 := by
        have := inc_len (l.drop (j + 1))
        rw [hE.out, List.length_drop] at this
        simp at this
        omega
      have ha0 := add_bs [false] o (by simp) (by omega)
      have ha1 := add_bs [true] o (by simp) (by omega)
      have hN : Hid (inc (l.drop j) = if cy then (if l[j] then (false :: o, true) else (true :: o, false)) else (l[j] :: o, false)) := by
        show _ = _
        rw [hdr]
        simp only [inc]
        rw [hE.out]
      generalize l[j] = b at hx hN
      clear hdr hE hi h0
      have hs0 : bs [false] = ⟨#[48]⟩ := rfl
      have hs1 : bs [true] = ⟨#[49]⟩ := rfl
      rw [hs0] at ha0
      rw [hs1] at ha1
      cases b
      · rw [hs0] at hx
        clear hs0 hs1
        cases cy
        · go_wp2_with fail
          go_round
          case rel => exact ⟨j, _, _, _, by omega, rfl, rfl, rfl, by omega, by omega, by show _ = _; rfl, hN⟩
          case measure => simp [intOf] <;> omega
        · go_wp2_with fail
          go_round
          case rel => exact ⟨j, _, _, _, by omega, rfl, rfl, rfl, by omega, by omega, by show _ = _; rfl, hN⟩
          case measure => simp [intOf] <;> omega
      · rw [hs1] at hx
        clear hs0 hs1
        cases cy
        · go_wp2_with fail
          go_round
          case rel => exact ⟨j, _, _, _, by omega, rfl, rfl, rfl, by omega, by omega, by show _ = _; rfl, hN⟩
          case measure => simp [intOf] <;> omega
        · go_wp2_with fail
          go_round
          case rel => exact ⟨j, _, _, _, by omega, rfl, rfl, rfl, by omega, by omega, by show _ = _; rfl, hN⟩
          case measure => simp [intOf] <;> omega
    · have hk0 : k = 0 := by have := hi.out; omega
      subst hk0
      have hi1 : i' = -1 := by omega
      have e : (inc l).1 = o := by have := hE.out; rw [List.drop_zero] at this; rw [this]
      clear hE hi h0 h1 h2
      subst hi1 e
      go_wp2_with fail
      go_ret
      exact ⟨rfl, rfl⟩
end Go.Proofs.Ytaegdageiacdbaa
