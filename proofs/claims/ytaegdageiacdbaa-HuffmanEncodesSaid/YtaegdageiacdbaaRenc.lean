/-
  The document's Encode, by its contract. Conditions: at most 600 bytes.
-/
import Derived.Test.YtaegdageiacdbaaRbytes
namespace Go.Proofs.Ytaegdageiacdbaa
open Go.RowKit Go.WideShapes

set_option maxRecDepth 100000 in
set_option maxHeartbeats 1000000 in
theorem renc_any (s : ByteArray) (hs : s.size ≤ 600) (w : World) : Calls Try.prog 14 #[.string s] w (Made w (encL s.data.toList)) := by
  go_enter Try.func14, Try.ntmps14
  go_wp2_with fail
  refine (rcodes_any _).mono ?_
  rintro e w1 ⟨g, rfl, hg, hR, hb1⟩
  have HR := Lib.hid hR
  have HB := Lib.hid hb1
  have hz := hb1.size
  clear hR hb1
  go_wp2_with fail
  go_loop [4, 5] (fun a i => ∃ (k : Nat) (x : List Bool), k ≤ s.size ∧ i = .int .i64 k ∧ a = .string (bs x) ∧ x.length ≤ 30 * k ∧ Hid (x = encB (s.data.toList.take k))) (fun _ i => s.size - (intOf i).toNat)
  case atStart => exact ⟨0, [], Nat.zero_le _, rfl, rfl, by simp, by show _ = _; rfl⟩
  case round =>
    obtain ⟨k, x, hk, rfl, rfl, hxl, hx⟩ := hrel
    by_cases hlt : k < s.size
    · have h256 := s[k].toNat_lt
      have hcell := HR.out.cell (strs_at codeB (show s[k].toNat < 257 by omega))
      have hcl := codeB_len s[k].toNat
      have hln := ln_all s[k].toNat (by omega)
      have hnx : encB (s.data.toList.take (k + 1)) = encB (s.data.toList.take k) ++ codeB s[k].toNat := by
        rw [List.take_add_one, encB_append, List.getElem?_eq_getElem (by simpa using hlt)]
        simp [encB]
        rfl
      rw [← hx.out] at hnx
      generalize codeB s[k].toNat = q at hcell hcl hnx
      have hql : q.length ≤ 30 := by omega
      have hadd := add_bs x q (by omega) (by omega)
      have hyl : Hid ((x ++ q).length ≤ 30 * (k + 1)) := by show _ ≤ _; rw [List.length_append]; omega
      have hnx' : Hid (x ++ q = encB (s.data.toList.take (k + 1))) := hnx.symm
      clear hnx hx hxl hcl hln
      generalize x ++ q = y at hadd hyl hnx'
      go_wp2_with fail
      go_round
      case rel => exact ⟨k + 1, y, by omega, by go_num, rfl, hyl.out, hnx'⟩
      case measure => simp [intOf]; omega
    · obtain rfl : k = s.size := by omega
      have hxe : x = encB s.data.toList := by rw [hx.out, List.take_of_length_le (by simp)]
      have hby := rbytes_any x (by omega)
      have he : pack (pad x) = encL s.data.toList := by rw [hxe]; rfl
      rw [he] at hby
      clear hx hxe he hxl
      go_wp2_with fail
      refine (hby _).mono ?_
      rintro e w2 ⟨A, c, rfl, ho, hb2⟩
      have HO := Lib.hid ho
      have HB2 := Lib.hid (HB.out.trans (hb2.mono hz))
      clear ho hb2 hby
      go_wp2_with fail
      go_ret
      exact ⟨A, c, rfl, HO.out.mono hz, HB2.out⟩
end Go.Proofs.Ytaegdageiacdbaa
