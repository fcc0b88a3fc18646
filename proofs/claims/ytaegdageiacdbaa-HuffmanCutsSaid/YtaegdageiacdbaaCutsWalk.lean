/-
  HuffmanCuts, by its contract: at every input it answers true; below what was there nothing has turned.
-/
import Derived.Test.YtaegdageiacdbaaHfix
import Derived.Test.YtaegdageiacdbaaHdec
import Derived.Test.YtaegdageiacdbaaHdecp
namespace Go.Proofs.Ytaegdageiacdbaa
open Go.RowKit Go.WideShapes

theorem cuts_long (s : ByteArray) (a : Int) (h : 600 < s.size) (w : World) :
    Calls Try.prog 8 #[.string s, .int .u16 a] w fun e w' => e = .returned (.bool true) ∧ Below w.heap.size w w' := by
  have h1' : (600 : Int) < s.size := by omega
  clear h
  go_enter Try.func8, Try.ntmps8
  go_wp2_with (go_at_call 10; refine (fixed_any _).mono ?_; rintro e w' ⟨rfl, hb⟩)
  go_ret
  exact ⟨rfl, hb⟩

set_option maxRecDepth 100000 in
set_option maxHeartbeats 2000000 in
theorem cuts_any (s : ByteArray) (a : Int) (ha : 0 ≤ a ∧ a < 65536) (w : World) :
    Calls Try.prog 8 #[.string s, .int .u16 a] w fun e w' => e = .returned (.bool true) ∧ Below w.heap.size w w' := by
  by_cases hl : 600 < s.size
  · exact cuts_long s a hl w
  · obtain ⟨a', rfl⟩ := Int.eq_ofNat_of_zero_le ha.1
    have ha' : a' < 65536 := by omega
    have he := enc_any s (by omega)
    have hlen : (encL s.data.toList).length ≤ 2300 := by
      rw [encL_len]
      have h1 := (bitsN_bd s.data.toList).2
      have h2 : s.data.toList.length = s.size := by simp
      omega
    have hcut : Hid (∀ k t, decL ((encL s.data.toList).take k) = some t → t <+: s.data.toList) := fun k t h => dec_cut h
    generalize encL s.data.toList = L at he hlen hcut
    obtain ⟨i0, hi0, hz0, hz1, hz2⟩ := info_parts u8_info
    have hl6 : decide ((600 : Int) < s.size) = false := by simp; omega
    clear ha hl
    go_enter Try.func8, Try.ntmps8
    go_wp2_with fail
    refine (he _).mono ?_
    rintro e w1 ⟨A, c, rfl, ho, hb1⟩
    obtain ⟨A', c', e1, hc, _, hr⟩ := ho.shape
    injection e1 with e1 _ e3
    subst e1 e3
    have HB := Lib.hid hb1
    clear hb1 ho he
    obtain ⟨k, hk⟩ : ∃ k, k = a' % (L.length + 1) := ⟨_, rfl⟩
    have hkl : k ≤ L.length := by have := Nat.mod_lt a' (show L.length + 1 > 0 by omega); omega
    have hki : (a' : Int) % ((L.length : Int) + 1) = (k : Int) := by rw [hk]; simp
    obtain ⟨hcu, hrk⟩ := cut_upto (P := Try.prog) Try.underlying31 hi0 hz1 hr hc hkl
    have hd := dec_any A c (L.take k) (by rw [List.length_take]; omega) w1 hrk
    rw [List.length_take_of_le hkl] at hd
    have hct := hcut.out k
    generalize decL (L.take k) = D at hd hct
    have Hct := Lib.hid hct
    clear hk hrk hr hct
    go_wp2_with fail
    refine hd.mono ?_
    rintro e w2 ⟨he2, hb2⟩
    have HB2 := Lib.hid (HB.out.trans (hb2.mono HB.out.size))
    clear hb2 HB hd hcu hki
    cases D with
    | none =>
      obtain rfl : e = .returned (.tuple #[.string ⟨#[]⟩, .int .i64 3]) := he2
      go_wp2_with fail
      refine (fixed_any _).mono ?_
      rintro e w4 ⟨rfl, hb4⟩
      have HB4 := Lib.hid (HB2.out.trans (hb4.mono HB2.out.size))
      clear hb4
      go_wp2_with fail
      go_ret
      exact ⟨rfl, HB4.out⟩
    | some t =>
      obtain rfl : e = .returned (.tuple #[.string ⟨t.toArray⟩, .int .i64 0]) := he2
      obtain ⟨r, hr⟩ := Hct.out t rfl
      have hsz : t.length ≤ s.size := by
        have h1 := congrArg List.length hr
        rw [List.length_append] at h1
        have h2 : s.data.toList.length = s.size := by simp
        omega
      have hse : s.extract 0 t.length = ⟨t.toArray⟩ := by
        have e0 : s = ⟨s.data.toList.toArray⟩ := by apply ByteArray.ext; simp
        rw [e0, ByteArray.extract_mk, ← hr]
        simp
      have HSE := Lib.hid hse
      clear hse hr
      go_wp2_with fail
      refine (fixed_any _).mono ?_
      rintro e w4 ⟨rfl, hb4⟩
      have HB4 := Lib.hid (HB2.out.trans (hb4.mono HB2.out.size))
      clear hb4
      go_wp2_with fail
      go_ret
      exact ⟨by rw [HSE.out, ByteArray.toList_mk]; simp, HB4.out⟩
end Go.Proofs.Ytaegdageiacdbaa
