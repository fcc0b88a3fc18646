/-
  The law's bound on its lists, by its contract: where it is not passed there are at most 100 lists, of at most 100 fields, none great. Conditions: as many as an int counts.
-/
import Derived.Test.YtfajffchnnalaaaKgr
import Derived.Test.YtfajffchnnalaaaOpenN
namespace Go.Proofs.Ytfajffchnnalaaa
open Go.RowKit Go.WideShapes

theorem w64_in (x : Int) (h0 : -9223372036854775808 ≤ x) (h1 : x ≤ 9223372036854775807) : wrap64 x = x := by unfold wrap64; omega
/-- No list is great, nor are there many. -/
def Few2 {W : World} (LL : List (Hd W Fd fdc)) : Prop := LL.length ≤ 100 ∧ ∀ h ∈ LL, h.els.length ≤ 100 ∧ (∀ f ∈ h.els, sz f ≤ 9032) ∧ tot h.els ≤ 9000 + 31 * h.els.length
def Bounds2 {W : World} (w : World) (LL : List (Hd W Fd fdc)) (e : Ending) (w' : World) : Prop := ∃ t, e = .returned (.bool t) ∧ (t = false → Few2 LL) ∧ ∃ n, w' = w.drewN n

set_option maxRecDepth 100000 in
set_option maxHeartbeats 2000000 in
theorem great2_any {w : World} {A : Option Addr} {c : Nat} {LL : List (Hd w Fd fdc)} (hR : RdS w (· < w.heap.size) A (enl hdc LL)) (hl : LL.length ≤ 9223372036854775807) : Calls Try.prog 9 #[.slice A LL.length c] w (Bounds2 w LL) := by
  go_enter Try.func9, Try.ntmps9
  go_wp2_with fail
  go_loopw [3, 8] (fun n i wr => ∃ (k T : Nat), k ≤ LL.length ∧ i = .int .i64 k ∧ n = .int .i64 T ∧ T ≤ 100 ∧ k ≤ T ∧ Hid (∀ h ∈ LL.take k, h.els.length ≤ 100 ∧ (∀ f ∈ h.els, sz f ≤ 9032) ∧ tot h.els ≤ 9000 + 31 * h.els.length) ∧ Hid (∃ n, wr = w.drewN n))
    (fun _ i _ => LL.length - (intOf i).toNat)
  case atStart => exact ⟨0, 0, Nat.zero_le _, rfl, rfl, by omega, by omega, by show ∀ _, _; simp, ⟨0, rfl⟩⟩
  case round =>
    obtain ⟨k, T, hk, rfl, rfl, hT, hkT, hF, hW⟩ := hrel
    by_cases hlt : k < LL.length
    · obtain ⟨nd, rfl⟩ := hW.out
      obtain ⟨b, q, rfl, hb, f0⟩ := hR.head hlt
      have hmore : Hid (LL[k].els.length ≤ 100 → (∀ f ∈ LL[k].els, sz f ≤ 9032) ∧ tot LL[k].els ≤ 9000 + 31 * LL[k].els.length → ∀ h ∈ LL.take (k + 1), h.els.length ≤ 100 ∧ (∀ f ∈ h.els, sz f ≤ 9032) ∧ tot h.els ≤ 9000 + 31 * h.els.length) := by
        intro h1 h2 h hh
        rw [List.take_succ_eq_append_getElem hlt, List.mem_append, List.mem_singleton] at hh
        rcases hh with hh | rfl
        · exact hF.out h hh
        · exact ⟨h1, h2⟩
      have hok := LL[k].ok
      generalize LL[k].at_ = Ak at *
      generalize LL[k].room = ck at *
      generalize LL[k].els = F at *
      have hFl : F.length ≤ 9223372036854775807 := by have := hok.1; have := hok.2.1; simp only [maxLen] at this; omega
      have hgr : ∀ m, Calls Try.prog 22 #[.slice Ak F.length ck] (w.drewN m) (Bounds6 (w.drewN m) F) := fun m => few_any (w := w.drewN m) (c := ck) (hok.2.2) hFl
      clear hF hW hok
      obtain ⟨X, hX⟩ : ∃ X, wrap64 ((T : Int) + wrap64 ((F.length : Int) + 1)) = X := ⟨_, rfl⟩
      have HX : Hid (F.length ≤ 9000 → X = ((T + (F.length + 1) : Nat) : Int)) := fun h => by
        rw [← hX, w64_in ((F.length : Int) + 1) (by omega) (by omega), w64_in _ (by omega) (by omega)]
        omega
      have HFl := Lib.hid hFl
      clear hFl
      by_cases hg : (100 : Int) < X
      · clear hmore hgr
        go_wp2_with fail
        go_ret
        exact ⟨true, rfl, (fun h => by cases h), ⟨_, rfl⟩⟩
      · have hgt : decide ((100 : Int) < X) = false := by simpa using hg
        go_wp2_with fail
        refine (hgr _).mono ?_
        rintro e w2 ⟨t, rfl, ht, nd2, rfl⟩
        cases t with
        | true =>
          go_wp2_with fail
          go_ret
          exact ⟨true, rfl, (fun h => by cases h), ⟨_, rfl⟩⟩
        | false =>
          have hf9 := ht rfl
          have hXe := HX.out hf9.1
          have hsum : T + (F.length + 1) ≤ 100 := by rw [hXe] at hg; omega
          have HM := Lib.hid (hmore.out (by omega) hf9.2)
          clear hmore ht hgr hf9 hX HX
          subst hXe
          go_wp2_with fail
          go_roundw
          case rel => exact ⟨k + 1, T + (F.length + 1), by omega, by go_num, rfl, by omega, by omega, HM, ⟨_, rfl⟩⟩
          case measure => simp [intOf]; omega
    · obtain ⟨nd, rfl⟩ := hW.out
      have hF2 : Hid (Few2 LL) := by
        show _ ∧ _
        refine ⟨by omega, fun f hf => hF.out f ?_⟩
        rw [List.take_of_length_le (by omega)]
        exact hf
      clear hF
      go_wp2_with fail
      go_ret
      exact ⟨false, rfl, fun _ => hF2.out, ⟨_, rfl⟩⟩
end Go.Proofs.Ytfajffchnnalaaa
