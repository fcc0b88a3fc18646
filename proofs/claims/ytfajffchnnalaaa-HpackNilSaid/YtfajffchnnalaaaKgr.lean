/-
  The statements' bound on what is gone through, by its contract: where it is not passed, no field is great. Conditions: as many fields as an int counts.
-/
import Derived.Test.YtfajffchnnalaaaDtab
import Derived.BigQuiet
import Derived.Deep.QuietTactic
import Derived.Lib.MinMax
namespace Go.Proofs.Ytfajffchnnalaaa
open Go.RowKit Go.WideShapes

/-- No field is great, nor are there many, nor are all of them together. -/
def Few6 (L : List Fd) : Prop := L.length ≤ 9000 ∧ (∀ f ∈ L, sz f ≤ 9032) ∧ tot L ≤ 9000 + 31 * L.length
/-- What the bound answers: where it says no, there are few. -/
def Bounds6 (w : World) (L : List Fd) (e : Ending) (w' : World) : Prop := ∃ t, e = .returned (.bool t) ∧ (t = false → Few6 L) ∧ ∃ n, w' = w.drewN n

theorem few6_more {L : List Fd} {k T : Nat} (hk : k < L.length) (hT : T + (1 + min L[k].nm.length 9000 + min L[k].vl.length 9000) ≤ 9000) (h : (∀ f ∈ L.take k, sz f ≤ 9032) ∧ tot (L.take k) ≤ T + 31 * k) :
    (∀ f ∈ L.take (k + 1), sz f ≤ 9032) ∧ tot (L.take (k + 1)) ≤ T + (1 + min L[k].nm.length 9000 + min L[k].vl.length 9000) + 31 * (k + 1) := by
  constructor
  · intro f hf
    rw [List.take_succ_eq_append_getElem hk, List.mem_append, List.mem_singleton] at hf
    rcases hf with hf | rfl
    · exact h.1 f hf
    · unfold sz; omega
  · rw [tot_take hk]
    have := h.2
    unfold sz
    omega

set_option maxRecDepth 100000 in
set_option maxHeartbeats 4000000 in
theorem few_any {w : World} {A : Option Addr} {c : Nat} {L : List Fd} (hR : RdS w (· < w.heap.size) A (enl fdc L)) (hl : L.length ≤ 9223372036854775807) : Calls Try.prog 22 #[.slice A L.length c] w (Bounds6 w L) := by
  go_enter Try.func22, Try.ntmps22
  go_wp2_with fail
  go_loopw [3, 7] (fun n i wr => ∃ (k T : Nat), k ≤ L.length ∧ i = .int .i64 k ∧ n = .int .i64 T ∧ T ≤ 9000 ∧ k ≤ T ∧ Hid ((∀ f ∈ L.take k, sz f ≤ 9032) ∧ tot (L.take k) ≤ T + 31 * k) ∧ Hid (∃ n, wr = w.drewN n))
    (fun _ i _ => L.length - (intOf i).toNat)
  case atStart => exact ⟨0, 0, Nat.zero_le _, rfl, rfl, by omega, by omega, by show _ ∧ _; simp [tot], ⟨0, rfl⟩⟩
  case round =>
    obtain ⟨k, T, hk, rfl, rfl, hT, hkT, hF, hW⟩ := hrel
    by_cases hlt : k < L.length
    · obtain ⟨nd, rfl⟩ := hW.out
      obtain ⟨b, q, rfl, hb, f0, f1, f2⟩ := hR.field hlt
      have hmore := Lib.hid (fun h => few6_more (T := T) hlt h hF.out)
      unfold tx at f0 f1
      generalize L[k].nm = x at f0 hmore
      generalize L[k].vl = y at f1 hmore
      have hx := tx_size x
      have hy := tx_size y
      obtain ⟨p, hp⟩ : ∃ p, p = min x.length 9000 := ⟨_, rfl⟩
      obtain ⟨r, hr⟩ : ∃ r, r = min y.length 9000 := ⟨_, rfl⟩
      have hpm : min (x.length : Int) 9000 = (p : Int) := by omega
      have hrm : min (y.length : Int) 9000 = (r : Int) := by omega
      have hp9 : p ≤ 9000 := by omega
      have hr9 : r ≤ 9000 := by omega
      rw [← hp, ← hr] at hmore
      clear hp hr f2
      have s1 : IntKind.i64.wrap (1 + (p : Int)) = 1 + (p : Int) := IntWalk.i64_in _ (by omega)
      have s2 : IntKind.i64.wrap (1 + (p : Int) + (r : Int)) = 1 + (p : Int) + (r : Int) := IntWalk.i64_in _ (by omega)
      have s3 : IntKind.i64.wrap ((T : Int) + (1 + (p : Int) + (r : Int))) = (T : Int) + (1 + (p : Int) + (r : Int)) := IntWalk.i64_in _ (by omega)
      have k0 : (0 : Int) ≤ (k : Int) := by omega
      have k1 : (k : Int) < (L.length : Int) := by omega
      by_cases hgt : T + (1 + p + r) ≤ 9000
      · have hg : decide ((9000 : Int) < (T : Int) + (1 + (p : Int) + (r : Int))) = false := by simp; omega
        have hF2 := Lib.hid (hmore.out (by omega))
        clear hmore hF
        go_wp2_with fail
        go_quiet (fail)
        go_wp2_with fail
        go_roundw
        case rel => exact ⟨k + 1, T + (1 + p + r), by omega, by go_num, by (congr 1), hgt, by omega, hF2, ⟨_, rfl⟩⟩
        case measure => simp [intOf]; omega
      · have hg : decide ((9000 : Int) < (T : Int) + (1 + (p : Int) + (r : Int))) = true := by simp; omega
        clear hmore hF
        go_wp2_with fail
        go_quiet (fail)
        go_wp2_with fail
        go_ret
        exact ⟨true, rfl, (fun h => by cases h), ⟨_, rfl⟩⟩
    · obtain ⟨nd, rfl⟩ := hW.out
      have hF2 : Hid (Few6 L) := by
        show _ ∧ _ ∧ _
        obtain ⟨h1, h2⟩ := hF.out
        rw [List.take_of_length_le (by omega)] at h1 h2
        exact ⟨by omega, h1, by omega⟩
      clear hF
      go_wp2_with fail
      go_ret
      exact ⟨false, rfl, fun _ => hF2.out, ⟨_, rfl⟩⟩
end Go.Proofs.Ytfajffchnnalaaa
