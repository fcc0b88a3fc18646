/-
  The document's Same, by its contract: the same fields are the same. Conditions: at most 2^40 fields.
-/
import Derived.Test.YtfajffchnnalaaaDtab
import Derived.BigQuiet
import Derived.Deep.QuietTactic

namespace Go.Proofs.Ytfajffchnnalaaa
open Go.RowKit Go.WideShapes

set_option maxRecDepth 100000 in
set_option maxHeartbeats 2000000 in
theorem same6_any {w : World} {A B : Option Addr} {c d : Nat} {F : List Fd} (hA : RdS w (· < w.heap.size) A (enl fdc F)) (hB : RdS w (· < w.heap.size) B (enl fdc F)) (hl : F.length ≤ 1099511627776) :
    Calls Try.prog 18 #[.slice A F.length c, .slice B F.length d] w fun e w' => e = .returned (.bool true) ∧ ∃ n, w' = w.drewN n := by
  go_enter Try.func18, Try.ntmps18
  go_wp2_with fail
  go_loopw [13] (fun i wr => ∃ k : Nat, k ≤ F.length ∧ i = .int .i64 k ∧ Hid (∃ n, wr = w.drewN n))
    (fun i _ => F.length - (intOf i).toNat)
  case atStart => exact ⟨0, Nat.zero_le _, rfl, ⟨0, rfl⟩⟩
  case round =>
    obtain ⟨k, hk, rfl, hW⟩ := hrel
    obtain ⟨nd, rfl⟩ := hW.out
    by_cases hlt : k < F.length
    · obtain ⟨b1, q1, rfl, _, f0, f1, f2⟩ := hA.field hlt
      obtain ⟨b2, q2, rfl, _, e0, e1, e2⟩ := hB.field hlt
      unfold tx at f0 f1 e0 e1
      generalize F[k].nm = x at *
      generalize F[k].vl = y at *
      generalize F[k].nv = z at *
      have k0 : (0 : Int) ≤ (k : Int) := by omega
      have k1 : (k : Int) < (F.length : Int) := by omega
      clear hW
      go_wp2_with fail
      go_quiet (fail)
      go_wp2_with fail
      go_roundw
      case rel => exact ⟨k + 1, by omega, by go_num, ⟨_, rfl⟩⟩
      case measure => simp [intOf]; omega
    · clear hW
      go_wp2_with fail
      go_ret
      exact ⟨rfl, nd, rfl⟩
end Go.Proofs.Ytfajffchnnalaaa
