/-
  wsframe's small functions, by their contracts: isControl, mayOp, shortest, behind, putNumber. Conditions: those that each theorem names.
-/
import Derived.Test.YtejlbgllfkfkfaaDoorItu
namespace Go.Proofs.YtejlbgllfkfkfaaDoor
open Go.RowKit Go.WideShapes

theorem ictl_any (op : Nat) (w : World) : Calls Tryd.prog 41 #[.int .u8 op] w fun e w' => e = .returned (.bool (decide (8 ≤ op))) ∧ w = w' := by
  go_enter Tryd.func41, Tryd.ntmps41
  go_wp2_with fail
  go_ret
  have h : decide ((8 : Int) ≤ (op : Int)) = decide (8 ≤ op) := by rw [decide_eq_decide]; omega
  exact ⟨by rw [← h]; rfl, rfl⟩
def okB (op : Nat) (fin : Bool) : Bool := decide (op < 3 ∨ (7 < op ∧ op < 11 ∧ fin = true))
theorem imayOp_any (op : Nat) (fin : Bool) (w : World) : Calls Tryd.prog 40 #[.int .u8 op, .bool fin] w fun e w' => e = .returned (.bool (okB op fin)) ∧ w = w' := by
  by_cases h0 : op = 0 ∨ op = 1 ∨ op = 2
  · have e : okB op fin = true := decide_eq_true (by omega)
    rw [e]
    rcases h0 with rfl | rfl | rfl
    all_goals
      clear e
      go_enter Tryd.func40, Tryd.ntmps40
      go_wp2
      go_ret
      exact ⟨rfl, rfl⟩
  by_cases h1 : op = 8 ∨ op = 9 ∨ op = 10
  · have e : okB op fin = fin := by
      unfold okB
      cases fin
      · exact decide_eq_false (by simp; omega)
      · exact decide_eq_true (by simp; omega)
    rw [e]
    clear h0
    rcases h1 with rfl | rfl | rfl
    all_goals
      clear e
      go_enter Tryd.func40, Tryd.ntmps40
      go_wp2
      go_ret
      exact ⟨rfl, rfl⟩
  have e : okB op fin = false := decide_eq_false (by omega)
  rw [e]
  have n0 : ((op : Int) == 0) = false := beq_eq_false_iff_ne.2 (by omega)
  have n1 : ((op : Int) == 1) = false := beq_eq_false_iff_ne.2 (by omega)
  have n2 : ((op : Int) == 2) = false := beq_eq_false_iff_ne.2 (by omega)
  have n8 : ((op : Int) == 8) = false := beq_eq_false_iff_ne.2 (by omega)
  have n9 : ((op : Int) == 9) = false := beq_eq_false_iff_ne.2 (by omega)
  have n10 : ((op : Int) == 10) = false := beq_eq_false_iff_ne.2 (by omega)
  clear h0 h1 e
  go_enter Tryd.func40, Tryd.ntmps40
  go_wp2
  go_ret
  exact ⟨rfl, rfl⟩
def formN (n : Nat) : Nat := if 65536 ≤ n then 127 else if 126 ≤ n then 126 else n
theorem formN_lt (n : Nat) : formN n < 128 := by unfold formN; split <;> (try split) <;> omega
theorem ishort_any (n : Nat) (hn : n < 18446744073709551616) (w : World) : Calls Tryd.prog 36 #[.int .u64 n] w fun e w' => e = .returned (.int .u8 (formN n : Nat)) ∧ w = w' := by
  unfold formN
  by_cases h1 : 65536 ≤ n
  · rw [if_pos h1]
    have h1' : (65536 : Int) ≤ n := by omega
    clear h1
    go_enter Tryd.func36, Tryd.ntmps36
    go_wp2
    go_ret
    exact ⟨rfl, rfl⟩
  rw [if_neg h1]
  have h1' : ¬ (65536 : Int) ≤ n := by omega
  by_cases h2 : 126 ≤ n
  · rw [if_pos h2]
    have h2' : (126 : Int) ≤ n := by omega
    clear h1 h2
    go_enter Tryd.func36, Tryd.ntmps36
    go_wp2
    go_ret
    exact ⟨rfl, rfl⟩
  rw [if_neg h2]
  have h2' : ¬ (126 : Int) ≤ n := by omega
  have hw : IntKind.u8.wrap (n : Int) = (n : Int) := by rw [IntKind.wrap_u8]; omega
  clear h1 h2
  go_enter Tryd.func36, Tryd.ntmps36
  go_wp2
  go_ret
  exact ⟨rfl, rfl⟩
def behindN (f : Nat) : Nat := if f = 127 then 8 else if f = 126 then 2 else 0
theorem ibehind_any (f : Nat) (w : World) : Calls Tryd.prog 28 #[.int .u8 f] w fun e w' => e = .returned (.int .i64 (behindN f : Nat)) ∧ w = w' := by
  unfold behindN
  by_cases h1 : f = 127
  · subst h1
    go_enter Tryd.func28, Tryd.ntmps28
    go_wp2
    go_ret
    exact ⟨rfl, rfl⟩
  rw [if_neg h1]
  have n1 : ((f : Int) == 127) = false := beq_eq_false_iff_ne.2 (by omega)
  by_cases h2 : f = 126
  · subst h2
    clear h1 n1
    go_enter Tryd.func28, Tryd.ntmps28
    go_wp2
    go_ret
    exact ⟨rfl, rfl⟩
  rw [if_neg h2]
  have n2 : ((f : Int) == 126) = false := beq_eq_false_iff_ne.2 (by omega)
  clear h1 h2
  go_enter Tryd.func28, Tryd.ntmps28
  go_wp2
  go_ret
  exact ⟨rfl, rfl⟩

theorem be_take (m n : Nat) {k : Nat} (h : k < m) : (be m n).take (k + 1) = (be m n).take k ++ [UInt8.ofNat (n / 256 ^ (m - 1 - k))] := by
  induction m generalizing k with
  | zero => omega
  | succ m ih =>
    cases k with
    | zero => simp [be]
    | succ k =>
      have := ih (k := k) (by omega)
      simp only [be, List.take_succ_cons, this, List.cons_append]
      rw [show m + 1 - 1 - (k + 1) = m - 1 - k by omega]
end Go.Proofs.YtejlbgllfkfkfaaDoor
