/-
  The small functions of package fault, by their contracts: scope, Some, Unwrap, Wrap, New, Conn. No conditions but those that each theorem names.
-/
import Derived.Test.YtjkfckdoliflmaaDoorProg
import Derived.WalkKit
import Derived.LaidEql
import Derived.Stop.Asserts
import Derived.RowKitTokens
import Derived.Defers
import Derived.Recover
import Derived.Laws.Pointers
import Derived.Below
import Derived.WalkSpells
import Derived.Lib.Hide
namespace Go.Proofs.YtjkfckdoliflmaaDoor
open Go.RowKit Go.Extern.Stop Go.Stop Go.Extern

/-- A fault's scope, as it counts. -/
def sc (s : Int) : Int := if s ≤ 3 then s else 0
theorem sc_le {s : Int} (h : s ≤ 3) : sc s = s := if_pos h
theorem sc_gt {s : Int} (h : ¬ s ≤ 3) : sc s = 0 := if_neg h

theorem scope_any (s c : Int) (w : World) :
    Calls Tryd.prog 14 #[.agg #[.int .u8 s, .int .u32 c]] w fun e w' => e = .returned (.int .u8 (sc s)) ∧ w.alloc (.cells #[.int .u8 s, .int .u32 c] 24) = w' := by
  by_cases h : s ≤ 3
  · rw [sc_le h]
    go_enter Tryd.func14, Tryd.ntmps14
    go_wp2
    go_ret
    exact ⟨rfl, rfl⟩
  · rw [sc_gt h]
    have h' : 3 < s := by omega
    go_enter Tryd.func14, Tryd.ntmps14
    go_wp2
    go_ret
    exact ⟨rfl, rfl⟩

def someB (s : Int) : Bool := decide (1 ≤ s ∧ s ≤ 3)
theorem someB_yes {s : Int} (h : 1 ≤ s ∧ s ≤ 3) : someB s = true := decide_eq_true h
theorem someB_no {s : Int} (h : ¬ (1 ≤ s ∧ s ≤ 3)) : someB s = false := decide_eq_false h

theorem some_any (s c : Int) (w : World) :
    Calls Tryd.prog 9 #[.agg #[.int .u8 s, .int .u32 c]] w fun e w' => e = .returned (.bool (someB s)) ∧ w.alloc (.cells #[.int .u8 s, .int .u32 c] 24) = w' := by
  by_cases h1 : 1 ≤ s
  · by_cases h3 : s ≤ 3
    · rw [someB_yes ⟨h1, h3⟩]
      go_enter Tryd.func9, Tryd.ntmps9
      go_wp2
      go_ret
      exact ⟨rfl, rfl⟩
    · rw [someB_no (fun h => h3 h.2)]
      go_enter Tryd.func9, Tryd.ntmps9
      go_wp2
      go_ret
      exact ⟨rfl, rfl⟩
  · rw [someB_no (fun h => h1 h.1)]
    go_enter Tryd.func9, Tryd.ntmps9
    go_wp2
    go_ret
    exact ⟨rfl, rfl⟩

theorem unwrap_any (b : Nat) (v : Value) (w : World) (h : w.cell? ⟨b, 1, none⟩ = some v) :
    Calls Tryd.prog 61 #[.pointer (some ⟨b, 0, none⟩)] w fun e w' => e = .returned v ∧ w = w' := by
  go_enter Tryd.func61, Tryd.ntmps61
  go_wp2
  go_ret
  exact ⟨rfl, rfl⟩

theorem wrap_nil (x : ByteArray) (w : World) :
    Calls Tryd.prog 7 #[.string x, .nilIface] w fun e w' => e = .returned .nilIface ∧ w = w' := by
  go_enter Tryd.func7, Tryd.ntmps7
  go_wp2
  go_ret
  exact ⟨rfl, rfl⟩

theorem wrap_some (x : ByteArray) (t : TypeId) (v : Value) (w : World) :
    Calls Tryd.prog 7 #[.string x, .iface t v] w fun e w' => e = .returned (.iface 44 (.pointer (some ⟨w.heap.size, 0, none⟩))) ∧ w.alloc (.cells #[.string x, .iface t v] 46) = w' := by
  go_enter Tryd.func7, Tryd.ntmps7
  go_wp2
  go_ret
  exact ⟨rfl, rfl⟩

theorem new_some (s c : Int) (h : 1 ≤ s ∧ s ≤ 3) (w : World) :
    Calls Tryd.prog 6 #[.agg #[.int .u8 s, .int .u32 c]] w fun e w' => e = .returned (.iface 41 (.pointer (some ⟨w.heap.size + 2, 0, none⟩))) ∧
      ((w.alloc (.cells #[.int .u8 s, .int .u32 c] 24)).alloc (.cells #[.int .u8 s, .int .u32 c] 24)).alloc (.cells #[.int .u8 s, .int .u32 c] 43) = w' := by
  have hs : sc s = s := sc_le h.2
  have hne : (s == 0) = false := beq_eq_false_iff_ne.2 (by omega)
  have hc := scope_any s c
  rw [hs] at hc
  have Hs := Lib.hid hs
  clear hs
  go_enter Tryd.func6, Tryd.ntmps6
  go_wp2_with (go_at_call 14; refine (hc _).mono ?_; rintro e w' ⟨rfl, rfl⟩)
  go_ret
  exact ⟨rfl, rfl⟩

theorem new_none (s c : Int) (h : ¬ (1 ≤ s ∧ s ≤ 3)) (h0 : 0 ≤ s) (w : World) :
    Calls Tryd.prog 6 #[.agg #[.int .u8 s, .int .u32 c]] w fun e w' => e = .returned .nilIface ∧
      (w.alloc (.cells #[.int .u8 s, .int .u32 c] 24)).alloc (.cells #[.int .u8 s, .int .u32 c] 24) = w' := by
  have hs : sc s = 0 := by unfold sc; split <;> omega
  have hc := scope_any s c
  rw [hs] at hc
  have Hs := Lib.hid hs
  clear hs
  go_enter Tryd.func6, Tryd.ntmps6
  go_wp2_with (go_at_call 14; refine (hc _).mono ?_; rintro e w' ⟨rfl, rfl⟩)
  go_ret
  exact ⟨rfl, rfl⟩
end Go.Proofs.YtjkfckdoliflmaaDoor
