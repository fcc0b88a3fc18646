/-
  Streams' small functions, and what is sent, by their contracts. No conditions.
-/
import Derived.Test.YtngngebkecanmaaDoorTst
import Derived.Deep.CutBlock
import Derived.Deep.DeepCutAuto
namespace Go.Proofs.YtngngebkecanmaaDoor
open Go.RowKit Go.WideShapes

theorem ne_f {a b : Int} (h : a ≠ b) : (a == b) = false := by rw [int_eq]; exact decide_eq_false h
set_option maxRecDepth 100000 in
theorem live_any (s : Int) (w : World) : Calls Tryd.prog 13 #[.int .u8 s] w fun e w' => e = .returned (.bool (decide (1 ≤ s ∧ s ≤ 3))) ∧ w' = w := by
  by_cases h1 : s = 1
  · subst h1
    go_enter Tryd.func13, Tryd.ntmps13
    go_wp2
    go_ret
    exact ⟨rfl, rfl⟩
  by_cases h2 : s = 2
  · subst h2
    clear h1
    go_enter Tryd.func13, Tryd.ntmps13
    go_wp2
    go_ret
    exact ⟨rfl, rfl⟩
  by_cases h3 : s = 3
  · subst h3
    clear h1 h2
    go_enter Tryd.func13, Tryd.ntmps13
    go_wp2
    go_ret
    exact ⟨rfl, rfl⟩
  have hz : decide (1 ≤ s ∧ s ≤ 3) = false := decide_eq_false (by omega)
  rw [hz]
  have e1 := ne_f h1
  have e2 := ne_f h2
  have e3 := ne_f h3
  clear h1 h2 h3 hz
  go_enter Tryd.func13, Tryd.ntmps13
  go_wp2
  go_ret
  exact ⟨rfl, rfl⟩
set_option maxRecDepth 100000 in
theorem car_any (k : Int) (w : World) : Calls Tryd.prog 15 #[.int .u8 k] w fun e w' => e = .returned (.bool (car k)) ∧ w' = w := by
  by_cases h1 : k = 1
  · subst h1
    go_enter Tryd.func15, Tryd.ntmps15
    go_wp2
    go_ret
    exact ⟨rfl, rfl⟩
  by_cases h2 : k = 0
  · subst h2
    clear h1
    go_enter Tryd.func15, Tryd.ntmps15
    go_wp2
    go_ret
    exact ⟨rfl, rfl⟩
  have hz : car k = false := decide_eq_false (by omega)
  rw [hz]
  have e1 := ne_f h1
  have e2 := ne_f h2
  clear h1 h2 hz
  go_enter Tryd.func15, Tryd.ntmps15
  go_wp2
  go_ret
  exact ⟨rfl, rfl⟩
set_option maxRecDepth 100000 in
theorem got_any (s : Int) (e : Bool) (w : World) : Calls Tryd.prog 28 #[.int .u8 s, .bool e] w fun e' w' => e' = .returned (.int .u8 (gotS s e)) ∧ w' = w := by
  cases e
  · go_enter Tryd.func28, Tryd.ntmps28
    go_wp2
    go_ret
    exact ⟨rfl, rfl⟩
  by_cases h1 : s = 2
  · subst h1
    go_enter Tryd.func28, Tryd.ntmps28
    go_wp2
    go_ret
    exact ⟨rfl, rfl⟩
  have hz : gotS s true = 3 := by simp [gotS, h1]
  rw [hz]
  have e1 := ne_f h1
  clear h1 hz
  go_enter Tryd.func28, Tryd.ntmps28
  go_wp2
  go_ret
  exact ⟨rfl, rfl⟩
set_option maxRecDepth 100000 in
theorem sent_any (s : Int) (e : Bool) (w : World) : Calls Tryd.prog 16 #[.int .u8 s, .bool e] w fun e' w' => e' = .returned (.int .u8 (sentS s e)) ∧ w' = w := by
  cases e
  · go_enter Tryd.func16, Tryd.ntmps16
    go_wp2
    go_ret
    exact ⟨rfl, rfl⟩
  by_cases h1 : s = 3
  · subst h1
    go_enter Tryd.func16, Tryd.ntmps16
    go_wp2
    go_ret
    exact ⟨rfl, rfl⟩
  have hz : sentS s true = 2 := by simp [sentS, h1]
  rw [hz]
  have e1 := ne_f h1
  clear h1 hz
  go_enter Tryd.func16, Tryd.ntmps16
  go_wp2
  go_ret
  exact ⟨rfl, rfl⟩
/-- Which numbers may be opened. -/
def numB (n l : Int) (c : Bool) : Bool := (decide (n % 2 = 1) == c) && (decide (l < n) && decide (n ≤ 2147483647))
set_option maxRecDepth 100000 in
theorem number_any (n l : Int) (c : Bool) (hn : 0 ≤ n ∧ n ≤ 4294967295) (w : World) : Calls Tryd.prog 14 #[.int .u32 n, .int .u32 l, .bool c] w fun e' w' => e' = .returned (.bool (numB n l c)) ∧ w' = w := by
  have hm : n.tmod 2 = n % 2 := Int.tmod_eq_emod_of_nonneg hn.1
  have hw : IntKind.u32.wrap (n % 2) = n % 2 := IntWalk.u32_in _ (by omega)
  have hr : n % 2 = 0 ∨ n % 2 = 1 := by omega
  clear hn
  unfold numB
  rcases hr with h | h
  all_goals
    rw [h] at hm hw ⊢
    by_cases h1 : l < n
    · by_cases h2 : n ≤ 2147483647
      · cases c
        all_goals
          rw [decide_eq_true h1, decide_eq_true h2]
          go_enter Tryd.func14, Tryd.ntmps14
          go_wp2
          go_ret
          exact ⟨rfl, rfl⟩
      · have d2 : decide (n ≤ 2147483647) = false := decide_eq_false h2
        clear h2
        cases c
        all_goals
          rw [decide_eq_true h1, d2]
          go_enter Tryd.func14, Tryd.ntmps14
          go_wp2
          go_ret
          exact ⟨rfl, rfl⟩
    · have d1 : decide (l < n) = false := decide_eq_false h1
      clear h1
      rw [d1, Bool.false_and, Bool.and_false]
      cases c
      all_goals
        go_enter Tryd.func14, Tryd.ntmps14
        go_wp2
        go_ret
        exact ⟨rfl, rfl⟩
end Go.Proofs.YtngngebkecanmaaDoor
