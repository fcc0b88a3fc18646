/-
  StreamNumber: the law's walk. Condition: the bounds of its arguments, errors.errorType as the program's text lays it.
-/
import Derived.Test.YtngngebkecanmaaDoorTfx
namespace Go.Proofs.YtngngebkecanmaaDoor
open Go.RowKit Go.WideShapes

attribute [local irreducible] ftc cm numB
set_option maxRecDepth 100000 in
set_option maxHeartbeats 4000000 in
theorem number_law (n l : Int) (c : Bool) (hn : 0 ≤ n ∧ n ≤ 4294967295) (hl : 0 ≤ l) {w : World} (hG : GlobE w) : Calls Tryd.prog 6 #[.int .u32 n, .int .u32 l, .bool c] w fun e w' => e = .returned (.bool true) ∧ Below w.heap.size w w' := by
  have HG := Lib.hid hG
  have hm : n.tmod 2 = n % 2 := Int.tmod_eq_emod_of_nonneg hn.1
  have hw : IntKind.u32.wrap (n % 2) = n % 2 := IntWalk.u32_in _ (by omega)
  have HN := Lib.hid (fun W => number_any n l c hn W)
  have HV : Hid (numB n l c = ((decide (n % 2 = 1) == c) && (decide (l < n) && decide (n ≤ 2147483647)))) := by unfold numB; exact rfl
  have hr : n % 2 = 0 ∨ n % 2 = 1 := by omega
  have HL : Hid (0 ≤ l) := hl
  have HNB : Hid (0 ≤ n ∧ n ≤ 4294967295) := hn
  clear hn hl hG
  rw [show numB n l c = _ from HV.out] at HN
  clear HV
  by_cases h1 : l < n
  · have h0 : (n != 0) = true := bne_iff_ne.2 (by have := HL.out; omega)
    by_cases h2 : n ≤ 2147483647
    · have h3 : n < 2147483648 := by omega
      rw [decide_eq_true h1, decide_eq_true h2] at HN
      clear h2
      rcases hr with h | h
      all_goals
        rw [h] at hm hw HN
        clear h HL HNB
        cases c
        all_goals
          go_enter Tryd.func6, Tryd.ntmps6
          go_wp2_with fail
          refine (fixed_any HG.out).mono ?_
          rintro e w1 ⟨rfl, hb⟩
          have HB := Lib.hid hb
          clear hb HG
          go_wp2_with fail
          refine (HN.out _).mono ?_
          rintro e w2 ⟨rfl, rfl⟩
          clear HN
          go_wp2_with fail
          go_ret
          exact ⟨rfl, HB.out⟩
    · have h3 : decide (n < 2147483648) = false := decide_eq_false (by omega)
      rw [decide_eq_true h1, decide_eq_false h2, Bool.true_and, Bool.and_false] at HN
      clear h2 hr hm hw h1 HL HNB
      obtain ⟨r, hm⟩ : ∃ r, IntKind.u32.wrap (n.tmod 2) = r := ⟨_, rfl⟩
      go_enter Tryd.func6, Tryd.ntmps6
      go_wp2_with fail
      refine (fixed_any HG.out).mono ?_
      rintro e w1 ⟨rfl, hb⟩
      have HB := Lib.hid hb
      clear hb HG
      go_wp2_with fail
      refine (HN.out _).mono ?_
      rintro e w2 ⟨rfl, rfl⟩
      clear HN
      go_wp2_with fail
      go_ret
      exact ⟨rfl, HB.out⟩
  · rw [decide_eq_false h1, Bool.false_and, Bool.and_false] at HN
    have d1 : decide (l < n) = false := decide_eq_false h1
    clear h1 hr hm hw
    obtain ⟨r, hm⟩ : ∃ r, IntKind.u32.wrap (n.tmod 2) = r := ⟨_, rfl⟩
    by_cases h0 : n = 0
    · subst h0
      clear HL HNB d1
      go_enter Tryd.func6, Tryd.ntmps6
      go_wp2_with fail
      refine (fixed_any HG.out).mono ?_
      rintro e w1 ⟨rfl, hb⟩
      have HB := Lib.hid hb
      clear hb HG
      go_wp2_with fail
      refine (HN.out _).mono ?_
      rintro e w2 ⟨rfl, rfl⟩
      clear HN
      go_wp2_with fail
      go_ret
      exact ⟨rfl, HB.out⟩
    by_cases h3 : n < 2147483648
    · clear HL HNB
      go_enter Tryd.func6, Tryd.ntmps6
      go_wp2_with fail
      refine (fixed_any HG.out).mono ?_
      rintro e w1 ⟨rfl, hb⟩
      have HB := Lib.hid hb
      clear hb HG
      go_wp2_with fail
      refine (HN.out _).mono ?_
      rintro e w2 ⟨rfl, rfl⟩
      clear HN
      go_wp2_with fail
      go_ret
      exact ⟨rfl, HB.out⟩
    · have d3 : decide (n < 2147483648) = false := decide_eq_false h3
      clear HL HNB h3 d1
      go_enter Tryd.func6, Tryd.ntmps6
      go_wp2_with fail
      refine (fixed_any HG.out).mono ?_
      rintro e w1 ⟨rfl, hb⟩
      have HB := Lib.hid hb
      clear hb HG
      go_wp2_with fail
      refine (HN.out _).mono ?_
      rintro e w2 ⟨rfl, rfl⟩
      clear HN
      go_wp2_with fail
      go_ret
      exact ⟨rfl, HB.out⟩
end Go.Proofs.YtngngebkecanmaaDoor
