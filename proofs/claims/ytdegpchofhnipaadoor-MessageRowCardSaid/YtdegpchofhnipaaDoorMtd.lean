/-
  Which codes may be told: the program's Told and the document's, by their contracts. No conditions.
-/
import Derived.Test.YtdegpchofhnipaaDoorMst
namespace Go.Proofs.YtdegpchofhnipaaDoor
open Go.RowKit Go.WideShapes

def codF : Nat → Nat
  | 0 => 1000
  | 1 => 1007
  | _ => 3000
def codL : Nat → Nat
  | 0 => 1003
  | 1 => 1014
  | _ => 4999
def InC (c i : Nat) : Prop := codF i ≤ c ∧ c ≤ codL i
def codC : Array Value := #[.int .u32 1000, .int .u32 1003, .int .u32 1007, .int .u32 1014, .int .u32 3000, .int .u32 4999]
theorem codC_at {i : Nat} (hi : i < 3) : codC[i * 2]? = some (.int .u32 (codF i : Int)) ∧ codC[i * 2 + 1]? = some (.int .u32 (codL i : Int)) := by
  obtain rfl | rfl | rfl : i = 0 ∨ i = 1 ∨ i = 2 := by omega
  · exact ⟨rfl, rfl⟩
  · exact ⟨rfl, rfl⟩
  · exact ⟨rfl, rfl⟩
theorem told_in (c : Nat) : ToldM c ↔ (InC c 0 ∨ InC c 1 ∨ InC c 2) := by
  unfold ToldM InC
  simp only [codF, codL]
  omega
set_option maxRecDepth 100000 in
set_option maxHeartbeats 2000000 in
theorem among_any {c k : Nat} {w : World} (hR : Row w k 73 codC) :
    Calls Tryd.prog 31 #[.int .u32 (c : Int), .slice (some ⟨k, 0, none⟩) 3 3] w fun e w' => e = .returned (.bool (decide (ToldM c))) ∧ Below w.heap.size w w' := by
  have HR := Lib.hid hR
  have hkl := hR.lt
  have HK := Lib.hid hkl
  clear hR hkl
  go_enter Tryd.func31, Tryd.ntmps31
  go_wp2_with fail
  go_loopw [9] (fun i wr => ∃ j : Nat, j ≤ 3 ∧ i = .int .i64 j ∧ Hid (∀ n, n < j → ¬ InC c n) ∧ Hid (Below w.heap.size w wr)) (fun i _ => 3 - (intOf i).toNat)
  case atStart => exact ⟨0, by omega, rfl, fun n hn => by omega, Below.refl _ _⟩
  case round =>
    obtain ⟨j, hj, rfl, HN, HB⟩ := hrel
    by_cases hlt : j < 3
    · have hjn : (j : Int) < 3 := by omega
      have hrow := HR.out.below HB.out HK.out
      have hc := codC_at hlt
      have c0 := hrow.cell hc.1
      have c1 := hrow.cell hc.2
      have hII : Hid (InC c j ↔ codF j ≤ c ∧ c ≤ codL j) := Iff.rfl
      have HB1 : Hid (Below w.heap.size w (wr.alloc (.cells #[.int .u32 (codF j : Int), .int .u32 (codL j : Int)] 73))) := HB.out.alloc HB.out.size _
      clear hc hrow
      generalize codF j = f at *
      generalize codL j = l at *
      by_cases h1 : f ≤ c
      · have d1 : (f : Int) ≤ (c : Int) := by omega
        have d1' : decide (f ≤ c) = true := decide_eq_true h1
        by_cases h2 : c ≤ l
        · have d2 : (c : Int) ≤ (l : Int) := by omega
          have d2' : decide (c ≤ l) = true := decide_eq_true h2
          have HT : Hid (decide (ToldM c) = true) := by
            show _ = _
            rw [decide_eq_true_eq, told_in]
            have h3 := hII.out.2 ⟨h1, h2⟩
            obtain rfl | rfl | rfl : j = 0 ∨ j = 1 ∨ j = 2 := by omega
            · exact .inl h3
            · exact .inr (.inl h3)
            · exact .inr (.inr h3)
          clear hII h1 h2
          go_wp2_with fail
          go_ret
          exact ⟨congrArg (fun b => Ending.returned (.bool b)) HT.out.symm, HB1.out⟩
        · have d2 : ¬ (c : Int) ≤ (l : Int) := by omega
          have d2' : decide (c ≤ l) = false := decide_eq_false h2
          have HN2 : Hid (∀ n, n < j + 1 → ¬ InC c n) := fun n hn hi => by
            by_cases h3 : n = j
            · subst h3; exact h2 (hII.out.1 hi).2
            · exact HN.out n (by omega) hi
          clear hII h1 h2
          go_wp2_with fail
          go_roundw
          case rel => exact ⟨j + 1, by omega, by go_num, HN2, HB1⟩
          case measure => simp [intOf]; omega
      · have d1 : ¬ (f : Int) ≤ (c : Int) := by omega
        have d1' : decide (f ≤ c) = false := decide_eq_false h1
        have HN2 : Hid (∀ n, n < j + 1 → ¬ InC c n) := fun n hn hi => by
          by_cases h3 : n = j
          · subst h3; exact h1 (hII.out.1 hi).1
          · exact HN.out n (by omega) hi
        clear hII h1
        go_wp2_with fail
        go_roundw
        case rel => exact ⟨j + 1, by omega, by go_num, HN2, HB1⟩
        case measure => simp [intOf]; omega
    · obtain rfl : j = 3 := by omega
      have HT : Hid (decide (ToldM c) = false) := by
        show _ = _
        rw [decide_eq_false_iff_not, told_in]
        rintro (h | h | h)
        · exact HN.out 0 (by omega) h
        · exact HN.out 1 (by omega) h
        · exact HN.out 2 (by omega) h
      go_wp2_with fail
      go_ret
      exact ⟨congrArg (fun b => Ending.returned (.bool b)) HT.out.symm, HB.out⟩
theorem run_codC (w : World) : (Instr.buildSlice 84 3 #[(0, .agg #[.int .u32 1000, .int .u32 1003]), (1, .agg #[.int .u32 1007, .int .u32 1014]), (2, .agg #[.int .u32 3000, .int .u32 4999])]).run Tryd.prog w = .ok (.slice (some ⟨w.heap.size, 0, none⟩) 3 3) (w.alloc (.cells codC 73)) := by kernel_rfl
set_option maxRecDepth 100000 in
set_option maxHeartbeats 2000000 in
theorem mtold_any {c : Nat} (w : World) : Calls Tryd.prog 20 #[.int .u32 (c : Int)] w fun e w' => e = .returned (.bool (decide (ToldM c))) ∧ Below w.heap.size w w' := by
  have HA := Lib.hid (among_any (c := c) (Row.new w 73 codC))
  have HB : Hid (Below w.heap.size w (w.alloc (.cells codC 73))) := (Below.refl _ _).alloc (Nat.le_refl _) _
  have hrun := run_codC
  go_enter Tryd.func20, Tryd.ntmps20
  go_wp2_with fail
  refine HA.out.mono ?_
  rintro e w1 ⟨rfl, hb⟩
  go_wp2_with fail
  go_ret
  exact ⟨rfl, HB.out.trans (hb.mono HB.out.size)⟩
set_option maxRecDepth 100000 in
set_option maxHeartbeats 2000000 in
theorem rtold_any {c : Nat} (w : World) : Calls Tryd.prog 21 #[.int .u32 (c : Int)] w fun e w' => e = .returned (.bool (decide (ToldM c))) ∧ w' = w := by
  have hT : decide (ToldM c) = (decide (1000 ≤ c) && decide (c < 5000) && !decide (c = 1004) && !decide (c = 1005) && !decide (c = 1006) && (decide (c < 1015) || decide (3000 ≤ c))) := by
    rw [Bool.eq_iff_iff]
    simp only [decide_eq_true_eq, Bool.and_eq_true, Bool.or_eq_true, Bool.not_eq_true', decide_eq_false_iff_not]
    unfold ToldM
    omega
  rw [hT]
  have e1 : decide ((1000 : Int) ≤ (c : Int)) = decide (1000 ≤ c) := by rw [decide_eq_decide]; omega
  have e2 : decide ((c : Int) < 5000) = decide (c < 5000) := by rw [decide_eq_decide]; omega
  have e3 : ((c : Int) != 1004) = !decide (c = 1004) := by by_cases h : c = 1004 <;> simp [h] <;> omega
  have e4 : ((c : Int) != 1005) = !decide (c = 1005) := by by_cases h : c = 1005 <;> simp [h] <;> omega
  have e5 : ((c : Int) != 1006) = !decide (c = 1006) := by by_cases h : c = 1006 <;> simp [h] <;> omega
  have e6 : decide ((c : Int) < 1015) = decide (c < 1015) := by rw [decide_eq_decide]; omega
  have e7 : decide ((3000 : Int) ≤ (c : Int)) = decide (3000 ≤ c) := by rw [decide_eq_decide]; omega
  clear hT
  generalize decide (1000 ≤ c) = q1 at *
  generalize decide (c < 5000) = q2 at *
  generalize decide (c = 1004) = q3 at *
  generalize decide (c = 1005) = q4 at *
  generalize decide (c = 1006) = q5 at *
  generalize decide (c < 1015) = q6 at *
  generalize decide (3000 ≤ c) = q7 at *
  go_enter Tryd.func21, Tryd.ntmps21
  go_wp2_with fail
  all_goals (go_ret; exact ⟨by simp_all, rfl⟩)
end Go.Proofs.YtdegpchofhnipaaDoor
