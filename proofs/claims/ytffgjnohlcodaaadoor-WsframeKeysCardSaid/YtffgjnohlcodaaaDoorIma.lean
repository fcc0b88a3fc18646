/-
  A frame in memory; wsframe's May, by its contract. No conditions.
-/
import Derived.Test.YtffgjnohlcodaaaDoorIsm
import Derived.Test.YtffgjnohlcodaaaDoorAg
namespace Go.Proofs.YtffgjnohlcodaaaDoor
open Go.RowKit Go.WideShapes

/-- A frame's cells. -/
def pcC (fin : Bool) (op : Nat) (mask : Bool) (key : Nat) (A : Option Addr) (n c : Nat) : Array Value := #[.bool fin, .int .u8 op, .bool mask, .int .u32 key, .slice A n c]
section
variable {w : World} {g : Nat} {fin : Bool} {op : Nat} {mask : Bool} {key : Nat} {A : Option Addr} {n c : Nat}
theorem pc_cells (h : Row w g 25 (pcC fin op mask key A n c)) : w.cell? ⟨g, 0, none⟩ = some (.bool fin) ∧ w.cell? ⟨g, 1, none⟩ = some (.int .u8 op) ∧ w.cell? ⟨g, 2, none⟩ = some (.bool mask) ∧ w.cell? ⟨g, 3, none⟩ = some (.int .u32 key) ∧ w.cell? ⟨g, 4, none⟩ = some (.slice A n c) :=
  ⟨h.cell rfl, h.cell rfl, h.cell rfl, h.cell rfl, h.cell rfl⟩
end
theorem pc_info : (Tryd.prog.info? 25).map (·.size) = some 5 := by kernel_rfl
theorem pc_ok (fin : Bool) (op : Nat) (mask : Bool) (key : Nat) (A : Option Addr) (n c : Nat) : AgOk Tryd.prog 25 (pcC fin op mask key A n c) := ⟨⟨_, Tryd.underlying25⟩, pc_info, by unfold pcC; kernel_rfl⟩
theorem natLe {n k : Nat} (h : n ≤ k) : (n : Int) ≤ (k : Int) := by omega
set_option maxRecDepth 100000 in
set_option maxHeartbeats 1000000 in
theorem imay_w (fin : Bool) (op : Nat) (mask : Bool) (key : Nat) (A : Option Addr) (n c : Nat) (ck ok : Bool) (hct : ∀ w, Calls Tryd.prog 23 #[.int .u8 op] w fun e w' => e = .returned (.bool ck) ∧ w = w')
    (hmo : ∀ w, Calls Tryd.prog 24 #[.int .u8 op, .bool fin] w fun e w' => e = .returned (.bool ok) ∧ w = w') (w : World) :
    Calls Tryd.prog 10 #[.agg (pcC fin op mask key A n c)] w fun e w' => e = .returned (.bool (ok && (mask || decide (key = 0)) && decide (n ≤ if ck = true then 125 else 4096))) ∧ Below w.heap.size w w' := by
  have HB : Hid (Below w.heap.size w (w.alloc (.cells (pcC fin op mask key A n c) 25))) := (Below.refl _ _).alloc (Nat.le_refl _) _
  obtain ⟨c0, c1, c2, c3, c4⟩ := pc_cells (Row.new w 25 (pcC fin op mask key A n c))
  have hk' : decide (((key : Nat) : Int) = 0) = decide (key = 0) := by rw [decide_eq_decide]; omega
  have hk2 : (((key : Nat) : Int) == 0) = decide (key = 0) := by rw [← hk']; rfl
  have hn' : decide (((n : Nat) : Int) ≤ if ck = true then 125 else 4096) = decide (n ≤ if ck = true then 125 else 4096) := by rw [decide_eq_decide]; split <;> omega
  generalize decide (n ≤ if ck = true then 125 else 4096) = nk at *
  generalize decide (key = 0) = kk at *
  cases ck
  all_goals cases ok
  all_goals cases mask
  all_goals cases kk
  all_goals cases nk
  all_goals
    simp only [Bool.false_eq_true, if_true, if_false] at hn'
    go_enter Tryd.func10, Tryd.ntmps10
    go_wp2_with (first
      | (go_at_call 23; refine (hct _).mono ?_; rintro e w' ⟨rfl, rfl⟩)
      | (go_at_call 24; refine (hmo _).mono ?_; rintro e w' ⟨rfl, rfl⟩))
    go_ret
    exact ⟨rfl, HB.out⟩
theorem mayI_eq (fin : Bool) (op : Nat) (mask : Bool) (key n : Nat) : (okB op fin && (mask || decide (key = 0)) && decide (n ≤ if decide (8 ≤ op) = true then 125 else 4096)) = decide (MayI fin op mask key n) := by
  rw [Bool.eq_iff_iff]
  unfold okB MayI okOp
  cases fin <;> cases mask <;> simp <;> (try split) <;> omega
theorem imay_any (fin : Bool) (op : Nat) (mask : Bool) (key : Nat) (A : Option Addr) (n c : Nat) (w : World) :
    Calls Tryd.prog 10 #[.agg (pcC fin op mask key A n c)] w fun e w' => e = .returned (.bool (decide (MayI fin op mask key n))) ∧ Below w.heap.size w w' := by
  have h := imay_w fin op mask key A n c _ _ (ictl_any op) (imayOp_any op fin) w
  rw [mayI_eq] at h
  exact h

end Go.Proofs.YtffgjnohlcodaaaDoor
