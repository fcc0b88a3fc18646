/-
  firstFailure, firstPassage, Of, next, by their contracts: over nil and over chains of passages that end in a failure; below what was there nothing has turned.
-/
import Derived.Test.YtjkfckdoliflmaaDoorAst
namespace Go.Proofs.YtjkfckdoliflmaaDoor
open Go.RowKit Go.Extern.Stop Go.Stop Go.Extern

theorem fc_idle (w : World) :
    CallsD Tryd.prog 21 #[] .returning w fun e u' w' => e = .returned (.tuple #[]) ∧ u' = .returning ∧ w' = w := by
  refine callsD_of_wpS Tryd.func21 rfl fun c₀ cs hu => ?_
  apply wpS_region
  cases c₀
  simp_all [wpOpsS, go_sem, recoverD, Tryd.ntmps21, bodyPostS, results, Tryd.results21]
theorem pc_idle (w : World) :
    CallsD Tryd.prog 19 #[] .returning w fun e u' w' => e = .returned (.tuple #[]) ∧ u' = .returning ∧ w' = w := by
  refine callsD_of_wpS Tryd.func19 rfl fun c₀ cs hu => ?_
  apply wpS_region
  cases c₀
  simp_all [wpOpsS, go_sem, recoverD, Tryd.ntmps19, bodyPostS, results, Tryd.results19]

set_option maxHeartbeats 4000000 in
theorem firstF_nil (w : World) :
    Calls Tryd.prog 17 #[.nilIface] w fun e w' => e = .returned (.pointer none) ∧ Below w.heap.size w w' := by
  have hmf : ∀ (fn : Fn) (first cap : Array Value) (w : World), (Instr.makeFunc fn first cap).run Tryd.prog w = .ok (.func fn first cap) w := fun _ _ _ _ => rfl
  go_enter_defers Tryd.func17, Tryd.ntmps17
  go_wp2_with (go_at_call 20; refine (as_nil _ _).mono ?_; rintro e w' ⟨rfl, rfl⟩)
  refine leaves_cons (f := 21) (args := #[]) (by simp) (by simp [go_sem]) ?_
  refine (fc_idle _).mono ?_
  rintro e u' w'' ⟨rfl, rfl, rfl⟩
  simp [Leaves, settle, results, Tryd.results17, go_sem]
  exact (Below.refl _ _).alloc (Nat.le_refl _) _

set_option maxHeartbeats 4000000 in
theorem firstF_ch (xs : List ByteArray) (v : Value) (pf : Nat) (w : World) (hch : Ch w v xs pf) (hg : w.cell? ⟨1, 0, none⟩ = some (.iface 70 (.agg #[.pointer (some ⟨5, 28, none⟩)]))) :
    Calls Tryd.prog 17 #[v] w fun e w' => e = .returned (.pointer (some ⟨pf, 0, none⟩)) ∧ Below w.heap.size w w' := by
  have hmf : ∀ (fn : Fn) (first cap : Array Value) (w : World), (Instr.makeFunc fn first cap).run Tryd.prog w = .ok (.func fn first cap) w := fun _ _ _ _ => rfl
  have hlt := blk_lt hg
  have hg2 : (w.alloc (.cells #[.pointer none] 41)).cell? ⟨1, 0, none⟩ = some (.iface 70 (.agg #[.pointer (some ⟨5, 28, none⟩)])) := by
    rw [World.cell?_alloc_lt _ _ ⟨1, 0, none⟩ hlt]; exact hg
  have HC := Lib.hid (AsF xs v pf ⟨w.heap.size, 0, none⟩ (.pointer none) (w.alloc (.cells #[.pointer none] 41)) (hch.alloc _) hg2 (by simp) (by simp))
  clear hg hg2
  go_enter_defers Tryd.func17, Tryd.ntmps17
  go_wp2_with (go_at_call 20; refine (HC.out).mono ?_; rintro e w' ⟨rfl, rfl⟩; unfold preW)
  refine leaves_cons (f := 21) (args := #[]) (by simp) (by simp [go_sem]) ?_
  refine (fc_idle _).mono ?_
  rintro e u' w'' ⟨rfl, rfl, rfl⟩
  simp [Leaves, settle, results, Tryd.results17, go_sem]
  exact (((((Below.refl _ _).alloc (Nat.le_refl _) _).alloc (by simp) _).alloc (by simp <;> omega) _).alloc (by simp <;> omega) _).alloc (by simp <;> omega) _

set_option maxHeartbeats 4000000 in
theorem firstP_hit (pb : Nat) (w : World) (hg : w.cell? ⟨1, 0, none⟩ = some (.iface 70 (.agg #[.pointer (some ⟨5, 28, none⟩)]))) :
    Calls Tryd.prog 15 #[.iface 44 (.pointer (some ⟨pb, 0, none⟩))] w fun e w' => e = .returned (.pointer (some ⟨pb, 0, none⟩)) ∧ Below w.heap.size w w' := by
  have hmf : ∀ (fn : Fn) (first cap : Array Value) (w : World), (Instr.makeFunc fn first cap).run Tryd.prog w = .ok (.func fn first cap) w := fun _ _ _ _ => rfl
  have hlt := blk_lt hg
  have hg2 : (w.alloc (.cells #[.pointer none] 44)).cell? ⟨1, 0, none⟩ = some (.iface 70 (.agg #[.pointer (some ⟨5, 28, none⟩)])) := by
    rw [World.cell?_alloc_lt _ _ ⟨1, 0, none⟩ hlt]; exact hg
  have HC := Lib.hid (AsP_hit pb ⟨w.heap.size, 0, none⟩ (.pointer none) (w.alloc (.cells #[.pointer none] 44)) hg2 (by simp) (by simp))
  clear hg hg2
  go_enter_defers Tryd.func15, Tryd.ntmps15
  go_wp2_with (go_at_call 20; refine (HC.out).mono ?_; rintro e w' ⟨rfl, rfl⟩; unfold preW)
  refine leaves_cons (f := 19) (args := #[]) (by simp) (by simp [go_sem]) ?_
  refine (pc_idle _).mono ?_
  rintro e u' w'' ⟨rfl, rfl, rfl⟩
  simp [Leaves, settle, results, Tryd.results15, go_sem]
  exact (((((Below.refl _ _).alloc (Nat.le_refl _) _).alloc (by simp) _).alloc (by simp <;> omega) _).alloc (by simp <;> omega) _).alloc (by simp <;> omega) _

set_option maxHeartbeats 4000000 in
theorem firstP_miss (pf : Nat) (w : World) (hg : w.cell? ⟨1, 0, none⟩ = some (.iface 70 (.agg #[.pointer (some ⟨5, 28, none⟩)]))) :
    Calls Tryd.prog 15 #[.iface 41 (.pointer (some ⟨pf, 0, none⟩))] w fun e w' => e = .returned (.pointer none) ∧ Below w.heap.size w w' := by
  have hmf : ∀ (fn : Fn) (first cap : Array Value) (w : World), (Instr.makeFunc fn first cap).run Tryd.prog w = .ok (.func fn first cap) w := fun _ _ _ _ => rfl
  have hlt := blk_lt hg
  have hg2 : (w.alloc (.cells #[.pointer none] 44)).cell? ⟨1, 0, none⟩ = some (.iface 70 (.agg #[.pointer (some ⟨5, 28, none⟩)])) := by
    rw [World.cell?_alloc_lt _ _ ⟨1, 0, none⟩ hlt]; exact hg
  have HC := Lib.hid (AsP_miss pf ⟨w.heap.size, 0, none⟩ (w.alloc (.cells #[.pointer none] 44)) hg2)
  clear hg hg2
  go_enter_defers Tryd.func15, Tryd.ntmps15
  go_wp2_with (go_at_call 20; refine (HC.out).mono ?_; rintro e w' ⟨rfl, rfl⟩; unfold preW)
  refine leaves_cons (f := 19) (args := #[]) (by simp) (by simp [go_sem]) ?_
  refine (pc_idle _).mono ?_
  rintro e u' w'' ⟨rfl, rfl, rfl⟩
  simp [Leaves, settle, results, Tryd.results15, go_sem]
  exact ((((Below.refl _ _).alloc (Nat.le_refl _) _).alloc (by simp) _).alloc (by simp <;> omega) _).alloc (by simp <;> omega) _

set_option maxHeartbeats 4000000 in
theorem firstP_nil (w : World) :
    Calls Tryd.prog 15 #[.nilIface] w fun e w' => e = .returned (.pointer none) ∧ Below w.heap.size w w' := by
  have hmf : ∀ (fn : Fn) (first cap : Array Value) (w : World), (Instr.makeFunc fn first cap).run Tryd.prog w = .ok (.func fn first cap) w := fun _ _ _ _ => rfl
  go_enter_defers Tryd.func15, Tryd.ntmps15
  go_wp2_with (go_at_call 20; refine (as_nil _ _).mono ?_; rintro e w' ⟨rfl, rfl⟩)
  refine leaves_cons (f := 19) (args := #[]) (by simp) (by simp [go_sem]) ?_
  refine (pc_idle _).mono ?_
  rintro e u' w'' ⟨rfl, rfl, rfl⟩
  simp [Leaves, settle, results, Tryd.results15, go_sem]
  exact (Below.refl _ _).alloc (Nat.le_refl _) _
end Go.Proofs.YtjkfckdoliflmaaDoor
