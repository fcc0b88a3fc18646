/-
  bytes.Clone, by its contract. Conditions: those that the theorem names.
-/
import Derived.Test.YtdegpchofhnipaaDoorIpl
namespace Go.Proofs.YtdegpchofhnipaaDoor
open Go.RowKit Go.WideShapes

theorem nilM_yes (c : Nat) (w : World) : (binOp .eql 30 (.slice none 0 c) (.slice none 0 0)).run Tryd.prog w = .ok (.bool true) w := by kernel_rfl
theorem nilM_no (a : Addr) (n c : Nat) (w : World) : (binOp .eql 30 (.slice (some a) n c) (.slice none 0 0)).run Tryd.prog w = .ok (.bool false) w := by kernel_rfl
set_option maxRecDepth 100000 in
set_option maxHeartbeats 1000000 in
theorem bcloneM {B : Nat} {A : Option Addr} {c : Nat} {l : List UInt8} {w : World} (hr : RdB w B A l) (hB : B ≤ w.heap.size) (hl : l.length ≤ 549755813888) :
    Calls Tryd.prog 27 #[.slice A l.length c] w fun e w' => ∃ A' c', e = .returned (.slice A' l.length c') ∧ Bo w' w.heap.size 5 (.slice A' l.length c') l ∧ Below w.heap.size w w' := by
  obtain ⟨i0, hi0, hz0, hz1, hz2⟩ := infoI infoI8
  cases A with
  | none =>
    have hn : l = [] := by
      rcases List.eq_nil_or_concat l with h0 | ⟨x, y, h0⟩
      · exact h0
      · obtain ⟨g, o, e, _⟩ := hr (by rw [h0]; simp)
        cases e
    subst hn
    clear hr
    have hnil := nilM_yes c
    go_enter Tryd.func27, Tryd.ntmps27
    go_wp2
    go_ret
    exact ⟨none, 0, rfl, Bo.nil, Below.refl _ _⟩
  | some a =>
    have hO1 : Hid (Bo (w.alloc (.cells #[] 5)) w.heap.size 5 (.slice (some ⟨w.heap.size, 0, none⟩) 0 0) []) := OwS.lit w 5 1 0 #[] (by simp) (by simp [maxLen]) (Nat.le_refl _)
    have HR := Lib.hid (hr.alloc hB (.cells #[] 5))
    clear hr
    have hnil := nilM_no a l.length c
    go_enter Tryd.func27, Tryd.ntmps27
    go_wp2_with (at_builtin; go_loud (refine wpList_appBo rfl (.tmp 5) (.tmp 6) 30 rfl w.heap.size 5 i0 Tryd.underlying30 hi0 hz0 hz1 hz2 (.slice (some ⟨w.heap.size, 0, none⟩) 0 0) [] rfl hO1.out B (some a) l _ _ rfl rfl HR.out (by simp; omega) (by simp) ?_; intro v2 w2 hO2 hF2 hN2))
    go_ret
    rw [List.nil_append] at hO2
    obtain ⟨A', c', rfl, _⟩ := hO2.shape
    exact ⟨A', c', rfl, hO2, ((Below.refl w.heap.size w).alloc (Nat.le_refl _) _).trans (hF2.below (fun k hk _ => by have := (OwS.lt hO1.out k hk).1; omega) (by simp))⟩
end Go.Proofs.YtdegpchofhnipaaDoor
