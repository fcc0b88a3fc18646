/-
  Take, the window's (by itself, and in a meter) and the document's, by contract. Conditions: the bounds of a window.
-/
import Derived.Test.YtplohgaecoobaaaWsm
namespace Go.Proofs.Ytplohgaecoobaaa
open Go.RowKit Go.WideShapes

/-- What may be taken is taken. -/
def mayT (l n : Int) : Prop := 0 ≤ n ∧ n ≤ max l 0
attribute [local irreducible] wnc rwc mtc rmc ftc btw
set_option maxRecDepth 100000 in
theorem take_nil (n : Int) (w : World) : Calls Try.prog 51 #[.pointer none, .int .i64 n] w fun e w' => e = .returned (.bool false) ∧ w' = w := by
  go_enter Try.func51, Try.ntmps51
  go_wp2
  go_ret
  exact ⟨rfl, rfl⟩
set_option maxRecDepth 100000 in
theorem take_now {w : World} {g : Nat} {l : Int} {s : Nat} (h : Row w g 93 (wnc l s)) {n : Int} (hn : ¬ mayT l n) : Calls Try.prog 51 #[.pointer (some ⟨g, 0, none⟩), .int .i64 n] w fun e w' => e = .returned (.bool false) ∧ w' = w := by
  have c0 := wnC h
  clear h
  unfold mayT at hn
  by_cases h0 : n < 0
  · clear hn c0
    go_enter Try.func51, Try.ntmps51
    go_wp2
    go_ret
    exact ⟨rfl, rfl⟩
  · have h1 : max l 0 < n := by omega
    have d0 : decide (n < 0) = false := by simp; omega
    clear hn h0
    go_enter Try.func51, Try.ntmps51
    go_wp2
    go_ret
    exact ⟨rfl, rfl⟩
set_option maxRecDepth 100000 in
set_option maxHeartbeats 1000000 in
theorem take_yesw {w : World} {g : Nat} {l : Int} {s : Nat} (h : Row w g 93 (wnc l s)) (hl : -2147483648 ≤ l ∧ l ≤ 2147483647) {n : Int} (hn : mayT l n) : Calls Try.prog 51 #[.pointer (some ⟨g, 0, none⟩), .int .i64 n] w fun e w' => e = .returned (.bool true) ∧ Row w' g 93 (wnc (l - n) s) ∧ Fs (fun k => k = g) w w' := by
  have HR := Lib.hid (wnL (l' := l - n) h)
  have HF := Lib.hid (fs_set w g 0 (.int .i64 (l - n)))
  have hth := h.thawed 0
  have c0 := wnC h
  clear h
  unfold mayT at hn
  have d0 : decide (n < 0) = false := by simp; omega
  have d1 : decide (max l 0 < n) = false := by simp; omega
  have hw : IntKind.i64.wrap (l - n) = l - n := IntWalk.i64_in _ (by omega)
  clear hn hl
  go_enter Try.func51, Try.ntmps51
  go_wp2
  go_ret
  exact ⟨rfl, HR.out, HF.out⟩
end Go.Proofs.Ytplohgaecoobaaa
