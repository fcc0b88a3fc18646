/-
  Feed and Held of any splitter; the law's own example: fixed answers true. Conditions: errors.errorType holds what the program's text lays.
-/
import Derived.Test.YtnjnepploockiaaDoorSpne
import Derived.Test.YtnjnepploockiaaDoorFputw
namespace Go.Proofs.YtnjnepploockiaaDoor
open Go.RowKit Go.WideShapes

def fedN (l : List UInt8) (bad : Bool) (x : List UInt8) : Nat := if bad = true then 0 else min x.length (16393 - l.length)
def fedL (l : List UInt8) (bad : Bool) (x : List UInt8) : List UInt8 := if bad = true then [] else l ++ x.take (16393 - l.length)
set_option maxRecDepth 100000 in
set_option maxHeartbeats 1000000 in
theorem feed_nil (v : Value) (w : World) : Calls Tryd.prog 15 #[.pointer none, v] w fun e w' => e = .returned (.int .i64 0) ∧ w' = w := by
  go_enter Tryd.func15, Tryd.ntmps15
  go_wp2_with fail
  refine (bad_nil _).mono ?_
  rintro e w1 ⟨rfl, rfl⟩
  go_wp2_with fail
  go_ret
  exact ⟨rfl, rfl⟩
set_option maxRecDepth 100000 in
set_option maxHeartbeats 1000000 in
theorem feed_bad (v : Value) {w : World} {g b : Nat} {l : List UInt8} {wt : Bool} (h : Spl w g b l wt true) : Calls Tryd.prog 15 #[.pointer (some ⟨g, 0, none⟩), v] w fun e w' => e = .returned (.int .i64 0) ∧ w' = w := by
  have hb := bad_any h
  clear h
  go_enter Tryd.func15, Tryd.ntmps15
  go_wp2_with fail
  refine hb.mono ?_
  rintro e w1 ⟨rfl, rfl⟩
  go_wp2_with fail
  go_ret
  exact ⟨rfl, rfl⟩
theorem feed_any {w : World} {g b : Nat} {l x : List UInt8} {wt bad : Bool} {A : Option Addr} {c : Nat} (h : Spl w g b l wt bad) (hx : RdS w (fun k => k < w.heap.size ∧ k ≠ g ∧ k ≠ b) A (byc x)) :
    Calls Tryd.prog 15 #[.pointer (some ⟨g, 0, none⟩), .slice A x.length c] w fun e w' => e = .returned (.int .i64 (fedN l bad x : Int)) ∧ Spl w' g b (fedL l bad x) wt bad ∧ Fs (gbS g b) w w' := by
  cases bad with
  | true =>
    refine (feed_bad _ h).mono ?_
    rintro e w1 ⟨rfl, rfl⟩
    refine ⟨rfl, ?_, Fs.refl _ _⟩
    rcases h with ⟨h0, _⟩ | ⟨h0, hw, hl, hX⟩
    · cases h0
    · exact .inr ⟨rfl, hw, rfl, hX⟩
  | false =>
    rcases h with ⟨_, fi, la, L, hS, rfl⟩ | ⟨h0, _⟩
    · have hl := hS.held_len
      refine (feed_good (c := c) hS hx).mono ?_
      rintro e w1 ⟨rfl, la', L', h1, h2, h3⟩
      refine ⟨?_, ?_, h3⟩
      · unfold fedN; rw [hl]; rfl
      · refine .inl ⟨rfl, 0, la', L', h1, ?_⟩
        rw [h2]
        unfold fedL
        rw [hl]
        rfl
    · cases h0
set_option maxRecDepth 100000 in
set_option maxHeartbeats 1000000 in
theorem hld_bad {w : World} {g : Nat} (h : SpX w g) : Calls Tryd.prog 13 #[.pointer (some ⟨g, 0, none⟩)] w fun e w' => e = .returned (.int .i64 0) ∧ ∃ n, w' = w.drewN n := by
  have c0 : w.cell? ⟨g, 0, none⟩ = some (.slice none 0 0) := Row.cell h rfl
  have c1 : w.cell? ⟨g, 1, none⟩ = some (.int .i64 0) := Row.cell h rfl
  have c2 : w.cell? ⟨g, 2, none⟩ = some (.int .i64 0) := Row.cell h rfl
  have hh : Calls Tryd.prog 25 #[.pointer (some ⟨g, 0, none⟩)] w fun e w' => e = .returned (.slice none 0 0) ∧ ∃ n, w' = w.drewN n := by
    have hcut : ∀ W, (Instr.slice 22 (.slice none 0 0) (some (.int .i64 0)) (some (.int .i64 0)) none).run Tryd.prog W = .ok (.slice none 0 0) W := fun W => by kernel_rfl
    clear h
    go_enter Tryd.func25, Tryd.ntmps25
    go_wp2
    go_quiet (fail)
    go_wp2
    go_ret
    exact ⟨rfl, _, rfl⟩
  clear h c0 c1 c2
  go_enter Tryd.func13, Tryd.ntmps13
  go_wp2_with fail
  refine hh.mono ?_
  rintro e w1 ⟨rfl, n, rfl⟩
  go_wp2_with fail
  go_ret
  exact ⟨rfl, _, rfl⟩
theorem hld_any {w : World} {g b : Nat} {l : List UInt8} {wt bad : Bool} (h : Spl w g b l wt bad) :
    Calls Tryd.prog 13 #[.pointer (some ⟨g, 0, none⟩)] w fun e w' => e = .returned (.int .i64 (l.length : Int)) ∧ ∃ n, w' = w.drewN n := by
  rcases h with ⟨rfl, fi, la, L, hS, rfl⟩ | ⟨rfl, hw, rfl, hX, _⟩
  · rw [hS.held_len]; exact hld_good hS
  · exact hld_bad hX
end Go.Proofs.YtnjnepploockiaaDoor
