/-
  PrefixGets, by its contract: at every input it answers true; below what was there nothing has turned.
-/
import Derived.Test.YtdghkfmliedndaaPfxFixed
namespace Go.Proofs.Ytdghkfmliedndaa
open Go.RowKit Go.WideShapes

/-- What both Gets answer at a number of bits. -/
def getK (k : Int) (l : List UInt8) : Nat × Nat × Nat := if 1 ≤ k ∧ k ≤ 8 then getL k.toNat l else (0, 0, 1)

theorem get_all (k : Int) (A : Option Addr) (c : Nat) (l : List UInt8) (hl : l.length ≤ 65536) (hcap : l.length ≤ c) (w : World) (B : Nat) (hr : RdB w B A l) :
    Calls Try.prog 12 #[.slice A l.length c, .int .i64 k] w fun e w' => Three .u32 .i64 .i64 (getK k l) e ∧ w = w' := by
  unfold getK
  by_cases h : 1 ≤ k ∧ k ≤ 8
  · obtain ⟨j, rfl⟩ := Int.eq_ofNat_of_zero_le (show 0 ≤ k by omega)
    rw [if_pos h]
    exact get_any j (by omega) (by omega) A c l hl hcap w B hr
  · rw [if_neg h]
    exact get_arg k h A _ c w
theorem rget_all (k : Int) (A : Option Addr) (c : Nat) (l : List UInt8) (hl : l.length ≤ 65536) (w : World) (B : Nat) (hr : RdB w B A l) :
    Calls Try.prog 13 #[.slice A l.length c, .int .i64 k] w fun e w' => Three .u32 .i64 .i64 (getK k l) e ∧ w = w' := by
  unfold getK
  by_cases h : 1 ≤ k ∧ k ≤ 8
  · obtain ⟨j, rfl⟩ := Int.eq_ofNat_of_zero_le (show 0 ≤ k by omega)
    rw [if_pos h]
    exact rget_any j (by omega) (by omega) A c l hl w B hr
  · rw [if_neg h]
    exact rget_arg k h A _ c w

theorem gets_any (A : Option Addr) (c : Nat) (l : List UInt8) (hcap : l.length ≤ c) (k : Int) (w : World) (hr : RdB w w.heap.size A l) :
    Calls Try.prog 4 #[.slice A l.length c, .int .i64 k] w fun e w' => e = .returned (.bool true) ∧ Below w.heap.size w w' := by
  by_cases hl : 3000 < l.length
  · have hl' : (3000 : Int) < l.length := by omega
    clear hcap
    go_enter Try.func4, Try.ntmps4
    go_wp2_with (go_at_call 8; refine (fixed_any _).mono ?_; rintro e w' ⟨rfl, hb⟩)
    go_ret
    exact ⟨rfl, hb⟩
  · have hl' : decide ((3000 : Int) < l.length) = false := by simp; omega
    have c1 := get_all k A c l (by omega) hcap w _ hr
    have c2 := rget_all k A c l (by omega) w _ hr
    generalize getK k l = R at c1 c2
    obtain ⟨x, y, z⟩ := R
    clear hcap
    go_enter Try.func4, Try.ntmps4
    go_wp2_with fail
    refine c1.mono ?_
    rintro e w' ⟨rfl, rfl⟩
    go_wp2_with fail
    refine c2.mono ?_
    rintro e w' ⟨rfl, rfl⟩
    go_wp2_with (go_at_call 8; refine (fixed_any _).mono ?_; rintro e w' ⟨rfl, hb⟩)
    go_ret
    exact ⟨rfl, hb⟩
end Go.Proofs.Ytdghkfmliedndaa
