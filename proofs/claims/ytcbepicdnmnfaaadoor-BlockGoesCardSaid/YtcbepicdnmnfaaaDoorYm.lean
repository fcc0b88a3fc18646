/-
  A block that is gathered, frame by frame, as functions of lists of bytes. No program; no conditions but those that each theorem names.
-/
import Derived.Test.YtcbepicdnmnfaaaDoorBytes
namespace Go.Proofs.YtcbepicdnmnfaaaDoor

/-- A gatherer: whether a block is begun, its stream, its bytes, its end; how many frames came behind; a fault's code. -/
structure Gm where
  busy : Bool
  st : Nat
  blk : List UInt8
  en : Bool
  more : Nat
  bad : Nat
def gm0 : Gm := ⟨false, 0, [], false, 0, 0⟩
def gmF (c : Nat) : Gm := ⟨false, 0, [], false, 0, c⟩
/-- Behind a frame that was added: the gatherer, whether the block is whole, and the block. -/
def gfin (m : Gm) (fl : Nat) : Gm × Bool × Gm :=
  if 8192 < m.blk.length ∨ 16 < m.more then (gmF 11, false, gm0)
  else if fl / 4 % 2 = 1 then (gm0, true, m) else (m, false, gm0)
/-- The block as it begins. -/
def gbeg (fl st : Nat) (d : List UInt8) : Gm := ⟨true, st, d, decide (fl % 2 = 1), 0, 0⟩
/-- The block with a frame more. -/
def gadd (m : Gm) (d : List UInt8) : Gm := ⟨true, m.st, m.blk ++ d, m.en, m.more + 1, 0⟩
/-- A frame comes. -/
def gtk (m : Gm) (ty fl st : Nat) (d : List UInt8) : Gm × Bool × Gm :=
  if m.bad ≠ 0 then (m, false, gm0)
  else if m.busy = false then
    (if ty = 9 then (gmF 1, false, gm0) else if ty = 1 then gfin (gbeg fl st d) fl else (m, false, gm0))
  else if ty = 9 ∧ st = m.st then gfin (gadd m d) fl
  else (gmF 1, false, gm0)
/-- What a gatherer may be. -/
structure Gm.Ok (m : Gm) : Prop where
  idle : m.busy = false → m = gmF m.bad
  good : m.busy = true → m.bad = 0
  len : m.blk.length ≤ 8192
  mor : m.more ≤ 16
  bd : m.bad ≤ 11
theorem gm0_ok : gm0.Ok := ⟨fun _ => rfl, fun h => (by cases h), by simp [gm0], by simp [gm0], by simp [gm0]⟩
theorem gmF_ok {c : Nat} (h : c ≤ 11) : (gmF c).Ok := ⟨fun _ => rfl, fun h => (by cases h), by simp [gmF], by simp [gmF], h⟩
theorem gfin_ok {m : Gm} (hb : m.busy = true) (h0 : m.bad = 0) (fl : Nat) : (gfin m fl).1.Ok := by
  unfold gfin
  split
  · exact gmF_ok (by omega)
  · rename_i h
    split
    · exact gm0_ok
    · exact ⟨fun e => (by rw [hb] at e; cases e), fun _ => h0, by show m.blk.length ≤ 8192; omega, by show m.more ≤ 16; omega, by show m.bad ≤ 11; omega⟩
theorem gtk_ok {m : Gm} (h : m.Ok) (ty fl st : Nat) (d : List UInt8) : (gtk m ty fl st d).1.Ok := by
  unfold gtk
  repeat' split
  all_goals first | exact h | exact gmF_ok (by omega) | exact gfin_ok rfl rfl fl
end Go.Proofs.YtcbepicdnmnfaaaDoor
