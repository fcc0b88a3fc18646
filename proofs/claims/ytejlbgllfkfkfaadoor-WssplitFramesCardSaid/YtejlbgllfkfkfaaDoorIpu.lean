/-
  wsframe's Put, by its contract. Conditions: the data's bytes are read, their number.
-/
import Derived.Test.YtejlbgllfkfkfaaDoorIma
import Derived.Deep.CutBlock
namespace Go.Proofs.YtejlbgllfkfkfaaDoor
open Go.RowKit Go.WideShapes

/-- What a call leaves that makes bytes of its own. -/
def MadeI (w : World) (l : List UInt8) (e : Ending) (w' : World) : Prop := ∃ A c, e = .returned (.slice A l.length c) ∧ OwB w' w.heap.size 5 (.slice A l.length c) l ∧ Below w.heap.size w w'
/-- A frame's bytes, if it may be. -/
def Pc.putL (p : Pc) : List UInt8 := if p.May then p.put else []
theorem lensI_eq {n : Nat} (h : n ≤ 4096) : lensI n = be (behindN (formN n)) n := by
  unfold lensI behindN formN
  by_cases h1 : n < 126
  · rw [if_pos h1, if_neg (show ¬ 65536 ≤ n by omega), if_neg (show ¬ 126 ≤ n by omega), if_neg (by omega), if_neg (by omega)]
    rfl
  · rw [if_neg h1, if_neg (show ¬ 65536 ≤ n by omega), if_pos (show 126 ≤ n by omega)]
    rfl
theorem formI_eq {n : Nat} (h : n ≤ 4096) : formI n = formN n := by
  unfold formI formN
  by_cases h1 : n < 126
  · rw [if_pos h1, if_neg (show ¬ 65536 ≤ n by omega), if_neg (show ¬ 126 ≤ n by omega)]
  · rw [if_neg h1, if_neg (show ¬ 65536 ≤ n by omega), if_pos (show 126 ≤ n by omega)]
theorem or128 {n : Nat} (h : n < 128) : bits .or .u8 (n : Int) 128 = ((n + 128 : Nat) : Int) := by
  rw [show (128 : Int) = ((128 : Nat) : Int) from rfl, u8_or_nat _ _ (by omega) (by omega), Nat.or_comm]
  have := Nat.two_pow_add_eq_or_of_lt (i := 7) (show n < 2 ^ 7 by omega) 1
  rw [show 2 ^ 7 * 1 = 128 from rfl] at this
  omega
/-- Two bytes, laid. -/
theorem lit2I (x y : Nat) (hx : x < 256) (hy : y < 256) (W : World) : OwB (W.alloc (.cells #[.int .u8 (x : Int), .int .u8 (y : Int)] 5)) W.heap.size 5 (.slice (some ⟨W.heap.size, 0, none⟩) 2 2) [UInt8.ofNat x, UInt8.ofNat y] := by
  have hb : #[Value.int .u8 (x : Int), .int .u8 (y : Int)] = (byc [UInt8.ofNat x, UInt8.ofNat y]).toArray := by simp [byc]; omega
  rw [hb]
  exact OwB.lit W 5 _ 2 rfl (by simp [maxLen]) (Nat.le_refl _)

end Go.Proofs.YtejlbgllfkfkfaaDoor
