/-
  The document's numbers and bytes as texts: Number, Value, xor, Turn, by their contracts. Conditions: those that each theorem names.
-/
import Derived.Test.YtdegpchofhnipaaDoorTxt
import Derived.Test.YtdegpchofhnipaaDoorIm
import Derived.Deep.DeepCutAuto
import Derived.BigQuiet
namespace Go.Proofs.YtdegpchofhnipaaDoor
open Go.RowKit Go.WideShapes

theorem RdB.rowI {w : World} {B g : Nat} {t : TypeId} {cs : Array Value} {m : List UInt8} (h : Row w g t cs) (hc : cs.toList = byc m) (hg : g < B) : RdB w B (some ⟨g, 0, none⟩) m := fun _ => ⟨g, 0, rfl, hg, fun j hj => by
  refine h.cell ?_
  rw [Nat.zero_add, ← Array.getElem?_toList, hc]
  exact byc_at hj⟩
theorem textI1 (x : Nat) (hx : x < 256) (W : World) : (convert 30 9 (.slice (some ⟨W.heap.size, 0, none⟩) 1 1)).run Tryd.prog (W.alloc (.cells #[.int .u8 (x : Int)] 5)) = .ok (.string (txb [UInt8.ofNat x])) (W.alloc (.cells #[.int .u8 (x : Int)] 5)) := by
  have hb : (#[Value.int .u8 (x : Int)]).toList = byc [UInt8.ofNat x] := by simp [byc]; omega
  exact run_text (P := Tryd.prog) (l := [UInt8.ofNat x]) (c := 1) Tryd.underlying30 Tryd.underlying5 Tryd.underlying9 (RdB.rowI (B := W.heap.size + 1) (Row.new W _ _) hb (Nat.lt_succ_self _))
theorem be_stepI (k n : Nat) : UInt8.ofNat (n / 256 ^ k % 256) :: be k n = be (k + 1) n := by
  show _ = UInt8.ofNat (n / 256 ^ k) :: be k n
  congr 1
  rw [← UInt8.toNat_inj]
  simp

/-- What a round of xor keeps: the bits behind, weighed. -/
def XorI (a b : Nat) (k x y n : Nat) : Prop := n + 2 ^ k * (x ^^^ y) = a ^^^ b ∧ x = a / 2 ^ k ∧ y = b / 2 ^ k
theorem XorI.next {a b k x y n : Nat} (h : XorI a b k x y n) : XorI a b (k + 1) (x / 2) (y / 2) (n + if x % 2 = y % 2 then 0 else 2 ^ k) := by
  obtain ⟨h1, h2, h3⟩ := h
  refine ⟨?_, by rw [h2, Nat.pow_succ, Nat.div_div_eq_div_mul], by rw [h3, Nat.pow_succ, Nat.div_div_eq_div_mul]⟩
  rw [← h1, xor_bit x y, Nat.pow_succ]
  split <;> simp [Nat.mul_add, Nat.mul_assoc] <;> omega
theorem XorI.done {a b x y n : Nat} (ha : a < 256) (hb : b < 256) (h : XorI a b 8 x y n) : n = a ^^^ b := by
  obtain ⟨h1, h2, h3⟩ := h
  have hx : x = 0 := by omega
  have hy : y = 0 := by omega
  subst hx hy
  simpa using h1
theorem pow_k {k : Nat} (h : k < 8) : ∃ c, c < 256 ∧ 2 ^ k = c ∧ 2 ^ k % 256 = c ∧ c * 2 % 256 = 2 ^ (k + 1) % 256 := by
  have h1 : 2 ^ k < 256 := Nat.pow_lt_pow_right (n := 8) (by omega) h
  exact ⟨2 ^ k, h1, rfl, Nat.mod_eq_of_lt h1, by rw [Nat.pow_succ]⟩
end Go.Proofs.YtdegpchofhnipaaDoor
