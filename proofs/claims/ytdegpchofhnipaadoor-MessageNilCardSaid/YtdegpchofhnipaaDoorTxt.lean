/-
  Texts as bytes: cut, added, indexed, held against each other. No conditions but those that each theorem names.
-/
import Derived.Test.YtdegpchofhnipaaDoorProg
import Derived.Test.YtdegpchofhnipaaDoorArr
import Derived.Test.YtdegpchofhnipaaDoorBytes
import Derived.Test.YtdegpchofhnipaaDoorFs
namespace Go.Proofs.YtdegpchofhnipaaDoor
open Go.RowKit Go.WideShapes

/-- Bytes as a text. -/
def txb (l : List UInt8) : ByteArray := ⟨l.toArray⟩
theorem txb_size (l : List UInt8) : (txb l).size = l.length := by simp [txb, ByteArray.size]
theorem txb_nil : txb [] = ⟨#[]⟩ := rfl
theorem txb_append (a b : List UInt8) : txb a ++ txb b = txb (a ++ b) := by unfold txb; rw [ByteArray.mk_append_mk]
theorem txb_extract (l : List UInt8) (i j : Nat) : (txb l).extract i j = txb ((l.drop i).take (j - i)) := by unfold txb; rw [ByteArray.extract_mk]
theorem txb_add (a b : List UInt8) (ha : a.length ≤ 1000000) (hb : b.length ≤ 1000000) (W : World) : (Op.stringOp .add (txb a) (txb b)).run Tryd.prog W = .ok (.string (txb (a ++ b))) W := by
  rw [← txb_append]
  exact run_string_add W (txb a) (txb b) (by rw [txb_size]; omega) (by rw [txb_size]; omega)
theorem txb_cut (l : List UInt8) (i j : Int) (h0 : 0 ≤ i) (hij : i ≤ j) (hj : j ≤ l.length) (W : World) : (Instr.slice 9 (.string (txb l)) (some (.int .i64 i)) (some (.int .i64 j)) none).run Tryd.prog W = .ok (.string (txb ((l.drop i.toNat).take (j.toNat - i.toNat)))) W := by
  rw [run_slice_string (P := Tryd.prog) W 9 (txb l) .i64 .i64 i j Tryd.underlying9 h0 hij (by rw [txb_size]; omega), txb_extract]
theorem txb_upto (l : List UInt8) (j : Int) (h0 : 0 ≤ j) (hj : j ≤ l.length) (W : World) : (Instr.slice 9 (.string (txb l)) none (some (.int .i64 j)) none).run Tryd.prog W = .ok (.string (txb (l.take j.toNat))) W := by
  have h := run_slice_string_h (P := Tryd.prog) (s := txb l) W 9 Tryd.underlying9 .i64 j h0 (by rw [txb_size]; omega)
  rw [h, txb_extract]
  simp
theorem txb_from (l : List UInt8) (i : Int) (h0 : 0 ≤ i) (hi : i ≤ l.length) (W : World) : (Instr.slice 9 (.string (txb l)) (some (.int .i64 i)) none none).run Tryd.prog W = .ok (.string (txb (l.drop i.toNat))) W := by
  have h := run_slice_string_l (P := Tryd.prog) (s := txb l) W 9 Tryd.underlying9 .i64 i h0 (by rw [txb_size]; omega)
  rw [h, txb_extract, txb_size, List.take_of_length_le (by simp)]
theorem txb_at (l : List UInt8) (j : Nat) (h : j < l.length) (W : World) : (Instr.index 9 (.string (txb l)) (.int .i64 (j : Int))).run Tryd.prog W = .ok (.int .u8 (l[j].toNat : Int)) W := by
  have h1 : 0 ≤ (j : Int) ∧ (j : Int) < (txb l).size := by rw [txb_size]; omega
  rw [run_index_string (P := Tryd.prog) W 9 (txb l) .i64 (j : Int) Tryd.underlying9, dif_pos h1]
  rfl
end Go.Proofs.YtdegpchofhnipaaDoor
