/-
  Bytes turned by a key: bits.RotateLeft32, the program's Turn, the document's, by their contracts. Conditions: that the bytes are read, and how many they may be.
-/
import Derived.Test.YtdegpchofhnipaaDoorInum
import Derived.Laws.BitsAllLaws
import Derived.Deep.RegionHeld3
namespace Go.Proofs.YtdegpchofhnipaaDoor
open Go.RowKit Go.WideShapes

theorem infoI8 : (Tryd.prog.info? 5).map (fun i => (i.zero, i.size, i.bytes)) = some (some (.int .u8 0), 1, 1) := by kernel_rfl
theorem infoI {P : Program} {t : TypeId} {z : Value} {n b : Nat} (h : (P.info? t).map (fun i => (i.zero, i.size, i.bytes)) = some (some z, n, b)) : ∃ i, P.info? t = some i ∧ i.zero = some z ∧ i.size = n ∧ i.bytes = b := by
  cases hi : P.info? t with
  | none => rw [hi] at h; simp at h
  | some i => rw [hi] at h; simp at h; exact ⟨i, rfl, h.1, h.2.1, h.2.2⟩
/-- make([]byte, n). -/
theorem makeI (n : Nat) (h : n ≤ 1099511627776) (W : World) : (Instr.makeSlice 30 (.int .i64 (n : Int)) (.int .i64 (n : Int))).run Tryd.prog W = .ok (.slice (some ⟨W.heap.size, 0, none⟩) n n) (W.alloc (.cells (byc (List.replicate n 0)).toArray 5)) := by
  obtain ⟨i0, hi0, hz0, hz1, hz2⟩ := infoI infoI8
  have h1 := run_make (P := Tryd.prog) W 30 5 i0 (.int .u8 0) Tryd.underlying30 hi0 hz0 .i64 .i64 (n : Int) (n : Int) (by omega) (by omega) (by rw [hz2]; omega) (by omega)
  have h2 : madeCells (Value.int .u8 0).cells (((n : Nat) : Int).toNat * i0.size) = (byc (List.replicate n 0)).toArray := by
    rw [hz1]
    apply Array.toList_inj.1
    show _ = byc (List.replicate n 0)
    apply List.ext_getElem
    · simp [madeCells, byc]
    · intro i h1 h2; simp [madeCells, byc, Nat.mod_one, Value.cells]
  rw [h1, h2]
  rfl

theorem cell_newI (W : World) (t : TypeId) (v : Value) (p : Nat) (h : p = W.heap.size := by rfl) : (W.alloc (.cells #[v] t)).cell? ⟨p, 0, none⟩ = some v := (Row.made W t #[v] h).cell rfl
theorem RdB.ownI {w : World} {base : Nat} {e : TypeId} {A : Option Addr} {c : Nat} {l : List UInt8} (h : OwB w base e (.slice A l.length c) l) : RdB w w.heap.size A l := by
  obtain ⟨A', c', e1, _, _, hr⟩ := h.shape
  injection e1 with e1 _ _
  rw [e1]
  exact hr
theorem and31I : bits .and .u64 8 31 = 8 := by decide
theorem rot_or {k : Nat} (hk : k < 4294967296) : bits .or .u32 ((k : Int) * 256 % 4294967296) ((k : Int) / 16777216) = ((k * 256 % 4294967296 + k / 16777216 : Nat) : Int) := by
  rw [show (k : Int) * 256 % 4294967296 = ((k * 256 % 4294967296 : Nat) : Int) by omega, show (k : Int) / 16777216 = ((k / 16777216 : Nat) : Int) by omega, u32_or_nat _ _ (by omega) (by omega)]
  have h1 : k * 256 % 4294967296 = 2 ^ 8 * (k % 16777216) := by omega
  rw [h1, Nat.two_pow_add_eq_or_of_lt (show k / 16777216 < 2 ^ 8 by omega)]
end Go.Proofs.YtdegpchofhnipaaDoor
