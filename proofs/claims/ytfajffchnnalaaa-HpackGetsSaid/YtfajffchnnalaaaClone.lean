/-
  strings.Clone, by its contract: the same text; below what was there nothing has turned. Conditions: at most 2^40 bytes.
-/
import Derived.Test.YtfajffchnnalaaaProg
import Derived.Test.YtfajffchnnalaaaArr
import Derived.Lib.UnsafeStr
import Derived.Lib.BufferWrite
import Derived.Laws.MakeOwn
namespace Go.Proofs.Ytfajffchnnalaaa
open Go.RowKit Go.WideShapes

theorem clone_u8 : ∃ i, Try.prog.info? 5 = some i ∧ i.zero = some (.int .u8 0) ∧ i.size = 1 ∧ i.bytes = 1 := by
  have h : (Try.prog.info? 5).map (fun i => (i.zero, i.size, i.bytes)) = some (some (.int .u8 0), 1, 1) := by kernel_rfl
  cases hi : Try.prog.info? 5 with
  | none => rw [hi] at h; simp at h
  | some i => rw [hi] at h; simp at h; exact ⟨i, rfl, h.1, h.2.1, h.2.2⟩
theorem clone_co : Try.prog.cellsOf 5 = 1 := by kernel_rfl

set_option maxRecDepth 100000 in
set_option maxHeartbeats 1000000 in
theorem slclone_any (l : List UInt8) (hl : l.length ≤ 1099511627776) (w : World) : Calls Try.prog 73 #[.string ⟨l.toArray⟩] w fun e w' => e = .returned (.string ⟨l.toArray⟩) ∧ Below w.heap.size w w' := by
  have hz := show (ByteArray.mk l.toArray).size = l.length by simp [ByteArray.size]
  cases l with
  | nil =>
    go_enter Try.func73, Try.ntmps73
    go_wp2_with fail
    go_ret
    exact ⟨rfl, Below.refl _ _⟩
  | cons b r =>
    obtain ⟨i0, hi, hz0, hz1, hz2⟩ := clone_u8
    have hne : b :: r ≠ [] := by simp
    have h0 : 0 < (b :: r).length := by simp
    generalize b :: r = l at hl hz hne h0 ⊢
    -- the bytes that are made, that are copied
    obtain ⟨M, hM⟩ : ∃ M, M = madeCells (Value.int .u8 0).cells (((l.length : Nat) : Int).toNat * i0.size) := ⟨_, rfl⟩
    have hMs : M.size = l.length := by rw [hM, size_madeCells, hz1]; simp
    have hmk : ∀ W : World, (Instr.makeSlice 38 (.int .i64 (l.length : Int)) (.int .i64 (l.length : Int))).run Try.prog W = .ok (.slice (some ⟨W.heap.size, 0, none⟩) l.length l.length) (W.alloc (.cells M 5)) := fun W => by
      have h := run_make (P := Try.prog) W 38 5 i0 (.int .u8 0) Try.underlying38 hi hz0 .i64 .i64 (l.length : Int) (l.length : Int) (by omega) (by omega) (by rw [hz2]; omega) (by omega)
      rw [← hM] at h
      simpa using h
    clear hM
    have hR0 : Row (w.alloc (.cells M 5)) w.heap.size 5 M := Row.new w 5 M
    have hcp := Lib.run_copy_row_string (P := Try.prog) (w.alloc (.cells M 5)) 38 9 3 5 w.heap.size 0 l.length l.length ⟨l.toArray⟩ M 5 Try.underlying38 (by rw [hi]; simp [hz1]) hR0 (by rw [hz]; exact Nat.le_refl _) (by rw [hz]; omega)
    rw [hz] at hcp
    obtain ⟨Y, hY⟩ : ∃ Y, Y = (M.toList.take 0 ++ Lib.byteCells (ByteArray.mk l.toArray).data.toList ++ M.toList.drop (0 + l.length)).toArray := ⟨_, rfl⟩
    rw [← hY] at hcp
    have hYl : Y.toList = Lib.byteCells l := by
      rw [hY, List.toList_toArray, List.take_zero, List.nil_append, List.drop_of_length_le (by rw [Array.length_toList]; omega), List.append_nil]
    have hYs : Y.size = l.length := by rw [← Array.length_toList, hYl, Lib.byteCells_length]
    have hR1 : Row ((w.alloc (.cells M 5)).setRow w.heap.size Y) w.heap.size 5 Y := hR0.setRow Y
    clear hY
    have hUS := Lib.run_unsafeString_row (P := Try.prog) ((w.alloc (.cells M 5)).setRow w.heap.size Y) 130 3 9 5 Try.underlying130 clone_co w.heap.size Y.size (by unfold World.shape?; rw [show ((w.alloc (.cells M 5)).setRow w.heap.size Y).heap[w.heap.size]? = _ from hR1]) l hne (by omega) (by omega)
      (fun j x hx => by
        rw [add_plain, Nat.zero_add]
        exact hR1.cell (by
          have : Y.toList[j]? = some (.int .u8 x.toNat) := by rw [hYl]; simp [Lib.byteCells, hx]
          simpa using this))
    have hb1 : Below w.heap.size w ((w.alloc (.cells M 5)).setRow w.heap.size Y) := below_setRow ((Below.refl _ w).alloc (Nat.le_refl _) _) _ _ (Nat.le_refl _)
    have HB := Lib.hid (Lib.below_freeze hb1 (p := ⟨w.heap.size, 0, none⟩) (Nat.le_refl _) l.length)
    clear hb1 hR0 hR1 hYs hYl hMs
    have h0i : (0 : Int) < (l.length : Int) := by omega
    have h1 : ((l.length : Int) == 0) = false := by rw [beq_eq_false_iff_ne]; omega
    go_enter Try.func73, Try.ntmps73
    go_wp2_with (simp only [hcp])
    go_ret
    exact ⟨rfl, HB.out⟩

set_option maxRecDepth 100000 in
set_option maxHeartbeats 1000000 in
theorem clone_any (l : List UInt8) (hl : l.length ≤ 1099511627776) (w : World) : Calls Try.prog 60 #[.string ⟨l.toArray⟩] w fun e w' => e = .returned (.string ⟨l.toArray⟩) ∧ Below w.heap.size w w' := by
  have h := slclone_any l hl
  go_enter Try.func60, Try.ntmps60
  go_wp2_with fail
  refine (h _).mono ?_
  rintro e w1 ⟨rfl, hb⟩
  go_wp2_with fail
  go_ret
  exact ⟨rfl, hb⟩
end Go.Proofs.Ytfajffchnnalaaa
