/-
  The chapter's example, as the statements ask it: it answers true; below what was there nothing has turned.
-/
import Derived.Test.YteoneedehfijhaaDadd
import Derived.Test.YteoneedehfijhaaDat
import Derived.Test.YteoneedehfijhaaLit
namespace Go.Proofs.Yteoneedehfijhaa
open Go.RowKit Go.WideShapes

/-- Four letters. -/
def four (k : Nat) : List UInt8 := List.replicate 4 (UInt8.ofNat (97 + k))
def fourF (k : Nat) : Fd := ⟨four k, four k, false⟩
/-- The table behind k of them. -/
def exL : Nat → List Fd
  | 0 => []
  | k + 1 => addL 80 (fourF k) (exL k)
theorem exL_bd : ∀ k, k ≤ 3 → tot (exL k) ≤ 80 ∧ ∀ f ∈ exL k, sz f = 40 := by decide +kernel
theorem exL_len : (exL 3).length = 2 := by decide +kernel
theorem exL_tot : tot (exL 3) = 80 := by decide +kernel
theorem exL_new : ∀ h : (exL 3).length - 1 - 0 < (exL 3).length, ((exL 3)[(exL 3).length - 1 - 0]'h).nm = four 2 ∧ ((exL 3)[(exL 3).length - 1 - 0]'h).vl = four 2 ∧ ((exL 3)[(exL 3).length - 1 - 0]'h).nv = false := by decide +kernel
theorem four_sz (k : Nat) : sz (fourF k) = 40 := rfl
theorem four_two : four 2 = [99, 99, 99, 99] := rfl
theorem exL_zero : exL 0 = [] := rfl
theorem exL_next (k : Nat) : exL (k + 1) = addL 80 (fourF k) (exL k) := rfl
def litC : Array Value := #[tx (four 0), tx (four 1), tx (four 2)]
theorem litC_at {k : Nat} (h : k < 3) : litC[k]? = some (tx (four k)) := by
  match k, h with
  | 0, _ => rfl
  | 1, _ => rfl
  | 2, _ => rfl
theorem tstr5_info : (Try.prog.info? 9).map (fun i => (i.zero, i.size)) = some (some (.string ⟨#[]⟩), 1) := by kernel_rfl
theorem tstr5_parts : ∃ i, Try.prog.info? 9 = some i ∧ i.zero = some (.string ⟨#[]⟩) ∧ i.size = 1 := by
  cases hi : Try.prog.info? 9 with
  | none => have := tstr5_info; rw [hi] at this; simp at this
  | some i => have := tstr5_info; rw [hi] at this; simp at this; exact ⟨i, rfl, this.1, this.2⟩

attribute [local irreducible] tot shr sz addL exL four litC

set_option maxRecDepth 100000 in
set_option maxHeartbeats 4000000 in
theorem fixed_any (w : World) : Calls Try.prog 8 #[] w fun e w' => e = .returned (.bool true) ∧ Below w.heap.size w w' := by
  obtain ⟨i0, hi0, hz0, hs0⟩ := tstr5_parts
  have hnew := new_any 80 (by omega)
  rw [show ((80 : Nat) : Int) = 80 from rfl] at hnew
  unfold pt at hnew
  go_enter Try.func8, Try.ntmps8
  go_wp2_with fail
  refine (hnew _).mono ?_
  rintro e w1 ⟨rfl, hw1⟩
  have hT : Tb w1 w.heap.size w.heap.size (.slice none 0 0) (exL 0) 80 := by rw [hw1, exL_zero]; exact Tb.new w 80 (Nat.le_refl _)
  have hB : Below w.heap.size w w1 := by rw [hw1]; exact (Below.refl _ _).alloc (Nat.le_refl _) _
  have hz : w1.heap.size = w.heap.size + 1 := by rw [hw1]; simp
  clear hw1 hnew
  have HT := Lib.hid (hT.alloc (.cells litC 9))
  have HB := Lib.hid (hB.alloc hB.size (.cells litC 9))
  have HR := Lib.hid (Row.new w1 9 litC)
  have HZ := Lib.hid hz
  clear hT hB hz
  go_wp2_with (refine wpList_buildSlice_is rfl 49 9 3 _ rfl Try.underlying49 i0 hi0 _ hz0 hs0 (by omega) (by omega) litC (by kernel_rfl) ?_)
  generalize w1.alloc (.cells litC 9) = w2 at *
  go_loopw [11] (fun i wr => ∃ (k : Nat) (v : Value), k ≤ 3 ∧ i = .int .i64 k ∧ Hid (Tb wr w.heap.size w.heap.size v (exL k) 80) ∧ Hid (Row wr w1.heap.size 9 litC) ∧ Hid (v.ownBlock ≠ some w1.heap.size) ∧ Hid (Below w.heap.size w wr))
    (fun i _ => 3 - (intOf i).toNat)
  case atStart => exact ⟨0, _, by omega, rfl, HT, HR, by show _ ≠ _; simp [Value.ownBlock], HB⟩
  case round =>
    clear HT HR HB
    obtain ⟨k, v, hk, rfl, hT, hR, hn, hW⟩ := hrel
    have hbd := exL_bd k hk
    by_cases hlt : k < 3
    · have hc := hR.out.cell (litC_at hlt)
      have hadd := add_any (fourF k) (by rw [four_sz]; omega) (by omega) (by omega) (fun f hf => by rw [hbd.2 f hf]; omega) hT.out
      rw [← exL_next] at hadd
      unfold fv pt fourF tx at hadd
      unfold tx at hc
      simp only at hadd
      generalize four k = x at hc hadd
      go_wp2_with fail
      refine hadd.mono ?_
      rintro e w3 ⟨rfl, v3, hT3, hF3, hN3⟩
      have hz1 := HZ.out
      have hR3 := Lib.hid (hF3.row (by omega) (fun e => hn.out e.symm) hR.out)
      have hn3 : Hid (v3.ownBlock ≠ some w1.heap.size) := by
        show _ ≠ _
        rcases hN3 with e | e
        · rw [e]; exact hn.out
        · intro e2
          have h1 := e _ e2
          have h2 := hR.out.lt
          omega
      have hW3 := Lib.hid (hW.out.trans (hF3.below (Nat.le_refl _) (fun j hj => hT.out.lows j hj) hW.out.size))
      have hT3' := Lib.hid hT3
      clear hT3 hF3 hN3 hadd hz1
      go_wp2_with fail
      go_roundw
      case rel => exact ⟨k + 1, v3, by omega, by go_num, hT3', hR3, hn3, hW3⟩
      case measure => simp [intOf]; omega
    · obtain rfl : k = 3 := by omega
      have hlen := exL_len
      obtain ⟨A, c, rfl, _, _⟩ := hT.out.shape
      have h62 := tat_dyn hT.out 0 (by omega) (by omega)
      unfold fv pt at h62
      rw [(exL_new _).1, (exL_new _).2.1, (exL_new _).2.2, four_two, show (62 : Int) + ((0 : Nat) : Int) = 62 from rfl] at h62
      unfold tx at h62
      clear hR hn hbd
      go_wp2_with fail
      refine h62.mono ?_
      rintro e w3 ⟨rfl, hb3⟩
      have hT3 := hT.out.below hb3
      have HW3 := Lib.hid (hW.out.trans (hb3.mono hW.out.size))
      have hT4 := hT3.alloc (.cells #[.string ⟨#[99, 99, 99, 99]⟩, .string ⟨#[99, 99, 99, 99]⟩, .bool false] 32)
      have hR4 := Row.new w3 32 #[.string ⟨#[99, 99, 99, 99]⟩, .string ⟨#[99, 99, 99, 99]⟩, .bool false]
      have h64 := tat_far hT4 64 (by rw [hlen]; omega) (by omega)
      unfold fv0 pt tx at h64
      have HT4 := Lib.hid hT4
      have HR4 := Lib.hid hR4
      clear hT3 hT4 hR4 hb3 h62
      go_wp2_with fail
      refine h64.mono ?_
      rintro e w5 ⟨rfl, hb5⟩
      have hT5 := HT4.out.below hb5
      have hR5 := HR4.out.below hb5 HR4.out.lt
      have HW5 := Lib.hid ((HW3.out.alloc HW3.out.size _).trans (hb5.mono (by simp; have := HW3.out.size; omega)))
      have hT6 := hT5.alloc (.cells #[.string ⟨#[]⟩, .string ⟨#[]⟩, .bool false] 32)
      have hR6 := hR5.alloc (.cells #[.string ⟨#[]⟩, .string ⟨#[]⟩, .bool false] 32)
      have c6 := hR6.cell (j := 0) rfl
      have hsz := tsize_any hT6.own
      have hln := tlen_any hT6.own
      rw [exL_tot] at hsz
      rw [hlen] at hln
      unfold pt at hsz hln
      clear hT5 hR5 hT6 hR6 hb5 h64
      go_wp2_with fail
      refine hsz.mono ?_
      rintro e w6 ⟨rfl, hw6⟩
      subst hw6
      go_wp2_with fail
      refine hln.mono ?_
      rintro e w7 ⟨rfl, hw7⟩
      subst hw7
      go_wp2_with fail
      go_ret
      exact ⟨rfl, HW5.out.alloc HW5.out.size _⟩
end Go.Proofs.Yteoneedehfijhaa
