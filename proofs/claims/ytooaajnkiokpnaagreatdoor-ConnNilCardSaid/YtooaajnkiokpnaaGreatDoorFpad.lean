/-
  frame's small functions that only look at a frame's numbers, by their contracts: isPadded, ahead, mayPad, size, mayStream, mayLength. Conditions: those that each theorem names.
-/
import Derived.Test.YtooaajnkiokpnaaGreatDoorFm
import Derived.Test.YtooaajnkiokpnaaGreatDoorFmath
import Derived.IntWalk
namespace Go.Proofs.YtooaajnkiokpnaaGreatDoor
open Go.RowKit Go.WideShapes

theorem ne_int {a b : Nat} (h : a ≠ b) : ((a : Int) == (b : Int)) = false := by rw [beq_eq_false_iff_ne]; omega
/-- The types that switches name, and others. -/
theorem kinds (n : Nat) : n = 0 ∨ n = 1 ∨ n = 2 ∨ n = 3 ∨ n = 4 ∨ n = 5 ∨ n = 6 ∨ n = 7 ∨ n = 8 ∨ n = 9 ∨ 9 < n := by omega
theorem others {n : Nat} (h : 9 < n) : ((n : Int) == 0) = false ∧ ((n : Int) == 1) = false ∧ ((n : Int) == 2) = false ∧ ((n : Int) == 3) = false ∧ ((n : Int) == 4) = false ∧ ((n : Int) == 5) = false ∧ ((n : Int) == 6) = false ∧ ((n : Int) == 7) = false ∧ ((n : Int) == 8) = false ∧ ((n : Int) == 9) = false :=
  ⟨ne_int (b := 0) (by omega), ne_int (b := 1) (by omega), ne_int (b := 2) (by omega), ne_int (b := 3) (by omega), ne_int (b := 4) (by omega), ne_int (b := 5) (by omega), ne_int (b := 6) (by omega), ne_int (b := 7) (by omega), ne_int (b := 8) (by omega), ne_int (b := 9) (by omega)⟩
theorem and8 : ∀ b : Fin 256, (bits .and .u8 (b.val : Int) 8) = ((b.val / 8 % 2 * 8 : Nat) : Int) := by decide +kernel
theorem and32 : ∀ b : Fin 256, (bits .and .u8 (b.val : Int) 32) = ((b.val / 32 % 2 * 32 : Nat) : Int) := by decide +kernel
theorem and1 : ∀ b : Fin 256, (bits .and .u8 (b.val : Int) 1) = ((b.val % 2 : Nat) : Int) := by decide +kernel

theorem padByes {ty fl : Nat} (h : ty = 0 ∨ ty = 1 ∨ ty = 5) (hb : fl / 8 % 2 = 1) : padB ty fl = true := decide_eq_true ⟨h, hb⟩
theorem padBno {ty fl : Nat} (h : ¬ ((ty = 0 ∨ ty = 1 ∨ ty = 5) ∧ fl / 8 % 2 = 1)) : padB ty fl = false := decide_eq_false h
theorem leanByes {ty fl : Nat} (h : ty = 2 ∨ ty = 1 ∧ fl / 32 % 2 = 1) : leanB ty fl = true := decide_eq_true h
theorem leanBno {ty fl : Nat} (h : ¬ (ty = 2 ∨ ty = 1 ∧ fl / 32 % 2 = 1)) : leanB ty fl = false := decide_eq_false h
theorem aheadN_le (ty fl : Nat) : aheadN ty fl ≤ 8 := by unfold aheadN; repeat' split
                                                         all_goals omega

attribute [local irreducible] Fm.c
set_option maxRecDepth 100000 in
set_option maxHeartbeats 1000000 in
theorem isPadded_any (x : Fm) (hf : x.fl < 256) (w : World) : Calls Tryz.prog 150 #[.agg x.c] w fun e w' => e = .returned (.bool (padB x.ty x.fl)) ∧ Below w.heap.size w w' := by
  have h8 := and8 ⟨x.fl, hf⟩
  simp only at h8
  obtain ⟨c0, c1, _⟩ := fm_cells (Row.new w 66 x.c)
  have hB : Below w.heap.size w (w.alloc (.cells x.c 66)) := (Below.refl _ _).alloc (Nat.le_refl _) _
  have HB := Lib.hid hB
  clear hB
  by_cases ht : x.ty = 0 ∨ x.ty = 1 ∨ x.ty = 5
  · by_cases hb : x.fl / 8 % 2 = 1
    · rw [padByes ht hb]
      rw [hb] at h8
      rcases ht with ht | ht | ht
      all_goals
        rw [ht] at c0
        go_enter Tryz.func150, Tryz.ntmps150
        go_wp2
        go_ret
        exact ⟨rfl, HB.out⟩
    · have hb0 : x.fl / 8 % 2 = 0 := by omega
      rw [padBno fun h => hb h.2]
      rw [hb0] at h8
      rcases ht with ht | ht | ht
      all_goals
        rw [ht] at c0
        go_enter Tryz.func150, Tryz.ntmps150
        go_wp2
        go_ret
        exact ⟨rfl, HB.out⟩
  · rw [padBno fun h => ht h.1]
    have e0 : ((x.ty : Int) == 0) = false := by rw [beq_eq_false_iff_ne]; omega
    have e1 : ((x.ty : Int) == 1) = false := by rw [beq_eq_false_iff_ne]; omega
    have e5 : ((x.ty : Int) == 5) = false := by rw [beq_eq_false_iff_ne]; omega
    clear ht
    go_enter Tryz.func150, Tryz.ntmps150
    go_wp2
    go_ret
    exact ⟨rfl, HB.out⟩

theorem aheadNlean {ty fl : Nat} (h : leanB ty fl = true) : aheadN ty fl = 5 := by unfold aheadN; rw [if_pos h]
theorem aheadN4 {ty fl : Nat} (h : ty = 3 ∨ ty = 5 ∨ ty = 8) : aheadN ty fl = 4 := by
  unfold aheadN; rw [if_neg (by rw [leanBno (by omega)]; simp), if_pos h]
theorem aheadN8 {ty fl : Nat} (h : ty = 7) : aheadN ty fl = 8 := by
  unfold aheadN; rw [if_neg (by rw [leanBno (by omega)]; simp), if_neg (by omega), if_pos h]
theorem aheadN0 {ty fl : Nat} (h : leanB ty fl = false) (h' : ¬ (ty = 3 ∨ ty = 5 ∨ ty = 8 ∨ ty = 7)) : aheadN ty fl = 0 := by
  unfold aheadN; rw [if_neg (by rw [h]; simp), if_neg (by omega), if_neg (by omega)]

set_option maxRecDepth 100000 in
set_option maxHeartbeats 2000000 in
theorem ahead_any (x : Fm) (hf : x.fl < 256) (w : World) : Calls Tryz.prog 187 #[.agg x.c] w fun e w' => e = .returned (.int .i64 (aheadN x.ty x.fl : Nat)) ∧ Below w.heap.size w w' := by
  have h8 := and32 ⟨x.fl, hf⟩
  simp only at h8
  obtain ⟨c0, c1, _⟩ := fm_cells (Row.new w 66 x.c)
  have hB : Below w.heap.size w (w.alloc (.cells x.c 66)) := (Below.refl _ _).alloc (Nat.le_refl _) _
  have HB := Lib.hid hB
  clear hB
  rcases kinds x.ty with h | h | h | h | h | h | h | h | h | h | h
  · rw [aheadN0 (leanBno (by omega)) (by omega)]
    rw [h] at c0
    clear h8
    go_enter Tryz.func187, Tryz.ntmps187
    go_wp2
    go_ret
    exact ⟨rfl, HB.out⟩
  · by_cases hb : x.fl / 32 % 2 = 1
    · rw [aheadNlean (leanByes (.inr ⟨h, hb⟩))]
      rw [hb] at h8
      rw [h] at c0
      go_enter Tryz.func187, Tryz.ntmps187
      go_wp2
      go_ret
      exact ⟨rfl, HB.out⟩
    · have hb0 : x.fl / 32 % 2 = 0 := by omega
      rw [aheadN0 (leanBno (by omega)) (by omega)]
      rw [hb0] at h8
      rw [h] at c0
      go_enter Tryz.func187, Tryz.ntmps187
      go_wp2
      go_ret
      exact ⟨rfl, HB.out⟩
  · rw [aheadNlean (leanByes (.inl h))]
    rw [h] at c0
    clear h8
    go_enter Tryz.func187, Tryz.ntmps187
    go_wp2
    go_ret
    exact ⟨rfl, HB.out⟩
  · rw [aheadN4 (by omega)]
    rw [h] at c0
    clear h8
    go_enter Tryz.func187, Tryz.ntmps187
    go_wp2
    go_ret
    exact ⟨rfl, HB.out⟩
  · rw [aheadN0 (leanBno (by omega)) (by omega)]
    rw [h] at c0
    clear h8
    go_enter Tryz.func187, Tryz.ntmps187
    go_wp2
    go_ret
    exact ⟨rfl, HB.out⟩
  · rw [aheadN4 (by omega)]
    rw [h] at c0
    clear h8
    go_enter Tryz.func187, Tryz.ntmps187
    go_wp2
    go_ret
    exact ⟨rfl, HB.out⟩
  · rw [aheadN0 (leanBno (by omega)) (by omega)]
    rw [h] at c0
    clear h8
    go_enter Tryz.func187, Tryz.ntmps187
    go_wp2
    go_ret
    exact ⟨rfl, HB.out⟩
  · rw [aheadN8 h]
    rw [h] at c0
    clear h8
    go_enter Tryz.func187, Tryz.ntmps187
    go_wp2
    go_ret
    exact ⟨rfl, HB.out⟩
  · rw [aheadN4 (by omega)]
    rw [h] at c0
    clear h8
    go_enter Tryz.func187, Tryz.ntmps187
    go_wp2
    go_ret
    exact ⟨rfl, HB.out⟩
  · rw [aheadN0 (leanBno (by omega)) (by omega)]
    rw [h] at c0
    clear h8
    go_enter Tryz.func187, Tryz.ntmps187
    go_wp2
    go_ret
    exact ⟨rfl, HB.out⟩
  · rw [aheadN0 (leanBno (by omega)) (by omega)]
    obtain ⟨e0, e1, e2, e3, e4, e5, e6, e7, e8, e9⟩ := others h
    clear h8 h
    go_enter Tryz.func187, Tryz.ntmps187
    go_wp2
    go_ret
    exact ⟨rfl, HB.out⟩

def mayPadB (ty fl : Nat) (pad : Int) : Bool := decide (PadOk ty fl pad)
set_option maxRecDepth 100000 in
set_option maxHeartbeats 2000000 in
theorem mayPad_any (x : Fm) (hf : x.fl < 256) (w : World) : Calls Tryz.prog 185 #[.agg x.c] w fun e w' => e = .returned (.bool (mayPadB x.ty x.fl x.pad)) ∧ Below w.heap.size w w' := by
  have hR := Row.new w 66 x.c
  have hp := isPadded_any x hf
  have HR := Lib.hid hR
  have hB : Below w.heap.size w (w.alloc (.cells x.c 66)) := (Below.refl _ _).alloc (Nat.le_refl _) _
  have HB := Lib.hid hB
  have HF := Lib.hid hf
  clear hB hR hf
  cases hpd : padB x.ty x.fl with
  | false =>
    rw [hpd] at hp
    have hn : ¬ PadP x.ty x.fl := of_decide_eq_false hpd
    have hm : mayPadB x.ty x.fl x.pad = decide (x.pad = -1) := by
      unfold mayPadB PadOk
      simp [hn]
    rw [hm]
    clear hm hn hpd
    go_enter Tryz.func185, Tryz.ntmps185
    go_wp2_with (refine wpList_fm rfl _ rfl rfl HR.out ?_)
    refine (hp _).mono ?_
    rintro e w1 ⟨rfl, hb⟩
    have hR1 := HR.out.below hb HR.out.lt
    obtain ⟨_, _, _, _, c4, _⟩ := fm_cells hR1
    have HB1 := Lib.hid (HB.out.trans (hb.mono HB.out.size))
    clear hb hR1
    go_wp2
    go_ret
    exact ⟨rfl, HB1.out⟩
  | true =>
    rw [hpd] at hp
    have hn : PadP x.ty x.fl := of_decide_eq_true hpd
    have hm : mayPadB x.ty x.fl x.pad = decide (0 ≤ x.pad ∧ x.pad ≤ 255) := by
      unfold mayPadB PadOk
      simp [hn]
    have hcase : (mayPadB x.ty x.fl x.pad = true ∧ decide (0 ≤ x.pad) = true ∧ decide (x.pad ≤ 255) = true) ∨ (mayPadB x.ty x.fl x.pad = false ∧ decide (0 ≤ x.pad) = true ∧ decide (x.pad ≤ 255) = false) ∨ (mayPadB x.ty x.fl x.pad = false ∧ decide (0 ≤ x.pad) = false) := by
      rw [hm]
      by_cases h0 : 0 ≤ x.pad <;> by_cases h1 : x.pad ≤ 255 <;> simp [h0, h1]
    clear hm hn hpd
    rcases hcase with ⟨hm, h0, h1⟩ | ⟨hm, h0, h1⟩ | ⟨hm, h0⟩
    all_goals
      rw [hm]
      clear hm
      go_enter Tryz.func185, Tryz.ntmps185
      go_wp2_with (refine wpList_fm rfl _ rfl rfl HR.out ?_)
      refine (hp _).mono ?_
      rintro e w1 ⟨rfl, hb⟩
      have hR1 := HR.out.below hb HR.out.lt
      obtain ⟨_, _, _, _, c4, _⟩ := fm_cells hR1
      have HB1 := Lib.hid (HB.out.trans (hb.mono HB.out.size))
      clear hb hR1
      go_wp2
      go_ret
      exact ⟨rfl, HB1.out⟩

def sizeOk (x : Fm) : Prop := x.fl < 256 ∧ x.dn ≤ 1000000 ∧ x.sn ≤ 1000000
/-- A test of Go's over a number against another one. -/
theorem eq_int {a b : Nat} (h : a = b) : ((a : Int) == (b : Int)) = true := by rw [h]; simp
theorem boolRet {a b : Bool} (h : a = b) : Ending.returned (.bool a) = .returned (.bool b) := by rw [h]

def mayStreamB (ty st : Nat) : Bool := !wrongB ty st
theorem wrongByes {ty st : Nat} (h : ((ty = 0 ∨ ty = 1 ∨ ty = 2 ∨ ty = 3 ∨ ty = 5 ∨ ty = 9) ∧ st = 0) ∨ ((ty = 4 ∨ ty = 6 ∨ ty = 7) ∧ st ≠ 0)) : wrongB ty st = true := decide_eq_true h
theorem wrongBno {ty st : Nat} (h : ¬ (((ty = 0 ∨ ty = 1 ∨ ty = 2 ∨ ty = 3 ∨ ty = 5 ∨ ty = 9) ∧ st = 0) ∨ ((ty = 4 ∨ ty = 6 ∨ ty = 7) ∧ st ≠ 0))) : wrongB ty st = false := decide_eq_false h
theorem mayStreamB1 {ty st : Nat} (h : ty = 0 ∨ ty = 1 ∨ ty = 2 ∨ ty = 3 ∨ ty = 5 ∨ ty = 9) : mayStreamB ty st = !((st : Int) == 0) := by
  unfold mayStreamB
  by_cases h0 : st = 0
  · rw [wrongByes (by omega), h0]; rfl
  · rw [wrongBno (by omega), show ((st : Int) == 0) = false from ne_int (b := 0) h0]
theorem mayStreamB2 {ty st : Nat} (h : ty = 4 ∨ ty = 6 ∨ ty = 7) : mayStreamB ty st = ((st : Int) == 0) := by
  unfold mayStreamB
  by_cases h0 : st = 0
  · rw [wrongBno (by omega), h0]; rfl
  · rw [wrongByes (by omega), show ((st : Int) == 0) = false from ne_int (b := 0) h0]; rfl
theorem mayStreamB3 {ty st : Nat} (h : ty = 8 ∨ 9 < ty) : mayStreamB ty st = true := by
  unfold mayStreamB
  rw [wrongBno (by omega)]; rfl
set_option maxRecDepth 100000 in
set_option maxHeartbeats 2000000 in
theorem mayStream_any (x : Fm) (w : World) : Calls Tryz.prog 190 #[.agg x.c] w fun e w' => e = .returned (.bool (mayStreamB x.ty x.st)) ∧ Below w.heap.size w w' := by
  obtain ⟨c0, c1, c2, _⟩ := fm_cells (Row.new w 66 x.c)
  have hB : Below w.heap.size w (w.alloc (.cells x.c 66)) := (Below.refl _ _).alloc (Nat.le_refl _) _
  have HB := Lib.hid hB
  clear hB
  by_cases h0 : x.st = 0
  · rw [h0] at c2 ⊢
    rcases kinds x.ty with h | h | h | h | h | h | h | h | h | h | h
    · rw [mayStreamB1 (by omega)]
      rw [h] at c0
      go_enter Tryz.func190, Tryz.ntmps190
      go_wp2
      go_ret
      exact ⟨rfl, HB.out⟩
    · rw [mayStreamB1 (by omega)]
      rw [h] at c0
      go_enter Tryz.func190, Tryz.ntmps190
      go_wp2
      go_ret
      exact ⟨rfl, HB.out⟩
    · rw [mayStreamB1 (by omega)]
      rw [h] at c0
      go_enter Tryz.func190, Tryz.ntmps190
      go_wp2
      go_ret
      exact ⟨rfl, HB.out⟩
    · rw [mayStreamB1 (by omega)]
      rw [h] at c0
      go_enter Tryz.func190, Tryz.ntmps190
      go_wp2
      go_ret
      exact ⟨rfl, HB.out⟩
    · rw [mayStreamB2 (by omega)]
      rw [h] at c0
      go_enter Tryz.func190, Tryz.ntmps190
      go_wp2
      go_ret
      exact ⟨rfl, HB.out⟩
    · rw [mayStreamB1 (by omega)]
      rw [h] at c0
      go_enter Tryz.func190, Tryz.ntmps190
      go_wp2
      go_ret
      exact ⟨rfl, HB.out⟩
    · rw [mayStreamB2 (by omega)]
      rw [h] at c0
      go_enter Tryz.func190, Tryz.ntmps190
      go_wp2
      go_ret
      exact ⟨rfl, HB.out⟩
    · rw [mayStreamB2 (by omega)]
      rw [h] at c0
      go_enter Tryz.func190, Tryz.ntmps190
      go_wp2
      go_ret
      exact ⟨rfl, HB.out⟩
    · rw [mayStreamB3 (by omega)]
      rw [h] at c0
      go_enter Tryz.func190, Tryz.ntmps190
      go_wp2
      go_ret
      exact ⟨rfl, HB.out⟩
    · rw [mayStreamB1 (by omega)]
      rw [h] at c0
      go_enter Tryz.func190, Tryz.ntmps190
      go_wp2
      go_ret
      exact ⟨rfl, HB.out⟩
    · rw [mayStreamB3 (by omega)]
      obtain ⟨e0, e1, e2, e3, e4, e5, e6, e7, e8, e9⟩ := others h
      clear h
      go_enter Tryz.func190, Tryz.ntmps190
      go_wp2
      go_ret
      exact ⟨rfl, HB.out⟩
  · have z1 : ((x.st : Int) == 0) = false := ne_int (b := 0) h0
    have z2 : ((x.st : Int) != 0) = true := by rw [bne, z1]; rfl
    rcases kinds x.ty with h | h | h | h | h | h | h | h | h | h | h
    · rw [mayStreamB1 (by omega), z1]
      rw [h] at c0
      go_enter Tryz.func190, Tryz.ntmps190
      go_wp2
      go_ret
      exact ⟨rfl, HB.out⟩
    · rw [mayStreamB1 (by omega), z1]
      rw [h] at c0
      go_enter Tryz.func190, Tryz.ntmps190
      go_wp2
      go_ret
      exact ⟨rfl, HB.out⟩
    · rw [mayStreamB1 (by omega), z1]
      rw [h] at c0
      go_enter Tryz.func190, Tryz.ntmps190
      go_wp2
      go_ret
      exact ⟨rfl, HB.out⟩
    · rw [mayStreamB1 (by omega), z1]
      rw [h] at c0
      go_enter Tryz.func190, Tryz.ntmps190
      go_wp2
      go_ret
      exact ⟨rfl, HB.out⟩
    · rw [mayStreamB2 (by omega), z1]
      rw [h] at c0
      go_enter Tryz.func190, Tryz.ntmps190
      go_wp2
      go_ret
      exact ⟨rfl, HB.out⟩
    · rw [mayStreamB1 (by omega), z1]
      rw [h] at c0
      go_enter Tryz.func190, Tryz.ntmps190
      go_wp2
      go_ret
      exact ⟨rfl, HB.out⟩
    · rw [mayStreamB2 (by omega), z1]
      rw [h] at c0
      go_enter Tryz.func190, Tryz.ntmps190
      go_wp2
      go_ret
      exact ⟨rfl, HB.out⟩
    · rw [mayStreamB2 (by omega), z1]
      rw [h] at c0
      go_enter Tryz.func190, Tryz.ntmps190
      go_wp2
      go_ret
      exact ⟨rfl, HB.out⟩
    · rw [mayStreamB3 (by omega)]
      rw [h] at c0
      go_enter Tryz.func190, Tryz.ntmps190
      go_wp2
      go_ret
      exact ⟨rfl, HB.out⟩
    · rw [mayStreamB1 (by omega), z1]
      rw [h] at c0
      go_enter Tryz.func190, Tryz.ntmps190
      go_wp2
      go_ret
      exact ⟨rfl, HB.out⟩
    · rw [mayStreamB3 (by omega)]
      obtain ⟨e0, e1, e2, e3, e4, e5, e6, e7, e8, e9⟩ := others h
      clear h
      go_enter Tryz.func190, Tryz.ntmps190
      go_wp2
      go_ret
      exact ⟨rfl, HB.out⟩
end Go.Proofs.YtooaajnkiokpnaaGreatDoor
