/-
  The program's Find, by its contract. Conditions: a table of at most 2^31 fields.
-/
import Derived.Test.YtfajffchnnalaaaDtab
import Derived.Deep.RegionHeld3
namespace Go.Proofs.Ytfajffchnnalaaa
open Go.RowKit Go.WideShapes

/-- The lowest number with this name among the first k, or the one that was known ahead. -/
def named (a b : List UInt8) (R : List Fd) (k : Nat) : Nat := if fndN a b ≠ 0 then fndN a b else if first (isNT a R) k ≠ 0 then 61 + first (isNT a R) k else 0
theorem named_zero {a b : List UInt8} {R : List Fd} : named a b R 0 = fndN a b := by unfold named; rw [first_zero]; simp; intro h; exact h.symm
theorem named_keep {a b : List UInt8} {R : List Fd} {k : Nat} (h : named a b R k ≠ 0) : named a b R (k + 1) = named a b R k := by
  unfold named at *
  by_cases h1 : fndN a b ≠ 0
  · rw [if_pos h1, if_pos h1]
  · rw [if_neg h1] at h ⊢
    rw [if_neg h1]
    by_cases h2 : first (isNT a R) k ≠ 0
    · rw [first_keep h2]
    · rw [if_neg h2] at h; exact absurd rfl h
theorem named_miss {a b : List UInt8} {R : List Fd} {k : Nat} (h : isNT a R k = false) : named a b R (k + 1) = named a b R k := by unfold named; rw [first_miss h]
theorem named_hit {a b : List UInt8} {R : List Fd} {k : Nat} (h : named a b R k = 0) (h1 : isNT a R k = true) : named a b R (k + 1) = 62 + k := by
  unfold named at *
  by_cases h2 : fndN a b ≠ 0
  · rw [if_pos h2] at h; omega
  · rw [if_neg h2] at h ⊢
    by_cases h3 : first (isNT a R) k ≠ 0
    · rw [if_pos h3] at h; omega
    · rw [first_hit (by omega) h1, if_pos (by omega)]; omega
theorem named_le {a b : List UInt8} {R : List Fd} {k : Nat} : named a b R k ≤ 61 + k := by
  have h1 : fndN a b ≤ 61 := by
    unfold fndN
    have := first_le (p := isB a b) 61
    have := first_le (p := isN a) 61
    split <;> omega
  have h2 := first_le (p := isNT a R) k
  unfold named
  split
  · omega
  · split <;> omega

theorem ret_num {x y : Int} {b : Bool} (h : x = y) : Ending.returned (.tuple #[.int .i64 x, .bool b]) = .returned (.tuple #[.int .i64 y, .bool b]) := by rw [h]

attribute [local irreducible] tot shr sz first fndN fndB isN isB nmL vlL tab named numT hasT isBT isNT

set_option maxRecDepth 100000 in
set_option maxHeartbeats 4000000 in
theorem tfind_any {base g most : Nat} {v : Value} {L : List Fd} {w : World} (a b : List UInt8) (h : Tb w base g v L most) (hL : L.length ≤ 2147483648) :
    Calls Try.prog 39 #[pt g, tx a, tx b] w fun e w' => e = .returned (.tuple #[.int .i64 (numT a b L.reverse : Int), .bool (hasT a b L.reverse)]) ∧ Below w.heap.size w w' := by
  obtain ⟨A, c, rfl, hc1, hc2⟩ := h.shape
  have hf := find_any a b
  unfold pt tx at *
  cases hB : fndB a b with
  | true =>
    have hk := num_known (R := L.reverse) hB
    rw [hB] at hf
    rw [hk.1, hk.2]
    clear hk hB
    generalize fndN a b = n at hf ⊢
    go_enter Try.func39, Try.ntmps39
    go_wp2_with fail
    refine (hf _).mono ?_
    rintro e w1 ⟨rfl, hb1⟩
    go_wp2_with fail
    go_ret2
    exact ⟨rfl, hb1⟩
  | false =>
    rw [hB] at hf
    have HB := Lib.hid hB
    have H0 : Hid (fndN a b = named a b L.reverse 0) := by show _ = _; exact named_zero.symm
    clear hB
    have hle := named_le (a := a) (b := b) (R := L.reverse) (k := 0)
    rw [H0.out] at hf
    have H := Lib.hid h
    clear h H0
    go_enter Try.func39, Try.ntmps39
    go_wp2_with fail
    refine (hf _).mono ?_
    rintro e w1 ⟨rfl, hb1⟩
    have HB1 := Lib.hid hb1
    clear hb1 hf
    go_wp2_with fail
    go_loopw [8, 10] (fun nd ag wr => ∃ (n k : Nat), k ≤ L.length ∧ ag = .int .i64 ((k : Int) + 1) ∧ nd = .int .i64 n ∧ n ≤ 61 + k ∧ Hid (n = named a b L.reverse k) ∧ Hid (first (isBT a b L.reverse) k = 0) ∧ Hid (Below w.heap.size w wr))
      (fun _ ag _ => L.length + 1 - (intOf ag).toNat)
    case atStart => exact ⟨_, 0, Nat.zero_le _, rfl, rfl, by omega, rfl, first_zero, HB1⟩
    case round =>
      clear HB1 hle
      obtain ⟨n, k, hk, rfl, rfl, hn, hN, hM, hW⟩ := hrel
      have hT : Tb wr base g (.slice A L.length c) L most := H.out.below hW.out
      have hln := tlen_any hT.own
      unfold pt at hln
      by_cases hlt : k < L.length
      · obtain ⟨j, hj⟩ : ∃ j, j = L.length - 1 - k := ⟨_, rfl⟩
        have hjl : j < L.length := by omega
        have hRl : k < L.reverse.length := by simpa using hlt
        have hLj : L.reverse[k] = L[j] := by rw [List.getElem_reverse]; simp [hj]
        obtain ⟨bk, q, hA, hbg, f0, f1, f2⟩ := hT.field hjl
        subst hA
        have c0 := hT.own.c0
        have hge : decide ((k : Int) + 1 ≤ (L.length : Int)) = true := by simp; omega
        have hsub : (L.length : Int) - ((k : Int) + 1) = (j : Int) := by omega
        have hwr : IntKind.i64.wrap (j : Int) = (j : Int) := IntWalk.i64_in _ (by omega)
        have hj0 : (0 : Int) ≤ (j : Int) := by omega
        have hj1 : (j : Int) < (L.length : Int) := by omega
        have g1 : wr.heap.size ≠ g := by have := hT.lt; omega
        have g2 : wr.heap.size ≠ bk := by have := World.block_lt_of_cell? _ _ f0; simp at this; omega
        have hNT := isNT_at (a := a) hRl
        have hBT := isBT_at (a := a) (b := b) hRl
        rw [hLj] at hNT hBT
        unfold tx at f0 f1
        generalize L[j].nm = x at f0 hNT hBT
        generalize L[j].vl = y at f1 hBT
        generalize L[j].nv = z at f2
        have HNT := Lib.hid hNT
        have HBT := Lib.hid hBT
        have HS : Hid (w.heap.size ≤ wr.heap.size) := hW.out.size
        clear hNT hBT hLj hj hT
        go_wp2_with fail
        refine hln.mono ?_
        rintro e w2 ⟨rfl, hw2⟩
        subst hw2
        clear hln
        go_wp2_with fail
        go_region_held3 (fun w' => w'.cell? ⟨g, 0, none⟩ = some (.slice (some ⟨bk, q, none⟩) L.length c) ∧ w'.cell? ⟨bk, q + j * 3, none⟩ = some (.string ⟨x.toArray⟩) ∧ w'.cell? ⟨bk, q + j * 3 + 1, none⟩ = some (.string ⟨y.toArray⟩) ∧ w'.cell? ⟨bk, q + j * 3 + 2, none⟩ = some (.bool z)) (go_keep)
          (first | (go_at_call 57; refine (tlen_cell (A := some ⟨bk, q, none⟩) (n := L.length) (c := c) (by (try dsimp only at *); go_split_ands; assumption)).mono ?_; rintro e w' ⟨rfl, rfl⟩))
        all_goals
          have HW3 : Hid (Below w.heap.size w (w2.alloc (.cells #[.string ⟨x.toArray⟩, .string ⟨y.toArray⟩, .bool z] 52)).drew) := (hW.out.alloc HS.out _).drew
          have hR3 : Row (w2.alloc (.cells #[.string ⟨x.toArray⟩, .string ⟨y.toArray⟩, .bool z] 52)).drew w2.heap.size 52 #[.string ⟨x.toArray⟩, .string ⟨y.toArray⟩, .bool z] := Row.new w2 _ _
          have q0 := hR3.cell (j := 0) rfl
          have q1 := hR3.cell (j := 1) rfl
          generalize (w2.alloc (.cells #[.string ⟨x.toArray⟩, .string ⟨y.toArray⟩, .bool z] 52)).drew = w3 at *
          have hln2 := len_any w3
          clear hR3 hW g1 g2 c0 f0 f1 f2
          by_cases hx : x = a
          · have e1 : (x == a) = true := by rw [hx, beq_self_eq_true]
            by_cases hy : y = b
            · have e2 : (y == b) = true := by rw [hy, beq_self_eq_true]
              have hb : isBT a b L.reverse k = true := by rw [HBT.out, hx, hy]; simp
              have hR := num_hit HB.out hRl hM.out hb
              have HR := Lib.hid hR
              clear hx hy hb hR hM hN
              go_wp2_with fail
              refine hln2.mono ?_
              rintro e w4 ⟨rfl, hw4⟩
              subst hw4
              clear hln2
              go_wp2_with fail
              go_ret2
              refine ⟨?_, HW3.out⟩
              rw [HR.out.1, HR.out.2]
              exact ret_num (by omega)
            · have e2 : (y == b) = false := by rw [beq_eq_false_iff_ne]; exact hy
              have hM2 : Hid (first (isBT a b L.reverse) (k + 1) = 0) := by
                show _ = _
                rw [first_miss (by rw [HBT.out]; simp [hy])]
                exact hM.out
              have hnt : isNT a L.reverse k = true := by rw [HNT.out]; simp [hx]
              by_cases hn0 : n = 0
              · have hN2 : Hid (62 + k = named a b L.reverse (k + 1)) := by
                  show _ = _
                  rw [named_hit (by rw [← hN.out]; exact hn0) hnt]
                clear hx hy hnt hM hN
                subst hn0
                go_wp2_with fail
                refine hln2.mono ?_
                rintro e w4 ⟨rfl, hw4⟩
                subst hw4
                clear hln2
                go_wp2_with fail
                go_roundw
                case rel => exact ⟨62 + k, k + 1, by omega, by go_num, by (congr 1; omega), by omega, hN2, hM2, HW3⟩
                case measure => simp [intOf]; omega
              · have hN2 : Hid (n = named a b L.reverse (k + 1)) := by
                  show _ = _
                  rw [named_keep (by rw [← hN.out]; exact hn0)]
                  exact hN.out
                have e3 : ((n : Int) == 0) = false := by rw [beq_eq_false_iff_ne]; omega
                clear hx hy hnt hM hN
                go_wp2_with fail
                refine hln2.mono ?_
                rintro e w4 ⟨rfl, hw4⟩
                subst hw4
                clear hln2
                go_wp2_with fail
                go_roundw
                case rel => exact ⟨n, k + 1, by omega, by go_num, rfl, by omega, hN2, hM2, HW3⟩
                case measure => simp [intOf]; omega
          · have e1 : (x == a) = false := by rw [beq_eq_false_iff_ne]; exact hx
            have hM2 : Hid (first (isBT a b L.reverse) (k + 1) = 0) := by
              show _ = _
              rw [first_miss (by rw [HBT.out]; simp [hx])]
              exact hM.out
            have hN2 : Hid (n = named a b L.reverse (k + 1)) := by
              show _ = _
              rw [named_miss (by rw [HNT.out]; simp [hx])]
              exact hN.out
            clear hx hM hN hln2
            go_wp2_with fail
            go_roundw
            case rel => exact ⟨n, k + 1, by omega, by go_num, rfl, by omega, hN2, hM2, HW3⟩
            case measure => simp [intOf]; omega
      · have hM2 : Hid (first (isBT a b L.reverse) L.reverse.length = 0) := by
          show _ = _
          rw [List.length_reverse, show L.length = k by omega]
          exact hM.out
        have hR := num_named (R := L.reverse) HB.out hM2.out
        have hN2 : Hid (n = numT a b L.reverse ∧ hasT a b L.reverse = false) := by
          show _ ∧ _
          refine ⟨?_, hR.2⟩
          rw [hR.1, hN.out, List.length_reverse, show k = L.length by omega]
          unfold named
          rfl
        clear hR hM2 hN hM
        have hge : decide ((k : Int) + 1 ≤ (L.length : Int)) = false := by simp; omega
        go_wp2_with fail
        refine hln.mono ?_
        rintro e w2 ⟨rfl, rfl⟩
        go_wp2_with fail
        go_ret2
        refine ⟨?_, hW.out⟩
        rw [← hN2.out.1, hN2.out.2]
        rfl

set_option maxRecDepth 100000 in
set_option maxHeartbeats 2000000 in
theorem tfind_nil (a b : List UInt8) (w : World) : Calls Try.prog 39 #[.pointer none, tx a, tx b] w fun e w' => e = .returned (.tuple #[.int .i64 (numT a b [] : Int), .bool (hasT a b [])]) ∧ Below w.heap.size w w' := by
  have hf := find_any a b
  have hn0 : Hid (numT a b [] = fndN a b ∧ hasT a b [] = fndB a b) := by
    show _ ∧ _
    cases hB : fndB a b with
    | true => exact num_known hB
    | false =>
      have := num_named (R := []) hB first_zero
      refine ⟨?_, this.2⟩
      rw [this.1, List.length_nil, first_zero]
      simp
      intro h
      exact h.symm
  unfold tx at *
  rw [hn0.out.1, hn0.out.2]
  clear hn0
  generalize fndN a b = n at hf ⊢
  generalize fndB a b = t at hf ⊢
  cases t with
  | true =>
    go_enter Try.func39, Try.ntmps39
    go_wp2_with fail
    refine (hf _).mono ?_
    rintro e w1 ⟨rfl, hb1⟩
    go_wp2_with fail
    go_ret2
    exact ⟨rfl, hb1⟩
  | false =>
    go_enter Try.func39, Try.ntmps39
    go_wp2_with fail
    refine (hf _).mono ?_
    rintro e w1 ⟨rfl, hb1⟩
    have HB1 := Lib.hid hb1
    clear hb1 hf
    go_wp2_with fail
    go_loopw [8, 10] (fun nd ag wr => ag = .int .i64 1 ∧ nd = .int .i64 n ∧ Hid (Below w.heap.size w wr)) (fun _ _ _ => 0)
    case atStart => exact ⟨rfl, rfl, HB1⟩
    case round =>
      obtain ⟨rfl, rfl, hW⟩ := hrel
      go_wp2_with fail
      refine (nlen_any _).mono ?_
      rintro e w2 ⟨rfl, rfl⟩
      go_wp2_with fail
      go_ret2
      exact ⟨rfl, hW.out⟩
end Go.Proofs.Ytfajffchnnalaaa
