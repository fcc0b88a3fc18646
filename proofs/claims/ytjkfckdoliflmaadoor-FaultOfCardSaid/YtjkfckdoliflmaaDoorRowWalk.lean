/-
  FaultRow, by its contract: over every row of faults it answers true, and below what was there nothing has turned. Conditions: the two package-level variables hold what the program's text lays.
-/
import Derived.Test.YtjkfckdoliflmaaDoorRowMath
import Derived.Test.YtjkfckdoliflmaaDoorFixed
import Derived.Laws.Rows
import Derived.IntWalk
namespace Go.Proofs.YtjkfckdoliflmaaDoor
open Go.RowKit Go.Extern.Stop Go.Stop Go.Extern

/-- Block g is one struct of two cells, none frozen. -/
def Two (w : World) (g : Nat) (t : TypeId) (x y : Value) : Prop := w.heap[g]? = some (.cells #[x, y] t (0, 0))
section
variable {w w' : World} {g : Nat} {t : TypeId} {x y : Value}
theorem Two.lt (h : Two w g t x y) : g < w.heap.size := by
  rcases Nat.lt_or_ge g w.heap.size with hl | hg
  · exact hl
  · unfold Two at h; rw [Array.getElem?_eq_none hg] at h; cases h
theorem Two.c0 (h : Two w g t x y) : w.cell? ⟨g, 0, none⟩ = some x := cell_of_row w g 0 #[x, y] t (0, 0) h
theorem Two.c1 (h : Two w g t x y) : w.cell? ⟨g, 1, none⟩ = some y := cell_of_row w g 1 #[x, y] t (0, 0) h
theorem Two.z (h : Two w g t x y) (i : Nat) : w.frozen? ⟨g, i, none⟩ = false := by
  unfold Two at h
  simp [World.frozen?, h]
theorem Two.below {B : Nat} (h : Two w g t x y) (hb : Below B w w') (hg : g < B) : Two w' g t x y := (hb.block g hg).trans h
theorem Two.far (h : Two w g t x y) {p : Addr} (hp : g ≠ p.block) (u : Value) : Two (w.setCell p u) g t x y := (Below.heap_setCell w p u g hp).trans h
theorem Two.set0 (h : Two w g t x y) (u : Value) : Two (w.setCell ⟨g, 0, none⟩ u) g t u y := by
  unfold Two at h ⊢
  simp [World.setCell, Array.getElem?_modify, h]
theorem Two.set1 (h : Two w g t x y) (u : Value) : Two (w.setCell ⟨g, 1, none⟩ u) g t x u := by
  unfold Two at h ⊢
  simp [World.setCell, Array.getElem?_modify, h]
theorem Two.alloc (h : Two w g t x y) (o : Obj) : Two (w.alloc o) g t x y := (Below.heap_alloc w o g h.lt).trans h
theorem Two.new (w : World) {g : Nat} (hg : g = w.heap.size) : Two (w.alloc (.cells #[x, y] t)) g t x y := by subst hg; exact heap_alloc_new w _
end

/-- What the loops keep: memory that was there; the two variables. -/
structure RI (w wr : World) (A B : Int × Int) : Prop where
  below : Below w.heap.size w wr
  a : Two wr w.heap.size 24 (.int .u8 A.1) (.int .u32 A.2)
  b : Two wr (w.heap.size + 1) 24 (.int .u8 B.1) (.int .u32 B.2)

theorem worse_wz (a b : Int × Int) (w : World) :
    Calls Tryd.prog 11 #[.agg #[.int .u8 a.1, .int .u32 a.2], .agg #[.int .u8 b.1, .int .u32 b.2]] w fun e w' => e = .returned (.agg #[.int .u8 (wz a b).1, .int .u32 (wz a b).2]) ∧ Below w.heap.size w w' :=
  (worse_any a.1 a.2 b.1 b.2 w).mono fun e w' ⟨he, hb⟩ => ⟨by rw [he]; unfold wz; split <;> rfl, hb⟩

theorem RI.stepA {w wr w1 : World} {A B A' : Int × Int} (h : RI w wr A B) (hb : Below wr.drew.heap.size wr.drew w1) :
    RI w ((w1.setCell ⟨w.heap.size, 0, none⟩ (.int .u8 A'.1)).setCell ⟨w.heap.size, 1, none⟩ (.int .u32 A'.2)) A' B := by
  have ta : Two w1 _ _ _ _ := Two.below (w := wr.drew) h.a hb h.a.lt
  have tb : Two w1 _ _ _ _ := Two.below (w := wr.drew) h.b hb h.b.lt
  have hs := h.below.size
  exact ⟨((h.below.drew.trans (hb.mono hs)).setCell (Nat.le_refl _) _).setCell (Nat.le_refl _) _, (ta.set0 _).set1 _, (tb.far (by simp) _).far (by simp) _⟩
theorem RI.stepB {w wr w1 : World} {A B B' : Int × Int} (h : RI w wr A B) (hb : Below wr.drew.heap.size wr.drew w1) :
    RI w ((w1.setCell ⟨w.heap.size + 1, 0, none⟩ (.int .u8 B'.1)).setCell ⟨w.heap.size + 1, 1, none⟩ (.int .u32 B'.2)) A B' := by
  have ta : Two w1 _ _ _ _ := Two.below (w := wr.drew) h.a hb h.a.lt
  have tb : Two w1 _ _ _ _ := Two.below (w := wr.drew) h.b hb h.b.lt
  have hs := h.below.size
  exact ⟨((h.below.drew.trans (hb.mono hs)).setCell (Nat.le_succ _) _).setCell (Nat.le_succ _) _, (ta.far (by simp) _).far (by simp) _, (tb.set0 _).set1 _⟩
theorem RI.cellsA {w wr w1 : World} {A B : Int × Int} (h : RI w wr A B) (hb : Below wr.drew.heap.size wr.drew w1) : Two w1 w.heap.size 24 (.int .u8 A.1) (.int .u32 A.2) := Two.below (w := wr.drew) h.a hb h.a.lt
theorem RI.cellsB {w wr w1 : World} {A B : Int × Int} (h : RI w wr A B) (hb : Below wr.drew.heap.size wr.drew w1) : Two w1 (w.heap.size + 1) 24 (.int .u8 B.1) (.int .u32 B.2) := Two.below (w := wr.drew) h.b hb h.b.lt

theorem fromR_succ (F : Nat → Int × Int) (n k : Nat) : fromR F n (k + 1) = wz (F (n - 1 - k)) (fromR F n k) := rfl
theorem RI.on {w wr w1 : World} {A B : Int × Int} (h : RI w wr A B) (hb : Below wr.heap.size wr w1) : RI w w1 A B :=
  ⟨h.below.trans (hb.mono h.below.size), h.a.below hb h.a.lt, h.b.below hb h.b.lt⟩
theorem RI.drew {w wr : World} {A B : Int × Int} (h : RI w wr A B) : RI w wr.drew A B := ⟨h.below.drew, h.a, h.b⟩
theorem RI.alloc {w wr : World} {A B : Int × Int} (h : RI w wr A B) (o : Obj) : RI w (wr.alloc o) A B := ⟨h.below.alloc h.below.size _, h.a.alloc _, h.b.alloc _⟩

/-- The loops' two variables, and the element that is looked at. -/
structure RJ (w wr : World) (A B f : Int × Int) (g : Nat) : Prop where
  i : RI w wr A B
  f : Two wr g 24 (.int .u8 f.1) (.int .u32 f.2)
theorem RJ.on {w wr w1 : World} {A B f : Int × Int} {g : Nat} (h : RJ w wr A B f g) (hb : Below wr.heap.size wr w1) : RJ w w1 A B f g := ⟨h.i.on hb, h.f.below hb h.f.lt⟩
theorem RJ.drew {w wr : World} {A B f : Int × Int} {g : Nat} (h : RJ w wr A B f g) : RJ w wr.drew A B f g := ⟨h.i.drew, h.f⟩

theorem isF_of {a : Int × Int} (h : someB a.1 = true) : isF a := by unfold someB at h; show 1 ≤ a.1 ∧ a.1 ≤ 3; exact of_decide_eq_true h
theorem not_of {a : Int × Int} (h : ¬ isF a) : someB a.1 = false := someB_no h
theorem some_yes {a : Int × Int} (h : someB a.1 = true) (w : World) :
    Calls Tryd.prog 9 #[.agg #[.int .u8 a.1, .int .u32 a.2]] w fun e w' => e = .returned (.bool true) ∧ Below w.heap.size w w' :=
  (some_any a.1 a.2 w).mono fun e w' ⟨he, hw⟩ => ⟨by rw [he, h], hw ▸ (Below.refl _ _).alloc (Nat.le_refl _) _⟩
theorem some_not {a : Int × Int} (h : someB a.1 = false) (w : World) :
    Calls Tryd.prog 9 #[.agg #[.int .u8 a.1, .int .u32 a.2]] w fun e w' => e = .returned (.bool false) ∧ Below w.heap.size w w' :=
  (some_any a.1 a.2 w).mono fun e w' ⟨he, hw⟩ => ⟨by rw [he, h], hw ▸ (Below.refl _ _).alloc (Nat.le_refl _) _⟩
theorem worse_keep {a b : Int × Int} (h : takesB (sc a.1) (sc b.1) a.2 b.2 = false) (w : World) :
    Calls Tryd.prog 11 #[.agg #[.int .u8 a.1, .int .u32 a.2], .agg #[.int .u8 b.1, .int .u32 b.2]] w fun e w' => e = .returned (.agg #[.int .u8 a.1, .int .u32 a.2]) ∧ Below w.heap.size w w' :=
  (worse_any a.1 a.2 b.1 b.2 w).mono fun e w' ⟨he, hb⟩ => ⟨by rw [he, h]; rfl, hb⟩

def ElemsAt (w : World) (A : Option Addr) (n : Nat) (F : Nat → Int × Int) : Prop :=
  ∀ k, k < n → ∃ b off, A = some ⟨b, off, none⟩ ∧ b < w.heap.size ∧ w.cell? ⟨b, off + k * 2, none⟩ = some (.int .u8 (F k).1) ∧ w.cell? ⟨b, off + k * 2 + 1, none⟩ = some (.int .u32 (F k).2)

set_option maxHeartbeats 4000000 in
theorem row_any (A : Option Addr) (n cap : Nat) (F : Nat → Int × Int) (w : World) (hn : n ≤ maxLen) (hE : ElemsAt w A n F) (hF : ∀ i, i < n → 0 ≤ (F i).1) (hG : Glob w) :
    Calls Tryd.prog 4 #[.slice A n cap] w fun e w' => e = .returned (.bool true) ∧ Below w.heap.size w w' := by
  unfold maxLen at hn
  have HE := Lib.hid hE
  have HF := Lib.hid hF
  have HG := Lib.hid hG
  clear hE hF hG
  by_cases hbig : 3000 < n
  · go_enter Tryd.func4, Tryd.ntmps4
    go_wp2_with (go_at_call 5; refine (fixed_any _ HG.out).mono ?_; rintro e w' ⟨rfl, hb⟩)
    go_ret
    exact ⟨rfl, hb⟩
  go_enter Tryd.func4, Tryd.ntmps4
  go_wp2_with (fail)
  go_loopw [14] (fun i wr => ∃ k : Nat, k ≤ n ∧ i = .int .i64 k ∧ RI w wr (fromL F k) (fromR F n k)) (fun i _ => n - (intOf i).toNat)
  case atStart => exact ⟨0, Nat.zero_le _, rfl, ⟨((Below.refl _ _).alloc (Nat.le_refl _) _).alloc (by simp) _, (Two.new w rfl).alloc _, Two.new _ (by simp)⟩⟩
  case round =>
    obtain ⟨k, hk, rfl, hI⟩ := hrel
    have HI := Lib.hid hI
    clear hI
    by_cases hlt : k < n
    · obtain ⟨b, off, rfl, hb, e0, e1⟩ := HE.out k hlt
      have q0 : wr.cell? ⟨b, off + k * 2, none⟩ = some (.int .u8 (F k).1) := (HI.out.below.cell (p := ⟨b, off + k * 2, none⟩) hb).trans e0
      have q1 : wr.cell? ⟨b, off + k * 2 + 1, none⟩ = some (.int .u32 (F k).2) := (HI.out.below.cell (p := ⟨b, off + k * 2 + 1, none⟩) hb).trans e1
      have a0 := HI.out.a.c0
      have a1 := HI.out.a.c1
      clear e0 e1
      go_upto_region 7 with (fail)
      go_cut [5, 14] (fun t5 t14 wc => Value.int .i64 k = t5 ∧ Value.int .i64 k = t14 ∧ RI w wc (fromL F (k + 1)) (fromR F n k))
      case first =>
        go_region_with (go_at_call 11; refine (worse_wz (fromL F k) (F k) _).mono ?_; rintro e w1 ⟨rfl, hb1⟩; have HZ := Lib.hid (HI.out.stepA (A' := fromL F (k + 1)) hb1); have T1 := HI.out.cellsA hb1; have c0 := T1.c0; have c1 := T1.c1; have z0 := T1.z 0; have z1 := T1.z 1; clear T1 hb1)
        all_goals (go_wp2_with fail; go_meet; exact ⟨rfl, rfl, Hid.out (by assumption)⟩)
      case rest =>
        obtain ⟨rfl, rfl, hI2⟩ := hcut
        have HI2 := Lib.hid hI2
        obtain ⟨m, hm⟩ : ∃ m, m = n - 1 - k := ⟨_, rfl⟩
        have hmn : m < n := by omega
        obtain ⟨b', off', he, hb', e0, e1⟩ := HE.out m hmn
        obtain ⟨rfl, rfl⟩ : b = b' ∧ off = off' := by simpa using he
        have q0 : wc.cell? ⟨b, off + m * 2, none⟩ = some (.int .u8 (F m).1) := (hI2.below.cell (p := ⟨b, off + m * 2, none⟩) hb).trans e0
        have q1 : wc.cell? ⟨b, off + m * 2 + 1, none⟩ = some (.int .u32 (F m).2) := (hI2.below.cell (p := ⟨b, off + m * 2 + 1, none⟩) hb).trans e1
        have b0 := hI2.b.c0
        have b1 := hI2.b.c1
        have HM := Lib.hid hm
        have hw2 : IntKind.i64.wrap ((n : Int) - 1 - (k : Int)) = (m : Int) := (IntWalk.i64_in _ (by omega)).trans (by omega)
        have hw1 : IntKind.i64.wrap ((n : Int) - 1) = (n : Int) - 1 := IntWalk.i64_in _ (by omega)
        clear hI2 e0 e1 HI a0 a1 he hm
        go_upto_region 8 with (fail)
        go_region_with (go_at_call 11; refine (worse_wz (F m) (fromR F n k) _).mono ?_; rintro e w1 ⟨rfl, hb1⟩; have HZ := Lib.hid (HI2.out.stepB (B' := wz (F m) (fromR F n k)) hb1); have T1 := HI2.out.cellsB hb1; have c0 := T1.c0; have c1 := T1.c1; have z0 := T1.z 0; have z1 := T1.z 1; clear T1 hb1)
        all_goals
          go_wp2_with fail
          go_roundw
          case rel => exact ⟨k + 1, by omega, by go_num, by rw [fromR_succ, ← HM.out]; exact Hid.out (by assumption)⟩
          case measure => simp [intOf]; omega
    · obtain rfl : k = n := by omega
      have hAB := row_same (F := F) (n := k) HF.out
      obtain ⟨A1, hA⟩ : ∃ a, a = fromL F k := ⟨_, rfl⟩
      obtain ⟨B1, hB⟩ : ∃ a, a = fromR F k k := ⟨_, rfl⟩
      have hkeep : ∀ i, i < k → isF (F i) → takesB (sc A1.1) (sc (F i).1) A1.2 (F i).2 = false := fun i hi h => by rw [hA]; exact row_keeps HF.out hi h
      have hI : RI w wr A1 B1 := by rw [hA, hB]; exact HI.out
      rw [← hA, ← hB] at hAB
      have HAB := Lib.hid hAB
      have HK := Lib.hid hkeep
      have HI' := Lib.hid hI
      clear hI hkeep hAB HI hA hB
      go_wp2_with (fail)
      go_loopw [36] (fun i wx => ∃ j : Nat, j ≤ k ∧ i = .int .i64 j ∧ RI w wx A1 B1) (fun i _ => k - (intOf i).toNat)
      case atStart => exact ⟨0, Nat.zero_le _, rfl, HI'.out⟩
      case round =>
        obtain ⟨j, hj, rfl, hI2⟩ := hrel
        have HI2 := Lib.hid hI2
        clear hI2
        by_cases hlt2 : j < k
        · obtain ⟨b, off, rfl, hb, e0, e1⟩ := HE.out j hlt2
          have q0 : wr.cell? ⟨b, off + j * 2, none⟩ = some (.int .u8 (F j).1) := (HI2.out.below.cell (p := ⟨b, off + j * 2, none⟩) hb).trans e0
          have q1 : wr.cell? ⟨b, off + j * 2 + 1, none⟩ = some (.int .u32 (F j).2) := (HI2.out.below.cell (p := ⟨b, off + j * 2 + 1, none⟩) hb).trans e1
          clear e0 e1
          go_upto_region 13 with (fail)
          have HJ := Lib.hid (⟨HI2.out.alloc _, Two.new wr rfl⟩ : RJ w (wr.alloc (.cells #[.int .u8 (F j).1, .int .u32 (F j).2] 24)) A1 B1 (F j) wr.heap.size)
          clear q0 q1
          go_cut [36, 48] (fun t36 t48 wc => Value.int .i64 j = t36 ∧ Value.bool false = t48 ∧ RI w wc A1 B1)
          case first =>
            by_cases hS : someB (F j).1 = true
            · have hk := HK.out j hlt2 (isF_of hS)
              have HS := Lib.hid (some_yes hS)
              have HW := Lib.hid (worse_keep hk)
              clear hS hk
              go_region_with (first | (go_at_call 9; refine (HS.out _).mono ?_; rintro e w1 ⟨rfl, hb1⟩; have HJ1 := Lib.hid ((HJ.out.drew).on hb1); have a0 := HJ1.out.i.a.c0; have a1 := HJ1.out.i.a.c1; have f0 := HJ1.out.f.c0; have f1 := HJ1.out.f.c1; clear hb1) | (go_at_call 11; refine (HW.out _).mono ?_; rintro e w2 ⟨rfl, hb2⟩; have HJ2 := Lib.hid (HJ1.out.on hb2); have d0 := HJ2.out.i.a.c0; have d1 := HJ2.out.i.a.c1; clear hb2))
              all_goals (go_wp2_with fail; go_meet; exact ⟨rfl, rfl, HJ2.out.i⟩)
            · have HS := Lib.hid (some_not (Bool.eq_false_iff.2 hS))
              clear hS
              go_region_with (first | (go_at_call 9; refine (HS.out _).mono ?_; rintro e w1 ⟨rfl, hb1⟩; have HJ1 := Lib.hid ((HJ.out.drew).on hb1); clear hb1))
              all_goals (go_wp2_with fail; go_meet; exact ⟨rfl, rfl, HJ1.out.i⟩)
          case rest =>
            obtain ⟨rfl, rfl, hI3⟩ := hcut
            have HI3 := Lib.hid hI3
            clear hI3
            go_wp2_with fail
            go_roundw
            case rel => exact ⟨j + 1, by omega, by go_num, HI3.out⟩
            case measure => simp [intOf]; omega
        · go_wp2_with (fail)
          refine (fixed_any _ (HG.out.below HI2.out.below)).mono ?_
          rintro e w1 ⟨rfl, hb1⟩
          have J := HI2.out.on hb1
          have HJ := Lib.hid J
          have a0 := J.a.c0
          have a1 := J.a.c1
          have b0 := J.b.c0
          have b1 := J.b.c1
          clear J hb1
          by_cases hEq : A1 = B1
          · subst hEq
            go_wp2_with (fail)
            go_ret
            exact ⟨rfl, HJ.out.below⟩
          · have nAB := HAB.out.resolve_left hEq
            have HS1 := Lib.hid (some_not (not_of nAB.1))
            have HS2 := Lib.hid (some_not (not_of nAB.2))
            obtain ⟨x1, y1⟩ := A1
            obtain ⟨x2, y2⟩ := B1
            simp only at a0 a1 b0 b1
            have hd : (x1 == x2) = false ∨ (x1 = x2 ∧ (y1 == y2) = false) := by
              by_cases hx : x1 = x2
              · right
                refine ⟨hx, beq_eq_false_iff_ne.2 fun hy => hEq ?_⟩
                rw [hx, hy]
              · left; exact beq_eq_false_iff_ne.2 hx
            clear nAB hEq HI2 HI' HAB HK
            rcases hd with hd | ⟨rfl, hd⟩
            all_goals
              go_wp2_with (fail)
              refine (HS1.out _).mono ?_
              rintro e w2 ⟨rfl, hb2⟩
              have HJ2 := Lib.hid (HJ.out.on hb2)
              have d0 := HJ2.out.b.c0
              have d1 := HJ2.out.b.c1
              simp only at d0 d1
              clear hb2
              go_wp2_with (fail)
              refine (HS2.out _).mono ?_
              rintro e w3 ⟨rfl, hb3⟩
              have HJ3 := Lib.hid (HJ2.out.on hb3)
              clear hb3
              go_wp2_with (fail)
              go_ret
              exact ⟨rfl, HJ3.out.below⟩
end Go.Proofs.YtjkfckdoliflmaaDoor
