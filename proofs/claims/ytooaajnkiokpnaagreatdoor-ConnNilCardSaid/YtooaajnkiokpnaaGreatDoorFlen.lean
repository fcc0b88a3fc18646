/-
  frame's mayLength, checkLength, checkGrowth, by their contracts. Conditions: those that each theorem names.
-/
import Derived.Test.YtooaajnkiokpnaaGreatDoorFpad
import Derived.Test.YtooaajnkiokpnaaGreatDoorFerr
namespace Go.Proofs.YtooaajnkiokpnaaGreatDoor
open Go.RowKit Go.WideShapes
attribute [local irreducible] Fm.c

theorem lenByes {ty fl n : Nat} (h : LenP ty fl n) : lenB ty fl n = true := decide_eq_true h
theorem lenBno {ty fl n : Nat} (h : ¬ LenP ty fl n) : lenB ty fl n = false := decide_eq_false h

set_option maxRecDepth 100000 in
set_option maxHeartbeats 4000000 in
theorem mayLength_any (x : Fm) (hf : x.fl < 256) (n : Nat) (hn : n ≤ 1000000) (w : World) : Calls Tryz.prog 217 #[.agg x.c, .int .i64 (n : Int)] w fun e w' => e = .returned (.bool (lenB x.ty x.fl n)) ∧ Below w.heap.size w w' := by
  have HR := Lib.hid (Row.new w 66 x.c)
  have hah := ahead_any x hf
  have h1 := and1 ⟨x.fl, hf⟩
  simp only at h1
  obtain ⟨c0, c1, _⟩ := fm_cells HR.out
  have HB : Hid (Below w.heap.size w (w.alloc (.cells x.c 66))) := (Below.refl _ _).alloc (Nat.le_refl _) _
  rcases kinds x.ty with h | h | h | h | h | h | h | h | h | h | h
  · rw [aheadN0 (leanBno (by omega)) (by omega)] at hah
    rw [h] at c0
    rw [lenByes (by unfold LenP; omega)]
    clear h h1
    go_enter Tryz.func217, Tryz.ntmps217
    go_wp2_with (refine wpList_fm rfl _ rfl rfl HR.out ?_)
    refine (hah _).mono ?_
    rintro e w1 ⟨rfl, hb1⟩
    have HB1 := Lib.hid (HB.out.trans (hb1.mono HB.out.size))
    clear hb1 hah
    go_wp2
    go_ret
    exact ⟨rfl, HB1.out⟩
  · by_cases hb : x.fl / 32 % 2 = 1
    · rw [aheadNlean (leanByes (.inr ⟨h, hb⟩))] at hah
      rw [h] at c0
      by_cases hk : 5 ≤ n
      · rw [lenByes (by unfold LenP; omega)]
        have hk1 : decide ((5 : Int) ≤ (n : Int)) = true := by simp; omega
        clear h h1 hk
        go_enter Tryz.func217, Tryz.ntmps217
        go_wp2_with (refine wpList_fm rfl _ rfl rfl HR.out ?_)
        refine (hah _).mono ?_
        rintro e w1 ⟨rfl, hb1⟩
        have HB1 := Lib.hid (HB.out.trans (hb1.mono HB.out.size))
        clear hb1 hah
        go_wp2
        go_ret
        exact ⟨rfl, HB1.out⟩
      · rw [lenBno (by unfold LenP; omega)]
        have hk1 : decide ((5 : Int) ≤ (n : Int)) = false := by simp; omega
        clear h h1 hk
        go_enter Tryz.func217, Tryz.ntmps217
        go_wp2_with (refine wpList_fm rfl _ rfl rfl HR.out ?_)
        refine (hah _).mono ?_
        rintro e w1 ⟨rfl, hb1⟩
        have HB1 := Lib.hid (HB.out.trans (hb1.mono HB.out.size))
        clear hb1 hah
        go_wp2
        go_ret
        exact ⟨rfl, HB1.out⟩
    · rw [aheadN0 (leanBno (by omega)) (by omega)] at hah
      rw [h] at c0
      rw [lenByes (by unfold LenP; omega)]
      clear h h1
      go_enter Tryz.func217, Tryz.ntmps217
      go_wp2_with (refine wpList_fm rfl _ rfl rfl HR.out ?_)
      refine (hah _).mono ?_
      rintro e w1 ⟨rfl, hb1⟩
      have HB1 := Lib.hid (HB.out.trans (hb1.mono HB.out.size))
      clear hb1 hah
      go_wp2
      go_ret
      exact ⟨rfl, HB1.out⟩
  · rw [aheadNlean (leanByes (.inl h))] at hah
    rw [h] at c0
    by_cases hk : n = 5
    · rw [lenByes (by unfold LenP; omega)]
      have hk1 : ((n : Int) == 5) = true := by rw [hk]; rfl
      clear h h1 hk
      go_enter Tryz.func217, Tryz.ntmps217
      go_wp2_with (refine wpList_fm rfl _ rfl rfl HR.out ?_)
      refine (hah _).mono ?_
      rintro e w1 ⟨rfl, hb1⟩
      have HB1 := Lib.hid (HB.out.trans (hb1.mono HB.out.size))
      clear hb1 hah
      go_wp2
      go_ret
      exact ⟨rfl, HB1.out⟩
    · rw [lenBno (by unfold LenP; omega)]
      have hk1 : ((n : Int) == 5) = false := ne_int (b := 5) hk
      clear h h1 hk
      go_enter Tryz.func217, Tryz.ntmps217
      go_wp2_with (refine wpList_fm rfl _ rfl rfl HR.out ?_)
      refine (hah _).mono ?_
      rintro e w1 ⟨rfl, hb1⟩
      have HB1 := Lib.hid (HB.out.trans (hb1.mono HB.out.size))
      clear hb1 hah
      go_wp2
      go_ret
      exact ⟨rfl, HB1.out⟩
  · rw [aheadN4 (by omega)] at hah
    rw [h] at c0
    by_cases hk : n = 4
    · rw [lenByes (by unfold LenP; omega)]
      have hk1 : ((n : Int) == 4) = true := by rw [hk]; rfl
      clear h h1 hk
      go_enter Tryz.func217, Tryz.ntmps217
      go_wp2_with (refine wpList_fm rfl _ rfl rfl HR.out ?_)
      refine (hah _).mono ?_
      rintro e w1 ⟨rfl, hb1⟩
      have HB1 := Lib.hid (HB.out.trans (hb1.mono HB.out.size))
      clear hb1 hah
      go_wp2
      go_ret
      exact ⟨rfl, HB1.out⟩
    · rw [lenBno (by unfold LenP; omega)]
      have hk1 : ((n : Int) == 4) = false := ne_int (b := 4) hk
      clear h h1 hk
      go_enter Tryz.func217, Tryz.ntmps217
      go_wp2_with (refine wpList_fm rfl _ rfl rfl HR.out ?_)
      refine (hah _).mono ?_
      rintro e w1 ⟨rfl, hb1⟩
      have HB1 := Lib.hid (HB.out.trans (hb1.mono HB.out.size))
      clear hb1 hah
      go_wp2
      go_ret
      exact ⟨rfl, HB1.out⟩
  · rw [h] at c0
    clear hah
    by_cases h6 : n % 6 = 0
    · have h6a : ((n : Int) % 6 == 0) = true := by rw [show (n : Int) % 6 = 0 by omega]; rfl
      by_cases h0 : n = 0
      · rw [lenByes (by unfold LenP; omega)]
        have h0a : ((n : Int) == 0) = true := by rw [h0]; rfl
        clear h h0 h6 h1
        go_enter Tryz.func217, Tryz.ntmps217
        go_wp2
        go_ret
        exact ⟨rfl, HB.out⟩
      · have h0a : ((n : Int) == 0) = false := ne_int (b := 0) h0
        by_cases hb : x.fl % 2 = 1
        · rw [lenBno (by unfold LenP; omega)]
          rw [hb] at h1
          clear h h0 h6 hb
          go_enter Tryz.func217, Tryz.ntmps217
          go_wp2
          go_ret
          exact ⟨rfl, HB.out⟩
        · rw [lenByes (by unfold LenP; omega)]
          rw [show x.fl % 2 = 0 by omega] at h1
          clear h h0 h6 hb
          go_enter Tryz.func217, Tryz.ntmps217
          go_wp2
          go_ret
          exact ⟨rfl, HB.out⟩
    · have h6a : ((n : Int) % 6 == 0) = false := by rw [beq_eq_false_iff_ne]; omega
      rw [lenBno (by unfold LenP; omega)]
      clear h h6 h1
      go_enter Tryz.func217, Tryz.ntmps217
      go_wp2
      go_ret
      exact ⟨rfl, HB.out⟩
  · rw [aheadN4 (by omega)] at hah
    rw [h] at c0
    by_cases hk : 4 ≤ n
    · rw [lenByes (by unfold LenP; omega)]
      have hk1 : decide ((4 : Int) ≤ (n : Int)) = true := by simp; omega
      clear h h1 hk
      go_enter Tryz.func217, Tryz.ntmps217
      go_wp2_with (refine wpList_fm rfl _ rfl rfl HR.out ?_)
      refine (hah _).mono ?_
      rintro e w1 ⟨rfl, hb1⟩
      have HB1 := Lib.hid (HB.out.trans (hb1.mono HB.out.size))
      clear hb1 hah
      go_wp2
      go_ret
      exact ⟨rfl, HB1.out⟩
    · rw [lenBno (by unfold LenP; omega)]
      have hk1 : decide ((4 : Int) ≤ (n : Int)) = false := by simp; omega
      clear h h1 hk
      go_enter Tryz.func217, Tryz.ntmps217
      go_wp2_with (refine wpList_fm rfl _ rfl rfl HR.out ?_)
      refine (hah _).mono ?_
      rintro e w1 ⟨rfl, hb1⟩
      have HB1 := Lib.hid (HB.out.trans (hb1.mono HB.out.size))
      clear hb1 hah
      go_wp2
      go_ret
      exact ⟨rfl, HB1.out⟩
  · rw [h] at c0
    clear hah
    by_cases hk : n = 8
    · rw [lenByes (by unfold LenP; omega)]
      have hk1 : ((n : Int) == 8) = true := by rw [hk]; rfl
      clear h h1 hk
      go_enter Tryz.func217, Tryz.ntmps217
      go_wp2
      go_ret
      exact ⟨rfl, HB.out⟩
    · rw [lenBno (by unfold LenP; omega)]
      have hk1 : ((n : Int) == 8) = false := ne_int (b := 8) hk
      clear h h1 hk
      go_enter Tryz.func217, Tryz.ntmps217
      go_wp2
      go_ret
      exact ⟨rfl, HB.out⟩
  · rw [aheadN8 h] at hah
    rw [h] at c0
    by_cases hk : 8 ≤ n
    · rw [lenByes (by unfold LenP; omega)]
      have hk1 : decide ((8 : Int) ≤ (n : Int)) = true := by simp; omega
      clear h h1 hk
      go_enter Tryz.func217, Tryz.ntmps217
      go_wp2_with (refine wpList_fm rfl _ rfl rfl HR.out ?_)
      refine (hah _).mono ?_
      rintro e w1 ⟨rfl, hb1⟩
      have HB1 := Lib.hid (HB.out.trans (hb1.mono HB.out.size))
      clear hb1 hah
      go_wp2
      go_ret
      exact ⟨rfl, HB1.out⟩
    · rw [lenBno (by unfold LenP; omega)]
      have hk1 : decide ((8 : Int) ≤ (n : Int)) = false := by simp; omega
      clear h h1 hk
      go_enter Tryz.func217, Tryz.ntmps217
      go_wp2_with (refine wpList_fm rfl _ rfl rfl HR.out ?_)
      refine (hah _).mono ?_
      rintro e w1 ⟨rfl, hb1⟩
      have HB1 := Lib.hid (HB.out.trans (hb1.mono HB.out.size))
      clear hb1 hah
      go_wp2
      go_ret
      exact ⟨rfl, HB1.out⟩
  · rw [aheadN4 (by omega)] at hah
    rw [h] at c0
    by_cases hk : n = 4
    · rw [lenByes (by unfold LenP; omega)]
      have hk1 : ((n : Int) == 4) = true := by rw [hk]; rfl
      clear h h1 hk
      go_enter Tryz.func217, Tryz.ntmps217
      go_wp2_with (refine wpList_fm rfl _ rfl rfl HR.out ?_)
      refine (hah _).mono ?_
      rintro e w1 ⟨rfl, hb1⟩
      have HB1 := Lib.hid (HB.out.trans (hb1.mono HB.out.size))
      clear hb1 hah
      go_wp2
      go_ret
      exact ⟨rfl, HB1.out⟩
    · rw [lenBno (by unfold LenP; omega)]
      have hk1 : ((n : Int) == 4) = false := ne_int (b := 4) hk
      clear h h1 hk
      go_enter Tryz.func217, Tryz.ntmps217
      go_wp2_with (refine wpList_fm rfl _ rfl rfl HR.out ?_)
      refine (hah _).mono ?_
      rintro e w1 ⟨rfl, hb1⟩
      have HB1 := Lib.hid (HB.out.trans (hb1.mono HB.out.size))
      clear hb1 hah
      go_wp2
      go_ret
      exact ⟨rfl, HB1.out⟩
  · rw [aheadN0 (leanBno (by omega)) (by omega)] at hah
    rw [h] at c0
    rw [lenByes (by unfold LenP; omega)]
    clear h h1
    go_enter Tryz.func217, Tryz.ntmps217
    go_wp2_with (refine wpList_fm rfl _ rfl rfl HR.out ?_)
    refine (hah _).mono ?_
    rintro e w1 ⟨rfl, hb1⟩
    have HB1 := Lib.hid (HB.out.trans (hb1.mono HB.out.size))
    clear hb1 hah
    go_wp2
    go_ret
    exact ⟨rfl, HB1.out⟩
  · rw [aheadN0 (leanBno (by omega)) (by omega)] at hah
    obtain ⟨e0, e1, e2, e3, e4, e5, e6, e7, e8, e9⟩ := others h
    rw [lenByes (by unfold LenP; omega)]
    clear h h1
    go_enter Tryz.func217, Tryz.ntmps217
    go_wp2_with (refine wpList_fm rfl _ rfl rfl HR.out ?_)
    refine (hah _).mono ?_
    rintro e w1 ⟨rfl, hb1⟩
    have HB1 := Lib.hid (HB.out.trans (hb1.mono HB.out.size))
    clear hb1 hah
    go_wp2
    go_ret
    exact ⟨rfl, HB1.out⟩

/-- An error value, or none: its scope and code. -/
def EV (w : World) (v : Value) (s c : Nat) : Prop := (v = .nilIface ∧ s = 0) ∨ (s ≠ 0 ∧ ∃ g, v = .iface 172 (.pointer (some ⟨g, 0, none⟩)) ∧ Row w g 174 #[.int .u8 (s : Int), .int .u32 (c : Int)])
def lenF (ty fl n : Nat) : Nat := if lenB ty fl n = true then 0 else if ty = 2 then 2 else 1

set_option maxRecDepth 100000 in
set_option maxHeartbeats 1000000 in
theorem checkLength_any (x : Fm) (hf : x.fl < 256) (n : Nat) (hn : n ≤ 1000000) (w : World) : Calls Tryz.prog 192 #[.agg x.c, .int .i64 (n : Int)] w fun e w' => (∃ v, e = .returned v ∧ EV w' v (lenF x.ty x.fl n) 6) ∧ Below w.heap.size w w' := by
  have HR := Lib.hid (Row.new w 66 x.c)
  have hml := mayLength_any x hf n hn
  have HB : Hid (Below w.heap.size w (w.alloc (.cells x.c 66))) := (Below.refl _ _).alloc (Nat.le_refl _) _
  cases hb : lenB x.ty x.fl n with
  | true =>
    rw [hb] at hml
    have hF : lenF x.ty x.fl n = 0 := if_pos hb
    rw [hF]
    clear hF hb
    go_enter Tryz.func192, Tryz.ntmps192
    go_wp2_with (refine wpList_fm rfl _ rfl rfl HR.out ?_)
    refine (hml _).mono ?_
    rintro e w1 ⟨rfl, hb1⟩
    have HB1 := Lib.hid (HB.out.trans (hb1.mono HB.out.size))
    clear hb1 hml
    go_wp2
    go_ret
    exact ⟨⟨_, rfl, .inl ⟨rfl, rfl⟩⟩, HB1.out⟩
  | false =>
    rw [hb] at hml
    by_cases h2 : x.ty = 2
    · have hF : lenF x.ty x.fl n = 2 := by unfold lenF; rw [if_neg (by rw [hb]; simp), if_pos h2]
      rw [hF]
      clear hF hb
      go_enter Tryz.func192, Tryz.ntmps192
      go_wp2_with (refine wpList_fm rfl _ rfl rfl HR.out ?_)
      refine (hml _).mono ?_
      rintro e w1 ⟨rfl, hb1⟩
      have HB1 := Lib.hid (HB.out.trans (hb1.mono HB.out.size))
      obtain ⟨c0, _⟩ := fm_cells (HR.out.below hb1 HR.out.lt)
      rw [h2] at c0
      clear hb1 hml
      go_wp2_with fail
      refine (stream_any _ _).mono ?_
      rintro e w2 ⟨g, rfl, hR2, hb2⟩
      have HB2 := Lib.hid (HB1.out.trans (hb2.mono HB1.out.size))
      have HR2 := Lib.hid hR2
      clear hb2 hR2
      go_wp2
      go_ret
      exact ⟨⟨_, rfl, .inr ⟨by omega, g, rfl, HR2.out⟩⟩, HB2.out⟩
    · have hF : lenF x.ty x.fl n = 1 := by unfold lenF; rw [if_neg (by rw [hb]; simp), if_neg h2]
      rw [hF]
      have e2 : ((x.ty : Int) == 2) = false := ne_int (b := 2) h2
      clear hF hb h2
      go_enter Tryz.func192, Tryz.ntmps192
      go_wp2_with (refine wpList_fm rfl _ rfl rfl HR.out ?_)
      refine (hml _).mono ?_
      rintro e w1 ⟨rfl, hb1⟩
      have HB1 := Lib.hid (HB.out.trans (hb1.mono HB.out.size))
      obtain ⟨c0, _⟩ := fm_cells (HR.out.below hb1 HR.out.lt)
      clear hb1 hml
      go_wp2_with fail
      refine (conn_any _ _).mono ?_
      rintro e w2 ⟨g, rfl, hR2, hb2⟩
      have HB2 := Lib.hid (HB1.out.trans (hb2.mono HB1.out.size))
      have HR2 := Lib.hid hR2
      clear hb2 hR2
      go_wp2
      go_ret
      exact ⟨⟨_, rfl, .inr ⟨by omega, g, rfl, HR2.out⟩⟩, HB2.out⟩

set_option maxRecDepth 100000 in
set_option maxHeartbeats 1000000 in
theorem checkGrowth_any (x : Fm) (w : World) : Calls Tryz.prog 194 #[.agg x.c] w fun e w' => (∃ v, e = .returned v ∧ EV w' v (growN x.ty x.st x.win) 1) ∧ Below w.heap.size w w' := by
  have HR := Lib.hid (Row.new w 66 x.c)
  have HB : Hid (Below w.heap.size w (w.alloc (.cells x.c 66))) := (Below.refl _ _).alloc (Nat.le_refl _) _
  obtain ⟨c0, _, c2, _, _, _, _, _, _, c9, _⟩ := fm_cells HR.out
  by_cases h8 : x.ty = 8
  · by_cases hw : x.win = 0
    · rw [h8] at c0
      rw [hw] at c9
      by_cases hs : x.st = 0
      · have hG : growN x.ty x.st x.win = 1 := by unfold growN; rw [if_pos ⟨h8, hw⟩, if_pos hs]
        rw [hG]
        rw [hs] at c2
        clear hG h8 hw hs
        go_enter Tryz.func194, Tryz.ntmps194
        go_wp2_with fail
        refine (conn_any _ _).mono ?_
        rintro e w2 ⟨g, rfl, hR2, hb2⟩
        have HB2 := Lib.hid (HB.out.trans (hb2.mono HB.out.size))
        have HR2 := Lib.hid hR2
        clear hb2 hR2
        go_wp2
        go_ret
        exact ⟨⟨_, rfl, .inr ⟨by omega, g, rfl, HR2.out⟩⟩, HB2.out⟩
      · have hG : growN x.ty x.st x.win = 2 := by unfold growN; rw [if_pos ⟨h8, hw⟩, if_neg hs]
        rw [hG]
        have hs1 : ((x.st : Int) == 0) = false := ne_int (b := 0) hs
        clear hG h8 hw hs
        go_enter Tryz.func194, Tryz.ntmps194
        go_wp2_with fail
        refine (stream_any _ _).mono ?_
        rintro e w2 ⟨g, rfl, hR2, hb2⟩
        have HB2 := Lib.hid (HB.out.trans (hb2.mono HB.out.size))
        have HR2 := Lib.hid hR2
        clear hb2 hR2
        go_wp2
        go_ret
        exact ⟨⟨_, rfl, .inr ⟨by omega, g, rfl, HR2.out⟩⟩, HB2.out⟩
    · have hG : growN x.ty x.st x.win = 0 := by unfold growN; rw [if_neg (fun h => hw h.2)]
      rw [hG]
      rw [h8] at c0
      have hw1 : ((x.win : Int) != 0) = true := by rw [bne, show ((x.win : Int) == 0) = false from ne_int (b := 0) hw]; rfl
      clear hG h8 hw
      go_enter Tryz.func194, Tryz.ntmps194
      go_wp2
      go_ret
      exact ⟨⟨_, rfl, .inl ⟨rfl, rfl⟩⟩, HB.out⟩
  · have hG : growN x.ty x.st x.win = 0 := by unfold growN; rw [if_neg (fun h => h8 h.1)]
    rw [hG]
    have h81 : ((x.ty : Int) != 8) = true := by rw [bne, show ((x.ty : Int) == 8) = false from ne_int (b := 8) h8]; rfl
    clear hG h8
    go_enter Tryz.func194, Tryz.ntmps194
    go_wp2
    go_ret
    exact ⟨⟨_, rfl, .inl ⟨rfl, rfl⟩⟩, HB.out⟩
end Go.Proofs.YtooaajnkiokpnaaGreatDoor
