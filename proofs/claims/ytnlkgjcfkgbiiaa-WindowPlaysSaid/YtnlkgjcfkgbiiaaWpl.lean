/-
  WindowPlays: the law's walk. Condition: the operations are read.
-/
import Derived.Test.YtnlkgjcfkgbiiaaWfx
import Derived.Test.YtnlkgjcfkgbiiaaWop
import Derived.Test.YtnlkgjcfkgbiiaaWrw
namespace Go.Proofs.Ytnlkgjcfkgbiiaa
open Go.RowKit Go.WideShapes

/-- Blocks of two types are two. -/
theorem Row.ne {w : World} {g g' : Nat} {t t' : TypeId} {cs cs' : Array Value} (h : Row w g t cs) (h' : Row w g' t' cs') (ht : t ≠ t') : g ≠ g' := by
  rintro rfl
  have h2 := h.symm.trans h'
  simp at h2
  exact ht h2.2
/-- The window, and the document's. -/
structure PlW (w wr : World) (g p : Nat) (l : Int) (b : Bool) : Prop where
  r : Row wr g 63 (wnc l (sco b))
  m : Row wr p 27 (rwc l b)
  ok : -2147483648 ≤ l ∧ l ≤ 2147483647
  hb : Below w.heap.size w wr
  gl : w.heap.size ≤ g
  pl : w.heap.size ≤ p
section
variable {w wr w' : World} {g p : Nat} {l l' : Int} {b : Bool}
theorem PlW.below (h : PlW w wr g p l b) (hb : Below wr.heap.size wr w') : PlW w w' g p l b := ⟨h.r.below hb h.r.lt, h.m.below hb h.m.lt, h.ok, h.hb.trans (hb.mono h.hb.size), h.gl, h.pl⟩
theorem PlW.ne (h : PlW w wr g p l b) : g ≠ p := h.r.ne h.m (by decide)
/-- The document's is stored anew, then the window is what that is. -/
theorem PlW.next (h : PlW w wr g p l b) (hr : Row w' g 63 (wnc l' (sco b))) (hf : Fs (fun k => k = g) (wr.setRow p (rwc l' b)) w') (hl : -2147483648 ≤ l' ∧ l' ≤ 2147483647) : PlW w w' g p l' b :=
  ⟨hr, hf.row (fun e => h.ne e.symm) (h.m.setRow _), hl, (below_setRow h.hb p _ h.pl).trans (fs_below hf h.gl (by have := h.hb.size; simpa using this)), h.gl, h.pl⟩
theorem PlW.same (h : PlW w wr g p l b) : PlW w (wr.setRow p (rwc l b)) g p l b := ⟨h.r.setRow' h.ne _, h.m.setRow _, h.ok, below_setRow h.hb p _ h.pl, h.gl, h.pl⟩
end
theorem one_rw (w : World) (l : Int) (b : Bool) : ∃ w', (w.alloc (.cells #[.int .i64 0, .bool false] 27)).setRow w.heap.size (rwc l b) = w' ∧ Row (w.alloc (.cells #[.int .i64 0, .bool false] 27)) w.heap.size 27 (rwc 0 false) ∧ Row w' w.heap.size 27 (rwc l b) ∧ Below w.heap.size w w' := by
  have h1 : Row (w.alloc (.cells #[.int .i64 0, .bool false] 27)) w.heap.size 27 (rwc 0 false) := Row.new w _ _
  exact ⟨_, rfl, h1, h1.setRow _, below_setRow ((Below.refl _ _).alloc (Nat.le_refl _) _) _ _ (by omega)⟩
theorem ft_nrefl (s c : Nat) (w : World) : (binOp .neq 33 (.agg (ftc s c)) (.agg (ftc s c))).run Try.prog w = .ok (.bool false) w := by rw [ft_neq, decide_eq_true rfl, decide_eq_true rfl]; rfl
theorem scN_g (b : Bool) : scN b false = ((sco b : Nat) : Int) := by cases b <;> rfl
theorem scN_s (b : Bool) : scN b true = ((1 : Nat) : Int) := by cases b <;> rfl
theorem sco_le (b : Bool) : sco b ≤ 2 ∧ sco b ≠ 0 := by cases b <;> decide
/-- The code that goes with a scope. -/
def fcd (sc : Nat) : Nat := if sc = 0 then 0 else 3
theorem fcd_0 : fcd 0 = 0 := rfl
theorem fcd_3 {sc : Nat} (h : sc ≠ 0) : fcd sc = 3 := if_neg h
theorem kd_ways (kd : Int) : kd = 0 ∨ kd = 1 ∨ ((kd == 0) = false ∧ (kd == 1) = false) := by
  by_cases h0 : kd = 0
  · exact .inl h0
  by_cases h1 : kd = 1
  · exact .inr (.inl h1)
  exact .inr (.inr ⟨beq_eq_false_iff_ne.2 h0, beq_eq_false_iff_ne.2 h1⟩)
attribute [local irreducible] wnc rwc mtc rmc btw ftc useN halfM usU sco scN fcd
set_option maxRecDepth 100000 in
set_option maxHeartbeats 8000000 in
theorem plays_law {w : World} {A : Option Addr} {c : Nat} {O : List Op10} (hR : RdS w (· < w.heap.size) A (enl oc10 O)) (l0 : Int) (b : Bool) :
    Calls Try.prog 3 #[.int .i64 l0, .bool b, .slice A O.length c] w fun e w' => e = .returned (.bool true) ∧ Below w.heap.size w w' := by
  have HR := Lib.hid hR
  clear hR
  by_cases hlen : 500 < O.length
  · have h' : (500 : Int) < (O.length : Int) := by omega
    clear HR hlen
    go_enter Try.func3, Try.ntmps3
    go_wp2_with fail
    refine (fixed_any _).mono ?_
    rintro e w1 ⟨rfl, hb⟩
    have HB2 := Lib.hid hb
    clear hb
    go_wp2
    go_ret
    exact ⟨rfl, HB2.out⟩
  have h' : decide ((500 : Int) < (O.length : Int)) = false := by simp; omega
  have h500 : O.length ≤ 500 := by omega
  clear hlen
  have HZ : Hid (-2147483648 ≤ btw l0 ∧ btw l0 ≤ 2147483647) := btw_in l0
  have HW := Lib.hid (fun W => wnew_any l0 b W)
  have HM := Lib.hid (fun W => rnew_any l0 b W)
  generalize btw l0 = z at *
  go_enter Try.func3, Try.ntmps3
  go_wp2_with fail
  refine (HW.out _).mono ?_
  rintro e w1 ⟨g, rfl, hr1, hb1, hg1⟩
  have HR1 := Lib.hid hr1
  have HB1 := Lib.hid hb1
  have HG1 := Lib.hid hg1
  clear hr1 hb1 hg1 HW h'
  go_wp2_with fail
  refine (HM.out _).mono ?_
  rintro e w2 ⟨rfl, hb2⟩
  obtain ⟨w3, hw3, t1, t2, t3⟩ := one_rw w2 z b
  have T1 := Lib.hid t1
  have T7 := Lib.hid hw3
  have HI : Hid (PlW w w3 g w2.heap.size z b) := by
    have hb3 := hb2.trans (t3.mono hb2.size)
    exact ⟨HR1.out.below hb3 HR1.out.lt, t2, HZ.out, HB1.out.trans (hb3.mono HB1.out.size), HG1.out, Nat.le_trans HB1.out.size hb2.size⟩
  clear hb2 HR1 HB1 HG1 HM hw3 t1 t2 t3
  go_upto_region 5 with (refine wpList_sw (cs := rwc z b) rfl _ _ rfl rfl rfl T1.out (rw_sz _ _ _ _) (rw_ok _ _) ?_)
  rw [T7.out]
  clear T1 T7
  generalize w2.heap.size = p at *
  go_upto_region 6 with fail
  go_loopw [32] (fun i wr => ∃ (k : Nat) (l : Int), k ≤ O.length ∧ i = .int .i64 k ∧ Hid (PlW w wr g p l b))
    (fun i _ => O.length - (intOf i).toNat)
  case atStart => exact ⟨0, z, Nat.zero_le _, rfl, HI⟩
  case round =>
    clear HI
    obtain ⟨k, l, hk, rfl, HI⟩ := hrel
    by_cases hlt : k < O.length
    · obtain ⟨bb, q, rfl, hb, f0, f1, f2, f3⟩ := (HR.out.below HI.out.hb).op10 hlt
      have hx := O[k].hx
      have hy := O[k].hy
      generalize O[k].kd = kd at *
      generalize O[k].n = n at *
      generalize O[k].x = ox at *
      generalize O[k].y = oy at *
      have HX : Hid (0 ≤ ox ∧ ox ≤ 4294967295) := hx
      have HY : Hid (0 ≤ oy ∧ oy ≤ 4294967295) := hy
      have k0 : (0 : Int) ≤ (k : Int) := by omega
      have k1 : (k : Int) < (O.length : Int) := by omega
      have HO := Lib.hid (Row.new wr 31 #[.int .i64 kd, .int .i64 n, .int .u32 ox, .int .u32 oy])
      have HI1 := Lib.hid (HI.out.below ((Below.refl _ _).alloc (Nat.le_refl _) (.cells #[.int .i64 kd, .int .i64 n, .int .u32 ox, .int .u32 oy] 31)))
      clear hb HI hx hy
      go_upto_region 8 with fail
      clear f0 f1 f2 f3
      generalize wr.alloc (.cells #[.int .i64 kd, .int .i64 n, .int .u32 ox, .int .u32 oy] 31) = w5 at *
      generalize wr.heap.size = po at *
      have HF := row_new0 w5
      have HP12 : Hid (w.heap.size ≤ w5.heap.size) := HI1.out.hb.size
      have HI2 := Lib.hid (HI1.out.below (bel_new0 w5).out)
      have HO2 := Lib.hid (HO.out.below (bel_new0 w5).out HO.out.lt)
      clear HI1 HO
      go_upto_region 10 with fail
      generalize w5.alloc (.cells #[.int .u8 0, .int .u32 0] 33) = w6 at *
      generalize w5.heap.size = p12 at *
      have o0 := HO2.out.cell (j := 0) (v := .int .i64 kd) rfl
      go_upto_block 2 with fail
      go_cut [11] (fun u11 wx => ∃ (l' : Int) (sc : Nat), u11 = .int .i64 (sc : Int) ∧ sc ≤ 2 ∧ Hid (PlW w wx g p l' b) ∧ Hid (Row wx p12 33 (ftc sc (fcd sc))))
      case first =>
        have o1 := HO2.out.cell (j := 1) (v := .int .i64 n) rfl
        have o2 := HO2.out.cell (j := 2) (v := .int .u32 ox) rfl
        have o3 := HO2.out.cell (j := 3) (v := .int .u32 oy) rfl
        have hx := HX.out
        have hy := HY.out
        have hw1 : IntKind.i64.wrap ox = ox := IntWalk.i64_in _ (by omega)
        have hw2 : IntKind.i64.wrap oy = oy := IntWalk.i64_in _ (by omega)
        have hw3 : IntKind.i64.wrap (oy - ox) = oy - ox := IntWalk.i64_in _ (by omega)
        have hl1 := HI2.out.ok.1
        have hl2 := HI2.out.ok.2
        rcases kd_ways kd with rfl | rfl | ⟨e0, e1⟩
        · by_cases hm : mayT l n
          · have hc := fun W => rtake_yes (b := b) HI2.out.ok hm W
            have hd := fun (W : World) (hW : Row W g 63 (wnc l (sco b))) => take_yesw hW ⟨hl1, hl2⟩ hm
            have hnl : -2147483648 ≤ l - n ∧ l - n ≤ 2147483647 := by unfold mayT at hm; omega
            obtain ⟨l2, hl2e⟩ : ∃ l2, l - n = l2 := ⟨_, rfl⟩
            rw [hl2e] at hc hd hnl
            clear hl2e
            have HC := Lib.hid hc
            have HD := Lib.hid hd
            have HNL := Lib.hid hnl
            clear hc hd hm hx hy hl1 hl2 hnl
            go_wp2_with (refine wpList_ld rfl _ rfl rfl HI2.out.m (rw_ok _ _) ?_)
            refine (HC.out _).mono ?_
            rintro e w7 ⟨rfl, hb7⟩
            obtain ⟨w8, hw8, t1, t2, t3⟩ := one_rw w7 l2 b
            have T1 := Lib.hid t1
            have T2 := Lib.hid t2
            have T7 := Lib.hid hw8
            have hb8 := hb7.trans (t3.mono hb7.size)
            have HI3 := Lib.hid (HI2.out.below hb8)
            have HO3 := Lib.hid (HO2.out.below hb8 HO2.out.lt)
            have HF3 := Lib.hid (HF.out.below hb8 HF.out.lt)
            clear hb7 hb8 t1 t2 t3 hw8 HI2 HO2 HF HC
            go_upto_region 17 with (refine wpList_sw (cs := rwc l2 b) rfl _ _ rfl rfl rfl T1.out (rw_sz _ _ _ _) (rw_ok _ _) ?_)
            rw [T7.out]
            clear T1 T7
            generalize w7.heap.size = pn at *
            have HI4 := Lib.hid HI3.out.same
            have HO4 := Lib.hid (HO3.out.setRow' (k := p) (HO3.out.ne HI3.out.m (by decide)) (rwc l2 b))
            have HF4 := Lib.hid (HF3.out.setRow' (k := p) (HF3.out.ne HI3.out.m (by decide)) (rwc l2 b))
            have HG4 := Lib.hid (HI3.out.r.setRow' (k := p) HI3.out.ne (rwc l2 b))
            clear HO3 HF3 o0 o1 o2 o3
            go_upto_region 18 with (first | (refine wpList_ld rfl _ rfl rfl T2.out (rw_ok _ _) ?_) | (refine wpList_sw (cs := rwc l2 b) rfl _ _ rfl rfl rfl HI3.out.m (rw_sz _ _ _ _) (rw_ok _ _) ?_))
            have HN := Lib.hid (fun (w' : World) (hr : Row w' g 63 (wnc l2 (sco b))) (hf : Fs (fun k => k = g) (w8.setRow p (rwc l2 b)) w') => HI3.out.next hr hf HNL.out)
            have HB4 : Hid (Below w.heap.size w (w8.setRow p (rwc l2 b))) := below_setRow HI3.out.hb p _ HI3.out.pl
            clear HI3 T2
            generalize w8.setRow p (rwc l2 b) = w9 at *
            have o1 := HO4.out.cell (j := 1) (v := .int .i64 n) rfl
            go_wp2_with fail
            refine (HD.out _ HG4.out).mono ?_
            rintro e wx ⟨rfl, hr, hf⟩
            have HI5 := Lib.hid (HN.out _ hr hf)
            have HF5 := Lib.hid (hf.row (HF4.out.ne HG4.out (by decide)) HF4.out)
            clear hr hf HI4 HF4 HG4 HO4 HN HB4 HD o1
            go_wp2_with fail
            go_meet
            exact ⟨_, 0, rfl, by omega, HI5, by show Row _ _ _ _; rw [fcd_0]; exact HF5.out⟩
          · have hc := fun W => rtake_no (b := b) hm W
            have hd := fun (W : World) (hW : Row W g 63 (wnc l (sco b))) => take_now hW hm
            have HC := Lib.hid hc
            have HD := Lib.hid hd
            clear hc hd hm hx hy hl1 hl2
            go_wp2_with (refine wpList_ld rfl _ rfl rfl HI2.out.m (rw_ok _ _) ?_)
            refine (HC.out _).mono ?_
            rintro e w7 ⟨rfl, hb7⟩
            obtain ⟨w8, hw8, t1, t2, t3⟩ := one_rw w7 l b
            have T1 := Lib.hid t1
            have T2 := Lib.hid t2
            have T7 := Lib.hid hw8
            have hb8 := hb7.trans (t3.mono hb7.size)
            have HI3 := Lib.hid (HI2.out.below hb8)
            have HO3 := Lib.hid (HO2.out.below hb8 HO2.out.lt)
            have HF3 := Lib.hid (HF.out.below hb8 HF.out.lt)
            clear hb7 hb8 t1 t2 t3 hw8 HI2 HO2 HF HC
            go_upto_region 17 with (refine wpList_sw (cs := rwc l b) rfl _ _ rfl rfl rfl T1.out (rw_sz _ _ _ _) (rw_ok _ _) ?_)
            rw [T7.out]
            clear T1 T7
            generalize w7.heap.size = pn at *
            have HI4 := Lib.hid HI3.out.same
            have HO4 := Lib.hid (HO3.out.setRow' (k := p) (HO3.out.ne HI3.out.m (by decide)) (rwc l b))
            have HF4 := Lib.hid (HF3.out.setRow' (k := p) (HF3.out.ne HI3.out.m (by decide)) (rwc l b))
            have HG4 := Lib.hid (HI3.out.r.setRow' (k := p) HI3.out.ne (rwc l b))
            clear HO3 HF3 o0 o1 o2 o3
            go_upto_region 18 with (first | (refine wpList_ld rfl _ rfl rfl T2.out (rw_ok _ _) ?_) | (refine wpList_sw (cs := rwc l b) rfl _ _ rfl rfl rfl HI3.out.m (rw_sz _ _ _ _) (rw_ok _ _) ?_))
            have HN := Lib.hid (fun (w' : World) (hr : Row w' g 63 (wnc l (sco b))) (hf : Fs (fun k => k = g) (w8.setRow p (rwc l b)) w') => HI3.out.next hr hf HI3.out.ok)
            have HB4 : Hid (Below w.heap.size w (w8.setRow p (rwc l b))) := below_setRow HI3.out.hb p _ HI3.out.pl
            clear HI3 T2
            generalize w8.setRow p (rwc l b) = w9 at *
            have o1 := HO4.out.cell (j := 1) (v := .int .i64 n) rfl
            go_wp2_with fail
            refine (HD.out _ HG4.out).mono ?_
            rintro e wx ⟨rfl, rfl⟩
            have HI5 := HI4
            have HF5 := HF4
            clear HI4 HF4 HG4 HO4 HN HB4 HD o1
            go_wp2_with fail
            go_meet
            exact ⟨_, 0, rfl, by omega, HI5, by show Row _ _ _ _; rw [fcd_0]; exact HF5.out⟩
        · by_cases hm : 2147483647 < l + ox
          · have hc := fun W => rgrow_no (b := b) HI2.out.ok (n := ox) (by omega) false hm W
            have hd := fun (W : World) (hW : Row W g 63 (wnc l (sco b))) => grow_now hW ⟨hl1, hl2⟩ hx hm
            rw [scN_g b] at hc
            have HC := Lib.hid hc
            have HD := Lib.hid hd
            clear hc hd hm hx hy hl1 hl2
            go_wp2_with (refine wpList_ld rfl _ rfl rfl HI2.out.m (rw_ok _ _) ?_)
            refine (HC.out _).mono ?_
            rintro e w7 ⟨rfl, hb7⟩
            obtain ⟨w8, hw8, t1, t2, t3⟩ := one_rw w7 l b
            have T1 := Lib.hid t1
            have T2 := Lib.hid t2
            have T7 := Lib.hid hw8
            have hb8 := hb7.trans (t3.mono hb7.size)
            have HI3 := Lib.hid (HI2.out.below hb8)
            have HO3 := Lib.hid (HO2.out.below hb8 HO2.out.lt)
            have HF3 := Lib.hid (HF.out.below hb8 HF.out.lt)
            clear hb7 hb8 t1 t2 t3 hw8 HI2 HO2 HF HC
            go_upto_region 22 with (refine wpList_sw (cs := rwc l b) rfl _ _ rfl rfl rfl T1.out (rw_sz _ _ _ _) (rw_ok _ _) ?_)
            rw [T7.out]
            clear T1 T7
            generalize w7.heap.size = pn at *
            have HI4 := Lib.hid HI3.out.same
            have HO4 := Lib.hid (HO3.out.setRow' (k := p) (HO3.out.ne HI3.out.m (by decide)) (rwc l b))
            have HF4 := Lib.hid (HF3.out.setRow' (k := p) (HF3.out.ne HI3.out.m (by decide)) (rwc l b))
            have HG4 := Lib.hid (HI3.out.r.setRow' (k := p) HI3.out.ne (rwc l b))
            clear HO3 HF3 o0 o1 o2 o3
            go_upto_region 23 with (first | (refine wpList_ld rfl _ rfl rfl T2.out (rw_ok _ _) ?_) | (refine wpList_sw (cs := rwc l b) rfl _ _ rfl rfl rfl HI3.out.m (rw_sz _ _ _ _) (rw_ok _ _) ?_))
            have HN := Lib.hid (fun (w' : World) (hr : Row w' g 63 (wnc l (sco b))) (hf : Fs (fun k => k = g) (w8.setRow p (rwc l b)) w') => HI3.out.next hr hf HI3.out.ok)
            have HB4 : Hid (Below w.heap.size w (w8.setRow p (rwc l b))) := below_setRow HI3.out.hb p _ HI3.out.pl
            clear HI3 T2
            generalize w8.setRow p (rwc l b) = w9 at *
            have o2 := HO4.out.cell (j := 2) (v := .int .u32 ox) rfl
            go_wp2_with fail
            refine (HD.out _ HG4.out).mono ?_
            rintro e wx ⟨rfl, hb⟩
            have HI5 := Lib.hid (HI4.out.below hb)
            have HF5 := Lib.hid (HF4.out.below hb HF4.out.lt)
            clear hb HI4 HF4 HG4 HO4 HN HB4 HD o2
            have HNF := Lib.hid (HF5.out.ne HI5.out.r (by decide))
            have HNM := Lib.hid (HF5.out.ne HI5.out.m (by decide))
            have HI6 : Hid (PlW w (wx.setRow p12 (ftc (sco b) 3)) g p l b) := ⟨HI5.out.r.setRow' (fun e => HNF.out e.symm) _, HI5.out.m.setRow' (fun e => HNM.out e.symm) _, HI5.out.ok, below_setRow HI5.out.hb _ _ HP12.out, HI5.out.gl, HI5.out.pl⟩
            have HF6 := Lib.hid (HF5.out.setRow (ftc (sco b) 3))
            go_wp2_with (refine wpList_sw (cs := ftc (sco b) 3) rfl _ _ rfl rfl rfl HF5.out (ft_sz _ _ _ _) (ft_ok _ _) ?_)
            clear HI5 HF5 HNF HNM
            generalize wx.setRow p12 (ftc (sco b) 3) = wy at *
            go_meet
            exact ⟨_, sco b, rfl, (sco_le b).1, HI6, by show Row _ _ _ _; rw [fcd_3 (sco_le b).2]; exact HF6.out⟩
          · have hc := fun W => rgrow_yes (b := b) HI2.out.ok (n := ox) (by omega) false hm W
            have hd := fun (W : World) (hW : Row W g 63 (wnc l (sco b))) => grow_yesw hW ⟨hl1, hl2⟩ hx hm
            have hnl : -2147483648 ≤ (max (l + ox) (-2147483648)) ∧ (max (l + ox) (-2147483648)) ≤ 2147483647 := by omega
            generalize (max (l + ox) (-2147483648)) = l2 at *
            have HC := Lib.hid hc
            have HD := Lib.hid hd
            have HNL := Lib.hid hnl
            clear hc hd hm hx hy hl1 hl2 hnl
            go_wp2_with (refine wpList_ld rfl _ rfl rfl HI2.out.m (rw_ok _ _) ?_)
            refine (HC.out _).mono ?_
            rintro e w7 ⟨rfl, hb7⟩
            obtain ⟨w8, hw8, t1, t2, t3⟩ := one_rw w7 l2 b
            have T1 := Lib.hid t1
            have T2 := Lib.hid t2
            have T7 := Lib.hid hw8
            have hb8 := hb7.trans (t3.mono hb7.size)
            have HI3 := Lib.hid (HI2.out.below hb8)
            have HO3 := Lib.hid (HO2.out.below hb8 HO2.out.lt)
            have HF3 := Lib.hid (HF.out.below hb8 HF.out.lt)
            clear hb7 hb8 t1 t2 t3 hw8 HI2 HO2 HF HC
            go_upto_region 22 with (refine wpList_sw (cs := rwc l2 b) rfl _ _ rfl rfl rfl T1.out (rw_sz _ _ _ _) (rw_ok _ _) ?_)
            rw [T7.out]
            clear T1 T7
            generalize w7.heap.size = pn at *
            have HI4 := Lib.hid HI3.out.same
            have HO4 := Lib.hid (HO3.out.setRow' (k := p) (HO3.out.ne HI3.out.m (by decide)) (rwc l2 b))
            have HF4 := Lib.hid (HF3.out.setRow' (k := p) (HF3.out.ne HI3.out.m (by decide)) (rwc l2 b))
            have HG4 := Lib.hid (HI3.out.r.setRow' (k := p) HI3.out.ne (rwc l2 b))
            clear HO3 HF3 o0 o1 o2 o3
            go_upto_region 23 with (first | (refine wpList_ld rfl _ rfl rfl T2.out (rw_ok _ _) ?_) | (refine wpList_sw (cs := rwc l2 b) rfl _ _ rfl rfl rfl HI3.out.m (rw_sz _ _ _ _) (rw_ok _ _) ?_))
            have HN := Lib.hid (fun (w' : World) (hr : Row w' g 63 (wnc l2 (sco b))) (hf : Fs (fun k => k = g) (w8.setRow p (rwc l2 b)) w') => HI3.out.next hr hf HNL.out)
            have HB4 : Hid (Below w.heap.size w (w8.setRow p (rwc l2 b))) := below_setRow HI3.out.hb p _ HI3.out.pl
            clear HI3 T2
            generalize w8.setRow p (rwc l2 b) = w9 at *
            have o2 := HO4.out.cell (j := 2) (v := .int .u32 ox) rfl
            go_wp2_with fail
            refine (HD.out _ HG4.out).mono ?_
            rintro e wx ⟨rfl, hr, hf⟩
            have HI5 := Lib.hid (HN.out _ hr hf)
            have HF5 := Lib.hid (hf.row (HF4.out.ne HG4.out (by decide)) HF4.out)
            clear hr hf HI4 HF4 HG4 HO4 HN HB4 HD o2
            have HNF := Lib.hid (HF5.out.ne HI5.out.r (by decide))
            have HNM := Lib.hid (HF5.out.ne HI5.out.m (by decide))
            have HI6 : Hid (PlW w (wx.setRow p12 (ftc 0 0)) g p l2 b) := ⟨HI5.out.r.setRow' (fun e => HNF.out e.symm) _, HI5.out.m.setRow' (fun e => HNM.out e.symm) _, HI5.out.ok, below_setRow HI5.out.hb _ _ HP12.out, HI5.out.gl, HI5.out.pl⟩
            have HF6 := Lib.hid (HF5.out.setRow (ftc 0 0))
            go_wp2_with (refine wpList_sw (cs := ftc 0 0) rfl _ _ rfl rfl rfl HF5.out (ft_sz _ _ _ _) (ft_ok _ _) ?_)
            clear HI5 HF5 HNF HNM
            generalize wx.setRow p12 (ftc 0 0) = wy at *
            go_meet
            exact ⟨_, 0, rfl, by omega, HI6, by show Row _ _ _ _; rw [fcd_0]; exact HF6.out⟩
        · by_cases hm : 2147483647 < l + (oy - ox)
          · have hc := fun W => rgrow_no (b := b) HI2.out.ok (n := (oy - ox)) (by omega) true hm W
            have hd := fun (W : World) (hW : Row W g 63 (wnc l (sco b))) => shift_no hW ⟨hl1, hl2⟩ hx hy hm
            rw [scN_s b] at hc
            have HC := Lib.hid hc
            have HD := Lib.hid hd
            clear hc hd hm hx hy hl1 hl2
            go_wp2_with (refine wpList_ld rfl _ rfl rfl HI2.out.m (rw_ok _ _) ?_)
            refine (HC.out _).mono ?_
            rintro e w7 ⟨rfl, hb7⟩
            obtain ⟨w8, hw8, t1, t2, t3⟩ := one_rw w7 l b
            have T1 := Lib.hid t1
            have T2 := Lib.hid t2
            have T7 := Lib.hid hw8
            have hb8 := hb7.trans (t3.mono hb7.size)
            have HI3 := Lib.hid (HI2.out.below hb8)
            have HO3 := Lib.hid (HO2.out.below hb8 HO2.out.lt)
            have HF3 := Lib.hid (HF.out.below hb8 HF.out.lt)
            clear hb7 hb8 t1 t2 t3 hw8 HI2 HO2 HF HC
            go_upto_region 12 with (refine wpList_sw (cs := rwc l b) rfl _ _ rfl rfl rfl T1.out (rw_sz _ _ _ _) (rw_ok _ _) ?_)
            rw [T7.out]
            clear T1 T7
            generalize w7.heap.size = pn at *
            have HI4 := Lib.hid HI3.out.same
            have HO4 := Lib.hid (HO3.out.setRow' (k := p) (HO3.out.ne HI3.out.m (by decide)) (rwc l b))
            have HF4 := Lib.hid (HF3.out.setRow' (k := p) (HF3.out.ne HI3.out.m (by decide)) (rwc l b))
            have HG4 := Lib.hid (HI3.out.r.setRow' (k := p) HI3.out.ne (rwc l b))
            clear HO3 HF3 o0 o1 o2 o3
            go_upto_region 13 with (first | (refine wpList_ld rfl _ rfl rfl T2.out (rw_ok _ _) ?_) | (refine wpList_sw (cs := rwc l b) rfl _ _ rfl rfl rfl HI3.out.m (rw_sz _ _ _ _) (rw_ok _ _) ?_))
            have HN := Lib.hid (fun (w' : World) (hr : Row w' g 63 (wnc l (sco b))) (hf : Fs (fun k => k = g) (w8.setRow p (rwc l b)) w') => HI3.out.next hr hf HI3.out.ok)
            have HB4 : Hid (Below w.heap.size w (w8.setRow p (rwc l b))) := below_setRow HI3.out.hb p _ HI3.out.pl
            clear HI3 T2
            generalize w8.setRow p (rwc l b) = w9 at *
            have o2 := HO4.out.cell (j := 2) (v := .int .u32 ox) rfl
            have o3 := HO4.out.cell (j := 3) (v := .int .u32 oy) rfl
            go_wp2_with fail
            refine (HD.out _ HG4.out).mono ?_
            rintro e wx ⟨rfl, hb⟩
            have HI5 := Lib.hid (HI4.out.below hb)
            have HF5 := Lib.hid (HF4.out.below hb HF4.out.lt)
            clear hb HI4 HF4 HG4 HO4 HN HB4 HD o2 o3
            have HNF := Lib.hid (HF5.out.ne HI5.out.r (by decide))
            have HNM := Lib.hid (HF5.out.ne HI5.out.m (by decide))
            have HI6 : Hid (PlW w (wx.setRow p12 (ftc 1 3)) g p l b) := ⟨HI5.out.r.setRow' (fun e => HNF.out e.symm) _, HI5.out.m.setRow' (fun e => HNM.out e.symm) _, HI5.out.ok, below_setRow HI5.out.hb _ _ HP12.out, HI5.out.gl, HI5.out.pl⟩
            have HF6 := Lib.hid (HF5.out.setRow (ftc 1 3))
            go_wp2_with (refine wpList_sw (cs := ftc 1 3) rfl _ _ rfl rfl rfl HF5.out (ft_sz _ _ _ _) (ft_ok _ _) ?_)
            clear HI5 HF5 HNF HNM
            generalize wx.setRow p12 (ftc 1 3) = wy at *
            go_meet
            exact ⟨_, 1, rfl, by omega, HI6, by show Row _ _ _ _; rw [fcd_3 (by decide)]; exact HF6.out⟩
          · have hc := fun W => rgrow_yes (b := b) HI2.out.ok (n := (oy - ox)) (by omega) true hm W
            have hd := fun (W : World) (hW : Row W g 63 (wnc l (sco b))) => shift_yes hW ⟨hl1, hl2⟩ hx hy hm
            have hnl : -2147483648 ≤ (max (l + (oy - ox)) (-2147483648)) ∧ (max (l + (oy - ox)) (-2147483648)) ≤ 2147483647 := by omega
            generalize (max (l + (oy - ox)) (-2147483648)) = l2 at *
            have HC := Lib.hid hc
            have HD := Lib.hid hd
            have HNL := Lib.hid hnl
            clear hc hd hm hx hy hl1 hl2 hnl
            go_wp2_with (refine wpList_ld rfl _ rfl rfl HI2.out.m (rw_ok _ _) ?_)
            refine (HC.out _).mono ?_
            rintro e w7 ⟨rfl, hb7⟩
            obtain ⟨w8, hw8, t1, t2, t3⟩ := one_rw w7 l2 b
            have T1 := Lib.hid t1
            have T2 := Lib.hid t2
            have T7 := Lib.hid hw8
            have hb8 := hb7.trans (t3.mono hb7.size)
            have HI3 := Lib.hid (HI2.out.below hb8)
            have HO3 := Lib.hid (HO2.out.below hb8 HO2.out.lt)
            have HF3 := Lib.hid (HF.out.below hb8 HF.out.lt)
            clear hb7 hb8 t1 t2 t3 hw8 HI2 HO2 HF HC
            go_upto_region 12 with (refine wpList_sw (cs := rwc l2 b) rfl _ _ rfl rfl rfl T1.out (rw_sz _ _ _ _) (rw_ok _ _) ?_)
            rw [T7.out]
            clear T1 T7
            generalize w7.heap.size = pn at *
            have HI4 := Lib.hid HI3.out.same
            have HO4 := Lib.hid (HO3.out.setRow' (k := p) (HO3.out.ne HI3.out.m (by decide)) (rwc l2 b))
            have HF4 := Lib.hid (HF3.out.setRow' (k := p) (HF3.out.ne HI3.out.m (by decide)) (rwc l2 b))
            have HG4 := Lib.hid (HI3.out.r.setRow' (k := p) HI3.out.ne (rwc l2 b))
            clear HO3 HF3 o0 o1 o2 o3
            go_upto_region 13 with (first | (refine wpList_ld rfl _ rfl rfl T2.out (rw_ok _ _) ?_) | (refine wpList_sw (cs := rwc l2 b) rfl _ _ rfl rfl rfl HI3.out.m (rw_sz _ _ _ _) (rw_ok _ _) ?_))
            have HN := Lib.hid (fun (w' : World) (hr : Row w' g 63 (wnc l2 (sco b))) (hf : Fs (fun k => k = g) (w8.setRow p (rwc l2 b)) w') => HI3.out.next hr hf HNL.out)
            have HB4 : Hid (Below w.heap.size w (w8.setRow p (rwc l2 b))) := below_setRow HI3.out.hb p _ HI3.out.pl
            clear HI3 T2
            generalize w8.setRow p (rwc l2 b) = w9 at *
            have o2 := HO4.out.cell (j := 2) (v := .int .u32 ox) rfl
            have o3 := HO4.out.cell (j := 3) (v := .int .u32 oy) rfl
            go_wp2_with fail
            refine (HD.out _ HG4.out).mono ?_
            rintro e wx ⟨rfl, hr, hf⟩
            have HI5 := Lib.hid (HN.out _ hr hf)
            have HF5 := Lib.hid (hf.row (HF4.out.ne HG4.out (by decide)) HF4.out)
            clear hr hf HI4 HF4 HG4 HO4 HN HB4 HD o2 o3
            have HNF := Lib.hid (HF5.out.ne HI5.out.r (by decide))
            have HNM := Lib.hid (HF5.out.ne HI5.out.m (by decide))
            have HI6 : Hid (PlW w (wx.setRow p12 (ftc 0 0)) g p l2 b) := ⟨HI5.out.r.setRow' (fun e => HNF.out e.symm) _, HI5.out.m.setRow' (fun e => HNM.out e.symm) _, HI5.out.ok, below_setRow HI5.out.hb _ _ HP12.out, HI5.out.gl, HI5.out.pl⟩
            have HF6 := Lib.hid (HF5.out.setRow (ftc 0 0))
            go_wp2_with (refine wpList_sw (cs := ftc 0 0) rfl _ _ rfl rfl rfl HF5.out (ft_sz _ _ _ _) (ft_ok _ _) ?_)
            clear HI5 HF5 HNF HNM
            generalize wx.setRow p12 (ftc 0 0) = wy at *
            go_meet
            exact ⟨_, 0, rfl, by omega, HI6, by show Row _ _ _ _; rw [fcd_0]; exact HF6.out⟩
      case rest =>
        clear HI2 HO2 HF o0
        obtain ⟨l2, sc, rfl, hsc, HI3, HF3⟩ := hcut
        generalize wc = w7 at *
        have e2 := ft_nrefl sc (fcd sc)
        obtain ⟨w8, hw8, T⟩ : ∃ w8, (w7.alloc (.cells #[.int .u8 0, .int .u32 0] 33)) = w8 ∧ Hid (Row w8 w7.heap.size 33 (ftc 0 0) ∧ Below w7.heap.size w7 w8) := ⟨_, rfl, (fault_var w7).1, (fault_var w7).2.1⟩
        have T7 := Lib.hid hw8
        have HI4 := Lib.hid (HI3.out.below T.out.2)
        have HF4 := Lib.hid (HF3.out.below T.out.2 HF3.out.lt)
        have HLT : Hid (w.heap.size ≤ w7.heap.size ∧ p12 ≠ w7.heap.size) := ⟨HI3.out.hb.size, by have := HF3.out.lt; omega⟩
        clear hw8 HI3 HF3
        go_upto_region 26 with fail
        rw [T7.out]
        clear T7
        generalize w7.heap.size = p19 at *
        have HS : ∃ w9, (sc = 0 ∧ w8 = w9 ∨ sc ≠ 0 ∧ w8.setRow p19 (ftc sc 3) = w9) ∧ Hid (PlW w w9 g p l2 b) ∧ Hid (Row w9 p12 33 (ftc sc (fcd sc))) ∧ Hid (Row w9 p19 33 (ftc sc (fcd sc))) := by
          by_cases h0 : sc = 0
          · exact ⟨w8, .inl ⟨h0, rfl⟩, HI4, HF4, by subst h0; show Row _ _ _ _; unfold fcd; exact T.out.1⟩
          · refine ⟨_, .inr ⟨h0, rfl⟩, ?_, ?_, ?_⟩
            · exact ⟨HI4.out.r.setRow' (fun e => T.out.1.ne HI4.out.r (by decide) e.symm) _, HI4.out.m.setRow' (fun e => T.out.1.ne HI4.out.m (by decide) e.symm) _, HI4.out.ok, below_setRow HI4.out.hb _ _ HLT.out.1, HI4.out.gl, HI4.out.pl⟩
            · exact HF4.out.setRow' HLT.out.2 _
            · show Row _ _ _ _
              rw [fcd_3 h0]
              exact T.out.1.setRow _
        obtain ⟨w9, hw9, HI5, HF5, HT5⟩ := HS
        have H9 := Lib.hid hw9
        clear hw9 HI4 HF4 HLT
        go_upto_if 92 with fail
        go_cut [] (fun wx => wx = w9)
        case first =>
          rcases H9.out with ⟨h0, h1⟩ | ⟨h0, h1⟩
          · subst h0 h1
            clear H9
            go_wp2_with fail
            go_meet
            rfl
          · have h2 : (0 : Int) < (sc : Int) := by omega
            have h3 : IntKind.u8.wrap (sc : Int) = (sc : Int) := IntWalk.u8_in _ (by omega)
            have H1 := Lib.hid h1
            clear h1 h0 H9
            go_wp2_with (refine wpList_sw (cs := ftc sc 3) rfl _ _ rfl rfl (by unfold ftc; rfl) T.out.1 (ft_sz _ _ _ _) (ft_ok _ _) ?_)
            go_meet
            exact H1.out
        case rest =>
          subst hcut
          clear H9 T
          have e3 : ((l2 : Int) != l2) = false := by simp
          generalize fcd sc = cd at *
          go_upto_region 28 with fail
          refine wp_region_held_drew (S := fun w' => Row w' p12 33 (ftc sc cd) ∧ Row w' p19 33 (ftc sc cd) ∧ w'.cell? ⟨p, 0, none⟩ = some (.int .i64 l2)) (by kernel_rfl) ⟨HF5.out, HT5.out, (rw_cells HI5.out.m).1⟩ (fun hHeld => ?_)
          have HI6 : Hid (PlW w wc.drew g p l2 b) := HI5.out.below ((Below.refl _ _).drew)
          clear HI5 HF5 HT5
          refine wpAnyH_take (i := 0) (v := _) rfl (by kernel_rfl) (by kernel_rfl) (by kernel_rfl) (fun _ _ _ h => h) (yields_ld (by rfl) _ rfl rfl (ft_ok _ _) (fun _ hSw => hSw.1)) (by assumption) ?rest0w1
          try simp only [Act.put, List.getElem_toArray, List.getElem_cons_zero, List.setIfInBounds_toArray, List.set_cons_zero, List.set_cons_succ]
          refine wpAnyH_take (i := 1) (v := _) rfl (by kernel_rfl) (by kernel_rfl) (by kernel_rfl) (fun _ _ _ h => h) (yields_ld (by rfl) _ rfl rfl (ft_ok _ _) (fun _ hSw => hSw.2.1)) (by assumption) ?rest1w2
          try simp only [Act.put, List.getElem_toArray, List.getElem_cons_zero, List.getElem_cons_succ, List.setIfInBounds_toArray, List.set_cons_zero, List.set_cons_succ]
          refine wpAnyH_take (i := 2) (v := ?v2) rfl (by kernel_rfl) (by kernel_rfl) (by kernel_rfl) (fun _ _ _ h => h) (Or.inl ⟨by rfl, ?hy2⟩) (by assumption) ?rest2
          case hy2 => (intro w hSw; (try dsimp only at hSw); go_simp <;> with_reducible rfl)
          try simp only [Act.put, List.getElem_toArray, List.getElem_cons_zero, List.getElem_cons_succ, List.setIfInBounds_toArray, List.set_cons_zero, List.set_cons_succ]
          refine wpAnyH_take (i := 3) (v := ?v3) rfl (by kernel_rfl) (by kernel_rfl) (by kernel_rfl) (fun _ _ _ h => h) (Or.inl ⟨by rfl, ?hy3⟩) (by assumption) ?rest3
          case hy3 => (intro w hSw; (try dsimp only at hSw); go_simp <;> with_reducible rfl)
          try simp only [Act.put, List.getElem_toArray, List.getElem_cons_zero, List.getElem_cons_succ, List.setIfInBounds_toArray, List.set_cons_zero, List.set_cons_succ]
          refine wpAnyH_take (i := 4) (v := ?v4) rfl (by kernel_rfl) (by kernel_rfl) (by kernel_rfl) (fun _ _ _ h => h) (Or.inl ⟨by rfl, ?hy4⟩) (by assumption) ?rest4
          case hy4 => (intro w hSw; (try dsimp only at hSw); go_simp <;> with_reducible rfl)
          try simp only [Act.put, List.getElem_toArray, List.getElem_cons_zero, List.getElem_cons_succ, List.setIfInBounds_toArray, List.set_cons_zero, List.set_cons_succ]
          refine wpAnyH_take (i := 6) (v := ?v6) rfl (by kernel_rfl) (by kernel_rfl) (by kernel_rfl) (fun _ _ _ h => h) (Or.inl ⟨by rfl, ?hy6⟩) (by assumption) ?rest6
          case hy6 => (intro w hSw; (try dsimp only at hSw); go_simp <;> with_reducible rfl)
          try simp only [Act.put, List.getElem_toArray, List.getElem_cons_zero, List.getElem_cons_succ, List.setIfInBounds_toArray, List.set_cons_zero, List.set_cons_succ]
          refine wpAnyH_take (i := 7) (v := ?v7) rfl (by kernel_rfl) (by kernel_rfl) (by kernel_rfl) (fun _ _ _ h => h) (Or.inl ⟨by rfl, ?hy7⟩) (by assumption) ?rest7
          case hy7 => (intro w hSw; (try dsimp only at hSw); go_simp <;> with_reducible rfl)
          try simp only [Act.put, List.getElem_toArray, List.getElem_cons_zero, List.getElem_cons_succ, List.setIfInBounds_toArray, List.set_cons_zero, List.set_cons_succ]
          refine wpAnyH_ready (rs := [5]) (by kernel_rfl) (by simp) ?_
          refine AllReadyH.cons rfl (fun K hK => ?_) AllReadyH.nil
          go_simp
          go_at_call 17
          refine (left_any HI6.out.r).mono ?_
          rintro e wq ⟨rfl, rfl⟩
          go_simp
          refine hK.out _ _ hHeld (fun hHeld => ?_)
          clear hK K
          try simp only [Act.put, List.getElem_toArray, List.getElem_cons_zero, List.getElem_cons_succ, List.setIfInBounds_toArray, List.set_cons_zero, List.set_cons_succ]
          refine wpAnyH_take (i := 8) (v := ?v8q3) rfl (by kernel_rfl) (by kernel_rfl) (by kernel_rfl) (fun _ _ _ h => h) (Or.inl ⟨by rfl, ?hy8q3⟩) (by assumption) ?rest8q3
          case hy8q3 => (intro w hSw; (try dsimp only at hSw); go_simp <;> with_reducible rfl)
          try simp only [Act.put, List.getElem_toArray, List.getElem_cons_zero, List.getElem_cons_succ, List.setIfInBounds_toArray, List.set_cons_zero, List.set_cons_succ]
          refine wpAnyH_take (i := 9) (v := ?v9q3) rfl (by kernel_rfl) (by kernel_rfl) (by kernel_rfl) (fun _ _ _ h => h) (Or.inl ⟨by rfl, ?hy9q3⟩) (by assumption) ?rest9q3
          case hy9q3 => (intro w hSw; (try dsimp only at hSw); go_simp <;> with_reducible rfl)
          try simp only [Act.put, List.getElem_toArray, List.getElem_cons_zero, List.getElem_cons_succ, List.setIfInBounds_toArray, List.set_cons_zero, List.set_cons_succ]
          refine wpAnyH_done (by kernel_rfl) ?_ _
          clear hHeld e2 e3
          go_wp2_with fail
          go_roundw
          case rel => exact ⟨k + 1, l2, by omega, by go_num, HI6⟩
          case measure => simp [intOf]; omega
    · go_upto_region 31 with fail
      have e3 : (l == l) = true := by simp
      refine wp_region_held_drew (S := fun w' => w'.cell? ⟨p, 0, none⟩ = some (.int .i64 l)) (by kernel_rfl) (rw_cells HI.out.m).1 (fun hHeld => ?_)
      have HI6 : Hid (PlW w wr.drew g p l b) := HI.out.below ((Below.refl _ _).drew)
      clear HI
      refine wpAnyH_ready (rs := [0]) (by kernel_rfl) (by simp) ?_
      refine AllReadyH.cons rfl (fun K hK => ?_) AllReadyH.nil
      go_simp
      go_at_call 9
      refine (fixed_any _).mono ?_
      rintro e w7 ⟨rfl, hb7⟩
      have HI7 := Lib.hid (HI6.out.below hb7)
      clear hb7 HI6 hHeld
      go_simp
      refine hK.out _ _ (rw_cells HI7.out.m).1 (fun hHeld => ?_)
      clear hK K
      try simp only [Act.put, List.getElem_toArray, List.getElem_cons_zero, List.getElem_cons_succ, List.setIfInBounds_toArray, List.set_cons_zero, List.set_cons_succ]
      refine wpAnyH_take (i := 1) (v := ?v1q4) rfl (by kernel_rfl) (by kernel_rfl) (by kernel_rfl) (fun _ _ _ h => h) (Or.inl ⟨by rfl, ?hy1q4⟩) (by assumption) ?rest1q4
      case hy1q4 => (intro w hSw; (try dsimp only at hSw); go_simp <;> with_reducible rfl)
      try simp only [Act.put, List.getElem_toArray, List.getElem_cons_zero, List.getElem_cons_succ, List.setIfInBounds_toArray, List.set_cons_zero, List.set_cons_succ]
      refine wpAnyH_take (i := 2) (v := ?v2q4) rfl (by kernel_rfl) (by kernel_rfl) (by kernel_rfl) (fun _ _ _ h => h) (Or.inl ⟨by rfl, ?hy2q4⟩) (by assumption) ?rest2q4
      case hy2q4 => (intro w hSw; (try dsimp only at hSw); go_simp <;> with_reducible rfl)
      try simp only [Act.put, List.getElem_toArray, List.getElem_cons_zero, List.getElem_cons_succ, List.setIfInBounds_toArray, List.set_cons_zero, List.set_cons_succ]
      refine wpAnyH_take (i := 4) (v := ?v4q4) rfl (by kernel_rfl) (by kernel_rfl) (by kernel_rfl) (fun _ _ _ h => h) (Or.inl ⟨by rfl, ?hy4q4⟩) (by assumption) ?rest4q4
      case hy4q4 => (intro w hSw; (try dsimp only at hSw); go_simp <;> with_reducible rfl)
      try simp only [Act.put, List.getElem_toArray, List.getElem_cons_zero, List.getElem_cons_succ, List.setIfInBounds_toArray, List.set_cons_zero, List.set_cons_succ]
      refine wpAnyH_take (i := 5) (v := ?v5q4) rfl (by kernel_rfl) (by kernel_rfl) (by kernel_rfl) (fun _ _ _ h => h) (Or.inl ⟨by rfl, ?hy5q4⟩) (by assumption) ?rest5q4
      case hy5q4 => (intro w hSw; (try dsimp only at hSw); go_simp <;> with_reducible rfl)
      try simp only [Act.put, List.getElem_toArray, List.getElem_cons_zero, List.getElem_cons_succ, List.setIfInBounds_toArray, List.set_cons_zero, List.set_cons_succ]
      refine wpAnyH_ready (rs := [3]) (by kernel_rfl) (by simp) ?_
      refine AllReadyH.cons rfl (fun K hK => ?_) AllReadyH.nil
      go_simp
      go_at_call 17
      refine (left_any HI7.out.r).mono ?_
      rintro e wq ⟨rfl, rfl⟩
      go_simp
      refine hK.out _ _ hHeld (fun hHeld => ?_)
      clear hK K
      try simp only [Act.put, List.getElem_toArray, List.getElem_cons_zero, List.getElem_cons_succ, List.setIfInBounds_toArray, List.set_cons_zero, List.set_cons_succ]
      refine wpAnyH_take (i := 6) (v := ?v6q5) rfl (by kernel_rfl) (by kernel_rfl) (by kernel_rfl) (fun _ _ _ h => h) (Or.inl ⟨by rfl, ?hy6q5⟩) (by assumption) ?rest6q5
      case hy6q5 => (intro w hSw; (try dsimp only at hSw); go_simp <;> with_reducible rfl)
      try simp only [Act.put, List.getElem_toArray, List.getElem_cons_zero, List.getElem_cons_succ, List.setIfInBounds_toArray, List.set_cons_zero, List.set_cons_succ]
      refine wpAnyH_take (i := 7) (v := ?v7q5) rfl (by kernel_rfl) (by kernel_rfl) (by kernel_rfl) (fun _ _ _ h => h) (Or.inl ⟨by rfl, ?hy7q5⟩) (by assumption) ?rest7q5
      case hy7q5 => (intro w hSw; (try dsimp only at hSw); go_simp <;> with_reducible rfl)
      try simp only [Act.put, List.getElem_toArray, List.getElem_cons_zero, List.getElem_cons_succ, List.setIfInBounds_toArray, List.set_cons_zero, List.set_cons_succ]
      refine wpAnyH_take (i := 8) (v := ?v8q5) rfl (by kernel_rfl) (by kernel_rfl) (by kernel_rfl) (fun _ _ _ h => h) (Or.inl ⟨by rfl, ?hy8q5⟩) (by assumption) ?rest8q5
      case hy8q5 => (intro w hSw; (try dsimp only at hSw); go_simp <;> with_reducible rfl)
      try simp only [Act.put, List.getElem_toArray, List.getElem_cons_zero, List.getElem_cons_succ, List.setIfInBounds_toArray, List.set_cons_zero, List.set_cons_succ]
      refine wpAnyH_done (by kernel_rfl) ?_ _
      clear hHeld e3
      go_wp2_with fail
      go_ret
      exact ⟨rfl, HI7.out.hb⟩
end Go.Proofs.Ytnlkgjcfkgbiiaa
