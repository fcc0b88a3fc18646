/-
  FrameBack, by its contract: over every bytes it answers true, and below what was there nothing has turned. Conditions: the bytes lie where the call doesn't write; errors.errorType holds what the program's text lays.
-/
import Derived.Test.YteeglgkmenlecaaDoorFget
import Derived.Test.YteeglgkmenlecaaDoorFfix
import Derived.Test.YteeglgkmenlecaaDoorFbm
import Derived.Test.YteeglgkmenlecaaDoorRme
import Derived.Lib.MinMax
namespace Go.Proofs.YteeglgkmenlecaaDoor
open Go.RowKit Go.WideShapes

theorem byte_cell {w : World} {g o : Nat} {l : List UInt8} (h : ∀ j (hj : j < l.length), w.cell? ⟨g, o + j, none⟩ = some (.int .u8 (l[j].toNat : Int))) {j : Nat} (hj : j < l.length) : w.cell? ⟨g, o + j, none⟩ = some (.int .u8 ((l.getD j 0).toNat : Int)) := by
  rw [h j hj, List.getD_eq_getElem?_getD, List.getElem?_eq_getElem hj]; rfl
attribute [local irreducible] Fm.c ftc
set_option maxRecDepth 100000 in
set_option maxHeartbeats 4000000 in
theorem bk_any {A : Option Addr} {c : Nat} {l : List UInt8} {w : World} (hr : RdB w w.heap.size A l) (hc : l.length ≤ c) (hG : GlobE w) :
    Calls Tryd.prog 6 #[.slice A l.length c] w fun e w' => e = .returned (.bool true) ∧ Below w.heap.size w w' := by
  by_cases hbig : 20000 < l.length
  · have F := Lib.hid (fixed_any7 w)
    have hb : (20000 : Int) < (l.length : Int) := by omega
    clear hr hc hG hbig
    go_enter Tryd.func6, Tryd.ntmps6
    go_wp2_with fail
    refine F.out.mono ?_
    rintro e w' ⟨rfl, hb'⟩
    have HB := Lib.hid hb'
    clear hb'
    go_wp2_with fail
    go_ret
    exact ⟨rfl, HB.out⟩
  have hftc : ∀ s c : Nat, ftc s c = #[.int .u8 s, .int .u32 c] := fun s c => by unfold ftc; rfl
  have hs : ¬ (20000 : Int) < (l.length : Int) := by omega
  have HGet := Lib.hid (get_any hr hc (by omega) hG)
  have HRd := Lib.hid hr
  have HOk := Lib.hid (getN_ok l)
  have HZ := Lib.hid (getN_z l)
  have HLen : Hid (l.length ≤ 20000) := by show _ ≤ _; omega
  obtain ⟨RN, hRN⟩ : ∃ RN, RN = getN l := ⟨_, rfl⟩
  have HRN := Lib.hid hRN
  rw [← hRN] at HGet HOk HZ
  clear hr hG hbig hRN
  go_enter Tryd.func6, Tryd.ntmps6
  go_wp2_with fail
  refine HGet.out.mono ?_
  rintro e w1 ⟨x, rfl, hX, hB⟩
  obtain ⟨dA, dc, sA, sc, hx⟩ : ∃ dA dc sA sc, x = RN.1.fm dA dc sA sc := ⟨_, _, _, _, hX.eq⟩
  subst hx
  have HX0 : Hid (Row ((w1.alloc (.cells #[.int .u8 0, .int .u8 0, .int .u32 0, .slice none 0 0, .int .i64 0, .int .u32 0, .int .u32 0, .int .u8 0, .bool false, .int .u32 0, .slice none 0 0] 26)).alloc (.cells #[.int .u8 0, .int .u32 0] 37)) w1.heap.size 26 (fm0 0 0 0 0).c) := by show Row _ _ _ _; rw [z_c]; exact (Row.new w1 _ _).alloc _
  have hT0 : Row ((w1.alloc (.cells #[.int .u8 0, .int .u8 0, .int .u32 0, .slice none 0 0, .int .i64 0, .int .u32 0, .int .u32 0, .int .u8 0, .bool false, .int .u32 0, .slice none 0 0] 26)).alloc (.cells #[.int .u8 0, .int .u32 0] 37)) (w1.heap.size + 1) 37 (ftc 0 0) := by rw [hftc]; exact Row.made _ _ _ (by simp)
  have HT0 := Lib.hid (hT0.setRow' (k := w1.heap.size) (by omega) (RN.1.fm dA dc sA sc).c)
  have HBW : Hid (Below w1.heap.size w1 ((w1.alloc (.cells #[.int .u8 0, .int .u8 0, .int .u32 0, .slice none 0 0, .int .i64 0, .int .u32 0, .int .u32 0, .int .u8 0, .bool false, .int .u32 0, .slice none 0 0] 26)).alloc (.cells #[.int .u8 0, .int .u32 0] 37))) := ((Below.refl _ _).alloc (Nat.le_refl _) _).alloc (by simp) _
  have HSW : Hid (((w1.alloc (.cells #[.int .u8 0, .int .u8 0, .int .u32 0, .slice none 0 0, .int .i64 0, .int .u32 0, .int .u32 0, .int .u8 0, .bool false, .int .u32 0, .slice none 0 0] 26)).alloc (.cells #[.int .u8 0, .int .u32 0] 37)).heap.size = w1.heap.size + 2) := by show _ = _; simp
  have HXF := Lib.hid hX
  have HB1 := Lib.hid hB
  clear hT0 hX hB HGet
  go_upto_region 4 with (first | (refine wpList_sfm (x := RN.1.fm dA dc sA sc) rfl _ _ rfl rfl rfl HX0.out ?_) | (refine wpList_sft (s := RN.2.1) (c := RN.2.2) rfl _ _ rfl rfl (by rw [hftc]; rfl) HT0.out ?_))
  obtain ⟨p, hp⟩ : ∃ p, p = w1.heap.size := ⟨_, rfl⟩
  have hpB := HB1.out.size
  have HX := Lib.hid ((HX0.out.setRow (RN.1.fm dA dc sA sc).c).setRow' (k := w1.heap.size + 1) (by omega) (ftc RN.2.1 RN.2.2))
  have HT := Lib.hid (HT0.out.setRow (ftc RN.2.1 RN.2.2))
  have HS : Hid (((((w1.alloc (.cells #[.int .u8 0, .int .u8 0, .int .u32 0, .slice none 0 0, .int .i64 0, .int .u32 0, .int .u32 0, .int .u8 0, .bool false, .int .u32 0, .slice none 0 0] 26)).alloc (.cells #[.int .u8 0, .int .u32 0] 37)).setRow w1.heap.size (RN.1.fm dA dc sA sc).c).setRow (w1.heap.size + 1) (ftc RN.2.1 RN.2.2)).heap.size = w1.heap.size + 2) := by show _ = _; simp
  have HBx : Hid (Below w1.heap.size w1 ((((w1.alloc (.cells #[.int .u8 0, .int .u8 0, .int .u32 0, .slice none 0 0, .int .i64 0, .int .u32 0, .int .u32 0, .int .u8 0, .bool false, .int .u32 0, .slice none 0 0] 26)).alloc (.cells #[.int .u8 0, .int .u32 0] 37)).setRow w1.heap.size (RN.1.fm dA dc sA sc).c).setRow (w1.heap.size + 1) (ftc RN.2.1 RN.2.2))) := below_setRow (below_setRow HBW.out _ _ (Nat.le_refl _)) _ _ (by omega)
  generalize (((w1.alloc (.cells #[.int .u8 0, .int .u8 0, .int .u32 0, .slice none 0 0, .int .i64 0, .int .u32 0, .int .u32 0, .int .u8 0, .bool false, .int .u32 0, .slice none 0 0] 26)).alloc (.cells #[.int .u8 0, .int .u32 0] 37)).setRow w1.heap.size (RN.1.fm dA dc sA sc).c).setRow (w1.heap.size + 1) (ftc RN.2.1 RN.2.2) = wc at *
  have HXc := Lib.hid (HXF.out.below HBx.out)
  have HB := Lib.hid (HB1.out.trans (HBx.out.mono HB1.out.size))
  rw [← hp] at *
  clear HX0 HT0 HBW HSW HXF HBx HB1
  by_cases hz : RN.2.1 = 0
  rotate_left
  · have f0 : wc.cell? ⟨p + 1, 0, none⟩ = some (.int .u8 (RN.2.1 : Int)) := HT.out.cell (by rw [hftc]; rfl)
    have f1 : wc.cell? ⟨p + 1, 1, none⟩ = some (.int .u32 (RN.2.2 : Int)) := HT.out.cell (by rw [hftc]; rfl)
    have hne : ((RN.2.1 : Int) == 0) = false := beq_eq_false_iff_ne.2 (by omega)
    clear HX HT HXc HRd HRN HZ HOk HLen hftc hs
    go_wp2_with fail
    refine (fixed_any7 _).mono ?_
    rintro e w5 ⟨rfl, hb5⟩
    have HB5 := Lib.hid (HB.out.trans (hb5.mono HB.out.size))
    clear hb5
    go_wp2_with fail
    go_ret
    exact ⟨rfl, HB5.out⟩
  obtain ⟨F, hF⟩ : ∃ F, F = RN.1 := ⟨_, rfl⟩
  have hRN : RN = (F, 0, 0) := by rw [hF]; exact HZ.out.resolve_left (fun h => h hz)
  have hgn : getN l = (F, 0, 0) := HRN.out.symm.trans hRN
  subst hRN
  clear hF hz HZ HRN
  have f0 : wc.cell? ⟨p + 1, 0, none⟩ = some (.int .u8 0) := HT.out.cell (by rw [hftc]; rfl)
  have f1 : wc.cell? ⟨p + 1, 1, none⟩ = some (.int .u32 0) := HT.out.cell (by rw [hftc]; rfl)
  have k4 : wc.cell? ⟨p, 4, none⟩ = some (.int .i64 F.pad) := (fm_cells HX.out).2.2.2.2.1
  have HOk := Lib.hid (show F.Ok from HOk.out)
  have HX := Lib.hid (show Row wc p 26 (F.fm dA dc sA sc).c from HX.out)
  have HXc := Lib.hid (show FmIs wc w.heap.size (F.fm dA dc sA sc) F from HXc.out)
  clear HT hftc
  obtain ⟨h9, hm1, hat⟩ := getN_at hgn
  have HGN := Lib.hid hgn
  have HAT := Lib.hid hat
  clear hgn hat
  by_cases hpd : 0 < F.pad
  · have hpd' : (0 : Int) < F.pad := hpd
    clear HX HXc HRd HGN HAT HOk HLen hs hm1 h9
    go_wp2_with fail
    refine (fixed_any7 _).mono ?_
    rintro e w5 ⟨rfl, hb5⟩
    have HB5 := Lib.hid (HB.out.trans (hb5.mono HB.out.size))
    clear hb5
    go_wp2_with fail
    go_ret
    exact ⟨rfl, HB5.out⟩
  have hpd' : ¬ (0 : Int) < F.pad := hpd
  obtain ⟨g, o, rfl, hgl, hcell⟩ := (HRd.out.below HB.out) (by intro e; rw [e] at h9; simp at h9)
  have b5 := byte_cell hcell (show 5 < l.length by omega)
  have m5 : (5 : Int) < (l.length : Int) := by omega
  by_cases h5 : 127 < (l.getD 5 0).toNat
  · have h5' : (127 : Int) < ((l.getD 5 0).toNat : Int) := by omega
    generalize (l.getD 5 0).toNat = v5 at *
    clear HX HXc HRd HGN HAT HOk HLen hs hm1 h9 hcell hgl hpd
    go_wp2_with fail
    refine (fixed_any7 _).mono ?_
    rintro e w5 ⟨rfl, hb5⟩
    have HB5 := Lib.hid (HB.out.trans (hb5.mono HB.out.size))
    clear hb5
    go_wp2_with fail
    go_ret
    exact ⟨rfl, HB5.out⟩
  have h5' : ¬ (127 : Int) < ((l.getD 5 0).toNat : Int) := by omega
  have HB5 := Lib.hid (show (l.getD 5 0).toNat ≤ 127 by omega)
  generalize (l.getD 5 0).toNat = v5 at b5 h5' h5
  obtain ⟨q, hq⟩ : ∃ q, q = 9 + (F.pad + 1).toNat := ⟨_, rfl⟩
  have k0 : wc.cell? ⟨p, 0, none⟩ = some (.int .u8 (F.ty : Int)) := (fm_cells HX.out).1
  have bq : (F.ty = 5 ∨ F.ty = 7 ∨ F.ty = 8) → wc.cell? ⟨g, o + q, none⟩ = some (.int .u8 ((l.getD q 0).toNat : Int)) ∧ q < l.length := fun e => by
    have h1 := HAT.out e
    rw [← hq] at h1
    exact ⟨byte_cell hcell h1, h1⟩
  have HQ := Lib.hid hq
  have hq2 : F.pad = -1 ∧ q = 9 ∨ F.pad = 0 ∧ q = 10 := by omega
  clear hcell hgl hpd hm1 HAT
  obtain ⟨vq, hvq⟩ : ∃ vq, vq = (l.getD q 0).toNat := ⟨_, rfl⟩
  rw [← hvq] at bq
  have HVQ := Lib.hid hvq
  clear hvq hq
  go_upto_region 6 with fail
  go_cut [53] from 30 to 53 (fun v wx => v = .bool (decide ((F.ty = 5 ∨ F.ty = 7 ∨ F.ty = 8) ∧ 127 < vq)) ∧ wx = wc)
  case first =>
    clear HX HXc HRd HGN HOk HLen hs h9 HB f0 f1 b5 h5' h5 HB5 HQ HVQ
    by_cases hT : F.ty = 5 ∨ F.ty = 7 ∨ F.ty = 8
    · obtain ⟨bc, bl⟩ := bq hT
      have bl' : (q : Int) < (l.length : Int) := by omega
      clear bq
      have hmx : max (0 : Int) (-1) = 0 := rfl
      rcases hq2 with ⟨hp1, rfl⟩ | ⟨hp1, rfl⟩ <;> rw [hp1] at k4 <;> clear hp1 <;>
      rcases hT with e | e | e <;> (have k0' := k0; rw [e] at k0'; clear k0) <;>
      by_cases hv : 127 < vq <;>
      (have hv' := (show ((127 : Int) < (vq : Int)) ↔ 127 < vq by omega); simp only [hv, iff_true, iff_false] at hv'; go_wp2_with fail; go_meet; exact ⟨by simp [hv, e], rfl⟩)
    · have e5 : ((F.ty : Int) == 5) = false := beq_eq_false_iff_ne.2 (by omega)
      have e7 : ((F.ty : Int) == 7) = false := beq_eq_false_iff_ne.2 (by omega)
      have e8 : ((F.ty : Int) == 8) = false := beq_eq_false_iff_ne.2 (by omega)
      clear bq
      go_wp2_with fail
      go_meet
      exact ⟨by simp [hT], rfl⟩
  case rest =>
    obtain ⟨rfl, rfl⟩ := hcut
    clear k0 k4 bq f0 f1 b5 h5' h5 hq2
    by_cases hbad : (F.ty = 5 ∨ F.ty = 7 ∨ F.ty = 8) ∧ 127 < vq
    · rw [decide_eq_true hbad]
      clear HX HXc HRd HGN HOk HLen hs h9 hbad HB5 HQ HVQ
      go_wp2_with fail
      refine (fixed_any7 _).mono ?_
      rintro e w5 ⟨rfl, hb5⟩
      have HB5 := Lib.hid (HB.out.trans (hb5.mono HB.out.size))
      clear hb5
      go_wp2_with fail
      go_ret
      exact ⟨rfl, HB5.out⟩
    · rw [decide_eq_false hbad]
      obtain ⟨hmay, hput⟩ := put_get7 HGN.out (by omega) HB5.out (fun e => by rw [← HQ.out, ← HVQ.out]; omega)
      have HP := Lib.hid (fput_yes F HOk.out hmay (dA := dA) (dc := dc) (sA := sA) (sc := sc) wc HXc.out.dat.reads (RdS.imp (OwS.up HXc.out.sets) fun k h1 h2 => h2))
      rw [hput] at HP
      have hsl : F.dat.length ≤ 16384 ∧ F.sets.length ≤ 16384 := by
        have h1 := size_ge hmay.2.2.1 (dn := F.dat.length) (sn := F.sets.length)
        have h2 := hmay.2.2.2.2
        omega
      have hM := fun W => may_any (F.fm dA dc sA sc) (Frm.fmOk HOk.out hmay dA sA dc sc) (by show F.dat.length ≤ _; omega) (by show F.sets.length ≤ _; omega) W
      rw [Frm.fmMay hmay] at hM
      have HM := Lib.hid hM
      clear hM hmay hput hbad HGN HB5 HQ HVQ HOk HXc hsl
      go_wp2_with (refine wpList_fm rfl _ rfl rfl HX.out ?_)
      refine HP.out.mono ?_
      rintro e w6 ⟨A6, c6, rfl, hO, hB6⟩
      have HX6 := Lib.hid (HX.out.below hB6 HX.out.lt)
      have HB6 := Lib.hid (HB.out.trans (hB6.mono HB.out.size))
      have HO6 := Lib.hid hO.reads
      clear hO hB6 HP HX HB
      go_wp2_with fail
      refine (fixed_any7 _).mono ?_
      rintro e w7 ⟨rfl, hb7⟩
      have HX7 := Lib.hid (HX6.out.below hb7 HX6.out.lt)
      have HB7 := Lib.hid (HB6.out.trans (hb7.mono HB6.out.size))
      have HO7 := Lib.hid ((HO6.out.below hb7).more hb7.size)
      clear hb7 HX6 HB6 HO6
      go_wp2_with (refine wpList_fmg (by rfl) _ rfl rfl HX7.out ?_)
      refine (HM.out _).mono ?_
      rintro e w8 ⟨rfl, hb8⟩
      have HB8 := Lib.hid (HB7.out.trans (hb8.mono HB7.out.size))
      have hO8 := (HO7.out.below hb8).more hb8.size
      have htx : (convert 23 9 (.slice A6 l.length c6)).run Tryd.prog w8 = .ok (.string ⟨l.toArray⟩) w8 := run_text (P := Tryd.prog) (c := c6) Tryd.underlying23 Tryd.underlying5 Tryd.underlying9 hO8
      have hty : (convert 23 9 (.slice (some ⟨g, o, none⟩) l.length c)).run Tryd.prog w8 = .ok (.string ⟨l.toArray⟩) w8 := run_text (P := Tryd.prog) (c := c) Tryd.underlying23 Tryd.underlying5 Tryd.underlying9 (HRd.out.below HB8.out)
      generalize (⟨l.toArray⟩ : ByteArray) = T at *
      clear hO8 hb8 HX7 HB7 HO7 HM HRd
      go_wp2_with fail
      go_ret
      exact ⟨by simp, HB8.out⟩
end Go.Proofs.YteeglgkmenlecaaDoor
