/-
  FrameGets, by its contract: over every bytes it answers true, and below what was there nothing has turned. Conditions: the bytes lie where the call doesn't write; errors.errorType holds what the program's text lays.
-/
import Derived.Test.YteeglgkmenlecaaDoorRgt
import Derived.Test.YteeglgkmenlecaaDoorRsm
import Derived.Test.YteeglgkmenlecaaDoorFin
import Derived.Test.YteeglgkmenlecaaDoorFbk
namespace Go.Proofs.YteeglgkmenlecaaDoor
open Go.RowKit Go.WideShapes

theorem FmIs.draws {w : World} {B : Nat} {x : Fm} {F : Frm} (h : FmIs w B x F) (n : Nat) : FmIs (w.drewN n) B x F := ⟨h.eq, h.dat, h.sets⟩
theorem FmR.draws {w : World} {B : Nat} {x : Fm} {F : Frm} (h : FmR w B x F) (n : Nat) : FmR (w.drewN n) B x F := ⟨h.eq, h.dat, h.sets⟩
attribute [local irreducible] Fm.c ftc fxc enl
set_option maxRecDepth 100000 in
set_option maxHeartbeats 8000000 in
theorem fgets_any {A : Option Addr} {c : Nat} {l : List UInt8} {w : World} (hr : RdB w w.heap.size A l) (hc : l.length ≤ c) (hG : GlobE w) :
    Calls Tryd.prog 4 #[.slice A l.length c] w fun e w' => e = .returned (.bool true) ∧ Below w.heap.size w w' := by
  by_cases hbig : 20000 < l.length
  · have F := Lib.hid (fixed_any7 w)
    have hb : (20000 : Int) < (l.length : Int) := by omega
    clear hr hc hG hbig
    go_enter Tryd.func4, Tryd.ntmps4
    go_wp2_with fail
    refine F.out.mono ?_
    rintro e w' ⟨rfl, hb'⟩
    have HB := Lib.hid hb'
    clear hb'
    go_wp2_with fail
    go_ret
    exact ⟨rfl, HB.out⟩
  have hftc : ∀ s c : Nat, ftc s c = #[.int .u8 s, .int .u32 c] := fun s c => by unfold ftc; rfl
  have hs : ¬ (20000 : Int) < (l.length : Int) := by omega
  obtain ⟨i0, hi0, hz0, hz1, hz2⟩ := info_parts u8_info
  have HO1 : Hid (Bo (w.alloc (.cells #[] 5)) w.heap.size 5 (.slice (some ⟨w.heap.size, 0, none⟩) 0 0) []) := OwS.lit w 5 1 0 #[] (by simp) (by simp [maxLen]) (Nat.le_refl _)
  have HR := Lib.hid (hr.alloc (Nat.le_refl _) (.cells #[] 5))
  have HRd := Lib.hid hr
  have HLE : Hid ((getN l).1.dat.length ≤ 1000000 ∧ (getN l).1.sets.length ≤ 1000000) := by have := getN_le l; exact ⟨by omega, by omega⟩
  have hget := fun (W : World) (A2 : Option Addr) (c2 : Nat) (h1 : RdB W W.heap.size A2 l) (h2 : l.length ≤ c2) (h3 : GlobE W) => get_any h1 h2 (by omega) h3
  have hrget := fun (W : World) => rget_any (l := l) (by omega) W
  obtain ⟨RN, hRN⟩ : ∃ RN, RN = getN l := ⟨_, rfl⟩
  rw [← hRN] at hget hrget HLE
  clear hr hRN hbig
  have HG := Lib.hid hG
  clear hG
  go_enter Tryd.func4, Tryd.ntmps4
  go_wp2_with (at_builtin; go_loud (refine wpList_appBo rfl (.tmp 13) (.tmp 14) 23 rfl w.heap.size 5 i0 Tryd.underlying23 hi0 hz0 hz1 hz2 (.slice (some ⟨w.heap.size, 0, none⟩) 0 0) [] rfl HO1.out w.heap.size A l _ _ rfl rfl HR.out (by simp; omega) (by simp) ?_; intro v2 w2 hO2 hF2 hN2))
  rw [List.nil_append] at hO2
  obtain ⟨A2, c2, rfl, hc2⟩ := hO2.shape
  have HB2 := Lib.hid (((Below.refl w.heap.size w).alloc (Nat.le_refl _) (.cells #[] 5)).trans (hF2.below (fun k hk _ => by have := (OwS.lt HO1.out k hk).1; omega) (by simp)))
  have HO2 := Lib.hid hO2
  clear hO2 hF2 hN2 HO1 HR
  refine (hget w2 A2 c2 HO2.out.reads hc2 (HG.out.below HB2.out)).mono ?_
  rintro e w1 ⟨x, rfl, hX, hB⟩
  obtain ⟨dA, dc, sA, sc, hx⟩ : ∃ dA dc sA sc, x = RN.1.fm dA dc sA sc := ⟨_, _, _, _, hX.eq⟩
  subst hx
  have HX0 : Hid (Row ((w1.alloc (.cells #[.int .u8 0, .int .u8 0, .int .u32 0, .slice none 0 0, .int .i64 0, .int .u32 0, .int .u32 0, .int .u8 0, .bool false, .int .u32 0, .slice none 0 0] 26)).alloc (.cells #[.int .u8 0, .int .u32 0] 37)) w1.heap.size 26 (fm0 0 0 0 0).c) := by show Row _ _ _ _; rw [z_c]; exact (Row.new w1 _ _).alloc _
  have hT0 : Row ((w1.alloc (.cells #[.int .u8 0, .int .u8 0, .int .u32 0, .slice none 0 0, .int .i64 0, .int .u32 0, .int .u32 0, .int .u8 0, .bool false, .int .u32 0, .slice none 0 0] 26)).alloc (.cells #[.int .u8 0, .int .u32 0] 37)) (w1.heap.size + 1) 37 (ftc 0 0) := by rw [hftc]; exact Row.made _ _ _ (by simp)
  have HT0 := Lib.hid (hT0.setRow' (k := w1.heap.size) (by omega) (RN.1.fm dA dc sA sc).c)
  have HBW : Hid (Below w1.heap.size w1 ((w1.alloc (.cells #[.int .u8 0, .int .u8 0, .int .u32 0, .slice none 0 0, .int .i64 0, .int .u32 0, .int .u32 0, .int .u8 0, .bool false, .int .u32 0, .slice none 0 0] 26)).alloc (.cells #[.int .u8 0, .int .u32 0] 37))) := ((Below.refl _ _).alloc (Nat.le_refl _) _).alloc (by simp) _
  have HXF := Lib.hid hX
  have HB1 := Lib.hid hB
  clear hT0 hX hB
  go_upto_region 5 with (first | (refine wpList_sfm (x := RN.1.fm dA dc sA sc) rfl _ _ rfl rfl rfl HX0.out ?_) | (refine wpList_sft (s := RN.2.1) (c := RN.2.2) rfl _ _ rfl rfl (by rw [hftc]; rfl) HT0.out ?_))
  obtain ⟨p, hp⟩ : ∃ p, p = w1.heap.size := ⟨_, rfl⟩
  have hpB := HB1.out.size
  have HX := Lib.hid ((HX0.out.setRow (RN.1.fm dA dc sA sc).c).setRow' (k := w1.heap.size + 1) (by omega) (ftc RN.2.1 RN.2.2))
  have HT := Lib.hid (HT0.out.setRow (ftc RN.2.1 RN.2.2))
  have HBx : Hid (Below w1.heap.size w1 ((((w1.alloc (.cells #[.int .u8 0, .int .u8 0, .int .u32 0, .slice none 0 0, .int .i64 0, .int .u32 0, .int .u32 0, .int .u8 0, .bool false, .int .u32 0, .slice none 0 0] 26)).alloc (.cells #[.int .u8 0, .int .u32 0] 37)).setRow w1.heap.size (RN.1.fm dA dc sA sc).c).setRow (w1.heap.size + 1) (ftc RN.2.1 RN.2.2))) := below_setRow (below_setRow HBW.out _ _ (Nat.le_refl _)) _ _ (by omega)
  generalize ((((w1.alloc (.cells #[.int .u8 0, .int .u8 0, .int .u32 0, .slice none 0 0, .int .i64 0, .int .u32 0, .int .u32 0, .int .u8 0, .bool false, .int .u32 0, .slice none 0 0] 26)).alloc (.cells #[.int .u8 0, .int .u32 0] 37)).setRow w1.heap.size (RN.1.fm dA dc sA sc).c).setRow (w1.heap.size + 1) (ftc RN.2.1 RN.2.2)) = wc at *
  have HXc := Lib.hid (HXF.out.below HBx.out)
  have HB := Lib.hid (HB1.out.trans (HBx.out.mono HB1.out.size))
  rw [← hp] at *
  clear hp
  clear HX0 HT0 HBW HXF HBx HB1
  have hOc : Bo wc w.heap.size 5 (.slice A2 l.length c2) l := HO2.out.below HB.out
  have hlow : ∀ k, ob (.slice A2 l.length c2) k → w.heap.size ≤ k ∧ k < w2.heap.size := fun k hk => OwS.lt HO2.out k hk
  obtain ⟨w5, hclr, hF5⟩ := clear_own hOc
  have HX5 := Lib.hid (hF5.row (b := p) (fun e => by have := (hlow _ e).2; omega) HX.out)
  have HT5 := Lib.hid (hF5.row (b := p + 1) (fun e => by have := (hlow _ e).2; omega) HT.out)
  have HXc5 := Lib.hid (HXc.out.far hF5 (fun k h1 h2 => by have := (hlow _ h2).2; omega))
  have HB5 := Lib.hid ((HB2.out.trans (HB.out.mono HB2.out.size)).trans (hF5.below (fun k hk _ => (hlow k hk).1) (Nat.le_trans HB2.out.size HB.out.size)))
  have htx : (convert 23 9 (.slice A l.length c)).run Tryd.prog w5 = .ok (.string (tb l)) w5 := run_text (P := Tryd.prog) (c := c) Tryd.underlying23 Tryd.underlying5 Tryd.underlying9 (HRd.out.below HB5.out)
  clear hOc hlow hF5 HX HT HXc HB HB2 HO2 HG
  go_wp2_with fail
  refine (hrget w5).mono ?_
  rintro e wd ⟨y, rfl, hY, hb⟩
  obtain ⟨eA, ec, tA, tc, hy⟩ : ∃ eA ec tA tc, y = RN.1.fm eA ec tA tc := ⟨_, _, _, _, hY.eq⟩
  subst hy
  have HXd := Lib.hid (HX5.out.below hb HX5.out.lt)
  have HTd := Lib.hid (HT5.out.below hb HT5.out.lt)
  have HXcd := Lib.hid (HXc5.out.below hb)
  have HYcd := Lib.hid hY
  have HBd := Lib.hid (HB5.out.trans (hb.mono HB5.out.size))
  clear hY hb hrget htx hclr HX5 HT5 HXc5 HB5
  have HY0 : Hid (Row (wd.alloc (.cells #[.int .u8 0, .int .u8 0, .int .u32 0, .slice none 0 0, .int .i64 0, .int .u32 0, .int .u32 0, .int .u8 0, .bool false, .int .u32 0, .slice none 0 0, .int .u8 0, .int .u32 0] 34)) wd.heap.size 34 (fxc (fm0 0 0 0 0) 0 0)) := by show Row _ _ _ _; rw [fxz]; exact Row.made _ _ _ rfl
  have HBy : Hid (Below wd.heap.size wd ((wd.alloc (.cells #[.int .u8 0, .int .u8 0, .int .u32 0, .slice none 0 0, .int .i64 0, .int .u32 0, .int .u32 0, .int .u8 0, .bool false, .int .u32 0, .slice none 0 0, .int .u8 0, .int .u32 0] 34)).setRow wd.heap.size (fxc (RN.1.fm eA ec tA tc) RN.2.1 RN.2.2))) := below_setRow ((Below.refl _ _).alloc (Nat.le_refl _) _) _ _ (Nat.le_refl _)
  have HY : Hid (Row ((wd.alloc (.cells #[.int .u8 0, .int .u8 0, .int .u32 0, .slice none 0 0, .int .i64 0, .int .u32 0, .int .u32 0, .int .u8 0, .bool false, .int .u32 0, .slice none 0 0, .int .u8 0, .int .u32 0] 34)).setRow wd.heap.size (fxc (RN.1.fm eA ec tA tc) RN.2.1 RN.2.2)) wd.heap.size 34 (fxc (RN.1.fm eA ec tA tc) RN.2.1 RN.2.2)) := HY0.out.setRow _
  go_upto_region 7 with (refine wpList_sfx (x := RN.1.fm eA ec tA tc) (s := RN.2.1) (c := RN.2.2) rfl _ _ rfl rfl rfl HY0.out ?_)
  generalize ((wd.alloc (.cells #[.int .u8 0, .int .u8 0, .int .u32 0, .slice none 0 0, .int .i64 0, .int .u32 0, .int .u32 0, .int .u8 0, .bool false, .int .u32 0, .slice none 0 0, .int .u8 0, .int .u32 0] 34)).setRow wd.heap.size (fxc (RN.1.fm eA ec tA tc) RN.2.1 RN.2.2)) = we at *
  have HXe := Lib.hid (HXd.out.below HBy.out HXd.out.lt)
  have HTe := Lib.hid (HTd.out.below HBy.out HTd.out.lt)
  have HXce := Lib.hid (HXcd.out.below HBy.out)
  have HYce := Lib.hid (HYcd.out.below HBy.out)
  have HBe := Lib.hid (HBd.out.trans (HBy.out.mono HBd.out.size))
  obtain ⟨g7, hg7⟩ : ∃ g7, g7 = wd.heap.size := ⟨_, rfl⟩
  rw [← hg7] at HY ⊢
  clear hg7
  clear HY0 HBy HXd HTd HXcd HYcd HBd
  by_cases h9 : l.length < 9
  · have h9' : ¬ (9 : Int) ≤ (l.length : Int) := by omega
    go_wp2_with fail
    refine (head_no (A := A) (c := c) (w := we) h9).mono ?_
    rintro e we' ⟨rfl, rfl⟩
    clear h9
    go_wp2_with fail
    refine (fixed_any7 _).mono ?_
    rintro e wf ⟨rfl, hb7⟩
    have HXf := Lib.hid (HXe.out.below hb7 HXe.out.lt)
    have HTf := Lib.hid (HTe.out.below hb7 HTe.out.lt)
    have HYf := Lib.hid (HY.out.below hb7 HY.out.lt)
    have HXcf := Lib.hid (HXce.out.below hb7)
    have HYcf := Lib.hid (HYce.out.below hb7)
    have HBf := Lib.hid (HBe.out.trans (hb7.mono HBe.out.size))
    clear hb7 HXe HTe HY HXce HYce HBe
    go_wp2_with (first | (refine wpList_fmg (by rfl) _ rfl rfl HXf.out ?_) | (refine wpList_lfxg (by rfl) _ rfl rfl HYf.out ?_))
    refine (rsame_any RN.1 HLE.out.1 HLE.out.2 (RdB.ofS HXcf.out.toR.dat fun _ _ h => h) (HXcf.out.toR.sets.imp fun _ _ h => h) (RdB.ofS HYcf.out.dat fun _ _ h => h) (HYcf.out.sets.imp fun _ _ h => h)).mono ?_
    rintro e wg ⟨rfl, hb8⟩
    have hTg := HTf.out.below hb8 HTf.out.lt
    have hYg := HYf.out.below hb8 HYf.out.lt
    have HBg := Lib.hid (HBf.out.trans (hb8.mono HBf.out.size))
    have f0 : wg.cell? ⟨p + 1, 0, none⟩ = some (.int .u8 (RN.2.1 : Int)) := hTg.cell (by rw [hftc]; rfl)
    have f1 : wg.cell? ⟨p + 1, 1, none⟩ = some (.int .u32 (RN.2.2 : Int)) := hTg.cell (by rw [hftc]; rfl)
    have y11 : wg.cell? ⟨g7, 11, none⟩ = some (.int .u8 (RN.2.1 : Int)) := fx_11 hYg
    have y12 : wg.cell? ⟨g7, 12, none⟩ = some (.int .u32 (RN.2.2 : Int)) := fx_12 hYg
    generalize RN.2.1 = rs at *
    generalize RN.2.2 = rc at *
    clear hb8 hTg hYg HXf HTf HYf HXcf HYcf HBf
    go_wp2_with fail
    go_ret
    exact ⟨by first | rfl | simp, HBg.out⟩
  have h9' : (9 : Int) ≤ (l.length : Int) := by omega
  have hal : 3 ≤ l.length := by omega
  have HRe := Lib.hid (HRd.out.below HBe.out)
  obtain ⟨hcut, hRd3⟩ := cut_upto (P := Tryd.prog) Tryd.underlying23 hi0 hz1 HRe.out hc hal
  have hh := head_yes (c := c) HRe.out (by omega) (by omega)
  have hv := fun W => rvalue_any (l.take 3) (by rw [List.length_take]; omega) W
  have hv3 : valL (l.take 3) < 256 ^ 3 := valL_lt' (by rw [List.length_take]; omega)
  have hl3 : (l.take 3).length = 3 := by rw [List.length_take]; omega
  go_wp2_with fail
  refine hh.mono ?_
  rintro e we' ⟨rfl, nq, rfl⟩
  have htx : (convert 23 9 (.slice A 3 c)).run Tryd.prog (we.drewN nq) = .ok (.string (tb (l.take 3))) (we.drewN nq) := by
    have h1 := run_text (P := Tryd.prog) (c := c) Tryd.underlying23 Tryd.underlying5 Tryd.underlying9 (show RdB (we.drewN nq) w.heap.size A (l.take 3) from hRd3)
    rwa [hl3] at h1
  have HXe' : Hid (Row (we.drewN nq) p 26 (RN.1.fm dA dc sA sc).c) := HXe.out
  have HTe' : Hid (Row (we.drewN nq) (p + 1) 37 (ftc RN.2.1 RN.2.2)) := HTe.out
  have HY' : Hid (Row (we.drewN nq) g7 34 (fxc (RN.1.fm eA ec tA tc) RN.2.1 RN.2.2)) := HY.out
  have HXce' : Hid (FmIs (we.drewN nq) w2.heap.size (RN.1.fm dA dc sA sc) RN.1) := Lib.hid (HXce.out.draws nq)
  have HYce' : Hid (FmR (we.drewN nq) w5.heap.size (RN.1.fm eA ec tA tc) RN.1) := Lib.hid (HYce.out.draws nq)
  have HBe' := Lib.hid (below_dN HBe.out nq)
  generalize we.drewN nq = w6 at *
  generalize l.take 3 = l3 at *
  generalize valL l3 = v3 at *
  have hv3i : ((9 + v3 : Nat) : Int) = 9 + (v3 : Int) := by omega
  have hv3b : (v3 : Int) < 16777216 := by omega
  clear HXe HTe HY HXce HYce HBe hh hRd3 hl3 HRe
  obtain ⟨HXe, HTe, HY, HXce, HYce, HBe⟩ := (⟨HXe', HTe', HY', HXce', HYce', HBe'⟩ : _ ∧ _ ∧ _ ∧ _ ∧ _ ∧ _)
  clear HXe' HTe' HY' HXce' HYce' HBe'
  go_wp2_with fail
  refine (hv _).mono ?_
  rintro e w6' ⟨rfl, rfl⟩
  clear hv htx hcut
  go_wp2_with fail
  refine (fixed_any7 _).mono ?_
  rintro e wf ⟨rfl, hb7⟩
  have HXf := Lib.hid (HXe.out.below hb7 HXe.out.lt)
  have HTf := Lib.hid (HTe.out.below hb7 HTe.out.lt)
  have HYf := Lib.hid (HY.out.below hb7 HY.out.lt)
  have HXcf := Lib.hid (HXce.out.below hb7)
  have HYcf := Lib.hid (HYce.out.below hb7)
  have HBf := Lib.hid (HBe.out.trans (hb7.mono HBe.out.size))
  clear hb7 HXe HTe HY HXce HYce HBe
  go_wp2_with (first | (refine wpList_fmg (by rfl) _ rfl rfl HXf.out ?_) | (refine wpList_lfxg (by rfl) _ rfl rfl HYf.out ?_))
  refine (rsame_any RN.1 HLE.out.1 HLE.out.2 (RdB.ofS HXcf.out.toR.dat fun _ _ h => h) (HXcf.out.toR.sets.imp fun _ _ h => h) (RdB.ofS HYcf.out.dat fun _ _ h => h) (HYcf.out.sets.imp fun _ _ h => h)).mono ?_
  rintro e wg ⟨rfl, hb8⟩
  have hTg := HTf.out.below hb8 HTf.out.lt
  have hYg := HYf.out.below hb8 HYf.out.lt
  have HBg := Lib.hid (HBf.out.trans (hb8.mono HBf.out.size))
  have f0 : wg.cell? ⟨p + 1, 0, none⟩ = some (.int .u8 (RN.2.1 : Int)) := hTg.cell (by rw [hftc]; rfl)
  have f1 : wg.cell? ⟨p + 1, 1, none⟩ = some (.int .u32 (RN.2.2 : Int)) := hTg.cell (by rw [hftc]; rfl)
  have y11 : wg.cell? ⟨g7, 11, none⟩ = some (.int .u8 (RN.2.1 : Int)) := fx_11 hYg
  have y12 : wg.cell? ⟨g7, 12, none⟩ = some (.int .u32 (RN.2.2 : Int)) := fx_12 hYg
  generalize RN.2.1 = rs at *
  generalize RN.2.2 = rc at *
  clear hb8 hTg hYg HXf HTf HYf HXcf HYcf HBf
  go_wp2_with fail
  go_ret
  exact ⟨by first | rfl | simp, HBg.out⟩
end Go.Proofs.YteeglgkmenlecaaDoor
