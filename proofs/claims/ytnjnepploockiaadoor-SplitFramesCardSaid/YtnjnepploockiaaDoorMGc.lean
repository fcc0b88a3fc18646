/-
  SplitNil: the law's walk. Conditions: errors.errorType holds what the program's text lays.
  Feed and Held of any splitter; the law's own example: fixed answers true. Conditions: errors.errorType holds what the program's text lays.
  The law's own example: fixed answers true. Conditions: errors.errorType holds what the program's text lays.
-/
import Derived.Test.YtnjnepploockiaaDoorMGb
import Derived.Test.YtnjnepploockiaaDoorFputw
import Derived.Deep.RegionHeld3

namespace Go.Proofs.YtnjnepploockiaaDoor
open Go.RowKit Go.WideShapes

def fedN (l : List UInt8) (bad : Bool) (x : List UInt8) : Nat := if bad = true then 0 else min x.length (16393 - l.length)
def fedL (l : List UInt8) (bad : Bool) (x : List UInt8) : List UInt8 := if bad = true then [] else l ++ x.take (16393 - l.length)
set_option maxRecDepth 100000 in
set_option maxHeartbeats 1000000 in
theorem feed_nil (v : Value) (w : World) : Calls Tryd.prog 15 #[.pointer none, v] w fun e w' => e = .returned (.int .i64 0) ∧ w' = w := by
  go_enter Tryd.func15, Tryd.ntmps15
  go_wp2_with fail
  refine (bad_nil _).mono ?_
  rintro e w1 ⟨rfl, rfl⟩
  go_wp2_with fail
  go_ret
  exact ⟨rfl, rfl⟩
set_option maxRecDepth 100000 in
set_option maxHeartbeats 1000000 in
theorem feed_bad (v : Value) {w : World} {g b : Nat} {l : List UInt8} {wt : Bool} (h : Spl w g b l wt true) : Calls Tryd.prog 15 #[.pointer (some ⟨g, 0, none⟩), v] w fun e w' => e = .returned (.int .i64 0) ∧ w' = w := by
  have hb := bad_any h
  clear h
  go_enter Tryd.func15, Tryd.ntmps15
  go_wp2_with fail
  refine hb.mono ?_
  rintro e w1 ⟨rfl, rfl⟩
  go_wp2_with fail
  go_ret
  exact ⟨rfl, rfl⟩
theorem feed_any {w : World} {g b : Nat} {l x : List UInt8} {wt bad : Bool} {A : Option Addr} {c : Nat} (h : Spl w g b l wt bad) (hx : RdS w (fun k => k < w.heap.size ∧ k ≠ g ∧ k ≠ b) A (byc x)) :
    Calls Tryd.prog 15 #[.pointer (some ⟨g, 0, none⟩), .slice A x.length c] w fun e w' => e = .returned (.int .i64 (fedN l bad x : Int)) ∧ Spl w' g b (fedL l bad x) wt bad ∧ Fs (gbS g b) w w' := by
  cases bad with
  | true =>
    refine (feed_bad _ h).mono ?_
    rintro e w1 ⟨rfl, rfl⟩
    refine ⟨rfl, ?_, Fs.refl _ _⟩
    rcases h with ⟨h0, _⟩ | ⟨h0, hw, hl, hX⟩
    · cases h0
    · exact .inr ⟨rfl, hw, rfl, hX⟩
  | false =>
    rcases h with ⟨_, fi, la, L, hS, rfl⟩ | ⟨h0, _⟩
    · have hl := hS.held_len
      refine (feed_good (c := c) hS hx).mono ?_
      rintro e w1 ⟨rfl, la', L', h1, h2, h3⟩
      refine ⟨?_, ?_, h3⟩
      · unfold fedN; rw [hl]; rfl
      · refine .inl ⟨rfl, 0, la', L', h1, ?_⟩
        rw [h2]
        unfold fedL
        rw [hl]
        rfl
    · cases h0
set_option maxRecDepth 100000 in
set_option maxHeartbeats 1000000 in
theorem hld_bad {w : World} {g : Nat} (h : SpX w g) : Calls Tryd.prog 13 #[.pointer (some ⟨g, 0, none⟩)] w fun e w' => e = .returned (.int .i64 0) ∧ ∃ n, w' = w.drewN n := by
  have c0 : w.cell? ⟨g, 0, none⟩ = some (.slice none 0 0) := Row.cell h rfl
  have c1 : w.cell? ⟨g, 1, none⟩ = some (.int .i64 0) := Row.cell h rfl
  have c2 : w.cell? ⟨g, 2, none⟩ = some (.int .i64 0) := Row.cell h rfl
  have hh : Calls Tryd.prog 25 #[.pointer (some ⟨g, 0, none⟩)] w fun e w' => e = .returned (.slice none 0 0) ∧ ∃ n, w' = w.drewN n := by
    have hcut : ∀ W, (Instr.slice 22 (.slice none 0 0) (some (.int .i64 0)) (some (.int .i64 0)) none).run Tryd.prog W = .ok (.slice none 0 0) W := fun W => by kernel_rfl
    clear h
    go_enter Tryd.func25, Tryd.ntmps25
    go_wp2
    go_quiet (fail)
    go_wp2
    go_ret
    exact ⟨rfl, _, rfl⟩
  clear h c0 c1 c2
  go_enter Tryd.func13, Tryd.ntmps13
  go_wp2_with fail
  refine hh.mono ?_
  rintro e w1 ⟨rfl, n, rfl⟩
  go_wp2_with fail
  go_ret
  exact ⟨rfl, _, rfl⟩
theorem hld_any {w : World} {g b : Nat} {l : List UInt8} {wt bad : Bool} (h : Spl w g b l wt bad) :
    Calls Tryd.prog 13 #[.pointer (some ⟨g, 0, none⟩)] w fun e w' => e = .returned (.int .i64 (l.length : Int)) ∧ ∃ n, w' = w.drewN n := by
  rcases h with ⟨rfl, fi, la, L, hS, rfl⟩ | ⟨rfl, hw, rfl, hX, _⟩
  · rw [hS.held_len]; exact hld_good hS
  · exact hld_bad hX
end Go.Proofs.YtnjnepploockiaaDoor

namespace Go.Proofs.YtnjnepploockiaaDoor
open Go.RowKit Go.WideShapes

def fixF8 : Frm := ⟨4, 0, 0, [], -1, 0, 0, 0, false, 0, []⟩
def fix9 : List UInt8 := [0, 0, 0, 4, 0, 0, 0, 0, 0]
theorem fix8_bytes : putL7 fixF8 = fix9 := by decide +kernel
theorem fix8_ok : fixF8.Ok := ⟨by decide, by decide, by decide, by decide, fun s hs => by cases hs⟩
theorem fix8_may : fixF8.May := by unfold Frm.May; decide +kernel
theorem fix8_c : (fixF8.fm none 0 none 0).c = #[.int .u8 4, .int .u8 0, .int .u32 0, .slice none 0 0, .int .i64 (-1), .int .u32 0, .int .u32 0, .int .u8 0, .bool false, .int .u32 0, .slice none 0 0] := by unfold Fm.c; rfl
theorem fix8_put (w : World) : Calls Tryd.prog 22 #[.agg #[.int .u8 4, .int .u8 0, .int .u32 0, .slice none 0 0, .int .i64 (-1), .int .u32 0, .int .u32 0, .int .u8 0, .bool false, .int .u32 0, .slice none 0 0]] w fun e w' => ∃ A c, e = .returned (.slice A 9 c) ∧ Bo w' w.heap.size 5 (.slice A 9 c) fix9 ∧ Below w.heap.size w w' := by
  have := fput_yes fixF8 fix8_ok fix8_may (dA := none) (dc := 0) (sA := none) (sc := 0) w RdB.nil RdS.nil
  rwa [fix8_bytes, fix8_c] at this
def fix33 : List UInt8 := greetL ++ fix9
theorem fix33_length : fix33.length = 33 := rfl
theorem fix_n1 : nsN (fix33.take 27) true false = (none, [0, 0, 0], false, false) := by kernel_rfl
theorem fix_n2 : nsN ([0, 0, 0] ++ fix33.drop 27) false false = (some (fixF8, 0, 0), [], false, false) := by kernel_rfl
theorem ft_00 (w : World) : (binOp .eql 38 (.agg #[.int .u8 0, .int .u32 0]) (.agg #[.int .u8 0, .int .u32 0])).run Tryd.prog w = .ok (.bool true) w := by kernel_rfl
theorem ft_16 (w : World) : (binOp .eql 38 (.agg #[.int .u8 1, .int .u32 6]) (.agg #[.int .u8 1, .int .u32 6])).run Tryd.prog w = .ok (.bool true) w := by kernel_rfl
theorem wpList_lftg {ops : Array Oper} {rest : List Oper} {o : Oper} {a : Act} {w : World} {Q : Exit → Act → World → Prop} (hw : Region.wanted o (yielded ops a.tmps) = true) (y : Operand) (ho : o.op = .load 38 y) {g : Nat} (hy : a.eval y = .pointer (some ⟨g, 0, none⟩)) {s c : Nat} (h : Row w g 38 (ftc s c))
    (hk : wpList Tryd.prog ops Q rest (a.put o.dst (.agg #[.int .u8 s, .int .u32 c])) w) : wpList Tryd.prog ops Q (o :: rest) a w :=
  BigFrame.wpList_want hw fun _ hK => wp_load_row 38 y ho g hy 38 (ftc s c) (0, 0) _ h Tryd.underlying38 rfl fault_info7 (hK _ _ (by rw [ftc_eq]; exact hk))
attribute [local irreducible] Fm.c ftc

set_option maxRecDepth 100000 in
set_option maxHeartbeats 4000000 in
theorem fixed_any8 (w : World) (hG : GlobE w) : Calls Tryd.prog 7 #[] w fun e w' => e = .returned (.bool true) ∧ Below w.heap.size w w' := by
  obtain ⟨i0, hi0, hz0, hz1, hz2⟩ := info_parts u8_info
  have hnew := new_any w true hG
  have HG := Lib.hid hG
  clear hG
  go_enter Tryd.func7, Tryd.ntmps7
  go_wp2_with fail
  refine hnew.mono ?_
  rintro e w1 ⟨g, rfl, b, h1, hg1, hb1, hw1⟩
  have H1 : Hid (Spl w1 g b [] true false) := by show Spl _ _ _ _ _ _; have := h1.spl; rwa [heldL_nil] at this
  have HB1 := Lib.hid hw1
  have hl1 := h1.row.lt
  have hl2 := h1.buf.lt
  have hlo : 0 < b := h1.lo.2
  have hlo2 : 0 < g := h1.lo.1
  clear h1 hnew hw1
  go_wp2_with fail
  refine (preface_any _).mono ?_
  rintro e w2 ⟨rfl, hm2, hb2⟩
  have H2 := Lib.hid (H1.out.below hb2)
  have HB2 := Lib.hid (HB1.out.trans (hb2.mono HB1.out.size))
  have HM2 := Lib.hid hm2
  have hs2 : w1.heap.size < w2.heap.size := hm2.lt
  clear hb2 hm2 H1 HB1
  go_wp2_with fail
  refine (fix8_put _).mono ?_
  rintro e w3 ⟨A3, c3, rfl, hO3, hb3⟩
  have H3 := Lib.hid (H2.out.below hb3)
  have HB3 := Lib.hid (HB2.out.trans (hb3.mono HB2.out.size))
  have HM3 := Lib.hid (HM2.out.below hb3 hs2)
  have hr3 := hO3.reads
  obtain ⟨g3, o3, rfl, _, _⟩ := hr3 (by decide)
  have hs3 : w2.heap.size ≤ w3.heap.size := hb3.size
  obtain ⟨c4, w4, happ, hO4, hb4⟩ := run_appFull (P := Tryd.prog) w3 w3.heap.size 22 5 i0 Tryd.underlying22 hi0 hz0 hz1 hz2 (l := greetL) (m := fix9) (c := c3) (B := w3.heap.size) (HM3.out.reads (by omega)) hr3 (by decide) (by decide) (Nat.le_refl _)
  have happ' : ∀ ty, (Builtin.append_ #[22, 22] ty #[.slice (some ⟨w1.heap.size, 0, none⟩) 24 24, .slice (some ⟨g3, o3, none⟩) 9 c3]).run Tryd.prog w3 = .ok (.slice (some ⟨w3.heap.size, 0, none⟩) 33 c4) w4 := happ
  have H4 := Lib.hid (H3.out.below hb4)
  have HB4 := Lib.hid (HB3.out.trans (hb4.mono HB3.out.size))
  have HO4 : Hid (Bo w4 w3.heap.size 5 (.slice (some ⟨w3.heap.size, 0, none⟩) 33 c4) fix33) := hO4
  have hc4 : 33 ≤ c4 := by
    obtain ⟨A', c', e, hle⟩ := HO4.out.shape
    injection e with _ _ e
    rw [e]; exact hle
  have HRd4 := Lib.hid (OwS.up HO4.out)
  have HG4 := Lib.hid (HG.out.fs (S := fun k => w.heap.size ≤ k) ⟨HB4.out.os, HB4.out.tape, HB4.out.output, HB4.out.size, fun k hk _ => HB4.out.block k hk⟩ (by have := blk_lt HG.out; omega))
  clear happ hO4 hb4 hO3 hb3 hr3 H2 H3 HB2 HB3 HM2 HM3 HG
  obtain ⟨hcut, hR27⟩ := cut_uptoS (P := Tryd.prog) Tryd.underlying22 hi0 hz1 HRd4.out (c := c4) (k := 27) hc4 (by decide)
  have hcut' : ∀ W, (Instr.slice 22 (.slice (some ⟨w3.heap.size, 0, none⟩) 33 c4) none (some (.int .i64 27)) none).run Tryd.prog W = .ok (.slice (some ⟨w3.heap.size, 0, none⟩) 27 c4) W := hcut
  have hfeed := feed_any (c := c4) (x := fix33.take 27) H4.out (hR27.imp fun k hk _ => ⟨hk.2, by omega, by omega⟩)
  have hx27 : (fix33.take 27).length = 27 := rfl
  rw [hx27] at hfeed
  clear hcut hR27 hx27
  go_wp2_with (at_builtin; refine wpList_app_run rfl (.tmp 10) (.tmp 12) 22 22 rfl rfl rfl happ' ?_)
  refine hfeed.mono ?_
  rintro e w5 ⟨rfl, h5, hF5⟩
  have H5 : Hid (Spl w5 g b (fix33.take 27) true false) := by show Spl _ _ _ _ _ _; exact h5
  have HF5 := Lib.hid hF5
  have HB5 := Lib.hid (HB4.out.trans (hF5.below (B := w.heap.size) (fun k hk _ => by rcases hk with hk | hk <;> omega) HB4.out.size))
  have HRd5 := Lib.hid (hF5.reads HRd4.out (fun k hk => ⟨hk.2, fun e => by rcases e with e | e <;> omega⟩))
  have HG5 := Lib.hid (HG4.out.fs hF5 (gbS_glob hlo2 hlo))
  have hs5 : w4.heap.size ≤ w5.heap.size := hF5.size
  have hn1 := Next_any H5.out HG5.out
  rw [fix_n1] at hn1
  clear hfeed h5 hF5 HF5 H4 HB4 HRd4 HG4 happ' HO4 H5
  go_wp2_with fail
  refine hn1.mono ?_
  rintro e w6 ⟨v, rfl, ⟨X, s, c, ok, rfl, rfl, rfl, rfl, rfl⟩, h6, hF6⟩
  have H6 := Lib.hid h6
  have HB6 := Lib.hid (HB5.out.trans (hF6.below (B := w.heap.size) (fun k hk _ => by rcases hk with hk | hk <;> omega) HB5.out.size))
  have HRd6 := Lib.hid (hF6.reads HRd5.out (fun k hk => ⟨by omega, fun e => by rcases e with e | e <;> omega⟩))
  have HG6 := Lib.hid (HG5.out.fs hF6 (gbS_glob hlo2 hlo))
  have hs6 : w5.heap.size ≤ w6.heap.size := hF6.size
  clear hn1 h6 hF6 HB5 HRd5 HG5
  have HXe : Hid (Row ((w6.alloc (.cells #[.int .u8 0, .int .u8 0, .int .u32 0, .slice none 0 0, .int .i64 0, .int .u32 0, .int .u32 0, .int .u8 0, .bool false, .int .u32 0, .slice none 0 0] 36)).alloc (.cells #[.int .u8 0, .int .u32 0] 38)) w6.heap.size 36 (fm0 0 0 0 0).c) := by show Row _ _ _ _; rw [z_c]; exact (Row.new w6 _ _).alloc _
  have HTe : Hid (Row ((w6.alloc (.cells #[.int .u8 0, .int .u8 0, .int .u32 0, .slice none 0 0, .int .i64 0, .int .u32 0, .int .u32 0, .int .u8 0, .bool false, .int .u32 0, .slice none 0 0] 36)).alloc (.cells #[.int .u8 0, .int .u32 0] 38)) (w6.heap.size + 1) 38 (ftc 0 0)) := by show Row _ _ _ _; rw [ftc_eq]; exact Row.made _ _ _ (by simp)
  have HBe : Hid (Below w6.heap.size w6 ((w6.alloc (.cells #[.int .u8 0, .int .u8 0, .int .u32 0, .slice none 0 0, .int .i64 0, .int .u32 0, .int .u32 0, .int .u8 0, .bool false, .int .u32 0, .slice none 0 0] 36)).alloc (.cells #[.int .u8 0, .int .u32 0] 38))) := ((Below.refl _ _).alloc (Nat.le_refl _) _).alloc (by simp) _
  have HSe : Hid (((w6.alloc (.cells #[.int .u8 0, .int .u8 0, .int .u32 0, .slice none 0 0, .int .i64 0, .int .u32 0, .int .u32 0, .int .u8 0, .bool false, .int .u32 0, .slice none 0 0] 36)).alloc (.cells #[.int .u8 0, .int .u32 0] 38)).heap.size = w6.heap.size + 2) := by show _ = _; simp
  go_upto_region 7 with (first | (refine wpList_sfm (x := (fm0 0 0 0 0)) rfl _ _ rfl rfl rfl HXe.out ?_) | (refine wpList_sft (s := 0) (c := 0) rfl _ _ rfl rfl rfl (HTe.out.setRow' (k := w6.heap.size) (by omega) (Fm.c (fm0 0 0 0 0))) ?_))
  have HZ := Lib.hid (((Fs.of_below (S := fun k => k = w6.heap.size ∨ k = w6.heap.size + 1) HBe.out).setRow (g := w6.heap.size) (fun _ => .inl rfl) (Fm.c (fm0 0 0 0 0))).setRow (g := w6.heap.size + 1) (fun _ => .inr rfl) (ftc 0 0))
  have HW := Lib.hid (HZ.out.below (B := w6.heap.size) (fun k hk _ => by omega) (Nat.le_refl _))
  have H7 := Lib.hid (H6.out.below HW.out)
  have HB7 := Lib.hid (HB6.out.trans (HW.out.mono HB6.out.size))
  have HRd7 := Lib.hid (HRd6.out.keep fun k hk => HW.out.block k (by omega))
  have HG7 := Lib.hid (HG6.out.below HW.out)
  have hs7 : w6.heap.size ≤ ((((w6.alloc (.cells #[.int .u8 0, .int .u8 0, .int .u32 0, .slice none 0 0, .int .i64 0, .int .u32 0, .int .u32 0, .int .u8 0, .bool false, .int .u32 0, .slice none 0 0] 36)).alloc (.cells #[.int .u8 0, .int .u32 0] 38)).setRow w6.heap.size (Fm.c (fm0 0 0 0 0))).setRow (w6.heap.size + 1) (ftc 0 0)).heap.size := HW.out.size
  generalize ((((w6.alloc (.cells #[.int .u8 0, .int .u8 0, .int .u32 0, .slice none 0 0, .int .i64 0, .int .u32 0, .int .u32 0, .int .u8 0, .bool false, .int .u32 0, .slice none 0 0] 36)).alloc (.cells #[.int .u8 0, .int .u32 0] 38)).setRow w6.heap.size (Fm.c (fm0 0 0 0 0))).setRow (w6.heap.size + 1) (ftc 0 0)) = w7 at *
  clear HXe HTe HBe HSe HZ HW H6 HB6 HRd6 HG6
  obtain ⟨A8, hcut8, hR8⟩ := cut_fromS (P := Tryd.prog) Tryd.underlying22 hi0 hz1 HRd7.out (c := c4) (k := 27) hc4 (by decide)
  have hcut8' : ∀ W, (Instr.slice 22 (.slice (some ⟨w3.heap.size, 0, none⟩) 33 c4) (some (.int .i64 27)) none none).run Tryd.prog W = .ok (.slice A8 6 (c4 - 27)) W := hcut8
  have hfeed8 := feed_any (c := c4 - 27) (x := fix33.drop 27) H7.out (hR8.imp fun k hk hl => ⟨hl, by omega, by omega⟩)
  have hx6 : (fix33.drop 27).length = 6 := rfl
  rw [hx6] at hfeed8
  clear hcut8 hR8 hx6
  go_wp2_with fail
  refine hfeed8.mono ?_
  rintro e w8 ⟨rfl, h8, hF8⟩
  have H8 : Hid (Spl w8 g b ([0, 0, 0] ++ fix33.drop 27) false false) := by show Spl _ _ _ _ _ _; exact h8
  have HB8 := Lib.hid (HB7.out.trans (hF8.below (B := w.heap.size) (fun k hk _ => by rcases hk with hk | hk <;> omega) HB7.out.size))
  have HG8 := Lib.hid (HG7.out.fs hF8 (gbS_glob hlo2 hlo))
  have hs8 : w7.heap.size ≤ w8.heap.size := hF8.size
  have hn2 := Next_any H8.out HG8.out
  rw [fix_n2] at hn2
  clear hfeed8 h8 hF8 H7 HB7 HRd7 HG7 H8
  go_wp2_with fail
  refine hn2.mono ?_
  rintro e w9 ⟨v, rfl, ⟨X, s, c, ok, rfl, rfl, rfl, rfl, hX⟩, h9, hF9⟩
  have H9 := Lib.hid h9
  have HB9 := Lib.hid (HB8.out.trans (hF9.below (B := w.heap.size) (fun k hk _ => by rcases hk with hk | hk <;> omega) HB8.out.size))
  have hs9 : w8.heap.size ≤ w9.heap.size := hF9.size
  have hXe : X.ty = 4 := by rw [hX.eq]; rfl
  have HXe4 := Lib.hid hXe
  clear hn2 h9 hF9 HB8 HG8 hX hXe
  have HXe : Hid (Row ((w9.alloc (.cells #[.int .u8 0, .int .u8 0, .int .u32 0, .slice none 0 0, .int .i64 0, .int .u32 0, .int .u32 0, .int .u8 0, .bool false, .int .u32 0, .slice none 0 0] 36)).alloc (.cells #[.int .u8 0, .int .u32 0] 38)) w9.heap.size 36 (fm0 0 0 0 0).c) := by show Row _ _ _ _; rw [z_c]; exact (Row.new w9 _ _).alloc _
  have HTe : Hid (Row ((w9.alloc (.cells #[.int .u8 0, .int .u8 0, .int .u32 0, .slice none 0 0, .int .i64 0, .int .u32 0, .int .u32 0, .int .u8 0, .bool false, .int .u32 0, .slice none 0 0] 36)).alloc (.cells #[.int .u8 0, .int .u32 0] 38)) (w9.heap.size + 1) 38 (ftc 0 0)) := by show Row _ _ _ _; rw [ftc_eq]; exact Row.made _ _ _ (by simp)
  have HBe : Hid (Below w9.heap.size w9 ((w9.alloc (.cells #[.int .u8 0, .int .u8 0, .int .u32 0, .slice none 0 0, .int .i64 0, .int .u32 0, .int .u32 0, .int .u8 0, .bool false, .int .u32 0, .slice none 0 0] 36)).alloc (.cells #[.int .u8 0, .int .u32 0] 38))) := ((Below.refl _ _).alloc (Nat.le_refl _) _).alloc (by simp) _
  have HSe : Hid (((w9.alloc (.cells #[.int .u8 0, .int .u8 0, .int .u32 0, .slice none 0 0, .int .i64 0, .int .u32 0, .int .u32 0, .int .u8 0, .bool false, .int .u32 0, .slice none 0 0] 36)).alloc (.cells #[.int .u8 0, .int .u32 0] 38)).heap.size = w9.heap.size + 2) := by show _ = _; simp
  go_upto_region 9 with (first | (refine wpList_sfm (x := X) rfl _ _ rfl rfl rfl HXe.out ?_) | (refine wpList_sft (s := (0 : Nat)) (c := (0 : Nat)) rfl _ _ rfl rfl rfl (HTe.out.setRow' (k := w9.heap.size) (by omega) (Fm.c X)) ?_))
  have HX10 := Lib.hid ((HXe.out.setRow X.c).setRow' (k := w9.heap.size + 1) (by omega) (ftc 0 0))
  have HT10 := Lib.hid ((HTe.out.setRow' (k := w9.heap.size) (by omega) X.c).setRow (ftc 0 0))
  have HZ := Lib.hid (((Fs.of_below (S := fun k => k = w9.heap.size ∨ k = w9.heap.size + 1) HBe.out).setRow (g := w9.heap.size) (fun _ => .inl rfl) (Fm.c X)).setRow (g := w9.heap.size + 1) (fun _ => .inr rfl) (ftc 0 0))
  have HW := Lib.hid (HZ.out.below (B := w9.heap.size) (fun k hk _ => by omega) (Nat.le_refl _))
  have H10 := Lib.hid (H9.out.below HW.out)
  have HB10 := Lib.hid (HB9.out.trans (HW.out.mono HB9.out.size))
  generalize ((((w9.alloc (.cells #[.int .u8 0, .int .u8 0, .int .u32 0, .slice none 0 0, .int .i64 0, .int .u32 0, .int .u32 0, .int .u8 0, .bool false, .int .u32 0, .slice none 0 0] 36)).alloc (.cells #[.int .u8 0, .int .u32 0] 38)).setRow w9.heap.size (Fm.c X)).setRow (w9.heap.size + 1) (ftc 0 0)) = w10 at *
  clear HXe HTe HBe HSe HZ HW H9 HB9
  have cX : w10.cell? ⟨w9.heap.size, 0, none⟩ = some (.int .u8 4) := by
    have := (fm_cells HX10.out).1
    rw [HXe4.out] at this
    exact this
  have hsm := ft_00
  have hld := hld_any H10.out
  go_wp2_with (refine wpList_lftg (by rfl) _ rfl rfl HT10.out ?_)
  refine hld.mono ?_
  rintro e w11 ⟨rfl, n, rfl⟩
  have HB11 := Lib.hid (below_dN HB10.out n)
  clear hld H10 HX10 HT10 HB10
  go_wp2_with fail
  go_ret
  exact ⟨rfl, HB11.out⟩
end Go.Proofs.YtnjnepploockiaaDoor

namespace Go.Proofs.YtnjnepploockiaaDoor
open Go.RowKit Go.WideShapes

theorem ft_00c (w : World) : (binOp .eql 38 (.agg (ftc 0 0)) (.agg #[.int .u8 0, .int .u32 0])).run Tryd.prog w = .ok (.bool true) w := by rw [ftc_eq]; exact ft_00 w
set_option maxRecDepth 100000 in
set_option maxHeartbeats 1000000 in
theorem rpref_any (w : World) : Calls Tryd.prog 20 #[] w fun e w' => e = .returned (.string (tb greetL)) ∧ w' = w := by
  go_enter Tryd.func20, Tryd.ntmps20
  go_wp2_with fail
  go_ret
  exact ⟨rfl, rfl⟩
attribute [local irreducible] Fm.c ftc

set_option maxRecDepth 100000 in
set_option maxHeartbeats 4000000 in
theorem nil_any {A : Option Addr} {c : Nat} {l : List UInt8} {w : World} (hG : GlobE w) :
    Calls Tryd.prog 5 #[.slice A l.length c] w fun e w' => e = .returned (.bool true) ∧ Below w.heap.size w w' := by
  have HG := Lib.hid hG
  clear hG
  go_enter Tryd.func5, Tryd.ntmps5
  go_wp2_with fail
  refine (Next_nil _).mono ?_
  rintro e w1 ⟨rfl, hb1⟩
  have HB1 := Lib.hid hb1
  have HG1 := Lib.hid (HG.out.below hb1)
  clear hb1 HG
  have HXe : Hid (Row ((w1.alloc (.cells #[.int .u8 0, .int .u8 0, .int .u32 0, .slice none 0 0, .int .i64 0, .int .u32 0, .int .u32 0, .int .u8 0, .bool false, .int .u32 0, .slice none 0 0] 36)).alloc (.cells #[.int .u8 0, .int .u32 0] 38)) w1.heap.size 36 (fm0 0 0 0 0).c) := by show Row _ _ _ _; rw [z_c]; exact (Row.new w1 _ _).alloc _
  have HTe : Hid (Row ((w1.alloc (.cells #[.int .u8 0, .int .u8 0, .int .u32 0, .slice none 0 0, .int .i64 0, .int .u32 0, .int .u32 0, .int .u8 0, .bool false, .int .u32 0, .slice none 0 0] 36)).alloc (.cells #[.int .u8 0, .int .u32 0] 38)) (w1.heap.size + 1) 38 (ftc 0 0)) := by show Row _ _ _ _; rw [ftc_eq]; exact Row.made _ _ _ (by simp)
  have HBe : Hid (Below w1.heap.size w1 ((w1.alloc (.cells #[.int .u8 0, .int .u8 0, .int .u32 0, .slice none 0 0, .int .i64 0, .int .u32 0, .int .u32 0, .int .u8 0, .bool false, .int .u32 0, .slice none 0 0] 36)).alloc (.cells #[.int .u8 0, .int .u32 0] 38))) := ((Below.refl _ _).alloc (Nat.le_refl _) _).alloc (by simp) _
  have HSe : Hid (((w1.alloc (.cells #[.int .u8 0, .int .u8 0, .int .u32 0, .slice none 0 0, .int .i64 0, .int .u32 0, .int .u32 0, .int .u8 0, .bool false, .int .u32 0, .slice none 0 0] 36)).alloc (.cells #[.int .u8 0, .int .u32 0] 38)).heap.size = w1.heap.size + 2) := by show _ = _; simp
  go_upto_region 3 with (first | (refine wpList_sfm (x := (fm0 0 0 0 0)) rfl _ _ rfl rfl rfl HXe.out ?_) | (refine wpList_sft (s := 0) (c := 0) rfl _ _ rfl rfl rfl (HTe.out.setRow' (k := w1.heap.size) (by omega) (Fm.c (fm0 0 0 0 0))) ?_))
  have HX2 := Lib.hid ((HXe.out.setRow (Fm.c (fm0 0 0 0 0))).setRow' (k := w1.heap.size + 1) (by omega) (ftc 0 0))
  have HT2 := Lib.hid ((HTe.out.setRow' (k := w1.heap.size) (by omega) (Fm.c (fm0 0 0 0 0))).setRow (ftc 0 0))
  have HZ := Lib.hid (((Fs.of_below (S := fun k => k = w1.heap.size ∨ k = w1.heap.size + 1) HBe.out).setRow (g := w1.heap.size) (fun _ => .inl rfl) (Fm.c (fm0 0 0 0 0))).setRow (g := w1.heap.size + 1) (fun _ => .inr rfl) (ftc 0 0))
  have HW := Lib.hid (HZ.out.below (B := w1.heap.size) (fun k hk _ => by omega) (Nat.le_refl _))
  have HB2 := Lib.hid (HB1.out.trans (HW.out.mono HB1.out.size))
  have HG2 := Lib.hid (HG1.out.below HW.out)
  generalize ((((w1.alloc (.cells #[.int .u8 0, .int .u8 0, .int .u32 0, .slice none 0 0, .int .i64 0, .int .u32 0, .int .u32 0, .int .u8 0, .bool false, .int .u32 0, .slice none 0 0] 36)).alloc (.cells #[.int .u8 0, .int .u32 0] 38)).setRow w1.heap.size (Fm.c (fm0 0 0 0 0))).setRow (w1.heap.size + 1) (ftc 0 0)) = w2 at *
  generalize w1.heap.size = p at *
  clear HXe HTe HBe HSe HZ HW HB1 HG1
  go_wp2_with fail
  refine (preface_any _).mono ?_
  rintro e w3 ⟨rfl, hm3, hb3⟩
  obtain ⟨w4, hcl, hf4⟩ := clear_mk (c := 24) hm3
  have hcl' : ∀ ty, (Builtin.clear_ #[22] ty #[.slice (some ⟨w2.heap.size, 0, none⟩) 24 24]).run Tryd.prog w3 = .ok (.tuple #[]) w4 := hcl
  have hb4 : Below w2.heap.size w2 w4 := hb3.trans (hf4.below (fun k hk _ => by omega) hb3.size)
  have HX4 := Lib.hid (HX2.out.below hb4 HX2.out.lt)
  have HT4 := Lib.hid (HT2.out.below hb4 HT2.out.lt)
  have HB4 := Lib.hid (HB2.out.trans (hb4.mono HB2.out.size))
  have HG4 := Lib.hid (HG2.out.below hb4)
  clear hm3 hcl hf4 hb4 hb3 HX2 HT2 HB2 HG2
  go_wp2_with fail
  have f4 : w4.drew.cell? ⟨p, 4, none⟩ = some (.int .i64 0) := (fm_cells HX4.out).2.2.2.2.1
  have ft := ft_00c
  refine wp_region_held_drew (S := fun w' => w'.cell? ⟨p, 4, none⟩ = some (.int .i64 0) ∧ Row w' (p + 1) 38 (ftc 0 0)) (by kernel_rfl) ⟨f4, HT4.out⟩ (fun hHeld => ?_)
  have HB5 : Hid (Below w.heap.size w w4.drew) := below_dN HB4.out 1
  have HG5 : Hid (GlobE w4.drew) := HG4.out
  clear HB4 HG4 HX4 HT4 f4
  refine wpAnyH_ready (rs := [0]) (by kernel_rfl) (by simp) ?_
  refine AllReadyH.cons rfl (fun K hK => ?_) AllReadyH.nil
  go_simp
  go_at_call 7
  refine (fixed_any8 _ HG5.out).mono ?_
  rintro e w' ⟨rfl, hb⟩
  have q1 := (hb.cell (p := ⟨p, 4, none⟩) (World.block_lt_of_cell? _ _ hHeld.1)).trans hHeld.1
  have q2 := hHeld.2.below hb hHeld.2.lt
  have HB6 := Lib.hid (HB5.out.trans (hb.mono HB5.out.size))
  clear hb
  refine hK.out _ _ ⟨q1, q2⟩ (fun hHeld => ?_)
  clear hK K
  try simp only [Act.put, List.getElem_toArray, List.getElem_cons_zero, List.getElem_cons_succ, List.setIfInBounds_toArray, List.set_cons_zero, List.set_cons_succ]
  refine wpAnyH_take (i := 1) (v := ?v1) rfl (by kernel_rfl) (by kernel_rfl) (by kernel_rfl) (fun _ _ _ h => h) (Or.inl ⟨by rfl, ?hy1⟩) (by assumption) ?rest1
  case hy1 => (intro w hSw; (try dsimp only at hSw); go_simp <;> with_reducible rfl)
  try simp only [Act.put, List.getElem_toArray, List.getElem_cons_zero, List.getElem_cons_succ, List.setIfInBounds_toArray, List.set_cons_zero, List.set_cons_succ]
  refine wpAnyH_take (i := 2) (v := ?v2) rfl (by kernel_rfl) (by kernel_rfl) (by kernel_rfl) (fun _ _ _ h => h) (Or.inl ⟨by rfl, ?hy2⟩) (by assumption) ?rest2
  case hy2 => (intro w hSw; (try dsimp only at hSw); go_simp <;> with_reducible rfl)
  try simp only [Act.put, List.getElem_toArray, List.getElem_cons_zero, List.getElem_cons_succ, List.setIfInBounds_toArray, List.set_cons_zero, List.set_cons_succ]
  refine wpAnyH_take (i := 3) (v := ?v3) rfl (by kernel_rfl) (by kernel_rfl) (by kernel_rfl) (fun _ _ _ h => h) (Or.inl ⟨by rfl, ?hy3⟩) (by assumption) ?rest3
  case hy3 => (intro w hSw; (try dsimp only at hSw); go_simp <;> with_reducible rfl)
  try simp only [Act.put, List.getElem_toArray, List.getElem_cons_zero, List.getElem_cons_succ, List.setIfInBounds_toArray, List.set_cons_zero, List.set_cons_succ]
  refine wpAnyH_ready (rs := [4]) (by kernel_rfl) (by simp) ?_
  refine AllReadyH.cons rfl (fun K hK => ?_) AllReadyH.nil
  go_simp
  go_at_call 15
  refine (feed_nil _ _).mono ?_
  rintro e w' ⟨rfl, rfl⟩
  refine hK.out _ _ hHeld (fun hHeld => ?_)
  clear hK K
  try simp only [Act.put, List.getElem_toArray, List.getElem_cons_zero, List.getElem_cons_succ, List.setIfInBounds_toArray, List.set_cons_zero, List.set_cons_succ]
  refine wpAnyH_take (i := 5) (v := ?v5q1) rfl (by kernel_rfl) (by kernel_rfl) (by kernel_rfl) (fun _ _ _ h => h) (Or.inl ⟨by rfl, ?hy5q1⟩) (by assumption) ?rest5q1
  case hy5q1 => (intro w hSw; (try dsimp only at hSw); go_simp <;> with_reducible rfl)
  try simp only [Act.put, List.getElem_toArray, List.getElem_cons_zero, List.getElem_cons_succ, List.setIfInBounds_toArray, List.set_cons_zero, List.set_cons_succ]
  refine wpAnyH_take (i := 6) (v := ?v6q1) rfl (by kernel_rfl) (by kernel_rfl) (by kernel_rfl) (fun _ _ _ h => h) (Or.inl ⟨by rfl, ?hy6q1⟩) (by assumption) ?rest6q1
  case hy6q1 => (intro w hSw; (try dsimp only at hSw); go_simp <;> with_reducible rfl)
  try simp only [Act.put, List.getElem_toArray, List.getElem_cons_zero, List.getElem_cons_succ, List.setIfInBounds_toArray, List.set_cons_zero, List.set_cons_succ]
  refine wpAnyH_take (i := 7) (v := ?v7q1) rfl (by kernel_rfl) (by kernel_rfl) (by kernel_rfl) (fun _ _ _ h => h) (Or.inl ⟨by rfl, ?hy7q1⟩) (by assumption) ?rest7q1
  case hy7q1 => (intro w hSw; (try dsimp only at hSw); go_simp <;> with_reducible rfl)
  try simp only [Act.put, List.getElem_toArray, List.getElem_cons_zero, List.getElem_cons_succ, List.setIfInBounds_toArray, List.set_cons_zero, List.set_cons_succ]
  refine wpAnyH_take (i := 8) (v := ?v8q1) rfl (by kernel_rfl) (by kernel_rfl) (by kernel_rfl) (fun _ _ _ h => h) (Or.inl ⟨by rfl, ?hy8q1⟩) (by assumption) ?rest8q1
  case hy8q1 => (intro w hSw; (try dsimp only at hSw); go_simp <;> with_reducible rfl)
  try simp only [Act.put, List.getElem_toArray, List.getElem_cons_zero, List.getElem_cons_succ, List.setIfInBounds_toArray, List.set_cons_zero, List.set_cons_succ]
  refine wpAnyH_ready (rs := [9]) (by kernel_rfl) (by simp) ?_
  refine AllReadyH.cons rfl (fun K hK => ?_) AllReadyH.nil
  go_simp
  go_at_call 13
  refine (hld_nil _).mono ?_
  rintro e w' ⟨rfl, rfl⟩
  refine hK.out _ _ hHeld (fun hHeld => ?_)
  clear hK K
  try simp only [Act.put, List.getElem_toArray, List.getElem_cons_zero, List.getElem_cons_succ, List.setIfInBounds_toArray, List.set_cons_zero, List.set_cons_succ]
  refine wpAnyH_take (i := 10) (v := ?v10q2) rfl (by kernel_rfl) (by kernel_rfl) (by kernel_rfl) (fun _ _ _ h => h) (Or.inl ⟨by rfl, ?hy10q2⟩) (by assumption) ?rest10q2
  case hy10q2 => (intro w hSw; (try dsimp only at hSw); go_simp <;> with_reducible rfl)
  try simp only [Act.put, List.getElem_toArray, List.getElem_cons_zero, List.getElem_cons_succ, List.setIfInBounds_toArray, List.set_cons_zero, List.set_cons_succ]
  refine wpAnyH_take (i := 11) (v := ?v11q2) rfl (by kernel_rfl) (by kernel_rfl) (by kernel_rfl) (fun _ _ _ h => h) (Or.inl ⟨by rfl, ?hy11q2⟩) (by assumption) ?rest11q2
  case hy11q2 => (intro w hSw; (try dsimp only at hSw); go_simp <;> with_reducible rfl)
  try simp only [Act.put, List.getElem_toArray, List.getElem_cons_zero, List.getElem_cons_succ, List.setIfInBounds_toArray, List.set_cons_zero, List.set_cons_succ]
  refine wpAnyH_take (i := 12) (v := ?v12q2) rfl (by kernel_rfl) (by kernel_rfl) (by kernel_rfl) (fun _ _ _ h => h) (Or.inl ⟨by rfl, ?hy12q2⟩) (by assumption) ?rest12q2
  case hy12q2 => (intro w hSw; (try dsimp only at hSw); go_simp <;> with_reducible rfl)
  try simp only [Act.put, List.getElem_toArray, List.getElem_cons_zero, List.getElem_cons_succ, List.setIfInBounds_toArray, List.set_cons_zero, List.set_cons_succ]
  refine wpAnyH_take (i := 13) (v := ?v13q2) rfl (by kernel_rfl) (by kernel_rfl) (by kernel_rfl) (fun _ _ _ h => h) (Or.inl ⟨by rfl, ?hy13q2⟩) (by assumption) ?rest13q2
  case hy13q2 => (intro w hSw; (try dsimp only at hSw); go_simp <;> with_reducible rfl)
  try simp only [Act.put, List.getElem_toArray, List.getElem_cons_zero, List.getElem_cons_succ, List.setIfInBounds_toArray, List.set_cons_zero, List.set_cons_succ]
  refine wpAnyH_ready (rs := [14]) (by kernel_rfl) (by simp) ?_
  refine AllReadyH.cons rfl (fun K hK => ?_) AllReadyH.nil
  go_simp
  go_at_call 12
  refine (bad_nil _).mono ?_
  rintro e w' ⟨rfl, rfl⟩
  refine hK.out _ _ hHeld (fun hHeld => ?_)
  clear hK K
  try simp only [Act.put, List.getElem_toArray, List.getElem_cons_zero, List.getElem_cons_succ, List.setIfInBounds_toArray, List.set_cons_zero, List.set_cons_succ]
  refine wpAnyH_take (i := 15) (v := ?v15q3) rfl (by kernel_rfl) (by kernel_rfl) (by kernel_rfl) (fun _ _ _ h => h) (Or.inl ⟨by rfl, ?hy15q3⟩) (by assumption) ?rest15q3
  case hy15q3 => (intro w hSw; (try dsimp only at hSw); go_simp <;> with_reducible rfl)
  try simp only [Act.put, List.getElem_toArray, List.getElem_cons_zero, List.getElem_cons_succ, List.setIfInBounds_toArray, List.set_cons_zero, List.set_cons_succ]
  refine wpAnyH_take (i := 16) (v := ?v16q3) rfl (by kernel_rfl) (by kernel_rfl) (by kernel_rfl) (fun _ _ _ h => h) (Or.inl ⟨by rfl, ?hy16q3⟩) (by assumption) ?rest16q3
  case hy16q3 => (intro w hSw; (try dsimp only at hSw); go_simp <;> with_reducible rfl)
  try simp only [Act.put, List.getElem_toArray, List.getElem_cons_zero, List.getElem_cons_succ, List.setIfInBounds_toArray, List.set_cons_zero, List.set_cons_succ]
  refine wpAnyH_take (i := 17) (v := ?v17q3) rfl (by kernel_rfl) (by kernel_rfl) (by kernel_rfl) (fun _ _ _ h => h) (Or.inl ⟨by rfl, ?hy17q3⟩) (by assumption) ?rest17q3
  case hy17q3 => (intro w hSw; (try dsimp only at hSw); go_simp <;> with_reducible rfl)
  try simp only [Act.put, List.getElem_toArray, List.getElem_cons_zero, List.getElem_cons_succ, List.setIfInBounds_toArray, List.set_cons_zero, List.set_cons_succ]
  refine wpAnyH_take (i := 18) (v := ?v18q3) rfl (by kernel_rfl) (by kernel_rfl) (by kernel_rfl) (fun _ _ _ h => h) (Or.inl ⟨by rfl, ?hy18q3⟩) (by assumption) ?rest18q3
  case hy18q3 => (intro w hSw; (try dsimp only at hSw); go_simp <;> with_reducible rfl)
  try simp only [Act.put, List.getElem_toArray, List.getElem_cons_zero, List.getElem_cons_succ, List.setIfInBounds_toArray, List.set_cons_zero, List.set_cons_succ]
  refine wpAnyH_take (i := 19) (v := ?v19q3) rfl (by kernel_rfl) (by kernel_rfl) (by kernel_rfl) (fun _ _ _ h => h) (Or.inl ⟨by rfl, ?hy19q3⟩) (by assumption) ?rest19q3
  case hy19q3 => (intro w hSw; (try dsimp only at hSw); go_simp <;> with_reducible rfl)
  try simp only [Act.put, List.getElem_toArray, List.getElem_cons_zero, List.getElem_cons_succ, List.setIfInBounds_toArray, List.set_cons_zero, List.set_cons_succ]
  refine wpAnyH_take (i := 20) (v := ?v20q3) rfl (by kernel_rfl) (by kernel_rfl) (by kernel_rfl) (fun _ _ _ h => h) (Or.inl ⟨by rfl, ?hy20q3⟩) (by assumption) ?rest20q3
  case hy20q3 => (intro w hSw; (try dsimp only at hSw); go_simp <;> with_reducible rfl)
  try simp only [Act.put, List.getElem_toArray, List.getElem_cons_zero, List.getElem_cons_succ, List.setIfInBounds_toArray, List.set_cons_zero, List.set_cons_succ]
  refine wpAnyH_take (i := 21) (v := _) rfl (by kernel_rfl) (by kernel_rfl) (by kernel_rfl) (fun _ _ _ h => h) (yields_ft (by rfl) _ rfl rfl (fun _ hSw => hSw.2)) (by assumption) ?rest21q4
  try simp only [Act.put, List.getElem_toArray, List.getElem_cons_zero, List.getElem_cons_succ, List.setIfInBounds_toArray, List.set_cons_zero, List.set_cons_succ]
  refine wpAnyH_take (i := 22) (v := ?v22q5) rfl (by kernel_rfl) (by kernel_rfl) (by kernel_rfl) (fun _ _ _ h => h) (Or.inl ⟨by rfl, ?hy22q5⟩) (by assumption) ?rest22q5
  case hy22q5 => (intro w hSw; (try dsimp only at hSw); go_simp <;> with_reducible rfl)
  try simp only [Act.put, List.getElem_toArray, List.getElem_cons_zero, List.getElem_cons_succ, List.setIfInBounds_toArray, List.set_cons_zero, List.set_cons_succ]
  refine wpAnyH_take (i := 23) (v := ?v23q5) rfl (by kernel_rfl) (by kernel_rfl) (by kernel_rfl) (fun _ _ _ h => h) (Or.inl ⟨by rfl, ?hy23q5⟩) (by assumption) ?rest23q5
  case hy23q5 => (intro w hSw; (try dsimp only at hSw); go_simp <;> with_reducible rfl)
  try simp only [Act.put, List.getElem_toArray, List.getElem_cons_zero, List.getElem_cons_succ, List.setIfInBounds_toArray, List.set_cons_zero, List.set_cons_succ]
  refine wpAnyH_take (i := 24) (v := ?v24q5) rfl (by kernel_rfl) (by kernel_rfl) (by kernel_rfl) (fun _ _ _ h => h) (Or.inl ⟨by rfl, ?hy24q5⟩) (by assumption) ?rest24q5
  case hy24q5 => (intro w hSw; (try dsimp only at hSw); go_simp <;> with_reducible rfl)
  try simp only [Act.put, List.getElem_toArray, List.getElem_cons_zero, List.getElem_cons_succ, List.setIfInBounds_toArray, List.set_cons_zero, List.set_cons_succ]
  refine wpAnyH_take (i := 25) (v := ?v25q5) rfl (by kernel_rfl) (by kernel_rfl) (by kernel_rfl) (fun _ _ _ h => h) (Or.inl ⟨by rfl, ?hy25q5⟩) (by assumption) ?rest25q5
  case hy25q5 => (intro w hSw; (try dsimp only at hSw); go_simp <;> with_reducible rfl)
  try simp only [Act.put, List.getElem_toArray, List.getElem_cons_zero, List.getElem_cons_succ, List.setIfInBounds_toArray, List.set_cons_zero, List.set_cons_succ]
  refine wpAnyH_take (i := 26) (v := ?v26q5) rfl (by kernel_rfl) (by kernel_rfl) (by kernel_rfl) (fun _ _ _ h => h) (Or.inl ⟨by rfl, ?hy26q5⟩) (by assumption) ?rest26q5
  case hy26q5 => (intro w hSw; (try dsimp only at hSw); go_simp <;> with_reducible rfl)
  try simp only [Act.put, List.getElem_toArray, List.getElem_cons_zero, List.getElem_cons_succ, List.setIfInBounds_toArray, List.set_cons_zero, List.set_cons_succ]
  refine wpAnyH_take (i := 27) (v := ?v27q5) rfl (by kernel_rfl) (by kernel_rfl) (by kernel_rfl) (fun _ _ _ h => h) (Or.inl ⟨by rfl, ?hy27q5⟩) (by assumption) ?rest27q5
  case hy27q5 => (intro w hSw; (try dsimp only at hSw); go_simp <;> with_reducible rfl)
  try simp only [Act.put, List.getElem_toArray, List.getElem_cons_zero, List.getElem_cons_succ, List.setIfInBounds_toArray, List.set_cons_zero, List.set_cons_succ]
  refine wpAnyH_take (i := 28) (v := ?v28q5) rfl (by kernel_rfl) (by kernel_rfl) (by kernel_rfl) (fun _ _ _ h => h) (Or.inl ⟨by rfl, ?hy28q5⟩) (by assumption) ?rest28q5
  case hy28q5 => (intro w hSw; (try dsimp only at hSw); go_simp <;> with_reducible rfl)
  try simp only [Act.put, List.getElem_toArray, List.getElem_cons_zero, List.getElem_cons_succ, List.setIfInBounds_toArray, List.set_cons_zero, List.set_cons_succ]
  refine wpAnyH_take (i := 29) (v := ?v29q5) rfl (by kernel_rfl) (by kernel_rfl) (by kernel_rfl) (fun _ _ _ h => h) (Or.inl ⟨by rfl, ?hy29q5⟩) (by assumption) ?rest29q5
  case hy29q5 => (intro w hSw; (try dsimp only at hSw); go_simp <;> with_reducible rfl)
  try simp only [Act.put, List.getElem_toArray, List.getElem_cons_zero, List.getElem_cons_succ, List.setIfInBounds_toArray, List.set_cons_zero, List.set_cons_succ]
  refine wpAnyH_take (i := 30) (v := ?v30q5) rfl (by kernel_rfl) (by kernel_rfl) (by kernel_rfl) (fun _ _ _ h => h) (Or.inl ⟨by rfl, ?hy30q5⟩) (by assumption) ?rest30q5
  case hy30q5 => (intro w hSw; (try dsimp only at hSw); go_simp <;> with_reducible rfl)
  try simp only [Act.put, List.getElem_toArray, List.getElem_cons_zero, List.getElem_cons_succ, List.setIfInBounds_toArray, List.set_cons_zero, List.set_cons_succ]
  refine wpAnyH_ready (rs := [31]) (by kernel_rfl) (by simp) ?_
  refine AllReadyH.cons rfl (fun K hK => ?_) AllReadyH.nil
  go_simp
  go_at_call 16
  refine (preface_any _).mono ?_
  rintro e w' ⟨rfl, hm, hb⟩
  have HTX : ∀ W : World, W = w' → (convert 22 9 (.slice (some ⟨_, 0, none⟩) 24 24)).run Tryd.prog W = .ok (.string (tb greetL)) W := fun W e => by subst e; exact run_text (P := Tryd.prog) (c := 24) Tryd.underlying22 Tryd.underlying5 Tryd.underlying9 (hm.reads (Nat.lt_succ_self _))
  have q1 := (hb.cell (p := ⟨p, 4, none⟩) (World.block_lt_of_cell? _ _ hHeld.1)).trans hHeld.1
  have q2 := hHeld.2.below hb hHeld.2.lt
  have HB7 := Lib.hid (HB6.out.trans (hb.mono HB6.out.size))
  clear hb
  refine hK.out _ _ ⟨q1, q2⟩ (fun hHeld => ?_)
  clear hK K
  try simp only [Act.put, List.getElem_toArray, List.getElem_cons_zero, List.getElem_cons_succ, List.setIfInBounds_toArray, List.set_cons_zero, List.set_cons_succ]
  clear q1 q2 hm
  have htx := HTX _ rfl
  have heq : ((tb greetL).toList == (tb greetL).toList) = true := by simp
  clear HTX
  unfold tb at htx heq
  have hrp := rpref_any
  unfold tb at hrp
  refine wpAnyH_ready (rs := [32, 33]) (by kernel_rfl) (by simp) ?_
  refine AllReadyH.cons rfl (fun K hK => ?_) (AllReadyH.cons rfl (fun K hK => ?_) AllReadyH.nil)
  · go_simp
    refine hK.out _ _ hHeld (fun hHeld => ?_)
    clear hK K
    try simp only [Act.put, List.getElem_toArray, List.getElem_cons_zero, List.getElem_cons_succ, List.setIfInBounds_toArray, List.set_cons_zero, List.set_cons_succ]
    refine wpAnyH_ready (rs := [33]) (by kernel_rfl) (by simp) ?_
    refine AllReadyH.cons rfl (fun K hK => ?_) AllReadyH.nil
    go_simp
    go_at_call 20
    refine (hrp _).mono ?_
    rintro e w9 ⟨rfl, rfl⟩
    refine hK.out _ _ hHeld (fun hHeld => ?_)
    clear hK K
    try simp only [Act.put, List.getElem_toArray, List.getElem_cons_zero, List.getElem_cons_succ, List.setIfInBounds_toArray, List.set_cons_zero, List.set_cons_succ]
    refine wpAnyH_take (i := 34) (v := ?v34q6) rfl (by kernel_rfl) (by kernel_rfl) (by kernel_rfl) (fun _ _ _ h => h) (Or.inl ⟨by rfl, ?hy34q6⟩) (by assumption) ?rest34q6
    case hy34q6 => (intro w hSw; (try dsimp only at hSw); go_simp <;> with_reducible rfl)
    try simp only [Act.put, List.getElem_toArray, List.getElem_cons_zero, List.getElem_cons_succ, List.setIfInBounds_toArray, List.set_cons_zero, List.set_cons_succ]
    refine wpAnyH_take (i := 35) (v := ?v35q6) rfl (by kernel_rfl) (by kernel_rfl) (by kernel_rfl) (fun _ _ _ h => h) (Or.inl ⟨by rfl, ?hy35q6⟩) (by assumption) ?rest35q6
    case hy35q6 => (intro w hSw; (try dsimp only at hSw); go_simp <;> with_reducible rfl)
    try simp only [Act.put, List.getElem_toArray, List.getElem_cons_zero, List.getElem_cons_succ, List.setIfInBounds_toArray, List.set_cons_zero, List.set_cons_succ]
    refine wpAnyH_take (i := 36) (v := ?v36q6) rfl (by kernel_rfl) (by kernel_rfl) (by kernel_rfl) (fun _ _ _ h => h) (Or.inl ⟨by rfl, ?hy36q6⟩) (by assumption) ?rest36q6
    case hy36q6 => (intro w hSw; (try dsimp only at hSw); go_simp <;> with_reducible rfl)
    try simp only [Act.put, List.getElem_toArray, List.getElem_cons_zero, List.getElem_cons_succ, List.setIfInBounds_toArray, List.set_cons_zero, List.set_cons_succ]
    refine wpAnyH_done (by kernel_rfl) ?_ _
    go_wp2_with fail
    go_ret
    exact ⟨rfl, HB7.out⟩
  · go_simp
    go_at_call 20
    refine (hrp _).mono ?_
    rintro e w9 ⟨rfl, rfl⟩
    refine hK.out _ _ hHeld (fun hHeld => ?_)
    clear hK K
    try simp only [Act.put, List.getElem_toArray, List.getElem_cons_zero, List.getElem_cons_succ, List.setIfInBounds_toArray, List.set_cons_zero, List.set_cons_succ]
    refine wpAnyH_ready (rs := [32]) (by kernel_rfl) (by simp) ?_
    refine AllReadyH.cons rfl (fun K hK => ?_) AllReadyH.nil
    go_simp
    refine hK.out _ _ hHeld (fun hHeld => ?_)
    clear hK K
    try simp only [Act.put, List.getElem_toArray, List.getElem_cons_zero, List.getElem_cons_succ, List.setIfInBounds_toArray, List.set_cons_zero, List.set_cons_succ]
    refine wpAnyH_take (i := 34) (v := ?v34q7) rfl (by kernel_rfl) (by kernel_rfl) (by kernel_rfl) (fun _ _ _ h => h) (Or.inl ⟨by rfl, ?hy34q7⟩) (by assumption) ?rest34q7
    case hy34q7 => (intro w hSw; (try dsimp only at hSw); go_simp <;> with_reducible rfl)
    try simp only [Act.put, List.getElem_toArray, List.getElem_cons_zero, List.getElem_cons_succ, List.setIfInBounds_toArray, List.set_cons_zero, List.set_cons_succ]
    refine wpAnyH_take (i := 35) (v := ?v35q7) rfl (by kernel_rfl) (by kernel_rfl) (by kernel_rfl) (fun _ _ _ h => h) (Or.inl ⟨by rfl, ?hy35q7⟩) (by assumption) ?rest35q7
    case hy35q7 => (intro w hSw; (try dsimp only at hSw); go_simp <;> with_reducible rfl)
    try simp only [Act.put, List.getElem_toArray, List.getElem_cons_zero, List.getElem_cons_succ, List.setIfInBounds_toArray, List.set_cons_zero, List.set_cons_succ]
    refine wpAnyH_take (i := 36) (v := ?v36q7) rfl (by kernel_rfl) (by kernel_rfl) (by kernel_rfl) (fun _ _ _ h => h) (Or.inl ⟨by rfl, ?hy36q7⟩) (by assumption) ?rest36q7
    case hy36q7 => (intro w hSw; (try dsimp only at hSw); go_simp <;> with_reducible rfl)
    try simp only [Act.put, List.getElem_toArray, List.getElem_cons_zero, List.getElem_cons_succ, List.setIfInBounds_toArray, List.set_cons_zero, List.set_cons_succ]
    refine wpAnyH_done (by kernel_rfl) ?_ _
    go_wp2_with fail
    go_ret
    exact ⟨rfl, HB7.out⟩
end Go.Proofs.YtnjnepploockiaaDoor
