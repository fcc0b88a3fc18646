/-
  SplitGreat: the law's walk. Conditions: errors.errorType holds what the program's text lays.
-/
import Derived.Test.YtnjnepploockiaaDoorSpfx
import Derived.Test.YtnjnepploockiaaDoorRgt
namespace Go.Proofs.YtnjnepploockiaaDoor
open Go.RowKit Go.WideShapes

theorem nf_big {x : List UInt8} {S : Nat} (hS : 16384 < S) (hS2 : S ≤ 40000) (hx : x = headL S 0 0 1) : nsN x false false = (some (greatN x), [], false, true) := by
  have hl : x.length = 9 := by rw [hx]; exact headL_length ..
  have hw : wholeN x = 9 + S := by
    unfold wholeN
    rw [hx]
    unfold headL
    rw [List.append_assoc, take_app (be_length 3 _), valL_be 3 _ (by omega)]
  refine nsN_fault (w' := false) (r := x) ?_ rfl
  unfold nxN
  rw [if_neg (by simp)]
  unfold nfN
  rw [if_neg (by omega), if_pos (by omega)]
theorem nf_fit {x z : List UInt8} {S : Nat} (hS : S ≤ 16384) (hx : x = headL S 0 0 1) (hz : z.length = S) : nsN (x ++ z) false false = (some (bodyN 0 0 1 (-1) z, 0, 0), [], false, false) := by
  have hl : x.length = 9 := by rw [hx]; exact headL_length ..
  have hw : wholeN (x ++ z) = 9 + S := by
    rw [whole_app (by omega)]
    unfold wholeN
    rw [hx]
    unfold headL
    rw [List.append_assoc, take_app (be_length 3 _), valL_be 3 _ (by omega)]
  have hlen : (x ++ z).length = 9 + S := by rw [List.length_append, hl, hz]
  have hg : getN (x ++ z) = (bodyN 0 0 1 (-1) z, 0, 0) := by
    rw [hx, getN_head S 0 0 1 z (by omega) (by omega) (by omega) (by omega) hz]
    refine rd_ok (r := z) (p := -1) (by omega) (by decide) (by unfold padN; rw [if_neg (by decide)]) ?_ ?_
    · exact decide_eq_true (by unfold LenP; omega)
    · unfold growN; rw [if_neg (by omega)]
  refine nsN_go (w' := false) (r := []) ?_ (by show (0 : Nat) ≠ 1; decide)
  unfold nxN
  rw [if_neg (by simp)]
  unfold nfN
  rw [if_neg (by omega), if_neg (by omega), if_neg (by omega), hw, ← hlen, List.take_length, List.drop_length, hg]
theorem ft_16c (w : World) : (binOp .eql 38 (.agg (ftc 1 6)) (.agg #[.int .u8 1, .int .u32 6])).run Tryd.prog w = .ok (.bool true) w := by rw [ftc_eq]; exact ft_16 w
attribute [local irreducible] Fm.c ftc
set_option maxRecDepth 100000 in
set_option maxHeartbeats 4000000 in
theorem great_true {n : Nat} {w : World} (hn : n < 65536) (hG : GlobE w) :
    Calls Tryd.prog 6 #[.int .u16 n, .bool true] w fun e w' => e = .returned (.bool true) ∧ Below w.heap.size w w' := by
  obtain ⟨i0, hi0, hz0, hz1, hz2⟩ := info_parts u8_info
  have hnew := new_any w false hG
  have HG := Lib.hid hG
  have hmod : ((n : Int) % 16385) = ((n % 16385 : Nat) : Int) := by omega
  have hml : n % 16385 < 16385 := Nat.mod_lt _ (by omega)
  generalize n % 16385 = m0 at *
  clear hG
  go_enter Tryd.func6, Tryd.ntmps6
  go_wp2_with fail
  refine hnew.mono ?_
  rintro e w1 ⟨g, rfl, b, h1, hg1, hb1, hw1⟩
  obtain ⟨S, hSi⟩ : ∃ S : Nat, (S : Int) = (m0 + 16385 : Nat) := ⟨_, rfl⟩
  have hS0 : S = m0 + 16385 := by omega
  have hSb : S ≤ 40000 := by omega
  rw [show ((m0 : Int) + 16385) = (S : Int) by omega]
  have H1 : Hid (Spl w1 g b [] false false) := by show Spl _ _ _ _ _ _; have := h1.spl; rwa [heldL_nil] at this
  have HB1 := Lib.hid hw1
  have hl1 := h1.row.lt
  have hl2 := h1.buf.lt
  have hlo : 0 < b := h1.lo.2
  have hlo2 : 0 < g := h1.lo.1
  have HG1 := Lib.hid (HG.out.fs (S := fun k => w.heap.size ≤ k) ⟨hw1.os, hw1.tape, hw1.output, hw1.size, fun k hk _ => hw1.block k hk⟩ (by have := blk_lt HG.out; omega))
  have HM := Lib.hid hS0
  have HMl := Lib.hid hml
  clear h1 hnew hw1 HG hmod hSi hS0 hml
  have hnum := rnumber_any S 3 (by omega) (by omega)
  have hadd : ∀ W, (Op.stringOp .add (tb (be 3 S)) ⟨#[0, 0, 0, 0, 0, 1]⟩).run Tryd.prog W = .ok (.string (tb (be 3 S ++ [0, 0, 0, 0, 0, 1]))) W := fun W => tb_add (be 3 S) [0, 0, 0, 0, 0, 1] (by rw [be_length]; omega) (by decide) W
  have hx9 : (be 3 S ++ [0, 0, 0, 0, 0, 1]).length = 9 := by rw [List.length_append, be_length]; rfl
  have HX : Hid (be 3 S ++ [0, 0, 0, 0, 0, 1] = headL S 0 0 1) := by rfl
  have HXL := Lib.hid hx9
  generalize be 3 S ++ [0, 0, 0, 0, 0, 1] = x9 at *
  go_wp2_with fail
  refine (hnum _).mono ?_
  rintro e w2 ⟨rfl, hb2⟩
  have H2 := Lib.hid (H1.out.below hb2)
  have HB2 := Lib.hid (HB1.out.trans (hb2.mono HB1.out.size))
  have HG2 := Lib.hid (HG1.out.below hb2)
  have hs2 : w1.heap.size ≤ w2.heap.size := hb2.size
  clear hb2 H1 HB1 HG1 hnum
  obtain ⟨c3, w3, hcv, hc3, hb3, hs3, hr3⟩ := bytes_run x9 w2
  have H3 := Lib.hid (H2.out.below hb3)
  have HB3 := Lib.hid (HB2.out.trans (hb3.mono HB2.out.size))
  have HG3 := Lib.hid (HG2.out.below hb3)
  have hfeed := feed_any (c := c3) (x := x9) H3.out (hr3.imp fun q hq hl => ⟨hl, by omega, by omega⟩)
  rw [hx9] at hfeed hcv
  clear hb3 hr3 H2 HB2 HG2
  go_wp2_with fail
  refine hfeed.mono ?_
  rintro e w4 ⟨rfl, hS, hF⟩
  have H4 : Hid (Spl w4 g b x9 false false) := by show Spl _ _ _ _ _ _; have h0 := hS; unfold fedL at h0; rw [if_neg (by simp), List.nil_append, List.take_of_length_le (by simp only [List.length_nil]; omega)] at h0; exact h0
  have HB4 := Lib.hid (HB3.out.trans (hF.below (B := w.heap.size) (fun k hk _ => by rcases hk with hk | hk <;> omega) HB3.out.size))
  have HG4 := Lib.hid (HG3.out.fs hF (gbS_glob hlo2 hlo))
  have hs4' : w3.heap.size ≤ w4.heap.size := hF.size
  clear hfeed hS hF H3 HB3 HG3 hcv
  have hn := Next_any H4.out HG4.out
  rw [nf_big (S := S) (by have := HM.out; omega) hSb HX.out] at hn
  go_wp2_with fail
  refine hn.mono ?_
  rintro e w5 ⟨v, rfl, ⟨X, s, c, ok, rfl, (hs1 : s = 1), (hc1 : c = 6), rfl, hX⟩, hS5, hF5⟩
  subst hs1 hc1
  have H5 := Lib.hid hS5
  have HB5 := Lib.hid (HB4.out.trans (hF5.below (B := w.heap.size) (fun k hk _ => by rcases hk with hk | hk <;> omega) HB4.out.size))
  have HG5 := Lib.hid (HG4.out.fs hF5 (gbS_glob hlo2 hlo))
  clear hn hS5 hF5 hX H4 HB4 HG4
  have HXe : Hid (Row ((w5.alloc (.cells #[.int .u8 0, .int .u8 0, .int .u32 0, .slice none 0 0, .int .i64 0, .int .u32 0, .int .u32 0, .int .u8 0, .bool false, .int .u32 0, .slice none 0 0] 36)).alloc (.cells #[.int .u8 0, .int .u32 0] 38)) w5.heap.size 36 (fm0 0 0 0 0).c) := by show Row _ _ _ _; rw [z_c]; exact (Row.new w5 _ _).alloc _
  have HTe : Hid (Row ((w5.alloc (.cells #[.int .u8 0, .int .u8 0, .int .u32 0, .slice none 0 0, .int .i64 0, .int .u32 0, .int .u32 0, .int .u8 0, .bool false, .int .u32 0, .slice none 0 0] 36)).alloc (.cells #[.int .u8 0, .int .u32 0] 38)) (w5.heap.size + 1) 38 (ftc 0 0)) := by show Row _ _ _ _; rw [ftc_eq]; exact Row.made _ _ _ (by simp)
  have HBe : Hid (Below w5.heap.size w5 ((w5.alloc (.cells #[.int .u8 0, .int .u8 0, .int .u32 0, .slice none 0 0, .int .i64 0, .int .u32 0, .int .u32 0, .int .u8 0, .bool false, .int .u32 0, .slice none 0 0] 36)).alloc (.cells #[.int .u8 0, .int .u32 0] 38))) := ((Below.refl _ _).alloc (Nat.le_refl _) _).alloc (by simp) _
  have HSe : Hid (((w5.alloc (.cells #[.int .u8 0, .int .u8 0, .int .u32 0, .slice none 0 0, .int .i64 0, .int .u32 0, .int .u32 0, .int .u8 0, .bool false, .int .u32 0, .slice none 0 0] 36)).alloc (.cells #[.int .u8 0, .int .u32 0] 38)).heap.size = w5.heap.size + 2) := by show _ = _; simp
  go_upto_region 9 with (first | (refine wpList_sfm (x := X) rfl _ _ rfl rfl rfl HXe.out ?_) | (refine wpList_sft (s := 1) (c := 6) rfl _ _ rfl rfl rfl (HTe.out.setRow' (k := w5.heap.size) (by omega) (Fm.c X)) ?_))
  have HXf := Lib.hid ((HXe.out.setRow (Fm.c X)).setRow' (k := w5.heap.size + 1) (by omega) (ftc 1 6))
  have HTf := Lib.hid ((HTe.out.setRow' (k := w5.heap.size) (by omega) (Fm.c X)).setRow (ftc 1 6))
  have HZ := Lib.hid (((Fs.of_below (S := fun k => k = w5.heap.size ∨ k = w5.heap.size + 1) HBe.out).setRow (g := w5.heap.size) (fun _ => .inl rfl) (Fm.c X)).setRow (g := w5.heap.size + 1) (fun _ => .inr rfl) (ftc 1 6))
  have HW := Lib.hid (HZ.out.below (B := w5.heap.size) (fun k hk _ => by omega) (Nat.le_refl _))
  have H6 := Lib.hid (H5.out.below HW.out)
  have HB6 := Lib.hid (HB5.out.trans (HW.out.mono HB5.out.size))
  have HG6 := Lib.hid (HG5.out.below HW.out)
  generalize ((((w5.alloc (.cells #[.int .u8 0, .int .u8 0, .int .u32 0, .slice none 0 0, .int .i64 0, .int .u32 0, .int .u32 0, .int .u8 0, .bool false, .int .u32 0, .slice none 0 0] 36)).alloc (.cells #[.int .u8 0, .int .u32 0] 38)).setRow w5.heap.size (Fm.c X)).setRow (w5.heap.size + 1) (ftc 1 6)) = w6 at *
  clear HXe HTe HBe HSe HZ HW H5 HB5 HG5
  go_wp2_with fail
  refine (fixed_any8 _ HG6.out).mono ?_
  rintro e w7 ⟨rfl, hbf⟩
  have H7 := Lib.hid (H6.out.below hbf)
  have HB7 := Lib.hid (HB6.out.trans (hbf.mono HB6.out.size))
  have HXg := Lib.hid (HXf.out.below hbf HXf.out.lt)
  have HTg := Lib.hid (HTf.out.below hbf HTf.out.lt)
  clear hbf H6 HB6 HG6 HXf HTf
  have hsm := ft_16
  have hbd := bad_any H7.out
  go_wp2_with (refine wpList_lftg (by rfl) _ rfl rfl HTg.out ?_)
  refine hbd.mono ?_
  rintro e w8 ⟨rfl, rfl⟩
  clear hbd H7 HXg HTg
  go_wp2_with fail
  go_ret
  exact ⟨rfl, HB7.out⟩
set_option maxRecDepth 100000 in
set_option maxHeartbeats 4000000 in
theorem great_false {n : Nat} {w : World} (hn : n < 65536) (hG : GlobE w) :
    Calls Tryd.prog 6 #[.int .u16 n, .bool false] w fun e w' => e = .returned (.bool true) ∧ Below w.heap.size w w' := by
  obtain ⟨i0, hi0, hz0, hz1, hz2⟩ := info_parts u8_info
  have hnew := new_any w false hG
  have HG := Lib.hid hG
  have hmod : ((n : Int) % 16385) = ((n % 16385 : Nat) : Int) := by omega
  have hml : n % 16385 < 16385 := Nat.mod_lt _ (by omega)
  generalize n % 16385 = m0 at *
  clear hG
  go_enter Tryd.func6, Tryd.ntmps6
  go_wp2_with fail
  refine hnew.mono ?_
  rintro e w1 ⟨g, rfl, b, h1, hg1, hb1, hw1⟩
  obtain ⟨S, hSi⟩ : ∃ S : Nat, (S : Int) = (m0 : Nat) := ⟨_, rfl⟩
  have hS0 : S = m0 := by omega
  have hSb : S ≤ 40000 := by omega
  rw [hmod, ← hSi]
  have H1 : Hid (Spl w1 g b [] false false) := by show Spl _ _ _ _ _ _; have := h1.spl; rwa [heldL_nil] at this
  have HB1 := Lib.hid hw1
  have hl1 := h1.row.lt
  have hl2 := h1.buf.lt
  have hlo : 0 < b := h1.lo.2
  have hlo2 : 0 < g := h1.lo.1
  have HG1 := Lib.hid (HG.out.fs (S := fun k => w.heap.size ≤ k) ⟨hw1.os, hw1.tape, hw1.output, hw1.size, fun k hk _ => hw1.block k hk⟩ (by have := blk_lt HG.out; omega))
  have HM := Lib.hid hS0
  have HMl := Lib.hid hml
  clear h1 hnew hw1 HG hmod hSi hS0 hml
  have hnum := rnumber_any S 3 (by omega) (by omega)
  have hadd : ∀ W, (Op.stringOp .add (tb (be 3 S)) ⟨#[0, 0, 0, 0, 0, 1]⟩).run Tryd.prog W = .ok (.string (tb (be 3 S ++ [0, 0, 0, 0, 0, 1]))) W := fun W => tb_add (be 3 S) [0, 0, 0, 0, 0, 1] (by rw [be_length]; omega) (by decide) W
  have hx9 : (be 3 S ++ [0, 0, 0, 0, 0, 1]).length = 9 := by rw [List.length_append, be_length]; rfl
  have HX : Hid (be 3 S ++ [0, 0, 0, 0, 0, 1] = headL S 0 0 1) := by rfl
  have HXL := Lib.hid hx9
  generalize be 3 S ++ [0, 0, 0, 0, 0, 1] = x9 at *
  go_wp2_with fail
  refine (hnum _).mono ?_
  rintro e w2 ⟨rfl, hb2⟩
  have H2 := Lib.hid (H1.out.below hb2)
  have HB2 := Lib.hid (HB1.out.trans (hb2.mono HB1.out.size))
  have HG2 := Lib.hid (HG1.out.below hb2)
  have hs2 : w1.heap.size ≤ w2.heap.size := hb2.size
  clear hb2 H1 HB1 HG1 hnum
  have hmk : ∀ W : World, (Instr.makeSlice 22 (.int .i64 (S : Int)) (.int .i64 (S : Int))).run Tryd.prog W = .ok (.slice (some ⟨W.heap.size, 0, none⟩) S S) (W.alloc (.cells (madeCells #[Value.int .u8 0] S) 5)) := fun W => by
    have := run_make (P := Tryd.prog) W 22 5 i0 (.int .u8 0) Tryd.underlying22 hi0 hz0 .i64 .i64 (S : Int) (S : Int) (by omega) (by omega) (by rw [hz2]; omega) (by omega)
    rw [this, hz1, Nat.mul_one]
    rfl
  obtain ⟨z, hz⟩ : ∃ z : List UInt8, z = List.replicate S 0 := ⟨_, rfl⟩
  have hzl : z.length = S := by rw [hz]; exact List.length_replicate
  have hMC : (madeCells #[Value.int .u8 0] S).toList = byc z := by rw [hz]; exact made_zeros S
  have HW3 : Hid (Below w2.heap.size w2 (w2.alloc (.cells (madeCells #[Value.int .u8 0] S) 5))) := (Below.refl _ _).alloc (Nat.le_refl _) _
  have htx : (convert 22 9 (.slice (some ⟨w2.heap.size, 0, none⟩) S S)).run Tryd.prog (w2.alloc (.cells (madeCells #[Value.int .u8 0] S) 5)) = .ok (.string (tb z)) (w2.alloc (.cells (madeCells #[Value.int .u8 0] S) 5)) := by
    have := run_text (P := Tryd.prog) (c := S) Tryd.underlying22 Tryd.underlying5 Tryd.underlying9 (RdB.row (Row.new w2 5 (madeCells #[Value.int .u8 0] S)) hMC (Nat.lt_succ_self _))
    rwa [hzl] at this
  have hadd2 := tb_add x9 z (by omega) (by omega)
  have HZL := Lib.hid hzl
  clear hz hMC
  generalize madeCells #[Value.int .u8 0] S = MC at *
  have H3 := Lib.hid (H2.out.below HW3.out)
  have HB3 := Lib.hid (HB2.out.trans (HW3.out.mono HB2.out.size))
  have HG3 := Lib.hid (HG2.out.below HW3.out)
  have hs3 : w2.heap.size ≤ (w2.alloc (.cells MC 5)).heap.size := HW3.out.size
  have hlen : (x9 ++ z).length = 9 + S := by rw [List.length_append, hx9, hzl]
  go_upto_region 11 with fail
  generalize w2.alloc (.cells MC 5) = w3 at *
  clear htx hmk HW3 H2 HB2 HG2 hadd
  obtain ⟨c4, w4, hcv, hc4, hb4, hs4, hr4⟩ := bytes_run (x9 ++ z) w3
  have H4 := Lib.hid (H3.out.below hb4)
  have HB4 := Lib.hid (HB3.out.trans (hb4.mono HB3.out.size))
  have HG4 := Lib.hid (HG3.out.below hb4)
  have hfeed := feed_any (c := c4) (x := (x9 ++ z)) H4.out (hr4.imp fun q hq hl => ⟨hl, by omega, by omega⟩)
  rw [hlen] at hfeed hcv
  clear hb4 hr4 H3 HB3 HG3
  have hfe : fedN [] false (x9 ++ z) = 9 + S := by unfold fedN; rw [if_neg (by simp), hlen, List.length_nil]; have := HM.out; have := HMl.out; omega
  rw [hfe] at hfeed
  have hsz := tb_size (x9 ++ z)
  rw [hlen] at hsz
  go_wp2_with fail
  refine hfeed.mono ?_
  rintro e w5 ⟨rfl, hS, hF⟩
  have H5 : Hid (Spl w5 g b (x9 ++ z) false false) := by show Spl _ _ _ _ _ _; have h0 := hS; have hq := HM.out; have hq2 := HMl.out; unfold fedL at h0; rw [if_neg (by simp), List.nil_append, List.take_of_length_le (by simp only [List.length_nil]; omega)] at h0; exact h0
  have HB5 := Lib.hid (HB4.out.trans (hF.below (B := w.heap.size) (fun k hk _ => by rcases hk with hk | hk <;> omega) HB4.out.size))
  have HG5 := Lib.hid (HG4.out.fs hF (gbS_glob hlo2 hlo))
  have hs5' : w4.heap.size ≤ w5.heap.size := hF.size
  clear hfeed hS hF H4 HB4 HG4 hcv
  have hn := Next_any H5.out HG5.out
  rw [nf_fit (S := S) (by have := HM.out; have := HMl.out; omega) HX.out hzl] at hn
  go_wp2_with fail
  refine hn.mono ?_
  rintro e w6 ⟨v, rfl, ⟨X, s, c, ok, rfl, (hs1 : s = 0), (hc1 : c = 0), rfl, hX⟩, hS6, hF6⟩
  subst hs1 hc1
  have H6 := Lib.hid hS6
  have HB6 := Lib.hid (HB5.out.trans (hF6.below (B := w.heap.size) (fun k hk _ => by rcases hk with hk | hk <;> omega) HB5.out.size))
  have HG6 := Lib.hid (HG5.out.fs hF6 (gbS_glob hlo2 hlo))
  have hdn : X.dn = S := by
    rw [hX.eq]
    show (bodyN 0 0 1 (-1) z).dat.length = S
    rw [← hzl]
    rfl
  have HDN := Lib.hid hdn
  clear hn hS6 hF6 hX hdn H5 HB5 HG5
  have HXe : Hid (Row ((w6.alloc (.cells #[.int .u8 0, .int .u8 0, .int .u32 0, .slice none 0 0, .int .i64 0, .int .u32 0, .int .u32 0, .int .u8 0, .bool false, .int .u32 0, .slice none 0 0] 36)).alloc (.cells #[.int .u8 0, .int .u32 0] 38)) w6.heap.size 36 (fm0 0 0 0 0).c) := by show Row _ _ _ _; rw [z_c]; exact (Row.new w6 _ _).alloc _
  have HTe : Hid (Row ((w6.alloc (.cells #[.int .u8 0, .int .u8 0, .int .u32 0, .slice none 0 0, .int .i64 0, .int .u32 0, .int .u32 0, .int .u8 0, .bool false, .int .u32 0, .slice none 0 0] 36)).alloc (.cells #[.int .u8 0, .int .u32 0] 38)) (w6.heap.size + 1) 38 (ftc 0 0)) := by show Row _ _ _ _; rw [ftc_eq]; exact Row.made _ _ _ (by simp)
  have HBe : Hid (Below w6.heap.size w6 ((w6.alloc (.cells #[.int .u8 0, .int .u8 0, .int .u32 0, .slice none 0 0, .int .i64 0, .int .u32 0, .int .u32 0, .int .u8 0, .bool false, .int .u32 0, .slice none 0 0] 36)).alloc (.cells #[.int .u8 0, .int .u32 0] 38))) := ((Below.refl _ _).alloc (Nat.le_refl _) _).alloc (by simp) _
  have HSe : Hid (((w6.alloc (.cells #[.int .u8 0, .int .u8 0, .int .u32 0, .slice none 0 0, .int .i64 0, .int .u32 0, .int .u32 0, .int .u8 0, .bool false, .int .u32 0, .slice none 0 0] 36)).alloc (.cells #[.int .u8 0, .int .u32 0] 38)).heap.size = w6.heap.size + 2) := by show _ = _; simp
  go_upto_region 14 with (first | (refine wpList_sfm (x := X) rfl _ _ rfl rfl rfl HXe.out ?_) | (refine wpList_sft (s := (0 : Nat)) (c := (0 : Nat)) rfl _ _ rfl rfl rfl (HTe.out.setRow' (k := w6.heap.size) (by omega) (Fm.c X)) ?_))
  have HXf := Lib.hid ((HXe.out.setRow (Fm.c X)).setRow' (k := w6.heap.size + 1) (by omega) (ftc (0 : Nat) (0 : Nat)))
  have HTf := Lib.hid ((HTe.out.setRow' (k := w6.heap.size) (by omega) (Fm.c X)).setRow (ftc (0 : Nat) (0 : Nat)))
  have HZ := Lib.hid (((Fs.of_below (S := fun k => k = w6.heap.size ∨ k = w6.heap.size + 1) HBe.out).setRow (g := w6.heap.size) (fun _ => .inl rfl) (Fm.c X)).setRow (g := w6.heap.size + 1) (fun _ => .inr rfl) (ftc (0 : Nat) (0 : Nat)))
  have HW := Lib.hid (HZ.out.below (B := w6.heap.size) (fun k hk _ => by omega) (Nat.le_refl _))
  have H7 := Lib.hid (H6.out.below HW.out)
  have HB7 := Lib.hid (HB6.out.trans (HW.out.mono HB6.out.size))
  have HG7 := Lib.hid (HG6.out.below HW.out)
  generalize ((((w6.alloc (.cells #[.int .u8 0, .int .u8 0, .int .u32 0, .slice none 0 0, .int .i64 0, .int .u32 0, .int .u32 0, .int .u8 0, .bool false, .int .u32 0, .slice none 0 0] 36)).alloc (.cells #[.int .u8 0, .int .u32 0] 38)).setRow w6.heap.size (Fm.c X)).setRow (w6.heap.size + 1) (ftc (0 : Nat) (0 : Nat))) = w7 at *
  clear HXe HTe HBe HSe HZ HW H6 HB6 HG6
  go_wp2_with fail
  refine (fixed_any8 _ HG7.out).mono ?_
  rintro e w8 ⟨rfl, hbf⟩
  have H8 := Lib.hid (H7.out.below hbf)
  have HB8 := Lib.hid (HB7.out.trans (hbf.mono HB7.out.size))
  have HXg := Lib.hid (HXf.out.below hbf HXf.out.lt)
  have HTg := Lib.hid (HTf.out.below hbf HTf.out.lt)
  clear hbf H7 HB7 HG7 HXf HTf
  have hsm := ft_00
  have c3 : w8.cell? ⟨w6.heap.size, 3, none⟩ = some (.slice X.dA S X.dc) := by
    have := (fm_cells HXg.out).2.2.2.1
    rwa [HDN.out] at this
  have hld := hld_any H8.out
  go_wp2_with (refine wpList_lftg (by rfl) _ rfl rfl HTg.out ?_)
  refine hld.mono ?_
  rintro e w9 ⟨rfl, q, rfl⟩
  have HB9 := Lib.hid (below_dN HB8.out q)
  clear hld H8 HXg HTg HB8
  go_wp2_with fail
  go_ret
  exact ⟨rfl, HB9.out⟩
theorem great_any {n : Nat} {o : Bool} {w : World} (hn : n < 65536) (hG : GlobE w) : Calls Tryd.prog 6 #[.int .u16 n, .bool o] w fun e w' => e = .returned (.bool true) ∧ Below w.heap.size w w' := by
  cases o
  · exact great_false hn hG
  · exact great_true hn hG
end Go.Proofs.YtnjnepploockiaaDoor
