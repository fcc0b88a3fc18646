/-
  next, by its contract. Conditions: errors.errorType holds what the program's text lays.
-/
import Derived.Test.YtnjnepploockiaaDoorSpnf
namespace Go.Proofs.YtnjnepploockiaaDoor
open Go.RowKit Go.WideShapes

def NxPost (w : World) (g b la : Nat) (L : List UInt8) (r : Option Rd × List UInt8 × Bool) (e : Ending) (w' : World) : Prop :=
  ∃ v, e = .returned v ∧ Told w' w.heap.size r.1 v ∧ (∃ fi', SpG w' g b fi' la L r.2.2 ∧ heldL L fi' la = r.2.1) ∧ Fs (gbS g b) w w'
attribute [local irreducible] Fm.c ftc

set_option maxRecDepth 100000 in
set_option maxHeartbeats 4000000 in
theorem nx_A {w : World} {g b fi la : Nat} {L H : List UInt8} {wt : Bool} (h : SpG w g b fi la L wt) (hG : GlobE w) (hH : heldL L fi la = H) (hwt : wt = false) :
    Calls Tryd.prog 26 #[.pointer (some ⟨g, 0, none⟩)] w (NxPost w g b la L ((nfN H).1, (nfN H).2, false)) := by
  have HX0 : Hid (Row ((w.alloc (.cells #[.int .u8 0, .int .u8 0, .int .u32 0, .slice none 0 0, .int .i64 0, .int .u32 0, .int .u32 0, .int .u8 0, .bool false, .int .u32 0, .slice none 0 0] 36)).alloc (.cells #[.int .u8 0, .int .u32 0] 38)) w.heap.size 36 (fm0 0 0 0 0).c) := by show Row _ _ _ _; rw [z_c]; exact (Row.new w _ _).alloc _
  have HT0 : Hid (Row ((w.alloc (.cells #[.int .u8 0, .int .u8 0, .int .u32 0, .slice none 0 0, .int .i64 0, .int .u32 0, .int .u32 0, .int .u8 0, .bool false, .int .u32 0, .slice none 0 0] 36)).alloc (.cells #[.int .u8 0, .int .u32 0] 38)) (w.heap.size + 1) 38 (ftc 0 0)) := by show Row _ _ _ _; rw [ftc_eq]; exact Row.made _ _ _ (by simp)
  have HB0 : Hid (Below w.heap.size w ((w.alloc (.cells #[.int .u8 0, .int .u8 0, .int .u32 0, .slice none 0 0, .int .i64 0, .int .u32 0, .int .u32 0, .int .u8 0, .bool false, .int .u32 0, .slice none 0 0] 36)).alloc (.cells #[.int .u8 0, .int .u32 0] 38))) := ((Below.refl _ _).alloc (Nat.le_refl _) _).alloc (by simp) _
  have HS0 : Hid (((w.alloc (.cells #[.int .u8 0, .int .u8 0, .int .u32 0, .slice none 0 0, .int .i64 0, .int .u32 0, .int .u32 0, .int .u8 0, .bool false, .int .u32 0, .slice none 0 0] 36)).alloc (.cells #[.int .u8 0, .int .u32 0] 38)).heap.size = w.heap.size + 2) := by show _ = _; simp
  have H0 : Hid (SpG ((w.alloc (.cells #[.int .u8 0, .int .u8 0, .int .u32 0, .slice none 0 0, .int .i64 0, .int .u32 0, .int .u32 0, .int .u8 0, .bool false, .int .u32 0, .slice none 0 0] 36)).alloc (.cells #[.int .u8 0, .int .u32 0] 38)) g b fi la L wt) := h.below HB0.out
  have HF0 : Hid (Fs (gbS g b) w ((w.alloc (.cells #[.int .u8 0, .int .u8 0, .int .u32 0, .slice none 0 0, .int .i64 0, .int .u32 0, .int .u32 0, .int .u8 0, .bool false, .int .u32 0, .slice none 0 0] 36)).alloc (.cells #[.int .u8 0, .int .u32 0] 38))) := Fs.of_below HB0.out
  have HG0 : Hid (GlobE ((w.alloc (.cells #[.int .u8 0, .int .u8 0, .int .u32 0, .slice none 0 0, .int .i64 0, .int .u32 0, .int .u32 0, .int .u8 0, .bool false, .int .u32 0, .slice none 0 0] 36)).alloc (.cells #[.int .u8 0, .int .u32 0] 38))) := hG.below HB0.out
  have HL := Lib.hid h.held_len
  have hle := h.le
  have hla := h.la
  have hglt := h.row.lt
  have hblt := h.buf.lt
  have HQ := Lib.hid hH
  have HD := Lib.hid (heldL_drop L fi la)
  rw [hH] at HL HD
  clear h hG hH
  go_enter Tryd.func26, Tryd.ntmps26
  go_upto_region 1 with fail
  generalize ((w.alloc (.cells #[.int .u8 0, .int .u8 0, .int .u32 0, .slice none 0 0, .int .i64 0, .int .u32 0, .int .u32 0, .int .u8 0, .bool false, .int .u32 0, .slice none 0 0] 36)).alloc (.cells #[.int .u8 0, .int .u32 0] 38)) = w1 at *
  have cw := H0.out.c3
  subst hwt
  have hn := nf_any H0.out HG0.out
  rw [HQ.out] at hn
  go_wp2_with fail
  refine hn.mono ?_
  rintro e w5 ⟨v, rfl, ⟨X, s, c, ok, rfl, hT⟩, ⟨fi', h5, hl5⟩, hF5⟩
  have hX5 := hF5.row (b := w.heap.size) (fun e => by rcases e with e | e <;> omega) HX0.out
  have hT5 := hF5.row (b := w.heap.size + 1) (fun e => by rcases e with e | e <;> omega) HT0.out
  have HX5 := Lib.hid hX5
  have HT5 := Lib.hid (hT5.setRow' (k := w.heap.size) (by omega) X.c)
  have H5 := Lib.hid h5
  have HF5 := Lib.hid (HF0.out.trans hF5 (fun k _ e => e))
  have HQ5 := Lib.hid hl5
  have HM5 := Lib.hid (hT.mono (base' := w.heap.size + 2) (by have := HS0.out; omega))
  clear hn hT h5 hl5 hF5 hX5 hT5
  go_wp2_with (first | (with_reducible show wpList _ _ _ _ _ _; first | (refine wpList_sfm (x := X) rfl _ _ rfl rfl rfl HX5.out ?_) | (refine wpList_sft (s := s) (c := c) rfl _ _ rfl rfl rfl HT5.out ?_)))
  refine bodyPost_ret (ret_ffb rfl _ _ w.heap.size (w.heap.size + 1) X s c (.bool ok) rfl ((HX5.out.setRow _).setRow' (by omega) _) rfl (HT5.out.setRow _) rfl) rfl ?_
  have HZ : Fs (fun k => k = w.heap.size ∨ k = w.heap.size + 1) w5 ((w5.setRow w.heap.size X.c).setRow (w.heap.size + 1) (ftc s c)) := ((Fs.refl _ w5).setRow (g := w.heap.size) (fun _ => .inl rfl) X.c).setRow (g := w.heap.size + 1) (fun _ => .inr rfl) (ftc s c)
  exact ⟨_, rfl, ⟨X, s, c, ok, rfl, (HM5.out.keep fun k hk hk2 => HZ.block k hk2 (by omega)).mono (by omega)⟩, ⟨fi', H5.out.fs HZ (by omega) (by omega), HQ5.out⟩, HF5.out.trans HZ (fun k hk h => by omega)⟩

set_option maxRecDepth 100000 in
set_option maxHeartbeats 4000000 in
theorem nx_B {w : World} {g b fi la : Nat} {L H : List UInt8} {wt : Bool} (h : SpG w g b fi la L wt) (hG : GlobE w) (hH : heldL L fi la = H) (hwt : wt = true) (hng : ¬ GreetP H) :
    Calls Tryd.prog 26 #[.pointer (some ⟨g, 0, none⟩)] w (NxPost w g b la L (some noGreet, H, true)) := by
  have HX0 : Hid (Row ((w.alloc (.cells #[.int .u8 0, .int .u8 0, .int .u32 0, .slice none 0 0, .int .i64 0, .int .u32 0, .int .u32 0, .int .u8 0, .bool false, .int .u32 0, .slice none 0 0] 36)).alloc (.cells #[.int .u8 0, .int .u32 0] 38)) w.heap.size 36 (fm0 0 0 0 0).c) := by show Row _ _ _ _; rw [z_c]; exact (Row.new w _ _).alloc _
  have HT0 : Hid (Row ((w.alloc (.cells #[.int .u8 0, .int .u8 0, .int .u32 0, .slice none 0 0, .int .i64 0, .int .u32 0, .int .u32 0, .int .u8 0, .bool false, .int .u32 0, .slice none 0 0] 36)).alloc (.cells #[.int .u8 0, .int .u32 0] 38)) (w.heap.size + 1) 38 (ftc 0 0)) := by show Row _ _ _ _; rw [ftc_eq]; exact Row.made _ _ _ (by simp)
  have HB0 : Hid (Below w.heap.size w ((w.alloc (.cells #[.int .u8 0, .int .u8 0, .int .u32 0, .slice none 0 0, .int .i64 0, .int .u32 0, .int .u32 0, .int .u8 0, .bool false, .int .u32 0, .slice none 0 0] 36)).alloc (.cells #[.int .u8 0, .int .u32 0] 38))) := ((Below.refl _ _).alloc (Nat.le_refl _) _).alloc (by simp) _
  have HS0 : Hid (((w.alloc (.cells #[.int .u8 0, .int .u8 0, .int .u32 0, .slice none 0 0, .int .i64 0, .int .u32 0, .int .u32 0, .int .u8 0, .bool false, .int .u32 0, .slice none 0 0] 36)).alloc (.cells #[.int .u8 0, .int .u32 0] 38)).heap.size = w.heap.size + 2) := by show _ = _; simp
  have H0 : Hid (SpG ((w.alloc (.cells #[.int .u8 0, .int .u8 0, .int .u32 0, .slice none 0 0, .int .i64 0, .int .u32 0, .int .u32 0, .int .u8 0, .bool false, .int .u32 0, .slice none 0 0] 36)).alloc (.cells #[.int .u8 0, .int .u32 0] 38)) g b fi la L wt) := h.below HB0.out
  have HF0 : Hid (Fs (gbS g b) w ((w.alloc (.cells #[.int .u8 0, .int .u8 0, .int .u32 0, .slice none 0 0, .int .i64 0, .int .u32 0, .int .u32 0, .int .u8 0, .bool false, .int .u32 0, .slice none 0 0] 36)).alloc (.cells #[.int .u8 0, .int .u32 0] 38))) := Fs.of_below HB0.out
  have HG0 : Hid (GlobE ((w.alloc (.cells #[.int .u8 0, .int .u8 0, .int .u32 0, .slice none 0 0, .int .i64 0, .int .u32 0, .int .u32 0, .int .u8 0, .bool false, .int .u32 0, .slice none 0 0] 36)).alloc (.cells #[.int .u8 0, .int .u32 0] 38))) := hG.below HB0.out
  have HL := Lib.hid h.held_len
  have hle := h.le
  have hla := h.la
  have hglt := h.row.lt
  have hblt := h.buf.lt
  have HQ := Lib.hid hH
  have HD := Lib.hid (heldL_drop L fi la)
  rw [hH] at HL HD
  clear h hG hH
  go_enter Tryd.func26, Tryd.ntmps26
  go_upto_region 1 with fail
  generalize ((w.alloc (.cells #[.int .u8 0, .int .u8 0, .int .u32 0, .slice none 0 0, .int .i64 0, .int .u32 0, .int .u32 0, .int .u8 0, .bool false, .int .u32 0, .slice none 0 0] 36)).alloc (.cells #[.int .u8 0, .int .u32 0] 38)) = w1 at *
  have cw := H0.out.c3
  subst hwt
  have hh0 := held_any H0.out
  rw [HQ.out] at hh0
  obtain ⟨m, hm⟩ : ∃ m, m = la - fi := ⟨_, rfl⟩
  have hnn : m ≤ 16393 := by omega
  have HM := Lib.hid hm
  obtain ⟨C, hC⟩ : ∃ C, C = 16393 - fi := ⟨_, rfl⟩
  have hmC : m ≤ C := by omega
  rw [← hm, ← hC] at hh0
  rw [← hm] at HL
  have hml := HL.out
  clear hm hC
  go_wp2_with fail
  refine hh0.mono ?_
  rintro e w2' ⟨A, rfl, hr, _, n, rfl⟩
  have HR2 : Hid (RdB (w1.drewN n) w1.heap.size A H) := hr
  have H2 : Hid (SpG (w1.drewN n) g b fi la L true) := H0.out.drewN n
  have HF2 : Hid (Fs (gbS g b) w (w1.drewN n)) := HF0.out.drewN n
  have HG2 : Hid (GlobE (w1.drewN n)) := HG0.out
  have HX2 : Hid (Row (w1.drewN n) w.heap.size 36 (fm0 0 0 0 0).c) := HX0.out
  have HT2 : Hid (Row (w1.drewN n) (w.heap.size + 1) 38 (ftc 0 0)) := HT0.out
  have HS2 : Hid ((w1.drewN n).heap.size = w.heap.size + 2) := HS0.out
  clear hr hh0 H0 HF0 HG0 HX0 HT0 HS0 HB0 cw
  generalize w1.drewN n = w2 at *
  obtain ⟨i0, hi0, hz0, hz1, hz2⟩ := info_parts u8_info
  obtain ⟨k, hk⟩ : ∃ k, k = min m 24 := ⟨_, rfl⟩
  have hkm : k ≤ m := by omega
  have hk24 : k ≤ 24 := by omega
  obtain ⟨hcut, hRN⟩ := cut_upto (P := Tryd.prog) Tryd.underlying22 hi0 hz1 HR2.out (c := C) (k := k) (by omega) (by omega)
  rw [hml] at hcut
  have hkl : (H.take k).length = k := by rw [List.length_take]; omega
  have htx := run_text (P := Tryd.prog) (c := C) Tryd.underlying22 Tryd.underlying5 Tryd.underlying9 hRN
  rw [hkl] at htx
  have hmin : min (m : Int) 24 = (k : Int) := by omega
  have hpr := pre_any greetL (H.take k) (by rw [greetL_length]; omega) (by omega)
  rw [hkl] at hpr
  clear hRN
  have hd : decide (greetL.take k = H.take k) = false := decide_eq_false fun e => hng (by unfold GreetP; rw [hml, ← hk]; exact e.symm)
  rw [hd] at hpr
  clear hd hk
  have HT9 := Lib.hid (HT2.out.setRow' (k := w.heap.size) (by omega) (Fm.c (fm0 0 0 0 (-1))))
  have HZ9 := Lib.hid (((Fs.refl (fun k => k = w.heap.size ∨ k = w.heap.size + 1) w2).setRow (g := w.heap.size) (fun _ => .inl rfl) (Fm.c (fm0 0 0 0 (-1)))).setRow (g := w.heap.size + 1) (fun _ => .inr rfl) (ftc 1 1))
  go_wp2_with fail
  refine (hpr _).mono ?_
  rintro e w3' ⟨rfl, rfl⟩
  go_wp2_with (first | (refine wpList_sfm (x := (fm0 0 0 0 (-1))) rfl _ _ rfl rfl (by rw [hz_c]; rfl) HX2.out ?_) | (refine wpList_sft (s := 1) (c := 1) rfl _ _ rfl rfl (show _ = Value.agg (ftc 1 1) by rw [ftc_eq]; rfl) HT9.out ?_))
  refine bodyPost_ret (ret_ffb rfl _ _ w.heap.size (w.heap.size + 1) (fm0 0 0 0 (-1)) 1 1 (.bool true) rfl ((HX2.out.setRow _).setRow' (by omega) _) rfl (HT9.out.setRow _) rfl) rfl ?_
  exact ⟨_, rfl, ⟨_, _, _, _, rfl, rfl, rfl, rfl, FmIs.hd _ _ _ _ _⟩, ⟨fi, H2.out.fs HZ9.out (by omega) (by omega), HQ.out⟩, HF2.out.trans HZ9.out (fun k hk h => by omega)⟩

set_option maxRecDepth 100000 in
set_option maxHeartbeats 4000000 in
theorem nx_C {w : World} {g b fi la : Nat} {L H : List UInt8} {wt : Bool} (h : SpG w g b fi la L wt) (hG : GlobE w) (hH : heldL L fi la = H) (hwt : wt = true) (hgr : GreetP H) (hlt : H.length < 24) :
    Calls Tryd.prog 26 #[.pointer (some ⟨g, 0, none⟩)] w (NxPost w g b la L (none, H, true)) := by
  have HX0 : Hid (Row ((w.alloc (.cells #[.int .u8 0, .int .u8 0, .int .u32 0, .slice none 0 0, .int .i64 0, .int .u32 0, .int .u32 0, .int .u8 0, .bool false, .int .u32 0, .slice none 0 0] 36)).alloc (.cells #[.int .u8 0, .int .u32 0] 38)) w.heap.size 36 (fm0 0 0 0 0).c) := by show Row _ _ _ _; rw [z_c]; exact (Row.new w _ _).alloc _
  have HT0 : Hid (Row ((w.alloc (.cells #[.int .u8 0, .int .u8 0, .int .u32 0, .slice none 0 0, .int .i64 0, .int .u32 0, .int .u32 0, .int .u8 0, .bool false, .int .u32 0, .slice none 0 0] 36)).alloc (.cells #[.int .u8 0, .int .u32 0] 38)) (w.heap.size + 1) 38 (ftc 0 0)) := by show Row _ _ _ _; rw [ftc_eq]; exact Row.made _ _ _ (by simp)
  have HB0 : Hid (Below w.heap.size w ((w.alloc (.cells #[.int .u8 0, .int .u8 0, .int .u32 0, .slice none 0 0, .int .i64 0, .int .u32 0, .int .u32 0, .int .u8 0, .bool false, .int .u32 0, .slice none 0 0] 36)).alloc (.cells #[.int .u8 0, .int .u32 0] 38))) := ((Below.refl _ _).alloc (Nat.le_refl _) _).alloc (by simp) _
  have HS0 : Hid (((w.alloc (.cells #[.int .u8 0, .int .u8 0, .int .u32 0, .slice none 0 0, .int .i64 0, .int .u32 0, .int .u32 0, .int .u8 0, .bool false, .int .u32 0, .slice none 0 0] 36)).alloc (.cells #[.int .u8 0, .int .u32 0] 38)).heap.size = w.heap.size + 2) := by show _ = _; simp
  have H0 : Hid (SpG ((w.alloc (.cells #[.int .u8 0, .int .u8 0, .int .u32 0, .slice none 0 0, .int .i64 0, .int .u32 0, .int .u32 0, .int .u8 0, .bool false, .int .u32 0, .slice none 0 0] 36)).alloc (.cells #[.int .u8 0, .int .u32 0] 38)) g b fi la L wt) := h.below HB0.out
  have HF0 : Hid (Fs (gbS g b) w ((w.alloc (.cells #[.int .u8 0, .int .u8 0, .int .u32 0, .slice none 0 0, .int .i64 0, .int .u32 0, .int .u32 0, .int .u8 0, .bool false, .int .u32 0, .slice none 0 0] 36)).alloc (.cells #[.int .u8 0, .int .u32 0] 38))) := Fs.of_below HB0.out
  have HG0 : Hid (GlobE ((w.alloc (.cells #[.int .u8 0, .int .u8 0, .int .u32 0, .slice none 0 0, .int .i64 0, .int .u32 0, .int .u32 0, .int .u8 0, .bool false, .int .u32 0, .slice none 0 0] 36)).alloc (.cells #[.int .u8 0, .int .u32 0] 38))) := hG.below HB0.out
  have HL := Lib.hid h.held_len
  have hle := h.le
  have hla := h.la
  have hglt := h.row.lt
  have hblt := h.buf.lt
  have HQ := Lib.hid hH
  have HD := Lib.hid (heldL_drop L fi la)
  rw [hH] at HL HD
  clear h hG hH
  go_enter Tryd.func26, Tryd.ntmps26
  go_upto_region 1 with fail
  generalize ((w.alloc (.cells #[.int .u8 0, .int .u8 0, .int .u32 0, .slice none 0 0, .int .i64 0, .int .u32 0, .int .u32 0, .int .u8 0, .bool false, .int .u32 0, .slice none 0 0] 36)).alloc (.cells #[.int .u8 0, .int .u32 0] 38)) = w1 at *
  have cw := H0.out.c3
  subst hwt
  have hh0 := held_any H0.out
  rw [HQ.out] at hh0
  obtain ⟨m, hm⟩ : ∃ m, m = la - fi := ⟨_, rfl⟩
  have hnn : m ≤ 16393 := by omega
  have HM := Lib.hid hm
  obtain ⟨C, hC⟩ : ∃ C, C = 16393 - fi := ⟨_, rfl⟩
  have hmC : m ≤ C := by omega
  rw [← hm, ← hC] at hh0
  rw [← hm] at HL
  have hml := HL.out
  clear hm hC
  go_wp2_with fail
  refine hh0.mono ?_
  rintro e w2' ⟨A, rfl, hr, _, n, rfl⟩
  have HR2 : Hid (RdB (w1.drewN n) w1.heap.size A H) := hr
  have H2 : Hid (SpG (w1.drewN n) g b fi la L true) := H0.out.drewN n
  have HF2 : Hid (Fs (gbS g b) w (w1.drewN n)) := HF0.out.drewN n
  have HG2 : Hid (GlobE (w1.drewN n)) := HG0.out
  have HX2 : Hid (Row (w1.drewN n) w.heap.size 36 (fm0 0 0 0 0).c) := HX0.out
  have HT2 : Hid (Row (w1.drewN n) (w.heap.size + 1) 38 (ftc 0 0)) := HT0.out
  have HS2 : Hid ((w1.drewN n).heap.size = w.heap.size + 2) := HS0.out
  clear hr hh0 H0 HF0 HG0 HX0 HT0 HS0 HB0 cw
  generalize w1.drewN n = w2 at *
  obtain ⟨i0, hi0, hz0, hz1, hz2⟩ := info_parts u8_info
  obtain ⟨k, hk⟩ : ∃ k, k = min m 24 := ⟨_, rfl⟩
  have hkm : k ≤ m := by omega
  have hk24 : k ≤ 24 := by omega
  obtain ⟨hcut, hRN⟩ := cut_upto (P := Tryd.prog) Tryd.underlying22 hi0 hz1 HR2.out (c := C) (k := k) (by omega) (by omega)
  rw [hml] at hcut
  have hkl : (H.take k).length = k := by rw [List.length_take]; omega
  have htx := run_text (P := Tryd.prog) (c := C) Tryd.underlying22 Tryd.underlying5 Tryd.underlying9 hRN
  rw [hkl] at htx
  have hmin : min (m : Int) 24 = (k : Int) := by omega
  have hpr := pre_any greetL (H.take k) (by rw [greetL_length]; omega) (by omega)
  rw [hkl] at hpr
  clear hRN
  have hd : decide (greetL.take k = H.take k) = true := decide_eq_true (by unfold GreetP at hgr; rw [hml, ← hk] at hgr; exact hgr.symm)
  rw [hd] at hpr
  have hd2 : decide ((m : Int) < 24) = true := by simp; omega
  clear hd hk
  have HT9 := Lib.hid (HT2.out.setRow' (k := w.heap.size) (by omega) (Fm.c (fm0 0 0 0 0)))
  have HZ9 := Lib.hid (((Fs.refl (fun k => k = w.heap.size ∨ k = w.heap.size + 1) w2).setRow (g := w.heap.size) (fun _ => .inl rfl) (Fm.c (fm0 0 0 0 0))).setRow (g := w.heap.size + 1) (fun _ => .inr rfl) (ftc 0 0))
  go_wp2_with fail
  refine (hpr _).mono ?_
  rintro e w3' ⟨rfl, rfl⟩
  go_wp2_with (first | (refine wpList_sfm (x := (fm0 0 0 0 0)) rfl _ _ rfl rfl (by rw [z_c]; rfl) HX2.out ?_) | (refine wpList_sft (s := 0) (c := 0) rfl _ _ rfl rfl (show _ = Value.agg (ftc 0 0) by rw [ftc_eq]; rfl) HT9.out ?_))
  refine bodyPost_ret (ret_ffb rfl _ _ w.heap.size (w.heap.size + 1) (fm0 0 0 0 0) 0 0 (.bool false) rfl ((HX2.out.setRow _).setRow' (by omega) _) rfl (HT9.out.setRow _) rfl) rfl ?_
  exact ⟨_, rfl, ⟨_, _, _, _, rfl, rfl, rfl, rfl, rfl⟩, ⟨fi, H2.out.fs HZ9.out (by omega) (by omega), HQ.out⟩, HF2.out.trans HZ9.out (fun k hk h => by omega)⟩

set_option maxRecDepth 100000 in
set_option maxHeartbeats 4000000 in
theorem nx_D {w : World} {g b fi la : Nat} {L H : List UInt8} {wt : Bool} (h : SpG w g b fi la L wt) (hG : GlobE w) (hH : heldL L fi la = H) (hwt : wt = true) (hgr : GreetP H) (hge : 24 ≤ H.length) :
    Calls Tryd.prog 26 #[.pointer (some ⟨g, 0, none⟩)] w (NxPost w g b la L ((nfN (H.drop 24)).1, (nfN (H.drop 24)).2, false)) := by
  have HX0 : Hid (Row ((w.alloc (.cells #[.int .u8 0, .int .u8 0, .int .u32 0, .slice none 0 0, .int .i64 0, .int .u32 0, .int .u32 0, .int .u8 0, .bool false, .int .u32 0, .slice none 0 0] 36)).alloc (.cells #[.int .u8 0, .int .u32 0] 38)) w.heap.size 36 (fm0 0 0 0 0).c) := by show Row _ _ _ _; rw [z_c]; exact (Row.new w _ _).alloc _
  have HT0 : Hid (Row ((w.alloc (.cells #[.int .u8 0, .int .u8 0, .int .u32 0, .slice none 0 0, .int .i64 0, .int .u32 0, .int .u32 0, .int .u8 0, .bool false, .int .u32 0, .slice none 0 0] 36)).alloc (.cells #[.int .u8 0, .int .u32 0] 38)) (w.heap.size + 1) 38 (ftc 0 0)) := by show Row _ _ _ _; rw [ftc_eq]; exact Row.made _ _ _ (by simp)
  have HB0 : Hid (Below w.heap.size w ((w.alloc (.cells #[.int .u8 0, .int .u8 0, .int .u32 0, .slice none 0 0, .int .i64 0, .int .u32 0, .int .u32 0, .int .u8 0, .bool false, .int .u32 0, .slice none 0 0] 36)).alloc (.cells #[.int .u8 0, .int .u32 0] 38))) := ((Below.refl _ _).alloc (Nat.le_refl _) _).alloc (by simp) _
  have HS0 : Hid (((w.alloc (.cells #[.int .u8 0, .int .u8 0, .int .u32 0, .slice none 0 0, .int .i64 0, .int .u32 0, .int .u32 0, .int .u8 0, .bool false, .int .u32 0, .slice none 0 0] 36)).alloc (.cells #[.int .u8 0, .int .u32 0] 38)).heap.size = w.heap.size + 2) := by show _ = _; simp
  have H0 : Hid (SpG ((w.alloc (.cells #[.int .u8 0, .int .u8 0, .int .u32 0, .slice none 0 0, .int .i64 0, .int .u32 0, .int .u32 0, .int .u8 0, .bool false, .int .u32 0, .slice none 0 0] 36)).alloc (.cells #[.int .u8 0, .int .u32 0] 38)) g b fi la L wt) := h.below HB0.out
  have HF0 : Hid (Fs (gbS g b) w ((w.alloc (.cells #[.int .u8 0, .int .u8 0, .int .u32 0, .slice none 0 0, .int .i64 0, .int .u32 0, .int .u32 0, .int .u8 0, .bool false, .int .u32 0, .slice none 0 0] 36)).alloc (.cells #[.int .u8 0, .int .u32 0] 38))) := Fs.of_below HB0.out
  have HG0 : Hid (GlobE ((w.alloc (.cells #[.int .u8 0, .int .u8 0, .int .u32 0, .slice none 0 0, .int .i64 0, .int .u32 0, .int .u32 0, .int .u8 0, .bool false, .int .u32 0, .slice none 0 0] 36)).alloc (.cells #[.int .u8 0, .int .u32 0] 38))) := hG.below HB0.out
  have HL := Lib.hid h.held_len
  have hle := h.le
  have hla := h.la
  have hglt := h.row.lt
  have hblt := h.buf.lt
  have HQ := Lib.hid hH
  have HD := Lib.hid (heldL_drop L fi la)
  rw [hH] at HL HD
  clear h hG hH
  go_enter Tryd.func26, Tryd.ntmps26
  go_upto_region 1 with fail
  generalize ((w.alloc (.cells #[.int .u8 0, .int .u8 0, .int .u32 0, .slice none 0 0, .int .i64 0, .int .u32 0, .int .u32 0, .int .u8 0, .bool false, .int .u32 0, .slice none 0 0] 36)).alloc (.cells #[.int .u8 0, .int .u32 0] 38)) = w1 at *
  have cw := H0.out.c3
  subst hwt
  have hh0 := held_any H0.out
  rw [HQ.out] at hh0
  obtain ⟨m, hm⟩ : ∃ m, m = la - fi := ⟨_, rfl⟩
  have hnn : m ≤ 16393 := by omega
  have HM := Lib.hid hm
  obtain ⟨C, hC⟩ : ∃ C, C = 16393 - fi := ⟨_, rfl⟩
  have hmC : m ≤ C := by omega
  rw [← hm, ← hC] at hh0
  rw [← hm] at HL
  have hml := HL.out
  clear hm hC
  go_wp2_with fail
  refine hh0.mono ?_
  rintro e w2' ⟨A, rfl, hr, _, n, rfl⟩
  have HR2 : Hid (RdB (w1.drewN n) w1.heap.size A H) := hr
  have H2 : Hid (SpG (w1.drewN n) g b fi la L true) := H0.out.drewN n
  have HF2 : Hid (Fs (gbS g b) w (w1.drewN n)) := HF0.out.drewN n
  have HG2 : Hid (GlobE (w1.drewN n)) := HG0.out
  have HX2 : Hid (Row (w1.drewN n) w.heap.size 36 (fm0 0 0 0 0).c) := HX0.out
  have HT2 : Hid (Row (w1.drewN n) (w.heap.size + 1) 38 (ftc 0 0)) := HT0.out
  have HS2 : Hid ((w1.drewN n).heap.size = w.heap.size + 2) := HS0.out
  clear hr hh0 H0 HF0 HG0 HX0 HT0 HS0 HB0 cw
  generalize w1.drewN n = w2 at *
  obtain ⟨i0, hi0, hz0, hz1, hz2⟩ := info_parts u8_info
  obtain ⟨k, hk⟩ : ∃ k, k = min m 24 := ⟨_, rfl⟩
  have hkm : k ≤ m := by omega
  have hk24 : k ≤ 24 := by omega
  obtain ⟨hcut, hRN⟩ := cut_upto (P := Tryd.prog) Tryd.underlying22 hi0 hz1 HR2.out (c := C) (k := k) (by omega) (by omega)
  rw [hml] at hcut
  have hkl : (H.take k).length = k := by rw [List.length_take]; omega
  have htx := run_text (P := Tryd.prog) (c := C) Tryd.underlying22 Tryd.underlying5 Tryd.underlying9 hRN
  rw [hkl] at htx
  have hmin : min (m : Int) 24 = (k : Int) := by omega
  have hpr := pre_any greetL (H.take k) (by rw [greetL_length]; omega) (by omega)
  rw [hkl] at hpr
  clear hRN
  have hd : decide (greetL.take k = H.take k) = true := decide_eq_true (by unfold GreetP at hgr; rw [hml, ← hk] at hgr; exact hgr.symm)
  rw [hd] at hpr
  have hd2 : decide ((m : Int) < 24) = false := by simp; omega
  clear hd hk
  have hf24 : fi + 24 ≤ la := by have := HM.out; omega
  have c1 := H2.out.c1
  have t1 := Row.thawed H2.out.row 1
  have h3 := H2.out.set1 (fi' := fi + 24) hf24
  have c3 := h3.c3
  have t3 := Row.thawed h3.row 3
  have h4 := h3.set3 false
  have hw4 := ((Fs.refl (fun k => k = g) w2).setCell (g := g) (fun _ => rfl) 1 (.int .i64 ((fi + 24 : Nat) : Int))).setCell (g := g) (fun _ => rfl) 3 (.bool false)
  have HG4 := Lib.hid (HG2.out.fs hw4 (by have := H2.out.lo; omega))
  have HX4 := Lib.hid (hw4.row (b := w.heap.size) (by omega) HX2.out)
  have HT4 := Lib.hid (hw4.row (b := w.heap.size + 1) (by omega) HT2.out)
  have HF4 := Lib.hid (HF2.out.trans hw4 (fun k _ e => .inl e))
  have HS4 : Hid (((w2.setCell ⟨g, 1, none⟩ (.int .i64 ((fi + 24 : Nat) : Int))).setCell ⟨g, 3, none⟩ (.bool false)).heap.size = w.heap.size + 2) := by show _ = _; rw [← HS2.out]; simp [World.setCell]
  have hn := nf_any h4 HG4.out
  rw [HD.out 24] at hn
  rw [show ((fi + 24 : Nat) : Int) = (fi : Int) + 24 by omega] at hn c3 t3 HX4 HT4 HF4 HS4
  clear h3 h4 hw4 HG4 HG2 HX2 HT2 HF2 HS2 H2 HR2
  go_wp2_with fail
  refine (hpr _).mono ?_
  rintro e w3' ⟨rfl, rfl⟩
  go_wp2_with fail
  refine hn.mono ?_
  rintro e w5 ⟨v, rfl, ⟨X, s, c, ok, rfl, hT⟩, ⟨fi', h5, hl5⟩, hF5⟩
  have hX5 := hF5.row (b := w.heap.size) (fun e => by rcases e with e | e <;> omega) HX4.out
  have hT5 := hF5.row (b := w.heap.size + 1) (fun e => by rcases e with e | e <;> omega) HT4.out
  have HX5 := Lib.hid hX5
  have HT5 := Lib.hid (hT5.setRow' (k := w.heap.size) (by omega) X.c)
  have H5 := Lib.hid h5
  have HF5 := Lib.hid (HF4.out.trans hF5 (fun k _ e => e))
  have HQ5 := Lib.hid hl5
  have HM5 := Lib.hid (hT.mono (base' := w.heap.size + 2) (by have := HS4.out; omega))
  clear hn hT h5 hl5 hF5 hX5 hT5
  go_wp2_with (first | (with_reducible show wpList _ _ _ _ _ _; first | (refine wpList_sfm (x := X) rfl _ _ rfl rfl rfl HX5.out ?_) | (refine wpList_sft (s := s) (c := c) rfl _ _ rfl rfl rfl HT5.out ?_)))
  refine bodyPost_ret (ret_ffb rfl _ _ w.heap.size (w.heap.size + 1) X s c (.bool ok) rfl ((HX5.out.setRow _).setRow' (by omega) _) rfl (HT5.out.setRow _) rfl) rfl ?_
  have HZ : Fs (fun k => k = w.heap.size ∨ k = w.heap.size + 1) w5 ((w5.setRow w.heap.size X.c).setRow (w.heap.size + 1) (ftc s c)) := ((Fs.refl _ w5).setRow (g := w.heap.size) (fun _ => .inl rfl) X.c).setRow (g := w.heap.size + 1) (fun _ => .inr rfl) (ftc s c)
  exact ⟨_, rfl, ⟨X, s, c, ok, rfl, (HM5.out.keep fun k hk hk2 => HZ.block k hk2 (by omega)).mono (by omega)⟩, ⟨fi', H5.out.fs HZ (by omega) (by omega), HQ5.out⟩, HF5.out.trans HZ (fun k hk h => by omega)⟩

theorem nx_any {w : World} {g b fi la : Nat} {L : List UInt8} {wt : Bool} (h : SpG w g b fi la L wt) (hG : GlobE w) :
    Calls Tryd.prog 26 #[.pointer (some ⟨g, 0, none⟩)] w (NxPost w g b la L (nxN (heldL L fi la) wt)) := by
  unfold nxN
  split
  · split
    · exact nx_B h hG rfl (by assumption) (by assumption)
    · rename_i hg
      have hg := Classical.not_not.1 hg
      split
      · exact nx_C h hG rfl (by assumption) hg (by assumption)
      · exact nx_D h hG rfl (by assumption) hg (by omega)
  · rename_i hw
    exact nx_A h hG rfl (by simpa using hw)
end Go.Proofs.YtnjnepploockiaaDoor
