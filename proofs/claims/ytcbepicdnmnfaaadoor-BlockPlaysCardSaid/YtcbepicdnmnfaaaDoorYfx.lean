/-
  What a Take's answer is stored into; the law's own example: fixed answers true. Condition: errors.errorType as the program's text lays it.
-/
import Derived.Test.YtcbepicdnmnfaaaDoorYsa
namespace Go.Proofs.YtcbepicdnmnfaaaDoor
open Go.RowKit Go.WideShapes

theorem ftb_sz (n : Nat) : (ftc 0 0).size = (ftb n).size := rfl
theorem ftb_ok (n : Nat) : AgOk Tryd.prog 36 (ftb n) := ft_ok _ _
/-- A whole block and a fault, made and stored into. -/
theorem tk_two (w : World) (st : Nat) (A : Option Addr) (n c : Nat) (en : Bool) (k : Nat) : ∃ w', (((w.alloc (.cells #[.int .u32 0, .slice none 0 0, .bool false] 34)).alloc (.cells #[.int .u8 0, .int .u32 0] 36)).setRow w.heap.size (whc st A n c en)).setRow (w.heap.size + 1) (ftb k) = w' ∧
    Row ((w.alloc (.cells #[.int .u32 0, .slice none 0 0, .bool false] 34)).alloc (.cells #[.int .u8 0, .int .u32 0] 36)) w.heap.size 34 (whc 0 none 0 0 false) ∧
    Row (((w.alloc (.cells #[.int .u32 0, .slice none 0 0, .bool false] 34)).alloc (.cells #[.int .u8 0, .int .u32 0] 36)).setRow w.heap.size (whc st A n c en)) (w.heap.size + 1) 36 (ftc 0 0) ∧
    Row w' w.heap.size 34 (whc st A n c en) ∧ Row w' (w.heap.size + 1) 36 (ftb k) ∧ Below w.heap.size w w' ∧ w.heap.size + 2 ≤ w'.heap.size := by
  have h1 : Row ((w.alloc (.cells #[.int .u32 0, .slice none 0 0, .bool false] 34)).alloc (.cells #[.int .u8 0, .int .u32 0] 36)) w.heap.size 34 (whc 0 none 0 0 false) := by rw [wh_zero]; exact (Row.new w _ _).alloc _
  have h2 : Row ((w.alloc (.cells #[.int .u32 0, .slice none 0 0, .bool false] 34)).alloc (.cells #[.int .u8 0, .int .u32 0] 36)) (w.heap.size + 1) 36 (ftc 0 0) := by rw [ftz]; exact Row.made _ _ _ (by simp)
  have h3 := h2.row_far (b := w.heap.size + 1) (k := w.heap.size) (by omega) (whc st A n c en)
  exact ⟨_, rfl, h1, h3, (h1.setRow _).row_far (by omega) _, h3.setRow _, below_setRow (below_setRow (((Below.refl _ _).alloc (Nat.le_refl _) _).alloc (by simp) _) _ _ (by omega)) _ _ (by omega), by simp⟩
/-- What a gatherer's call may turn lies behind base. -/
theorem Ga.fsb {w w1 w2 : World} {base g : Nat} {m : Gm} {A : Option Addr} {c : Nat} {o : Option Nat} (h : Ga w1 base g m A c o) (hb : Below base w w1) (hs : base ≤ w.heap.size) (hf : Fs (gvS g (.slice A m.blk.length c)) w1 w2) : Below base w w2 :=
  hb.trans (hf.below (fun k hk _ => by
    rcases hk with hk | hk
    · have := h.lo; omega
    · exact (OwS.lt h.own k hk).1) (Nat.le_trans hs hb.size))
def fx1 : Fm := ⟨1, 0, 1, none, 0, 0, -1, 0, 0, 0, false, 0, none, 0, 0⟩
def fx2 (p : Nat) : Fm := ⟨6, 0, 0, some ⟨p, 0, none⟩, 8, 8, -1, 0, 0, 0, false, 0, none, 0, 0⟩
theorem fx_1 : gtk gm0 1 0 1 [] = (gbeg 0 1 [], false, gm0) := by rfl
theorem fx_2 : gtk (gbeg 0 1 []) 6 0 0 [] = (gmF 1, false, gm0) := by rfl
theorem ftq (b : Nat) (s c : Int) (h : s = (if b = 0 then 0 else 1) ∧ c = b) (W : World) : (binOp .eql 36 (.agg (ftb b)) (.agg #[.int .u8 s, .int .u32 c])).run Tryd.prog W = .ok (.bool true) W := by
  obtain ⟨rfl, rfl⟩ := h
  have := ft_eql (if b = 0 then 0 else 1) b (if b = 0 then 0 else 1) b W
  simp only [decide_true, Bool.and_self] at this
  exact this
attribute [local irreducible] Fm.c whc ftc ftb gac
set_option maxRecDepth 100000 in
set_option maxHeartbeats 4000000 in
theorem fixed_any {w : World} (hG : GlobE w) : Calls Tryd.prog 6 #[] w fun e w' => e = .returned (.bool true) ∧ Below w.heap.size w w' := by
  have HG := Lib.hid hG
  clear hG
  go_enter Tryd.func6, Tryd.ntmps6
  go_wp2_with fail
  refine (bnew_any HG.out).mono ?_
  rintro e w1 ⟨rfl, hga, hb1⟩
  have HA1 := Lib.hid hga
  have HB1 := Lib.hid hb1
  have HG1 := Lib.hid (HG.out.below hb1)
  have HW : Hid (w.heap.size ≤ w.heap.size) := Nat.le_refl _
  clear hga hb1
  have HT1 : Hid (Calls Tryd.prog 8 #[.pointer (some ⟨w.heap.size, 0, none⟩), .agg fx1.c] w1 (TakeP w1 w.heap.size w.heap.size (.slice none gm0.blk.length 0) (gbeg 0 1 [], false, gm0))) := by
    have := tk_any HA1.out HG1.out fx1 [] (by decide) (fun _ => ⟨rfl, by simp, RdS.nil⟩)
    rw [show gtk gm0 fx1.ty fx1.fl fx1.st [] = _ from fx_1] at this
    exact this
  generalize hp : w.heap.size = p at *
  have HP := Lib.hid hp
  clear hp
  go_wp2_with (refine wpList_build_is rfl 32 _ rfl fx1.c (by kernel_rfl) ?_)
  refine HT1.out.mono ?_
  rintro e w2 ⟨A', c', rfl, hf, hbo, hnx, hnil, A2, c2, o2, hga, hn2⟩
  have HA2 : Hid (Ga w2 p p (gbeg 0 1 []) A2 c2 o2) := hga
  have HB2 : Hid (Below p w w2) := HA1.out.fsb HB1.out (by have := HP.out; omega) hf
  clear hf hbo hnx hga hn2 HT1 HA1 HB1 HG1
  obtain ⟨rfl, rfl⟩ := hnil rfl
  clear hnil
  obtain ⟨w3, hw3, t1, t2, t3, t4, t5, t6⟩ := tk_two w2 0 none 0 0 false 0
  have T7 := Lib.hid hw3
  have T1 := Lib.hid t1
  have T2 := Lib.hid t2
  have TF := Lib.hid t4
  have HA3 := Lib.hid (HA2.out.below t5)
  have HB3 : Hid (Below p w w3) := HB2.out.trans (t5.mono (Nat.le_of_lt HA2.out.lts.1))
  clear hw3 t1 t2 t3 t4 t5 t6 HA2 HB2
  go_upto_region 3 with (first | (refine wpList_sw (cs := whc 0 none 0 0 false) rfl _ _ rfl rfl rfl T1.out (wh_sz _ _ _ _ _ _ _ _ _ _) (wh_ok _ _ _ _ _) ?_) | (refine wpList_sw (cs := ftb 0) rfl _ _ rfl rfl rfl T2.out (ftb_sz _) (ftb_ok _) ?_))
  rw [T7.out]
  clear T7 T1 T2
  generalize w2.heap.size = p2 at *
  have HBY := Lib.hid (busy_cell (b := true) (HA3.out.cells.2.2.2.1))
  go_wp2_with fail
  refine HBY.out.mono ?_
  rintro e w4 ⟨rfl, rfl⟩
  clear HBY
  have HG4 : Hid (GlobE w4) := HG.out.below (by rw [HP.out]; exact HB3.out)
  obtain ⟨i0, hi0, hz0, hz1, hz2⟩ := info_parts u8_info
  have hmk : ∀ W : World, (Instr.makeSlice 29 (.int .i64 8) (.int .i64 8)).run Tryd.prog W = .ok (.slice (some ⟨W.heap.size, 0, none⟩) 8 8) (W.alloc (.cells (madeCells #[Value.int .u8 0] 8) 5)) := fun W => by
    have := run_make (P := Tryd.prog) W 29 5 i0 (.int .u8 0) Tryd.underlying29 hi0 hz0 .i64 .i64 8 8 (by omega) (by omega) (by rw [hz2]; omega) (by omega)
    rw [this, hz1, Nat.mul_one]
    rfl
  clear hi0 hz0 hz1 hz2
  have hb5 : Below w4.heap.size w4 (w4.alloc (.cells (madeCells #[Value.int .u8 0] 8) 5)) := (Below.refl _ _).alloc (Nat.le_refl _) _
  have HA5 := Lib.hid (HA3.out.below hb5)
  have HB5 : Hid (Below p w (w4.alloc (.cells (madeCells #[Value.int .u8 0] 8) 5))) := HB3.out.trans (hb5.mono (Nat.le_of_lt HA3.out.lts.1))
  have TF5 := Lib.hid (TF.out.below hb5 TF.out.lt)
  have HG5 := Lib.hid (HG4.out.below hb5)
  have HT5 : Hid (Calls Tryd.prog 8 #[.pointer (some ⟨p, 0, none⟩), .agg (fx2 w4.heap.size).c] (w4.alloc (.cells (madeCells #[Value.int .u8 0] 8) 5)) (TakeP (w4.alloc (.cells (madeCells #[Value.int .u8 0] 8) 5)) p p (.slice A2 (gbeg 0 1 []).blk.length c2) (gmF 1, false, gm0))) := by
    have := tk_any HA5.out HG5.out (fx2 w4.heap.size) [] (by show 0 < 256; omega) (fun h => absurd h (by show ¬ ((6 : Nat) = 1 ∨ (6 : Nat) = 9); decide))
    rw [show gtk (gbeg 0 1 []) (fx2 w4.heap.size).ty (fx2 w4.heap.size).fl (fx2 w4.heap.size).st [] = _ from fx_2] at this
    exact this
  clear hb5 HA3 HB3 TF HG4 HG5
  go_wp2_with (refine wpList_build_is rfl 32 _ rfl (fx2 w4.heap.size).c (by kernel_rfl) ?_)
  refine HT5.out.mono ?_
  generalize w4.alloc (.cells (madeCells #[Value.int .u8 0] 8) 5) = w5 at *
  rintro e w6 ⟨A', c', rfl, hf, hbo, hnx, hnil, A3, c3, o3, hga, hn2⟩
  have HB6 : Hid (Below p w w6) := HA5.out.fsb HB5.out (by have := HP.out; omega) hf
  have TF6 : Hid (Row w6 (p2 + 1) 36 (ftb 0)) := hf.row (fun e => by
    rcases e with e | e
    · exact Row.ne TF5.out HA5.out.row (by decide) e
    · exact HA5.out.own.ne TF5.out (by decide) e) TF5.out
  have HL6 : Hid (p ≤ w6.heap.size) := Nat.le_of_lt hga.lts.1
  clear hf hbo hnx hga hn2 HT5 HA5 HB5 TF5
  obtain ⟨rfl, rfl⟩ := hnil rfl
  clear hnil
  obtain ⟨w7, hw7, t1, t2, t3, t4, t5, t6⟩ := tk_two w6 0 none 0 0 false 1
  have T7 := Lib.hid hw7
  have T1 := Lib.hid t1
  have T2 := Lib.hid t2
  have TF7 := Lib.hid t4
  have TF8 := Lib.hid (TF6.out.below t5 TF6.out.lt)
  have HB7 : Hid (Below p w w7) := HB6.out.trans (t5.mono HL6.out)
  clear hw7 t1 t2 t3 t4 t5 t6 HB6 TF6
  go_upto_region 5 with (first | (refine wpList_sw (cs := whc 0 none 0 0 false) rfl _ _ rfl rfl rfl T1.out (wh_sz _ _ _ _ _ _ _ _ _ _) (wh_ok _ _ _ _ _) ?_) | (refine wpList_sw (cs := ftb 1) rfl _ _ rfl rfl rfl T2.out (ftb_sz _) (ftb_ok _) ?_))
  rw [T7.out]
  clear T7 T1 T2
  generalize w6.heap.size = p6 at *
  have q1 := ftq 0 0 0 (by simp)
  have q2 := ftq 1 1 1 (by simp)
  go_wp2_with (first | (refine wpList_ldg (by rfl) _ rfl rfl TF8.out (ftb_ok _) ?_) | (refine wpList_ldg (by rfl) _ rfl rfl TF7.out (ftb_ok _) ?_))
  go_ret
  exact ⟨rfl, by rw [HP.out]; exact HB7.out⟩
end Go.Proofs.YtcbepicdnmnfaaaDoor
