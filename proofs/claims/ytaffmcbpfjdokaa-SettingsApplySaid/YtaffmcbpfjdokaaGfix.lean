/-
  The law's own example: fixed answers true. No conditions.
-/
import Derived.Test.YtaffmcbpfjdokaaGrap
namespace Go.Proofs.Ytaffmcbpfjdokaa
open Go.RowKit Go.WideShapes

def s100 : St := ⟨4096, true, 4294967295, 100, 16384, 4294967295, false⟩
theorem ap_100 : apN begS begS [(4, 100)] = (s100, 0) := by decide
theorem ap_22 : apN begS begS [(2, 2)] = (begS, 1) := by decide
theorem one_read {w : World} {i v : Nat} : RdS (w.alloc (.cells #[.int .u16 (i : Int), .int .u32 (v : Int)] 39)) (· < (w.alloc (.cells #[.int .u16 (i : Int), .int .u32 (v : Int)] 39)).heap.size) (some ⟨w.heap.size, 0, none⟩) (enl sgc [(i, v)]) := fun _ =>
  ⟨w.heap.size, 0, rfl, by simp, fun j u hj => by
    rw [Nat.zero_add]
    exact (Row.new w 39 #[.int .u16 (i : Int), .int .u32 (v : Int)]).cell (by rw [enl_one] at hj; simpa [sgc] using hj)⟩
theorem ft_00 (w : World) : (binOp .eql 28 (.agg (ftc 0 0)) (.agg #[.int .u8 0, .int .u32 0])).run Try.prog w = .ok (.bool true) w := ft_eql 0 0 0 0 w
theorem ft_11 (w : World) : (binOp .eql 28 (.agg (ftc 1 1)) (.agg #[.int .u8 1, .int .u32 1])).run Try.prog w = .ok (.bool true) w := ft_eql 1 1 1 1 w
theorem ft_12 (w : World) : (binOp .eql 28 (.agg (ftc 1 2)) (.agg #[.int .u8 1, .int .u32 2])).run Try.prog w = .ok (.bool true) w := ft_eql 1 2 1 2 w
theorem zc : zS.c = #[.int .u32 0, .bool false, .int .u32 0, .int .u32 0, .int .u32 0, .int .u32 0, .bool false] := rfl
/-- Two variables for what Apply hands back: made, and stored into. -/
theorem two_vars (w : World) (x : St) (s c : Nat) : ∃ w' , ((((w.alloc (.cells #[.int .u32 0, .bool false, .int .u32 0, .int .u32 0, .int .u32 0, .int .u32 0, .bool false] 24)).alloc (.cells #[.int .u8 0, .int .u32 0] 28)).setRow w.heap.size x.c).setRow (w.heap.size + 1) (ftc s c)) = w' ∧
    Row ((w.alloc (.cells #[.int .u32 0, .bool false, .int .u32 0, .int .u32 0, .int .u32 0, .int .u32 0, .bool false] 24)).alloc (.cells #[.int .u8 0, .int .u32 0] 28)) w.heap.size 24 zS.c ∧
    Row (((w.alloc (.cells #[.int .u32 0, .bool false, .int .u32 0, .int .u32 0, .int .u32 0, .int .u32 0, .bool false] 24)).alloc (.cells #[.int .u8 0, .int .u32 0] 28)).setRow w.heap.size x.c) (w.heap.size + 1) 28 (ftc 0 0) ∧
    Row w' w.heap.size 24 x.c ∧ Row w' (w.heap.size + 1) 28 (ftc s c) ∧ Below w.heap.size w w' ∧ w'.heap.size = w.heap.size + 2 := by
  have h1 : Row ((w.alloc (.cells #[.int .u32 0, .bool false, .int .u32 0, .int .u32 0, .int .u32 0, .int .u32 0, .bool false] 24)).alloc (.cells #[.int .u8 0, .int .u32 0] 28)) w.heap.size 24 zS.c := by rw [zc]; exact (Row.new w _ _).alloc _
  have h2 : Row ((w.alloc (.cells #[.int .u32 0, .bool false, .int .u32 0, .int .u32 0, .int .u32 0, .int .u32 0, .bool false] 24)).alloc (.cells #[.int .u8 0, .int .u32 0] 28)) (w.heap.size + 1) 28 (ftc 0 0) := by rw [ftz]; exact Row.made _ _ _ (by simp)
  have hb : Below w.heap.size w ((w.alloc (.cells #[.int .u32 0, .bool false, .int .u32 0, .int .u32 0, .int .u32 0, .int .u32 0, .bool false] 24)).alloc (.cells #[.int .u8 0, .int .u32 0] 28)) := ((Below.refl _ _).alloc (Nat.le_refl _) _).alloc (by simp) _
  exact ⟨_, rfl, h1, h2.setRow' (by omega) _, (h1.setRow _).setRow' (by omega) _, (h2.setRow' (by omega) _).setRow _, below_setRow (below_setRow hb _ _ (by omega)) _ _ (by omega), by simp⟩
attribute [local irreducible] St.c ftc sec

set_option maxRecDepth 100000 in
set_option maxHeartbeats 4000000 in
theorem fixed_any (w : World) : Calls Try.prog 7 #[] w fun e w' => e = .returned (.bool true) ∧ Below w.heap.size w w' := by
  have hf0 := ft_00
  have hf1 := ft_11
  go_enter Try.func7, Try.ntmps7
  go_wp2_with fail
  refine (begi_any _).mono ?_
  rintro e w1 ⟨rfl, hb1⟩
  have ha := apply_any begS (c := 1) (one_read (w := w1) (i := 4) (v := 100)) (by simp)
  rw [ap_100] at ha
  unfold ApPost at ha
  have HB2 := Lib.hid (hb1.alloc hb1.size (.cells #[.int .u16 ((4 : Nat) : Int), .int .u32 ((100 : Nat) : Int)] 39))
  clear hb1
  go_wp2_with fail
  refine ha.mono ?_
  rintro e w2 ⟨rfl, hb2⟩
  have HB3 := Lib.hid (HB2.out.trans (hb2.mono HB2.out.size))
  clear hb2 ha HB2
  obtain ⟨w3, hw3, t1, t2, t3, t4, t5, t6⟩ := two_vars w2 s100 0 0
  have T1 := Lib.hid t1
  have T2 := Lib.hid t2
  have T3 := Lib.hid t3
  have T4 := Lib.hid t4
  have T5 := Lib.hid t5
  have T6 := Lib.hid t6
  have T7 := Lib.hid hw3
  clear t1 t2 t3 t4 t5 t6 hw3
  go_upto_region 2 with (first | (refine wpList_sw (cs := s100.c) rfl _ _ rfl rfl rfl T1.out (St.sz _ _) (St.ok _) ?_) | (refine wpList_sw (cs := ftc 0 0) rfl _ _ rfl rfl rfl T2.out (ft_sz _ _ _ _) (ft_ok _ _) ?_))
  rw [T7.out]
  have HB4 := Lib.hid (HB3.out.trans (T5.out.mono HB3.out.size))
  have HS := Lib.hid T3.out
  have HF := Lib.hid T4.out
  clear T1 T2 T3 T4 T5 T6 T7 HB3
  generalize w2.heap.size = p at *
  go_wp2_with fail
  refine (begi_any _).mono ?_
  rintro e w4 ⟨rfl, hb4⟩
  have ha := apply_any begS (c := 1) (one_read (w := w4) (i := 2) (v := 2)) (by simp)
  rw [ap_22] at ha
  unfold ApPost at ha
  have hb5 := hb4.alloc hb4.size (.cells #[.int .u16 ((2 : Nat) : Int), .int .u32 ((2 : Nat) : Int)] 39)
  have HS5 := Lib.hid (HS.out.below hb5 HS.out.lt)
  have HF5 := Lib.hid (HF.out.below hb5 HF.out.lt)
  have HB5 := Lib.hid (HB4.out.trans (hb5.mono HB4.out.size))
  clear hb4 hb5 HS HF HB4
  go_wp2_with fail
  refine ha.mono ?_
  rintro e w6 ⟨rfl, hb6⟩
  have HS6 := Lib.hid (HS5.out.below hb6 HS5.out.lt)
  have HF6 := Lib.hid (HF5.out.below hb6 HF5.out.lt)
  have HB6 := Lib.hid (HB5.out.trans (hb6.mono HB5.out.size))
  clear hb6 ha HS5 HF5 HB5
  obtain ⟨w7, hw7, t1, t2, t3, t4, t5, t6⟩ := two_vars w6 begS 1 1
  have T1 := Lib.hid t1
  have T2 := Lib.hid t2
  have T4 := Lib.hid t4
  have T7 := Lib.hid hw7
  have HS7 := Lib.hid (HS6.out.below t5 HS6.out.lt)
  have HF7 := Lib.hid (HF6.out.below t5 HF6.out.lt)
  have HB7 := Lib.hid (HB6.out.trans (t5.mono HB6.out.size))
  clear t1 t2 t3 t4 t5 t6 hw7 HS6 HF6 HB6
  go_upto_region 3 with (first | (refine wpList_sw (cs := begS.c) rfl _ _ rfl rfl rfl T1.out (St.sz _ _) (St.ok _) ?_) | (refine wpList_sw (cs := ftc 1 1) rfl _ _ rfl rfl rfl T2.out (ft_sz _ _ _ _) (ft_ok _ _) ?_))
  rw [T7.out]
  clear T1 T2 T7
  generalize w6.heap.size = p2 at *
  have c3 : w7.cell? ⟨p, 3, none⟩ = some (.int .u32 100) := (st_cells HS7.out).2.2.2.1
  go_wp2_with (first | (refine wpList_ldg (by rfl) _ rfl rfl HF7.out (ft_ok _ _) ?_) | (refine wpList_ldg (by rfl) _ rfl rfl T4.out (ft_ok _ _) ?_))
  go_ret
  exact ⟨rfl, HB7.out⟩
end Go.Proofs.Ytaffmcbpfjdokaa
