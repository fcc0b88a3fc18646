/-
  The document's Put, by contract. Conditions: the ring is read; at most 1000000 bytes each.
-/
import Derived.Test.YtplohgaecoobaaaUwi
namespace Go.Proofs.Ytplohgaecoobaaa
open Go.RowKit Go.WideShapes

theorem tb_add (a b : List UInt8) (ha : a.length ≤ 1000000) (hb : b.length ≤ 1000000) (W : World) : (Op.stringOp .add (tb a) (tb b)).run Try.prog W = .ok (.string (tb (a ++ b))) W := by
  have h := run_string_add (P := Try.prog) W (tb a) (tb b) (by simp [ByteArray.size]; omega) (by simp [ByteArray.size]; omega)
  rw [h]
  unfold tb
  rw [ByteArray.mk_append_mk]
theorem sn_set1 {w : World} {g : Nat} {x : Sn} {b : List UInt8} (h : Row w g 40 (snc x)) : Row (w.setCell ⟨g, 1, none⟩ (.string (tb b))) g 40 (snc { x with b := b }) := h.stored 1 _
theorem sn_set2 {w : World} {g : Nat} {x : Sn} {b : Bool} (h : Row w g 40 (snc x)) : Row (w.setCell ⟨g, 2, none⟩ (.bool b)) g 40 (snc { x with en := b }) := h.stored 2 _
theorem sn_set3 {w : World} {g : Nat} {x : Sn} {b : Bool} (h : Row w g 40 (snc x)) : Row (w.setCell ⟨g, 3, none⟩ (.bool b)) g 40 (snc { x with ov := b }) := h.stored 3 _
theorem sn_set4 {w : World} {g : Nat} {x : Sn} {l : Int} (h : Row w g 40 (snc x)) : Row (w.setCell ⟨g, 4, none⟩ (.int .i64 l)) g 40 (snc { x with lf := l }) := h.stored 4 _
theorem sn_zero : #[Value.int .u32 0, .string ⟨#[]⟩, .bool false, .bool false, .int .i64 0, .bool false].size = 6 := rfl
/-- A stream's variable, made and stored into. -/
theorem one_sn (w : World) (x : Sn) : ∃ w', (w.alloc (.cells #[.int .u32 0, .string ⟨#[]⟩, .bool false, .bool false, .int .i64 0, .bool false] 40)).setRow w.heap.size (snc x) = w' ∧ Row (w.alloc (.cells #[.int .u32 0, .string ⟨#[]⟩, .bool false, .bool false, .int .i64 0, .bool false] 40)) w.heap.size 40 #[.int .u32 0, .string ⟨#[]⟩, .bool false, .bool false, .int .i64 0, .bool false] ∧
    Row w' w.heap.size 40 (snc x) ∧ Below w.heap.size w w' ∧ w'.heap.size = w.heap.size + 1 :=
  ⟨_, rfl, Row.new w _ _, (Row.new w _ _).setRow _, below_setRow ((Below.refl _ _).alloc (Nat.le_refl _) _) _ _ (Nat.le_refl _), by simp⟩
theorem fdI_neg {s : Nat} {L : List Sn} (h : ¬ fd s L < L.length) : fdI s L = -1 := by unfold fdI; rw [if_neg h]
theorem fdI_pos {s : Nat} {L : List Sn} (h : fd s L < L.length) : fdI s L = (fd s L : Int) := by unfold fdI; rw [if_pos h]
attribute [local irreducible] snc rrc fd fdI
set_option maxRecDepth 100000 in
set_option maxHeartbeats 1000000 in
theorem rput_no {w : World} {A : Option Addr} {c f : Nat} {l : Int} {L : List Sn} (h : Rg w A c L) (s : Nat) (b : List UInt8) (en : Bool) (hno : ∀ hi : fd s L < L.length, L[fd s L].en = true) :
    Calls Try.prog 29 #[.agg (rrc A L.length c f l), .int .u32 s, .string (tb b), .bool en] w fun e w' => e = .returned (.tuple #[.agg (rrc A L.length c f l), .bool false]) ∧ Below w.heap.size w w' := by
  obtain ⟨w0, hw0, t1, t2, t4, t5⟩ := two_ref w (rrc A L.length c f l) #[.slice none 0 0, .int .i64 0, .int .i64 0, .bool false] 31 31
  have HW := Lib.hid hw0
  rw [rr_zero] at t2
  have T1 := Lib.hid t1
  have T2 := Lib.hid t2
  have T4 := Lib.hid t4
  have HR := Lib.hid (h.up T4.out)
  clear hw0 t1 t2 t4 t5
  go_enter Try.func29, Try.ntmps29
  go_upto_region 1 with fail
  rw [HW.out]
  clear HW
  go_wp2_with (refine wpList_ld rfl _ rfl rfl T1.out (rr_ok _ _ _ _ _) ?_)
  refine (rfind_any HR.out s).mono ?_
  rintro e w1 ⟨rfl, hb1⟩
  have T11 := Lib.hid (T1.out.below hb1 T1.out.lt)
  have T21 := Lib.hid (T2.out.below hb1 T2.out.lt)
  have T41 := Lib.hid (T4.out.trans (hb1.mono T4.out.size))
  have HR1 := Lib.hid (h.up T41.out)
  have c0 := (rr_cells T11.out).1
  clear hb1 T1 T2 T4 HR
  have HRET := Lib.hid (below_setRow T41.out (w.heap.size + 1) (rrc A L.length c f l) (by omega))
  by_cases hi : fd s L < L.length
  · have e1 := hno hi
    rw [fdI_pos hi]
    obtain ⟨bb, q, rfl, hb, hr⟩ := HR1.out.at hi
    have hc := (sn_in hr).2.2.1
    rw [e1] at hc
    clear h hr e1 hno HR1
    generalize fd s L = k at *
    go_wp2_with (first | (refine wpList_ld rfl _ rfl rfl T11.out (rr_ok _ _ _ _ _) ?_) | (refine wpList_sw (cs := rrc _ L.length c f l) rfl _ _ rfl rfl rfl T21.out (rr_sz _ _ _ _ _ _ _ _ _ _) (rr_ok _ _ _ _ _) ?_))
    exact bodyPost_ret (ret_agv (v := .bool false) rfl _ rfl (T21.out.setRow _) (rr_ok _ _ _ _ _) rfl) rfl ⟨rfl, HRET.out⟩
  · rw [fdI_neg hi]
    clear h hi hno HR1
    go_wp2_with (first | (refine wpList_ld rfl _ rfl rfl T11.out (rr_ok _ _ _ _ _) ?_) | (refine wpList_sw (cs := rrc _ L.length c f l) rfl _ _ rfl rfl rfl T21.out (rr_sz _ _ _ _ _ _ _ _ _ _) (rr_ok _ _ _ _ _) ?_))
    exact bodyPost_ret (ret_agv (v := .bool false) rfl _ rfl (T21.out.setRow _) (rr_ok _ _ _ _ _) rfl) rfl ⟨rfl, HRET.out⟩
set_option maxRecDepth 100000 in
set_option maxHeartbeats 1000000 in
theorem rput_yes {w : World} {A : Option Addr} {c f : Nat} {l : Int} {L : List Sn} (h : Rg w A c L) (s : Nat) (b : List UInt8) (en : Bool) (hi : fd s L < L.length) {x : Sn} (hx : L[fd s L] = x) (hen : x.en = false) (hb0 : x.b.length ≤ 1000000) (hb1 : b.length ≤ 1000000) :
    Calls Try.prog 29 #[.agg (rrc A L.length c f l), .int .u32 s, .string (tb b), .bool en] w (MadeR2 w (L.set (fd s L) { x with b := x.b ++ b, en := en }) f l (.bool true)) := by
  obtain ⟨w0, hw0, t1, t2, t4, t5⟩ := two_ref w (rrc A L.length c f l) #[.slice none 0 0, .int .i64 0, .int .i64 0, .bool false] 31 31
  have HW := Lib.hid hw0
  rw [rr_zero] at t2
  have T1 := Lib.hid t1
  have T2 := Lib.hid t2
  have T4 := Lib.hid t4
  have HR := Lib.hid (h.up T4.out)
  have HRW := Lib.hid h
  have hadd := tb_add x.b b hb0 hb1
  clear hw0 t1 t2 t4 t5 hb0 hb1
  go_enter Try.func29, Try.ntmps29
  go_upto_region 1 with fail
  rw [HW.out]
  clear HW
  go_wp2_with (refine wpList_ld rfl _ rfl rfl T1.out (rr_ok _ _ _ _ _) ?_)
  refine (rfind_any HR.out s).mono ?_
  rintro e w1 ⟨rfl, hb1⟩
  have T11 := Lib.hid (T1.out.below hb1 T1.out.lt)
  have T21 := Lib.hid (T2.out.below hb1 T2.out.lt)
  have T41 := Lib.hid (T4.out.trans (hb1.mono T4.out.size))
  have HR1 := Lib.hid (h.up T41.out)
  have c0 := (rr_cells T11.out).1
  clear hb1 T1 T2 T4 HR
  rw [fdI_pos hi]
  obtain ⟨bb, q, rfl, hb, hr⟩ := HR1.out.at hi
  rw [hx] at hr
  have hc := (sn_in hr).2.2.1
  rw [hen] at hc
  have HI := Lib.hid hi
  have hin : w1.rangeAt bb (q + fd s L * 6) (snc x).toList := hr
  clear hr hen h hx
  generalize fd s L = k at *
  obtain ⟨w2, hw2, u1, u2, u3, u4⟩ := one_sn w1 x
  have HW2 := Lib.hid hw2
  have HXC := Lib.hid hin
  have U1 := Lib.hid u1
  clear hw2 hin u1
  go_upto_region 4 with fail
  clear hc
  go_upto_region 5 with (first | (refine wpList_ldm (cs := snc x) rfl _ rfl rfl HXC.out (sn_ok _) ?_) | (refine wpList_sw (cs := snc x) rfl _ _ rfl rfl rfl U1.out (by rw [sn_size]; rfl) (sn_ok _) ?_))
  rw [HW2.out]
  clear HW2 U1 HXC c0
  have T12 := Lib.hid (T11.out.below (u3.mono (Nat.le_refl _)) T11.out.lt)
  have T22 := Lib.hid (T21.out.below u3 T21.out.lt)
  have T42 := Lib.hid (T41.out.trans (u3.mono T41.out.size))
  have HR2 := Lib.hid (HR1.out.up u3)
  have hp2 : w.heap.size + 2 ≤ w1.heap.size := T21.out.lt
  clear T11 T21 T41 HR1 u3 u4 hb
  generalize w1.heap.size = p at *
  have d1 := (sn_cells u2).2.1
  have y1 := u2.thawed 1
  have V1 := Lib.hid (sn_set1 (b := x.b ++ b) u2)
  have T13 := Lib.hid (T12.out.stored' (a := ⟨p, 1, none⟩) (by simp; omega) (.string (tb (x.b ++ b))))
  have T23 := Lib.hid (T22.out.stored' (a := ⟨p, 1, none⟩) (by simp; omega) (.string (tb (x.b ++ b))))
  have T43 := Lib.hid (T42.out.setCell (p := ⟨p, 1, none⟩) (by simp; omega) (.string (tb (x.b ++ b))))
  clear u2 T12 T22 T42 HR2
  go_upto_region 6 with fail
  generalize w2.setCell ⟨p, 1, none⟩ (.string (tb (x.b ++ b))) = w3 at *
  clear d1 y1 hadd
  have d1 := (sn_cells V1.out).2.2.1
  have y1 := V1.out.thawed 2
  have V2 := Lib.hid (sn_set2 (b := en) V1.out)
  have T14 := Lib.hid (T13.out.stored' (a := ⟨p, 2, none⟩) (by simp; omega) (.bool en))
  have T24 := Lib.hid (T23.out.stored' (a := ⟨p, 2, none⟩) (by simp; omega) (.bool en))
  have T44 := Lib.hid (T43.out.setCell (p := ⟨p, 2, none⟩) (by simp; omega) (.bool en))
  have HR4 := Lib.hid (HRW.out.up T44.out)
  clear V1 T13 T23 T43
  go_upto_region 7 with fail
  generalize w3.setCell ⟨p, 2, none⟩ (.bool en) = w4 at *
  clear d1 y1
  generalize hy : ({ x with b := x.b ++ b, en := en } : Sn) = y at *
  go_wp2_with (first | (refine wpList_ld rfl _ rfl rfl T14.out (rr_ok _ _ _ _ _) ?_) | (refine wpList_ld rfl _ rfl rfl V2.out (sn_ok _) ?_))
  refine (rwith_any HR4.out HI.out y).mono ?_
  rintro e w5 ⟨A5, c5, rfl, hR5, hb5⟩
  have T25 := Lib.hid (T24.out.below hb5 T24.out.lt)
  have T45 := Lib.hid (T44.out.trans (hb5.mono T44.out.size))
  have HL : Hid ((L.set k y).length = L.length) := by show _ = _; simp
  have HR5 := Lib.hid ((hR5.mono (B' := w.heap.size + 2) T24.out.lt))
  clear hb5 hR5 HR4 T14 T24 T44 V2
  go_wp2_with (refine wpList_sw (cs := rrc A5 L.length c5 f l) rfl _ _ rfl rfl rfl T25.out (rr_sz _ _ _ _ _ _ _ _ _ _) (rr_ok _ _ _ _ _) ?_)
  refine bodyPost_ret (ret_agv (v := .bool true) rfl _ rfl (T25.out.setRow _) (rr_ok _ _ _ _ _) rfl) rfl ?_
  exact ⟨A5, c5, by rw [HL.out], (HR5.out.setRow (by omega) _).mono (by omega), below_setRow T45.out _ _ (by omega)⟩
end Go.Proofs.Ytplohgaecoobaaa
