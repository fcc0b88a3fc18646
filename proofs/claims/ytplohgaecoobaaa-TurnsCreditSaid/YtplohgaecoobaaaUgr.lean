/-
  The document's Grow, by contract. Conditions: the ring is read; the windows are within their bounds.
-/
import Derived.Test.YtplohgaecoobaaaUpu
namespace Go.Proofs.Ytplohgaecoobaaa
open Go.RowKit Go.WideShapes

/-- A window that grows: how much is left, whose fault it is. -/
def gwN (l n : Int) : Int := if 2147483647 < l + n then l else max (l + n) (-2147483648)
def gwS (l n : Int) (b sh : Bool) : Int := if 2147483647 < l + n then scN b sh else 0
theorem gwN_in {l n : Int} (h : -2147483648 ≤ l ∧ l ≤ 2147483647) : -2147483648 ≤ gwN l n ∧ gwN l n ≤ 2147483647 := by
  unfold gwN
  split <;> omega
theorem rgw_any {l : Int} {b : Bool} (hl : -2147483648 ≤ l ∧ l ≤ 2147483647) {n : Int} (hn : -4294967296 ≤ n ∧ n ≤ 4294967296) (sh : Bool) (w : World) :
    Calls Try.prog 49 #[.agg (rwc l b), .int .i64 n, .bool sh] w fun e w' => e = .returned (.tuple #[.agg (rwc (gwN l n) b), .int .i64 (gwS l n b sh)]) ∧ Below w.heap.size w w' := by
  by_cases h : 2147483647 < l + n
  · have e1 : gwN l n = l := by unfold gwN; rw [if_pos h]
    have e2 : gwS l n b sh = scN b sh := by unfold gwS; rw [if_pos h]
    rw [e1, e2]
    exact rgrow_no hl hn sh h w
  · have e1 : gwN l n = max (l + n) (-2147483648) := by unfold gwN; rw [if_neg h]
    have e2 : gwS l n b sh = 0 := by unfold gwS; rw [if_neg h]
    rw [e1, e2]
    exact rgrow_yes hl hn sh h w
section
variable {w : World} {g : Nat}
theorem rr_w {A : Option Addr} {n c f : Nat} {l : Int} (h : Row w g 31 (rrc A n c f l)) : w.rangeAt g 2 (rwc l false).toList := h.range 2 _ fun j v hj => by
  match j, hj with
  | 0, hj => exact hj
  | 1, hj => exact hj
theorem sn_w {x : Sn} (h : Row w g 40 (snc x)) : w.rangeAt g 4 (rwc x.lf true).toList := h.range 4 _ fun j v hj => by
  match j, hj with
  | 0, hj => exact hj
  | 1, hj => exact hj
theorem rr_there {A : Option Addr} {n c f : Nat} {l : Int} (h : Row w g 31 (rrc A n c f l)) (l' : Int) (b : Bool) : w.there g 2 (rwc l' b).size := fun j hj => by
  have hj2 : j < 2 := hj
  refine ⟨?_, h.thawed _⟩
  rw [h.cell (v := (rrc A n c f l)[2 + j]'(by show 2 + j < 4; omega)) (Array.getElem?_eq_getElem _)]
  rfl
theorem sn_there {x : Sn} (h : Row w g 40 (snc x)) (l' : Int) (b : Bool) : w.there g 4 (rwc l' b).size := fun j hj => by
  have hj2 : j < 2 := hj
  refine ⟨?_, h.thawed _⟩
  rw [h.cell (v := (snc x)[4 + j]'(by show 4 + j < 6; omega)) (Array.getElem?_eq_getElem _)]
  rfl
theorem rr_setW {A : Option Addr} {n c f : Nat} {l : Int} (h : Row w g 31 (rrc A n c f l)) (l' : Int) : Row (w.setCells g 2 (rwc l' false).toList) g 31 (rrc A n c f l') := by
  have h1 := row_cells (rwc l' false).toList 2 w _ h
  exact h1
theorem sn_setW {x : Sn} (h : Row w g 40 (snc x)) (l' : Int) : Row (w.setCells g 4 (rwc l' true).toList) g 40 (snc { x with lf := l' }) := by
  have h1 := row_cells (rwc l' true).toList 4 w _ h
  exact h1
theorem cells_row {k : Nat} {T : TypeId} {cs : Array Value} (h : Row w k T cs) (hk : k ≠ g) (x : List Value) (o : Nat) : Row (w.setCells g o x) k T cs := (cells_other x w g k o hk).trans h
theorem cells_below {v : World} {B : Nat} (h : Below B v w) (hg : B ≤ g) : ∀ (x : List Value) (o : Nat), Below B v (w.setCells g o x) := by
  intro x
  induction x generalizing w with
  | nil => intro o; exact h
  | cons y r ih => intro o; rw [World.setCells]; exact ih (h.setCell hg _) _
end
/-- A window's variable, made and stored into. -/
theorem one_rw (w : World) (l : Int) (b : Bool) : ∃ w', (w.alloc (.cells #[.int .i64 0, .bool false] 29)).setRow w.heap.size (rwc l b) = w' ∧ Row (w.alloc (.cells #[.int .i64 0, .bool false] 29)) w.heap.size 29 (rwc 0 false) ∧
    Row w' w.heap.size 29 (rwc l b) ∧ Below w.heap.size w w' ∧ w'.heap.size = w.heap.size + 1 :=
  ⟨_, rfl, Row.new w _ _, (Row.new w _ _).setRow _, below_setRow ((Below.refl _ _).alloc (Nat.le_refl _) _) _ _ (Nat.le_refl _), by simp⟩
attribute [local irreducible] snc rrc rwc fd fdI gwN gwS
set_option maxRecDepth 100000 in
set_option maxHeartbeats 2000000 in
theorem rgrow_ring {w : World} {A : Option Addr} {c f : Nat} {l : Int} (m : Nat) (n : Nat) (hl : -2147483648 ≤ l ∧ l ≤ 2147483647) (hn : n < 4294967296) :
    Calls Try.prog 31 #[.agg (rrc A m c f l), .int .u32 0, .int .u32 n] w fun e w' => e = .returned (.tuple #[.agg (rrc A m c f (gwN l n)), .int .i64 (gwS l n false false)]) ∧ Below w.heap.size w w' := by
  obtain ⟨w0, hw0, t1, t2, t4, t5⟩ := two_ref w (rrc A m c f l) #[.slice none 0 0, .int .i64 0, .int .i64 0, .bool false] 31 31
  have HW := Lib.hid hw0
  rw [rr_zero] at t2
  have T1 := Lib.hid t1
  have T2 := Lib.hid t2
  have T4 := Lib.hid t4
  have HWR := Lib.hid (rr_w t1)
  have hgw := fun W => rgw_any (b := false) hl (n := (n : Int)) (by omega) false W
  have hw32 : IntKind.i64.wrap (n : Int) = (n : Int) := IntWalk.i64_in _ (by omega)
  clear hw0 t1 t2 t4 t5 hl
  go_enter Try.func31, Try.ntmps31
  go_upto_region 1 with fail
  rw [HW.out]
  clear HW
  go_wp2_with (refine wpList_ldm (cs := rwc l false) rfl _ rfl rfl HWR.out (rw_ok _ _) ?_)
  refine (hgw _).mono ?_
  rintro e w1 ⟨rfl, hb1⟩
  have T11 := Lib.hid (T1.out.below hb1 T1.out.lt)
  have T21 := Lib.hid (T2.out.below hb1 T2.out.lt)
  have T41 := Lib.hid (T4.out.trans (hb1.mono T4.out.size))
  obtain ⟨w2, hw2, u1, u2, u3, u4⟩ := one_rw w1 (gwN l n) false
  have HW2 := Lib.hid hw2
  have U1 := Lib.hid u1
  have U2 := Lib.hid u2
  have T12 := Lib.hid (T11.out.below u3 T11.out.lt)
  have T22 := Lib.hid (T21.out.below u3 T21.out.lt)
  have T42 := Lib.hid (T41.out.trans (u3.mono T41.out.size))
  have TH2 := Lib.hid (rr_there T12.out (gwN l n) false)
  clear hb1 T1 T2 T4 T11 T21 T41 HWR hgw hw2 u1 u2 u3 u4 hw32
  go_upto_region 3 with (refine wpList_sw (cs := rwc (gwN l n) false) rfl _ _ rfl rfl rfl U1.out (rw_sz _ _ _ _) (rw_ok _ _) ?_)
  rw [HW2.out]
  clear HW2 U1
  generalize w1.heap.size = p at *
  go_upto_region 4 with (first | (refine wpList_ld (cs := rwc (gwN l n) false) rfl _ rfl rfl U2.out (rw_ok _ _) ?_) | (refine wpList_swm (cs := rwc (gwN l n) false) rfl _ _ rfl rfl rfl TH2.out (rw_ok _ _) ?_))
  have T13 := Lib.hid (rr_setW T12.out (gwN l n))
  have T23 := Lib.hid (cells_row (g := w.heap.size) T22.out (by omega) (rwc (gwN l n) false).toList 2)
  have T43 := Lib.hid (cells_below (g := w.heap.size) T42.out (Nat.le_refl _) (rwc (gwN l n) false).toList 2)
  clear T12 T22 T42 U2 TH2
  generalize w2.setCells w.heap.size 2 (rwc (gwN l n) false).toList = w3 at *
  go_wp2_with (first | (refine wpList_ld rfl _ rfl rfl T13.out (rr_ok _ _ _ _ _) ?_) | (refine wpList_sw (cs := rrc A m c f (gwN l n)) rfl _ _ rfl rfl rfl T23.out (rr_sz _ _ _ _ _ _ _ _ _ _) (rr_ok _ _ _ _ _) ?_))
  exact bodyPost_ret (ret_agv (v := .int .i64 (gwS l n false false)) rfl _ rfl (T23.out.setRow _) (rr_ok _ _ _ _ _) rfl) rfl ⟨rfl, below_setRow T43.out _ _ (by omega)⟩
set_option maxRecDepth 100000 in
set_option maxHeartbeats 2000000 in
theorem rgrow_none {w : World} {A : Option Addr} {c f : Nat} {l : Int} {L : List Sn} (h : Rg w A c L) (s n : Nat) (h0 : s ≠ 0) (hi : ¬ fd s L < L.length) :
    Calls Try.prog 31 #[.agg (rrc A L.length c f l), .int .u32 s, .int .u32 n] w fun e w' => e = .returned (.tuple #[.agg (rrc A L.length c f l), .int .i64 0]) ∧ Below w.heap.size w w' := by
  obtain ⟨w0, hw0, t1, t2, t4, t5⟩ := two_ref w (rrc A L.length c f l) #[.slice none 0 0, .int .i64 0, .int .i64 0, .bool false] 31 31
  have HW := Lib.hid hw0
  rw [rr_zero] at t2
  have T1 := Lib.hid t1
  have T2 := Lib.hid t2
  have T4 := Lib.hid t4
  have HR := Lib.hid (h.up T4.out)
  have e0 : ((s : Int) == 0) = false := by rw [beq_eq_false_iff_ne]; omega
  clear hw0 t1 t2 t4 t5 h h0
  go_enter Try.func31, Try.ntmps31
  go_upto_region 1 with fail
  rw [HW.out]
  clear HW
  go_wp2_with (refine wpList_ld rfl _ rfl rfl T1.out (rr_ok _ _ _ _ _) ?_)
  refine (rfind_any HR.out s).mono ?_
  rintro e w1 ⟨rfl, hb1⟩
  have T11 := Lib.hid (T1.out.below hb1 T1.out.lt)
  have T21 := Lib.hid (T2.out.below hb1 T2.out.lt)
  have T41 := Lib.hid (T4.out.trans (hb1.mono T4.out.size))
  have HRET := Lib.hid (below_setRow T41.out (w.heap.size + 1) (rrc A L.length c f l) (by omega))
  rw [fdI_neg hi]
  clear hb1 T1 T2 T4 HR hi T41
  go_wp2_with (first | (refine wpList_ld rfl _ rfl rfl T11.out (rr_ok _ _ _ _ _) ?_) | (refine wpList_sw (cs := rrc A L.length c f l) rfl _ _ rfl rfl rfl T21.out (rr_sz _ _ _ _ _ _ _ _ _ _) (rr_ok _ _ _ _ _) ?_))
  exact bodyPost_ret (ret_agv (v := .int .i64 0) rfl _ rfl (T21.out.setRow _) (rr_ok _ _ _ _ _) rfl) rfl ⟨rfl, HRET.out⟩
set_option maxRecDepth 100000 in
set_option maxHeartbeats 2000000 in
theorem rgrow_some {w : World} {A : Option Addr} {c f : Nat} {l : Int} {L : List Sn} (h : Rg w A c L) (s n : Nat) (h0 : s ≠ 0) (hi : fd s L < L.length) {x : Sn} (hx : L[fd s L] = x) (hl : -2147483648 ≤ x.lf ∧ x.lf ≤ 2147483647) (hn : n < 4294967296) :
    Calls Try.prog 31 #[.agg (rrc A L.length c f l), .int .u32 s, .int .u32 n] w (MadeR2 w (L.set (fd s L) { x with lf := gwN x.lf n }) f l (.int .i64 (gwS x.lf n true false))) := by
  obtain ⟨w0, hw0, t1, t2, t4, t5⟩ := two_ref w (rrc A L.length c f l) #[.slice none 0 0, .int .i64 0, .int .i64 0, .bool false] 31 31
  have HW := Lib.hid hw0
  rw [rr_zero] at t2
  have T1 := Lib.hid t1
  have T2 := Lib.hid t2
  have T4 := Lib.hid t4
  have HR := Lib.hid (h.up T4.out)
  have HRW := Lib.hid h
  have e0 : ((s : Int) == 0) = false := by rw [beq_eq_false_iff_ne]; omega
  have hgw := fun W => rgw_any (b := true) hl (n := (n : Int)) (by omega) false W
  have hw32 : IntKind.i64.wrap (n : Int) = (n : Int) := IntWalk.i64_in _ (by omega)
  clear hw0 t1 t2 t4 t5 h0 hl
  go_enter Try.func31, Try.ntmps31
  go_upto_region 1 with fail
  rw [HW.out]
  clear HW
  go_wp2_with (refine wpList_ld rfl _ rfl rfl T1.out (rr_ok _ _ _ _ _) ?_)
  refine (rfind_any HR.out s).mono ?_
  rintro e w1 ⟨rfl, hb1⟩
  have T11 := Lib.hid (T1.out.below hb1 T1.out.lt)
  have T21 := Lib.hid (T2.out.below hb1 T2.out.lt)
  have T41 := Lib.hid (T4.out.trans (hb1.mono T4.out.size))
  have HR1 := Lib.hid (h.up T41.out)
  have c0 := (rr_cells T11.out).1
  clear hb1 T1 T2 T4 HR
  rw [fdI_pos hi]
  obtain ⟨bb, q, rfl, hb, hr⟩ := HR1.out.at hi
  rw [hx] at hr
  have HI := Lib.hid hi
  have hin : w1.rangeAt bb (q + fd s L * 6) (snc x).toList := hr
  clear hr h hx
  generalize fd s L = k at *
  obtain ⟨w2, hw2, u1, u2, u3, u4⟩ := one_sn w1 x
  have HW2 := Lib.hid hw2
  have HXC := Lib.hid hin
  have U1 := Lib.hid u1
  have U2 := Lib.hid u2
  have U3 := Lib.hid u3
  have U4 := Lib.hid u4
  clear hw2 hin u1 u2 u3 u4
  go_upto_region 8 with fail
  go_upto_region 9 with (first | (refine wpList_ldm (cs := snc x) rfl _ rfl rfl HXC.out (sn_ok _) ?_) | (refine wpList_sw (cs := snc x) rfl _ _ rfl rfl rfl U1.out (by rw [sn_size]; rfl) (sn_ok _) ?_))
  rw [HW2.out]
  have T12 := Lib.hid (T11.out.below (U3.out.mono (Nat.le_refl _)) T11.out.lt)
  have T22 := Lib.hid (T21.out.below U3.out T21.out.lt)
  have T42 := Lib.hid (T41.out.trans (U3.out.mono T41.out.size))
  have hp2 : w.heap.size + 2 ≤ w1.heap.size := T21.out.lt
  clear HW2 U1 HXC c0 T11 T21 T41 HR1 U3 U4 hb
  generalize w1.heap.size = p at *
  have HXW := Lib.hid (sn_w U2.out)
  go_wp2_with (refine wpList_ldm (cs := rwc x.lf true) rfl _ rfl rfl HXW.out (rw_ok _ _) ?_)
  refine (hgw _).mono ?_
  rintro e w3 ⟨rfl, hb1⟩
  obtain ⟨w4, hw4, u1, v2, u3, u4⟩ := one_rw w3 (gwN x.lf n) true
  have hb4 := hb1.trans (u3.mono hb1.size)
  have U24 := Lib.hid (U2.out.below hb4 U2.out.lt)
  have T14 := Lib.hid (T12.out.below hb4 T12.out.lt)
  have T24 := Lib.hid (T22.out.below hb4 T22.out.lt)
  have T44 := Lib.hid (T42.out.trans (hb4.mono T42.out.size))
  have HW4 := Lib.hid hw4
  have V1 := Lib.hid u1
  have V2 := Lib.hid v2
  have TH := Lib.hid (sn_there U24.out (gwN x.lf n) true)
  clear hb1 hb4 U2 T12 T22 T42 HXW hgw hw4 u1 v2 u3 u4 hw32
  go_upto_region 10 with (refine wpList_sw (cs := rwc (gwN x.lf n) true) rfl _ _ rfl rfl rfl V1.out (rw_sz _ _ _ _) (rw_ok _ _) ?_)
  rw [HW4.out]
  clear HW4 V1
  generalize w3.heap.size = p3 at *
  go_upto_region 11 with (first | (refine wpList_ld (cs := rwc (gwN x.lf n) true) rfl _ rfl rfl V2.out (rw_ok _ _) ?_) | (refine wpList_swm (cs := rwc (gwN x.lf n) true) rfl _ _ rfl rfl rfl TH.out (rw_ok _ _) ?_))
  have U25 := Lib.hid (sn_setW U24.out (gwN x.lf n))
  have T15 := Lib.hid (cells_row (g := p) T14.out (by omega) (rwc (gwN x.lf n) true).toList 4)
  have T25 := Lib.hid (cells_row (g := p) T24.out (by omega) (rwc (gwN x.lf n) true).toList 4)
  have T45 := Lib.hid (cells_below (g := p) T44.out (by omega) (rwc (gwN x.lf n) true).toList 4)
  have HR5 := Lib.hid (HRW.out.up T45.out)
  clear T14 T24 T44 U24 V2 TH
  generalize w4.setCells p 4 (rwc (gwN x.lf n) true).toList = w5 at *
  generalize ({ x with lf := gwN x.lf n } : Sn) = y at *
  go_wp2_with (first | (refine wpList_ld rfl _ rfl rfl T15.out (rr_ok _ _ _ _ _) ?_) | (refine wpList_ld rfl _ rfl rfl U25.out (sn_ok _) ?_))
  refine (rwith_any HR5.out HI.out y).mono ?_
  rintro e w6 ⟨A6, c6, rfl, hR6, hb6⟩
  have T26 := Lib.hid (T25.out.below hb6 T25.out.lt)
  have T46 := Lib.hid (T45.out.trans (hb6.mono T45.out.size))
  have HL : Hid ((L.set k y).length = L.length) := by show _ = _; simp
  have HR6 := Lib.hid ((hR6.mono (B' := w.heap.size + 2) T25.out.lt))
  clear hb6 hR6 HR5 T15 T25 T45 U25
  go_wp2_with (refine wpList_sw (cs := rrc A6 L.length c6 f l) rfl _ _ rfl rfl rfl T26.out (rr_sz _ _ _ _ _ _ _ _ _ _) (rr_ok _ _ _ _ _) ?_)
  refine bodyPost_ret (ret_agv (v := .int .i64 (gwS x.lf n true false)) rfl _ rfl (T26.out.setRow _) (rr_ok _ _ _ _ _) rfl) rfl ?_
  exact ⟨A6, c6, by rw [HL.out], (HR6.out.setRow (by omega) _).mono (by omega), below_setRow T46.out _ _ (by omega)⟩
end Go.Proofs.Ytplohgaecoobaaa
