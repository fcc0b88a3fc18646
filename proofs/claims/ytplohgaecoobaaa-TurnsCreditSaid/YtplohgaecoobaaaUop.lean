/-
  The document's New and Open, by contract. Conditions: the ring is read; the places behind the turn are those of the ring.
-/
import Derived.Test.YtplohgaecoobaaaUpu
namespace Go.Proofs.Ytplohgaecoobaaa
open Go.RowKit Go.WideShapes

theorem sn_new (s : Nat) (l : Int) : #[Value.int .u32 s, .string ⟨#[]⟩, .bool false, .bool false, .int .i64 l, .bool true] = snc ⟨s, [], false, false, l⟩ := rfl
theorem bs_sn (x : Sn) (w : World) : (Instr.buildSlice 27 1 #[(0, .agg (snc x))]).run Try.prog w = .ok (.slice (some ⟨w.heap.size, 0, none⟩) 1 1) (w.alloc (.cells (snc x) 40)) := by unfold snc; kernel_rfl
theorem rr_new (l : Int) : #[Value.slice none 0 0, .int .i64 0, .int .i64 l, .bool false] = rrc none 0 0 0 l := rfl
/-- A list of one, just laid. -/
theorem rd_one (w : World) (x : Sn) : RdS (w.alloc (.cells (snc x) 40)) (fun _ => True) (some ⟨w.heap.size, 0, none⟩) (enl snl [x]) := fun _ => by
  refine ⟨w.heap.size, 0, rfl, trivial, fun j u hj => ?_⟩
  rw [enl_one, snl_c] at hj
  rw [Nat.zero_add]
  exact (Row.new w 40 (snc x)).cell (by simpa using hj)
attribute [local irreducible] snc rrc fd fdI btw
set_option maxRecDepth 100000 in
set_option maxHeartbeats 1000000 in
theorem rnew13_any (w : World) (l : Int) : Calls Try.prog 11 #[.int .i64 l] w fun e w' => e = .returned (.agg (rrc none 0 0 0 (btw l))) ∧ Below w.heap.size w w' := by
  have T1 : Hid (Row (w.alloc (.cells #[.slice none 0 0, .int .i64 0, .int .i64 0, .bool false] 31)) w.heap.size 31 (rrc none 0 0 0 0)) := by show Row _ _ _ _; rw [← rr_zero]; exact Row.new w _ _
  have T4 : Hid (Below w.heap.size w (w.alloc (.cells #[.slice none 0 0, .int .i64 0, .int .i64 0, .bool false] 31))) := (Below.refl _ _).alloc (Nat.le_refl _) _
  go_enter Try.func11, Try.ntmps11
  go_upto_region 1 with fail
  generalize w.alloc (.cells #[.slice none 0 0, .int .i64 0, .int .i64 0, .bool false] 31) = w1 at *
  go_wp2_with fail
  refine (rnew_any l false w1).mono ?_
  rintro e w2 ⟨rfl, hb2⟩
  have T12 := Lib.hid (T1.out.below hb2 T1.out.lt)
  have T42 := Lib.hid (T4.out.trans (hb2.mono T4.out.size))
  clear hb2 T1 T4
  unfold rwc
  go_wp2_with (refine wpList_sw (cs := rrc none 0 0 0 (btw l)) rfl _ _ rfl rfl (congrArg Value.agg (rr_new _)) T12.out (rr_sz _ _ _ _ _ _ _ _ _ _) (rr_ok _ _ _ _ _) ?_)
  exact bodyPost_ret (ret_ag rfl _ rfl (T12.out.setRow _) (rr_ok _ _ _ _ _)) rfl ⟨rfl, below_setRow T42.out _ _ (Nat.le_refl _)⟩
set_option maxRecDepth 100000 in
set_option maxHeartbeats 1000000 in
theorem ropen_no {w : World} {A : Option Addr} {c f : Nat} {l : Int} {L : List Sn} (h : Rg w A c L) (s : Nat) (lf : Int) (hno : s = 0 ∨ fd s L < L.length) :
    Calls Try.prog 28 #[.agg (rrc A L.length c f l), .int .u32 s, .int .i64 lf] w fun e w' => e = .returned (.tuple #[.agg (rrc A L.length c f l), .bool false]) ∧ Below w.heap.size w w' := by
  obtain ⟨w0, hw0, t1, t2, t4, t5⟩ := two_ref w (rrc A L.length c f l) #[.slice none 0 0, .int .i64 0, .int .i64 0, .bool false] 31 31
  have HW := Lib.hid hw0
  rw [rr_zero] at t2
  have T1 := Lib.hid t1
  have T2 := Lib.hid t2
  have T4 := Lib.hid t4
  have HR := Lib.hid (h.up T4.out)
  clear hw0 t1 t2 t4 t5
  by_cases h0 : s = 0
  · have e0 : ((s : Int) == 0) = true := by rw [h0]; rfl
    have HRET := Lib.hid (below_setRow T4.out (w.heap.size + 1) (rrc A L.length c f l) (by omega))
    clear h hno h0 HR T4
    go_enter Try.func28, Try.ntmps28
    go_upto_region 1 with fail
    rw [HW.out]
    clear HW
    go_wp2_with (first | (refine wpList_ld rfl _ rfl rfl T1.out (rr_ok _ _ _ _ _) ?_) | (refine wpList_sw (cs := rrc A L.length c f l) rfl _ _ rfl rfl rfl T2.out (rr_sz _ _ _ _ _ _ _ _ _ _) (rr_ok _ _ _ _ _) ?_))
    exact bodyPost_ret (ret_agv (v := .bool false) rfl _ rfl (T2.out.setRow _) (rr_ok _ _ _ _ _) rfl) rfl ⟨rfl, HRET.out⟩
  · have hi : fd s L < L.length := by rcases hno with h | h; exact absurd h h0; exact h
    have e0 : ((s : Int) == 0) = false := by rw [beq_eq_false_iff_ne]; omega
    clear hno h0
    go_enter Try.func28, Try.ntmps28
    go_upto_region 1 with fail
    rw [HW.out]
    clear HW
    go_wp2_with (refine wpList_ldg rfl _ rfl rfl T1.out (rr_ok _ _ _ _ _) ?_)
    refine (rfind_any HR.out s).mono ?_
    rintro e w1 ⟨rfl, hb1⟩
    have T11 := Lib.hid (T1.out.below hb1 T1.out.lt)
    have T21 := Lib.hid (T2.out.below hb1 T2.out.lt)
    have T41 := Lib.hid (T4.out.trans (hb1.mono T4.out.size))
    have HRET := Lib.hid (below_setRow T41.out (w.heap.size + 1) (rrc A L.length c f l) (by omega))
    clear hb1 T1 T2 T4 HR h T41
    rw [fdI_pos hi]
    clear hi
    go_wp2_with (first | (refine wpList_ld rfl _ rfl rfl T11.out (rr_ok _ _ _ _ _) ?_) | (refine wpList_sw (cs := rrc A L.length c f l) rfl _ _ rfl rfl rfl T21.out (rr_sz _ _ _ _ _ _ _ _ _ _) (rr_ok _ _ _ _ _) ?_))
    exact bodyPost_ret (ret_agv (v := .bool false) rfl _ rfl (T21.out.setRow _) (rr_ok _ _ _ _ _) rfl) rfl ⟨rfl, HRET.out⟩
set_option maxRecDepth 100000 in
set_option maxHeartbeats 2000000 in
theorem ropen_yes {w : World} {A : Option Addr} {c f : Nat} {l : Int} {L : List Sn} (h : Rg w A c L) (s : Nat) (lf : Int) (h0 : s ≠ 0) (hno : ¬ fd s L < L.length) (hf : f ≤ L.length) (hL : L.length ≤ 100000) :
    Calls Try.prog 28 #[.agg (rrc A L.length c f l), .int .u32 s, .int .i64 lf] w (MadeR2 w (L.take (L.length - f) ++ [⟨s, [], false, false, btw lf⟩] ++ L.drop (L.length - f)) f l (.bool true)) := by
  obtain ⟨w0, hw0, t1, t2, t4, t5⟩ := two_ref w (rrc A L.length c f l) #[.slice none 0 0, .int .i64 0, .int .i64 0, .bool false] 31 31
  have HW := Lib.hid hw0
  rw [rr_zero] at t2
  have T1 := Lib.hid t1
  have T2 := Lib.hid t2
  have T4 := Lib.hid t4
  have HR := Lib.hid (h.up T4.out)
  have HRW := Lib.hid h
  have e0 : ((s : Int) == 0) = false := by rw [beq_eq_false_iff_ne]; omega
  have hd : (L.length : Int) - (f : Int) = ((L.length - f : Nat) : Int) := by omega
  have HF := Lib.hid hf
  have hla := fun W => rlast_any W A L.length c f l h.bd (by omega)
  rw [hd] at hla
  have hdl : L.length - f ≤ L.length := by omega
  have hsn := sn_new s (btw lf)
  generalize hy : (⟨s, [], false, false, btw lf⟩ : Sn) = y at *
  generalize L.length - f = D at *
  have HL : Hid ((L.take D ++ [y] ++ L.drop D).length = L.length + 1) := by
    show _ = _
    simp only [List.length_append, List.length_take, List.length_drop, List.length_cons, List.length_nil, Nat.min_eq_left hdl]
    omega
  obtain ⟨i0, hi0, hz0, hz1, hz2⟩ := info_parts sn_full
  have hlen := h.len
  clear hw0 t1 t2 t4 t5 h hd hz0 hz2
  go_enter Try.func28, Try.ntmps28
  go_upto_region 1 with fail
  rw [HW.out]
  clear HW
  go_wp2_with (refine wpList_ldg rfl _ rfl rfl T1.out (rr_ok _ _ _ _ _) ?_)
  refine (rfind_any HR.out s).mono ?_
  rintro e w1 ⟨rfl, hb1⟩
  have T11 := Lib.hid (T1.out.below hb1 T1.out.lt)
  have T21 := Lib.hid (T2.out.below hb1 T2.out.lt)
  have T41 := Lib.hid (T4.out.trans (hb1.mono T4.out.size))
  clear hb1 T1 T2 T4 HR
  rw [fdI_neg hno]
  clear hno e0
  go_wp2_with (first | (refine wpList_ld rfl _ rfl rfl T11.out (rr_ok _ _ _ _ _) ?_))
  refine (hla _).mono ?_
  rintro e wa ⟨rfl, hb1⟩
  have T1a := Lib.hid (T11.out.below hb1 T11.out.lt)
  have T2a := Lib.hid (T21.out.below hb1 T21.out.lt)
  have T4a := Lib.hid (T41.out.trans (hb1.mono T41.out.size))
  clear hb1 T11 T21 T41 hla
  have HO3 := Lib.hid (own_none wa)
  have HB3 : Hid (Below wa.heap.size wa (wa.alloc (.cells #[] 40))) := (Below.refl _ _).alloc (Nat.le_refl _) _
  have hp : w.heap.size + 1 < wa.heap.size := T2a.out.lt
  go_upto_region 5 with fail
  generalize wa.alloc (.cells #[] 40) = w3 at *
  generalize hpp : wa.heap.size = p at *
  have T13 := Lib.hid (T1a.out.below HB3.out (by omega))
  have T43 := Lib.hid (T4a.out.trans (HB3.out.mono (by omega)))
  have HR3 := Lib.hid (HRW.out.up T43.out)
  obtain ⟨hcut, hrd⟩ := cut_uptoE (P := Try.prog) snl_len (by omega) Try.underlying27 hi0 hz1 HR3.out.rd hlen hdl
  have HRD := Lib.hid hrd
  have c0 := (rr_cells T13.out).1
  have hs3 : p ≤ w3.heap.size := by have := HB3.out.size; omega
  have HTL : Hid (D = (L.take D).length) := by show _ = _; rw [List.length_take, Nat.min_eq_left hdl]
  clear hrd T13 T43 HR3
  go_upto_region 6 with (at_builtin; go_loud (refine app_sn rfl (.tmp 22) (.tmp 26) rfl rfl HO3.out rfl HTL.out HRD.out (by omega) hs3 ?_; intro A4 c4 w4 hO4 hf4 hb4))
  have HB4 := Lib.hid (HB3.out.trans (hf4.below (fun k hk _ => (own_lt HO3.out k hk).1) hs3))
  simp only [Nat.zero_add, List.nil_append] at hO4 hb4 ⊢
  have HO4 := Lib.hid hO4
  clear HB3 HO3 hf4 hb4 hO4 c0 hcut HRD hs3
  go_wp2_with fail
  refine (rnew_any lf true w4).mono ?_
  rintro e w5 ⟨rfl, hb5⟩
  have HB5 := Lib.hid (HB4.out.trans (hb5.mono (by have := HB4.out.size; omega)))
  have HO5 := Lib.hid (HO4.out.below hb5)
  have hs5 : p ≤ w5.heap.size := by have := HB5.out.size; omega
  have HBA := Lib.hid (HB5.out.alloc hs5 (.cells (snc y) 40))
  have HOA := Lib.hid (HO5.out.alloc (.cells (snc y) 40))
  have HRA := Lib.hid (rd_one w5 y)
  have hsA : p ≤ (w5.alloc (.cells (snc y) 40)).heap.size := by simp; omega
  clear hb5 HB4 HO4 HB5 HO5
  unfold rwc
  go_upto_region 7 with (first | (refine wpList_bs1 (E := 40) (bs_sn y) rfl _ rfl rfl ?_) | (at_builtin; go_loud (refine app_sn rfl (.tmp 28) (.tmp 33) rfl rfl HOA.out (A := some ⟨w5.heap.size, 0, none⟩) (c := 1) rfl rfl HRA.out (by omega) hsA ?_; intro A6 c6 w6 hO6 hf6 hb6)))
  have HB6 := Lib.hid (HBA.out.trans (hf6.below (fun k hk _ => (own_lt HOA.out k hk).1) hsA))
  have HO6 := Lib.hid hO6
  clear HBA HOA HRA hsA hs5 hO6 hf6 hb6 hsn
  generalize w5.alloc (.cells (snc y) 40) = w5' at *
  have T16 := Lib.hid (T1a.out.below HB6.out (by omega))
  have T46 := Lib.hid (T4a.out.trans (HB6.out.mono (by omega)))
  have HR6 := Lib.hid (HRW.out.up T46.out)
  obtain ⟨A7, hcut, hrd⟩ := cut_fromE (P := Try.prog) snl_len (by omega) Try.underlying27 hi0 hz1 HR6.out.rd hlen hdl
  have HRD := Lib.hid hrd
  have c0 := (rr_cells T16.out).1
  have z0 := T16.out.thawed 0
  have hs6 : p ≤ w6.heap.size := by have := HB6.out.size; omega
  have HDL : Hid (L.length - D = (L.drop D).length) := by show _ = _; rw [List.length_drop]
  clear hrd T16 T46 HR6
  go_upto_region 8 with (at_builtin; go_loud (refine app_sn rfl (.tmp 35) (.tmp 39) rfl rfl HO6.out rfl HDL.out HRD.out (by omega) hs6 ?_; intro A8 c8 w8 hO8 hf8 hb8; have hB8 := HB6.out.trans (hf8.below (fun k hk _ => (own_lt HO6.out k hk).1) hs6); have r0 := T1a.out.below hB8 (by omega); have c8' := (rr_cells r0).1; have z8 := r0.thawed 0; clear c0 z0 hcut))
  have hN : D + 1 + (L.length - D) = (L.take D ++ [y] ++ L.drop D).length := by rw [HL.out]; omega
  obtain ⟨w9, hw9, k1, k2, k3, k4⟩ := fin_set hO8 hN (by rw [HL.out]; omega) hB8 T4a.out hp T1a.out T2a.out
  rw [hw9]
  rw [hN] at k1
  rw [hN]
  have K1 := Lib.hid k1
  have K2 := Lib.hid k2
  have K3 := Lib.hid k3
  have K4 := Lib.hid k4
  clear hw9 k1 k2 k3 k4 hO8 hf8 hb8 hB8 r0 c8' z8 T1a T2a T4a HB6 HO6 HRD HDL hN HL HTL hs6 hy hpp
  generalize L.take D ++ [y] ++ L.drop D = V at *
  go_wp2_with (first | (refine wpList_ld rfl _ rfl rfl K1.out (rr_ok _ _ _ _ _) ?_) | (refine wpList_sw (cs := rrc A8 V.length c8 f l) rfl _ _ rfl rfl rfl K2.out (rr_sz _ _ _ _ _ _ _ _ _ _) (rr_ok _ _ _ _ _) ?_))
  refine bodyPost_ret (ret_agv (v := .bool true) rfl _ rfl (K2.out.setRow _) (rr_ok _ _ _ _ _) rfl) rfl ?_
  exact ⟨A8, c8, rfl, (K3.out.setRow hp _).mono (by omega), below_setRow K4.out _ _ (by omega)⟩
end Go.Proofs.Ytplohgaecoobaaa
