/-
  The document's Drop, by contract. Conditions: the ring is read; the turn is one of its places.
-/
import Derived.Test.YtplohgaecoobaaaUtu
namespace Go.Proofs.Ytplohgaecoobaaa
open Go.RowKit Go.WideShapes

/-- How many stand ahead of the ring's first one, behind a drop at this place. -/
def drF (n f i : Nat) : Nat := if n - 1 - (if n - f ≤ i then f - 1 else f) = 0 then 0 else (if n - f ≤ i then f - 1 else f)
theorem decF {p : Prop} [Decidable p] (h : ¬ p) : decide p = false := decide_eq_false h
theorem waylo {w w2 : World} {A : Option Addr} {n c f G : Nat} {l : Int} (h1 : Row w2 w.heap.size 31 (rrc A n c f l)) (h2 : Row w2 (w.heap.size + 1) 31 (rrc none 0 0 0 0)) (h4 : Below w.heap.size w w2) (hG : G = f) :
    ∃ wb, w2 = wb ∧ Row wb w.heap.size 31 (rrc A n c G l) ∧ Row wb (w.heap.size + 1) 31 (rrc none 0 0 0 0) ∧ Below w.heap.size w wb := ⟨_, rfl, by rw [hG]; exact h1, h2, h4⟩
theorem wayhi {w w2 : World} {A : Option Addr} {n c f G : Nat} {l : Int} (h1 : Row w2 w.heap.size 31 (rrc A n c f l)) (h2 : Row w2 (w.heap.size + 1) 31 (rrc none 0 0 0 0)) (h4 : Below w.heap.size w w2) (_ : G + 1 = f) :
    ∃ wb, w2.setCell ⟨w.heap.size, 1, none⟩ (.int .i64 G) = wb ∧ Row wb w.heap.size 31 (rrc A n c G l) ∧ Row wb (w.heap.size + 1) 31 (rrc none 0 0 0 0) ∧ Below w.heap.size w wb :=
  ⟨_, rfl, rr_set1 h1, h2.stored' (by simp) _, h4.setCell (Nat.le_refl _) _⟩
attribute [local irreducible] snc rrc fd fdI
set_option maxRecDepth 100000 in
set_option maxHeartbeats 1000000 in
theorem rdrop_no {w : World} {A : Option Addr} {c f : Nat} {l : Int} {L : List Sn} (h : Rg w A c L) (s : Nat) (hi : ¬ fd s L < L.length) :
    Calls Try.prog 34 #[.agg (rrc A L.length c f l), .int .u32 s] w fun e w' => e = .returned (.agg (rrc A L.length c f l)) ∧ Below w.heap.size w w' := by
  obtain ⟨w0, hw0, t1, t2, t4, t5⟩ := two_ref w (rrc A L.length c f l) #[.slice none 0 0, .int .i64 0, .int .i64 0, .bool false] 31 31
  have HW := Lib.hid hw0
  rw [rr_zero] at t2
  have T1 := Lib.hid t1
  have T2 := Lib.hid t2
  have T4 := Lib.hid t4
  have HR := Lib.hid (h.up T4.out)
  clear hw0 t1 t2 t4 t5 h
  go_enter Try.func34, Try.ntmps34
  go_upto_region 1 with fail
  rw [HW.out]
  clear HW
  go_wp2_with (refine wpList_ld rfl _ rfl rfl T1.out (rr_ok _ _ _ _ _) ?_)
  refine (rfind_any HR.out s).mono ?_
  rintro e w1 ⟨rfl, hb1⟩
  have T11 := Lib.hid (T1.out.below hb1 T1.out.lt)
  have T21 := Lib.hid (T2.out.below hb1 T2.out.lt)
  have T41 := Lib.hid (T4.out.trans (hb1.mono T4.out.size))
  have HRET := Lib.hid (below_setRow T41.out (w.heap.size + 1) (rrc A L.length c f l) (by omega))
  rw [fdI_neg hi]
  clear hb1 T1 T2 T4 HR hi T41
  go_wp2_with (first | (refine wpList_ld rfl _ rfl rfl T11.out (rr_ok _ _ _ _ _) ?_) | (refine wpList_sw (cs := rrc A L.length c f l) rfl _ _ rfl rfl rfl T21.out (rr_sz _ _ _ _ _ _ _ _ _ _) (rr_ok _ _ _ _ _) ?_))
  exact bodyPost_ret (ret_ag rfl _ rfl (T21.out.setRow _) (rr_ok _ _ _ _ _)) rfl ⟨rfl, HRET.out⟩
set_option maxRecDepth 100000 in
set_option maxHeartbeats 2000000 in
theorem rdrop_lo {w : World} {A : Option Addr} {c f : Nat} {l : Int} {L : List Sn} (h : Rg w A c L) (s : Nat) (hi : fd s L < L.length) {D G F : Nat} (hD : f + D = L.length) (hg : G = f) (hc : ¬ D ≤ fd s L) (hF : (L.length - 1 = G → F = 0) ∧ (L.length - 1 ≠ G → F = G)) :
    Calls Try.prog 34 #[.agg (rrc A L.length c f l), .int .u32 s] w (MadeR w (L.take (fd s L) ++ L.drop (fd s L + 1)) F l) := by
  obtain ⟨w0, hw0, t1, t2, t4, t5⟩ := two_ref w (rrc A L.length c f l) #[.slice none 0 0, .int .i64 0, .int .i64 0, .bool false] 31 31
  have HW := Lib.hid hw0
  rw [rr_zero] at t2
  have T1 := Lib.hid t1
  have T2 := Lib.hid t2
  have T4 := Lib.hid t4
  have HR := Lib.hid (h.up T4.out)
  have HRW := Lib.hid h
  have hbd := h.bd
  have hlen := h.len
  obtain ⟨i0, hi0, hz0, hz1, hz2⟩ := info_parts sn_full
  have hla := fun W => rlast_any W A L.length c f l hbd (by omega)
  have hd : (L.length : Int) - (f : Int) = (D : Int) := by omega
  rw [hd] at hla
  have HD := Lib.hid hD
  have HG := Lib.hid hg
  have HF := Lib.hid hF
  clear hw0 t1 t2 t4 h hz0 hz2 hd t5 hD hg hF
  go_enter Try.func34, Try.ntmps34
  go_upto_region 1 with fail
  rw [HW.out]
  clear HW
  go_wp2_with (refine wpList_ld rfl _ rfl rfl T1.out (rr_ok _ _ _ _ _) ?_)
  refine (rfind_any HR.out s).mono ?_
  rintro e w1 ⟨rfl, hb1⟩
  have T11 := Lib.hid (T1.out.below hb1 T1.out.lt)
  have T21 := Lib.hid (T2.out.below hb1 T2.out.lt)
  have T41 := Lib.hid (T4.out.trans (hb1.mono T4.out.size))
  rw [fdI_pos hi]
  generalize fd s L = k at *
  have HL : Hid ((L.take k ++ L.drop (k + 1)).length = L.length - 1) := by
    show _ = _
    simp only [List.length_append, List.length_take, List.length_drop]
    omega
  clear hb1 T1 T2 T4 HR
  go_wp2_with (refine wpList_ld rfl _ rfl rfl T11.out (rr_ok _ _ _ _ _) ?_)
  refine (hla _).mono ?_
  rintro e w2 ⟨rfl, hb1⟩
  have T12 := Lib.hid (T11.out.below hb1 T11.out.lt)
  have T22 := Lib.hid (T21.out.below hb1 T21.out.lt)
  have T42 := Lib.hid (T41.out.trans (hb1.mono T41.out.size))
  clear hb1 T11 T21 T41 hla
  have c1 := (rr_cells T12.out).2.1
  have z1 := T12.out.thawed 1
  have hge : decide (D ≤ k) = false := decF (by omega)
  have hwr : IntKind.i64.wrap ((f : Int) - 1) = (f : Int) - 1 := by
    have h1 := HD.out
    have h2 := HG.out
    have h3 := IntWalk.i64_in ((f : Int) - 1) (by omega)
    omega
  obtain ⟨wa, hwa, t1, t2, t4⟩ := waylo T12.out T22.out T42.out HG.out
  have T1a := Lib.hid t1
  have T2a := Lib.hid t2
  have T4a := Lib.hid t4
  have HWA := Lib.hid hwa
  have hp : w.heap.size + 1 < wa.heap.size := t2.lt
  clear T12 T22 T42 hwa t1 t2 t4
  have HK : Hid (k < L.length) := hi
  have hwk : IntKind.i64.wrap ((k : Int) + 1) = (k : Int) + 1 := IntWalk.i64_in _ (by omega)
  clear hc
  go_upto_region 6 with fail
  rw [HWA.out]
  clear HWA c1 z1 hge hwr
  have HO3 := Lib.hid (own_none wa)
  have HB3 : Hid (Below wa.heap.size wa (wa.alloc (.cells #[] 40))) := (Below.refl _ _).alloc (Nat.le_refl _) _
  go_upto_region 7 with fail
  generalize wa.alloc (.cells #[] 40) = w3 at *
  generalize hpp : wa.heap.size = p at *
  have T13 := Lib.hid (T1a.out.below HB3.out (by omega))
  have T43 := Lib.hid (T4a.out.trans (HB3.out.mono (by omega)))
  have HR3 := Lib.hid (HRW.out.up T43.out)
  obtain ⟨hcut, hrd⟩ := cut_uptoE (P := Try.prog) snl_len (by omega) Try.underlying27 hi0 hz1 HR3.out.rd hlen (Nat.le_of_lt hi)
  have HRD := Lib.hid hrd
  have c0 := (rr_cells T13.out).1
  have hs3 : p ≤ w3.heap.size := by have := HB3.out.size; omega
  have HTL : Hid (k = (L.take k).length) := by show _ = _; rw [List.length_take, Nat.min_eq_left (Nat.le_of_lt hi)]
  clear hrd T13 T43 HR3
  go_upto_region 8 with (at_builtin; go_loud (refine app_sn rfl (.tmp 22) (.tmp 26) rfl rfl HO3.out rfl HTL.out HRD.out (by omega) hs3 ?_; intro A4 c4 w4 hO4 hf4 hb4))
  have HB4 := Lib.hid (HB3.out.trans (hf4.below (fun k hk _ => (own_lt HO3.out k hk).1) hs3))
  simp only [Nat.zero_add, List.nil_append] at hO4 hb4 ⊢
  have HO4 := Lib.hid hO4
  clear HB3 HO3 hf4 hb4 hO4 c0 hcut HRD hs3
  have T14 := Lib.hid (T1a.out.below HB4.out (by omega))
  have T44 := Lib.hid (T4a.out.trans (HB4.out.mono (by omega)))
  have HR4 := Lib.hid (HRW.out.up T44.out)
  obtain ⟨A7, hcut, hrd⟩ := cut_fromE (P := Try.prog) (m := k + 1) snl_len (by omega) Try.underlying27 hi0 hz1 HR4.out.rd hlen (by omega)
  rw [show ((k + 1 : Nat) : Int) = (k : Int) + 1 from rfl] at hcut
  have HRD := Lib.hid hrd
  have c0 := (rr_cells T14.out).1
  have z0 := T14.out.thawed 0
  have hs4 : p ≤ w4.heap.size := by have := HB4.out.size; omega
  have HDL : Hid (L.length - (k + 1) = (L.drop (k + 1)).length) := by show _ = _; rw [List.length_drop]
  clear hrd T14 T44 HR4
  go_upto_region 9 with (at_builtin; go_loud (refine app_sn rfl (.tmp 28) (.tmp 33) rfl rfl HO4.out rfl HDL.out HRD.out (by omega) hs4 ?_; intro A8 c8 w8 hO8 hf8 hb8; have hB8 := HB4.out.trans (hf8.below (fun k hk _ => (own_lt HO4.out k hk).1) hs4); have r0 := T1a.out.below hB8 (by omega); have c8' := (rr_cells r0).1; have z8 := r0.thawed 0; clear c0 z0 hcut))
  have hN : k + (L.length - (k + 1)) = (L.take k ++ L.drop (k + 1)).length := by rw [HL.out]; omega
  obtain ⟨w9, hw9, k1, k2, k3, k4⟩ := fin_set hO8 hN (by rw [HL.out]; omega) hB8 T4a.out hp T1a.out T2a.out
  rw [hw9]
  rw [hN, HL.out] at k1
  rw [hN, HL.out]
  have hM : L.length - 1 ≤ 1000000 := by omega
  have hG : G ≤ 1000000 := by have := HG.out; have := HD.out; omega
  have HM : Hid (L.length - 1 = (L.take k ++ L.drop (k + 1)).length) := HL.out.symm
  have hF := HF.out
  generalize L.take k ++ L.drop (k + 1) = V at *
  generalize L.length - 1 = M at *
  have K1 := Lib.hid k1
  have K2 := Lib.hid k2
  have K3 := Lib.hid k3
  have K4 := Lib.hid k4
  have hla := fun W => rlast_any W A8 M c8 G l hM hG
  clear hw9 k1 k2 k3 k4 hO8 hf8 hb8 hB8 r0 c8' z8 T1a T2a T4a HB4 HO4 HRD HDL hN HTL hs4 hpp HL hwk HD HG HF hi0 hz1 hM hG
  go_wp2_with (refine wpList_ld rfl _ rfl rfl K1.out (rr_ok _ _ _ _ _) ?_)
  refine (hla _).mono ?_
  rintro e w10 ⟨rfl, hb1⟩
  have M1 := Lib.hid (K1.out.below hb1 K1.out.lt)
  have M2 := Lib.hid (K2.out.below hb1 K2.out.lt)
  have M3 := Lib.hid (K3.out.below hb1)
  have M4 := Lib.hid (K4.out.trans (hb1.mono K4.out.size))
  clear hb1 K1 K2 K3 K4 hla
  by_cases hz : M = G
  · have hq : ((M : Int) - (G : Int) == 0) = true := by rw [beq_iff_eq]; omega
    obtain rfl := hF.1 hz
    have N1 := Lib.hid (rr_set1 (f' := 0) M1.out)
    have N2 := Lib.hid (M2.out.stored' (a := ⟨w.heap.size, 1, none⟩) (by simp) (.int .i64 (0 : Nat)))
    have N3 := Lib.hid (M3.out.setCell (k := w.heap.size) (by omega) 1 (.int .i64 (0 : Nat)))
    have N4 := Lib.hid (M4.out.setCell (p := ⟨w.heap.size, 1, none⟩) (Nat.le_refl _) (.int .i64 (0 : Nat)))
    have d1 := (rr_cells M1.out).2.1
    have z1 := M1.out.thawed 1
    clear hF hz M1 M2 M3 M4
    rw [show ((0 : Nat) : Int) = 0 from rfl] at N1 N2 N3 N4
    go_upto_region 11 with fail
    generalize w10.setCell ⟨w.heap.size, 1, none⟩ (.int .i64 0) = w11 at *
    clear d1 z1
    go_wp2_with (first | (refine wpList_ld rfl _ rfl rfl N1.out (rr_ok _ _ _ _ _) ?_) | (refine wpList_sw (cs := rrc A8 M c8 0 l) rfl _ _ rfl rfl rfl N2.out (rr_sz _ _ _ _ _ _ _ _ _ _) (rr_ok _ _ _ _ _) ?_))
    refine bodyPost_ret (ret_ag rfl _ rfl (N2.out.setRow _) (rr_ok _ _ _ _ _)) rfl ?_
    exact ⟨A8, c8, by rw [HM.out], (N3.out.setRow hp _).mono (by omega), below_setRow N4.out _ _ (by omega)⟩
  · have hq : ((M : Int) - (G : Int) == 0) = false := by rw [beq_eq_false_iff_ne]; omega
    obtain rfl := hF.2 hz
    clear hF hz
    go_wp2_with (first | (refine wpList_ld rfl _ rfl rfl M1.out (rr_ok _ _ _ _ _) ?_) | (refine wpList_sw (cs := rrc A8 M c8 _ l) rfl _ _ rfl rfl rfl M2.out (rr_sz _ _ _ _ _ _ _ _ _ _) (rr_ok _ _ _ _ _) ?_))
    refine bodyPost_ret (ret_ag rfl _ rfl (M2.out.setRow _) (rr_ok _ _ _ _ _)) rfl ?_
    exact ⟨A8, c8, by rw [HM.out], (M3.out.setRow hp _).mono (by omega), below_setRow M4.out _ _ (by omega)⟩
set_option maxRecDepth 100000 in
set_option maxHeartbeats 2000000 in
theorem rdrop_hi {w : World} {A : Option Addr} {c f : Nat} {l : Int} {L : List Sn} (h : Rg w A c L) (s : Nat) (hi : fd s L < L.length) {D G F : Nat} (hD : f + D = L.length) (hg : G + 1 = f) (hc : D ≤ fd s L) (hF : (L.length - 1 = G → F = 0) ∧ (L.length - 1 ≠ G → F = G)) :
    Calls Try.prog 34 #[.agg (rrc A L.length c f l), .int .u32 s] w (MadeR w (L.take (fd s L) ++ L.drop (fd s L + 1)) F l) := by
  obtain ⟨w0, hw0, t1, t2, t4, t5⟩ := two_ref w (rrc A L.length c f l) #[.slice none 0 0, .int .i64 0, .int .i64 0, .bool false] 31 31
  have HW := Lib.hid hw0
  rw [rr_zero] at t2
  have T1 := Lib.hid t1
  have T2 := Lib.hid t2
  have T4 := Lib.hid t4
  have HR := Lib.hid (h.up T4.out)
  have HRW := Lib.hid h
  have hbd := h.bd
  have hlen := h.len
  obtain ⟨i0, hi0, hz0, hz1, hz2⟩ := info_parts sn_full
  have hla := fun W => rlast_any W A L.length c f l hbd (by omega)
  have hd : (L.length : Int) - (f : Int) = (D : Int) := by omega
  rw [hd] at hla
  have HD := Lib.hid hD
  have HG := Lib.hid hg
  have HF := Lib.hid hF
  clear hw0 t1 t2 t4 h hz0 hz2 hd t5 hD hg hF
  go_enter Try.func34, Try.ntmps34
  go_upto_region 1 with fail
  rw [HW.out]
  clear HW
  go_wp2_with (refine wpList_ld rfl _ rfl rfl T1.out (rr_ok _ _ _ _ _) ?_)
  refine (rfind_any HR.out s).mono ?_
  rintro e w1 ⟨rfl, hb1⟩
  have T11 := Lib.hid (T1.out.below hb1 T1.out.lt)
  have T21 := Lib.hid (T2.out.below hb1 T2.out.lt)
  have T41 := Lib.hid (T4.out.trans (hb1.mono T4.out.size))
  rw [fdI_pos hi]
  generalize fd s L = k at *
  have HL : Hid ((L.take k ++ L.drop (k + 1)).length = L.length - 1) := by
    show _ = _
    simp only [List.length_append, List.length_take, List.length_drop]
    omega
  clear hb1 T1 T2 T4 HR
  go_wp2_with (refine wpList_ld rfl _ rfl rfl T11.out (rr_ok _ _ _ _ _) ?_)
  refine (hla _).mono ?_
  rintro e w2 ⟨rfl, hb1⟩
  have T12 := Lib.hid (T11.out.below hb1 T11.out.lt)
  have T22 := Lib.hid (T21.out.below hb1 T21.out.lt)
  have T42 := Lib.hid (T41.out.trans (hb1.mono T41.out.size))
  clear hb1 T11 T21 T41 hla
  have c1 := (rr_cells T12.out).2.1
  have z1 := T12.out.thawed 1
  have hge : D ≤ k := by omega
  have hwr : IntKind.i64.wrap ((f : Int) - 1) = (G : Int) := by
    have h1 := HD.out
    have h2 := HG.out
    have h3 := IntWalk.i64_in ((f : Int) - 1) (by omega)
    omega
  obtain ⟨wa, hwa, t1, t2, t4⟩ := wayhi T12.out T22.out T42.out HG.out
  have T1a := Lib.hid t1
  have T2a := Lib.hid t2
  have T4a := Lib.hid t4
  have HWA := Lib.hid hwa
  have hp : w.heap.size + 1 < wa.heap.size := t2.lt
  clear T12 T22 T42 hwa t1 t2 t4
  have HK : Hid (k < L.length) := hi
  have hwk : IntKind.i64.wrap ((k : Int) + 1) = (k : Int) + 1 := IntWalk.i64_in _ (by omega)
  clear hc
  go_upto_region 6 with fail
  rw [HWA.out]
  clear HWA c1 z1 hge hwr
  have HO3 := Lib.hid (own_none wa)
  have HB3 : Hid (Below wa.heap.size wa (wa.alloc (.cells #[] 40))) := (Below.refl _ _).alloc (Nat.le_refl _) _
  go_upto_region 7 with fail
  generalize wa.alloc (.cells #[] 40) = w3 at *
  generalize hpp : wa.heap.size = p at *
  have T13 := Lib.hid (T1a.out.below HB3.out (by omega))
  have T43 := Lib.hid (T4a.out.trans (HB3.out.mono (by omega)))
  have HR3 := Lib.hid (HRW.out.up T43.out)
  obtain ⟨hcut, hrd⟩ := cut_uptoE (P := Try.prog) snl_len (by omega) Try.underlying27 hi0 hz1 HR3.out.rd hlen (Nat.le_of_lt hi)
  have HRD := Lib.hid hrd
  have c0 := (rr_cells T13.out).1
  have hs3 : p ≤ w3.heap.size := by have := HB3.out.size; omega
  have HTL : Hid (k = (L.take k).length) := by show _ = _; rw [List.length_take, Nat.min_eq_left (Nat.le_of_lt hi)]
  clear hrd T13 T43 HR3
  go_upto_region 8 with (at_builtin; go_loud (refine app_sn rfl (.tmp 22) (.tmp 26) rfl rfl HO3.out rfl HTL.out HRD.out (by omega) hs3 ?_; intro A4 c4 w4 hO4 hf4 hb4))
  have HB4 := Lib.hid (HB3.out.trans (hf4.below (fun k hk _ => (own_lt HO3.out k hk).1) hs3))
  simp only [Nat.zero_add, List.nil_append] at hO4 hb4 ⊢
  have HO4 := Lib.hid hO4
  clear HB3 HO3 hf4 hb4 hO4 c0 hcut HRD hs3
  have T14 := Lib.hid (T1a.out.below HB4.out (by omega))
  have T44 := Lib.hid (T4a.out.trans (HB4.out.mono (by omega)))
  have HR4 := Lib.hid (HRW.out.up T44.out)
  obtain ⟨A7, hcut, hrd⟩ := cut_fromE (P := Try.prog) (m := k + 1) snl_len (by omega) Try.underlying27 hi0 hz1 HR4.out.rd hlen (by omega)
  rw [show ((k + 1 : Nat) : Int) = (k : Int) + 1 from rfl] at hcut
  have HRD := Lib.hid hrd
  have c0 := (rr_cells T14.out).1
  have z0 := T14.out.thawed 0
  have hs4 : p ≤ w4.heap.size := by have := HB4.out.size; omega
  have HDL : Hid (L.length - (k + 1) = (L.drop (k + 1)).length) := by show _ = _; rw [List.length_drop]
  clear hrd T14 T44 HR4
  go_upto_region 9 with (at_builtin; go_loud (refine app_sn rfl (.tmp 28) (.tmp 33) rfl rfl HO4.out rfl HDL.out HRD.out (by omega) hs4 ?_; intro A8 c8 w8 hO8 hf8 hb8; have hB8 := HB4.out.trans (hf8.below (fun k hk _ => (own_lt HO4.out k hk).1) hs4); have r0 := T1a.out.below hB8 (by omega); have c8' := (rr_cells r0).1; have z8 := r0.thawed 0; clear c0 z0 hcut))
  have hN : k + (L.length - (k + 1)) = (L.take k ++ L.drop (k + 1)).length := by rw [HL.out]; omega
  obtain ⟨w9, hw9, k1, k2, k3, k4⟩ := fin_set hO8 hN (by rw [HL.out]; omega) hB8 T4a.out hp T1a.out T2a.out
  rw [hw9]
  rw [hN, HL.out] at k1
  rw [hN, HL.out]
  have hM : L.length - 1 ≤ 1000000 := by omega
  have hG : G ≤ 1000000 := by have := HG.out; have := HD.out; omega
  have HM : Hid (L.length - 1 = (L.take k ++ L.drop (k + 1)).length) := HL.out.symm
  have hF := HF.out
  generalize L.take k ++ L.drop (k + 1) = V at *
  generalize L.length - 1 = M at *
  have K1 := Lib.hid k1
  have K2 := Lib.hid k2
  have K3 := Lib.hid k3
  have K4 := Lib.hid k4
  have hla := fun W => rlast_any W A8 M c8 G l hM hG
  clear hw9 k1 k2 k3 k4 hO8 hf8 hb8 hB8 r0 c8' z8 T1a T2a T4a HB4 HO4 HRD HDL hN HTL hs4 hpp HL hwk HD HG HF hi0 hz1 hM hG
  go_wp2_with (refine wpList_ld rfl _ rfl rfl K1.out (rr_ok _ _ _ _ _) ?_)
  refine (hla _).mono ?_
  rintro e w10 ⟨rfl, hb1⟩
  have M1 := Lib.hid (K1.out.below hb1 K1.out.lt)
  have M2 := Lib.hid (K2.out.below hb1 K2.out.lt)
  have M3 := Lib.hid (K3.out.below hb1)
  have M4 := Lib.hid (K4.out.trans (hb1.mono K4.out.size))
  clear hb1 K1 K2 K3 K4 hla
  by_cases hz : M = G
  · have hq : ((M : Int) - (G : Int) == 0) = true := by rw [beq_iff_eq]; omega
    obtain rfl := hF.1 hz
    have N1 := Lib.hid (rr_set1 (f' := 0) M1.out)
    have N2 := Lib.hid (M2.out.stored' (a := ⟨w.heap.size, 1, none⟩) (by simp) (.int .i64 (0 : Nat)))
    have N3 := Lib.hid (M3.out.setCell (k := w.heap.size) (by omega) 1 (.int .i64 (0 : Nat)))
    have N4 := Lib.hid (M4.out.setCell (p := ⟨w.heap.size, 1, none⟩) (Nat.le_refl _) (.int .i64 (0 : Nat)))
    have d1 := (rr_cells M1.out).2.1
    have z1 := M1.out.thawed 1
    clear hF hz M1 M2 M3 M4
    rw [show ((0 : Nat) : Int) = 0 from rfl] at N1 N2 N3 N4
    go_upto_region 11 with fail
    generalize w10.setCell ⟨w.heap.size, 1, none⟩ (.int .i64 0) = w11 at *
    clear d1 z1
    go_wp2_with (first | (refine wpList_ld rfl _ rfl rfl N1.out (rr_ok _ _ _ _ _) ?_) | (refine wpList_sw (cs := rrc A8 M c8 0 l) rfl _ _ rfl rfl rfl N2.out (rr_sz _ _ _ _ _ _ _ _ _ _) (rr_ok _ _ _ _ _) ?_))
    refine bodyPost_ret (ret_ag rfl _ rfl (N2.out.setRow _) (rr_ok _ _ _ _ _)) rfl ?_
    exact ⟨A8, c8, by rw [HM.out], (N3.out.setRow hp _).mono (by omega), below_setRow N4.out _ _ (by omega)⟩
  · have hq : ((M : Int) - (G : Int) == 0) = false := by rw [beq_eq_false_iff_ne]; omega
    obtain rfl := hF.2 hz
    clear hF hz
    go_wp2_with (first | (refine wpList_ld rfl _ rfl rfl M1.out (rr_ok _ _ _ _ _) ?_) | (refine wpList_sw (cs := rrc A8 M c8 _ l) rfl _ _ rfl rfl rfl M2.out (rr_sz _ _ _ _ _ _ _ _ _ _) (rr_ok _ _ _ _ _) ?_))
    refine bodyPost_ret (ret_ag rfl _ rfl (M2.out.setRow _) (rr_ok _ _ _ _ _)) rfl ?_
    exact ⟨A8, c8, by rw [HM.out], (M3.out.setRow hp _).mono (by omega), below_setRow M4.out _ _ (by omega)⟩
end Go.Proofs.Ytplohgaecoobaaa
