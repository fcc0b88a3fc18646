/-
  The document's ring with its turn some places on, by contract. Conditions: the ring is read, and has streams.
-/
import Derived.Test.YtplohgaecoobaaaUop
namespace Go.Proofs.Ytplohgaecoobaaa
open Go.RowKit Go.WideShapes

attribute [local irreducible] snc rrc
set_option maxRecDepth 100000 in
set_option maxHeartbeats 2000000 in
theorem rturned_any {w : World} {A : Option Addr} {c f : Nat} {l : Int} {L : List Sn} (h : Rg w A c L) (n : Nat) (h0 : 0 < L.length) (_hn : n ≤ 1000000) (hf : f ≤ 1000000) :
    Calls Try.prog 48 #[.agg (rrc A L.length c f l), .int .i64 n] w (MadeR w (L.drop (n % L.length) ++ L.take (n % L.length)) ((f + n % L.length) % L.length) l) := by
  obtain ⟨wa, hw0, t1, t2, t4, t5⟩ := two_ref w (rrc A L.length c f l) #[.slice none 0 0, .int .i64 0, .int .i64 0, .bool false] 31 31
  have HW := Lib.hid hw0
  rw [rr_zero] at t2
  have T1a := Lib.hid t1
  have T2a := Lib.hid t2
  have T4a := Lib.hid t4
  have HRW := Lib.hid h
  have hbd := h.bd
  have hlen := h.len
  have e0 : ((L.length : Int) == 0) = false := by rw [beq_eq_false_iff_ne]; omega
  have hD : n % L.length < L.length := Nat.mod_lt _ h0
  have hmod : Int.tmod (n : Int) (L.length : Int) = ((n % L.length : Nat) : Int) := by rfl
  generalize n % L.length = D at *
  have hF : (f + D) % L.length < L.length := Nat.mod_lt _ h0
  have hmod2 : Int.tmod ((f : Int) + (D : Int)) (L.length : Int) = (((f + D) % L.length : Nat) : Int) := by rw [← Int.natCast_add]; rfl
  have hwr : IntKind.i64.wrap ((f : Int) + (D : Int)) = (f : Int) + (D : Int) := IntWalk.i64_in _ (by omega)
  generalize (f + D) % L.length = F at *
  have HL : Hid ((L.drop D ++ L.take D).length = L.length) := by
    show _ = _
    simp only [List.length_append, List.length_take, List.length_drop]
    omega
  obtain ⟨i0, hi0, hz0, hz1, hz2⟩ := info_parts sn_full
  have c0 := (rr_cells t1).1
  have hp : w.heap.size + 1 < wa.heap.size := by omega
  clear hw0 t1 t2 t4 h hz0 hz2
  go_enter Try.func48, Try.ntmps48
  go_upto_region 1 with fail
  rw [HW.out]
  clear HW t5
  go_upto_region 4 with fail
  have HO3 := Lib.hid (own_none wa)
  have HB3 : Hid (Below wa.heap.size wa (wa.alloc (.cells #[] 40))) := (Below.refl _ _).alloc (Nat.le_refl _) _
  clear c0
  go_upto_region 5 with fail
  generalize wa.alloc (.cells #[] 40) = w3 at *
  generalize hpp : wa.heap.size = p at *
  have T13 := Lib.hid (T1a.out.below HB3.out (by omega))
  have T43 := Lib.hid (T4a.out.trans (HB3.out.mono (by omega)))
  have HR3 := Lib.hid (HRW.out.up T43.out)
  obtain ⟨A7, hcut, hrd⟩ := cut_fromE (P := Try.prog) snl_len (by omega) Try.underlying27 hi0 hz1 HR3.out.rd hlen (Nat.le_of_lt hD)
  have HRD := Lib.hid hrd
  have c0 := (rr_cells T13.out).1
  have hs3 : p ≤ w3.heap.size := by have := HB3.out.size; omega
  have HDL : Hid (L.length - D = (L.drop D).length) := by show _ = _; rw [List.length_drop]
  clear hrd T13 T43 HR3
  go_upto_region 6 with (at_builtin; go_loud (refine app_sn rfl (.tmp 17) (.tmp 21) rfl rfl HO3.out rfl HDL.out HRD.out (by omega) hs3 ?_; intro A4 c4 w4 hO4 hf4 hb4))
  have HB4 := Lib.hid (HB3.out.trans (hf4.below (fun k hk _ => (own_lt HO3.out k hk).1) hs3))
  simp only [Nat.zero_add, List.nil_append] at hO4 hb4 ⊢
  have HO4 := Lib.hid hO4
  clear HB3 HO3 hf4 hb4 hO4 c0 hcut HRD hs3
  have T14 := Lib.hid (T1a.out.below HB4.out (by omega))
  have T44 := Lib.hid (T4a.out.trans (HB4.out.mono (by omega)))
  have HR4 := Lib.hid (HRW.out.up T44.out)
  obtain ⟨hcut, hrd⟩ := cut_uptoE (P := Try.prog) snl_len (by omega) Try.underlying27 hi0 hz1 HR4.out.rd hlen (Nat.le_of_lt hD)
  have HRD := Lib.hid hrd
  have c0 := (rr_cells T14.out).1
  have hs4 : p ≤ w4.heap.size := by have := HB4.out.size; omega
  have HTL : Hid (D = (L.take D).length) := by show _ = _; rw [List.length_take, Nat.min_eq_left (Nat.le_of_lt hD)]
  clear hrd T14 T44 HR4
  go_upto_region 7 with (at_builtin; go_loud (refine app_sn rfl (.tmp 23) (.tmp 27) rfl rfl HO4.out rfl HTL.out HRD.out (by omega) hs4 ?_; intro A8 c8 w8 hO8 hf8 hb8; have hB8 := HB4.out.trans (hf8.below (fun k hk _ => (own_lt HO4.out k hk).1) hs4)))
  have r0 := T1a.out.below hB8 (by omega)
  have c8' := (rr_cells r0).1
  have z8 := r0.thawed 0
  go_upto_region 8 with fail
  have hN : L.length - D + D = (L.drop D ++ L.take D).length := by rw [HL.out]; omega
  obtain ⟨w9, hw9, k1, k2, k3, k4⟩ := fin_set hO8 hN (by rw [HL.out]; omega) hB8 T4a.out hp T1a.out T2a.out
  rw [hw9]
  have HN : Hid (L.length - D + D = L.length) := by show _ = _; omega
  rw [HN.out] at k1 ⊢
  have K1 := Lib.hid (rr_set1 (f' := F) k1)
  have K2 := Lib.hid (k2.stored' (a := ⟨w.heap.size, 1, none⟩) (by simp) (.int .i64 F))
  have K3 := Lib.hid (k3.setCell (k := w.heap.size) (by omega) 1 (.int .i64 F))
  have K4 := Lib.hid (k4.setCell (p := ⟨w.heap.size, 1, none⟩) (Nat.le_refl _) (.int .i64 F))
  have d0 := (rr_cells k1).1
  have d1 := (rr_cells k1).2.1
  have z9 := k1.thawed 1
  clear hw9 k1 k2 k3 k4 hO8 hf8 hb8 hB8 r0 c8' z8 T1a T2a T4a HB4 HO4 HRD HDL hN HTL hs4 hpp c0 hcut HN
  go_upto_region 9 with fail
  generalize w9.setCell ⟨w.heap.size, 1, none⟩ (.int .i64 F) = w10 at *
  clear d0 d1 z9 hwr hmod hmod2 e0
  go_wp2_with (first | (refine wpList_ld rfl _ rfl rfl K1.out (rr_ok _ _ _ _ _) ?_) | (refine wpList_sw (cs := rrc A8 L.length c8 F l) rfl _ _ rfl rfl rfl K2.out (rr_sz _ _ _ _ _ _ _ _ _ _) (rr_ok _ _ _ _ _) ?_))
  refine bodyPost_ret (ret_ag rfl _ rfl (K2.out.setRow _) (rr_ok _ _ _ _ _)) rfl ?_
  exact ⟨A8, c8, by rw [HL.out], (K3.out.setRow hp _).mono (by omega), below_setRow K4.out _ _ (by omega)⟩
end Go.Proofs.Ytplohgaecoobaaa
