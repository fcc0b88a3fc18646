/-
  The document's ring with another stream at a place, by contract. Conditions: the ring is read; the place is one of it.
-/
import Derived.Test.YtplohgaecoobaaaUfi
namespace Go.Proofs.Ytplohgaecoobaaa
open Go.RowKit Go.WideShapes

attribute [local irreducible] snc rrc
set_option maxRecDepth 100000 in
set_option maxHeartbeats 1000000 in
theorem rwith_any {w : World} {A : Option Addr} {c f : Nat} {l : Int} {L : List Sn} (h : Rg w A c L) {i : Nat} (hi : i < L.length) (x : Sn) :
    Calls Try.prog 47 #[.agg (rrc A L.length c f l), .int .i64 i, .agg (snc x)] w (MadeR w (L.set i x) f l) := by
  obtain ⟨w0, hw0, t1, t2, t3, t4, t5⟩ := three_ref w (rrc A L.length c f l) (snc x) #[.slice none 0 0, .int .i64 0, .int .i64 0, .bool false] 31 40 31
  have HW := Lib.hid hw0
  rw [rr_zero] at t3
  have hal : Below w0.heap.size w0 (w0.alloc (.cells #[] 40)) := (Below.refl _ _).alloc (Nat.le_refl _) _
  have T1 := Lib.hid (t1.below hal t1.lt)
  have T2 := Lib.hid (t2.below hal t2.lt)
  have T3 := Lib.hid (t3.below hal t3.lt)
  have T4 := Lib.hid (t4.trans (hal.mono t4.size))
  have HO := Lib.hid (own_none w0)
  have HR := Lib.hid (h.up T4.out)
  have hbd := h.bd
  have hsz : (w0.alloc (.cells #[] 40)).heap.size = w.heap.size + 4 := by simp [t5]
  rw [t5] at HO
  have HS := Lib.hid hsz
  have c0 := (rr_cells T1.out).1
  clear h hw0 t1 t2 t3 t4 hal hsz
  go_enter Try.func47, Try.ntmps47
  go_upto_region 1 with fail
  rw [HW.out]
  clear HW
  go_upto_region 2 with fail
  clear t5
  generalize w0.alloc (.cells #[] 40) = w1 at *
  go_upto_region 3 with (at_builtin; go_loud (refine app_sn rfl (.tmp 9) (.tmp 11) rfl rfl HO.out rfl rfl HR.out.rd (by omega) (by have := HS.out; omega) ?_; intro A2 c2 w2 hO2 hf2 hb2))
  have hp : ∀ k, ob (.slice (some ⟨w.heap.size + 3, 0, none⟩) 0 0) k → w.heap.size + 3 ≤ k := fun k hk => (own_lt HO.out k hk).1
  have T12 := Lib.hid (hf2.row (fun hk => by have := hp _ hk; omega) T1.out)
  have T22 := Lib.hid (hf2.row (fun hk => by have := hp _ hk; omega) T2.out)
  have T32 := Lib.hid (hf2.row (fun hk => by have := hp _ hk; omega) T3.out)
  have T42 := Lib.hid (T4.out.trans (hf2.below (fun k hk _ => by have := hp _ hk; omega) (by have := HS.out; omega)))
  simp only [Nat.zero_add, List.nil_append] at hO2 hb2 ⊢
  obtain ⟨g, o, rfl, hg, hgl, hob, hth, hO3, hf3⟩ := hO2.put snl_len (by omega) rfl hi x
  rw [snl_c] at hO3 hf3
  have hts : w2.there g (o + i * 6) (snc x).size := by rw [sn_size]; exact hth
  clear hth
  have T13 := Lib.hid (hf3.row (fun hk => by omega) T12.out)
  have T33 := Lib.hid (hf3.row (fun hk => by omega) T32.out)
  have T43 := Lib.hid (T42.out.trans (hf3.below (fun k hk _ => by omega) T42.out.size))
  have HO3 := Lib.hid hO3
  clear hO2 hb2 hf2 hob hO3 hf3 T1 T2 T3 T4 HO HR c0 T12 T32 T42 HS hp
  go_upto_region 4 with (first | (refine wpList_ld (cs := snc x) rfl _ rfl rfl T22.out (sn_ok _) ?_) | (refine wpList_swm (cs := snc x) rfl _ _ rfl rfl rfl hts (sn_ok _) ?_))
  generalize w2.setCells g (o + i * 6) (snc x).toList = w3 at *
  have c0 := (rr_cells T13.out).1
  have z0 := T13.out.thawed 0
  clear T22 hts
  go_upto_region 5 with fail
  clear c0 z0
  have T14 := Lib.hid (rr_set0 (A' := some ⟨g, o, none⟩) (n' := L.length) (c' := c2) T13.out)
  have T34 := Lib.hid (T33.out.stored' (a := ⟨w.heap.size, 0, none⟩) (by simp) (.slice (some ⟨g, o, none⟩) L.length c2))
  have T44 := Lib.hid (T43.out.setCell (p := ⟨w.heap.size, 0, none⟩) (Nat.le_refl _) (.slice (some ⟨g, o, none⟩) L.length c2))
  have HO4 := Lib.hid (HO3.out.setCell (a := ⟨w.heap.size, 0, none⟩) (by intro e; have e' : g = w.heap.size := Option.some.inj e; omega) (.slice (some ⟨g, o, none⟩) L.length c2))
  clear T13 T33 T43 HO3
  generalize w3.setCell ⟨w.heap.size, 0, none⟩ (.slice (some ⟨g, o, none⟩) L.length c2) = w4 at *
  have HL : Hid (L.length = (L.set i x).length) := by show _ = _; simp
  go_wp2_with (first | (refine wpList_ld rfl _ rfl rfl T14.out (rr_ok _ _ _ _ _) ?_) | (refine wpList_sw (cs := rrc (some ⟨g, o, none⟩) L.length c2 f l) rfl _ _ rfl rfl rfl T34.out (rr_sz _ _ _ _ _ _ _ _ _ _) (rr_ok _ _ _ _ _) ?_))
  refine bodyPost_ret (ret_ag rfl _ rfl (T34.out.setRow (rrc (some ⟨g, o, none⟩) L.length c2 f l)) (rr_ok _ _ _ _ _)) rfl ?_
  refine ⟨some ⟨g, o, none⟩, c2, by rw [← HL.out], (Rn.of (HO4.out.setRow (by intro e; have e' : g = w.heap.size + 2 := Option.some.inj e; omega) _) HL.out (by rw [← HL.out]; exact hbd)).mono (by omega), below_setRow T44.out _ _ (by omega)⟩
end Go.Proofs.Ytplohgaecoobaaa
