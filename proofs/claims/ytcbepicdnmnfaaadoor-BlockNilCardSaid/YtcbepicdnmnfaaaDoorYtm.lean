/-
  take, where a frame's data is added, by its contract; take, whatever comes. Conditions: the gatherer lies behind the package's variables; a frame's data is read where the frame has to do with a block.
-/
import Derived.Test.YtcbepicdnmnfaaaDoorYtk
namespace Go.Proofs.YtcbepicdnmnfaaaDoor
open Go.RowKit Go.WideShapes

theorem wh_three (st : Nat) (A : Option Addr) (n c : Nat) (en : Bool) : (whc st A n c en).size = 3 := rfl
attribute [local irreducible] Fm.c gac whc gfin
set_option maxRecDepth 100000 in
set_option maxHeartbeats 4000000 in
theorem take_more {w : World} {base g : Nat} {m : Gm} {A : Option Addr} {c : Nat} (h : Ga w base g m A c none) (hb : m.bad = 0) (hi : m.busy = true) (x : Fm) (d : List UInt8) (ht : x.ty = 9) (hs : x.st = m.st) (hfl : x.fl < 256) (hdn : x.dn = d.length) (hd : d.length ≤ 1000000000) (hD : RdS w (· ≠ g) x.dA (byc d)) :
    Calls Tryd.prog 16 #[.pointer (some ⟨g, 0, none⟩), .agg x.c] w (TkP w base g (.slice A m.blk.length c) (gtk m x.ty x.fl x.st d)) := by
  rw [gtk_more hb hi ⟨ht, hs⟩]
  obtain ⟨R, hR⟩ : ∃ R, gfin (gadd m d) x.fl = R := ⟨_, rfl⟩
  have HRR : Hid (gfin ⟨true, m.st, m.blk ++ d, m.en, m.more + 1, 0⟩ x.fl = R) := hR
  rw [hR]
  clear hR
  obtain ⟨w1, hw1, t1, t2, t3, t4⟩ := fr_wh w x
  have T7 := Lib.hid hw1
  have TX := Lib.hid t1
  have TW := Lib.hid t2
  have H := Lib.hid (h.below t3)
  have HF : Hid (Fs (gvS g (.slice A m.blk.length c)) w w1) := Fs.of_below t3
  have HD : Hid (RdS w1 (fun k => k ≠ g ∧ k < w.heap.size) x.dA (byc d)) := (hD.imp (fun k hk hl => (⟨hk, hl⟩ : k ≠ g ∧ k < w.heap.size))).keep fun k hk => t3.block k hk.2
  have HSZ : Hid (w1.heap.size = w.heap.size + 2) := t4
  have HFL := Lib.hid hfl
  have HDN := Lib.hid hdn
  have HDL := Lib.hid hd
  obtain ⟨f0, f1, f2, f3, f4, f5⟩ := ga_cells H.out.row
  obtain ⟨c0, c1, c2, _⟩ := fm_cells TX.out
  rw [erv_none] at f5
  clear hw1 t1 t2 t3 t4 h hfl hdn hd hD
  rw [hi] at f3
  have e9 : ((x.ty : Int) != 9) = false := by rw [ht]; rfl
  have es : ((x.st : Int) != (m.st : Int)) = false := by rw [hs]; simp
  have HOK := Lib.hid H.out.ok
  obtain ⟨k, hk⟩ : ∃ k : Nat, k = m.more + 1 := ⟨_, rfl⟩
  have hw : IntKind.i64.wrap ((m.more : Int) + 1) = (k : Int) := by rw [IntWalk.i64_in _ (by have := HOK.out.mor; omega)]; omega
  rw [← hk] at HRR
  have HK : Hid (k ≤ 17) := by show k ≤ 17; have := HOK.out.mor; omega
  have HI := Lib.hid hi
  clear hb hi ht hs hk f1 f2 c1
  go_enter Tryd.func16, Tryd.ntmps16
  go_upto_region 1 with fail
  rw [T7.out]
  clear T7
  go_wp2_with fail
  go_quiet (fail)
  have HR2 : Hid (Row (w1.drewN nq) g 51 (gac m.st A m.blk.length c m.en true m.more none)) := by
    have := H.out.row
    rw [HI.out] at this
    exact this
  have HO2 : Hid (Bo (w1.drewN nq) base 5 (.slice A m.blk.length c) m.blk) := H.out.own
  have HLO := Lib.hid H.out.lo
  have TX2 : Hid (Row (w1.drewN nq) w.heap.size 32 x.c) := TX.out
  have TW2 : Hid (Row (w1.drewN nq) (w.heap.size + 1) 34 (whc 0 none 0 0 false)) := TW.out
  have HF2 : Hid (Fs (gvS g (.slice A m.blk.length c)) w (w1.drewN nq)) := HF.out.drewN nq
  have HD2 : Hid (RdS (w1.drewN nq) (fun k => k ≠ g ∧ k < w.heap.size) x.dA (byc d)) := HD.out
  have HSZ2 : Hid ((w1.drewN nq).heap.size = w.heap.size + 2) := HSZ.out
  clear H TX TW HF HD HSZ f0 f3 f4 f5 c0 c2
  generalize w1.drewN nq = w2 at *
  have f4 := (ga_cells HR2.out).2.2.2.2.1
  have ht4 := HR2.out.thawed 4
  have HR3 : Hid (Row (w2.setCell ⟨g, 4, none⟩ (.int .i64 k)) g 51 (gac m.st A m.blk.length c m.en true k none)) := by
    have := HR2.out.stored 4 (.int .i64 k)
    rw [gac_more] at this
    exact this
  have HO3 := Lib.hid (HO2.out.set_far (HO2.out.ne HR2.out (by decide)) 4 (.int .i64 k))
  have TX3 := Lib.hid (TX2.out.set_far (Row.ne TX2.out HR2.out (by decide)) 4 (.int .i64 k))
  have TW3 := Lib.hid (TW2.out.set_far (Row.ne TW2.out HR2.out (by decide)) 4 (.int .i64 k))
  have HF3 := Lib.hid (HF2.out.setCell (g := g) (fun _ => .inl rfl) 4 (.int .i64 k))
  have HD3 : Hid (RdB (w2.setCell ⟨g, 4, none⟩ (.int .i64 k)) w.heap.size x.dA d) := RdB.ofS (HD2.out.keep fun j hj => Below.heap_setCell w2 _ _ j hj.1) (fun j hj _ => hj.2)
  have HSZ3 : Hid ((w2.setCell ⟨g, 4, none⟩ (.int .i64 k)).heap.size = w.heap.size + 2) := by show _ = _; rw [← HSZ2.out]; simp [World.setCell]
  clear HR2 HO2 TX2 TW2 HF2 HD2 HSZ2
  go_upto_region 7 with fail
  clear f4 ht4
  generalize w2.setCell ⟨g, 4, none⟩ (.int .i64 k) = w3 at *
  go_wp2_with (refine wpList_fm rfl _ rfl rfl TX3.out ?_)
  refine (add_any HR3.out HO3.out (HD3.out.more (by rw [HSZ3.out]; omega)) HDN.out HFL.out HLO.out HOK.out.len HDL.out HK.out).mono ?_
  intro e w4 ht
  rw [HRR.out] at ht
  have HT := Lib.hid (ht.from HF3.out)
  have TW4 : Hid (Row w4 (w.heap.size + 1) 34 (whc 0 none 0 0 false)) := by
    obtain ⟨_, _, _, _, hf, _⟩ := ht
    exact hf.row (fun h => by
      rcases h with h | h
      · exact Row.ne TW3.out HR3.out (by decide) h
      · exact HO3.out.ne TW3.out (by decide) h) TW3.out
  obtain ⟨A', c', o, rfl, -⟩ := ht
  clear HR3 HO3 TX3 TW3 HF3 HD3
  go_wp2_with (refine wpList_sw rfl _ _ rfl rfl rfl TW4.out (wh_sz _ _ _ _ _ _ _ _ _ _) (wh_ok _ _ _ _ _) ?_)
  refine bodyPost_ret (ret_avv rfl _ rfl (TW4.out.setRow _) (wh_ok _ _ _ _ _) rfl rfl) rfl ?_
  exact HT.out.stored TW4.out (by omega) _
theorem bit1 (n : Nat) : ((((n % 2 : Nat)) : Int) != 0) = decide (n % 2 = 1) := by
  by_cases h : n % 2 = 1
  · rw [h]; rfl
  · rw [show n % 2 = 0 by omega]; rfl
set_option maxRecDepth 100000 in
set_option maxHeartbeats 4000000 in
theorem take_head {w : World} {base g : Nat} {m : Gm} {A : Option Addr} {c : Nat} (h : Ga w base g m A c none) (hb : m.bad = 0) (hi : m.busy = false) (x : Fm) (d : List UInt8) (ht : x.ty = 1) (hfl : x.fl < 256) (hdn : x.dn = d.length) (hd : d.length ≤ 1000000000) (hD : RdS w (· ≠ g) x.dA (byc d)) :
    Calls Tryd.prog 16 #[.pointer (some ⟨g, 0, none⟩), .agg x.c] w (TkP w base g (.slice A m.blk.length c) (gtk m x.ty x.fl x.st d)) := by
  rw [gtk_head hb hi ht]
  obtain ⟨R, hR⟩ : ∃ R, gfin (gbeg x.fl x.st d) x.fl = R := ⟨_, rfl⟩
  have HRR : Hid (gfin ⟨true, x.st, [] ++ d, decide (x.fl % 2 = 1), 0, 0⟩ x.fl = R) := hR
  rw [hR]
  clear hR
  have hm0 : m = gm0 := by have := (h.idle_nil hi).2.2; rw [hb] at this; exact this
  obtain ⟨hA, hc, -⟩ := h.idle_nil hi
  subst hm0 hA hc
  obtain ⟨w1, hw1, t1, t2, t3, t4⟩ := fr_wh w x
  have T7 := Lib.hid hw1
  have TX := Lib.hid t1
  have TW := Lib.hid t2
  have H := Lib.hid (h.below t3)
  have HF : Hid (Fs (gvS g (.slice none gm0.blk.length 0)) w w1) := Fs.of_below t3
  have HD : Hid (RdS w1 (fun k => k ≠ g ∧ k < w.heap.size) x.dA (byc d)) := (hD.imp (fun k hk hl => (⟨hk, hl⟩ : k ≠ g ∧ k < w.heap.size))).keep fun k hk => t3.block k hk.2
  have HSZ : Hid (w1.heap.size = w.heap.size + 2) := t4
  have HFL := Lib.hid hfl
  have HDN := Lib.hid hdn
  have HDL := Lib.hid hd
  obtain ⟨f0, f1, f2, f3, f4, f5⟩ := ga_cells H.out.row
  obtain ⟨c0, c1, c2, _⟩ := fm_cells TX.out
  rw [erv_none] at f5
  clear hw1 t1 t2 t3 t4 h hfl hdn hd hD
  have hn1 := and1 ⟨x.fl, HFL.out⟩
  simp only at hn1
  have hb1 := bit1 x.fl
  obtain ⟨en, hen⟩ : ∃ en, decide (x.fl % 2 = 1) = en := ⟨_, rfl⟩
  rw [hen] at hb1 HRR
  obtain ⟨z, hz⟩ : ∃ z : Nat, z = x.fl % 2 := ⟨_, rfl⟩
  rw [← hz] at hn1 hb1
  have e1 : ((x.ty : Int) == 1) = true := by rw [ht]; rfl
  have f3' : w1.cell? ⟨g, 3, none⟩ = some (.bool false) := f3
  have ht3 := H.out.row.thawed 3
  clear hb hi ht hen hz f0 f1 f2 f3 f4
  have HR1 : Hid (Row w1 g 51 (gac 0 none 0 0 false false 0 none)) := H.out.row
  have HLO := Lib.hid H.out.lo
  have HR2 : Hid (Row (w1.setCell ⟨g, 3, none⟩ (.bool true)) g 51 (gac 0 none 0 0 false true 0 none)) := by
    have := HR1.out.stored 3 (.bool true)
    rw [gac_busy] at this
    exact this
  have TX2 := Lib.hid (TX.out.set_far (Row.ne TX.out HR1.out (by decide)) 3 (.bool true))
  have TW2 := Lib.hid (TW.out.set_far (Row.ne TW.out HR1.out (by decide)) 3 (.bool true))
  have HF2 := Lib.hid (HF.out.setCell (g := g) (fun _ => .inl rfl) 3 (.bool true))
  have HD2 : Hid (RdS (w1.setCell ⟨g, 3, none⟩ (.bool true)) (fun k => k ≠ g ∧ k < w.heap.size) x.dA (byc d)) := HD.out.keep fun j hj => Below.heap_setCell w1 _ _ j hj.1
  have HSZ2 : Hid ((w1.setCell ⟨g, 3, none⟩ (.bool true)).heap.size = w.heap.size + 2) := by show _ = _; rw [← HSZ.out]; simp [World.setCell]
  have HTH : Hid ((w1.setCell ⟨g, 3, none⟩ (.bool true)).there g 0 (whc x.st none 0 0 en).size) := ga_there HR2.out _ (wh_three _ _ _ _ _)
  go_enter Tryd.func16, Tryd.ntmps16
  go_upto_region 1 with fail
  rw [T7.out]
  clear T7
  go_upto_region 10 with fail
  clear H HR1 TX TW HF HD HSZ f3' f5 ht3 c0 c1 c2
  generalize w1.setCell ⟨g, 3, none⟩ (.bool true) = w2 at *
  obtain ⟨_, c1, c2, _⟩ := fm_cells TX2.out
  have HR3 := Lib.hid (ga_begin HR2.out x.st none 0 0 en)
  have TX3 : Hid (Row (w2.setCells g 0 (whc x.st none 0 0 en).toList) w.heap.size 32 x.c) := (cells_other _ w2 g _ 0 (Row.ne TX2.out HR2.out (by decide))).trans TX2.out
  have TW3 : Hid (Row (w2.setCells g 0 (whc x.st none 0 0 en).toList) (w.heap.size + 1) 34 (whc 0 none 0 0 false)) := (cells_other _ w2 g _ 0 (Row.ne TW2.out HR2.out (by decide))).trans TW2.out
  have HF3 := Lib.hid (cells_fs HF2.out (g := g) (fun _ => .inl rfl) (whc x.st none 0 0 en).toList 0)
  have HD3 : Hid (RdB (w2.setCells g 0 (whc x.st none 0 0 en).toList) w.heap.size x.dA d) := RdB.ofS (HD2.out.keep fun j hj => cells_other _ w2 g j 0 hj.1) (fun j hj _ => hj.2)
  have HSZ3 : Hid ((w2.setCells g 0 (whc x.st none 0 0 en).toList).heap.size = w.heap.size + 2) := by show _ = _; rw [cells_size]; exact HSZ2.out
  go_upto_region 11 with (first | (refine wpList_build_is rfl 34 _ rfl (whc x.st none 0 0 en) (by kernel_rfl) ?_) | (refine wpList_swm (cs := whc x.st none 0 0 en) rfl _ _ rfl rfl rfl HTH.out (wh_ok _ _ _ _ _) ?_))
  clear HR2 TX2 TW2 HF2 HD2 HSZ2 HTH c1 c2 hn1 hb1
  generalize w2.setCells g 0 (whc x.st none 0 0 en).toList = w3 at *
  go_wp2_with (refine wpList_fm rfl _ rfl rfl TX3.out ?_)
  refine (add_any (base := base) (blk := []) (d := d) HR3.out Bo.nil (HD3.out.more (by rw [HSZ3.out]; omega)) HDN.out HFL.out HLO.out (by simp) HDL.out (by omega)).mono ?_
  intro e w4 ht
  rw [HRR.out] at ht
  have HT := Lib.hid (ht.from HF3.out)
  have TW4 : Hid (Row w4 (w.heap.size + 1) 34 (whc 0 none 0 0 false)) := by
    obtain ⟨_, _, _, _, hf, _⟩ := ht
    exact hf.row (fun h => by
      rcases h with h | h
      · exact Row.ne TW3.out HR3.out (by decide) h
      · simp [ob, Value.ownBlock] at h) TW3.out
  obtain ⟨A', c', o, rfl, -⟩ := ht
  clear HR3 TX3 TW3 HF3 HD3
  go_wp2_with (refine wpList_sw rfl _ _ rfl rfl rfl TW4.out (wh_sz _ _ _ _ _ _ _ _ _ _) (wh_ok _ _ _ _ _) ?_)
  refine bodyPost_ret (ret_avv rfl _ rfl (TW4.out.setRow _) (wh_ok _ _ _ _ _) rfl rfl) rfl ?_
  exact HT.out.stored TW4.out (by omega) _
theorem take_any {w : World} {base g : Nat} {m : Gm} {A : Option Addr} {c : Nat} {o : Option Nat} (h : Ga w base g m A c o) (x : Fm) (d : List UInt8) (hfl : x.fl < 256) (hx : x.ty = 1 ∨ x.ty = 9 → x.dn = d.length ∧ d.length ≤ 1000000000 ∧ RdS w (· ≠ g) x.dA (byc d)) :
    Calls Tryd.prog 16 #[.pointer (some ⟨g, 0, none⟩), .agg x.c] w (TkP w base g (.slice A m.blk.length c) (gtk m x.ty x.fl x.st d)) := by
  rcases h.err with ⟨rfl, hb⟩ | ⟨p, rfl, hb, _⟩
  · cases hi : m.busy
    · by_cases h1 : x.ty = 1
      · obtain ⟨q1, q2, q3⟩ := hx (.inl h1)
        exact take_head h hb hi x d h1 hfl q1 q2 q3
      · by_cases h9 : x.ty = 9
        · exact take_lone h hb hi x d h9
        · exact take_pass h hb hi x d h1 h9
    · by_cases h9 : x.ty = 9
      · by_cases hs : x.st = m.st
        · obtain ⟨q1, q2, q3⟩ := hx (.inr h9)
          exact take_more h hb hi x d h9 hs hfl q1 q2 q3
        · exact take_else_st h hb hi x d h9 hs
      · exact take_else_ty h hb hi x d h9
  · exact take_bad h hb x d
end Go.Proofs.YtcbepicdnmnfaaaDoor
