/-
  wsframe's Get, by its contract. Conditions: the bytes are read; errors.errorType holds what the program's text lays.
-/
import Derived.Test.YtejlbgllfkfkfaaDoorIgm
import Derived.Test.YtejlbgllfkfkfaaDoorIhd
import Derived.Test.YtejlbgllfkfkfaaDoorIma
namespace Go.Proofs.YtejlbgllfkfkfaaDoor
open Go.RowKit Go.WideShapes

/-- What Get leaves. -/
def GetP (q : Pc × Nat) (w : World) (e : Ending) (w' : World) : Prop := ∃ A c, e = .returned (.tuple #[.agg (pcC q.1.fin q.1.op q.1.mask q.1.key A q.1.dat.length c), .agg (ftI (scI q.2) q.2)]) ∧ RdB w' w'.heap.size A q.1.dat ∧ q.1.dat.length ≤ c ∧ Below w.heap.size w w'
/-- The same, and its data lie in memory that the call made. -/
def GetN (q : Pc × Nat) (w : World) (e : Ending) (w' : World) : Prop := ∃ A c, e = .returned (.tuple #[.agg (pcC q.1.fin q.1.op q.1.mask q.1.key A q.1.dat.length c), .agg (ftI (scI q.2) q.2)]) ∧ RdS w' (fun k => w.heap.size ≤ k ∧ k < w'.heap.size) A (byc q.1.dat) ∧ q.1.dat.length ≤ c ∧ Below w.heap.size w w'
theorem GetN.get {q : Pc × Nat} {w w' : World} {e : Ending} (h : GetN q w e w') : GetP q w e w' := by
  obtain ⟨A, c, h1, h2, h3, h4⟩ := h
  exact ⟨A, c, h1, RdB.ofS h2 fun _ hg _ => hg.2, h3, h4⟩
theorem RdB.newI {w' : World} {B g o : Nat} {l : List UInt8} (h : RdB w' w'.heap.size (some ⟨g, o, none⟩) l) (hg : l ≠ [] → B ≤ g) : RdS w' (fun k => B ≤ k ∧ k < w'.heap.size) (some ⟨g, o, none⟩) (byc l) := fun hl => by
  have h0 : l ≠ [] := by rintro rfl; exact hl rfl
  obtain ⟨g', o', e, h1, hc⟩ := h h0
  injection e with e
  injection e with e1 e2
  subst e1 e2
  refine ⟨g, o, rfl, ⟨hg h0, h1⟩, fun j u hu => ?_⟩
  obtain ⟨hj, rfl⟩ := byc_get hu
  exact hc j hj
theorem setRow_cell {w : World} {k g : Nat} (j : Nat) (cs : Array Value) (h : g ≠ k) : (w.setRow k cs).cell? ⟨g, j, none⟩ = w.cell? ⟨g, j, none⟩ := by
  unfold World.cell?
  rw [setRow_other w k g cs h]
theorem RdB.setRowI {w : World} {B g o k : Nat} {l : List UInt8} (h : RdB w B (some ⟨g, o, none⟩) l) (hk : l ≠ [] → g ≠ k) (cs : Array Value) : RdB (w.setRow k cs) B (some ⟨g, o, none⟩) l := fun hl => by
  obtain ⟨g', o', e, hg, hc⟩ := h hl
  injection e with e
  injection e with e1 e2
  subst e1 e2
  exact ⟨g, o, rfl, hg, fun j hj => (setRow_cell _ _ (hk hl)).trans (hc j hj)⟩
theorem pc_sz (fin fin' : Bool) (op op' : Nat) (mask mask' : Bool) (key key' : Nat) (A A' : Option Addr) (n n' c c' : Nat) : (pcC fin op mask key A n c).size = (pcC fin' op' mask' key' A' n' c').size := rfl
set_option maxRecDepth 100000 in
set_option maxHeartbeats 2000000 in
theorem iget_new {B : Nat} {A : Option Addr} {c : Nat} {l : List UInt8} {m : Bool} {w : World} (hr : RdB w B A l) (hB : B ≤ w.heap.size) (hl : l.length ≤ 1000000) (hcp : l.length ≤ c) (hG : GlobE w) :
    Calls Tryd.prog 18 #[.slice A l.length c, .bool m] w (GetN (getI m l) w) := by
  have HR0 := Lib.hid ((Row.new w 31 (pcC false 0 false 0 none 0 0)).alloc (.cells (ftI 0 0) 33))
  have HT0 : Hid (Row ((w.alloc (.cells (pcC false 0 false 0 none 0 0) 31)).alloc (.cells (ftI 0 0) 33)) (w.heap.size + 1) 33 (ftI 0 0)) := Row.made _ _ _ (by simp)
  have HB0 : Hid (Below w.heap.size w ((w.alloc (.cells (pcC false 0 false 0 none 0 0) 31)).alloc (.cells (ftI 0 0) 33))) := ((Below.refl _ _).alloc (Nat.le_refl _) _).alloc (by simp) _
  have hsz := isize_any (c := c) (m := m) (hr.below (HB0.out.mono hB)) (by omega) hcp
  have HD0 := Lib.hid (hr.below (HB0.out.mono hB))
  have HG := Lib.hid (hG.below HB0.out)
  clear hr hG
  obtain ⟨q, hq⟩ : ∃ q, q = getI m l := ⟨_, rfl⟩
  rw [← hq]
  have HQ := Lib.hid hq
  clear hq
  go_enter Tryd.func18, Tryd.ntmps18
  go_wp2_with fail
  refine hsz.mono ?_
  rintro e w2 ⟨er, rfl, hE, hb⟩
  have HR2 := Lib.hid (HR0.out.below hb HR0.out.lt)
  have HT2 := Lib.hid (HT0.out.below hb HT0.out.lt)
  have HB2 := Lib.hid (HB0.out.trans (hb.mono HB0.out.size))
  have HG2 := Lib.hid (HG.out.below hb)
  have HD2 := Lib.hid (HD0.out.below (hb.mono (Nat.le_trans hB HB0.out.size)))
  obtain ⟨p, hp⟩ : ∃ p, p = w.heap.size := ⟨_, rfl⟩
  have HPP : Hid (w.heap.size ≤ p) := Nat.le_of_eq hp.symm
  simp only [← hp] at HR2 HT2 ⊢
  clear hp hsz hb HR0 HT0 HB0 HG HD0
  obtain ⟨n, hn⟩ : ∃ n, n = (hdI m l).front + (hdI m l).size := ⟨_, rfl⟩
  rw [← hn]
  have HN := Lib.hid hn
  clear hn
  obtain ⟨N, hN⟩ : ∃ N, N = l.length := ⟨_, rfl⟩
  have HL := Lib.hid hN
  rw [← hN] at hl hcp ⊢
  clear hN
  have hone : 1002 < 4294967296 := by omega
  rcases hE with ⟨hc, rfl⟩ | ⟨hc, ge, rfl, hR⟩
  · by_cases hno : n = 0 ∨ n ≠ N
    · have eq : q = (Pc.zero, 1002) := by
        rw [HQ.out]
        have h1 := HN.out
        have h2 := HL.out
        exact getI_none hc (by omega)
      have HEQ := Lib.hid eq
      clear eq hc
      have HNO : Hid (n = 0 ∨ n ≠ N) := hno
      go_upto_region 2 with fail
      go_cut [26] (fun v wx => v = .bool true ∧ wx = w2)
      case first =>
        by_cases h0 : n = 0
        · subst h0
          clear hno
          go_wp2_with fail
          go_meet
          case rel => exact ⟨rfl, rfl⟩
        · have h1 : ((n : Int) == 0) = false := beq_eq_false_iff_ne.2 (by omega)
          have h2 : ((n : Int) != (N : Int)) = true := bne_iff_ne.2 (by omega)
          clear h0 hno
          go_wp2_with fail
          go_meet
          case rel => exact ⟨rfl, rfl⟩
      case rest =>
        obtain ⟨rfl, rfl⟩ := hcut
        clear hno
        go_wp2_with fail
        refine (socket_any _ _).mono ?_
        rintro e w3 ⟨ge, rfl, hR, hB3⟩
        have hOF := ofI_any (code := 1002) (.inr ⟨by omega, ge, rfl, hR⟩) (HG2.out.below hB3)
        have HOF := Lib.hid hOF
        have HR3 := Lib.hid (HR2.out.below hB3 HR2.out.lt)
        have HT3 := Lib.hid (HT2.out.below hB3 HT2.out.lt)
        have HB3 := Lib.hid (HB2.out.trans (hB3.mono HB2.out.size))
        clear hOF hR hB3 HR2 HT2 HB2 HG2 HD2
        go_wp2_with fail
        refine HOF.out.mono ?_
        rintro e w4 ⟨rfl, hB4⟩
        have HR4 := Lib.hid (HR3.out.below hB4 HR3.out.lt)
        have HT4 := Lib.hid ((HT3.out.below hB4 HT3.out.lt).setRow' (k := p) (by omega) (pcC false 0 false 0 none 0 0))
        have HB4 := Lib.hid (HB3.out.trans (hB4.mono HB3.out.size))
        clear hB4 HR3 HT3 HB3 HOF
        go_wp2_with (first
          | (refine wpList_sw (cs := pcC false 0 false 0 none 0 0) rfl _ _ rfl rfl (by unfold pcC; rfl) HR4.out (pc_sz _ _ _ _ _ _ _ _ _ _ _ _ _ _) (pc_ok _ _ _ _ _ _ _) ?_)
          | (refine wpList_sw (cs := ftI (scI 1002) 1002) rfl _ _ rfl rfl rfl HT4.out (ftI_sz _ _ _ _) (ftI_ok _ _) ?_))
        refine bodyPost_ret (ret_ag2 (fn := Tryd.f18) rfl _ rfl ((HR4.out.setRow _).setRow' (k := p + 1) (by omega) _) (pc_ok _ _ _ _ _ _ _) rfl (HT4.out.setRow _) (ftI_ok _ _)) rfl ?_
        rw [HEQ.out]
        exact ⟨none, 0, rfl, RdS.nil, Nat.le_refl _, below_setRow (below_setRow HB4.out _ _ HPP.out) _ _ (Nat.le_succ_of_le HPP.out)⟩
    · have h0 : n ≠ 0 := fun h => hno (.inl h)
      have hnN : n = N := Classical.not_not.1 fun h => hno (.inr h)
      obtain ⟨b, s, r, hl2, hbf, hfr, hsh, hsv⟩ := hdI_form hc (by rw [← HN.out]; exact h0)
      subst hl2
      have eq : q = (⟨decide (127 < b.toNat), b.toNat % 16, m, keyI m (hdI m (b :: s :: r)).front (b :: s :: r), turnL (keyI m (hdI m (b :: s :: r)).front (b :: s :: r)) ((b :: s :: r).drop (hdI m (b :: s :: r)).front)⟩, 0) := by
        rw [HQ.out]
        exact getI_whole hc hsh (by rw [← HN.out, hnN]; exact HL.out)
      have HEQ := Lib.hid eq
      have hk := keyI_lt m (hdI m (b :: s :: r)).front (b :: s :: r)
      have HKD : Hid (keyI m (hdI m (b :: s :: r)).front (b :: s :: r) = if m = true then valL (((b :: s :: r).drop ((hdI m (b :: s :: r)).front - 4)).take 4) else 0) := rfl
      have HNV : Hid (n = (hdI m (b :: s :: r)).front + (hdI m (b :: s :: r)).size) := HN.out
      generalize keyI m (hdI m (b :: s :: r)).front (b :: s :: r) = K at *
      generalize (hdI m (b :: s :: r)).front = f at *
      generalize (hdI m (b :: s :: r)).size = v at *
      have hb := b.toNat_lt
      have h1 := andNot128 hb
      have h2 := and128 hb
      have h3 := ne128 b.toNat hb
      have h16 : b.toNat % 128 = b.toNat % 16 := by unfold badFirst at hbf; omega
      rw [h16] at h1
      have HB16 := Lib.hid h16
      obtain ⟨g, o, rfl, _, hcell⟩ := HD2.out (by simp)
      have c0 : w2.cell? ⟨g, o, none⟩ = some (.int .u8 (b.toNat : Int)) := by have := hcell 0 (by simp); simpa using this
      have c1 : w2.cell? ⟨g, o + 1, none⟩ = some (.int .u8 (s.toNat : Int)) := by have := hcell 1 (by simp); simpa using this
      have hs4 := andNot128 s.toNat_lt
      have hbe := ibehind_any (s.toNat % 128)
      have hN2 : 2 ≤ N := by rw [HL.out]; simp
      have g0 : ((n : Int) == 0) = false := beq_eq_false_iff_ne.2 (by omega)
      have g1 : ((n : Int) != (N : Int)) = false := by rw [hnN]; simp
      clear hno h0 hc hsh hbf hcell eq HN HQ HG2
      go_upto_region 6 with fail
      clear g0 g1
      have c0d : w2.drew.cell? ⟨g, o, none⟩ = some (.int .u8 (b.toNat : Int)) := c0
      have hN0 : (0 : Int) < (N : Int) := by omega
      have hN0n : 0 < N := by omega
      have hN1 : (1 : Int) < (N : Int) := by omega
      generalize b.toNat % 16 = bop at *
      generalize b.toNat / 128 * 128 = b2 at *
      generalize decide (127 < b.toNat) = fin at *
      obtain ⟨k, hk0⟩ : ∃ k, k = s.toNat % 128 := ⟨_, rfl⟩
      rw [← hk0] at hs4 hbe hfr
      obtain ⟨bn, hbn⟩ : ∃ bn, bn = behindN k := ⟨_, rfl⟩
      rw [← hbn] at hbe hfr
      have hbn8 : bn ≤ 8 := by rw [hbn]; unfold behindN; split <;> (try split) <;> omega
      clear hk0 hbn
      have HR3 : Hid (Row (w2.drew.alloc (.cells (pcC false 0 false 0 none 0 0) 31)) w2.heap.size 31 (pcC false 0 false 0 none 0 0)) := Row.new w2.drew _ _
      have HBa : Hid (Below w2.heap.size w2 (w2.drew.alloc (.cells (pcC false 0 false 0 none 0 0) 31))) := ((Below.refl _ _).drew).alloc (Nat.le_refl _) _
      clear h16
      have hgl : g < w2.drew.heap.size := World.block_lt_of_cell? w2 _ c0
      have hgn : g ≠ w2.heap.size := Nat.ne_of_lt hgl
      refine wp_region_held_drew (S := fun w' => w'.cell? ⟨g, o, none⟩ = some (.int .u8 (b.toNat : Int))) (by kernel_rfl) c0d (fun hHeld => ?_)
      refine wpAnyH_take (i := 0) (v := ?v0) rfl (by kernel_rfl) (by kernel_rfl) (by kernel_rfl) (fun _ _ _ h => h) (Or.inl ⟨by rfl, ?hy0⟩) (by assumption) ?rest0
      case hy0 => (intro w hSw; (try dsimp only at hSw); go_simp <;> with_reducible rfl)
      try simp only [Act.put, List.getElem_toArray, List.getElem_cons_zero, List.setIfInBounds_toArray, List.set_cons_zero, List.set_cons_succ]
      refine wpAnyH_take (i := 1) (v := ?v1) rfl (by kernel_rfl) (by kernel_rfl) (by kernel_rfl) (fun _ _ _ h => h) (Or.inl ⟨by rfl, ?hy1⟩) (by assumption) ?rest1
      case hy1 => (intro w hSw; (try dsimp only at hSw); go_simp <;> with_reducible rfl)
      try simp only [Act.put, List.getElem_toArray, List.getElem_cons_zero, List.getElem_cons_succ, List.setIfInBounds_toArray, List.set_cons_zero, List.set_cons_succ]
      refine wpAnyH_take (i := 2) (v := ?v2) rfl (by kernel_rfl) (by kernel_rfl) (by kernel_rfl) (fun _ _ _ h => h) (Or.inl ⟨by rfl, ?hy2⟩) (by assumption) ?rest2
      case hy2 => (intro w hSw; (try dsimp only at hSw); go_simp <;> with_reducible rfl)
      try simp only [Act.put, List.getElem_toArray, List.getElem_cons_zero, List.getElem_cons_succ, List.setIfInBounds_toArray, List.set_cons_zero, List.set_cons_succ]
      refine wpAnyH_take (i := 3) (v := ?v3) rfl (by kernel_rfl) (by kernel_rfl) (by kernel_rfl) (fun _ _ _ h => h) (Or.inl ⟨by rfl, ?hy3⟩) (by assumption) ?rest3
      case hy3 => (intro w hSw; (try dsimp only at hSw); go_simp <;> with_reducible rfl)
      try simp only [Act.put, List.getElem_toArray, List.getElem_cons_zero, List.getElem_cons_succ, List.setIfInBounds_toArray, List.set_cons_zero, List.set_cons_succ]
      refine wpAnyH_take (i := 4) (v := ?v4) rfl (by kernel_rfl) (by kernel_rfl) (by kernel_rfl) (fun _ _ _ h => h) (Or.inl ⟨by rfl, ?hy4⟩) (by assumption) ?rest4
      case hy4 => (intro w hSw; (try dsimp only at hSw); go_simp <;> with_reducible rfl)
      try simp only [Act.put, List.getElem_toArray, List.getElem_cons_zero, List.getElem_cons_succ, List.setIfInBounds_toArray, List.set_cons_zero, List.set_cons_succ]
      refine wpAnyH_take (i := 5) (v := ?v5) rfl (by kernel_rfl) (by kernel_rfl) (by kernel_rfl) (fun _ _ _ h => h) (Or.inl ⟨by rfl, ?hy5⟩) (by assumption) ?rest5
      case hy5 => (intro w hSw; (try dsimp only at hSw); go_simp <;> with_reducible rfl)
      try simp only [Act.put, List.getElem_toArray, List.getElem_cons_zero, List.getElem_cons_succ, List.setIfInBounds_toArray, List.set_cons_zero, List.set_cons_succ]
      refine wpAnyH_take (i := 6) (v := ?v6) rfl (by kernel_rfl) (by kernel_rfl) (by kernel_rfl) (fun _ _ _ h => h) (Or.inl ⟨by rfl, ?hy6⟩) (by assumption) ?rest6
      case hy6 => (intro w hSw; (try dsimp only at hSw); go_simp <;> with_reducible rfl)
      try simp only [Act.put, List.getElem_toArray, List.getElem_cons_zero, List.getElem_cons_succ, List.setIfInBounds_toArray, List.set_cons_zero, List.set_cons_succ]
      refine wpAnyH_take (i := 7) (v := ?v7) rfl (by kernel_rfl) (by kernel_rfl) (by kernel_rfl) (fun _ _ _ h => h) (Or.inl ⟨by rfl, ?hy7⟩) (by assumption) ?rest7
      case hy7 => (intro w hSw; (try dsimp only at hSw); go_simp <;> with_reducible rfl)
      try simp only [Act.put, List.getElem_toArray, List.getElem_cons_zero, List.getElem_cons_succ, List.setIfInBounds_toArray, List.set_cons_zero, List.set_cons_succ]
      refine wpAnyH_take (i := 8) (v := ?v8) rfl (by kernel_rfl) (by kernel_rfl) (by kernel_rfl) (fun _ _ _ h => h) (Or.inl ⟨by rfl, ?hy8⟩) (by assumption) ?rest8
      case hy8 => (intro w hSw; (try dsimp only at hSw); go_simp <;> with_reducible rfl)
      try simp only [Act.put, List.getElem_toArray, List.getElem_cons_zero, List.getElem_cons_succ, List.setIfInBounds_toArray, List.set_cons_zero, List.set_cons_succ]
      refine wpAnyH_take (i := 9) (v := ?v9) rfl (by kernel_rfl) (by kernel_rfl) (by kernel_rfl) (fun _ _ _ h => h) (Or.inl ⟨by rfl, ?hy9⟩) (by assumption) ?rest9
      case hy9 => (intro w hSw; (try dsimp only at hSw); go_simp <;> with_reducible rfl)
      try simp only [Act.put, List.getElem_toArray, List.getElem_cons_zero, List.getElem_cons_succ, List.setIfInBounds_toArray, List.set_cons_zero, List.set_cons_succ]
      refine wpAnyH_take (i := 10) (v := ?v10) rfl (by kernel_rfl) (by kernel_rfl) (by kernel_rfl) (fun _ _ _ h => h) (Or.inl ⟨by rfl, ?hy10⟩) (by assumption) ?rest10
      case hy10 => (intro w hSw; (try dsimp only at hSw); go_simp <;> with_reducible rfl)
      try simp only [Act.put, List.getElem_toArray, List.getElem_cons_zero, List.getElem_cons_succ, List.setIfInBounds_toArray, List.set_cons_zero, List.set_cons_succ]
      refine wpAnyH_ready (rs := [11]) (by kernel_rfl) (by simp) ?_
      refine AllReadyH.cons rfl (fun K hK => ?_) AllReadyH.nil
      go_simp
      refine hK.out _ _ ((World.cell?_alloc_lt _ _ ⟨g, o, none⟩ hgl).trans c0d) (fun hHeld => ?_)
      clear hK K
      try simp only [Act.put, List.getElem_toArray, List.getElem_cons_zero, List.getElem_cons_succ, List.setIfInBounds_toArray, List.set_cons_zero, List.set_cons_succ]
      refine wpAnyH_ready (rs := [12]) (by kernel_rfl) (by simp) ?_
      refine AllReadyH.cons rfl (fun K hK => ?_) AllReadyH.nil
      refine step_sw (cs := pcC fin bop m 0 none 0 0) rfl _ _ rfl rfl (by unfold pcC; rfl) HR3.out (pc_sz _ _ _ _ _ _ _ _ _ _ _ _ _ _) (pc_ok _ _ _ _ _ _ _) ?_
      refine hK.out _ _ ((setRow_cell _ _ hgn).trans ((World.cell?_alloc_lt _ _ ⟨g, o, none⟩ hgl).trans c0d)) (fun hHeld => ?_)
      clear hK K
      try simp only [Act.put, List.getElem_toArray, List.getElem_cons_zero, List.getElem_cons_succ]
      refine wpAnyH_done (by kernel_rfl) ?_ _
      clear hHeld
      have HR4 : Hid (Row ((w2.alloc (.cells (pcC false 0 false 0 none 0 0) 31)).drew.setRow w2.heap.size (pcC fin bop m 0 none 0 0)) w2.heap.size 31 (pcC fin bop m 0 none 0 0)) := Row.setRow (show Row (w2.alloc (.cells (pcC false 0 false 0 none 0 0) 31)).drew w2.heap.size 31 (pcC false 0 false 0 none 0 0) from Row.new w2 _ _) _
      have HB3 : Hid (Below w2.heap.size w2 ((w2.alloc (.cells (pcC false 0 false 0 none 0 0) 31)).drew.setRow w2.heap.size (pcC fin bop m 0 none 0 0))) := below_setRow (((Below.refl w2.heap.size w2).alloc (Nat.le_refl _) (.cells (pcC false 0 false 0 none 0 0) 31)).drew) _ _ (Nat.le_refl _)
      have hz0 : (#[.bool false, .int .u8 0, .bool false, .int .u32 0, .slice none 0 0] : Array Value) = pcC false 0 false 0 none 0 0 := rfl
      rw [hz0]
      clear hz0 HR3 HBa c0d c0
      generalize (w2.alloc (.cells (pcC false 0 false 0 none 0 0) 31)).drew.setRow w2.heap.size (pcC fin bop m 0 none 0 0) = w3 at *
      have HP8 : Hid (p + 1 < w2.heap.size) := HT2.out.lt
      have hB2 : B ≤ w2.heap.size := by have := HB2.out.size; omega
      have HR3 := Lib.hid (HR2.out.below HB3.out HR2.out.lt)
      have HT3 := Lib.hid (HT2.out.below HB3.out HT2.out.lt)
      have HD3 := Lib.hid (HD2.out.below (HB3.out.mono hB2))
      have HB4 := Lib.hid (HB2.out.trans (HB3.out.mono HB2.out.size))
      have c1' : w3.cell? ⟨g, o + 1, none⟩ = some (.int .u8 (s.toNat : Int)) := (HB3.out.cell (p := ⟨g, o + 1, none⟩) hgl).trans c1
      have hz3 := HB3.out.size
      clear HR2 HT2 HD2 HB2 HB3 c1 hgn
      generalize w2.heap.size = p8 at *
      obtain ⟨i0, hi0, hy0, hy1, hy2⟩ := infoI infoI8
      have hNf : N = f + v := by rw [← hnN]; exact HNV.out
      have hbnN : 2 + bn ≤ N := by omega
      obtain ⟨A5, hcut5, hrd5⟩ := cut_from (P := Tryd.prog) (c := c) (k := 2 + bn) Tryd.underlying22 hi0 hy1 HD3.out (by rw [← HL.out]; exact hcp) (by rw [← HL.out]; exact hbnN)
      rw [← HL.out] at hcut5
      have hw5 : IntKind.i64.wrap (2 + (bn : Int)) = 2 + (bn : Int) := IntWalk.i64_in _ (by omega)
      have hcu5 : ∀ W, (Instr.slice 22 (.slice (some ⟨g, o, none⟩) N c) (some (.int .i64 (2 + (bn : Int)))) none none).run Tryd.prog W = .ok (.slice A5 (N - (2 + bn)) (c - (2 + bn))) W := fun W => by
        have h1 := hcut5 W
        rw [show ((2 + bn : Nat) : Int) = 2 + (bn : Int) by omega] at h1
        exact h1
      clear hcut5
      obtain ⟨L5, hL5⟩ : ∃ L5, L5 = (b :: s :: r).drop (2 + bn) := ⟨_, rfl⟩
      have hl5 : L5.length = N - (2 + bn) := by rw [hL5, List.length_drop, ← HL.out]
      have HL5 := Lib.hid hL5
      rw [← hL5] at hrd5
      obtain ⟨D, hD⟩ : ∃ D, D = (b :: s :: r).drop f := ⟨_, rfl⟩
      have hDl : D.length = v := by rw [hD, List.length_drop, ← HL.out]; omega
      have HD := Lib.hid hD
      rw [← hD] at HEQ
      have HRD5 := Lib.hid hrd5
      obtain ⟨z5, hz5⟩ : ∃ z5, z5 = N - (2 + bn) := ⟨_, rfl⟩
      obtain ⟨y5, hy5⟩ : ∃ y5, y5 = c - (2 + bn) := ⟨_, rfl⟩
      have hzy : z5 ≤ y5 := by omega
      have hzf : z5 = four4 m + v := by omega
      rw [← hz5] at hcu5 hl5
      rw [← hy5] at hcu5
      have HZF := Lib.hid hzf
      clear hrd5 hL5 hD h1 h2 h3 hz5 hy5 hNf hbnN hgl hzf
      go_upto_region 8 with (go_at_call 28; refine (hbe _).mono ?_; rintro e w' ⟨rfl, rfl⟩)
      clear hbe hcu5 hs4 c1' hN0 hN1 hN0n
      go_upto_if 52 with fail
      go_cut [0] (fun t wx => ∃ (A6 : Option Addr) (y6 : Nat), t = .slice A6 v y6 ∧ v ≤ y6 ∧ Hid (RdB wx B A6 D) ∧ Hid (Row wx p8 31 (pcC fin bop m K none 0 0)) ∧ Hid (Below p8 w3 wx))
      case first =>
        cases m
        · have e1 : z5 = v := by have := HZF.out; simpa [four4] using this
          have e2 : D = L5 := by rw [HD.out, HL5.out, hfr]; rfl
          have e3 : K = 0 := HKD.out
          subst e1 e3
          have HE2 := Lib.hid e2
          clear e2
          go_wp2_with fail
          go_meet
          case rel => exact ⟨A5, y5, rfl, hzy, (by show RdB _ _ _ _; rw [HE2.out]; exact HRD5.out), HR4, Below.refl _ _⟩
        · have e1 : z5 = v + 4 := by have := HZF.out; simp [four4] at this; omega
          have e4 : f = 2 + bn + 4 := hfr
          have e2 : L5.drop 4 = D := by rw [HD.out, HL5.out, List.drop_drop, e4]
          have e3 : K = valL (L5.take 4) := by have h1 := HKD.out; rw [if_pos rfl, e4, Nat.add_sub_cancel] at h1; rw [h1, HL5.out]
          obtain ⟨hcu4, hrd4⟩ := cut_upto (P := Tryd.prog) (c := y5) (k := 4) Tryd.underlying22 hi0 hy1 HRD5.out (by omega) (by omega)
          obtain ⟨A6, hcu6, hrd6⟩ := cut_from (P := Tryd.prog) (c := y5) (k := 4) Tryd.underlying22 hi0 hy1 HRD5.out (by omega) (by omega)
          rw [hl5] at hcu4 hcu6
          rw [e2] at hrd6
          have hl4 : (L5.take 4).length = 4 := by rw [List.length_take]; omega
          have hgn := igetN_any (c := y5) hrd4 (by omega)
          rw [hl4, ← e3] at hgn
          have hwk : IntKind.u32.wrap (K : Int) = (K : Int) := by rw [IntKind.wrap_u32]; omega
          have c3 : w3.cell? ⟨p8, 3, none⟩ = some (.int .u32 (0 : Nat)) := HR4.out.cell rfl
          have th := HR4.out.thawed 3
          have HR5 : Hid (Row (w3.setCell ⟨p8, 3, none⟩ (.int .u32 (K : Int))) p8 31 (pcC fin bop true K none 0 0)) := HR4.out.stored 3 (.int .u32 (K : Int))
          have HB5 : Hid (Below p8 w3 (w3.setCell ⟨p8, 3, none⟩ (.int .u32 (K : Int)))) := (Below.refl _ _).setCell (p := ⟨p8, 3, none⟩) (Nat.le_refl _) _
          have HRD6 := Lib.hid (hrd6.below (HB5.out.mono hB2))
          rw [show z5 - 4 = v by omega] at hcu6
          have hv4 : v ≤ y5 - 4 := by omega
          have hc4 : ∀ W, (Instr.slice 22 (.slice A5 z5 y5) none (some (.int .i64 4)) none).run Tryd.prog W = .ok (.slice A5 4 y5) W := hcu4
          have hc6 : ∀ W, (Instr.slice 22 (.slice A5 z5 y5) (some (.int .i64 4)) none none).run Tryd.prog W = .ok (.slice A6 v (y5 - 4)) W := hcu6
          clear e1 e2 e3 e4 hcu4 hcu6 hrd4 hrd6 hl4 hl5 hzy hfr
          generalize y5 - 4 = y6 at *
          go_wp2_with (go_at_call 29; refine hgn.mono ?_; rintro e w' ⟨rfl, rfl⟩)
          go_meet
          case rel => exact ⟨A6, y6, rfl, hv4, HRD6, HR5, HB5⟩
      case rest =>
        obtain ⟨A6, y6, rfl, hvy, HRD6, HR6, HB6⟩ := hcut
        have HR7 := Lib.hid (HR3.out.below HB6.out (by have := HP8.out; omega))
        have HT7 := Lib.hid (HT3.out.below HB6.out HP8.out)
        have HB7 := Lib.hid (HB4.out.trans (HB6.out.mono (by have := HP8.out; have := HPP.out; omega)))
        have hz6 : p8 ≤ wc.heap.size := Nat.le_trans hz3 HB6.out.size
        have htu := iturn_any (c := y6) (key := K) hk HRD6.out (by omega) (Nat.le_trans hB2 hz6)
        rw [hDl] at htu
        obtain ⟨c0, c1, c2, c3, c4⟩ := pc_cells HR6.out
        clear HR3 HT3 HB4 HB6 HR4 HRD5 HZF hl5 hzy hfr
        go_upto_region 11 with fail
        go_wp2_with fail
        refine htu.mono ?_
        rintro e w8 ⟨gt, rfl, hO, hb⟩
        have hp8 : p8 < wc.heap.size := HR6.out.lt
        have HR8 := HR6.out.below hb hp8
        have c4' : w8.cell? ⟨p8, 4, none⟩ = some (.slice none 0 0) := (pc_cells HR8).2.2.2.2
        have th4 := HR8.thawed 4
        have hgt : wc.heap.size ≤ gt ∨ v = 0 := by
          rcases hO.2 with ⟨_, h0⟩ | ⟨g', cap, cur, e1, e2, _⟩
          · rw [turnL_length, hDl] at h0; exact .inr h0
          · injection e1 with e1 _ _; injection e1 with e1; injection e1 with e1 _ _; subst e1; exact .inl e2
        have HO9 := Lib.hid (OwB.setCell hO (a := ⟨p8, 4, none⟩) hp8 (.slice (some ⟨gt, 0, none⟩) v v))
        have HR9 : Hid (Row (w8.setCell ⟨p8, 4, none⟩ (.slice (some ⟨gt, 0, none⟩) v v)) p8 31 (pcC fin bop m K (some ⟨gt, 0, none⟩) v v)) := HR8.stored 4 (.slice (some ⟨gt, 0, none⟩) v v)
        have HP9 := Lib.hid ((HR7.out.below hb HR7.out.lt).stored' (a := ⟨p8, 4, none⟩) (by have := HP8.out; simp; omega) (.slice (some ⟨gt, 0, none⟩) v v))
        have HT9 := Lib.hid ((HT7.out.below hb HT7.out.lt).stored' (a := ⟨p8, 4, none⟩) (by have := HP8.out; simp; omega) (.slice (some ⟨gt, 0, none⟩) v v))
        have HB9 := Lib.hid ((HB7.out.trans (hb.mono HB7.out.size)).setCell (p := ⟨p8, 4, none⟩) (by have := HP8.out; have := HPP.out; show _ ≤ p8; omega) (.slice (some ⟨gt, 0, none⟩) v v))
        clear htu hO hb HR8 HR6 HR7 HT7 HB7 HRD6 c0 c1 c2 c3 c4 hz6
        go_upto_region 12 with fail
        generalize w8.setCell ⟨p8, 4, none⟩ (.slice (some ⟨gt, 0, none⟩) v v) = w9 at *
        clear c4' th4
        have HT10 := Lib.hid (HT9.out.setRow' (k := p) (by omega) (pcC fin bop m K (some ⟨gt, 0, none⟩) v v))
        go_wp2_with (first
          | (refine wpList_ld rfl _ rfl rfl HR9.out (pc_ok _ _ _ _ _ _ _) ?_)
          | (refine wpList_sw (cs := pcC fin bop m K (some ⟨gt, 0, none⟩) v v) rfl _ _ rfl rfl rfl HP9.out (pc_sz _ _ _ _ _ _ _ _ _ _ _ _ _ _) (pc_ok _ _ _ _ _ _ _) ?_)
          | (refine wpList_sw (cs := ftI 0 0) rfl _ _ rfl rfl (by unfold ftI; rfl) HT10.out (ftI_sz _ _ _ _) (ftI_ok _ _) ?_))
        refine bodyPost_ret (ret_ag2 (fn := Tryd.f18) rfl _ rfl ((HP9.out.setRow _).setRow' (k := p + 1) (by omega) _) (pc_ok _ _ _ _ _ _ _) rfl (HT10.out.setRow _) (ftI_ok _ _)) rfl ?_
        rw [HEQ.out]
        have hvl : (turnL K D).length = v := by rw [turnL_length]; exact hDl
        have hrd : RdB w9 w9.heap.size (some ⟨gt, 0, none⟩) (turnL K D) := RdB.ownI (c := v) (by rw [hvl]; exact HO9.out)
        refine ⟨some ⟨gt, 0, none⟩, v, ?_, ?_, Nat.le_of_eq hvl, below_setRow (below_setRow HB9.out _ _ HPP.out) _ _ (Nat.le_succ_of_le HPP.out)⟩
        · show _ = Ending.returned (.tuple #[.agg (pcC fin bop m K (some ⟨gt, 0, none⟩) (turnL K D).length v), .agg (ftI (scI 0) 0)])
          rw [hvl]
          rfl
        · have hne : turnL K D ≠ [] → p + 1 < gt := fun hx => by
            have h1 : 0 < v := by rw [← hvl]; exact List.length_pos_iff.2 hx
            have h2 := HP8.out
            rcases hgt with h3 | h3 <;> omega
          refine RdB.newI (RdB.more ((hrd.setRowI (fun hx => by have := hne hx; omega) _).setRowI (fun hx => by have := hne hx; omega) _) ?_) (fun hx => by have := hne hx; have := HPP.out; omega)
          simp
  · have eq : q = (Pc.zero, (hdI m l).code) := by rw [HQ.out]; exact getI_bad hc
    have HEQ := Lib.hid eq
    have hOF := ofI_any (.inr ⟨hc, ge, rfl, hR⟩) HG2.out
    have HOF := Lib.hid hOF
    clear hOF eq hc HG2 HD2
    go_wp2_with fail
    refine HOF.out.mono ?_
    rintro e w4 ⟨rfl, hB4⟩
    have HR4 := Lib.hid (HR2.out.below hB4 HR2.out.lt)
    have HT4 := Lib.hid ((HT2.out.below hB4 HT2.out.lt).setRow' (k := p) (by omega) (pcC false 0 false 0 none 0 0))
    have HB4 := Lib.hid (HB2.out.trans (hB4.mono HB2.out.size))
    clear hB4 HR2 HT2 HB2 HOF
    go_wp2_with (first
      | (refine wpList_sw (cs := pcC false 0 false 0 none 0 0) rfl _ _ rfl rfl (by unfold pcC; rfl) HR4.out (pc_sz _ _ _ _ _ _ _ _ _ _ _ _ _ _) (pc_ok _ _ _ _ _ _ _) ?_)
      | (refine wpList_sw (cs := ftI (scI (hdI m l).code) (hdI m l).code) rfl _ _ rfl rfl rfl HT4.out (ftI_sz _ _ _ _) (ftI_ok _ _) ?_))
    refine bodyPost_ret (ret_ag2 (fn := Tryd.f18) rfl _ rfl ((HR4.out.setRow _).setRow' (k := p + 1) (by omega) _) (pc_ok _ _ _ _ _ _ _) rfl (HT4.out.setRow _) (ftI_ok _ _)) rfl ?_
    rw [HEQ.out]
    exact ⟨none, 0, rfl, RdS.nil, Nat.le_refl _, below_setRow (below_setRow HB4.out _ _ HPP.out) _ _ (Nat.le_succ_of_le HPP.out)⟩
theorem iget_any {B : Nat} {A : Option Addr} {c : Nat} {l : List UInt8} {m : Bool} {w : World} (hr : RdB w B A l) (hB : B ≤ w.heap.size) (hl : l.length ≤ 1000000) (hcp : l.length ≤ c) (hG : GlobE w) :
    Calls Tryd.prog 18 #[.slice A l.length c, .bool m] w (GetP (getI m l) w) := (iget_new hr hB hl hcp hG).mono fun _ _ h => h.get
end Go.Proofs.YtejlbgllfkfkfaaDoor
