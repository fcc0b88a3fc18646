/-
  The document's Get, by its contract. Conditions: how many bytes there may be.
-/
import Derived.Test.YtejlbgllfkfkfaaDoorIrh
import Derived.Test.YtejlbgllfkfkfaaDoorIge
import Derived.Lib.ConvBytes
namespace Go.Proofs.YtejlbgllfkfkfaaDoor
open Go.RowKit Go.WideShapes

theorem bytesI_run (l : List UInt8) (w : World) : ∃ (c : Nat) (w' : World), (convert 9 22 (.string (txb l))).run Tryd.prog w = .ok (.slice (some ⟨w.heap.size, 0, none⟩) l.length c) w' ∧ l.length ≤ c ∧ Below w.heap.size w w' ∧ RdB w' w'.heap.size (some ⟨w.heap.size, 0, none⟩) l := by
  have h := Lib.run_convert_string_bytes (P := Tryd.prog) w 9 22 5 (txb l) Tryd.underlying9 Tryd.underlying22 Tryd.underlying5
  rw [txb_size] at h
  refine ⟨_, _, h, grownCap_ge _ _ _ _, ⟨rfl, rfl, rfl, by rw [Lib.bytesWorld_size]; omega, fun k hk => Lib.bytesWorld_at_old w _ _ k hk⟩, fun _ => ⟨w.heap.size, 0, rfl, by rw [Lib.bytesWorld_size]; omega, fun j hj => ?_⟩⟩
  have := Lib.bytesWorld_cell w 5 (txb l) j (by rw [txb_size]; exact hj)
  rw [Nat.zero_add, this]
  simp [txb, List.getElem?_eq_getElem hj]
theorem hd_cells {w : World} {g : Nat} {h : Hd} (hR : Row w g 53 (hdC h)) : w.cell? ⟨g, 0, none⟩ = some (.int .i64 h.front) ∧ w.cell? ⟨g, 1, none⟩ = some (.int .i64 h.size) ∧ w.cell? ⟨g, 2, none⟩ = some (.int .i64 h.code) ∧ w.cell? ⟨g, 3, none⟩ = some (.bool h.short) :=
  ⟨hR.cell rfl, hR.cell rfl, hR.cell rfl, hR.cell rfl⟩
/-- What the document's Get leaves. -/
def RGetP (q : Pc × Nat) (w : World) (e : Ending) (w' : World) : Prop := ∃ A c, e = .returned (.tuple #[.agg (pcC q.1.fin q.1.op q.1.mask q.1.key A q.1.dat.length c), .int .i64 q.2]) ∧ RdB w' w'.heap.size A q.1.dat ∧ Below w.heap.size w w'
/-- The same, and its data lie in memory that the call made. -/
def RGetN (q : Pc × Nat) (w : World) (e : Ending) (w' : World) : Prop := ∃ A c, e = .returned (.tuple #[.agg (pcC q.1.fin q.1.op q.1.mask q.1.key A q.1.dat.length c), .int .i64 q.2]) ∧ RdS w' (fun k => w.heap.size ≤ k ∧ k < w'.heap.size) A (byc q.1.dat) ∧ Below w.heap.size w w'
set_option maxRecDepth 100000 in
set_option maxHeartbeats 4000000 in
theorem rgetI_new (l : List UInt8) (hl : l.length ≤ 900000) (m : Bool) (w : World) : Calls Tryd.prog 20 #[.string (txb l), .bool m] w (RGetN (getI m l) w) := by
  have HR0 := Lib.hid (Row.new w 31 (pcC false 0 false 0 none 0 0))
  have HB0 : Hid (Below w.heap.size w (w.alloc (.cells (pcC false 0 false 0 none 0 0) 31))) := (Below.refl _ _).alloc (Nat.le_refl _) _
  have hhd := rheadI_any l hl m
  obtain ⟨q, hq⟩ : ∃ q, q = getI m l := ⟨_, rfl⟩
  rw [← hq]
  have HQ := Lib.hid hq
  clear hq
  have hsz := txb_size l
  obtain ⟨t, ht⟩ : ∃ t, t = txb l := ⟨_, rfl⟩
  have HT := Lib.hid ht
  rw [← ht] at hhd hsz ⊢
  clear ht
  go_enter Tryd.func20, Tryd.ntmps20
  go_wp2_with fail
  refine (hhd _).mono ?_
  rintro e w2 ⟨rfl, hb⟩
  have HR2 := Lib.hid (HR0.out.below hb HR0.out.lt)
  have HB2 := Lib.hid (HB0.out.trans (hb.mono HB0.out.size))
  have HA : Hid (Row (w2.alloc (.cells (hdC hd0) 53)) w2.heap.size 53 (hdC hd0)) := Row.new _ _ _
  have hba : Below w2.heap.size w2 (w2.alloc (.cells (hdC hd0) 53)) := (Below.refl _ _).alloc (Nat.le_refl _) _
  obtain ⟨p, hp⟩ : ∃ p, p = w.heap.size := ⟨_, rfl⟩
  have HPP : Hid (w.heap.size ≤ p) := Nat.le_of_eq hp.symm
  simp only [← hp] at HR2 ⊢
  have HR3 := Lib.hid ((HR2.out.alloc (.cells (hdC hd0) 53)).setRow' (k := w2.heap.size) (Nat.ne_of_lt HR2.out.lt) (hdC (hdI m l)))
  have HA3 := Lib.hid (HA.out.setRow (hdC (hdI m l)))
  have HB3 := Lib.hid (HB2.out.trans ((below_setRow hba w2.heap.size (hdC (hdI m l)) (Nat.le_refl _)).mono HB2.out.size))
  have HP6 : Hid (p < w2.heap.size) := HR2.out.lt
  clear hp hb hba hhd HR0 HB0 HB2 HR2
  go_upto_region 2 with (refine wpList_sw (cs := hdC (hdI m l)) rfl _ _ rfl rfl rfl HA.out (hd_sz _ _) (hd_ok _) ?_)
  rw [hd0_eq]
  generalize (w2.alloc (.cells (hdC hd0) 53)).setRow w2.heap.size (hdC (hdI m l)) = w3 at *
  clear HA
  generalize w2.heap.size = p6 at *
  obtain ⟨c0, c1, c2, c3⟩ := hd_cells HA3.out
  have hsm := hdI_small m l
  by_cases hc : (hdI m l).code = 0
  · have hcz : (((hdI m l).code : Nat) : Int) = 0 := by omega
    rw [hcz] at c2
    by_cases hno : (hdI m l).front + (hdI m l).size = 0 ∨ (hdI m l).front + (hdI m l).size ≠ l.length
    · have eq : q = (Pc.zero, 1002) := by rw [HQ.out]; exact getI_none hc hno
      have HEQ := Lib.hid eq
      have hsum : IntKind.i64.wrap (((hdI m l).front : Int) + ((hdI m l).size : Int)) = (((hdI m l).front + (hdI m l).size : Nat) : Int) := by rw [IntWalk.i64_in _ (by omega)]; omega
      have hss : (hdI m l).short = true ∨ ((hdI m l).short = false ∧ (hdI m l).front + (hdI m l).size ≠ l.length) := by
        cases hsh : (hdI m l).short
        · have := hdI_whole m l hsh hc
          exact .inr ⟨rfl, by omega⟩
        · exact .inl rfl
      clear eq hno hc hcz hsm
      generalize (hdI m l).front + (hdI m l).size = n at *
      generalize (hdI m l).short = sh at *
      generalize (hdI m l).front = f at *
      generalize (hdI m l).size = v at *
      generalize l.length = N at *
      go_upto_region 4 with fail
      go_cut [29] (fun v wx => v = .bool true ∧ wx = w3)
      case first =>
        rcases hss with rfl | ⟨rfl, hne⟩
        · go_wp2_with fail
          go_meet
          case rel => exact ⟨rfl, rfl⟩
        · have hq1 : ((N : Int) != (n : Int)) = true := bne_iff_ne.2 (by omega)
          clear hne
          go_wp2_with fail
          go_meet
          case rel => exact ⟨rfl, rfl⟩
      case rest =>
        obtain ⟨rfl, rfl⟩ := hcut
        clear hss c0 c1 c2 c3
        go_wp2_with (refine wpList_sw (cs := pcC false 0 false 0 none 0 0) rfl _ _ rfl rfl (by unfold pcC; rfl) HR3.out (pc_sz _ _ _ _ _ _ _ _ _ _ _ _ _ _) (pc_ok _ _ _ _ _ _ _) ?_)
        refine bodyPost_ret (ret_agv (fn := Tryd.f20) rfl _ rfl (HR3.out.setRow _) (pc_ok _ _ _ _ _ _ _) rfl) rfl ?_
        rw [HEQ.out]
        exact ⟨none, 0, rfl, RdS.nil, below_setRow HB3.out _ _ HPP.out⟩
    · have h0 : (hdI m l).front + (hdI m l).size ≠ 0 := fun h => hno (.inl h)
      have hnN : (hdI m l).front + (hdI m l).size = l.length := Classical.not_not.1 fun h => hno (.inr h)
      obtain ⟨b, s, r, hl2, hbf, hfr, hsh, hsv⟩ := hdI_form hc h0
      subst hl2
      have eq : q = (⟨decide (127 < b.toNat), b.toNat % 16, m, keyI m (hdI m (b :: s :: r)).front (b :: s :: r), turnL (keyI m (hdI m (b :: s :: r)).front (b :: s :: r)) ((b :: s :: r).drop (hdI m (b :: s :: r)).front)⟩, 0) := by
        rw [HQ.out]
        exact getI_whole hc hsh hnN
      have HEQ := Lib.hid eq
      have hk := keyI_lt m (hdI m (b :: s :: r)).front (b :: s :: r)
      have HKD : Hid (keyI m (hdI m (b :: s :: r)).front (b :: s :: r) = if m = true then valL (((b :: s :: r).drop ((hdI m (b :: s :: r)).front - 4)).take 4) else 0) := rfl
      have hsum : IntKind.i64.wrap (((hdI m (b :: s :: r)).front : Int) + ((hdI m (b :: s :: r)).size : Int)) = ((b :: s :: r).length : Int) := by rw [IntWalk.i64_in _ (by omega)]; omega
      rw [hsh] at c3
      have hfN : (hdI m (b :: s :: r)).front ≤ (b :: s :: r).length := by omega
      have hf4 : m = true → 4 ≤ (hdI m (b :: s :: r)).front := fun hm => by rw [hfr, hm]; simp [four4]
      have hat : ∀ W, (Instr.index 9 (.string t) (.int .i64 0)).run Tryd.prog W = .ok (.int .u8 (b.toNat : Int)) W := fun W => by rw [HT.out]; exact txb_at (b :: s :: r) 0 (by simp) W
      generalize keyI m (hdI m (b :: s :: r)).front (b :: s :: r) = K at *
      generalize (hdI m (b :: s :: r)).front = f at *
      generalize (hdI m (b :: s :: r)).size = v at *
      have HFROM : Hid (∀ W, (Instr.slice 9 (.string t) (some (.int .i64 f)) none none).run Tryd.prog W = .ok (.string (txb ((b :: s :: r).drop f))) W) := fun W => by
        rw [HT.out]
        exact txb_from (b :: s :: r) f (by omega) (by omega) W
      have HCUT : Hid (m = true → ∀ W, (Instr.slice 9 (.string t) (some (.int .i64 ((f - 4 : Nat) : Int))) (some (.int .i64 f)) none).run Tryd.prog W = .ok (.string (txb (((b :: s :: r).drop (f - 4)).take 4))) W) := fun hm W => by
        have h4 := hf4 hm
        rw [HT.out, txb_cut (b :: s :: r) ((f - 4 : Nat) : Int) f (by omega) (by omega) (by omega) W]
        congr 5
        omega
      have HDL : Hid (((b :: s :: r).drop f).length ≤ 900000) := by show _ ≤ _; rw [List.length_drop]; omega
      have hqn : (((b :: s :: r).length : Int) != ((b :: s :: r).length : Int)) = false := by simp
      have HF4 := Lib.hid hf4
      have hb := b.toNat_lt
      have q1 : decide ((127 : Int) < (b.toNat : Int)) = decide (127 < b.toNat) := by rw [decide_eq_decide]; omega
      have r1 : (b.toNat : Int).tmod 16 = ((b.toNat % 16 : Nat) : Int) := rfl
      have r2 : IntKind.u8.wrap ((b.toNat : Int).tmod 16) = ((b.toNat % 16 : Nat) : Int) := by rw [r1, IntKind.wrap_u8]; omega
      have r3 : (b.toNat : Int) % 16 = ((b.toNat % 16 : Nat) : Int) := by omega
      clear hno h0 hnN hfr eq hsh hc hcz hf4 hbf hsm
      generalize hD : (b :: s :: r).drop f = D at *
      generalize (b :: s :: r).length = N at *
      generalize b.toNat % 16 = bop at *
      generalize hfin : decide (127 < b.toNat) = fin at *
      go_upto_region 6 with fail
      have HC0 := Lib.hid c0
      clear c0 c1 c2 c3 hqn hsum
      have HR7 : Hid (Row (w3.drew.alloc (.cells (pcC false 0 false 0 none 0 0) 31)) w3.heap.size 31 (pcC false 0 false 0 none 0 0)) := Row.new w3.drew _ _
      refine wp_region_held_drew (S := fun _ => True) (by kernel_rfl) trivial (fun hHeld => ?_)
      refine wpAnyH_take (i := 0) (v := ?v0) rfl (by kernel_rfl) (by kernel_rfl) (by kernel_rfl) (fun _ _ _ h => h) (Or.inl ⟨by rfl, ?hy0⟩) (by assumption) ?rest0
      case hy0 => (intro w hSw; (try dsimp only at hSw); go_simp <;> with_reducible rfl)
      try simp only [Act.put, List.getElem_toArray, List.getElem_cons_zero, List.setIfInBounds_toArray, List.set_cons_zero, List.set_cons_succ]
      refine wpAnyH_take (i := 1) (v := ?v1) rfl (by kernel_rfl) (by kernel_rfl) (by kernel_rfl) (fun _ _ _ h => h) (Or.inl ⟨by rfl, ?hy1⟩) (by assumption) ?rest1
      case hy1 => (intro w hSw; (try dsimp only at hSw); go_simp <;> with_reducible rfl)
      try simp only [Act.put, List.getElem_toArray, List.getElem_cons_zero, List.getElem_cons_succ, List.setIfInBounds_toArray, List.set_cons_zero, List.set_cons_succ]
      refine wpAnyH_take (i := 2) (v := ?v2) rfl (by kernel_rfl) (by kernel_rfl) (by kernel_rfl) (fun _ _ _ h => h) (Or.inl ⟨by rfl, ?hy2⟩) (by assumption) ?rest2
      case hy2 => (intro w hSw; (try dsimp only at hSw); go_simp <;> with_reducible rfl)
      try simp only [Act.put, List.getElem_toArray, List.getElem_cons_zero, List.getElem_cons_succ, List.setIfInBounds_toArray, List.set_cons_zero, List.set_cons_succ]
      refine wpAnyH_take (i := 3) (v := ?v3) rfl (by kernel_rfl) (by kernel_rfl) (by kernel_rfl) (fun _ _ _ h => h) (Or.inl ⟨by rfl, ?hy3⟩) (by assumption) ?rest3
      case hy3 => (intro w hSw; (try dsimp only at hSw); go_simp <;> with_reducible rfl)
      try simp only [Act.put, List.getElem_toArray, List.getElem_cons_zero, List.getElem_cons_succ, List.setIfInBounds_toArray, List.set_cons_zero, List.set_cons_succ]
      refine wpAnyH_take (i := 4) (v := ?v4) rfl (by kernel_rfl) (by kernel_rfl) (by kernel_rfl) (fun _ _ _ h => h) (Or.inl ⟨by rfl, ?hy4⟩) (by assumption) ?rest4
      case hy4 => (intro w hSw; (try dsimp only at hSw); go_simp <;> with_reducible rfl)
      try simp only [Act.put, List.getElem_toArray, List.getElem_cons_zero, List.getElem_cons_succ, List.setIfInBounds_toArray, List.set_cons_zero, List.set_cons_succ]
      refine wpAnyH_take (i := 5) (v := ?v5) rfl (by kernel_rfl) (by kernel_rfl) (by kernel_rfl) (fun _ _ _ h => h) (Or.inl ⟨by rfl, ?hy5⟩) (by assumption) ?rest5
      case hy5 => (intro w hSw; (try dsimp only at hSw); go_simp <;> with_reducible rfl)
      try simp only [Act.put, List.getElem_toArray, List.getElem_cons_zero, List.getElem_cons_succ, List.setIfInBounds_toArray, List.set_cons_zero, List.set_cons_succ]
      refine wpAnyH_take (i := 6) (v := ?v6) rfl (by kernel_rfl) (by kernel_rfl) (by kernel_rfl) (fun _ _ _ h => h) (Or.inl ⟨by rfl, ?hy6⟩) (by assumption) ?rest6
      case hy6 => (intro w hSw; (try dsimp only at hSw); go_simp <;> with_reducible rfl)
      try simp only [Act.put, List.getElem_toArray, List.getElem_cons_zero, List.getElem_cons_succ, List.setIfInBounds_toArray, List.set_cons_zero, List.set_cons_succ]
      refine wpAnyH_take (i := 7) (v := ?v7) rfl (by kernel_rfl) (by kernel_rfl) (by kernel_rfl) (fun _ _ _ h => h) (Or.inl ⟨by rfl, ?hy7⟩) (by assumption) ?rest7
      case hy7 => (intro w hSw; (try dsimp only at hSw); go_simp <;> with_reducible rfl)
      try simp only [Act.put, List.getElem_toArray, List.getElem_cons_zero, List.getElem_cons_succ, List.setIfInBounds_toArray, List.set_cons_zero, List.set_cons_succ]
      refine wpAnyH_ready (rs := [8]) (by kernel_rfl) (by simp) ?_
      refine AllReadyH.cons rfl (fun K hK => ?_) AllReadyH.nil
      go_simp
      refine hK.out _ _ trivial (fun hHeld => ?_)
      clear hK K
      try simp only [Act.put, List.getElem_toArray, List.getElem_cons_zero, List.getElem_cons_succ, List.setIfInBounds_toArray, List.set_cons_zero, List.set_cons_succ]
      refine wpAnyH_ready (rs := [9]) (by kernel_rfl) (by simp) ?_
      refine AllReadyH.cons rfl (fun K hK => ?_) AllReadyH.nil
      refine step_sw (cs := pcC fin bop m 0 none 0 0) rfl _ _ rfl rfl (by unfold pcC; rfl) HR7.out (pc_sz _ _ _ _ _ _ _ _ _ _ _ _ _ _) (pc_ok _ _ _ _ _ _ _) ?_
      refine hK.out _ _ trivial (fun hHeld => ?_)
      clear hK K
      try simp only [Act.put, List.getElem_toArray, List.getElem_cons_zero, List.getElem_cons_succ]
      refine wpAnyH_done (by kernel_rfl) ?_ _
      clear hHeld q1 r1 r2 r3 hat
      have HR4 : Hid (Row ((w3.alloc (.cells (pcC false 0 false 0 none 0 0) 31)).drew.setRow w3.heap.size (pcC fin bop m 0 none 0 0)) w3.heap.size 31 (pcC fin bop m 0 none 0 0)) := Row.setRow (show Row (w3.alloc (.cells (pcC false 0 false 0 none 0 0) 31)).drew w3.heap.size 31 (pcC false 0 false 0 none 0 0) from Row.new w3 _ _) _
      have HB4 : Hid (Below w3.heap.size w3 ((w3.alloc (.cells (pcC false 0 false 0 none 0 0) 31)).drew.setRow w3.heap.size (pcC fin bop m 0 none 0 0))) := below_setRow (((Below.refl w3.heap.size w3).alloc (Nat.le_refl _) (.cells (pcC false 0 false 0 none 0 0) 31)).drew) _ _ (Nat.le_refl _)
      have hz0 : (#[.bool false, .int .u8 0, .bool false, .int .u32 0, .slice none 0 0] : Array Value) = pcC false 0 false 0 none 0 0 := rfl
      rw [hz0]
      clear hz0 HR7
      have hp63 : p6 < w3.heap.size := HA3.out.lt
      generalize (w3.alloc (.cells (pcC false 0 false 0 none 0 0) 31)).drew.setRow w3.heap.size (pcC fin bop m 0 none 0 0) = w4 at *
      have c0 : w4.cell? ⟨p6, 0, none⟩ = some (.int .i64 f) := (HB4.out.cell (p := ⟨p6, 0, none⟩) hp63).trans HC0.out
      have HP4 := Lib.hid (HR3.out.below HB4.out HR3.out.lt)
      have HB5 := Lib.hid (HB3.out.trans (HB4.out.mono HB3.out.size))
      have hz4 := HB4.out.size
      have hw3 := HB3.out.size
      clear HR3 HB3 HC0 HA3 HB4
      generalize w3.heap.size = p7 at *
      have hfr := HFROM.out
      go_upto_region 8 with fail
      clear hfr
      go_upto_if 43 with fail
      clear hfin
      go_cut [8] (fun sv wx => sv = .string (txb (turnL K D)) ∧ Hid (Row wx p7 31 (pcC fin bop m K none 0 0)) ∧ Hid (Below p7 w4 wx))
      case first =>
        cases m
        · have e3 : K = 0 := HKD.out
          subst e3
          go_wp2_with fail
          go_meet
          case rel => exact ⟨by rw [turnL_zero], HR4, Below.refl _ _⟩
        · have h4 := HF4.out rfl
          have e3 : K = valL (((b :: s :: r).drop (f - 4)).take 4) := by have h1 := HKD.out; rwa [if_pos rfl] at h1
          have hcu := HCUT.out rfl
          rw [show ((f - 4 : Nat) : Int) = (f : Int) - 4 by omega] at hcu
          have hva := ivalue_any (((b :: s :: r).drop (f - 4)).take 4) (by rw [List.length_take]; omega)
          rw [← e3] at hva
          have hwf : IntKind.i64.wrap ((f : Int) - 4) = (f : Int) - 4 := IntWalk.i64_in _ (by omega)
          have htu := rturnI_any D K hk (by have := HDL.out; omega)
          have c3 : w4.cell? ⟨p7, 3, none⟩ = some (.int .u32 (0 : Nat)) := HR4.out.cell rfl
          have th := HR4.out.thawed 3
          have HR5 : Hid (Row (w4.setCell ⟨p7, 3, none⟩ (.int .u32 (K : Int))) p7 31 (pcC fin bop true K none 0 0)) := HR4.out.stored 3 (.int .u32 (K : Int))
          have HB6 : Hid (Below p7 w4 (w4.setCell ⟨p7, 3, none⟩ (.int .u32 (K : Int)))) := (Below.refl _ _).setCell (p := ⟨p7, 3, none⟩) (Nat.le_refl _) _
          clear e3 h4 hsz
          generalize txb (((b :: s :: r).drop (f - 4)).take 4) = t4 at *
          generalize txb D = tD at *
          generalize txb (turnL K D) = tT at *
          go_upto_region 10 with (go_at_call 31; refine (hva _).mono ?_; rintro e w' ⟨rfl, rfl⟩)
          clear hva hcu hwf c3 th c0
          have c3 := (pc_cells HR5.out).2.2.2.1
          generalize w4.setCell ⟨p7, 3, none⟩ (.int .u32 (K : Int)) = w5 at *
          go_wp2_with fail
          refine (htu _).mono ?_
          rintro e w6 ⟨rfl, hb6⟩
          have HR6 := Lib.hid (HR5.out.below hb6 HR5.out.lt)
          have HB7 := Lib.hid (HB6.out.trans (hb6.mono (Nat.le_of_lt HR5.out.lt)))
          clear hb6 htu
          go_wp2_with fail
          go_meet
          case rel => exact ⟨rfl, HR6, HB7⟩
      case rest =>
        obtain ⟨rfl, HR6, HB6⟩ := hcut
        have HP7 := Lib.hid (HP4.out.below HB6.out (by have := HP6.out; omega))
        have HB7 := Lib.hid (HB5.out.trans (HB6.out.mono hw3))
        clear HP4 HB5 HB6 HR4 c0 HCUT HFROM HDL HF4
        obtain ⟨cc, w8, hcv, hcc, hb8, hrd8⟩ := bytesI_run (turnL K D) wc
        obtain ⟨L, hL⟩ : ∃ L, L = turnL K D := ⟨_, rfl⟩
        rw [← hL] at hcv hcc hrd8
        have HLD := Lib.hid hL
        rw [← hL]
        clear hL
        have hpw : p7 < wc.heap.size := HR6.out.lt
        have HR8 := HR6.out.below hb8 hpw
        have c4' : w8.cell? ⟨p7, 4, none⟩ = some (.slice none 0 0) := (pc_cells HR8).2.2.2.2
        have th4 := HR8.thawed 4
        have HR9 : Hid (Row (w8.setCell ⟨p7, 4, none⟩ (.slice (some ⟨wc.heap.size, 0, none⟩) L.length cc)) p7 31 (pcC fin bop m K (some ⟨wc.heap.size, 0, none⟩) L.length cc)) := HR8.stored 4 (.slice (some ⟨wc.heap.size, 0, none⟩) L.length cc)
        have HP9 := Lib.hid ((HP7.out.below hb8 HP7.out.lt).stored' (a := ⟨p7, 4, none⟩) (by have := HP6.out; simp; omega) (.slice (some ⟨wc.heap.size, 0, none⟩) L.length cc))
        have HB9 := Lib.hid ((HB7.out.trans (hb8.mono HB7.out.size)).setCell (p := ⟨p7, 4, none⟩) hw3 (.slice (some ⟨wc.heap.size, 0, none⟩) L.length cc))
        have HD9 : Hid (RdB (w8.setCell ⟨p7, 4, none⟩ (.slice (some ⟨wc.heap.size, 0, none⟩) L.length cc)) (w8.setCell ⟨p7, 4, none⟩ (.slice (some ⟨wc.heap.size, 0, none⟩) L.length cc)).heap.size (some ⟨wc.heap.size, 0, none⟩) L) := RdB.more (fun hx => by
          obtain ⟨g', o', e, hg, hc⟩ := hrd8 hx
          refine ⟨g', o', e, hg, fun j hj => ?_⟩
          injection e with e
          injection e with e1 e2
          rw [World.cell?_setCell_far _ _ _ _ (by show p7 ≠ g'; omega)]
          exact hc j hj) (by simp [World.setCell])
        clear HR8 HR6 HP7 HB7 hrd8 hb8
        go_upto_region 12 with fail
        have HPW : Hid (p < wc.heap.size) := by have := HP6.out; show _ < _; omega
        generalize w8.setCell ⟨p7, 4, none⟩ (.slice (some ⟨wc.heap.size, 0, none⟩) L.length cc) = w9 at *
        generalize wc.heap.size = gt at *
        clear c4' th4 hcv
        go_wp2_with (first
          | (refine wpList_ld rfl _ rfl rfl HR9.out (pc_ok _ _ _ _ _ _ _) ?_)
          | (refine wpList_sw (cs := pcC fin bop m K (some ⟨gt, 0, none⟩) L.length cc) rfl _ _ rfl rfl rfl HP9.out (pc_sz _ _ _ _ _ _ _ _ _ _ _ _ _ _) (pc_ok _ _ _ _ _ _ _) ?_))
        refine bodyPost_ret (ret_agv (fn := Tryd.f20) rfl _ rfl (HP9.out.setRow _) (pc_ok _ _ _ _ _ _ _) rfl) rfl ?_
        rw [HEQ.out]
        refine ⟨some ⟨gt, 0, none⟩, cc, ?_, ?_, below_setRow HB9.out _ _ HPP.out⟩
        · show _ = Ending.returned (.tuple #[.agg (pcC fin bop m K (some ⟨gt, 0, none⟩) (turnL K D).length cc), .int .i64 ((0 : Nat) : Int)])
          rw [← HLD.out]
          rfl
        · show RdS _ _ _ (byc (turnL K D))
          rw [← HLD.out]
          refine RdB.newI (RdB.more (HD9.out.setRowI (fun _ => by have := HPW.out; omega) _) ?_) (fun _ => by have := HPW.out; have := HPP.out; omega)
          simp
  · have eq : q = (Pc.zero, (hdI m l).code) := by rw [HQ.out]; exact getI_bad hc
    have HEQ := Lib.hid eq
    have hne : (((hdI m l).code : Int) != 0) = true := bne_iff_ne.2 (by omega)
    clear eq hc
    generalize (hdI m l).code = code at *
    go_upto_region 3 with fail
    have c2d : w3.drew.cell? ⟨p6, 2, none⟩ = some (.int .i64 code) := c2
    have hgn : p6 ≠ p := by have := HP6.out; omega
    refine wp_region_held_drew (S := fun w' => w'.cell? ⟨p6, 2, none⟩ = some (.int .i64 code)) (by kernel_rfl) c2d (fun hHeld => ?_)
    refine wpAnyH_take (i := 0) (v := ?v0q1) rfl (by kernel_rfl) (by kernel_rfl) (by kernel_rfl) (fun _ _ _ h => h) (Or.inl ⟨by rfl, ?hy0q1⟩) (by assumption) ?rest0q1
    case hy0q1 => (intro w hSw; (try dsimp only at hSw); go_simp <;> with_reducible rfl)
    try simp only [Act.put, List.getElem_toArray, List.getElem_cons_zero, List.setIfInBounds_toArray, List.set_cons_zero, List.set_cons_succ]
    refine wpAnyH_take (i := 1) (v := ?v1q1) rfl (by kernel_rfl) (by kernel_rfl) (by kernel_rfl) (fun _ _ _ h => h) (Or.inl ⟨by rfl, ?hy1q1⟩) (by assumption) ?rest1q1
    case hy1q1 => (intro w hSw; (try dsimp only at hSw); go_simp <;> with_reducible rfl)
    try simp only [Act.put, List.getElem_toArray, List.getElem_cons_zero, List.getElem_cons_succ, List.setIfInBounds_toArray, List.set_cons_zero, List.set_cons_succ]
    refine wpAnyH_take (i := 2) (v := ?v2q1) rfl (by kernel_rfl) (by kernel_rfl) (by kernel_rfl) (fun _ _ _ h => h) (Or.inl ⟨by rfl, ?hy2q1⟩) (by assumption) ?rest2q1
    case hy2q1 => (intro w hSw; (try dsimp only at hSw); go_simp <;> with_reducible rfl)
    try simp only [Act.put, List.getElem_toArray, List.getElem_cons_zero, List.getElem_cons_succ, List.setIfInBounds_toArray, List.set_cons_zero, List.set_cons_succ]
    refine wpAnyH_ready (rs := [3]) (by kernel_rfl) (by simp) ?_
    refine AllReadyH.cons rfl (fun K hK => ?_) AllReadyH.nil
    refine step_sw (cs := pcC false 0 false 0 none 0 0) rfl _ _ rfl rfl (by unfold pcC; rfl) (show Row w3.drew p 31 _ from HR3.out) (pc_sz _ _ _ _ _ _ _ _ _ _ _ _ _ _) (pc_ok _ _ _ _ _ _ _) ?_
    refine hK.out _ _ ((setRow_cell _ _ hgn).trans c2d) (fun hHeld => ?_)
    clear hK K
    try simp only [Act.put, List.getElem_toArray, List.getElem_cons_zero, List.getElem_cons_succ]
    refine wpAnyH_take (i := 4) (v := ?v4q2) rfl (by kernel_rfl) (by kernel_rfl) (by kernel_rfl) (fun _ _ _ h => h) (Or.inl ⟨by rfl, ?hy4q2⟩) (by assumption) ?rest4q2
    case hy4q2 => (intro w hSw; (try dsimp only at hSw); go_simp <;> with_reducible rfl)
    try simp only [Act.put, List.getElem_toArray, List.getElem_cons_zero, List.getElem_cons_succ, List.setIfInBounds_toArray, List.set_cons_zero, List.set_cons_succ]
    refine wpAnyH_done (by kernel_rfl) ?_ _
    go_wp2_with fail
    refine bodyPost_ret (ret_agv (fn := Tryd.f20) rfl _ rfl (Row.setRow (show Row w3.drew p 31 _ from HR3.out) _) (pc_ok _ _ _ _ _ _ _) rfl) rfl ?_
    rw [HEQ.out]
    exact ⟨none, 0, rfl, RdS.nil, below_setRow HB3.out.drew _ _ HPP.out⟩
theorem rgetI_any (l : List UInt8) (hl : l.length ≤ 900000) (m : Bool) (w : World) : Calls Tryd.prog 20 #[.string (txb l), .bool m] w (RGetP (getI m l) w) := (rgetI_new l hl m w).mono fun _ _ h => by
  obtain ⟨A, c, h1, h2, h3⟩ := h
  exact ⟨A, c, h1, RdB.ofS h2 fun _ hg _ => hg.2, h3⟩
end Go.Proofs.YtejlbgllfkfkfaaDoor
