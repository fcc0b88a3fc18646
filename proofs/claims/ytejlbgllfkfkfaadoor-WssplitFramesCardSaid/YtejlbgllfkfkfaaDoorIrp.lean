/-
  The document's Put of a frame that may be, by its contract. Conditions: the bytes are read.
-/
import Derived.Test.YtejlbgllfkfkfaaDoorIpu
import Derived.Deep.QuietTactic
import Derived.Deep.RegionHeld3
namespace Go.Proofs.YtejlbgllfkfkfaaDoor
open Go.RowKit Go.WideShapes

theorem text2I (x y : Nat) (hx : x < 256) (hy : y < 256) (W : World) : (convert 22 9 (.slice (some ⟨W.heap.size, 0, none⟩) 2 2)).run Tryd.prog (W.alloc (.cells #[.int .u8 (x : Int), .int .u8 (y : Int)] 5)) = .ok (.string (txb [UInt8.ofNat x, UInt8.ofNat y])) (W.alloc (.cells #[.int .u8 (x : Int), .int .u8 (y : Int)] 5)) :=
  run_text (P := Tryd.prog) (l := [UInt8.ofNat x, UInt8.ofNat y]) (c := 2) Tryd.underlying22 Tryd.underlying5 Tryd.underlying9 (RdB.ownI (lit2I x y hx hy W))
set_option maxRecDepth 100000 in
set_option maxHeartbeats 2000000 in
theorem rputI_any (p : Pc) (hm : p.May) (hkey : p.key < 4294967296) {B : Nat} {A : Option Addr} {c : Nat} {w : World} (hr : RdB w B A p.dat) (hB : B ≤ w.heap.size) :
    Calls Tryd.prog 16 #[.agg (pcC p.fin p.op p.mask p.key A p.dat.length c)] w fun e w' => e = .returned (.string (txb p.put)) ∧ Below w.heap.size w w' := by
  obtain ⟨fin, op, mask, key, dat⟩ := p
  have hm' : MayI fin op mask key dat.length := hm
  simp only at hkey hr ⊢
  have HBx : Hid (Below w.heap.size w (w.alloc (.cells (pcC fin op mask key A dat.length c) 31))) := (Below.refl _ _).alloc (Nat.le_refl _) _
  have HRx := Lib.hid (Row.new w 31 (pcC fin op mask key A dat.length c))
  have HDx := Lib.hid (hr.below (HBx.out.mono hB))
  have hop : op < 128 := by have := hm'.1; unfold okOp at this; omega
  have hn4 : dat.length ≤ 4096 := hm'.2.2.1
  obtain ⟨PL, hPL⟩ : ∃ PL, PL = (Pc.mk fin op mask key dat).put := ⟨_, rfl⟩
  rw [← hPL]
  have HPL : Hid (PL = ([UInt8.ofNat (op + if fin = true then 128 else 0), UInt8.ofNat (formI dat.length + if mask = true then 128 else 0)] ++ lensI dat.length) ++ if mask = true then be 4 key ++ turnL key dat else dat) := hPL
  obtain ⟨c0, c1, c2, c3, c4⟩ := pc_cells HRx.out
  have HSx : Hid (w.heap.size < (w.alloc (.cells (pcC fin op mask key A dat.length c) 31)).heap.size) := HRx.out.lt
  clear hr hm hm' hPL
  go_enter Tryd.func16, Tryd.ntmps16
  go_upto_region 2 with fail
  generalize w.alloc (.cells (pcC fin op mask key A dat.length c) 31) = w1 at *
  go_upto_if 10 with fail
  go_cut [3] (fun v wx => ∃ x : Nat, v = .int .u8 x ∧ x < 256 ∧ Hid (x = op + if fin = true then 128 else 0) ∧ wx = w1)
  case first =>
    cases fin
    · go_wp2_with fail
      go_meet
      case rel => exact ⟨op, rfl, by omega, by show _ = _; simp, rfl⟩
    · have hw : IntKind.u8.wrap ((op : Int) + 128) = ((op + 128 : Nat) : Int) := by rw [IntKind.wrap_u8]; omega
      go_wp2_with fail
      go_meet
      case rel => exact ⟨op + 128, rfl, by omega, by show _ = _; simp, rfl⟩
  case rest =>
    obtain ⟨x, rfl, hx, HX, rfl⟩ := hcut
    rw [← HX.out] at HPL
    clear HX
    go_upto_region 5 with fail
    go_upto_if 14 with fail
    go_cut [4] (fun v wx => ∃ y : Nat, v = .int .u8 y ∧ y ≤ 128 ∧ Hid (y = if mask = true then 128 else 0) ∧ wx = wc)
    case first =>
      cases mask
      · go_wp2_with fail
        go_meet
        case rel => exact ⟨0, rfl, by omega, by show _ = _; simp, rfl⟩
      · go_wp2_with fail
        go_meet
        case rel => exact ⟨128, rfl, by omega, by show _ = _; simp, rfl⟩
    case rest =>
      obtain ⟨y, rfl, hy, HY, rfl⟩ := hcut
      rw [← HY.out] at HPL
      clear HY
      go_upto_region 9 with fail
      go_upto_if 19 with fail
      go_cut [4, 5] (fun v s wx => ∃ (z : Nat) (L : List UInt8), v = .int .u8 z ∧ z < 256 ∧ s = .string (txb L) ∧ L.length ≤ 2 ∧ Hid (z = formI dat.length + y ∧ L = lensI dat.length) ∧ Hid (Below wc.heap.size wc wx))
      case first =>
        by_cases hlt : dat.length < 126
        · have e1 : formI dat.length = dat.length := if_pos hlt
          have e2 : lensI dat.length = [] := if_pos hlt
          have q1 : (dat.length : Int) < 126 := by omega
          have hw1 : IntKind.u8.wrap (dat.length : Int) = (dat.length : Int) := by rw [IntKind.wrap_u8]; omega
          have hw2 : IntKind.u8.wrap ((y : Int) + (dat.length : Int)) = ((dat.length + y : Nat) : Int) := by rw [IntKind.wrap_u8]; omega
          have hzz : dat.length + y < 256 := by omega
          have HE : Hid (dat.length + y = formI dat.length + y ∧ [] = lensI dat.length) := ⟨by rw [e1], e2.symm⟩
          clear e1 e2 hlt
          go_wp2_with fail
          go_meet
          case rel => exact ⟨dat.length + y, [], rfl, hzz, rfl, by simp, HE, Below.refl _ _⟩
        · have e1 : formI dat.length = 126 := if_neg hlt
          have e2 : lensI dat.length = be 2 dat.length := if_neg hlt
          have q1 : ¬ (dat.length : Int) < 126 := by omega
          have hw2 : IntKind.u8.wrap ((y : Int) + 126) = ((126 + y : Nat) : Int) := by rw [IntKind.wrap_u8]; omega
          have hnum := inumber_any dat.length 2 (by omega) (by omega)
          have HE : Hid (126 + y = formI dat.length + y ∧ be 2 dat.length = lensI dat.length) := ⟨by rw [e1], e2.symm⟩
          have hbl : (be 2 dat.length).length ≤ 2 := by rw [be_length]; omega
          clear e1 e2 hlt
          generalize be 2 dat.length = L2 at *
          go_wp2_with (go_at_call 23; refine (hnum _).mono ?_; rintro e w' ⟨rfl, hb2⟩)
          go_meet
          case rel => exact ⟨126 + y, L2, rfl, by omega, rfl, hbl, HE, hb2⟩
      case rest =>
        obtain ⟨z, L, rfl, hz, rfl, hLl, HZ, HB2⟩ := hcut
        rw [← HZ.out.1, ← HZ.out.2] at HPL
        have HB3 := Lib.hid (HBx.out.trans (HB2.out.mono (Nat.le_of_lt HSx.out)))
        have HR3 := Lib.hid (HRx.out.below HB2.out HSx.out)
        have HD3 := Lib.hid (HDx.out.below (HB2.out.mono (by have := HSx.out; omega)))
        clear HZ HB2 HBx HRx HDx c0 c1 c2 c3 c4 HSx
        have ht2 := text2I x z hx hz wc
        have hb4 : Below w.heap.size w (wc.alloc (.cells #[.int .u8 (x : Int), .int .u8 (z : Int)] 5)) := HB3.out.alloc HB3.out.size _
        have HB4 := Lib.hid hb4
        have HR4 := Lib.hid (HR3.out.alloc (.cells #[.int .u8 (x : Int), .int .u8 (z : Int)] 5))
        have HD4 := Lib.hid (HD3.out.alloc (Nat.le_trans hB HB3.out.size) (.cells #[.int .u8 (x : Int), .int .u8 (z : Int)] 5))
        have hadd := txb_add [UInt8.ofNat x, UInt8.ofNat z] L (by simp) (by omega)
        obtain ⟨H, hH⟩ : ∃ H, H = [UInt8.ofNat x, UInt8.ofNat z] ++ L := ⟨_, rfl⟩
        have hHl : H.length ≤ 4 := by rw [hH, List.length_append]; simp; omega
        rw [← hH] at hadd HPL
        clear hb4 hH HB3 HR3 HD3
        generalize txb [UInt8.ofNat x, UInt8.ofNat z] = th at *
        go_upto_region 14 with fail
        generalize wc.alloc (.cells #[.int .u8 (x : Int), .int .u8 (z : Int)] 5) = w4 at *
        clear ht2 hadd
        obtain ⟨c0, c1, c2, c3, c4⟩ := pc_cells HR4.out
        have htd := run_text (P := Tryd.prog) (c := c) Tryd.underlying22 Tryd.underlying5 Tryd.underlying9 HD4.out
        cases mask
        · have HP2 : Hid (PL = H ++ dat) := HPL
          have hadd2 := txb_add H dat (by omega) (by omega)
          rw [show ByteArray.mk dat.toArray = txb dat from rfl] at htd
          rw [← HP2.out] at hadd2
          clear HPL HP2
          generalize txb dat = td at *
          generalize txb H = tH at *
          go_wp2_with fail
          go_ret
          exact ⟨rfl, HB4.out⟩
        · have HP2 : Hid (PL = (H ++ be 4 key) ++ turnL key dat) := by show _ = _; rw [HPL.out, List.append_assoc]; rfl
          have hwk : IntKind.u64.wrap (key : Int) = (key : Int) := by rw [IntKind.wrap_u64]; omega
          have hnum := inumber_any key 4 (by omega) (by omega)
          have htu := rturnI_any dat key hkey (by omega)
          have hadd1 := txb_add H (be 4 key) (by omega) (by rw [be_length]; omega)
          have hadd2 := txb_add (H ++ be 4 key) (turnL key dat) (by rw [List.length_append, be_length]; omega) (by rw [turnL_length]; omega)
          have htd' := fun (W : World) (hW : Below w4.heap.size w4 W) => run_text (P := Tryd.prog) (c := c) Tryd.underlying22 Tryd.underlying5 Tryd.underlying9 (HD4.out.below (hW.mono (Nat.le_trans hB HB4.out.size)))
          rw [show ByteArray.mk dat.toArray = txb dat from rfl] at htd htd'
          have HTD : Hid (∀ W, Below w4.heap.size w4 W → W.cell? ⟨w.heap.size, 3, none⟩ = some (.int .u32 key) ∧ W.cell? ⟨w.heap.size, 4, none⟩ = some (.slice A dat.length c) ∧ (convert 22 9 (.slice A dat.length c)).run Tryd.prog W = .ok (.string (txb dat)) W) := fun W hW => by
            obtain ⟨_, _, _, d3, d4⟩ := pc_cells (HR4.out.below hW HR4.out.lt)
            exact ⟨d3, d4, htd' W hW⟩
          rw [← HP2.out] at hadd2
          clear HPL HP2 htd' htd HD4 HR4 c0 c1 c3 c4
          generalize txb dat = td at *
          generalize txb H = tH at *
          generalize txb (H ++ be 4 key) = tHK at *
          generalize txb (be 4 key) = tK at *
          generalize txb (turnL key dat) = tT at *
          obtain ⟨p, hp⟩ : ∃ p, p = w.heap.size := ⟨_, rfl⟩
          have HPP : Hid (w.heap.size = p) := hp.symm
          simp only [← hp] at HTD c2 ⊢
          clear hp
          go_wp2_with fail
          have k4 := HTD.out w4.drew (Below.refl _ _).drew
          have HB5 : Hid (Below w4.heap.size w4 w4.drew) := (Below.refl _ _).drew
          refine wp_region_held_drew (S := fun w' => w'.cell? ⟨p, 3, none⟩ = some (.int .u32 key) ∧ w'.cell? ⟨p, 4, none⟩ = some (.slice A dat.length c) ∧ (convert 22 9 (.slice A dat.length c)).run Tryd.prog w' = .ok (.string td) w') (by kernel_rfl) k4 (fun hHeld => ?_)
          refine wpAnyH_take (i := 0) (v := ?v0) rfl (by kernel_rfl) (by kernel_rfl) (by kernel_rfl) (fun _ _ _ h => h) (Or.inl ⟨by rfl, ?hy0⟩) (by assumption) ?rest0
          case hy0 => (intro w hSw; (try dsimp only at hSw); go_simp <;> with_reducible rfl)
          try simp only [Act.put, List.getElem_toArray, List.getElem_cons_zero, List.setIfInBounds_toArray, List.set_cons_zero, List.set_cons_succ]
          refine wpAnyH_take (i := 1) (v := ?v1) rfl (by kernel_rfl) (by kernel_rfl) (by kernel_rfl) (fun _ _ _ h => h) (Or.inl ⟨by rfl, ?hy1⟩) (by assumption) ?rest1
          case hy1 => (intro w hSw; (try dsimp only at hSw); go_simp <;> with_reducible rfl)
          try simp only [Act.put, List.getElem_toArray, List.getElem_cons_zero, List.getElem_cons_succ, List.setIfInBounds_toArray, List.set_cons_zero, List.set_cons_succ]
          refine wpAnyH_take (i := 2) (v := ?v2) rfl (by kernel_rfl) (by kernel_rfl) (by kernel_rfl) (fun _ _ _ h => h) (Or.inl ⟨by rfl, ?hy2⟩) (by assumption) ?rest2
          case hy2 => (intro w hSw; (try dsimp only at hSw); go_simp <;> with_reducible rfl)
          try simp only [Act.put, List.getElem_toArray, List.getElem_cons_zero, List.getElem_cons_succ, List.setIfInBounds_toArray, List.set_cons_zero, List.set_cons_succ]
          refine wpAnyH_take (i := 3) (v := ?v3) rfl (by kernel_rfl) (by kernel_rfl) (by kernel_rfl) (fun _ _ _ h => h) (Or.inl ⟨by rfl, ?hy3⟩) (by assumption) ?rest3
          case hy3 => (intro w hSw; (try dsimp only at hSw); go_simp <;> with_reducible rfl)
          try simp only [Act.put, List.getElem_toArray, List.getElem_cons_zero, List.getElem_cons_succ, List.setIfInBounds_toArray, List.set_cons_zero, List.set_cons_succ]
          refine wpAnyH_take (i := 6) (v := ?v6) rfl (by kernel_rfl) (by kernel_rfl) (by kernel_rfl) (fun _ _ _ h => h) (Or.inl ⟨by rfl, ?hy6⟩) (by assumption) ?rest6
          case hy6 => (intro w hSw; (try dsimp only at hSw); go_simp <;> with_reducible rfl)
          try simp only [Act.put, List.getElem_toArray, List.getElem_cons_zero, List.getElem_cons_succ, List.setIfInBounds_toArray, List.set_cons_zero, List.set_cons_succ]
          refine wpAnyH_take (i := 7) (v := ?v7) rfl (by kernel_rfl) (by kernel_rfl) (by kernel_rfl) (fun _ _ _ h => h) (Or.inl ⟨by rfl, ?hy7⟩) (by assumption) ?rest7
          case hy7 => (intro w hSw; (try dsimp only at hSw); go_simp <;> with_reducible rfl)
          try simp only [Act.put, List.getElem_toArray, List.getElem_cons_zero, List.getElem_cons_succ, List.setIfInBounds_toArray, List.set_cons_zero, List.set_cons_succ]
          refine wpAnyH_take (i := 8) (v := ?v8) rfl (by kernel_rfl) (by kernel_rfl) (by kernel_rfl) (fun _ _ _ h => h) (Or.inl ⟨by rfl, ?hy8⟩) (by assumption) ?rest8
          case hy8 => (intro w hSw; (try dsimp only at hSw); go_simp <;> with_reducible rfl)
          try simp only [Act.put, List.getElem_toArray, List.getElem_cons_zero, List.getElem_cons_succ, List.setIfInBounds_toArray, List.set_cons_zero, List.set_cons_succ]
          refine wpAnyH_take (i := 9) (v := ?v9) rfl (by kernel_rfl) (by kernel_rfl) (by kernel_rfl) (fun _ _ _ h => h) (Or.inl ⟨by rfl, ?hy9⟩) (by assumption) ?rest9
          case hy9 => (intro w hSw; (try dsimp only at hSw); go_simp <;> with_reducible rfl)
          try simp only [Act.put, List.getElem_toArray, List.getElem_cons_zero, List.getElem_cons_succ, List.setIfInBounds_toArray, List.set_cons_zero, List.set_cons_succ]
          refine wpAnyH_take (i := 10) (v := ?v10) rfl (by kernel_rfl) (by kernel_rfl) (by kernel_rfl) (fun _ _ _ h => h) (Or.inl ⟨by rfl, ?hy10⟩) (by assumption) ?rest10
          case hy10 => (intro w hSw; (try dsimp only at hSw); go_simp <;> with_reducible rfl)
          try simp only [Act.put, List.getElem_toArray, List.getElem_cons_zero, List.getElem_cons_succ, List.setIfInBounds_toArray, List.set_cons_zero, List.set_cons_succ]
          refine wpAnyH_ready (rs := [4]) (by kernel_rfl) (by simp) ?_
          refine AllReadyH.cons rfl (fun K hK => ?_) AllReadyH.nil
          go_simp
          go_at_call 23
          refine (hnum _).mono ?_
          rintro e w5 ⟨rfl, hb5⟩
          have HB6 := Lib.hid (HB5.out.trans (hb5.mono HB5.out.size))
          clear hb5 HB5 k4
          have k5 := HTD.out w5 HB6.out
          refine hK.out _ _ (k5) (fun hHeld => ?_)
          clear hK K
          try simp only [Act.put, List.getElem_toArray, List.getElem_cons_zero, List.getElem_cons_succ, List.setIfInBounds_toArray, List.set_cons_zero, List.set_cons_succ]
          refine wpAnyH_take (i := 5) (v := ?v5q1) rfl (by kernel_rfl) (by kernel_rfl) (by kernel_rfl) (fun _ _ _ h => h) (Or.inl ⟨by rfl, ?hy5q1⟩) (by assumption) ?rest5q1
          case hy5q1 => (intro w hSw; (try dsimp only at hSw); go_simp <;> with_reducible rfl)
          try simp only [Act.put, List.getElem_toArray, List.getElem_cons_zero, List.getElem_cons_succ, List.setIfInBounds_toArray, List.set_cons_zero, List.set_cons_succ]
          refine wpAnyH_ready (rs := [11]) (by kernel_rfl) (by simp) ?_
          refine AllReadyH.cons rfl (fun K hK => ?_) AllReadyH.nil
          go_simp
          go_at_call 24
          refine (htu _).mono ?_
          rintro e w6 ⟨rfl, hb6⟩
          have HB7 := Lib.hid (HB6.out.trans (hb6.mono HB6.out.size))
          clear hb6 HB6 k5
          have k6 := HTD.out w6 HB7.out
          refine hK.out _ _ (k6) (fun hHeld => ?_)
          clear hK K
          try simp only [Act.put, List.getElem_toArray, List.getElem_cons_zero, List.getElem_cons_succ, List.setIfInBounds_toArray, List.set_cons_zero, List.set_cons_succ]
          refine wpAnyH_take (i := 12) (v := ?v12q2) rfl (by kernel_rfl) (by kernel_rfl) (by kernel_rfl) (fun _ _ _ h => h) (Or.inl ⟨by rfl, ?hy12q2⟩) (by assumption) ?rest12q2
          case hy12q2 => (intro w hSw; (try dsimp only at hSw); go_simp <;> with_reducible rfl)
          try simp only [Act.put, List.getElem_toArray, List.getElem_cons_zero, List.getElem_cons_succ, List.setIfInBounds_toArray, List.set_cons_zero, List.set_cons_succ]
          refine wpAnyH_take (i := 13) (v := ?v13q2) rfl (by kernel_rfl) (by kernel_rfl) (by kernel_rfl) (fun _ _ _ h => h) (Or.inl ⟨by rfl, ?hy13q2⟩) (by assumption) ?rest13q2
          case hy13q2 => (intro w hSw; (try dsimp only at hSw); go_simp <;> with_reducible rfl)
          try simp only [Act.put, List.getElem_toArray, List.getElem_cons_zero, List.getElem_cons_succ, List.setIfInBounds_toArray, List.set_cons_zero, List.set_cons_succ]
          refine wpAnyH_done (by kernel_rfl) ?_ _
          go_wp2_with fail
          go_ret
          exact ⟨rfl, HB4.out.trans (HB7.out.mono HB4.out.size)⟩
end Go.Proofs.YtejlbgllfkfkfaaDoor
