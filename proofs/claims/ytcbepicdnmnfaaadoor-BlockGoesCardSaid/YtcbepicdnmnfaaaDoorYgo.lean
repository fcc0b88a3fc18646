/-
  BlockGoes: the law's walk. Conditions: the rows of bytes are read; errors.errorType as the program's text lays it.
-/
import Derived.Test.YtcbepicdnmnfaaaDoorYgm
import Derived.BigGuard
namespace Go.Proofs.YtcbepicdnmnfaaaDoor
open Go.RowKit Go.WideShapes

theorem ft_zero (W : World) : (binOp .neq 36 (.agg (ftb 0)) (.agg #[.int .u8 0, .int .u32 0])).run Tryd.prog W = .ok (.bool false) W := by
  have := ft_neq 0 0 0 0 W
  simp only [decide_true, Bool.and_self, Bool.not_true] at this
  exact this
theorem ft_zero' (W : World) : (binOp .neq 36 (.agg #[.int .u8 0, .int .u32 0]) (.agg #[.int .u8 0, .int .u32 0])).run Tryd.prog W = .ok (.bool false) W := ft_zero W
theorem ftb_at0 : (ftb 0)[0]? = some (.int .u8 0) := rfl
theorem ftb_at1 : (ftb 0)[1]? = some (.int .u32 0) := rfl
attribute [local irreducible] Fm.c whc ftc ftb gac
set_option maxRecDepth 100000 in
set_option maxHeartbeats 4000000 in
theorem goes_early {w : World} {A0 : Option Addr} {n0 c0 : Nat} (m : Nat) (x : Fm) (hG : GlobE w) (h : 20 < n0 ∨ x.ty = 1 ∨ x.ty = 9) :
    Calls Tryd.prog 5 #[.slice A0 n0 c0, .int .u8 m, .agg x.c] w fun e w' => e = .returned (.bool true) ∧ Below w.heap.size w w' := by
  have HX : Hid (Row (w.alloc (.cells x.c 32)) w.heap.size 32 x.c) := Row.new w _ _
  have HB : Hid (Below w.heap.size w (w.alloc (.cells x.c 32))) := (Below.refl _ _).alloc (Nat.le_refl _) _
  have HG := Lib.hid (hG.below HB.out)
  obtain ⟨x0, _⟩ := fm_cells HX.out
  clear hG
  by_cases h20 : 20 < n0
  · have n20 : (20 : Int) < (n0 : Int) := by omega
    clear h h20
    go_enter Tryd.func5, Tryd.ntmps5
    go_upto_region 1 with fail
    generalize w.alloc (.cells x.c 32) = w1 at *
    go_wp2_with fail
    refine (fixed_any HG.out).mono ?_
    rintro e w2 ⟨rfl, hb⟩
    have HB2 := Lib.hid (HB.out.trans (hb.mono HB.out.size))
    clear hb
    go_wp2_with fail
    go_ret
    exact ⟨rfl, HB2.out⟩
  have n20 : decide ((20 : Int) < (n0 : Int)) = false := decide_eq_false (by omega)
  by_cases h1 : x.ty = 1
  · have e1 : ((x.ty : Int) == 1) = true := by rw [h1]; rfl
    clear h h20 h1
    go_enter Tryd.func5, Tryd.ntmps5
    go_upto_region 1 with fail
    generalize w.alloc (.cells x.c 32) = w1 at *
    go_wp2_with fail
    refine (fixed_any HG.out).mono ?_
    rintro e w2 ⟨rfl, hb⟩
    have HB2 := Lib.hid (HB.out.trans (hb.mono HB.out.size))
    clear hb
    go_wp2_with fail
    go_ret
    exact ⟨rfl, HB2.out⟩
  have h9 : x.ty = 9 := by omega
  have e1 : ((x.ty : Int) == 1) = false := by rw [h9]; rfl
  have e9 : ((x.ty : Int) == 9) = true := by rw [h9]; rfl
  clear h h20 h1 h9
  go_enter Tryd.func5, Tryd.ntmps5
  go_upto_region 1 with fail
  generalize w.alloc (.cells x.c 32) = w1 at *
  go_wp2_with fail
  refine (fixed_any HG.out).mono ?_
  rintro e w2 ⟨rfl, hb⟩
  have HB2 := Lib.hid (HB.out.trans (hb.mono HB.out.size))
  clear hb
  go_wp2_with fail
  go_ret
  exact ⟨rfl, HB2.out⟩
set_option maxRecDepth 100000 in
set_option maxHeartbeats 16000000 in
theorem goes_law {w : World} {A0 : Option Addr} {c0 : Nat} {L : List (Hd w UInt8 byv)} (hR : RdS w (· < w.heap.size) A0 (enl hdc L)) (m : Nat) (hm : m < 256) (x : Fm) (hxf : x.fl < 256) (hG : GlobE w) :
    Calls Tryd.prog 5 #[.slice A0 L.length c0, .int .u8 m, .agg x.c] w fun e w' => e = .returned (.bool true) ∧ Below w.heap.size w w' := by
  by_cases hearly : 20 < L.length ∨ x.ty = 1 ∨ x.ty = 9
  · exact goes_early m x hG hearly
  have h20 : L.length ≤ 20 := by omega
  have n20 : decide ((20 : Int) < (L.length : Int)) = false := decide_eq_false (by omega)
  have e1 : ((x.ty : Int) == 1) = false := ne_f (by omega)
  have e9 : ((x.ty : Int) == 9) = false := ne_f (by omega)
  have HTY : Hid (x.ty ≠ 1 ∧ x.ty ≠ 9) := by show _ ∧ _; omega
  have HXF := Lib.hid hxf
  have HM := Lib.hid hm
  have HR := Lib.hid hR
  have HX : Hid (Row (w.alloc (.cells x.c 32)) w.heap.size 32 x.c) := Row.new w _ _
  have HB1 : Hid (Below w.heap.size w (w.alloc (.cells x.c 32))) := (Below.refl _ _).alloc (Nat.le_refl _) _
  have HG := Lib.hid (hG.below HB1.out)
  have HS1 : Hid ((w.alloc (.cells x.c 32)).heap.size = w.heap.size + 1) := by show _ = _; simp
  obtain ⟨x0, _⟩ := fm_cells HX.out
  clear hearly hxf hm hR hG
  go_enter Tryd.func5, Tryd.ntmps5
  go_upto_region 1 with fail
  generalize w.alloc (.cells x.c 32) = w1 at *
  go_wp2_with fail
  clear n20 e1 e9 x0
  refine (bnew_any HG.out).mono ?_
  rintro e w2 ⟨rfl, hga, hb2⟩
  have HA2 := Lib.hid hga
  have HB2 := Lib.hid hb2
  clear hga hb2
  generalize hp : w1.heap.size = p at *
  have HP := Lib.hid hp
  clear hp
  go_upto_region 5 with fail
  go_loopw [36] (fun i wr => ∃ (k : Nat) (o : Option Nat), k ≤ L.length ∧ i = .int .i64 k ∧ Hid (Ga wr p p gm0 none 0 o) ∧ Hid (Below p w1 wr))
    (fun i _ => L.length - (intOf i).toNat)
  case atStart => exact ⟨0, none, Nat.zero_le _, rfl, HA2, HB2⟩
  case round =>
    obtain ⟨k, o, hk, rfl, HA, HB⟩ := hrel
    clear HA2 HB2
    by_cases hlt : k < L.length
    · have HRr : Hid (RdS wr (· < w.heap.size) A0 (enl hdc L)) := (HR.out.keep fun j hj => HB1.out.block j hj).keep fun j hj => HB.out.block j (by have := HS1.out; omega)
      obtain ⟨bb, q, rfl, -, hcell⟩ := HRr.out.head hlt
      have hok := L[k].ok
      generalize L[k] = e at *
      have HD1 : Hid (RdB w1 p e.at_ e.els) := by
        have := hok.2.2
        rw [byv_enl] at this
        exact (RdB.ofS (this.keep fun j hj => HB1.out.block j hj) (fun j hj _ => by have := HS1.out; omega))
      have HD : Hid (RdB wr p e.at_ e.els) := HD1.out.below HB.out
      have HRM : Hid (e.els.length ≤ e.room) := hok.1
      have k0 : (0 : Int) ≤ (k : Int) := by omega
      have k1 : (k : Int) < (L.length : Int) := by omega
      clear HRr hok
      by_cases h3 : 300 < e.els.length
      · have n3 : (300 : Int) < (e.els.length : Int) := by omega
        have HGr : Hid (GlobE wr) := HG.out.below (by rw [HP.out]; exact HB.out)
        have HBB : Hid (Below w.heap.size w wr) := HB1.out.trans (HB.out.mono (by have := HS1.out; omega))
        have HSW : Hid (w.heap.size ≤ wr.heap.size) := HBB.out.size
        clear h3 HA HB HD HD1 HRM
        go_wp2_with fail
        refine (fixed_any HGr.out).mono ?_
        rintro e' w4 ⟨rfl, hb⟩
        have HB4 := Lib.hid (HBB.out.trans (hb.mono HSW.out))
        clear hb HBB HGr
        go_wp2_with fail
        go_ret
        exact ⟨rfl, HB4.out⟩
      have n3 : decide ((300 : Int) < (e.els.length : Int)) = false := decide_eq_false (by omega)
      have H3 : Hid (e.els.length ≤ 300) := by show _ ≤ _; omega
      clear h3
      obtain ⟨z, hz⟩ : ∃ z : Nat, z = k % 2 := ⟨_, rfl⟩
      have hkm : ((k : Nat) : Int).tmod 2 = (z : Int) := by rw [Int.tmod_eq_emod_of_nonneg (by omega)]; omega
      have hzw : IntKind.i64.wrap (z : Int) = (z : Int) := IntWalk.i64_in _ (by omega)
      obtain ⟨en, hze⟩ : ∃ en, ((z : Int) == 0) = en := ⟨_, rfl⟩
      have hwk : IntKind.u32.wrap (k : Int) = (k : Int) := IntWalk.u32_in _ (by omega)
      have hm256 := HM.out
      have hwm : IntKind.i64.wrap (m : Int) = (m : Int) := IntWalk.i64_in _ (by omega)
      obtain ⟨n, hn⟩ : ∃ n : Nat, n = 20 + m := ⟨_, rfl⟩
      have hwn : IntKind.i64.wrap (20 + (m : Int)) = (n : Int) := by rw [IntWalk.i64_in _ (by omega)]; omega
      have HN : Hid (20 ≤ n ∧ n ≤ 16384) := by show _ ∧ _; omega
      have HCU := Lib.hid (cut_any (st := k) (n := n) (en := en) (HD.out.more (B' := wr.heap.size) (Nat.le_of_lt HA.out.lts.1)) HRM.out (by have := H3.out; omega) ⟨by have := HN.out; omega, HN.out.2⟩ (by omega))
      have HK20 : Hid (k < 20) := by show k < 20; omega
      have HZ : Hid (((k : Nat) : Int).tmod 2 = (z : Int) ∧ IntKind.i64.wrap (z : Int) = (z : Int) ∧ ((z : Int) == 0) = en ∧ IntKind.u32.wrap (k : Int) = (k : Int)) := ⟨hkm, hzw, hze, hwk⟩
      clear hz hn hm256
      go_wp2_with (refine wpList_build_is rfl 34 _ rfl (whc k e.at_ e.els.length e.room en) (by kernel_rfl) ?_)
      refine HCU.out.mono ?_
      rintro e' w5 ⟨⟨v, E, rfl, hfl, hcp⟩, hb5⟩
      obtain ⟨Af, cf, rfl, -, -⟩ := OwS.shape hfl.own
      have HFU := Lib.hid hfl.up
      obtain ⟨K, hK1, hK2, hK3, hK4⟩ := hcp
      have HK4 := Lib.hid hK4
      have HKK : Hid (E.length = K + 1 ∧ K * n ≤ e.els.length ∧ e.els.length ≤ (K + 1) * n) := ⟨hK1, hK2, hK3⟩
      have HA5 := Lib.hid (HA.out.below hb5)
      have HB5 : Hid (Below p w1 w5) := HB.out.trans (hb5.mono (Nat.le_of_lt HA.out.lts.1))
      have HBA : Hid (p < wr.heap.size) := HA.out.lts.1
      have HEL : Hid (E.length ≤ 16) := by
        have := go_few HN.out.1 H3.out hK2
        show _ ≤ _
        omega
      clear hfl hK1 hK2 hK3 hK4 hb5 HA HB HCU hkm hzw hze hwk hwm hwn n3 hcell HD
      go_upto_region 11 with fail
      generalize hbs : wr.heap.size = bs at *
      clear hbs
      generalize hsc : w5.heap.size = sc at *
      have HSC := Lib.hid hsc
      clear hsc
      go_loopw [57, 10] (fun iv gv wr => ∃ (j : Nat) (M : Gm) (A : Option Addr) (c : Nat) (o : Option Nat) (got : Bool), j ≤ E.length ∧ iv = .int .i64 j ∧ gv = .bool got ∧ Hid (j < E.length ∧ M = stJ n e.els k en j ∧ got = false ∨ j = E.length ∧ M = gm0 ∧ got = true) ∧
          Hid (Ga wr p p M A c o) ∧ Hid (FrU wr bs sc (.slice Af E.length cf) E) ∧ Hid (∀ i, ob (.slice A M.blk.length c) i → sc ≤ i) ∧ Hid (Below p w1 wr))
        (fun iv _ _ => E.length - (intOf iv).toNat)
      case atStart => exact ⟨0, gm0, none, 0, o, false, Nat.zero_le _, rfl, rfl, .inl ⟨by rw [HKK.out.1]; omega, rfl, rfl⟩, HA5, HFU, fun i hi => by simp [ob, Value.ownBlock] at hi, HB5⟩
      case round =>
        obtain ⟨j, M, A, c, o, got, hj, rfl, rfl, HW, HA, HFR, HOB, HB⟩ := hrel
        clear HA5 HFU HB5
        by_cases hje : j < E.length
        · obtain ⟨hM, hgot⟩ : M = stJ n e.els k en j ∧ got = false := by
            rcases HW.out with h | h
            · exact h.2
            · exact absurd h.1 (by omega)
          subst hM hgot
          obtain ⟨b2, q2, rfl, hrg⟩ := HFR.out.elem hje
          have hin := HFR.out.ins E[j] (List.getElem_mem hje)
          have hkey := HK4.out j hje
          have hfd : E[j].x.fl < 256 := E[j].hfl
          have hdn : E[j].x.dn = E[j].d.length := E[j].hd
          generalize E[j] = f at *
          have HRG : Hid (wr.rangeAt b2 (q2 + j * 11) f.x.c.toList) := hrg
          have HIN := Lib.hid hin
          have HFD : Hid (f.x.fl < 256 ∧ f.x.dn = f.d.length) := ⟨hfd, hdn⟩
          -- what Take comes to
          obtain ⟨M2, ok, W, hR, hst⟩ : ∃ M2 ok W, gtk (stJ n e.els k en j) f.x.ty f.x.fl f.x.st f.d = (M2, ok, W) ∧ ((ok = false ∧ j + 1 < E.length ∧ M2 = stJ n e.els k en (j + 1)) ∨ (ok = true ∧ j + 1 = E.length ∧ M2 = gm0 ∧ W = stW e.els k en K)) := by
            have h1 : f.x.ty = (cuF n e.els k en K j).1 := congrArg (·.1) hkey
            have h2 : f.x.fl = (cuF n e.els k en K j).2.1 := congrArg (·.2.1) hkey
            have h3 : f.x.st = (cuF n e.els k en K j).2.2.1 := congrArg (·.2.2.1) hkey
            have h4 : f.d = (cuF n e.els k en K j).2.2.2 := congrArg (·.2.2.2) hkey
            rw [h1, h2, h3, h4]
            by_cases hjk : j < K
            · exact ⟨_, _, _, go_step HN.out.1 H3.out HKK.out.2.1 hjk, .inl ⟨rfl, by rw [HKK.out.1]; omega, rfl⟩⟩
            · have hjk : j = K := by have := HKK.out.1; omega
              subst hjk
              exact ⟨_, _, _, go_last HN.out.1 H3.out HKK.out.2.1, .inr ⟨rfl, by rw [HKK.out.1], rfl, rfl⟩⟩
          have HST := Lib.hid hst
          have HDL : Hid (f.d.length ≤ 1000000000) := by
            have h4 : f.d = (cuF n e.els k en K j).2.2.2 := congrArg (·.2.2.2) hkey
            have hb := H3.out
            show _ ≤ _
            rw [h4]
            unfold cuF cuG
            split
            · simp only [List.length_drop]; omega
            · simp only [List.length_take, List.length_drop]; omega
          have HRR := Lib.hid hR
          have HBAD : Hid (M2.bad = 0) := by
            rcases hst with h | h
            · rw [h.2.2, stJ_succ]; rfl
            · rw [h.2.2.1]; rfl
          clear hrg hin hkey hfd hdn hst hR HW
          have j0 : (0 : Int) ≤ (j : Int) := by omega
          have j1 : (j : Int) < (E.length : Int) := by omega
          obtain ⟨w6, hw6, t1, t2, t3, t4⟩ := one_fm wr f.x
          have T7 := Lib.hid hw6
          have T1 := Lib.hid t1
          have RF := Lib.hid t2
          have HA6 := Lib.hid (HA.out.below t3)
          have HFR6 := Lib.hid (HFR.out.below t3)
          have HB6 : Hid (Below p w1 w6) := HB.out.trans (t3.mono (Nat.le_of_lt HA.out.lts.1))
          have HIN6 : Hid (RdS w6 (fun i => bs ≤ i ∧ i < sc) f.x.dA (byc f.d)) := HIN.out.keep fun i hi => t3.block i (Nat.lt_of_lt_of_le hi.2 HFR.out.le)
          clear hw6 t1 t2 t3 t4 HIN
          go_upto_region 13 with (first | (refine wpList_ldm (cs := f.x.c) rfl _ rfl rfl HRG.out (fm_ok _) ?_) | (refine wpList_sw (cs := f.x.c) rfl _ _ rfl rfl rfl T1.out (fm_sz _ _) (fm_ok _) ?_))
          rw [T7.out]
          clear T7 T1 HA HFR HB HRG
          generalize wr.heap.size = pf at *
          have HG6 : Hid (GlobE w6) := HG.out.below (by rw [HP.out]; exact HB6.out)
          have HTK : Hid (Calls Tryd.prog 8 #[.pointer (some ⟨p, 0, none⟩), .agg f.x.c] w6 (TakeP w6 p p (.slice A (stJ n e.els k en j).blk.length c) (M2, ok, W))) := by
            have := tk_any HA6.out HG6.out f.x f.d HFD.out.1 (fun _ => ⟨HFD.out.2, HDL.out, HIN6.out.imp (fun i hi _ => by have := HBA.out; omega)⟩)
            rw [HRR.out] at this
            exact this
          clear HRR HG6 HIN6
          go_wp2_with (refine wpList_fm rfl _ rfl rfl RF.out ?_)
          refine HTK.out.mono ?_
          rintro e' w7 ⟨A', c', he', hf, hbo, hnx, hnil, A2, c2, o2, hga, hn2⟩
          have he2 : e' = .returned (.tuple #[.agg (whc W.st A' W.blk.length c' W.en), .bool ok, .agg (ftb 0)]) := by
            rw [he']
            simp only
            rw [HBAD.out]
          subst he2
          have HA7 : Hid (Ga w7 p p M2 A2 c2 o2) := hga
          have HBO7 : Hid (Bo w7 p 5 (.slice A' W.blk.length c') W.blk) := hbo
          have HB7 : Hid (Below p w1 w7) := HA6.out.fsb HB6.out (by have := HP.out; omega) hf
          have HFR7 : Hid (FrU w7 bs sc (.slice (some ⟨b2, q2, none⟩) E.length cf) E) := HFR6.out.fs hf (fun i h1 h2 h => by
            rcases h with h | h
            · have := HBA.out; omega
            · have := HOB.out i h; omega)
          have HOB7 : Hid (∀ i, ob (.slice A2 M2.blk.length c2) i → sc ≤ i) := fun i hi => by
            rcases hn2.own hi with h | h
            · exact HOB.out i h
            · have := HFR6.out.le; omega
          clear he' hf hbo hnx hnil hga hn2 HTK HA6 HB6 HFR6 HOB RF
          obtain ⟨w8, hw8, t1, t2, t3, t4, t5, t6⟩ := tk_two w7 W.st A' W.blk.length c' W.en 0
          have T7 := Lib.hid hw8
          have T1 := Lib.hid t1
          have T2 := Lib.hid t2
          have RW8 := Lib.hid t3
          have RB8 := Lib.hid t4
          have HA8 := Lib.hid (HA7.out.below t5)
          have HBO8 : Hid (Bo w8 p 5 (.slice A' W.blk.length c') W.blk) := OwS.below HBO7.out t5
          have HFR8 := Lib.hid (HFR7.out.below t5)
          have HB8 : Hid (Below p w1 w8) := HB7.out.trans (t5.mono (Nat.le_of_lt HA7.out.lts.1))
          clear hw8 t1 t2 t3 t4 t5 t6 HA7 HBO7 HFR7 HB7
          go_upto_region 14 with (first | (refine wpList_sw (cs := whc W.st A' W.blk.length c' W.en) rfl _ _ rfl rfl rfl T1.out (wh_sz _ _ _ _ _ _ _ _ _ _) (wh_ok _ _ _ _ _) ?_) | (refine wpList_sw (cs := ftb 0) rfl _ _ rfl rfl rfl T2.out (ftb_sz _) (ftb_ok _) ?_))
          rw [T7.out]
          clear T7 T1 T2
          generalize w7.heap.size = pw at *
          have hz0 := ft_zero
          rcases HST.out with ⟨rfl, hj1, rfl⟩ | ⟨rfl, hj1, rfl, rfl⟩
          · have HJ1 := Lib.hid hj1
            have hE16 := HEL.out
            clear HST hj1
            clear HK4 HKK HEL HN HBA HSC HR HX HB1 HG HS1 HP HTY HXF HM HRM HD1 h20 H3 HK20 HZ k0 k1 hk hlt HBAD HDL HFD
            have b0 : w8.cell? ⟨pw + 1, 0, none⟩ = some (.int .u8 0) := RB8.out.cell ftb_at0
            have b1 : w8.cell? ⟨pw + 1, 1, none⟩ = some (.int .u32 0) := RB8.out.cell ftb_at1
            have hz1 := ft_zero'
            clear hz0 RB8 RW8 HBO8
            go_wp2_with fail
            go_roundw
            case rel => exact ⟨j + 1, _, A2, c2, o2, false, by omega, by go_num, rfl, .inl ⟨HJ1.out, rfl, rfl⟩, HA8, HFR8, HOB7, HB8⟩
            case measure => simp [intOf]; omega
          · have HJ1 := Lib.hid hj1
            clear HST hj1
            obtain ⟨hkm, hzw, hze, hwk⟩ := HZ.out
            have RW9 : Row w8 pw 34 (whc k A' e.els.length c' en) := RW8.out
            obtain ⟨a0, a1, a2⟩ := wh_cells RW9
            have ht1 : (convert 29 9 (.slice A' e.els.length c')).run Tryd.prog w8 = .ok (.string (tb e.els)) w8 := run_text Tryd.underlying29 Tryd.underlying5 Tryd.underlying9 (Bo.reads (show Bo w8 p 5 (.slice A' e.els.length c') e.els from HBO8.out))
            have ht2 : (convert 29 9 (.slice e.at_ e.els.length e.room)).run Tryd.prog w8 = .ok (.string (tb e.els)) w8 := run_text Tryd.underlying29 Tryd.underlying5 Tryd.underlying9 (HD1.out.below HB8.out)
            have e2 : ((tb e.els).toList != (tb e.els).toList) = false := by simp
            have e3 : (((k : Nat) : Int) != ((k : Nat) : Int)) = false := by simp
            have e4 : (en != en) = false := by simp
            have hE16 := HEL.out
            clear RW9
            clear HK4 HKK HEL HN HBA HSC HR HX HB1 HG HS1 HP HTY HXF HM HRM HD1 h20 H3 HK20 HZ k0 k1 hk hlt HBAD HDL HFD
            have b0 : w8.cell? ⟨pw + 1, 0, none⟩ = some (.int .u8 0) := RB8.out.cell ftb_at0
            have b1 : w8.cell? ⟨pw + 1, 1, none⟩ = some (.int .u32 0) := RB8.out.cell ftb_at1
            have hz1 := ft_zero'
            clear hz0 RB8 RW8 HBO8
            go_wp2_with fail
            go_roundw
            case rel => exact ⟨j + 1, _, A2, c2, o2, true, by have := HJ1.out; omega, by go_num, rfl, .inr ⟨HJ1.out, rfl, rfl⟩, HA8, HFR8, HOB7, HB8⟩
            case measure => simp [intOf]; omega
        · obtain ⟨hje', hM, hgot⟩ : j = E.length ∧ M = gm0 ∧ got = true := by
            rcases HW.out with h | h
            · exact absurd h.1 hje
            · exact h
          subst hM hgot
          obtain ⟨rfl, rfl, -⟩ := HA.out.idle_nil rfl
          have hje2 : decide (j < E.length) = false := decide_eq_false (by omega)
          have HBY : Hid (Calls Tryd.prog 11 #[.pointer (some ⟨p, 0, none⟩)] wr fun e w' => e = .returned (.bool false) ∧ w' = wr) := busy_cell HA.out.cells.2.2.2.1
          have HHL : Hid (Calls Tryd.prog 12 #[.pointer (some ⟨p, 0, none⟩)] wr fun e w' => e = .returned (.int .i64 0) ∧ w' = wr) := bheld_cell HA.out.cells.2.1
          have RX : Hid (Row wr w.heap.size 32 x.c) := HX.out.below HB.out (by have := HS1.out; omega)
          have HGr : Hid (GlobE wr) := HG.out.below (by rw [HP.out]; exact HB.out)
          have HTK : Hid (Calls Tryd.prog 8 #[.pointer (some ⟨p, 0, none⟩), .agg x.c] wr (TakeP wr p p (.slice none gm0.blk.length 0) (gm0, false, gm0))) := by
            have := tk_any HA.out HGr.out x [] HXF.out (fun h => absurd h (by have := HTY.out; omega))
            rw [gtk_pass rfl rfl HTY.out.1 HTY.out.2] at this
            exact this
          have HPP : Hid (p ≤ w1.heap.size) := by show p ≤ _; rw [HP.out]; omega
          clear HW hje hje' HK4 HKK HEL HN HBA HSC HR HX HB1 HG HS1 HP HTY HXF HM HRM HD1 H3 HK20 HZ HFR HOB HGr
          go_wp2_with fail
          refine HBY.out.mono ?_
          rintro e' w6 ⟨rfl, rfl⟩
          go_wp2_with fail
          refine HHL.out.mono ?_
          rintro e' w6 ⟨rfl, rfl⟩
          clear HBY HHL
          go_wp2_with (refine wpList_fm rfl _ rfl rfl RX.out ?_)
          refine HTK.out.mono ?_
          rintro e' w7 ⟨A', c', he', hf, hbo, hnx, hnil, A2, c2, o2, hga, hn2⟩
          obtain ⟨rfl, rfl⟩ := hnil rfl
          have he2 : e' = .returned (.tuple #[.agg (whc 0 none 0 0 false), .bool false, .agg (ftb 0)]) := he'
          subst he2
          have hga' : Ga w7 p p gm0 A2 c2 o2 := hga
          obtain ⟨rfl, rfl, -⟩ := hga'.idle_nil rfl
          have HA7 := Lib.hid hga'
          have HB7 : Hid (Below p w1 w7) := HA.out.fsb HB.out HPP.out hf
          clear he' hf hbo hnx hnil hga hga' hn2 HTK HA HB RX
          obtain ⟨w8, hw8, t1, t2, t3, t4, t5, t6⟩ := tk_two w7 0 none 0 0 false 0
          have T7 := Lib.hid hw8
          have T1 := Lib.hid t1
          have T2 := Lib.hid t2
          have RB8 := Lib.hid t4
          have HA8 := Lib.hid (HA7.out.below t5)
          have HB8 : Hid (Below p w1 w8) := HB7.out.trans (t5.mono (Nat.le_of_lt HA7.out.lts.1))
          clear hw8 t1 t2 t3 t4 t5 t6 HA7 HB7
          go_upto_region 21 with (first | (refine wpList_sw (cs := whc 0 none 0 0 false) rfl _ _ rfl rfl rfl T1.out (wh_sz _ _ _ _ _ _ _ _ _ _) (wh_ok _ _ _ _ _) ?_) | (refine wpList_sw (cs := ftb 0) rfl _ _ rfl rfl rfl T2.out (ftb_sz _) (ftb_ok _) ?_))
          rw [T7.out]
          clear T7 T1 T2
          generalize w7.heap.size = pw at *
          have b0 : w8.cell? ⟨pw + 1, 0, none⟩ = some (.int .u8 0) := RB8.out.cell ftb_at0
          have b1 : w8.cell? ⟨pw + 1, 1, none⟩ = some (.int .u32 0) := RB8.out.cell ftb_at1
          have hz1 := ft_zero'
          clear RB8
          go_wp2_with fail
          go_roundw
          case rel => exact ⟨k + 1, o2, by omega, by go_num, HA8, HB8⟩
          case measure => simp [intOf]; omega
    · have HGr : Hid (GlobE wr) := HG.out.below (by rw [HP.out]; exact HB.out)
      have HBB : Hid (Below w.heap.size w wr) := HB1.out.trans (HB.out.mono (by have := HS1.out; omega))
      have HSW : Hid (w.heap.size ≤ wr.heap.size) := HBB.out.size
      clear HA HB
      go_wp2_with fail
      refine (fixed_any HGr.out).mono ?_
      rintro e' w4 ⟨rfl, hb⟩
      have HB4 := Lib.hid (HBB.out.trans (hb.mono HSW.out))
      clear hb HBB HGr
      go_wp2_with fail
      go_ret
      exact ⟨rfl, HB4.out⟩
end Go.Proofs.YtcbepicdnmnfaaaDoor
