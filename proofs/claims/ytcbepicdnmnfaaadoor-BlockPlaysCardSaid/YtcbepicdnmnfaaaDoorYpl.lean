/-
  BlockPlays: the law's walk. Conditions: the frames are read; errors.errorType as the program's text lays it.
-/
import Derived.Test.YtcbepicdnmnfaaaDoorYps
namespace Go.Proofs.YtcbepicdnmnfaaaDoor
open Go.RowKit Go.WideShapes

attribute [local irreducible] Fm.c whc ftc ftb gac rgc
set_option maxRecDepth 100000 in
set_option maxHeartbeats 16000000 in
theorem plays_law {w : World} {A0 : Option Addr} {c0 : Nat} {L : List Be} (hR : RdS w (· < w.heap.size) A0 (enl bec L)) (hE : ∀ e ∈ L, RdB w w.heap.size e.x.dA e.d) (hG : GlobE w) :
    Calls Tryd.prog 3 #[.slice A0 L.length c0] w fun e w' => e = .returned (.bool true) ∧ Below w.heap.size w w' := by
  have HR := Lib.hid hR
  have HE := Lib.hid hE
  have HG := Lib.hid hG
  clear hR hE hG
  by_cases hlen : 100 < L.length
  · have h' : (100 : Int) < (L.length : Int) := by omega
    clear HR HE hlen
    go_enter Tryd.func3, Tryd.ntmps3
    go_wp2_with fail
    refine (fixed_any HG.out).mono ?_
    rintro e w1 ⟨rfl, hb⟩
    have HB2 := Lib.hid hb
    clear hb
    go_wp2
    go_ret
    exact ⟨rfl, HB2.out⟩
  have h' : decide ((100 : Int) < (L.length : Int)) = false := by simp; omega
  have h100 : L.length ≤ 100 := by omega
  clear hlen
  go_enter Tryd.func3, Tryd.ntmps3
  go_wp2_with fail
  refine (bnew_any HG.out).mono ?_
  rintro e w1 ⟨rfl, hga, hb1⟩
  clear h'
  obtain ⟨w2, hw2, u1, u2, u3⟩ := r_none w1
  have U7 := Lib.hid hw2
  have U1 := Lib.hid u1
  have RM2 := Lib.hid u2
  have HA2 := Lib.hid (hga.below u3)
  have HB2 := Lib.hid (hb1.trans (u3.mono hb1.size))
  have HPM : Hid (w.heap.size ≤ w1.heap.size) := hb1.size
  clear hga hb1 hw2 u1 u2 u3
  go_upto_region 5 with (first | (refine wpList_build_is rfl 28 _ rfl (rgc gm0) (by kernel_rfl) ?_) | (refine wpList_sw (cs := rgc gm0) rfl _ _ rfl rfl rfl U1.out (rg_sz _ _) (rg_ok _) ?_))
  rw [U7.out]
  clear U7 U1
  generalize w1.heap.size = pm at *
  generalize hp : w.heap.size = p at *
  have HP := Lib.hid hp
  clear hp
  go_upto_region 6 with fail
  go_loopw [22] (fun i wr => ∃ (k : Nat) (M : Gm) (A : Option Addr) (c : Nat) (o : Option Nat), k ≤ L.length ∧ i = .int .i64 k ∧ Hid (Ga wr p p M A c o) ∧ Hid (Row wr pm 28 (rgc M)) ∧ Hid (Below p w wr))
    (fun i _ => L.length - (intOf i).toNat)
  case atStart => exact ⟨0, gm0, none, 0, none, Nat.zero_le _, rfl, HA2, RM2, HB2⟩
  case round =>
    obtain ⟨k, M, A, c, o, hk, rfl, HA, RM, HB⟩ := hrel
    clear HA2 RM2 HB2
    have HGr : Hid (GlobE wr) := HG.out.below (by rw [HP.out]; exact HB.out)
    by_cases hlt : k < L.length
    · have hrr : RdS wr (· < p) A0 (enl bec L) := HR.out.below HB.out
      obtain ⟨bb, q, rfl, hb, hrg⟩ := hrr.elem bec_len hlt (by omega)
      have hmem : L[k] ∈ L := List.getElem_mem hlt
      have HDe : Hid (RdB wr p L[k].x.dA L[k].d) := (HE.out _ (List.getElem_mem hlt)).below HB.out
      generalize L[k] = e at *
      have HRG : Hid (wr.rangeAt bb (q + k * 11) e.x.c.toList) := hrg
      have k0 : (0 : Int) ≤ (k : Int) := by omega
      have k1 : (k : Int) < (L.length : Int) := by omega
      obtain ⟨w3, hw3, t1, t2, t3, t4⟩ := one_fm wr e.x
      have T7 := Lib.hid hw3
      have T1 := Lib.hid t1
      have RF := Lib.hid t2
      have HA3 := Lib.hid (HA.out.below t3)
      have RM3 := Lib.hid (RM.out.below t3 RM.out.lt)
      have HB3 : Hid (Below p w w3) := HB.out.trans (t3.mono (Nat.le_of_lt HA.out.lts.1))
      have HD3 : Hid (RdB w3 p e.x.dA e.d) := HDe.out.below (t3.mono (Nat.le_of_lt HA.out.lts.1))
      have HLT : Hid ((∀ j, ob (.slice A M.blk.length c) j → j < wr.heap.size) ∧ p < wr.heap.size) := ⟨fun j hj => (HA.out.lts.2.1 j hj).2, HA.out.lts.1⟩
      have HS3 : Hid (w3.heap.size = wr.heap.size + 1) := t4
      have HOE : Hid (∀ j, o = some j → j < wr.heap.size) := fun j hj => HA.out.lts.2.2 j hj
      have HPL : Hid (pm < wr.heap.size) := RM.out.lt
      clear hw3 t1 t2 t3 t4 hrg hrr hb HDe HGr
      go_upto_region 8 with (first | (refine wpList_ldm (cs := e.x.c) rfl _ rfl rfl HRG.out (fm_ok _) ?_) | (refine wpList_sw (cs := e.x.c) rfl _ _ rfl rfl rfl T1.out (fm_sz _ _) (fm_ok _) ?_))
      rw [T7.out]
      clear T7 T1 HA RM HB HRG
      generalize hpf : wr.heap.size = pf at *
      have HPF := Lib.hid hpf
      clear hpf
      obtain ⟨_, _, _, x3, _⟩ := fm_cells RF.out
      have HDN := Lib.hid e.hd
      by_cases h9 : 9000 < e.x.dn
      · have n9 : (9000 : Int) < (e.x.dn : Int) := by omega
        have HG3 : Hid (GlobE w3) := HG.out.below (by rw [HP.out]; exact HB3.out)
        clear h9 HA3 RM3 HD3 HDN RF
        go_wp2_with fail
        refine (fixed_any HG3.out).mono ?_
        rintro e' w4 ⟨rfl, hb⟩
        have HB4 := Lib.hid (HB3.out.trans (hb.mono (by have := HB3.out.size; have := HP.out; omega)))
        clear hb HB3 HG3
        go_wp2_with fail
        go_ret
        exact ⟨rfl, by rw [HP.out]; exact HB4.out⟩
      have n9 : decide ((9000 : Int) < (e.x.dn : Int)) = false := decide_eq_false (by omega)
      have H9 : Hid (e.d.length ≤ 9000) := by have := HDN.out; show _ ≤ _; omega
      clear h9
      obtain ⟨w4, hw4, t1, t2, t3, t4⟩ := one_fm w3 e.x
      have T7 := Lib.hid hw4
      have T1 := Lib.hid t1
      have RO := Lib.hid t2
      have RF4 := Lib.hid (RF.out.below t3 RF.out.lt)
      have HA4 := Lib.hid (HA3.out.below t3)
      have RM4 := Lib.hid (RM3.out.below t3 RM3.out.lt)
      have HB4 : Hid (Below p w w4) := HB3.out.trans (t3.mono (Nat.le_of_lt HA3.out.lts.1))
      have HD4 : Hid (RdB w4 p e.x.dA e.d) := HD3.out.below (t3.mono (Nat.le_of_lt HA3.out.lts.1))
      have HS4 : Hid (w4.heap.size = pf + 2) := by show _ = _; rw [t4, HS3.out]
      have HS3' : Hid (w3.heap.size = pf + 1) := HS3.out
      clear hw4 t1 t2 t3 t4 HS3
      go_upto_region 11 with (first | (refine wpList_fm rfl _ rfl rfl RF.out ?_) | (refine wpList_sw (cs := e.x.c) rfl _ _ rfl rfl rfl T1.out (fm_sz _ _) (fm_ok _) ?_))
      rw [T7.out]
      rw [HS3'.out]
      have RO4 : Hid (Row w4 (pf + 1) 32 e.x.c) := by have := RO.out; rw [HS3'.out] at this; exact this
      clear T7 T1 HA3 RM3 HB3 HD3 RF RO HS3' x3 n9
      obtain ⟨i0, hi0, hz0, hz1, hz2⟩ := info_parts u8_info
      have hb5 : Below w4.heap.size w4 (w4.alloc (.cells #[] 5)) := (Below.refl _ _).alloc (Nat.le_refl _) _
      have HO5 : Hid (Bo (w4.alloc (.cells #[] 5)) w4.heap.size 5 (.slice (some ⟨w4.heap.size, 0, none⟩) 0 0) []) := OwS.lit w4 5 1 0 #[] (by simp) (by simp [maxLen]) (Nat.le_refl _)
      have RF5 := Lib.hid (RF4.out.below hb5 RF4.out.lt)
      have RO5 := Lib.hid (RO4.out.below hb5 RO4.out.lt)
      have RM5 := Lib.hid (RM4.out.below hb5 RM4.out.lt)
      have HA5 := Lib.hid (HA4.out.below hb5)
      have HB5 : Hid (Below p w (w4.alloc (.cells #[] 5))) := HB4.out.trans (hb5.mono (Nat.le_of_lt HA4.out.lts.1))
      have HD5 : Hid (RdB (w4.alloc (.cells #[] 5)) p e.x.dA e.d) := HD4.out.below (hb5.mono (Nat.le_of_lt HA4.out.lts.1))
      have HS5 : Hid ((w4.alloc (.cells #[] 5)).heap.size = pf + 3) := by show _ = _; rw [← Nat.add_assoc pf 2 1, ← HS4.out]; simp
      clear hb5 RF4 RO4 RM4 HA4 HB4 HD4
      obtain ⟨_, _, _, x3, _⟩ := fm_cells RF5.out
      go_upto_region 12 with (at_builtin; go_loud (refine wpList_appBo rfl (.tmp 32) (.tmp 34) 29 rfl w4.heap.size 5 i0 Tryd.underlying29 hi0 hz0 hz1 hz2 (.slice (some ⟨w4.heap.size, 0, none⟩) 0 0) [] rfl HO5.out p e.x.dA e.d e.x.dn e.x.dc rfl HDN.out HD5.out (by have := H9.out; simp; omega) (by simp) ?_; intro v6 w6 hO6 hF6 hN6; rw [List.nil_append] at hO6; obtain ⟨A6, c6, rfl, -⟩ := Bo.shape hO6; have ht6 := Row.thawed (hF6.row (fun h => by have : w4.heap.size = pf + 1 := (by simpa [ob, Value.ownBlock] using h); have := HS4.out; omega) RO5.out) 3; have hc6 := (fm_cells (hF6.row (fun h => by have : w4.heap.size = pf + 1 := (by simpa [ob, Value.ownBlock] using h); have := HS4.out; omega) RO5.out)).2.2.2.1))
      have hn4 : ∀ j, ob (.slice (some ⟨w4.heap.size, 0, none⟩) 0 0) j → j = pf + 2 := fun j h => by
        have : w4.heap.size = j := (by simpa [ob, Value.ownBlock] using h)
        have := HS4.out
        omega
      have hf5 := hF6.mono (S' := fun j => j = pf + 2) (fun j _ h => hn4 j h)
      have RO6 : Row w6 (pf + 1) 32 e.x.c := hf5.row (fun h => by omega) RO5.out
      have ho6 : Bo w6 (pf + 2) 5 (.slice A6 e.d.length c6) e.d := by have := hO6; rw [HS4.out] at this; exact this
      have HRO : Hid (Row (w6.setCell ⟨pf + 1, 3, none⟩ (.slice A6 e.d.length c6)) (pf + 1) 32 (e.x.own A6 e.d.length c6).c) := by
        have := RO6.stored 3 (.slice A6 e.d.length c6)
        rw [fm_own] at this
        exact this
      have HOW : Hid (Bo (w6.setCell ⟨pf + 1, 3, none⟩ (.slice A6 e.d.length c6)) (pf + 2) 5 (.slice A6 e.d.length c6) e.d) := ho6.set_far (ho6.ne RO6 (by decide)) 3 _
      have hf7 := hf5.mono (S' := fun j => pf + 1 ≤ j) (fun j _ h => by omega) |>.setCell (g := pf + 1) (fun _ => Nat.le_refl _) 3 (.slice A6 e.d.length c6)
      have HA7 : Hid (Ga (w6.setCell ⟨pf + 1, 3, none⟩ (.slice A6 e.d.length c6)) p p M A c o) := HA5.out.fs hf7 (by have := HLT.out.2; omega) (fun j hj => by have := HLT.out.1 j hj; omega) (fun j hj => by
        have := HA5.out.lts.2.2 j hj
        intro h
        have h0 := HOE.out j hj
        omega)
      have RM7 : Hid (Row (w6.setCell ⟨pf + 1, 3, none⟩ (.slice A6 e.d.length c6)) pm 28 (rgc M)) := hf7.row (by have := HPL.out; omega) RM5.out
      have RF7 : Hid (Row (w6.setCell ⟨pf + 1, 3, none⟩ (.slice A6 e.d.length c6)) pf 32 e.x.c) := hf7.row (by omega) RF5.out
      have HB7 : Hid (Below p w (w6.setCell ⟨pf + 1, 3, none⟩ (.slice A6 e.d.length c6))) := HB5.out.trans (hf7.below (fun j h _ => by have := HLT.out.2; omega) (by have := HB5.out.size; have := HP.out; omega))
      clear hn4 hf5 RO6 ho6 hf7 hF6 hN6 hO6 ht6 hc6 HO5 RF5 RO5 RM5 HA5 HB5 HD5 HS5 x3 hi0 hz0 hz1 hz2
      generalize w6.setCell ⟨pf + 1, 3, none⟩ (.slice A6 e.d.length c6) = w7 at *
      have HG7 : Hid (GlobE w7) := HG.out.below (by rw [HP.out]; exact HB7.out)
      have HTK : Hid (Calls Tryd.prog 8 #[.pointer (some ⟨p, 0, none⟩), .agg (e.x.own A6 e.d.length c6).c] w7 (TakeP w7 p p (.slice A M.blk.length c) (gtk M e.x.ty e.x.fl e.x.st e.d))) :=
        tk_any HA7.out HG7.out (e.x.own A6 e.d.length c6) e.d e.hfl (fun _ => ⟨rfl, Nat.le_trans H9.out (by omega), (Bo.low HOW.out).imp (fun j h _ => by have := HLT.out.2; omega)⟩)
      have HRT : Hid (∀ W : World, RdB W W.heap.size e.x.dA e.d → Calls Tryd.prog 9 #[.agg (rgc M), .agg e.x.c] W (RTkP W (gtk M e.x.ty e.x.fl e.x.st e.d))) := fun W h => rtake_any M HA7.out.ok e.x e.d e.hfl HDN.out H9.out h
      have HWH := Lib.hid (gtk_whole (m := M) (ty := e.x.ty) (fl := e.x.fl) (st := e.x.st) (d := e.d))
      generalize gtk M e.x.ty e.x.fl e.x.st e.d = R at *
      obtain ⟨M2, ok, W⟩ := R
      clear HG7
      go_wp2_with (refine wpList_fm rfl _ rfl rfl HRO.out ?_)
      refine HTK.out.mono ?_
      rintro e' w8 ⟨A', c', rfl, hf, hbo, hnx, hnil, A2, c2, o2, hga, hn2⟩
      have HOW8 : Hid (Bo w8 (pf + 2) 5 (.slice A6 e.d.length c6) e.d) := hf.owns HOW.out (fun j hj h => by
        have h1 := (OwS.lt HOW.out j hj).1
        have h2 := HLT.out.2
        rcases h with h | h
        · omega
        · have := HLT.out.1 j h; omega)
      have RO8 : Hid (Row w8 (pf + 1) 32 (e.x.own A6 e.d.length c6).c) := hf.row (HA7.out.gv_ne HRO.out (by decide) (by decide)) HRO.out
      have RF8 : Hid (Row w8 pf 32 e.x.c) := hf.row (HA7.out.gv_ne RF7.out (by decide) (by decide)) RF7.out
      have RM8 : Hid (Row w8 pm 28 (rgc M)) := hf.row (HA7.out.gv_ne RM7.out (by decide) (by decide)) RM7.out
      have HB8 : Hid (Below p w w8) := HA7.out.fsb HB7.out (by have := HP.out; omega) hf
      have HDJ : Hid ((∀ j, ob (.slice A2 M2.blk.length c2) j → ¬ ob (.slice A6 e.d.length c6) j) ∧ (∀ j, ob (.slice A' W.blk.length c') j → ¬ ob (.slice A6 e.d.length c6) j) ∧ (∀ j, ob (.slice A2 M2.blk.length c2) j → ¬ ob (.slice A' W.blk.length c') j)) := by
        have hsep : ∀ u : Value, Nx w7 (.slice A M.blk.length c) u → ∀ j, ob u j → ¬ ob (.slice A6 e.d.length c6) j := fun u hu j hj h => by
          have h1 := OwS.lt HOW.out j h
          rcases hu.own hj with h2 | h2
          · have := HLT.out.1 j h2; omega
          · omega
        refine ⟨hsep _ hn2, hsep _ hnx, fun j hj h => ?_⟩
        cases hok : ok with
        | false =>
          obtain ⟨rfl, rfl⟩ := hnil hok
          simp [ob, Value.ownBlock] at h
        | true =>
          have hm2 : M2 = gm0 := HWH.out hok
          have h3 := hga.idle (by show M2.busy = false; rw [hm2]; rfl)
          rw [h3.1] at hj
          simp [ob, Value.ownBlock] at hj
      have HBO8 : Hid (Bo w8 p 5 (.slice A' W.blk.length c') W.blk) := hbo
      have HA8 : Hid (Ga w8 p p M2 A2 c2 o2) := hga
      clear hf hbo hnx hnil hga hn2 HTK HOW HRO RF7 RM7 HA7 HB7
      obtain ⟨w9, hw9, t1, t2, t3, t4, t5, t6⟩ := tk_two w8 W.st A' W.blk.length c' W.en M2.bad
      have T7 := Lib.hid hw9
      have T1 := Lib.hid t1
      have T2 := Lib.hid t2
      have RW9 := Lib.hid t3
      have RB9 := Lib.hid t4
      have HOW9 : Hid (Bo w9 (pf + 2) 5 (.slice A6 e.d.length c6) e.d) := OwS.below HOW8.out t5
      have HBO9 : Hid (Bo w9 p 5 (.slice A' W.blk.length c') W.blk) := OwS.below HBO8.out t5
      have HA9 := Lib.hid (HA8.out.below t5)
      have RO9 := Lib.hid (RO8.out.below t5 RO8.out.lt)
      have RF9 := Lib.hid (RF8.out.below t5 RF8.out.lt)
      have RM9 := Lib.hid (RM8.out.below t5 RM8.out.lt)
      have HB9 : Hid (Below p w w9) := HB8.out.trans (t5.mono (Nat.le_of_lt HA8.out.lts.1))
      clear hw9 t1 t2 t3 t4 t5 t6 HOW8 HBO8 HA8 RO8 RF8 RM8 HB8
      go_upto_region 13 with (first | (refine wpList_sw (cs := whc W.st A' W.blk.length c' W.en) rfl _ _ rfl rfl rfl T1.out (wh_sz _ _ _ _ _ _ _ _ _ _) (wh_ok _ _ _ _ _) ?_) | (refine wpList_sw (cs := ftb M2.bad) rfl _ _ rfl rfl rfl T2.out (ftb_sz _) (ftb_ok _) ?_))
      rw [T7.out]
      clear T7 T1 T2
      generalize w8.heap.size = pw at *
      obtain ⟨_, _, _, x3, _⟩ := fm_cells RO9.out
      have x3' : w9.cell? ⟨pf + 1, 3, none⟩ = some (.slice A6 e.d.length c6) := x3
      clear x3
      obtain ⟨w10, hclr, hf10⟩ := clear_own HOW9.out
      have HA10 := Lib.hid (HA9.out.cleared HOW9.out hf10 HDJ.out.1)
      have HBO10 : Hid (Bo w10 p 5 (.slice A' W.blk.length c') W.blk) := hf10.owns HBO9.out HDJ.out.2.1
      have RF10 : Hid (Row w10 pf 32 e.x.c) := hf10.row (HOW9.out.ne RF9.out (by decide)) RF9.out
      have RM10 : Hid (Row w10 pm 28 (rgc M)) := hf10.row (HOW9.out.ne RM9.out (by decide)) RM9.out
      have RW10 : Hid (Row w10 pw 34 (whc W.st A' W.blk.length c' W.en)) := hf10.row (HOW9.out.ne RW9.out (by decide)) RW9.out
      have RB10 : Hid (Row w10 (pw + 1) 36 (ftb M2.bad)) := hf10.row (HOW9.out.ne RB9.out (by decide)) RB9.out
      have HB10 : Hid (Below p w w10) := HB9.out.trans (hf10.below (fun j hj _ => by have := (OwS.lt HOW9.out j hj).1; have := HLT.out.2; omega) (Nat.le_of_lt HA9.out.lts.1))
      clear hf10 HA9 HBO9 RF9 RM9 RW9 RB9 HB9 HOW9 RO9
      go_upto_region 14 with fail
      clear x3' hclr
      go_wp2_with (first | (refine wpList_ld rfl _ rfl rfl RM10.out (rg_ok _) ?_) | (refine wpList_fm rfl _ rfl rfl RF10.out ?_))
      refine (HRT.out w10 (((HE.out e hmem).below HB10.out).more (Nat.le_of_lt HA10.out.lts.1))).mono ?_
      rintro e' w11 ⟨rfl, hb11⟩
      have HA11 := Lib.hid (HA10.out.below hb11)
      have HBO11 : Hid (Bo w11 p 5 (.slice A' W.blk.length c') W.blk) := OwS.below HBO10.out hb11
      have RM11 := Lib.hid (RM10.out.below hb11 RM10.out.lt)
      have RW11 := Lib.hid (RW10.out.below hb11 RW10.out.lt)
      have RB11 := Lib.hid (RB10.out.below hb11 RB10.out.lt)
      have HB11 : Hid (Below p w w11) := HB10.out.trans (hb11.mono (Nat.le_of_lt HA10.out.lts.1))
      clear hb11 HA10 HBO10 RM10 RW10 RB10 HB10 RF10 HRT
      obtain ⟨w12, hw12, t1, t2, t3, t4, t5, t6⟩ := rg_two w11 M2 W
      have T7 := Lib.hid hw12
      have T1 := Lib.hid t1
      have T2 := Lib.hid t2
      have R11 := Lib.hid t3
      have R13 := Lib.hid t4
      have HA12 := Lib.hid (HA11.out.below t5)
      have HBO12 : Hid (Bo w12 p 5 (.slice A' W.blk.length c') W.blk) := OwS.below HBO11.out t5
      have RM12 := Lib.hid (RM11.out.below t5 RM11.out.lt)
      have RW12 := Lib.hid (RW11.out.below t5 RW11.out.lt)
      have RB12 := Lib.hid (RB11.out.below t5 RB11.out.lt)
      have HB12 : Hid (Below p w w12) := HB11.out.trans (t5.mono (Nat.le_of_lt HA11.out.lts.1))
      have HPN : Hid (pm < w11.heap.size) := RM11.out.lt
      clear hw12 t1 t2 t3 t4 t5 t6 HA11 HBO11 RM11 RW11 RB11 HB11
      go_upto_region 15 with (first | (refine wpList_sw (cs := rgc M2) rfl _ _ rfl rfl rfl T1.out (rg_sz _ _) (rg_ok _) ?_) | (refine wpList_sw (cs := rgc W) rfl _ _ rfl rfl rfl T2.out (rg_sz _ _) (rg_ok _) ?_))
      rw [T7.out]
      clear T7 T1 T2
      generalize w11.heap.size = pr at *
      have RM13 := Lib.hid (RM12.out.setRow (rgc M2))
      have R14 := Lib.hid (R13.out.row_far (b := pr + 1) (k := pm) (by have := HPN.out; omega) (rgc M2))
      have RW13 := Lib.hid (RW12.out.row_far (Row.ne RW12.out RM12.out (by decide)) (rgc M2))
      have RB13 := Lib.hid (RB12.out.row_far (Row.ne RB12.out RM12.out (by decide)) (rgc M2))
      have HBO13 := Lib.hid (HBO12.out.row_far (HBO12.out.ne RM12.out (by decide)) (rgc M2))
      have HA13 := Lib.hid (HA12.out.gath_far RM12.out (rgc M2))
      have HB13 : Hid (Below p w (w12.setRow pm (rgc M2))) := below_setRow HB12.out _ _ HPM.out
      go_upto_region 16 with (first | (refine wpList_ld rfl _ rfl rfl R11.out (rg_ok _) ?_) | (refine wpList_sw (cs := rgc M2) rfl _ _ rfl rfl rfl RM12.out (rg_sz _ _) (rg_ok _) ?_))
      clear R11 R13 HA12 HBO12 RM12 RW12 RB12 HB12
      generalize w12.setRow pm (rgc M2) = w13 at *
      have HOK2 := Lib.hid HA13.out.ok
      have hsz : (tb M2.blk).size = M2.blk.length := tb_size _
      have e1 : (M2.busy != M2.busy) = false := by simp
      have e2 : ((M2.blk.length : Int) != (M2.blk.length : Int)) = false := by simp
      have e3 : decide ((8192 : Int) < (M2.blk.length : Int)) = false := decide_eq_false (by have := HOK2.out.len; omega)
      have HAd : Hid (Ga w13.drew p p M2 A2 c2 o2) := HA13.out.keep rfl (fun _ _ => rfl) (fun _ _ => rfl)
      have HBOd : Hid (Bo w13.drew p 5 (.slice A' W.blk.length c') W.blk) := HBO13.out
      have RMd : Hid (Row w13.drew pm 28 (rgc M2)) := RM13.out
      have RWd : Hid (Row w13.drew pw 34 (whc W.st A' W.blk.length c' W.en)) := RW13.out
      have RBd : Hid (Row w13.drew (pw + 1) 36 (ftb M2.bad)) := RB13.out
      have RVd : Hid (Row w13.drew (pr + 1) 28 (rgc W)) := R14.out
      have HBd : Hid (Below p w w13.drew) := HB13.out.drew
      have HS0 : Hid (∀ w' : World, Row w' pm 28 (rgc M2) → w'.cell? ⟨pm, 5, none⟩ = some (.int .i64 M2.bad) ∧ w'.cell? ⟨pm, 0, none⟩ = some (.bool M2.busy) ∧ w'.cell? ⟨pm, 2, none⟩ = some (.string (tb M2.blk))) := fun w' h => by
        obtain ⟨g0, _, g2, _, _, g5⟩ := rg_cells h
        exact ⟨g5, g0, g2⟩
      obtain ⟨s1, s2, s3⟩ := HS0.out _ RMd.out
      refine wp_region_held_drew (S := fun w' => w'.cell? ⟨pm, 5, none⟩ = some (.int .i64 M2.bad) ∧ w'.cell? ⟨pm, 0, none⟩ = some (.bool M2.busy) ∧ w'.cell? ⟨pm, 2, none⟩ = some (.string (tb M2.blk)) ∧ Row w' pw 34 (whc W.st A' W.blk.length c' W.en) ∧ Row w' (pw + 1) 36 (ftb M2.bad) ∧ Row w' (pr + 1) 28 (rgc W)) (by kernel_rfl) ⟨s1, s2, s3, RWd.out, RBd.out, RVd.out⟩ (fun hHeld => ?_)
      clear hHeld
      have hHeld : w13.drew.cell? ⟨pm, 5, none⟩ = some (.int .i64 M2.bad) ∧ w13.drew.cell? ⟨pm, 0, none⟩ = some (.bool M2.busy) ∧ w13.drew.cell? ⟨pm, 2, none⟩ = some (.string (tb M2.blk)) ∧ Row w13.drew pw 34 (whc W.st A' W.blk.length c' W.en) ∧ Row w13.drew (pw + 1) 36 (ftb M2.bad) ∧ Row w13.drew (pr + 1) 28 (rgc W) := ⟨s1, s2, s3, RWd.out, RBd.out, RVd.out⟩
      clear HA13 HBO13 RM13 RW13 RB13 R14 HB13 s1 s2 s3
      generalize w13.drew = w14 at *
      refine wpAnyH_take (i := 0) (v := _) rfl (by kernel_rfl) (by kernel_rfl) (by kernel_rfl) (fun _ _ _ h => h) (yields_ld (by rfl) _ rfl rfl (wh_ok _ _ _ _ _) (fun _ hSw => hSw.2.2.2.1)) (by assumption) ?rest0w1
      try simp only [Act.put, List.getElem_toArray, List.getElem_cons_zero, List.setIfInBounds_toArray, List.set_cons_zero, List.set_cons_succ]
      refine wpAnyH_take (i := 1) (v := ?v1) rfl (by kernel_rfl) (by kernel_rfl) (by kernel_rfl) (fun _ _ _ h => h) (Or.inl ⟨by rfl, ?hy1⟩) (by assumption) ?rest1
      case hy1 => (intro w hSw; (try dsimp only at hSw); go_simp <;> with_reducible rfl)
      try simp only [Act.put, List.getElem_toArray, List.getElem_cons_zero, List.getElem_cons_succ, List.setIfInBounds_toArray, List.set_cons_zero, List.set_cons_succ]
      refine wpAnyH_take (i := 2) (v := _) rfl (by kernel_rfl) (by kernel_rfl) (by kernel_rfl) (fun _ _ _ h => h) (yields_ld (by rfl) _ rfl rfl (ftb_ok _) (fun _ hSw => hSw.2.2.2.2.1)) (by assumption) ?rest2w2
      try simp only [Act.put, List.getElem_toArray, List.getElem_cons_zero, List.getElem_cons_succ, List.setIfInBounds_toArray, List.set_cons_zero, List.set_cons_succ]
      refine wpAnyH_take (i := 3) (v := _) rfl (by kernel_rfl) (by kernel_rfl) (by kernel_rfl) (fun _ _ _ h => h) (yields_ld (by rfl) _ rfl rfl (rg_ok _) (fun _ hSw => hSw.2.2.2.2.2)) (by assumption) ?rest3w3
      try simp only [Act.put, List.getElem_toArray, List.getElem_cons_zero, List.getElem_cons_succ, List.setIfInBounds_toArray, List.set_cons_zero, List.set_cons_succ]
      refine wpAnyH_take (i := 4) (v := ?v4q4) rfl (by kernel_rfl) (by kernel_rfl) (by kernel_rfl) (fun _ _ _ h => h) (Or.inl ⟨by rfl, ?hy4q4⟩) (by assumption) ?rest4q4
      case hy4q4 => (intro w hSw; (try dsimp only at hSw); go_simp <;> with_reducible rfl)
      try simp only [Act.put, List.getElem_toArray, List.getElem_cons_zero, List.getElem_cons_succ, List.setIfInBounds_toArray, List.set_cons_zero, List.set_cons_succ]
      refine wpAnyH_take (i := 5) (v := ?v5q4) rfl (by kernel_rfl) (by kernel_rfl) (by kernel_rfl) (fun _ _ _ h => h) (Or.inl ⟨by rfl, ?hy5q4⟩) (by assumption) ?rest5q4
      case hy5q4 => (intro w hSw; (try dsimp only at hSw); go_simp <;> with_reducible rfl)
      try simp only [Act.put, List.getElem_toArray, List.getElem_cons_zero, List.getElem_cons_succ, List.setIfInBounds_toArray, List.set_cons_zero, List.set_cons_succ]
      refine wpAnyH_take (i := 6) (v := ?v6q4) rfl (by kernel_rfl) (by kernel_rfl) (by kernel_rfl) (fun _ _ _ h => h) (Or.inl ⟨by rfl, ?hy6q4⟩) (by assumption) ?rest6q4
      case hy6q4 => (intro w hSw; (try dsimp only at hSw); go_simp <;> with_reducible rfl)
      try simp only [Act.put, List.getElem_toArray, List.getElem_cons_zero, List.getElem_cons_succ, List.setIfInBounds_toArray, List.set_cons_zero, List.set_cons_succ]
      refine wpAnyH_ready (rs := [7]) (by kernel_rfl) (by simp) ?_
      refine AllReadyH.cons rfl (fun K hK => ?_) AllReadyH.nil
      go_simp
      go_at_call 10
      refine (same_any W ok M2.bad HOK2.out.bd (Bo.reads HBOd.out)).mono ?_
      rintro e' w15 ⟨rfl, hb15⟩
      have HAe := Lib.hid (HAd.out.below hb15)
      have HBOe : Hid (Bo w15 p 5 (.slice A' W.blk.length c') W.blk) := OwS.below HBOd.out hb15
      have RMe := Lib.hid (RMd.out.below hb15 RMd.out.lt)
      have RWe := Lib.hid (RWd.out.below hb15 RWd.out.lt)
      have RBe := Lib.hid (RBd.out.below hb15 RBd.out.lt)
      have RVe := Lib.hid (RVd.out.below hb15 RVd.out.lt)
      have HBe : Hid (Below p w w15) := HBd.out.trans (hb15.mono (Nat.le_of_lt HAd.out.lts.1))
      obtain ⟨s1, s2, s3⟩ := HS0.out _ RMe.out
      clear HAd HBOd RMd RWd RBd RVd HBd hb15 hHeld
      refine hK.out _ _ ⟨s1, s2, s3, RWe.out, RBe.out, RVe.out⟩ (fun hHeld => ?_)
      clear hK K
      try simp only [Act.put, List.getElem_toArray, List.getElem_cons_zero, List.getElem_cons_succ, List.setIfInBounds_toArray, List.set_cons_zero, List.set_cons_succ]
      refine wpAnyH_take (i := 8) (v := ?v8q5) rfl (by kernel_rfl) (by kernel_rfl) (by kernel_rfl) (fun _ _ _ h => h) (Or.inl ⟨by rfl, ?hy8q5⟩) (by assumption) ?rest8q5
      case hy8q5 => (intro w hSw; (try dsimp only at hSw); go_simp <;> with_reducible rfl)
      try simp only [Act.put, List.getElem_toArray, List.getElem_cons_zero, List.getElem_cons_succ, List.setIfInBounds_toArray, List.set_cons_zero, List.set_cons_succ]
      refine wpAnyH_take (i := 9) (v := ?v9q5) rfl (by kernel_rfl) (by kernel_rfl) (by kernel_rfl) (fun _ _ _ h => h) (Or.inl ⟨by rfl, ?hy9q5⟩) (by assumption) ?rest9q5
      case hy9q5 => (intro w hSw; (try dsimp only at hSw); go_simp <;> with_reducible rfl)
      try simp only [Act.put, List.getElem_toArray, List.getElem_cons_zero, List.getElem_cons_succ, List.setIfInBounds_toArray, List.set_cons_zero, List.set_cons_succ]
      refine wpAnyH_take (i := 10) (v := ?v10q5) rfl (by kernel_rfl) (by kernel_rfl) (by kernel_rfl) (fun _ _ _ h => h) (Or.inl ⟨by rfl, ?hy10q5⟩) (by assumption) ?rest10q5
      case hy10q5 => (intro w hSw; (try dsimp only at hSw); go_simp <;> with_reducible rfl)
      try simp only [Act.put, List.getElem_toArray, List.getElem_cons_zero, List.getElem_cons_succ, List.setIfInBounds_toArray, List.set_cons_zero, List.set_cons_succ]
      refine wpAnyH_take (i := 12) (v := ?v12q5) rfl (by kernel_rfl) (by kernel_rfl) (by kernel_rfl) (fun _ _ _ h => h) (Or.inl ⟨by rfl, ?hy12q5⟩) (by assumption) ?rest12q5
      case hy12q5 => (intro w hSw; (try dsimp only at hSw); go_simp <;> with_reducible rfl)
      try simp only [Act.put, List.getElem_toArray, List.getElem_cons_zero, List.getElem_cons_succ, List.setIfInBounds_toArray, List.set_cons_zero, List.set_cons_succ]
      refine wpAnyH_take (i := 13) (v := ?v13q5) rfl (by kernel_rfl) (by kernel_rfl) (by kernel_rfl) (fun _ _ _ h => h) (Or.inl ⟨by rfl, ?hy13q5⟩) (by assumption) ?rest13q5
      case hy13q5 => (intro w hSw; (try dsimp only at hSw); go_simp <;> with_reducible rfl)
      try simp only [Act.put, List.getElem_toArray, List.getElem_cons_zero, List.getElem_cons_succ, List.setIfInBounds_toArray, List.set_cons_zero, List.set_cons_succ]
      refine wpAnyH_ready (rs := [11]) (by kernel_rfl) (by simp) ?_
      refine AllReadyH.cons rfl (fun K hK => ?_) AllReadyH.nil
      go_simp
      go_at_call 11
      refine (busy_cell HAe.out.cells.2.2.2.1).mono ?_
      rintro e' w16 ⟨rfl, rfl⟩
      refine hK.out _ _ ⟨s1, s2, s3, RWe.out, RBe.out, RVe.out⟩ (fun hHeld => ?_)
      clear hK K
      try simp only [Act.put, List.getElem_toArray, List.getElem_cons_zero, List.getElem_cons_succ, List.setIfInBounds_toArray, List.set_cons_zero, List.set_cons_succ]
      refine wpAnyH_take (i := 14) (v := ?v14q6) rfl (by kernel_rfl) (by kernel_rfl) (by kernel_rfl) (fun _ _ _ h => h) (Or.inl ⟨by rfl, ?hy14q6⟩) (by assumption) ?rest14q6
      case hy14q6 => (intro w hSw; (try dsimp only at hSw); go_simp <;> with_reducible rfl)
      try simp only [Act.put, List.getElem_toArray, List.getElem_cons_zero, List.getElem_cons_succ, List.setIfInBounds_toArray, List.set_cons_zero, List.set_cons_succ]
      refine wpAnyH_take (i := 15) (v := ?v15q6) rfl (by kernel_rfl) (by kernel_rfl) (by kernel_rfl) (fun _ _ _ h => h) (Or.inl ⟨by rfl, ?hy15q6⟩) (by assumption) ?rest15q6
      case hy15q6 => (intro w hSw; (try dsimp only at hSw); go_simp <;> with_reducible rfl)
      try simp only [Act.put, List.getElem_toArray, List.getElem_cons_zero, List.getElem_cons_succ, List.setIfInBounds_toArray, List.set_cons_zero, List.set_cons_succ]
      refine wpAnyH_take (i := 16) (v := ?v16q6) rfl (by kernel_rfl) (by kernel_rfl) (by kernel_rfl) (fun _ _ _ h => h) (Or.inl ⟨by rfl, ?hy16q6⟩) (by assumption) ?rest16q6
      case hy16q6 => (intro w hSw; (try dsimp only at hSw); go_simp <;> with_reducible rfl)
      try simp only [Act.put, List.getElem_toArray, List.getElem_cons_zero, List.getElem_cons_succ, List.setIfInBounds_toArray, List.set_cons_zero, List.set_cons_succ]
      refine wpAnyH_take (i := 17) (v := ?v17q6) rfl (by kernel_rfl) (by kernel_rfl) (by kernel_rfl) (fun _ _ _ h => h) (Or.inl ⟨by rfl, ?hy17q6⟩) (by assumption) ?rest17q6
      case hy17q6 => (intro w hSw; (try dsimp only at hSw); go_simp <;> with_reducible rfl)
      try simp only [Act.put, List.getElem_toArray, List.getElem_cons_zero, List.getElem_cons_succ, List.setIfInBounds_toArray, List.set_cons_zero, List.set_cons_succ]
      refine wpAnyH_take (i := 19) (v := ?v19q6) rfl (by kernel_rfl) (by kernel_rfl) (by kernel_rfl) (fun _ _ _ h => h) (Or.inl ⟨by rfl, ?hy19q6⟩) (by assumption) ?rest19q6
      case hy19q6 => (intro w hSw; (try dsimp only at hSw); go_simp <;> with_reducible rfl)
      try simp only [Act.put, List.getElem_toArray, List.getElem_cons_zero, List.getElem_cons_succ, List.setIfInBounds_toArray, List.set_cons_zero, List.set_cons_succ]
      refine wpAnyH_take (i := 20) (v := ?v20q6) rfl (by kernel_rfl) (by kernel_rfl) (by kernel_rfl) (fun _ _ _ h => h) (Or.inl ⟨by rfl, ?hy20q6⟩) (by assumption) ?rest20q6
      case hy20q6 => (intro w hSw; (try dsimp only at hSw); go_simp <;> with_reducible rfl)
      try simp only [Act.put, List.getElem_toArray, List.getElem_cons_zero, List.getElem_cons_succ, List.setIfInBounds_toArray, List.set_cons_zero, List.set_cons_succ]
      refine wpAnyH_take (i := 21) (v := ?v21q6) rfl (by kernel_rfl) (by kernel_rfl) (by kernel_rfl) (fun _ _ _ h => h) (Or.inl ⟨by rfl, ?hy21q6⟩) (by assumption) ?rest21q6
      case hy21q6 => (intro w hSw; (try dsimp only at hSw); go_simp <;> with_reducible rfl)
      try simp only [Act.put, List.getElem_toArray, List.getElem_cons_zero, List.getElem_cons_succ, List.setIfInBounds_toArray, List.set_cons_zero, List.set_cons_succ]
      refine wpAnyH_ready (rs := [18]) (by kernel_rfl) (by simp) ?_
      refine AllReadyH.cons rfl (fun K hK => ?_) AllReadyH.nil
      go_simp
      go_at_call 12
      refine (bheld_cell HAe.out.cells.2.1).mono ?_
      rintro e' w16 ⟨rfl, rfl⟩
      refine hK.out _ _ ⟨s1, s2, s3, RWe.out, RBe.out, RVe.out⟩ (fun hHeld => ?_)
      clear hK K
      try simp only [Act.put, List.getElem_toArray, List.getElem_cons_zero, List.getElem_cons_succ, List.setIfInBounds_toArray, List.set_cons_zero, List.set_cons_succ]
      refine wpAnyH_take (i := 22) (v := ?v22q7) rfl (by kernel_rfl) (by kernel_rfl) (by kernel_rfl) (fun _ _ _ h => h) (Or.inl ⟨by rfl, ?hy22q7⟩) (by assumption) ?rest22q7
      case hy22q7 => (intro w hSw; (try dsimp only at hSw); go_simp <;> with_reducible rfl)
      try simp only [Act.put, List.getElem_toArray, List.getElem_cons_zero, List.getElem_cons_succ, List.setIfInBounds_toArray, List.set_cons_zero, List.set_cons_succ]
      refine wpAnyH_take (i := 23) (v := ?v23q7) rfl (by kernel_rfl) (by kernel_rfl) (by kernel_rfl) (fun _ _ _ h => h) (Or.inl ⟨by rfl, ?hy23q7⟩) (by assumption) ?rest23q7
      case hy23q7 => (intro w hSw; (try dsimp only at hSw); go_simp <;> with_reducible rfl)
      try simp only [Act.put, List.getElem_toArray, List.getElem_cons_zero, List.getElem_cons_succ, List.setIfInBounds_toArray, List.set_cons_zero, List.set_cons_succ]
      refine wpAnyH_take (i := 24) (v := ?v24q7) rfl (by kernel_rfl) (by kernel_rfl) (by kernel_rfl) (fun _ _ _ h => h) (Or.inl ⟨by rfl, ?hy24q7⟩) (by assumption) ?rest24q7
      case hy24q7 => (intro w hSw; (try dsimp only at hSw); go_simp <;> with_reducible rfl)
      try simp only [Act.put, List.getElem_toArray, List.getElem_cons_zero, List.getElem_cons_succ, List.setIfInBounds_toArray, List.set_cons_zero, List.set_cons_succ]
      refine wpAnyH_take (i := 25) (v := ?v25q7) rfl (by kernel_rfl) (by kernel_rfl) (by kernel_rfl) (fun _ _ _ h => h) (Or.inl ⟨by rfl, ?hy25q7⟩) (by assumption) ?rest25q7
      case hy25q7 => (intro w hSw; (try dsimp only at hSw); go_simp <;> with_reducible rfl)
      try simp only [Act.put, List.getElem_toArray, List.getElem_cons_zero, List.getElem_cons_succ, List.setIfInBounds_toArray, List.set_cons_zero, List.set_cons_succ]
      refine wpAnyH_ready (rs := [26]) (by kernel_rfl) (by simp) ?_
      refine AllReadyH.cons rfl (fun K hK => ?_) AllReadyH.nil
      go_simp
      go_at_call 12
      refine (bheld_cell HAe.out.cells.2.1).mono ?_
      rintro e' w16 ⟨rfl, rfl⟩
      refine hK.out _ _ ⟨s1, s2, s3, RWe.out, RBe.out, RVe.out⟩ (fun hHeld => ?_)
      clear hK K
      try simp only [Act.put, List.getElem_toArray, List.getElem_cons_zero, List.getElem_cons_succ, List.setIfInBounds_toArray, List.set_cons_zero, List.set_cons_succ]
      refine wpAnyH_take (i := 27) (v := ?v27q8) rfl (by kernel_rfl) (by kernel_rfl) (by kernel_rfl) (fun _ _ _ h => h) (Or.inl ⟨by rfl, ?hy27q8⟩) (by assumption) ?rest27q8
      case hy27q8 => (intro w hSw; (try dsimp only at hSw); go_simp <;> with_reducible rfl)
      try simp only [Act.put, List.getElem_toArray, List.getElem_cons_zero, List.getElem_cons_succ, List.setIfInBounds_toArray, List.set_cons_zero, List.set_cons_succ]
      refine wpAnyH_take (i := 28) (v := ?v28q8) rfl (by kernel_rfl) (by kernel_rfl) (by kernel_rfl) (fun _ _ _ h => h) (Or.inl ⟨by rfl, ?hy28q8⟩) (by assumption) ?rest28q8
      case hy28q8 => (intro w hSw; (try dsimp only at hSw); go_simp <;> with_reducible rfl)
      try simp only [Act.put, List.getElem_toArray, List.getElem_cons_zero, List.getElem_cons_succ, List.setIfInBounds_toArray, List.set_cons_zero, List.set_cons_succ]
      refine wpAnyH_done (by kernel_rfl) ?_ _
      clear e1 e2 e3 hsz s1 s2 s3 RBe RVe HS0
      have a1 := (wh_cells RWe.out).2.1
      obtain ⟨w17, hclr, hf17⟩ := clear_own HBOe.out
      have HAf := Lib.hid (HAe.out.cleared HBOe.out hf17 HDJ.out.2.2)
      have RMf : Hid (Row w17 pm 28 (rgc M2)) := hf17.row (HBOe.out.ne RMe.out (by decide)) RMe.out
      have HBf : Hid (Below p w w17) := HBe.out.trans (hf17.below (fun j hj _ => (OwS.lt HBOe.out j hj).1) (Nat.le_of_lt HAe.out.lts.1))
      clear hf17 HAe HBOe RMe RWe HBe
      go_wp2_with fail
      go_roundw
      case rel => exact ⟨k + 1, M2, A2, c2, o2, by omega, by go_num, HAf, RMf, HBf⟩
      case measure => simp [intOf]; omega
    · have HGr' := HGr
      clear HA RM
      go_wp2_with fail
      refine (fixed_any HGr.out).mono ?_
      rintro e w7 ⟨rfl, hb7⟩
      have HW7 := Lib.hid (HB.out.trans (hb7.mono (by have := HB.out.size; have := HP.out; omega)))
      clear hb7 HB HGr
      go_wp2_with fail
      go_ret
      exact ⟨rfl, by rw [HP.out]; exact HW7.out⟩
end Go.Proofs.YtcbepicdnmnfaaaDoor
