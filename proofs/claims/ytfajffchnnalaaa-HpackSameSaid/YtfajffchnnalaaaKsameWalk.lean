/-
  HpackSame, by its contract: at every most and every row of lists it answers true; below what was there nothing has turned. Conditions: a most below 2^32, as many lists as an int counts.
-/
import Derived.Test.YtfajffchnnalaaaKtwo
import Derived.Test.YtfajffchnnalaaaKgreat
import Derived.Deep.CutBlock
import Derived.Deep.DeepCutAuto
namespace Go.Proofs.Ytfajffchnnalaaa
open Go.RowKit Go.WideShapes

attribute [local irreducible] tot shr sz txtL numL litL addL putF tabF nOf hOf putA tabA limL sumK

set_option maxRecDepth 100000 in
set_option maxHeartbeats 4000000 in
theorem same_law {w : World} {A : Option Addr} {c : Nat} {LL : List (Hd w Fd fdc)} (m : Nat) (hm : m < 4294967296) (hR : RdS w (· < w.heap.size) A (enl hdc LL)) (hl : LL.length ≤ 9223372036854775807) :
    Calls Try.prog 5 #[.int .u32 (m : Int), .slice A LL.length c] w fun e w' => e = .returned (.bool true) ∧ Below w.heap.size w w' := by
  have hgr := great2_any (c := c) hR hl
  go_enter Try.func5, Try.ntmps5
  go_wp2_with fail
  refine hgr.mono ?_
  rintro e w1 ⟨t, rfl, ht, nd, hw⟩
  have HB1 : Hid (Below w.heap.size w w1) := by show Below _ _ _; rw [hw]; exact below_dN (Below.refl _ _) nd
  clear hw hgr
  cases t with
  | true =>
    go_wp2_with fail
    refine (fixed_any _).mono ?_
    rintro e w2 ⟨rfl, hb2⟩
    have HB2 := Lib.hid (HB1.out.trans (hb2.mono HB1.out.size))
    clear hb2 HB1 ht
    go_wp2_with fail
    go_ret
    exact ⟨rfl, HB2.out⟩
  | false =>
    have HFew : Hid (Few2 LL) := ht rfl
    have hn1 := newE_any m hm w1 w.heap.size HB1.out.size
    clear ht
    have hl100 : LL.length ≤ 100 := HFew.out.1
    have hM : min m 4096 ≤ 4096 := Nat.min_le_right _ _
    go_wp2_with fail
    refine hn1.mono ?_
    rintro e w2 ⟨ge1, g1, rfl, hE1, ha1, ha2, hB2⟩
    have hn2 := newE_any m hm w2 w.heap.size (by have := hB2.size; have := HB1.out.size; omega)
    have HE1 := Lib.hid hE1
    have HB2 := Lib.hid (HB1.out.trans (hB2.mono HB1.out.size))
    clear hE1 hB2 hn1 HB1
    unfold pt at *
    go_wp2_with fail
    refine hn2.mono ?_
    rintro e w3 ⟨ge2, g2, rfl, hE2, hb1, hb2, hB3⟩
    have hx := HE1.out.lt
    have hy := HE1.out.t.lt
    have HE3 := Lib.hid (HE1.out.below hB3)
    have HE2 := Lib.hid hE2
    have HB3 := Lib.hid (HB2.out.trans (hB3.mono HB2.out.size))
    have HD3 : Hid (Dis (EB ge1 g1 (.slice none 0 0)) (EB ge2 g2 (.slice none 0 0))) := fun k h1 h2 => by
      simp only [EB, ob, Value.ownBlock, reduceCtorEq, or_false] at h1 h2
      omega
    have HT0 : Hid (tot [] ≤ min m 4096) := by show _ ≤ _; rw [tot_nil0]; exact Nat.zero_le _
    clear hE2 hB3 hn2 HB2 HE1 hx hy ha1 ha2 hb1 hb2
    generalize min m 4096 = M at *
    go_wp2_with fail
    go_loopw [23] (fun i wr => ∃ (k : Nat) (va vb : Value) (L : List Fd), k ≤ LL.length ∧ i = .int .i64 k ∧ Hid (En wr w.heap.size ge1 g1 va L M false 0 ∧ En wr w.heap.size ge2 g2 vb L M false 0 ∧ Dis (EB ge1 g1 va) (EB ge2 g2 vb)) ∧ Hid (tot L ≤ M) ∧ Hid (Below w.heap.size w wr))
      (fun i _ => LL.length - (intOf i).toNat)
    case atStart => exact ⟨0, _, _, [], Nat.zero_le _, rfl, ⟨HE3.out, HE2.out, HD3.out⟩, HT0, HB3⟩
    case round =>
      clear HE3 HE2 HD3 HT0 HB3
      obtain ⟨k, va, vb, L, hk, rfl, hS, hT, hW⟩ := hrel
      by_cases hlt : k < LL.length
      · obtain ⟨q, o, rfl, hq, f0⟩ := (hR.below hW.out).head hlt
        have hfe := HFew.out.2 _ (List.getElem_mem hlt)
        have hok := LL[k].ok
        generalize LL[k].at_ = Ak at *
        generalize LL[k].room = ck at *
        generalize LL[k].els = F at *
        have hFl : F.length ≤ 100 := hfe.1
        have HFe : Hid (∀ f ∈ F, f.nm.length ≤ 9000 ∧ f.vl.length ≤ 9000) := fun f hf => by have := hfe.2.1 f hf; unfold sz at this; omega
        have HSu : Hid (sumK F ≤ 10 + F.length * 9010 ∧ (putA M L F).length + 10 ≤ sumK F) := ⟨sumK_le hfe.2.1, putA_sum hM hT.out HFe.out⟩
        have HRF : Hid (RdS w (· < w.heap.size) Ak (enl fdc F)) := hok.2.2
        have hws : w.heap.size ≤ wr.heap.size := hW.out.size
        have hput := put_any (c := ck) hS.out.1 hM hT.out (by omega) (HRF.out.below hW.out) (fun k hk => by
          have h1 := hS.out.1.lo
          have h2 := hS.out.1.t.low
          exact ⟨by omega, by omega, by omega, fun e => by have := (hS.out.1.vlt e).1; omega⟩) HFe.out (by omega)
        unfold pt at hput
        have hll : limL false 0 M = [] := by unfold limL; rfl
        rw [hll, List.nil_append] at hput
        have HSk : Hid (∀ j, sumK (F.take j) ≤ 901010) := fun j => by
          have h1 := sumK_le (F := F.take j) fun f hf => hfe.2.1 f (List.mem_of_mem_take hf)
          have h2 : (F.take j).length ≤ 100 := by rw [List.length_take]; omega
          omega
        have HS0 : Hid (sumK (F.take 0) = 10) := by show _ = _; unfold sumK; simp
        have HSn : Hid (∀ j, (hj : j < F.length) → sumK (F.take (j + 1)) = sumK (F.take j) + (F[j].nm.length + F[j].vl.length + 10)) := fun j hj => sumK_take hj
        have HSf : Hid (sumK (F.take F.length) = sumK F) := by show _ = _; rw [List.take_length]
        clear hfe hok
        generalize hX : putA M L F = X at *
        generalize hL2 : tabA M L F = L2 at *
        have hT2 : Hid (tot L2 ≤ M) := by show _ ≤ _; rw [← hL2]; exact tabA_le hT.out
        have HX2 := Lib.hid (And.intro hX hL2)
        clear hX hL2
        have hXl : X.length ≤ 1000000 := by have := HSu.out.1; have := HSu.out.2; omega
        go_wp2_with fail
        refine hput.mono ?_
        rintro e w4 ⟨xv, va4, rfl, hP⟩
        obtain ⟨Ax, cx, rfl, hcx⟩ := hP.bo.shape
        have HE1 := Lib.hid hP.en
        have HE2 := Lib.hid (hS.out.2.1.dis hP.fs hS.out.2.2.symm)
        have HW4 : Hid (Below w.heap.size w w4) := hW.out.trans (hP.fs.below (fun k hk _ => (hS.out.1.eb hk).1) hws)
        have HD4 : Hid (Dis (EB ge1 g1 va4) (EB ge2 g2 vb)) := hS.out.2.2.next hP.nx fun k hk => (hS.out.2.1.eb hk).2
        have HXo : Hid (Bo w4 w.heap.size 5 (.slice Ax X.length cx) X) := OwS.mono hP.bo hws
        have HXn : Hid (∀ k, ob (.slice Ax X.length cx) k → ¬ EB ge2 g2 vb k) := fun k hk e => by
          have h1 := (hP.bo.lt hk).1
          have h2 := (hS.out.2.1.eb e).2
          omega
        have hput2 := put_any (c := ck) HE2.out hM hT.out (by omega) (HRF.out.below HW4.out) (fun k hk => by
          have h1 := HE2.out.lo
          have h2 := HE2.out.t.low
          have h3 := HW4.out.size
          exact ⟨by omega, by omega, by omega, fun e => by have := (HE2.out.vlt e).1; omega⟩) HFe.out (by omega)
        rw [hll, List.nil_append, HX2.out.1, HX2.out.2] at hput2
        unfold pt at hput2
        clear hP hput hS hW hws
        go_wp2_with fail
        refine hput2.mono ?_
        rintro e w5 ⟨yv, vb5, rfl, hP⟩
        obtain ⟨Ay, cy, rfl, hcy⟩ := hP.bo.shape
        have HE1b := Lib.hid (HE1.out.dis hP.fs HD4.out)
        have HE2b := Lib.hid hP.en
        have HW5 : Hid (Below w.heap.size w w5) := HW4.out.trans (hP.fs.below (fun k hk _ => (HE2.out.eb hk).1) HW4.out.size)
        have HD5 : Hid (Dis (EB ge1 g1 va4) (EB ge2 g2 vb5)) := (HD4.out.symm.next hP.nx fun k hk => (HE1.out.eb hk).2).symm
        have HXo5 : Hid (Bo w5 w.heap.size 5 (.slice Ax X.length cx) X) := hP.fs.owns HXo.out fun k hk => HXn.out k hk
        have HYo := Lib.hid hP.bo
        have HYn : Hid ((∀ k, ob (.slice Ay X.length cy) k → ¬ EB ge1 g1 va4 k) ∧ ∀ k, ob (.slice Ay X.length cy) k → ¬ EB ge2 g2 vb5 k) := by
          show _ ∧ _
          refine ⟨fun k hk e => ?_, fun k hk e => ?_⟩
          · have h1 := (hP.bo.lt hk).1
            have h2 := (HE1.out.eb e).2
            omega
          · have h1 := (hP.bo.lt hk).1
            rcases e with e | e | e
            · have := HE2.out.lt; omega
            · have := HE2.out.t.lt; omega
            · exact hP.ap k hk e
        have hs5 : w4.heap.size ≤ w5.heap.size := hP.fs.size
        have hs6 : w.heap.size ≤ w4.heap.size := HW4.out.size
        clear hP hput2 HE1 HE2 HW4 HD4 HXo HXn
        go_wp2_with fail
        go_loopw [11, 35] (fun n i wj => ∃ (j T : Nat), j ≤ F.length ∧ i = .int .i64 j ∧ n = .int .i64 T ∧ T ≤ 901010 ∧ Hid (T = sumK (F.take j)) ∧ Hid (Below w5.heap.size w5 wj))
          (fun _ i _ => F.length - (intOf i).toNat)
        case atStart => exact ⟨0, 10, Nat.zero_le _, rfl, rfl, by omega, HS0.out.symm, Below.refl _ _⟩
        case round =>
          obtain ⟨j, T, hj, rfl, rfl, hT1, hTe, hWj⟩ := hrel
          have HWj : Hid (Below w.heap.size w wr) := HW5.out.trans (hWj.out.mono (by omega))
          by_cases hltj : j < F.length
          · obtain ⟨qf, of, rfl, hqf, e0, e1, e2⟩ := (HRF.out.below HWj.out).field hltj
            have hsn := HSn.out j hltj
            have hsk := HSk.out (j + 1)
            unfold tx at e0 e1
            rw [← hTe.out] at hsn
            have HTn : Hid (T + (F[j].nm.length + F[j].vl.length + 10) = sumK (F.take (j + 1))) := hsn.symm
            rw [hsn] at hsk
            clear hsn
            generalize F[j].nm = p at *
            generalize F[j].vl = r at *
            generalize F[j].nv = z at *
            have hp := tx_size p
            have hr := tx_size r
            have HWn : Hid (Below w5.heap.size w5 (wr.alloc (.cells #[.string ⟨p.toArray⟩, .string ⟨r.toArray⟩, .bool z] 52))) := hWj.out.alloc hWj.out.size _
            clear hWj HWj hTe
            go_wp2_with fail
            go_roundw
            case rel => exact ⟨j + 1, T + (p.length + r.length + 10), by omega, by go_num, by (congr 1), hsk, HTn, HWn⟩
            case measure => simp [intOf]; omega
          · obtain rfl : j = F.length := by omega
            have hle : X.length ≤ T := by have h1 := HSu.out.2; have h2 := hTe.out; have h3 := HSf.out; omega
            have hsz5 := hWj.out.size
            have hbx := HXo5.out.below hWj.out
            have hby := HYo.out.below hWj.out
            have htx := run_text (P := Try.prog) (c := cx) Try.underlying38 Try.underlying5 Try.underlying9 hbx.reads
            have hty := run_text (P := Try.prog) (c := cy) Try.underlying38 Try.underlying5 Try.underlying9 hby.reads
            obtain ⟨i0, hi0, hz0, hz1, hz2⟩ := info_parts u8_info
            obtain ⟨A', w7, hup, hcl, hgr, _, _, _⟩ := run_shed (P := Try.prog) wr w4.heap.size 38 5 i0 (.int .u8 0) 1 Try.underlying38 hi0 hz0 hz1 rfl (by intro u hu; simp [Value.cells] at hu; subst hu; rfl) hby X.length (Nat.le_refl _)
            have hF7 : Fs (ob (.slice Ay X.length cy)) wr w7 := Fs.of_grown hgr
            have HE1c : Hid (En w7 w.heap.size ge1 g1 va4 L2 M false 0) := (HE1b.out.below hWj.out).dis hF7 fun k h1 h2 => HYn.out.1 k h2 h1
            have HE2c : Hid (En w7 w.heap.size ge2 g2 vb5 L2 M false 0) := (HE2b.out.below hWj.out).dis hF7 fun k h1 h2 => HYn.out.2 k h2 h1
            have HW7 : Hid (Below w.heap.size w w7) := HWj.out.trans (hF7.below (fun k hk _ => by have := (HYo.out.lt hk).1; omega) HWj.out.size)
            have hd1 : decide (T < X.length) = false := by simp; omega
            have hd2 : decide ((T : Int) < (X.length : Int)) = false := by simp; omega
            clear hup hF7 hgr hbx hby HE1b HE2b HYn hTe hWj HWj HXo5 HYo hle
            go_wp2_with fail
            go_roundw
            case rel => exact ⟨k + 1, va4, vb5, L2, by omega, by go_num, ⟨HE1c.out, HE2c.out, HD5.out⟩, hT2, HW7⟩
            case measure => simp [intOf]; omega
      · go_wp2_with fail
        refine (fixed_any _).mono ?_
        rintro e w5 ⟨rfl, hb5⟩
        have HB5 := Lib.hid (hW.out.trans (hb5.mono hW.out.size))
        clear hb5
        go_wp2_with fail
        go_ret
        exact ⟨rfl, HB5.out⟩
theorem same_law' {w : World} {A : Option Addr} {c : Nat} {LL : List (Hd w Fd fdc)} (a : Int) (b : 0 ≤ a ∧ a < 4294967296) (hR : RdS w (· < w.heap.size) A (enl hdc LL)) (hl : LL.length ≤ 9223372036854775807) :
    Calls Try.prog 5 #[.int .u32 a, .slice A LL.length c] w fun e w' => e = .returned (.bool true) ∧ Below w.heap.size w w' := by
  obtain ⟨m, rfl⟩ := Int.eq_ofNat_of_zero_le b.1
  exact same_law m (by omega) hR hl
end Go.Proofs.Ytfajffchnnalaaa
