/-
  MessageGreat: the law's walk. Conditions: errors.errorType holds what the program's text lays.
-/
import Derived.Test.YtdegpchofhnipaaDoorMlp
namespace Go.Proofs.YtdegpchofhnipaaDoor
open Go.RowKit Go.WideShapes

theorem sizeM_nat {m : Nat} (h : 1 ≤ m ∧ m ≤ 4096) : sizeM (m : Int) = m := by unfold sizeM; split <;> (try split) <;> omega
set_option maxRecDepth 100000 in
set_option maxHeartbeats 8000000 in
theorem mwgreat_law {n most : Nat} (hn : n < 65536) (hm : most < 65536) {w : World} (hG : GlobE w) : Calls Tryd.prog 8 #[.int .u16 (n : Int), .int .u16 (most : Int)] w fun e w' => e = .returned (.bool true) ∧ Below w.heap.size w w' := by
  obtain ⟨k, hk⟩ : ∃ k, k = n % 9001 := ⟨_, rfl⟩
  obtain ⟨m, hmm⟩ : ∃ m, m = 1 + most % 4096 := ⟨_, rfl⟩
  have r1 : (n : Int).tmod 9001 = (k : Int) := by rw [hk]; rfl
  have r2 : (n : Int) % 9001 = (k : Int) := by omega
  have r3 : IntKind.i64.wrap (1 + (most : Int).tmod 4096) = (m : Int) := by
    rw [show (most : Int).tmod 4096 = ((most % 4096 : Nat) : Int) from rfl, IntWalk.i64_in _ (by omega)]
    omega
  have r4 : 1 + (most : Int) % 4096 = (m : Int) := by omega
  have hk9 : k < 9001 := by omega
  have hm1 : 1 ≤ m ∧ m ≤ 4096 := by omega
  have HK9 := Lib.hid hk9
  have HM1 := Lib.hid hm1
  have hsz := sizeM_nat hm1
  have hnew := mnew_any w hG
  have HG := Lib.hid hG
  have hmk := makeI k (by omega)
  obtain ⟨Z, hZ⟩ : ∃ Z, Z = List.replicate k (0 : UInt8) := ⟨_, rfl⟩
  have hZl : Z.length = k := by rw [hZ]; exact List.length_replicate
  rw [← hZ] at hmk
  have HZL := Lib.hid hZl
  clear hG hk hmm hZ hk9 hm1 hZl
  go_enter Tryd.func8, Tryd.ntmps8
  go_wp2_with fail
  refine hnew.mono ?_
  rintro e w1 ⟨rfl, hmg, hb⟩
  have HX1 := Lib.hid (GX.start (Below.refl _ w) hmg hb HG.out)
  clear hmg hb hnew
  have HBZ : Hid (Below w1.heap.size w1 (w1.alloc (.cells (byc Z).toArray 5))) := (Below.refl _ _).alloc (Nat.le_refl _) _
  have HRZ : Hid (RdB (w1.alloc (.cells (byc Z).toArray 5)) (w1.alloc (.cells (byc Z).toArray 5)).heap.size (some ⟨w1.heap.size, 0, none⟩) Z) := RdB.rowI (Row.new w1 5 (byc Z).toArray) (by simp) (by simp)
  generalize w.heap.size = g at *
  go_upto_region 5 with fail
  clear r1 r2 r3 r4
  go_wp2_with fail
  have hcut := mcut_any (text := false) (most := (m : Int)) (c := k) (by rw [HZL.out]; have := HK9.out; omega) HRZ.out (by rw [HZL.out]; exact Nat.le_refl _)
  rw [hsz, HZL.out] at hcut
  have HX2 := Lib.hid (HX1.out.below HBZ.out)
  clear HX1 HBZ HRZ hmk hsz
  generalize w1.alloc (.cells (byc Z).toArray 5) = w2 at *
  generalize w1.heap.size = gz at *
  refine hcut.mono ?_
  rintro e w3 ⟨A3, c3, L, rfl, hcu, hok, hpl, hb3⟩
  have HL3 := Lib.hid (LP.start HX2.out hb3 hpl hok)
  have HCU := Lib.hid hcu
  clear hcut hcu hok hpl hb3 HX2
  generalize w2.heap.size = lo at *
  obtain ⟨hi, hhi⟩ : ∃ hi, hi = w3.heap.size := ⟨_, rfl⟩
  rw [← hhi] at HL3
  clear hhi
  have HLN : Hid ((L.map Pe.key3).length = L.length) := List.length_map ..
  have hcnt := HCU.out.count HM1.out.1
  have HCN : Hid (L.length ≤ 9002) := by show _ ≤ _; rw [HLN.out, HZL.out] at hcnt; have := HK9.out; omega
  have hcat := HCU.out.cat.1
  have HCT : Hid ((catM (L.map Pe.key3)).length = k) := by show _ = _; rw [hcat]; exact HZL.out
  have HST : Hid (∀ j (hj : j < L.length), takeM (stG (L.map Pe.key3) j) L[j].p.op L[j].p.fin L[j].p.dat = (stG (L.map Pe.key3) (j + 1), ouG (L.map Pe.key3) Z j) ∧ L[j].p.fin = decide (j + 1 = L.length) ∧ (catM ((L.map Pe.key3).take (j + 1))).length = (catM ((L.map Pe.key3).take j)).length + L[j].p.dat.length) := fun j hj => by
    have hj' : j < (L.map Pe.key3).length := by rw [HLN.out]; exact hj
    have h1 := great_step HCU.out hj'
    have h2 := (HCU.out.get j hj').2.1
    have h3 := congrArg List.length (catM_snoc (L.map Pe.key3) hj')
    rw [List.length_append] at h3
    rw [HLN.out] at h2
    simp only [List.getElem_map] at h1 h2 h3
    exact ⟨h1, h2, h3⟩
  have HLE : Hid (∀ j, (catM ((L.map Pe.key3).take j)).length ≤ k) := fun j => by rw [← HCT.out]; exact catM_take_le _ j
  have HOU : Hid (∀ j, ouG (L.map Pe.key3) Z j = if 4096 < (catM ((L.map Pe.key3).take j)).length then none else if 4096 < (catM ((L.map Pe.key3).take (j + 1))).length then some ⟨5, false, 1009, []⟩ else if j + 1 = L.length then some ⟨1, false, 0, Z⟩ else none) := fun j => by unfold ouG; rw [HLN.out]
  have HOV : Hid ((stG (L.map Pe.key3) L.length).over = decide (4096 < k)) := by
    show _ = _
    have h1 : (catM ((L.map Pe.key3).take L.length)).length = k := by rw [← HCT.out, ← HLN.out, List.take_length]
    unfold stG
    rw [h1]
    by_cases h : 4096 < k
    · rw [if_pos h, decide_eq_true h]; rfl
    · rw [if_neg h, if_pos (.inr HLN.out.symm), decide_eq_false h]; rfl
  have HG0 : Hid (stG (L.map Pe.key3) 0 = gg0) := rfl
  have HC0 : Hid ((catM ((L.map Pe.key3).take 0)).length = 0) := rfl
  rw [← HG0.out] at HL3
  clear HCU hcnt hcat HCT HG0
  generalize L.map Pe.key3 = l at *
  go_upto_region 6 with fail
  go_loopw [27, 8] (fun i h wr => ∃ j had : Nat, j ≤ L.length ∧ i = .int .i64 j ∧ h = .int .i64 had ∧ Hid (had = (catM (l.take j)).length) ∧ Hid (LP w g lo hi A3 L (stG l j) wr)) (fun i _ _ => L.length - (intOf i).toNat)
  case atStart => exact ⟨0, 0, Nat.zero_le _, rfl, rfl, HC0.out.symm, HL3⟩
  case round =>
    clear HL3 HC0
    obtain ⟨j, had, hj, rfl, rfl, HHD, HLP⟩ := hrel
    by_cases hlt : j < L.length
    · have hjn : (j : Int) < (L.length : Int) := by omega
      obtain ⟨b, q, rfl, hb, hr⟩ := HLP.out.at_ hlt
      obtain ⟨hst, hfin, hlen⟩ := HST.out j hlt
      have hou := HOU.out j
      have hle := HLE.out (j + 1)
      have hdl : L[j].p.dat.length ≤ 100000 := by have := HK9.out; omega
      have htk : ∀ W, LP w g lo hi (some ⟨b, q, none⟩) L (stG l j) W → Calls Tryd.prog 12 #[.pointer (some ⟨g, 0, none⟩), .agg (pcA L[j].p L[j].A L[j].c)] W (TakeL w g lo hi (some ⟨b, q, none⟩) L W (stG l (j + 1), ouG l Z j)) := fun W hW => by
        have h := hW.take hlt hdl
        rw [hst] at h
        exact h
      rw [← HHD.out] at hou hlen
      obtain ⟨e, he⟩ : ∃ e, e = L[j] := ⟨_, rfl⟩
      rw [← he] at hr hst hfin hlen htk
      obtain ⟨had2, hh2⟩ : ∃ had2, had2 = (catM (l.take (j + 1))).length := ⟨_, rfl⟩
      rw [← hh2] at hou hlen hle
      have HH2 := Lib.hid hh2
      have HTK := Lib.hid htk
      have hwr : IntKind.i64.wrap ((had : Int) + (e.p.dat.length : Int)) = (had2 : Int) := by rw [IntWalk.i64_in _ (by have := HK9.out; omega)]; omega
      have hw1 : IntKind.i64.wrap ((j : Int) + 1) = (j : Int) + 1 := IntWalk.i64_in _ (by have := HCN.out; omega)
      have hd9 : decide ((10000 : Int) < (j : Int)) = false := decide_eq_false (by have := HCN.out; omega)
      have hd9' : decide (10000 < j) = false := decide_eq_false (by have := HCN.out; omega)
      obtain ⟨hp1, hp2, hp3⟩ := pieceM wr (pcA e.p e.A e.c)
      have HP1 := Lib.hid hp1
      have HP4 := Lib.hid hp2
      have HL4 := Lib.hid (HLP.out.below hp3)
      have HMON : Hid (had ≤ had2) := by show _ ≤ _; omega
      have HJL := Lib.hid hlt
      clear hp1 hp2 hp3 he hh2 htk hst hle hdl hb HLP HHD hlt
      go_upto_region 8 with (first
        | (refine wpList_ldm rfl _ rfl rfl hr (pcA_ok _ _ _) ?_)
        | (refine wpList_sw (cs := pcA e.p e.A e.c) rfl _ _ rfl rfl rfl HP1.out rfl (pcA_ok _ _ _) ?_))
      rw [zp_eq]
      clear HP1 hr
      generalize (wr.alloc (.cells zpJ 32)).setRow wr.heap.size (pcA e.p e.A e.c) = w4 at *
      generalize wr.heap.size = p10 at *
      have p4 : w4.cell? ⟨p10, 4, none⟩ = some (.slice e.A e.p.dat.length e.c) := (pc_cells HP4.out).2.2.2.2
      have HFN := Lib.hid hfin
      have HLX := Lib.hid hlen
      clear hfin hlen
      generalize e.p.dat.length = dl at *
      go_upto_region 10 with fail
      clear p4 hwr
      go_wp2_with (refine wpList_ld (cs := pcA e.p e.A e.c) rfl _ rfl rfl HP4.out (pcA_ok _ _ _) ?_)
      refine (HTK.out _ HL4.out).mono ?_
      by_cases hA : 4096 < had
      · have o1 : ouG l Z j = none := by rw [hou, if_pos hA]
        rw [o1]
        have d1 : decide ((4096 : Int) < (had : Int)) = true := decide_eq_true (by omega)
        have d1' : decide (4096 < had) = true := decide_eq_true hA
        clear hou o1 hA
        clear HTK HL4
        rintro e5 w5 ⟨A5, c5, rfl, _, hlp, hodd⟩
        obtain ⟨hn1, hn2, hn3⟩ := noteM w5 (ntc 0 false A5 0 c5 0)
        have HN1 := Lib.hid hn1
        have HN6 : Hid (Row _ w5.heap.size 34 (ntc 0 false A5 0 c5 0)) := Lib.hid hn2
        have HP6 := Lib.hid ((hodd _ _ _ HP4.out (by decide) (by decide) (by decide)).upM hn3)
        have HL6 := Lib.hid (hlp.below hn3)
        clear hn1 hn2 hn3 hlp hodd HP4
        go_upto_region 11 with (refine wpList_sw (cs := (ntc 0 false A5 0 c5 0)) rfl _ _ rfl rfl rfl HN1.out rfl (nt_ok _ _ _ _ _ _) ?_)
        rw [nt0_eq]
        clear HN1
        generalize (w5.alloc (.cells (ntc 0 false none 0 0 0) 34)).setRow w5.heap.size (ntc 0 false A5 0 c5 0) = w6 at *
        generalize w5.heap.size = p12 at *
        go_wp2_with fail
        go_roundw
        case rel => exact ⟨j + 1, had2, by have := HJL.out; omega, by go_num, rfl, HH2.out, HL6⟩
        case measure => have := HJL.out; simp [intOf]; omega
      have d1 : decide ((4096 : Int) < (had : Int)) = false := decide_eq_false (by omega)
      have d1' : decide (4096 < had) = false := decide_eq_false hA
      by_cases hB : 4096 < had2
      · have o1 : ouG l Z j = some ⟨5, false, 1009, []⟩ := by rw [hou, if_neg hA, if_pos hB]
        rw [o1]
        have d2 : decide ((4096 : Int) < (had2 : Int)) = true := decide_eq_true (by omega)
        have d2' : decide (4096 < had2) = true := decide_eq_true hB
        clear hou o1 hA hB
        clear HTK HL4
        rintro e5 w5 ⟨A5, c5, rfl, _, hlp, hodd⟩
        obtain ⟨hn1, hn2, hn3⟩ := noteM w5 (ntc 5 false A5 0 c5 1009)
        have HN1 := Lib.hid hn1
        have HN6 : Hid (Row _ w5.heap.size 34 (ntc 5 false A5 0 c5 1009)) := Lib.hid hn2
        have HP6 := Lib.hid ((hodd _ _ _ HP4.out (by decide) (by decide) (by decide)).upM hn3)
        have HL6 := Lib.hid (hlp.below hn3)
        clear hn1 hn2 hn3 hlp hodd HP4
        go_upto_region 11 with (refine wpList_sw (cs := (ntc 5 false A5 0 c5 1009)) rfl _ _ rfl rfl rfl HN1.out rfl (nt_ok _ _ _ _ _ _) ?_)
        rw [nt0_eq]
        clear HN1
        generalize (w5.alloc (.cells (ntc 0 false none 0 0 0) 34)).setRow w5.heap.size (ntc 5 false A5 0 c5 1009) = w6 at *
        generalize w5.heap.size = p12 at *
        have c0 : w6.cell? ⟨p12, 0, none⟩ = some (.int .u8 5) := (nt_cells HN6.out).1
        have c3' : w6.cell? ⟨p12, 3, none⟩ = some (.int .u32 1009) := (nt_cells HN6.out).2.2.2
        go_wp2_with fail
        go_roundw
        case rel => exact ⟨j + 1, had2, by have := HJL.out; omega, by go_num, rfl, HH2.out, HL6⟩
        case measure => have := HJL.out; simp [intOf]; omega
      have d2 : decide ((4096 : Int) < (had2 : Int)) = false := decide_eq_false (by omega)
      have d2' : decide (4096 < had2) = false := decide_eq_false hB
      by_cases hC : j + 1 = L.length
      · have o1 : ouG l Z j = some ⟨1, false, 0, Z⟩ := by rw [hou, if_neg hA, if_neg hB, if_pos hC]
        rw [o1]
        have HF : Hid (e.p.fin = true) := by show _ = _; rw [HFN.out]; exact decide_eq_true hC
        clear hou o1 hA hB hC
        clear HTK HL4
        rintro e5 w5 ⟨A5, c5, rfl, _, hlp, hodd⟩
        obtain ⟨hn1, hn2, hn3⟩ := noteM w5 (ntc 1 false A5 Z.length c5 0)
        have HN1 := Lib.hid hn1
        have HN6 : Hid (Row _ w5.heap.size 34 (ntc 1 false A5 Z.length c5 0)) := Lib.hid hn2
        have HP6 := Lib.hid ((hodd _ _ _ HP4.out (by decide) (by decide) (by decide)).upM hn3)
        have HL6 := Lib.hid (hlp.below hn3)
        clear hn1 hn2 hn3 hlp hodd HP4
        go_upto_region 11 with (refine wpList_sw (cs := (ntc 1 false A5 Z.length c5 0)) rfl _ _ rfl rfl rfl HN1.out rfl (nt_ok _ _ _ _ _ _) ?_)
        rw [nt0_eq]
        clear HN1
        generalize (w5.alloc (.cells (ntc 0 false none 0 0 0) 34)).setRow w5.heap.size (ntc 1 false A5 Z.length c5 0) = w6 at *
        generalize w5.heap.size = p12 at *
        have c0 : w6.cell? ⟨p12, 0, none⟩ = some (.int .u8 1) := (nt_cells HN6.out).1
        have c2' : w6.cell? ⟨p12, 2, none⟩ = some (.slice A5 k c5) := by rw [← HZL.out]; exact (nt_cells HN6.out).2.2.1
        have p0 : w6.cell? ⟨p10, 0, none⟩ = some (.bool true) := by rw [← HF.out]; exact (pc_cells HP6.out).1
        go_wp2_with fail
        go_roundw
        case rel => exact ⟨j + 1, had2, by have := HJL.out; omega, by go_num, rfl, HH2.out, HL6⟩
        case measure => have := HJL.out; simp [intOf]; omega
      · have o1 : ouG l Z j = none := by rw [hou, if_neg hA, if_neg hB, if_neg hC]
        rw [o1]
        have HF : Hid (e.p.fin = false) := by show _ = _; rw [HFN.out]; exact decide_eq_false hC
        clear hou o1 hA hB hC
        clear HTK HL4
        rintro e5 w5 ⟨A5, c5, rfl, _, hlp, hodd⟩
        obtain ⟨hn1, hn2, hn3⟩ := noteM w5 (ntc 0 false A5 0 c5 0)
        have HN1 := Lib.hid hn1
        have HN6 : Hid (Row _ w5.heap.size 34 (ntc 0 false A5 0 c5 0)) := Lib.hid hn2
        have HP6 := Lib.hid ((hodd _ _ _ HP4.out (by decide) (by decide) (by decide)).upM hn3)
        have HL6 := Lib.hid (hlp.below hn3)
        clear hn1 hn2 hn3 hlp hodd HP4
        go_upto_region 11 with (refine wpList_sw (cs := (ntc 0 false A5 0 c5 0)) rfl _ _ rfl rfl rfl HN1.out rfl (nt_ok _ _ _ _ _ _) ?_)
        rw [nt0_eq]
        clear HN1
        generalize (w5.alloc (.cells (ntc 0 false none 0 0 0) 34)).setRow w5.heap.size (ntc 0 false A5 0 c5 0) = w6 at *
        generalize w5.heap.size = p12 at *
        have p0 : w6.cell? ⟨p10, 0, none⟩ = some (.bool false) := by rw [← HF.out]; exact (pc_cells HP6.out).1
        go_wp2_with fail
        go_roundw
        case rel => exact ⟨j + 1, had2, by have := HJL.out; omega, by go_num, rfl, HH2.out, HL6⟩
        case measure => have := HJL.out; simp [intOf]; omega
    · obtain rfl : j = L.length := by omega
      have hfx := fixed18_any wr HLP.out.gx.gl
      have d1 : decide ((4096 : Int) < (k : Int)) = decide (4096 < k) := by rw [decide_eq_decide]; omega
      clear HHD
      go_wp2_with fail
      refine hfx.mono ?_
      rintro e5 w5 ⟨rfl, hb⟩
      have hov := (HLP.out.gx.below hb).over
      rw [HOV.out] at hov
      have HBL := Lib.hid (HLP.out.gx.below hb).bl
      clear hb hfx HLP HOV
      generalize decide (4096 < k) = q at *
      go_wp2_with fail
      refine hov.mono ?_
      rintro e6 w6 ⟨rfl, rfl⟩
      go_wp2_with fail
      go_ret
      exact ⟨by cases q <;> rfl, HBL.out⟩
end Go.Proofs.YtdegpchofhnipaaDoor
