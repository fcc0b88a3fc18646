/-
  MessageRow: the law's walk. Conditions: the bytes are read; errors.errorType holds what the program's text lays.
-/
import Derived.Test.YtdegpchofhnipaaDoorMwk
import Derived.Test.YtdegpchofhnipaaDoorMon
namespace Go.Proofs.YtdegpchofhnipaaDoor
open Go.RowKit Go.WideShapes

set_option maxRecDepth 100000 in
set_option maxHeartbeats 4000000 in
theorem mwrow_big {A : Option Addr} {n c most code : Nat} {w : World} (hG : GlobE w) (hbig : 20 < n) : Calls Tryd.prog 7 #[.slice A n c, .int .u8 (most : Int), .int .u32 (code : Int)] w fun e w' => e = .returned (.bool true) ∧ Below w.heap.size w w' := by
  have hfx := fixed18_any w hG
  have hd1 : decide ((20 : Int) < (n : Int)) = true := decide_eq_true (by omega)
  have hd2 : decide (20 < n) = true := decide_eq_true hbig
  go_enter Tryd.func7, Tryd.ntmps7
  go_wp2_with fail
  refine hfx.mono ?_
  rintro e w1 ⟨rfl, hb1⟩
  go_wp2_with fail
  go_ret
  exact ⟨rfl, hb1⟩
theorem stR_end (l : List (Nat × Bool × List UInt8)) (t : Bool) : stR l t l.length = gg0 := if_pos (.inr rfl)
set_option maxRecDepth 100000 in
set_option maxHeartbeats 16000000 in
theorem mwrow_small {w : World} {A : Option Addr} {L : List (HdM w UInt8 byvM)} {c most code : Nat} (hra : RdS w (· < w.heap.size) A (enl hdcM L)) (hm : most < 256) (hG : GlobE w) (hL : L.length ≤ 20) :
    Calls Tryd.prog 7 #[.slice A L.length c, .int .u8 (most : Int), .int .u32 (code : Int)] w fun e w' => e = .returned (.bool true) ∧ Below w.heap.size w w' := by
  have hd1 : decide ((20 : Int) < (L.length : Int)) = false := decide_eq_false (by omega)
  have hd2 : decide (20 < L.length) = false := decide_eq_false (by omega)
  have HG := Lib.hid hG
  have HAT : Hid (∀ i, i < L.length → ∃ (b q : Nat) (A' : Option Addr) (d : List UInt8) (c : Nat), A = some ⟨b, q, none⟩ ∧ (∀ W', Below w.heap.size w W' → W'.cell? ⟨b, q + i, none⟩ = some (.slice A' d.length c)) ∧ RdB w w.heap.size A' d ∧ d.length ≤ c) := fun i hi => by
    obtain ⟨b, q, A', d, c, h1, h2, h3, h4⟩ := blockM hra hi (Below.refl _ w)
    exact ⟨b, q, A', d, c, h1, fun W' hW => (hW.cell (p := ⟨b, q + i, none⟩) (by
      obtain ⟨b', q', e, hlt, _⟩ := RdS.headM hra hi
      rw [h1] at e
      injection e with e
      injection e with e _ _
      show b < w.heap.size
      rw [e]; exact hlt)).trans h2, h3, h4⟩
  have HN20 := Lib.hid hL
  have hnew := mnew_any w hG
  clear hG hra hL
  generalize L.length = N at *
  go_enter Tryd.func7, Tryd.ntmps7
  go_upto_region 3 with fail
  clear hd1 hd2
  go_wp2_with fail
  refine hnew.mono ?_
  rintro e w1 ⟨rfl, hmg, hb⟩
  have HX1 : Hid (GX w w.heap.size (fun _ => False) gg0 w1) := (GX.start (Below.refl _ w) hmg hb HG.out).sub fun _ _ h => h.elim
  clear hmg hb hnew
  obtain ⟨g, hg⟩ : ∃ g, g = w.heap.size := ⟨_, rfl⟩
  rw [← hg] at HX1 ⊢
  clear hg
  go_upto_region 5 with fail
  go_loopw [30] (fun i wr => ∃ j : Nat, j ≤ N ∧ i = .int .i64 j ∧ Hid (GX w g (fun _ => False) gg0 wr)) (fun i _ => N - (intOf i).toNat)
  case atStart => exact ⟨0, Nat.zero_le _, rfl, HX1⟩
  case round =>
    clear HX1
    obtain ⟨j, hj, rfl, HX⟩ := hrel
    by_cases hlt : j < N
    · have hjn : (j : Int) < (N : Int) := by omega
      obtain ⟨bb, q, Ab, b, cb, rfl, hcel, hrb, hcb⟩ := HAT.out j hlt
      have hcell := hcel _ HX.out.bl
      clear hcel
      have hw1 : IntKind.i64.wrap ((j : Int) + 1) = (j : Int) + 1 := IntWalk.i64_in _ (by have := HN20.out; omega)
      have HJL := Lib.hid hlt
      by_cases hbig : 500 < b.length
      · have hd1 : decide ((500 : Int) < (b.length : Int)) = true := decide_eq_true (by omega)
        have hd2 : decide (500 < b.length) = true := decide_eq_true hbig
        have hfx := fixed18_any wr HX.out.gl
        clear hrb hcb
        go_wp2_with fail
        refine hfx.mono ?_
        rintro e w2 ⟨rfl, hb⟩
        have HB2 := Lib.hid (HX.out.below hb).bl
        clear hb hfx
        go_wp2_with fail
        go_ret
        exact ⟨rfl, HB2.out⟩
      · have hd1 : decide ((500 : Int) < (b.length : Int)) = false := decide_eq_false (by omega)
        have hd2 : decide (500 < b.length) = false := decide_eq_false hbig
        have HBL : Hid (b.length ≤ 500) := Nat.le_of_not_lt hbig
        have htx : (convert 30 9 (.slice Ab b.length cb)).run Tryd.prog wr = .ok (.string (txb b)) wr := run_text (P := Tryd.prog) (c := cb) Tryd.underlying30 Tryd.underlying5 Tryd.underlying9 (hrb.below HX.out.bl)
        have hgd := rgood_any (l := b) (by omega) wr
        have hmw : IntKind.i64.wrap (most : Int) = (most : Int) := IntWalk.i64_in _ (by omega)
        have HTA : Hid (∀ W, Below w.heap.size w W → (convert 30 9 (.slice Ab b.length cb)).run Tryd.prog W = .ok (.string (txb b)) W) := fun W hW => run_text (P := Tryd.prog) (c := cb) Tryd.underlying30 Tryd.underlying5 Tryd.underlying9 (hrb.below hW)
        have HRB := Lib.hid hrb
        have HCB := Lib.hid hcb
        generalize (goN ut0 (nats b)).1 = gn at *
        obtain ⟨wh, hwh⟩ : ∃ wh, wh = txtB (nats b) := ⟨_, rfl⟩
        have HWH := Lib.hid hwh
        rw [← hwh] at hgd
        obtain ⟨y, hy⟩ : ∃ y, y = txb b := ⟨_, rfl⟩
        have HYB := Lib.hid hy
        rw [← hy] at htx hgd HTA
        clear hy hwh hrb hcb hbig
        go_wp2_with fail
        refine hgd.mono ?_
        rintro e w2 ⟨rfl, hb2⟩
        have HX2 := Lib.hid (HX.out.below hb2)
        have hcut := mcut_any (text := wh) (most := (most : Int)) (c := cb) (by have := HBL.out; omega) ((HRB.out.below HX2.out.bl).more HX2.out.bl.size) HCB.out
        clear hgd htx hb2 HX hcell hd1 hd2
        go_wp2_with fail
        refine hcut.mono ?_
        rintro e w3 ⟨A3, c3, Lp, rfl, hcu, hok, hpl, hb3⟩
        have HLP := Lib.hid (LP.start HX2.out hb3 hpl hok)
        have hcu' := hcu
        obtain ⟨sz, hsz⟩ : ∃ sz, sz = sizeM (most : Int) := ⟨_, rfl⟩
        have hs1 : 1 ≤ sz := by rw [hsz]; exact (sizeM_in _).1
        rw [← hsz] at hcu'
        have HCU := Lib.hid hcu'
        have HLN : Hid ((Lp.map Pe.key3).length = Lp.length) := List.length_map ..
        have hcnt := hcu'.count hs1
        have HCN : Hid (Lp.length ≤ 501) := by show _ ≤ _; rw [HLN.out] at hcnt; have := HBL.out; omega
        have hrm : RightM wh b := ⟨by have := HBL.out; omega, fun h => by rw [← HWH.out]; exact h⟩
        have HST : Hid (∀ i (hi : i < Lp.length), Lp[i].p.fin = decide (i + 1 = Lp.length) ∧ Lp[i].p.dat.length ≤ 100000 ∧ takeM (stR (Lp.map Pe.key3) wh i) Lp[i].p.op Lp[i].p.fin Lp[i].p.dat = (stR (Lp.map Pe.key3) wh (i + 1), if i + 1 = Lp.length then some ⟨1, wh, 0, b⟩ else none)) := fun i hi => by
          have hi' : i < (Lp.map Pe.key3).length := by rw [HLN.out]; exact hi
          obtain ⟨_, h2, h3, _⟩ := hcu'.get i hi'
          have h7 := right_step hcu' hrm hi'
          have h8 := (sizeM_in (most : Int)).2
          rw [HLN.out] at h2 h7
          simp only [List.getElem_map] at h2 h3 h7
          exact ⟨h2, by have h3' : Lp[i].p.dat.length ≤ sz := h3; omega, h7⟩
        have HS0 : Hid (stR (Lp.map Pe.key3) wh 0 = gg0) := rfl
        have HSE : Hid (stR (Lp.map Pe.key3) wh Lp.length = gg0) := by show _ = _; rw [← HLN.out]; exact stR_end _ _
        rw [← HS0.out] at HLP
        clear hcu hok hpl hb3 hcut hcu' hs1 hcnt hrm hsz HS0 HX2 HCU HRB
        generalize Lp.map Pe.key3 = l at *
        generalize w2.heap.size = lo at *
        obtain ⟨hi, hhi⟩ : ∃ hi, hi = w3.heap.size := ⟨_, rfl⟩
        rw [← hhi] at HLP
        clear hhi
        go_upto_region 12 with fail
        go_loopw [51] (fun i wr => ∃ j2 : Nat, j2 ≤ Lp.length ∧ i = .int .i64 j2 ∧ Hid (LP w g lo hi A3 Lp (stR l wh j2) wr)) (fun i _ => Lp.length - (intOf i).toNat)
        case atStart => exact ⟨0, Nat.zero_le _, rfl, HLP⟩
        case round =>
          clear HLP
          obtain ⟨j2, hj2, rfl, HLP⟩ := hrel
          by_cases hlt2 : j2 < Lp.length
          · have hjn2 : (j2 : Int) < (Lp.length : Int) := by omega
            obtain ⟨b3, q3, rfl, hbb, hr⟩ := HLP.out.at_ hlt2
            obtain ⟨hfin, hdl, hst⟩ := HST.out j2 hlt2
            have htk := fun W (hW : LP w g lo hi (some ⟨b3, q3, none⟩) Lp (stR l wh j2) W) => hW.take hlt2 hdl
            rw [hst] at htk
            obtain ⟨e, he⟩ : ∃ e, e = Lp[j2] := ⟨_, rfl⟩
            rw [← he] at hr htk
            have HTK := Lib.hid htk
            have HJ2 := Lib.hid hlt2
            obtain ⟨hp1, hp2, hp3⟩ := pieceM wr (pcA e.p e.A e.c)
            have HP1 := Lib.hid hp1
            have HP4 := Lib.hid hp2
            have HL4 := Lib.hid (HLP.out.below hp3)
            have hw3 : IntKind.i64.wrap ((j2 : Int) + 1) = (j2 : Int) + 1 := IntWalk.i64_in _ (by have := HCN.out; omega)
            have hw2 : IntKind.i64.wrap ((Lp.length : Int) - 1) = (Lp.length : Int) - 1 := IntWalk.i64_in _ (by have := HCN.out; omega)
            clear hp1 hp2 hp3 he htk hbb HLP hlt2 hfin hdl hst
            go_upto_region 14 with (first
              | (refine wpList_ldm rfl _ rfl rfl hr (pcA_ok _ _ _) ?_)
              | (refine wpList_sw (cs := pcA e.p e.A e.c) rfl _ _ rfl rfl rfl HP1.out rfl (pcA_ok _ _ _) ?_))
            rw [zp_eq]
            clear HP1 hr
            generalize (wr.alloc (.cells zpJ 32)).setRow wr.heap.size (pcA e.p e.A e.c) = w5 at *
            generalize wr.heap.size = p14 at *
            have htk := HTK.out _ HL4.out
            have hxt : (wh != wh) = false := by simp
            have hyy : (y.toList == y.toList) = true := by simp
            clear HTK HL4
            go_wp2_with (refine wpList_ld (cs := pcA e.p e.A e.c) rfl _ rfl rfl HP4.out (pcA_ok _ _ _) ?_)
            refine htk.mono ?_
            clear htk
            by_cases hl1 : j2 + 1 = Lp.length
            · have hlast : ((j2 : Int) == (Lp.length : Int) - 1) = true := beq_iff_eq.2 (by omega)
              rw [if_pos hl1]
              rintro e6 w7 ⟨A7, c7, rfl, hrd, hlp, hodd⟩
              obtain ⟨hn1, hn2, hn3⟩ := noteM w7 (ntc 1 wh A7 b.length c7 0)
              have HN1 := Lib.hid hn1
              have HN6 : Hid (Row _ w7.heap.size 34 (ntc 1 wh A7 b.length c7 0)) := Lib.hid hn2
              have HL6 := Lib.hid (hlp.below hn3)
              have HRD6 : Hid (RdB _ w7.heap.size A7 b) := hrd.below hn3
              clear hn1 hn2 hn3 hlp hodd hrd HP4 hl1
              go_upto_region 15 with (refine wpList_sw (cs := ntc 1 wh A7 b.length c7 0) rfl _ _ rfl rfl rfl HN1.out rfl (nt_ok _ _ _ _ _ _) ?_)
              rw [nt0_eq]
              clear HN1
              generalize (w7.alloc (.cells (ntc 0 false none 0 0 0) 34)).setRow w7.heap.size (ntc 1 wh A7 b.length c7 0) = w8 at *
              generalize w7.heap.size = p15 at *
              have c0 : w8.cell? ⟨p15, 0, none⟩ = some (.int .u8 1) := (nt_cells HN6.out).1
              have c1 : w8.cell? ⟨p15, 1, none⟩ = some (.bool wh) := (nt_cells HN6.out).2.1
              have c2' : w8.cell? ⟨p15, 2, none⟩ = some (.slice A7 b.length c7) := (nt_cells HN6.out).2.2.1
              have htx8 : (convert 30 9 (.slice A7 b.length c7)).run Tryd.prog w8 = .ok (.string y) w8 := by
                rw [HYB.out]
                exact run_text (P := Tryd.prog) (c := c7) Tryd.underlying30 Tryd.underlying5 Tryd.underlying9 HRD6.out
              have hta := HTA.out w8 HL6.out.gx.bl
              go_wp2_with fail
              go_roundw
              case rel => exact ⟨j2 + 1, by have := HJ2.out; omega, by go_num, HL6⟩
              case measure => have := HJ2.out; simp [intOf]; omega
            · have hlast : ((j2 : Int) == (Lp.length : Int) - 1) = false := beq_eq_false_iff_ne.2 (by omega)
              rw [if_neg hl1]
              rintro e6 w7 ⟨A7, c7, rfl, _, hlp, hodd⟩
              obtain ⟨hn1, hn2, hn3⟩ := noteM w7 (ntc 0 false A7 0 c7 0)
              have HN1 := Lib.hid hn1
              have HL6 := Lib.hid (hlp.below hn3)
              clear hn1 hn2 hn3 hlp hodd HP4 hl1
              go_upto_region 15 with (refine wpList_sw (cs := ntc 0 false A7 0 c7 0) rfl _ _ rfl rfl rfl HN1.out rfl (nt_ok _ _ _ _ _ _) ?_)
              rw [nt0_eq]
              clear HN1
              generalize (w7.alloc (.cells (ntc 0 false none 0 0 0) 34)).setRow w7.heap.size (ntc 0 false A7 0 c7 0) = w8 at *
              generalize w7.heap.size = p15 at *
              go_wp2_with fail
              go_roundw
              case rel => exact ⟨j2 + 1, by have := HJ2.out; omega, by go_num, HL6⟩
              case measure => have := HJ2.out; simp [intOf]; omega
          · obtain rfl : j2 = Lp.length := by omega
            have HX9 : Hid (GX w g (fun _ => False) gg0 wr) := by
              have h := HLP.out.gx
              rw [HSE.out] at h
              exact h.sub fun _ _ h => h.elim
            clear HLP
            go_wp2_with fail
            go_roundw
            case rel => exact ⟨j + 1, by have := HJL.out; omega, by go_num, HX9⟩
            case measure => have := HJL.out; simp [intOf]; omega
    · obtain rfl : j = N := by omega
      have hcl := mclose_any (s := []) (code := code) (by simp) wr
      go_wp2_with fail
      refine hcl.mono ?_
      rintro e w2 ⟨A2, c2, rfl, hr2, hc2, hb2⟩
      have hLL := closeB_len code []
      have hk4 : (closeN (closeB code [])).kind = 4 := by rw [closeN_made]; split <;> rfl
      have htk := (HX.out.made hb2).take (fin := true) (mask := false) (op := 8) (key := 0) (c := c2) (A := A2) (d := closeB code []) (hr2.imp fun k hk _ => ⟨hk.2, .inr (.inr hk)⟩) (fun k hk => hk.elim (fun h => h.elim) fun h => h.2) (by omega) hc2
      rw [take_close rfl] at htk
      generalize closeN (closeB code []) = Nn at *
      generalize closeB code [] = Lc at *
      have HK4 := Lib.hid hk4
      clear hk4
      clear hr2 hc2 hb2 hLL hcl HX
      go_wp2_with fail
      refine htk.mono ?_
      rintro e w3 ⟨A3, c3, rfl, _, _, hX, _, _, _⟩
      obtain ⟨kd, tx, cd, dt⟩ := Nn
      obtain rfl : kd = 4 := HK4.out
      obtain ⟨hn1, hn2, hn3⟩ := noteM w3 (ntc 4 tx A3 dt.length c3 cd)
      have HX4 : Hid (GX w g (fun _ => False) ggX _) := (hX.below hn3).sub fun _ _ h => h.elim
      have HN1 := Lib.hid hn1
      have HN2 := Lib.hid hn2
      clear hn1 hn2 hn3 hX htk
      go_upto_region 20 with (refine wpList_sw (cs := ntc 4 tx A3 dt.length c3 cd) rfl _ _ rfl rfl rfl HN1.out rfl (nt_ok _ _ _ _ _ _) ?_)
      rw [nt0_eq]
      clear HN1
      generalize (w3.alloc (.cells (ntc 0 false none 0 0 0) 34)).setRow w3.heap.size (ntc 4 tx A3 dt.length c3 cd) = w4 at *
      generalize w3.heap.size = p17 at *
      have c0 : w4.cell? ⟨p17, 0, none⟩ = some (.int .u8 4) := (nt_cells HN2.out).1
      have hcv : (convert 30 30 (.slice (some ⟨w4.heap.size, 0, none⟩) 1 1)).run Tryd.prog (w4.alloc (.cells #[.int .u8 120] 5)) = .ok (.slice (some ⟨w4.heap.size, 0, none⟩) 1 1) (w4.alloc (.cells xC 5 (1, 2))) :=
        Lib.run_convert_bytes_const (P := Tryd.prog) w4 30 5 _ 1 1 Tryd.underlying30 Tryd.underlying5
      have hbx : Below w4.heap.size w4 (w4.alloc (.cells xC 5 (1, 2))) := (Below.refl _ _).alloc (Nat.le_refl _) _
      have HX5 := Lib.hid (HX4.out.below hbx)
      have hcut := mcut_any (text := false) (most := 9) (c := 1) (by simp) (RdB.ofS (x_rd w4) fun _ hk _ => hk.2) (by simp)
      clear hbx HX4 HN2
      go_wp2_with fail
      clear hcv c0
      generalize w4.alloc (.cells xC 5 (1, 2)) = w5 at *
      generalize w4.heap.size = px at *
      refine hcut.mono ?_
      rintro e w6 ⟨A6, c6, L6, rfl, hcu, hok, hpl, hb6⟩
      have HLP := Lib.hid (LP.start HX5.out hb6 hpl hok)
      have HLN : Hid ((L6.map Pe.key3).length = L6.length) := List.length_map ..
      have hcnt := hcu.count (by decide)
      have HCN : Hid (L6.length ≤ 2) := by show _ ≤ _; rw [HLN.out] at hcnt; simpa using hcnt
      have HDL : Hid (∀ i (hi : i < L6.length), L6[i].p.dat.length ≤ 100000) := fun i hi => by
        have hi' : i < (L6.map Pe.key3).length := by rw [HLN.out]; exact hi
        obtain ⟨_, _, h3, _⟩ := hcu.get i hi'
        simp only [List.getElem_map] at h3
        have h3' : L6[i].p.dat.length ≤ sizeM 9 := h3
        have := (sizeM_in 9).2
        omega
      clear hcu hok hpl hb6 hcut hcnt HX5 HLN
      generalize w5.heap.size = lo at *
      obtain ⟨hi, hhi⟩ : ∃ hi, hi = w6.heap.size := ⟨_, rfl⟩
      rw [← hhi] at HLP
      clear hhi
      go_upto_region 23 with fail
      go_loopw [111] (fun i wr => ∃ j3 : Nat, j3 ≤ L6.length ∧ i = .int .i64 j3 ∧ Hid (LP w g lo hi A6 L6 ggX wr)) (fun i _ => L6.length - (intOf i).toNat)
      case atStart => exact ⟨0, Nat.zero_le _, rfl, HLP⟩
      case round =>
        clear HLP
        obtain ⟨j3, hj3, rfl, HLP⟩ := hrel
        by_cases hlt3 : j3 < L6.length
        · have hjn3 : (j3 : Int) < (L6.length : Int) := by omega
          obtain ⟨b3, q3, rfl, hbb, hr⟩ := HLP.out.at_ hlt3
          have htk := fun W (hW : LP w g lo hi (some ⟨b3, q3, none⟩) L6 ggX W) => hW.take hlt3 (HDL.out j3 hlt3)
          simp only [take_over (g := ggX) rfl] at htk
          obtain ⟨e, he⟩ : ∃ e, e = L6[j3] := ⟨_, rfl⟩
          rw [← he] at hr htk
          have HTK := Lib.hid htk
          have HJ3 := Lib.hid hlt3
          obtain ⟨hp1, hp2, hp3⟩ := pieceM wr (pcA e.p e.A e.c)
          have HP1 := Lib.hid hp1
          have HP4 := Lib.hid hp2
          have HL4 := Lib.hid (HLP.out.below hp3)
          have hw3 : IntKind.i64.wrap ((j3 : Int) + 1) = (j3 : Int) + 1 := IntWalk.i64_in _ (by have := HCN.out; omega)
          clear hp1 hp2 hp3 he htk hbb HLP hlt3
          go_upto_region 25 with (first
            | (refine wpList_ldm rfl _ rfl rfl hr (pcA_ok _ _ _) ?_)
            | (refine wpList_sw (cs := pcA e.p e.A e.c) rfl _ _ rfl rfl rfl HP1.out rfl (pcA_ok _ _ _) ?_))
          rw [zp_eq]
          clear HP1 hr
          generalize (wr.alloc (.cells zpJ 32)).setRow wr.heap.size (pcA e.p e.A e.c) = w7 at *
          generalize wr.heap.size = p20 at *
          have htk := HTK.out _ HL4.out
          clear HTK HL4
          go_wp2_with (refine wpList_ld (cs := pcA e.p e.A e.c) rfl _ rfl rfl HP4.out (pcA_ok _ _ _) ?_)
          refine htk.mono ?_
          rintro e6 w8 ⟨A8, c8, rfl, _, hlp, _⟩
          obtain ⟨hn1, hn2, hn3⟩ := noteM w8 (ntc 0 false A8 0 c8 0)
          have HN1 := Lib.hid hn1
          have HL6 := Lib.hid (hlp.below hn3)
          clear hn1 hn2 hn3 hlp HP4 htk
          go_upto_region 26 with (refine wpList_sw (cs := ntc 0 false A8 0 c8 0) rfl _ _ rfl rfl rfl HN1.out rfl (nt_ok _ _ _ _ _ _) ?_)
          rw [nt0_eq]
          clear HN1
          generalize (w8.alloc (.cells (ntc 0 false none 0 0 0) 34)).setRow w8.heap.size (ntc 0 false A8 0 c8 0) = w9 at *
          generalize w8.heap.size = p21 at *
          go_wp2_with fail
          go_roundw
          case rel => exact ⟨j3 + 1, by have := HJ3.out; omega, by go_num, HL6⟩
          case measure => have := HJ3.out; simp [intOf]; omega
        · obtain rfl : j3 = L6.length := by omega
          have hfx := fixed18_any wr HLP.out.gx.gl
          go_wp2_with fail
          refine hfx.mono ?_
          rintro e5 w7 ⟨rfl, hb⟩
          have HX7 := Lib.hid (HLP.out.gx.below hb)
          have hov := HX7.out.over
          clear hb hfx HLP
          go_wp2_with fail
          refine hov.mono ?_
          rintro e6 w8 ⟨rfl, rfl⟩
          go_wp2_with fail
          go_ret
          exact ⟨rfl, HX7.out.bl⟩
theorem mwrow_law {w : World} {A : Option Addr} {L : List (HdM w UInt8 byvM)} {c most code : Nat} (hra : RdS w (· < w.heap.size) A (enl hdcM L)) (hm : most < 256) (hG : GlobE w) :
    Calls Tryd.prog 7 #[.slice A L.length c, .int .u8 (most : Int), .int .u32 (code : Int)] w fun e w' => e = .returned (.bool true) ∧ Below w.heap.size w w' := by
  rcases Nat.lt_or_ge 20 L.length with h | h
  · exact mwrow_big hG h
  · exact mwrow_small hra hm hG h
end Go.Proofs.YtdegpchofhnipaaDoor
