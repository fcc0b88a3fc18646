/-
  WssplitPlays: the law's walk. Conditions: the arguments are read; errors.errorType holds what the program's text lays.
-/
import Derived.Test.YtejlbgllfkfkfaaDoorJwt
namespace Go.Proofs.YtejlbgllfkfkfaaDoor
open Go.RowKit Go.WideShapes

set_option maxRecDepth 100000 in
set_option maxHeartbeats 2000000 in
theorem jwplays_big {na nz ca cz : Nat} {A Z : Option Addr} {m : Bool} {often : Nat} {w : World} (hG : GlobE w) (hbig : 20000 < na ∨ 3000 < nz) :
    Calls Tryd.prog 3 #[.slice A na ca, .bool m, .slice Z nz cz, .int .u8 often] w fun e w' => e = .returned (.bool true) ∧ Below w.heap.size w w' := by
  have hfx := fixed17_any w hG
  by_cases h1 : 20000 < na
  · have hd1 : decide ((20000 : Int) < (na : Int)) = true := decide_eq_true (by omega)
    go_enter Tryd.func3, Tryd.ntmps3
    go_wp2_with fail
    refine hfx.mono ?_
    rintro e w1 ⟨rfl, hb1⟩
    go_wp2_with fail
    go_ret
    exact ⟨rfl, hb1⟩
  · have hd1 : decide ((20000 : Int) < (na : Int)) = false := decide_eq_false (by omega)
    have hd2 : decide ((3000 : Int) < (nz : Int)) = true := decide_eq_true (by omega)
    go_enter Tryd.func3, Tryd.ntmps3
    go_wp2_with fail
    refine hfx.mono ?_
    rintro e w1 ⟨rfl, hb1⟩
    go_wp2_with fail
    go_ret
    exact ⟨rfl, hb1⟩
def fullJ (l : List UInt8) : Nat := if l.length = 4110 then 1 else 0
theorem fullJ_le (l : List UInt8) : fullJ l ≤ 1 := by unfold fullJ; split <;> omega
theorem fullJ_room {l : List UInt8} (h : l.length < 4104) : fullJ l = 0 := if_neg (by omega)
def fullW (w : World) (g : Nat) : Nat := if heldN w g = 4110 then 1 else 0
theorem DJ.fin {R : List (Nat × TypeId × Array Value)} {w W : World} {g : Nat} {m bad : Bool} {b0 z l : List UInt8} {gv v : Value} {L : List Pe} {code : Nat} (h : DJ R w g m b0 z W gv v L l bad code) (hz : z = [] ∨ bad = true) (hw : z = [] → bad = true ∨ WaitJ m l) : DJ R w g m b0 [] W gv v L l bad code ∧ (bad = true ∨ WaitJ m l) := by
  rcases hz with rfl | rfl
  · exact ⟨h, hw rfl⟩
  · exact ⟨h.badz _, .inl rfl⟩
theorem take_drop_J {rest : List UInt8} {n k : Nat} (h : k ≤ n) (hn : n ≤ rest.length) : (rest.take n).drop k ++ rest.drop n = rest.drop k := by
  have h1 := List.drop_append_of_le_length (l₁ := rest.take n) (l₂ := rest.drop n) (i := k) (by rw [List.length_take]; omega)
  rw [List.take_append_drop] at h1
  exact h1.symm
theorem take_take_J {rest : List UInt8} {n k : Nat} (h : k ≤ n) : (rest.take n).take k = rest.take k := by
  rw [List.take_take, Nat.min_eq_left h]
set_option maxRecDepth 100000 in
set_option maxHeartbeats 16000000 in
theorem jwplays_small {b zs : List UInt8} {ca cz : Nat} {A Z : Option Addr} {m : Bool} {often : Nat} {w : World} (hra : RdB w w.heap.size A b) (hca : b.length ≤ ca) (hrz : RdB w w.heap.size Z zs) (hof : often < 256) (hG : GlobE w) (hbl : b.length ≤ 20000) (hzl : zs.length ≤ 3000) :
    Calls Tryd.prog 3 #[.slice A b.length ca, .bool m, .slice Z zs.length cz, .int .u8 often] w fun e w' => e = .returned (.bool true) ∧ Below w.heap.size w w' := by
  have hd0 : decide ((20000 : Int) < (b.length : Int)) = false := decide_eq_false (by omega)
  have hd1 : decide ((3000 : Int) < (zs.length : Int)) = false := decide_eq_false (by omega)
  have hnw := jnew_any w m hG
  have HRA := Lib.hid hra
  have HRZ := Lib.hid hrz
  have HG := Lib.hid hG
  have HCA := Lib.hid hca
  have HBL := Lib.hid hbl
  clear hra hrz hG hca hbl
  go_enter Tryd.func3, Tryd.ntmps3
  go_upto_region 3 with fail
  clear hd0 hd1
  go_wp2_with fail
  refine hnw.mono ?_
  rintro e w1 ⟨rfl, hs1, hb1⟩
  have HD1 := Lib.hid (DJ.start (w := w) (Below.refl _ _) hs1 hb1 HG.out b)
  clear hs1 hb1 hnw
  obtain ⟨g, hg⟩ : ∃ g, g = w.heap.size := ⟨_, rfl⟩
  have HGE := Lib.hid hg
  rw [← hg] at HD1 ⊢
  clear hg
  go_upto_region 8 with fail
  go_loopw [10, 11, 12, 13] (fun o c q i wr => ∃ (rest : List UInt8) (A' : Option Addr) (c' : Nat) (L : List Pe) (v : Value) (l : List UInt8) (bad : Bool) (code k : Nat), c = .int .i64 code ∧ q = .slice A' rest.length c' ∧ rest.length ≤ c' ∧ i = .int .i64 k ∧ k + 2 * rest.length + fullJ l ≤ 2 * b.length ∧ Hid (RdB w w.heap.size A' rest) ∧ Hid (DJ [] w g m b rest wr o v L l bad code) ∧ Hid (rest = [] → bad = true ∨ WaitJ m l)) (fun o c q i wr => 2 * slJ q + fullW wr g)
  case atStart => exact ⟨b, A, ca, [], _, [], false, 0, 0, rfl, rfl, HCA.out, rfl, by simp [fullJ], HRA, HD1, fun _ => .inr ⟨rfl, .inl rfl⟩⟩
  case round =>
    obtain ⟨rest, A', c', L, v, l, bad, code, k, rfl, rfl, hc', rfl, hcnt, HR, HD, HW⟩ := hrel
    clear HD1
    have hbd := jbad_any HD.out.sj
    go_upto_region 8 with fail
    go_cut [45] (fun v wx => ∃ cont : Bool, v = .bool cont ∧ Hid (wx = wr) ∧ Hid (cont = true → rest.length ≠ 0 ∧ bad = false) ∧ Hid (cont = false → rest = [] ∨ bad = true))
    case first =>
      clear HW HD HR
      by_cases hr0 : rest.length = 0
      · have hr : rest = [] := List.eq_nil_of_length_eq_zero hr0
        subst hr
        go_wp2_with fail
        go_meet
        exact ⟨false, rfl, rfl, (fun h => (by cases h)), (fun _ => by simp)⟩
      · have hpos : decide ((0 : Int) < (rest.length : Int)) = true := decide_eq_true (by omega)
        have hpos2 : 0 < rest.length := by omega
        go_wp2_with fail
        refine hbd.mono ?_
        rintro e w5 ⟨rfl, rfl⟩
        go_wp2_with fail
        go_meet
        exact ⟨!bad, rfl, rfl, (fun h => ⟨hr0, by simpa using h⟩), (fun h => .inr (by simpa using h))⟩
    case rest =>
      obtain ⟨cont, rfl, hwx, HC1, HC2⟩ := hcut
      have hwx : wc = wr := hwx.out
      subst hwx
      generalize hwz : wc = wz at *
      have HWZ := Lib.hid hwz
      clear hwz
      clear hbd
      cases cont
      · obtain ⟨hD, hw⟩ := HD.out.fin (HC2.out rfl) HW.out
        have hfin := hD.done hw
        have HD2 := Lib.hid hD
        have HW2 := Lib.hid hw
        have HFin := Lib.hid hfin
        have hta : (convert 22 9 (.slice A b.length ca)).run Tryd.prog wz = .ok (.string (txb b)) wz := run_text (P := Tryd.prog) (c := ca) Tryd.underlying22 Tryd.underlying5 Tryd.underlying9 (HRA.out.below hD.bl)
        have hal := rallJ_any b (by have := HBL.out; omega) m wz
        clear hD hw hfin HC1 HC2 HD HR HW hcnt hc'
        generalize hxb : txb b = tb9 at *
        clear hxb
        go_wp2_with fail
        refine hal.mono ?_
        rintro e w2 ⟨Lw, vw, cw, nw, rfl, hpw, haw, hb2⟩
        obtain ⟨e1, rfl, rfl⟩ := HFin.out.det haw
        have HE := Lib.hid e1
        have HPW := Lib.hid hpw
        have HD3 := Lib.hid (HD2.out.below hb2)
        have hlg : L.length ≤ 1000000 := by have := HD2.out.len; have := HBL.out; omega
        obtain ⟨Ag, cg, rfl, _⟩ := HD3.out.pl.shape
        obtain ⟨Aw, cw2, rfl, _⟩ := HPW.out.shape
        have hsame := sameJ_any (La := L) (Lb := Lw) (ca := cg) (cb := cw2) HE.out.symm HD3.out.pl.reads.1 HPW.out.reads.1 HD3.out.pl.reads.2 HPW.out.reads.2 hlg
        clear e1 hpw haw hb2 hal hta HD2
        go_wp2_with fail
        refine hsame.mono ?_
        rintro e w3 ⟨rfl, hb3⟩
        have HD4 := Lib.hid (HD3.out.below hb3)
        clear hb3 hsame HD3 HPW
        have hbd := jbad_any HD4.out.sj
        have hld := jhld_any HD4.out.sj
        have hlz := HD4.out.sj.bad_nil
        have hcb := HD4.out.pt.code_bad
        have hnx := jnext_any HD4.out.sj HD4.out.gl
        have hnj : njN m l bad = (none, l, bad) := by
          rcases HW2.out with h | h
          · subst h
            rw [hlz rfl]
            exact nj_bad m []
          · cases bad
            · exact nj_wait h
            · rw [hlz rfl]
              exact nj_bad m []
        rw [hnj] at hnx
        clear hnj HW2 HFin hlz
        cases bad
        · have hc0 : cw = 0 := by
            by_cases h : cw = 0
            · exact h
            · exact absurd (hcb.2 h) (by simp)
          subst hc0
          clear hcb
          go_wp2_with (first
            | (go_at_call 9; refine hbd.mono ?_; rintro e w9 ⟨rfl, rfl⟩)
            | (go_at_call 10; refine hld.mono ?_; rintro e w9 ⟨rfl, rfl⟩))
          refine hnx.mono ?_
          rintro e w4 ⟨A4, c4, v4, rfl, hd4, _, h4, hf4, hv4⟩
          have HB4 := Lib.hid (HD4.out.bl.trans (HD4.out.sj.base_fs hf4 HD4.out.le HD4.out.bl.size))
          have HG4 := Lib.hid (HD4.out.sj.glob hf4 HD4.out.gl)
          clear hnx h4 hf4 hv4 hd4 HD4 hbd hld
          have HTW := Lib.hid (twoJ w4 (pcA Pc.zero A4 c4) (ftI (scI 0) 0) rfl)
          go_upto_region 32 with (first
            | (refine wpList_sw (cs := (pcA Pc.zero A4 c4)) rfl _ _ rfl rfl rfl HTW.out.1 rfl (pcA_ok _ _ _) ?_)
            | (refine wpList_sw (cs := (ftI (scI 0) 0)) rfl _ _ rfl rfl rfl HTW.out.2.1 (ftI_sz _ _ _ _) (ftI_ok _ _) ?_))
          have HP_w5 : Hid (Row ((((w4.alloc (.cells #[.bool false, .int .u8 0, .bool false, .int .u32 0, .slice none 0 0] 31)).alloc (.cells #[.int .u8 0, .int .u32 0] 33)).setRow w4.heap.size (pcA Pc.zero A4 c4)).setRow (w4.heap.size + 1) (ftI (scI 0) 0)) w4.heap.size 31 (pcA Pc.zero A4 c4)) := HTW.out.2.2.1
          have HT_w5 : Hid (Row ((((w4.alloc (.cells #[.bool false, .int .u8 0, .bool false, .int .u32 0, .slice none 0 0] 31)).alloc (.cells #[.int .u8 0, .int .u32 0] 33)).setRow w4.heap.size (pcA Pc.zero A4 c4)).setRow (w4.heap.size + 1) (ftI (scI 0) 0)) (w4.heap.size + 1) 33 (ftI (scI 0) 0)) := HTW.out.2.2.2.1
          have HB_w5 : Hid (Below w4.heap.size w4 ((((w4.alloc (.cells #[.bool false, .int .u8 0, .bool false, .int .u32 0, .slice none 0 0] 31)).alloc (.cells #[.int .u8 0, .int .u32 0] 33)).setRow w4.heap.size (pcA Pc.zero A4 c4)).setRow (w4.heap.size + 1) (ftI (scI 0) 0))) := HTW.out.2.2.2.2.1
          have HS_w5 : Hid (((((w4.alloc (.cells #[.bool false, .int .u8 0, .bool false, .int .u32 0, .slice none 0 0] 31)).alloc (.cells #[.int .u8 0, .int .u32 0] 33)).setRow w4.heap.size (pcA Pc.zero A4 c4)).setRow (w4.heap.size + 1) (ftI (scI 0) 0)).heap.size = w4.heap.size + 2) := HTW.out.2.2.2.2.2
          clear HTW
          generalize ((((w4.alloc (.cells #[.bool false, .int .u8 0, .bool false, .int .u32 0, .slice none 0 0] 31)).alloc (.cells #[.int .u8 0, .int .u32 0] 33)).setRow w4.heap.size (pcA Pc.zero A4 c4)).setRow (w4.heap.size + 1) (ftI (scI 0) 0)) = w5 at *
          have HB5 := Lib.hid (HB4.out.trans (HB_w5.out.mono HB4.out.size))
          have hfx := fixed17_any w5 (HG4.out.below HB_w5.out)
          clear HB4 HG4 HB_w5 HP_w5
          go_wp2_with fail
          refine hfx.mono ?_
          rintro e w6 ⟨rfl, hb6⟩
          have HT6 := Lib.hid (HT_w5.out.below hb6 HT_w5.out.lt)
          have HB6 := Lib.hid (HB5.out.trans (hb6.mono HB5.out.size))
          have heq := ftI_eq
          clear hfx hb6 HB5 HT_w5
          go_wp2_with (refine wpList_ldg (cs := #[.int .u8 0, .int .u32 0]) (by rfl) _ rfl rfl HT6.out (ftI_ok 0 0) ?_)
          go_ret
          exact ⟨rfl, HB6.out⟩
        · have hc0 : ((cw : Int) != 0) = true := bne_iff_ne.2 (by have := hcb.1 rfl; omega)
          have hc1 : ((cw : Int) == 0) = false := beq_eq_false_iff_ne.2 (by have := hcb.1 rfl; omega)
          have hc2 : ¬ cw = 0 := hcb.1 rfl
          clear hcb
          go_wp2_with (first
            | (go_at_call 9; refine hbd.mono ?_; rintro e w9 ⟨rfl, rfl⟩)
            | (go_at_call 10; refine hld.mono ?_; rintro e w9 ⟨rfl, rfl⟩))
          refine hnx.mono ?_
          rintro e w4 ⟨A4, c4, v4, rfl, hd4, _, h4, hf4, hv4⟩
          have HB4 := Lib.hid (HD4.out.bl.trans (HD4.out.sj.base_fs hf4 HD4.out.le HD4.out.bl.size))
          have HG4 := Lib.hid (HD4.out.sj.glob hf4 HD4.out.gl)
          have H4 := Lib.hid h4
          clear hnx h4 hf4 hv4 hd4 HD4 hbd hld
          have HTW := Lib.hid (twoJ w4 (pcA Pc.zero A4 c4) (ftI (scI 0) 0) rfl)
          go_upto_region 32 with (first
            | (refine wpList_sw (cs := (pcA Pc.zero A4 c4)) rfl _ _ rfl rfl rfl HTW.out.1 rfl (pcA_ok _ _ _) ?_)
            | (refine wpList_sw (cs := (ftI (scI 0) 0)) rfl _ _ rfl rfl rfl HTW.out.2.1 (ftI_sz _ _ _ _) (ftI_ok _ _) ?_))
          have HP_w5 : Hid (Row ((((w4.alloc (.cells #[.bool false, .int .u8 0, .bool false, .int .u32 0, .slice none 0 0] 31)).alloc (.cells #[.int .u8 0, .int .u32 0] 33)).setRow w4.heap.size (pcA Pc.zero A4 c4)).setRow (w4.heap.size + 1) (ftI (scI 0) 0)) w4.heap.size 31 (pcA Pc.zero A4 c4)) := HTW.out.2.2.1
          have HT_w5 : Hid (Row ((((w4.alloc (.cells #[.bool false, .int .u8 0, .bool false, .int .u32 0, .slice none 0 0] 31)).alloc (.cells #[.int .u8 0, .int .u32 0] 33)).setRow w4.heap.size (pcA Pc.zero A4 c4)).setRow (w4.heap.size + 1) (ftI (scI 0) 0)) (w4.heap.size + 1) 33 (ftI (scI 0) 0)) := HTW.out.2.2.2.1
          have HB_w5 : Hid (Below w4.heap.size w4 ((((w4.alloc (.cells #[.bool false, .int .u8 0, .bool false, .int .u32 0, .slice none 0 0] 31)).alloc (.cells #[.int .u8 0, .int .u32 0] 33)).setRow w4.heap.size (pcA Pc.zero A4 c4)).setRow (w4.heap.size + 1) (ftI (scI 0) 0))) := HTW.out.2.2.2.2.1
          have HS_w5 : Hid (((((w4.alloc (.cells #[.bool false, .int .u8 0, .bool false, .int .u32 0, .slice none 0 0] 31)).alloc (.cells #[.int .u8 0, .int .u32 0] 33)).setRow w4.heap.size (pcA Pc.zero A4 c4)).setRow (w4.heap.size + 1) (ftI (scI 0) 0)).heap.size = w4.heap.size + 2) := HTW.out.2.2.2.2.2
          clear HTW
          generalize ((((w4.alloc (.cells #[.bool false, .int .u8 0, .bool false, .int .u32 0, .slice none 0 0] 31)).alloc (.cells #[.int .u8 0, .int .u32 0] 33)).setRow w4.heap.size (pcA Pc.zero A4 c4)).setRow (w4.heap.size + 1) (ftI (scI 0) 0)) = w5 at *
          have HB5 := Lib.hid (HB4.out.trans (HB_w5.out.mono HB4.out.size))
          have H5 := Lib.hid (H4.out.below HB_w5.out)
          have hfx := fixed17_any w5 (HG4.out.below HB_w5.out)
          clear HB4 HG4 HB_w5 HP_w5 H4
          go_wp2_with fail
          refine hfx.mono ?_
          rintro e w6 ⟨rfl, hb6⟩
          have HT6 := Lib.hid (HT_w5.out.below hb6 HT_w5.out.lt)
          have HB6 := Lib.hid (HB5.out.trans (hb6.mono HB5.out.size))
          have hfd := jfeed_bad (.slice A b.length ca) (H5.out.below hb6).bad_cell
          have heq := ftI_eq
          clear hfx hb6 HB5 HT_w5 H5
          go_wp2_with (first
            | (refine wpList_ldg (cs := #[.int .u8 0, .int .u32 0]) (by rfl) _ rfl rfl HT6.out (ftI_ok 0 0) ?_)
            | (go_at_call 11; refine hfd.mono ?_; rintro e w9 ⟨rfl, rfl⟩))
          go_ret
          exact ⟨rfl, HB6.out⟩
      · obtain ⟨hr0, rfl⟩ := HC1.out rfl
        clear HC1 HC2 HW
        have hzb := HRZ.out.below HD.out.bl
        go_upto_if 53 with fail
        go_cut [14] (fun v wx => ∃ n : Nat, v = .int .i64 n ∧ 1 ≤ n ∧ n ≤ rest.length ∧ Hid (wx = wz))
        case first =>
          by_cases hi : k < zs.length
          · have hii : decide ((k : Int) < (zs.length : Int)) = true := decide_eq_true (by omega)
            have hi2 : decide (k < zs.length) = true := decide_eq_true hi
            have hni : (k : Int) < (zs.length : Int) := by omega
            obtain ⟨gz, oz, rfl, hgz, hcz⟩ := hzb (by intro e; rw [e] at hi; simp at hi)
            have hzw : wz.cell? ⟨gz, oz + k, none⟩ = some (.int .u8 (zs[k].toNat : Int)) := hcz k hi
            have hz9 := zs[k].toNat_lt
            generalize zs[k].toNat = zn at *
            obtain ⟨n, hn⟩ : ∃ n, n = min rest.length (1 + zn) := ⟨_, rfl⟩
            have hmin : min (rest.length : Int) (1 + (zn : Int)) = (n : Int) := by omega
            have hm1 : 1 ≤ n := by omega
            have hm2 : n ≤ rest.length := by omega
            clear hcz HR HD hn hzb
            go_wp2_with fail
            go_meet
            exact ⟨n, rfl, hm1, hm2, rfl⟩
          · have hii : decide ((k : Int) < (zs.length : Int)) = false := decide_eq_false (by omega)
            have hi2 : decide (k < zs.length) = false := decide_eq_false hi
            clear HR HD hzb
            go_wp2_with fail
            go_meet
            exact ⟨rest.length, rfl, by omega, Nat.le_refl _, rfl⟩
        case rest =>
          obtain ⟨n, rfl, hn1, hn2, hwx⟩ := hcut
          have hwx : wc = wz := hwx.out
          subst hwx
          clear hzb
          have hll := HD.out.sj.len
          obtain ⟨kk, hkk⟩ : ∃ kk, kk = min n (4110 - l.length) := ⟨_, rfl⟩
          have hkn : kk ≤ n := by omega
          have hkr : kk ≤ rest.length := by omega
          obtain ⟨i0, hi0, hz0, hz1, hz2⟩ := infoI infoI8
          obtain ⟨hcu, hR1⟩ := cut_upto (P := Tryd.prog) Tryd.underlying22 hi0 hz1 (HR.out.below HD.out.bl) hc' (k := n) hn2
          have hxl : (rest.take n).length = n := by rw [List.length_take]; omega
          have hDx := HD.out
          rw [← List.take_append_drop n rest] at hDx
          have hfd := hDx.feed (n := kk) (cx := c') hR1 (by omega) (by rw [hxl]; exact hkk)
          rw [hxl, take_drop_J hkn hn2, take_take_J hkn] at hfd
          obtain ⟨A2, hcf, hR2⟩ := cut_from (P := Tryd.prog) Tryd.underlying22 hi0 hz1 HR.out hc' (k := kk) hkr
          have HR2 := Lib.hid hR2
          have hrl : (rest.drop kk).length = rest.length - kk := List.length_drop
          rw [← hrl] at hcf
          have hw1 : IntKind.i64.wrap (4110 - (l.length : Int)) = ((4110 - l.length : Nat) : Int) := by rw [IntWalk.i64_in _ (by omega)]; omega
          have hmin : min (n : Int) ((4110 - l.length : Nat) : Int) = (kk : Int) := by omega
          have hld := jhld_any HD.out.sj
          have HCN : Hid ((0 < kk ∧ k + 1 + 2 * (rest.drop kk).length + 1 ≤ 2 * b.length) ∨ (kk = 0 ∧ 0 < n ∧ fullJ l = 1 ∧ (rest.drop kk).length = rest.length)) := by
            show _ ∨ _
            rw [hrl]
            rcases Nat.eq_zero_or_pos kk with h0 | h0
            · exact .inr ⟨h0, by omega, if_pos (by omega), by omega⟩
            · exact .inl ⟨h0, by omega⟩
          have HC0 : Hid (k + 2 * rest.length + fullJ l ≤ 2 * b.length ∧ kk ≤ n ∧ (rest.drop kk).length + kk = rest.length ∧ (rest.drop kk).length ≤ c' - kk ∧ heldN wc g = l.length) := ⟨hcnt, hkn, by omega, by omega, HD.out.sj.held⟩
          clear hR1 hR2 hxl hDx hkk hrl hi0 hz0 hz1 hz2 HD HR hr0 hcnt hkr
          generalize 4110 - l.length = r9 at *
          generalize rest.drop kk = rs at *
          generalize hl2 : l ++ rest.take kk = l2 at *
          clear hl2
          go_wp2_with fail
          refine hld.mono ?_
          rintro e w2 ⟨rfl, rfl⟩
          clear hld
          go_wp2_with fail
          refine hfd.mono ?_
          rintro e w3 ⟨rfl, v3, h3⟩
          have HD3 := Lib.hid h3
          have hld := jhld_any h3.sj
          have hl2l := h3.sj.len
          have hd3 : decide ((4110 : Int) < (l2.length : Int)) = false := decide_eq_false (by omega)
          clear hfd h3 hcu
          go_wp2_with fail
          refine hld.mono ?_
          rintro e w4 ⟨rfl, rfl⟩
          clear hld
          go_upto_region 18 with fail
          clear hmin hw1 hcf hd3
          obtain ⟨C, hC⟩ : ∃ C : Bool, C = (decide (kk < n) || decide (often = 0) || decide (k % often = 0) || decide (rs.length = 0)) := ⟨_, rfl⟩
          have HC := Lib.hid hC
          clear hC
          go_loopw [10, 11] (fun o c wr => ∃ (L : List Pe) (v : Value) (l : List UInt8) (bad : Bool) (code : Nat), c = .int .i64 code ∧ Hid (DJ [] w g m b rs wr o v L l bad code)) (fun o c wr => heldN wr g)
          case atStart => exact ⟨L, v3, l2, false, code, rfl, HD3⟩
          case round =>
            obtain ⟨L, v, l4, bad, code, rfl, HD⟩ := hrel
            clear HD3
            go_upto_region 18 with fail
            go_cut [101] (fun v wx => v = .bool C ∧ Hid (wx = wr))
            case first =>
              clear HD HCN HC0
              by_cases c1 : kk < n
              · have hd1 : decide ((kk : Int) < (n : Int)) = true := decide_eq_true (by omega)
                have hd2 : decide (kk < n) = true := decide_eq_true c1
                have HCt : Hid (C = true) := by show C = true; rw [HC.out]; simp [c1]
                go_wp2_with fail
                go_meet
                exact ⟨by rw [HCt.out], rfl⟩
              · have hd1 : decide ((kk : Int) < (n : Int)) = false := decide_eq_false (by omega)
                have hd1b : decide (kk < n) = false := decide_eq_false c1
                by_cases c2 : often = 0
                · have hd2 : ((often : Int) == 0) = true := by rw [c2]; rfl
                  have HCt : Hid (C = true) := by show C = true; rw [HC.out]; simp [c2]
                  go_wp2_with fail
                  go_meet
                  exact ⟨by rw [HCt.out], rfl⟩
                · have hd2 : ((often : Int) == 0) = false := beq_eq_false_iff_ne.2 (by omega)
                  have hne0 : ¬ (often : Int) = 0 := by omega
                  have hm0 : (k : Int) % (often : Int) = ((k % often : Nat) : Int) := rfl
                  have HM0 := Lib.hid hm0
                  clear hm0
                  by_cases c3 : k % often = 0
                  · have hd3 : (k : Int) % (often : Int) = 0 := by rw [HM0.out, c3]; rfl
                    have HCt : Hid (C = true) := by show C = true; rw [HC.out]; simp [c3]
                    have HCX := Lib.hid c3
                    clear c3
                    go_wp2_with fail
                    go_meet
                    exact ⟨by rw [HCt.out], rfl⟩
                  · have hd3 : ¬ (k : Int) % (often : Int) = 0 := by rw [HM0.out]; omega
                    by_cases c4 : rs.length = 0
                    · have hd4 : ((rs.length : Int) == 0) = true := by rw [c4]; rfl
                      have HCt : Hid (C = true) := by show C = true; rw [HC.out]; simp [c4]
                      clear c3 c4
                      go_wp2_with fail
                      go_meet
                      exact ⟨by rw [HCt.out], rfl⟩
                    · have hd4 : ((rs.length : Int) == 0) = false := beq_eq_false_iff_ne.2 (by omega)
                      have HCt : Hid (C = false) := by show C = false; rw [HC.out]; simp [c1, c2, c3, c4]
                      clear c3
                      go_wp2_with fail
                      go_meet
                      exact ⟨by rw [HCt.out]; simp [hd3], rfl⟩
            case rest =>
              obtain ⟨rfl, hwx⟩ := hcut
              have hwx : _ = wr := hwx.out
              subst hwx
              have hkb : k < 100000 := by have := HC0.out; have := HBL.out; omega
              have hwk1 : IntKind.i64.wrap ((k : Int) + 1) = (k : Int) + 1 := IntWalk.i64_in _ (by omega)
              cases C
              · have hcf := HC.out
                have hk1 : ¬ kk < n := fun h => by rw [decide_eq_true h] at hcf; simp at hcf
                have hr1 : rs.length ≠ 0 := fun h => by rw [decide_eq_true h] at hcf; simp at hcf
                have hdk : decide ((kk : Int) < (n : Int)) = false := decide_eq_false (by omega)
                have hdk2 : decide (kk < n) = false := decide_eq_false hk1
                have HR1 := Lib.hid hr1
                have HK1 := Lib.hid hk1
                clear hcf hr1 hk1
                go_wp2_with fail
                go_roundw
                case rel =>
                  refine ⟨rs, A2, c' - kk, L, v, l4, bad, code, k + 1, rfl, rfl, HC0.out.2.2.2.1, rfl, ?_, HR2, HD, (fun h => absurd (by rw [h]; rfl) HR1.out)⟩
                  have h1 := fullJ_le l4
                  have h2 := HK1.out
                  have h3 := HCN.out
                  have h4 := HC0.out
                  omega
                case measure =>
                  have h1 : fullW wc g ≤ 1 := by unfold fullW; split <;> omega
                  have h2 := HK1.out
                  have h3 := HC0.out
                  show 2 * rs.length + fullW wc g < 2 * rest.length + _
                  omega
              · have HH := Lib.hid HD.out.sj.held
                have hnx := HD.out.next
                go_wp2_with fail
                refine hnx.mono ?_
                rintro e w7 (⟨A4, c4, v4, rfl, h4, hw⟩ | ⟨A4, c4, v4, k4, rfl, h4, hk0, hk9, hbd, hll⟩ | ⟨p4, A4, c4, v4, l5, rfl, h4, hbd, hll⟩)
                · have H4 := Lib.hid h4
                  have HW4 := Lib.hid hw
                  clear h4 hw hnx HD
                  have HTW := Lib.hid (twoJ w7 (pcA Pc.zero A4 c4) (ftI (scI 0) 0) rfl)
                  go_upto_region 20 with (first
                    | (refine wpList_sw (cs := (pcA Pc.zero A4 c4)) rfl _ _ rfl rfl rfl HTW.out.1 rfl (pcA_ok _ _ _) ?_)
                    | (refine wpList_sw (cs := (ftI (scI 0) 0)) rfl _ _ rfl rfl rfl HTW.out.2.1 (ftI_sz _ _ _ _) (ftI_ok _ _) ?_))
                  have HP_w8 : Hid (Row ((((w7.alloc (.cells #[.bool false, .int .u8 0, .bool false, .int .u32 0, .slice none 0 0] 31)).alloc (.cells #[.int .u8 0, .int .u32 0] 33)).setRow w7.heap.size (pcA Pc.zero A4 c4)).setRow (w7.heap.size + 1) (ftI (scI 0) 0)) w7.heap.size 31 (pcA Pc.zero A4 c4)) := HTW.out.2.2.1
                  have HT_w8 : Hid (Row ((((w7.alloc (.cells #[.bool false, .int .u8 0, .bool false, .int .u32 0, .slice none 0 0] 31)).alloc (.cells #[.int .u8 0, .int .u32 0] 33)).setRow w7.heap.size (pcA Pc.zero A4 c4)).setRow (w7.heap.size + 1) (ftI (scI 0) 0)) (w7.heap.size + 1) 33 (ftI (scI 0) 0)) := HTW.out.2.2.2.1
                  have HB_w8 : Hid (Below w7.heap.size w7 ((((w7.alloc (.cells #[.bool false, .int .u8 0, .bool false, .int .u32 0, .slice none 0 0] 31)).alloc (.cells #[.int .u8 0, .int .u32 0] 33)).setRow w7.heap.size (pcA Pc.zero A4 c4)).setRow (w7.heap.size + 1) (ftI (scI 0) 0))) := HTW.out.2.2.2.2.1
                  have HS_w8 : Hid (((((w7.alloc (.cells #[.bool false, .int .u8 0, .bool false, .int .u32 0, .slice none 0 0] 31)).alloc (.cells #[.int .u8 0, .int .u32 0] 33)).setRow w7.heap.size (pcA Pc.zero A4 c4)).setRow (w7.heap.size + 1) (ftI (scI 0) 0)).heap.size = w7.heap.size + 2) := HTW.out.2.2.2.2.2
                  clear HTW
                  generalize ((((w7.alloc (.cells #[.bool false, .int .u8 0, .bool false, .int .u32 0, .slice none 0 0] 31)).alloc (.cells #[.int .u8 0, .int .u32 0] 33)).setRow w7.heap.size (pcA Pc.zero A4 c4)).setRow (w7.heap.size + 1) (ftI (scI 0) 0)) = w8 at *
                  have H5 := Lib.hid (H4.out.below HB_w8.out)
                  have hroom := H5.out.room HW4.out
                  have hld := jhld_any H5.out.sj
                  have hdr : decide ((4110 : Int) ≤ (l4.length : Int)) = false := decide_eq_false (by omega)
                  have hdr2 : decide (4110 ≤ l4.length) = false := decide_eq_false (by omega)
                  have HF0 : Hid (fullJ l4 = 0 ∧ fullW w8 g = 0) := ⟨fullJ_room hroom, by unfold fullW; rw [H5.out.sj.held]; exact if_neg (by omega)⟩
                  have HFX : Hid (k + 1 + 2 * rs.length + fullJ l4 ≤ 2 * b.length) := by
                    show _ ≤ _
                    rw [HF0.out.1]
                    have h3 := HCN.out
                    have h4 := HC0.out
                    omega
                  have HMX : Hid (∀ W, heldN W g = l.length → 2 * rs.length + fullW w8 g < 2 * rest.length + fullW W g) := fun W hW => by
                    rw [HF0.out.2]
                    have h3 := HCN.out
                    have h4 := HC0.out
                    rcases h3 with h3 | h3
                    · omega
                    · have : fullW W g = 1 := by
                        unfold fullW
                        rw [hW]
                        have h5 := h3.2.2.1
                        unfold fullJ at h5
                        split at h5
                        · rename_i h6
                          rw [if_pos h6]
                        · omega
                      omega
                  clear H4 HP_w8 HT_w8 HB_w8 HS_w8 hroom
                  by_cases hk1 : kk < n
                  · have hdk : decide ((kk : Int) < (n : Int)) = true := decide_eq_true (by omega)
                    have hdk2 : decide (kk < n) = true := decide_eq_true hk1
                    go_wp2_with fail
                    refine hld.mono ?_
                    rintro e w9 ⟨rfl, rfl⟩
                    clear hld
                    go_wp2_with fail
                    go_roundw
                    case rel => exact ⟨rs, A2, c' - kk, L, v4, l4, bad, code, k + 1, rfl, rfl, HC0.out.2.2.2.1, rfl, HFX.out, HR2, H5, (fun _ => HW4.out)⟩
                    case measure => exact HMX.out _ (by rw [HWZ.out]; exact HC0.out.2.2.2.2)
                  · have hdk : decide ((kk : Int) < (n : Int)) = false := decide_eq_false (by omega)
                    have hdk2 : decide (kk < n) = false := decide_eq_false hk1
                    clear hld
                    go_wp2_with fail
                    go_roundw
                    case rel => exact ⟨rs, A2, c' - kk, L, v4, l4, bad, code, k + 1, rfl, rfl, HC0.out.2.2.2.1, rfl, HFX.out, HR2, H5, (fun _ => HW4.out)⟩
                    case measure => exact HMX.out _ (by rw [HWZ.out]; exact HC0.out.2.2.2.2)
                · have H4 := Lib.hid h4
                  have HK := Lib.hid (And.intro hk0 hk9)
                  clear h4 hnx HD hk0 hk9 hbd
                  have HTW := Lib.hid (twoJ w7 (pcA Pc.zero A4 c4) (ftI 3 k4) rfl)
                  go_upto_region 20 with (first
                    | (refine wpList_sw (cs := (pcA Pc.zero A4 c4)) rfl _ _ rfl rfl rfl HTW.out.1 rfl (pcA_ok _ _ _) ?_)
                    | (refine wpList_sw (cs := (ftI 3 k4)) rfl _ _ rfl rfl rfl HTW.out.2.1 (ftI_sz _ _ _ _) (ftI_ok _ _) ?_))
                  have HP_w8 : Hid (Row ((((w7.alloc (.cells #[.bool false, .int .u8 0, .bool false, .int .u32 0, .slice none 0 0] 31)).alloc (.cells #[.int .u8 0, .int .u32 0] 33)).setRow w7.heap.size (pcA Pc.zero A4 c4)).setRow (w7.heap.size + 1) (ftI 3 k4)) w7.heap.size 31 (pcA Pc.zero A4 c4)) := HTW.out.2.2.1
                  have HT_w8 : Hid (Row ((((w7.alloc (.cells #[.bool false, .int .u8 0, .bool false, .int .u32 0, .slice none 0 0] 31)).alloc (.cells #[.int .u8 0, .int .u32 0] 33)).setRow w7.heap.size (pcA Pc.zero A4 c4)).setRow (w7.heap.size + 1) (ftI 3 k4)) (w7.heap.size + 1) 33 (ftI 3 k4)) := HTW.out.2.2.2.1
                  have HB_w8 : Hid (Below w7.heap.size w7 ((((w7.alloc (.cells #[.bool false, .int .u8 0, .bool false, .int .u32 0, .slice none 0 0] 31)).alloc (.cells #[.int .u8 0, .int .u32 0] 33)).setRow w7.heap.size (pcA Pc.zero A4 c4)).setRow (w7.heap.size + 1) (ftI 3 k4))) := HTW.out.2.2.2.2.1
                  have HS_w8 : Hid (((((w7.alloc (.cells #[.bool false, .int .u8 0, .bool false, .int .u32 0, .slice none 0 0] 31)).alloc (.cells #[.int .u8 0, .int .u32 0] 33)).setRow w7.heap.size (pcA Pc.zero A4 c4)).setRow (w7.heap.size + 1) (ftI 3 k4)).heap.size = w7.heap.size + 2) := HTW.out.2.2.2.2.2
                  clear HTW
                  generalize ((((w7.alloc (.cells #[.bool false, .int .u8 0, .bool false, .int .u32 0, .slice none 0 0] 31)).alloc (.cells #[.int .u8 0, .int .u32 0] 33)).setRow w7.heap.size (pcA Pc.zero A4 c4)).setRow (w7.heap.size + 1) (ftI 3 k4)) = w8 at *
                  have H5 := Lib.hid (H4.out.below HB_w8.out)
                  have hne := ftJ_ne3 k4
                  have hwk : IntKind.i64.wrap (k4 : Int) = (k4 : Int) := IntWalk.i64_in _ (by have := HK.out; omega)
                  have c0 : w8.cell? ⟨w7.heap.size + 1, 0, none⟩ = some (.int .u8 3) := HT_w8.out.cell rfl
                  have c1 : w8.cell? ⟨w7.heap.size + 1, 1, none⟩ = some (.int .u32 (k4 : Int)) := HT_w8.out.cell rfl
                  have p1 : w8.cell? ⟨w7.heap.size, 1, none⟩ = some (.int .u8 0) := HP_w8.out.cell rfl
                  have p4 : w8.cell? ⟨w7.heap.size, 4, none⟩ = some (.slice A4 0 c4) := HP_w8.out.cell rfl
                  have hbd := jbad_any H5.out.sj
                  clear H4 HP_w8 HB_w8 HS_w8
                  go_wp2_with (first
                    | (refine wpList_ld (cs := #[.int .u8 3, .int .u32 (k4 : Int)]) rfl _ rfl rfl HT_w8.out (ftI_ok 3 k4) ?_)
                    | (go_at_call 9; refine hbd.mono ?_; rintro e w9 ⟨rfl, rfl⟩))
                  go_roundw
                  case rel => exact ⟨L, v4, [], true, k4, rfl, H5⟩
                  case measure => rw [H5.out.sj.held, HH.out]; exact hll
                · have H4 := Lib.hid h4
                  clear h4 hnx HD hbd
                  have HTW := Lib.hid (twoJ w7 (pcA p4 A4 c4) (ftI (scI 0) 0) rfl)
                  go_upto_region 20 with (first
                    | (refine wpList_sw (cs := (pcA p4 A4 c4)) rfl _ _ rfl rfl rfl HTW.out.1 rfl (pcA_ok _ _ _) ?_)
                    | (refine wpList_sw (cs := (ftI (scI 0) 0)) rfl _ _ rfl rfl rfl HTW.out.2.1 (ftI_sz _ _ _ _) (ftI_ok _ _) ?_))
                  have HP_w8 : Hid (Row ((((w7.alloc (.cells #[.bool false, .int .u8 0, .bool false, .int .u32 0, .slice none 0 0] 31)).alloc (.cells #[.int .u8 0, .int .u32 0] 33)).setRow w7.heap.size (pcA p4 A4 c4)).setRow (w7.heap.size + 1) (ftI (scI 0) 0)) w7.heap.size 31 (pcA p4 A4 c4)) := HTW.out.2.2.1
                  have HT_w8 : Hid (Row ((((w7.alloc (.cells #[.bool false, .int .u8 0, .bool false, .int .u32 0, .slice none 0 0] 31)).alloc (.cells #[.int .u8 0, .int .u32 0] 33)).setRow w7.heap.size (pcA p4 A4 c4)).setRow (w7.heap.size + 1) (ftI (scI 0) 0)) (w7.heap.size + 1) 33 (ftI (scI 0) 0)) := HTW.out.2.2.2.1
                  have HB_w8 : Hid (Below w7.heap.size w7 ((((w7.alloc (.cells #[.bool false, .int .u8 0, .bool false, .int .u32 0, .slice none 0 0] 31)).alloc (.cells #[.int .u8 0, .int .u32 0] 33)).setRow w7.heap.size (pcA p4 A4 c4)).setRow (w7.heap.size + 1) (ftI (scI 0) 0))) := HTW.out.2.2.2.2.1
                  have HS_w8 : Hid (((((w7.alloc (.cells #[.bool false, .int .u8 0, .bool false, .int .u32 0, .slice none 0 0] 31)).alloc (.cells #[.int .u8 0, .int .u32 0] 33)).setRow w7.heap.size (pcA p4 A4 c4)).setRow (w7.heap.size + 1) (ftI (scI 0) 0)).heap.size = w7.heap.size + 2) := HTW.out.2.2.2.2.2
                  clear HTW
                  generalize ((((w7.alloc (.cells #[.bool false, .int .u8 0, .bool false, .int .u32 0, .slice none 0 0] 31)).alloc (.cells #[.int .u8 0, .int .u32 0] 33)).setRow w7.heap.size (pcA p4 A4 c4)).setRow (w7.heap.size + 1) (ftI (scI 0) 0)) = w8 at *
                  have hne := ftJ_ne0
                  have HBA : Hid (Below w8.heap.size w8 (w8.alloc (.cells (pcA p4 A4 c4) 31))) := (Below.refl _ _).alloc (Nat.le_refl _) _
                  have HRN : Hid (Row (w8.alloc (.cells (pcA p4 A4 c4) 31)) w8.heap.size 31 (pcA p4 A4 c4)) := Row.new _ _ _
                  have H5 := Lib.hid ((H4.out.below HB_w8.out).below HBA.out)
                  have hab : b.length ≤ 1000000 := by have := HBL.out; omega
                  clear H4 HB_w8 HS_w8
                  go_upto_region 25 with (refine wpList_ld (cs := #[.int .u8 0, .int .u32 0]) rfl _ rfl rfl HT_w8.out (ftI_ok 0 0) ?_)
                  clear hne
                  go_wp2_with (first
                    | (refine wpList_ld rfl _ rfl rfl HP_w8.out (pcA_ok _ _ _) ?_)
                    | (refine wpList_bsP (p := p4) (A := A4) (c := c4) rfl _ rfl rfl ?_)
                    | (at_builtin; go_loud (refine wpList_appD rfl _ _ rfl rfl H5.out w8.heap.size rfl HRN.out hab ?_; intro gv9 w9 h9; have HD9 := Lib.hid h9; clear h9)))
                  go_roundw
                  case rel => exact ⟨_, v4, l5, false, code, rfl, HD9⟩
                  case measure => rw [HD9.out.sj.held, HH.out]; exact hll
theorem jwplays_law {b zs : List UInt8} {ca cz : Nat} {A Z : Option Addr} {m : Bool} {often : Nat} {w : World} (hra : RdB w w.heap.size A b) (hca : b.length ≤ ca) (hrz : RdB w w.heap.size Z zs) (hof : often < 256) (hG : GlobE w) :
    Calls Tryd.prog 3 #[.slice A b.length ca, .bool m, .slice Z zs.length cz, .int .u8 often] w fun e w' => e = .returned (.bool true) ∧ Below w.heap.size w w' := by
  by_cases h : 20000 < b.length ∨ 3000 < zs.length
  · exact jwplays_big hG h
  · exact jwplays_small hra hca hrz hof hG (by omega) (by omega)
end Go.Proofs.YtejlbgllfkfkfaaDoor
