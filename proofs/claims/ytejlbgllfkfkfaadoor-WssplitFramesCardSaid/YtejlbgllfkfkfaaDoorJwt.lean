/-
  WssplitTwo: the law's walk. Conditions: the arguments are read; errors.errorType holds what the program's text lays.
-/
import Derived.Test.YtejlbgllfkfkfaaDoorJd
import Derived.Test.YtejlbgllfkfkfaaDoorJal
import Derived.Test.YtejlbgllfkfkfaaDoorJsm
import Derived.Test.YtejlbgllfkfkfaaDoorJfx
import Derived.Lib.MinMax
namespace Go.Proofs.YtejlbgllfkfkfaaDoor
open Go.RowKit Go.WideShapes

set_option maxRecDepth 100000 in
set_option maxHeartbeats 2000000 in
theorem jwtwo_big {na nb ca cb : Nat} {A B : Option Addr} {m : Bool} {w : World} (hG : GlobE w) (hbig : 5000 < na + nb) :
    Calls Tryd.prog 6 #[.slice A na ca, .slice B nb cb, .bool m] w fun e w' => e = .returned (.bool true) ∧ Below w.heap.size w w' := by
  have hfx := fixed17_any w hG
  have hT : (na ≤ 5000 ∧ nb ≤ 5000) → IntKind.i64.wrap ((na : Int) + (nb : Int)) = (na : Int) + nb := fun h => IntWalk.i64_in _ (by omega)
  generalize hs : IntKind.i64.wrap ((na : Int) + (nb : Int)) = T at *
  by_cases h0 : 5000 < T
  · have hd : decide ((5000 : Int) < T) = true := decide_eq_true h0
    clear hT
    go_enter Tryd.func6, Tryd.ntmps6
    go_wp2_with fail
    refine hfx.mono ?_
    rintro e w1 ⟨rfl, hb1⟩
    go_wp2_with fail
    go_ret
    exact ⟨rfl, hb1⟩
  have hd : decide ((5000 : Int) < T) = false := decide_eq_false h0
  by_cases h1 : 5000 < na
  · have hd1 : decide ((5000 : Int) < (na : Int)) = true := decide_eq_true (by omega)
    clear hT
    go_enter Tryd.func6, Tryd.ntmps6
    go_wp2_with fail
    refine hfx.mono ?_
    rintro e w1 ⟨rfl, hb1⟩
    go_wp2_with fail
    go_ret
    exact ⟨rfl, hb1⟩
  have hd1 : decide ((5000 : Int) < (na : Int)) = false := decide_eq_false (by omega)
  by_cases h2 : 5000 < nb
  · have hd2 : decide ((5000 : Int) < (nb : Int)) = true := decide_eq_true (by omega)
    clear hT
    go_enter Tryd.func6, Tryd.ntmps6
    go_wp2_with fail
    refine hfx.mono ?_
    rintro e w1 ⟨rfl, hb1⟩
    go_wp2_with fail
    go_ret
    exact ⟨rfl, hb1⟩
  · have := hT ⟨by omega, by omega⟩
    omega
def tailJ (a b : List UInt8) : Nat → List UInt8
  | 0 => a ++ b
  | 1 => b
  | _ => []
def slJ : Value → Nat
  | .slice _ n _ => n
  | _ => 0
set_option maxRecDepth 100000 in
set_option maxHeartbeats 8000000 in
theorem jwtwo_small {a b : List UInt8} {ca cb : Nat} {A B : Option Addr} {m : Bool} {w : World} (hra : RdB w w.heap.size A a) (hca : a.length ≤ ca) (hrb : RdB w w.heap.size B b) (hcb : b.length ≤ cb) (hG : GlobE w) (hsm : a.length + b.length ≤ 5000) :
    Calls Tryd.prog 6 #[.slice A a.length ca, .slice B b.length cb, .bool m] w fun e w' => e = .returned (.bool true) ∧ Below w.heap.size w w' := by
  obtain ⟨T, hT⟩ : ∃ T, T = a.length + b.length := ⟨_, rfl⟩
  have hs : IntKind.i64.wrap ((a.length : Int) + (b.length : Int)) = (T : Int) := by rw [IntWalk.i64_in _ (by omega)]; omega
  have hd0 : decide ((5000 : Int) < (T : Int)) = false := decide_eq_false (by omega)
  have hd1 : decide ((5000 : Int) < (a.length : Int)) = false := decide_eq_false (by omega)
  have hd2 : decide ((5000 : Int) < (b.length : Int)) = false := decide_eq_false (by omega)
  have hta : (convert 22 9 (.slice A a.length ca)).run Tryd.prog w = .ok (.string (txb a)) w := run_text (P := Tryd.prog) (c := ca) Tryd.underlying22 Tryd.underlying5 Tryd.underlying9 hra
  have hal := rallJ_any a (by omega) m w
  have HRA := Lib.hid hra
  have HRB := Lib.hid hrb
  have HG := Lib.hid hG
  have HCA := Lib.hid hca
  have HCB := Lib.hid hcb
  have HSM := Lib.hid hsm
  clear hra hrb hG hca hcb hsm hT
  generalize hxa : txb a = ta at *
  clear hxa
  go_enter Tryd.func6, Tryd.ntmps6
  go_upto_region 3 with fail
  clear hs hd0 hd1 hd2
  go_wp2_with fail
  refine hal.mono ?_
  rintro e w1 ⟨Lx, vx, cx, nx, rfl, hpx, hax, hb1⟩
  have HPX := Lib.hid hpx
  have HAX := Lib.hid hax
  have HB1 := Lib.hid hb1
  have HG1 := Lib.hid (HG.out.below hb1)
  clear hpx hax hb1 hal hta
  have hfx := fixed17_any w1 HG1.out
  by_cases hcx : cx ≠ 0
  · have hn : ((cx : Int) != 0) = true := bne_iff_ne.2 (by omega)
    clear hcx
    go_wp2_with fail
    refine hfx.mono ?_
    rintro e w2 ⟨rfl, hb2⟩
    have HB2 := Lib.hid (HB1.out.trans (hb2.mono HB1.out.size))
    clear hb2 hfx
    go_wp2_with fail
    go_ret
    exact ⟨rfl, HB2.out⟩
  by_cases hnx : nx ≠ 0
  · have hc0 : cx = 0 := by omega
    subst hc0
    have hn : ((nx : Int) != 0) = true := bne_iff_ne.2 (by omega)
    clear hnx hcx
    go_wp2_with fail
    refine hfx.mono ?_
    rintro e w2 ⟨rfl, hb2⟩
    have HB2 := Lib.hid (HB1.out.trans (hb2.mono HB1.out.size))
    clear hb2 hfx
    go_wp2_with fail
    go_ret
    exact ⟨rfl, HB2.out⟩
  obtain rfl : cx = 0 := by omega
  obtain rfl : nx = 0 := by omega
  clear hcx hnx hfx
  have htb : (convert 22 9 (.slice B b.length cb)).run Tryd.prog w1 = .ok (.string (txb b)) w1 := run_text (P := Tryd.prog) (c := cb) Tryd.underlying22 Tryd.underlying5 Tryd.underlying9 (HRB.out.below HB1.out)
  have hbl := rallJ_any b (by have := HSM.out; omega) m w1
  generalize hxb : txb b = tb9 at *
  clear hxb
  go_wp2_with fail
  refine hbl.mono ?_
  rintro e w2 ⟨Ly, vy, cy, ny, rfl, hpy, hay, hb2⟩
  have HPY := Lib.hid hpy
  have HAY := Lib.hid hay
  have HPX2 := Lib.hid (HPX.out.below hb2)
  have HB2 := Lib.hid (HB1.out.trans (hb2.mono HB1.out.size))
  have HG2 := Lib.hid (HG1.out.below hb2)
  clear hpy hay hb2 hbl htb HPX HB1 HG1
  have hnw := jnew_any w2 m HG2.out
  go_wp2_with fail
  refine hnw.mono ?_
  rintro e w3 ⟨rfl, hs3, hb3⟩
  have HD3 := Lib.hid (DJ.start (w := w2) (Below.refl _ _) hs3 hb3 HG2.out (a ++ b))
  clear hs3 hb3 hnw
  obtain ⟨g, hg⟩ : ∃ g, g = w2.heap.size := ⟨_, rfl⟩
  simp only [← hg] at HD3 ⊢
  have HGE := Lib.hid hg
  clear hg
  have hba : Below w3.heap.size w3 (w3.alloc (.cells #[.slice A a.length ca, .slice B b.length cb] 22)) := (Below.refl _ _).alloc (Nat.le_refl _) _
  have HD4 : Hid (DJ [(w3.heap.size, 22, #[.slice A a.length ca, .slice B b.length cb])] w2 g m (a ++ b) (a ++ b) (w3.alloc (.cells #[.slice A a.length ca, .slice B b.length cb] 22)) (.slice none 0 0) (.slice none 0 0) [] [] false 0) := (HD3.out.below hba).watch ⟨Row.new w3 _ _, (by show 22 ≠ 5; decide), (by show 22 ≠ 47; decide), (by show 22 ≠ 31; decide)⟩
  clear hba HD3
  go_upto_region 11 with fail
  generalize w3.alloc (.cells #[.slice A a.length ca, .slice B b.length cb] 22) = w4 at *
  generalize w3.heap.size = pa at *
  go_loopw [68, 14, 15] (fun i o c wr => ∃ (j : Nat) (L : List Pe) (v : Value) (l : List UInt8) (bad : Bool) (code : Nat), i = .int .i64 j ∧ j ≤ 2 ∧ c = .int .i64 code ∧ Hid (DJ [(pa, 22, #[.slice A a.length ca, .slice B b.length cb])] w2 g m (a ++ b) (tailJ a b j) wr o v L l bad code) ∧ Hid (bad = true ∨ WaitJ m l)) (fun i o c wr => 2 - (intOf i).toNat)
  case atStart => exact ⟨0, [], _, [], false, 0, rfl, by omega, rfl, HD4, .inr ⟨rfl, .inl rfl⟩⟩
  case round =>
    obtain ⟨j, L, v, l, bad, code, rfl, hj, rfl, HD, HW⟩ := hrel
    clear HD4
    by_cases hlt : j < 2
    · obtain ⟨x, Ax, cx, hxs, hcx, hrx, htl⟩ : ∃ (x : List UInt8) (Ax : Option Addr) (cx : Nat), (#[Value.slice A a.length ca, Value.slice B b.length cb] : Array Value)[j]? = some (.slice Ax x.length cx) ∧ x.length ≤ cx ∧ RdB w w.heap.size Ax x ∧ tailJ a b j = x ++ tailJ a b (j + 1) := by
        match j, hlt with
        | 0, _ => exact ⟨a, A, ca, rfl, HCA.out, HRA.out, rfl⟩
        | 1, _ => exact ⟨b, B, cb, rfl, HCB.out, HRB.out, by simp [tailJ]⟩
      have hkn : (j : Int) < 2 := by omega
      have hcell : wr.cell? ⟨pa, j, none⟩ = some (.slice Ax x.length cx) := (HD.out.ex _ (List.mem_singleton.2 rfl)).1.cell hxs
      have hwr1 : IntKind.i64.wrap ((j : Int) + 1) = (j : Int) + 1 := IntWalk.i64_in _ (by omega)
      rw [htl] at HD
      have HRX := Lib.hid hrx
      clear hxs hrx htl
      go_upto_region 13 with fail
      clear hcell
      go_loopw [17, 14, 15] (fun q o c wr => ∃ (rest : List UInt8) (A' : Option Addr) (c' : Nat) (L : List Pe) (v : Value) (l : List UInt8) (bad : Bool) (code : Nat), q = .slice A' rest.length c' ∧ rest.length ≤ c' ∧ c = .int .i64 code ∧ Hid (RdB w w.heap.size A' rest) ∧ Hid (DJ [(pa, 22, #[.slice A a.length ca, .slice B b.length cb])] w2 g m (a ++ b) (rest ++ tailJ a b (j + 1)) wr o v L l bad code) ∧ Hid (bad = true ∨ WaitJ m l)) (fun q o c wr => slJ q)
      case atStart => exact ⟨x, Ax, cx, L, v, l, bad, code, rfl, hcx, rfl, HRX, HD, HW⟩
      case round =>
        obtain ⟨rest, A', c', L, v, l, bad, code, rfl, hc', rfl, HR, HD, HW⟩ := hrel
        by_cases hr0 : rest.length = 0
        · have hr : rest = [] := List.eq_nil_of_length_eq_zero hr0
          subst hr
          go_wp2_with fail
          go_roundw
          case rel => exact ⟨j + 1, L, v, l, bad, code, rfl, by omega, rfl, HD, HW⟩
          case measure => first | omega | (simp; omega) | (simp [intOf]; omega)
        · have hpos : decide ((0 : Int) < (rest.length : Int)) = true := decide_eq_true (by omega)
          have hpos2 : 0 < rest.length := by omega
          have hbd := jbad_any HD.out.sj
          cases bad
          · have hroom := HD.out.room HW.out
            obtain ⟨n, hn⟩ : ∃ n, n = min rest.length (4110 - l.length) := ⟨_, rfl⟩
            have hn1 : 0 < n := by omega
            have hnr : n ≤ rest.length := by omega
            obtain ⟨i0, hi0, hz0, hz1, hz2⟩ := infoI infoI8
            have hrd := HR.out.below (HB2.out.trans (HD.out.bl.mono HB2.out.size))
            have hfd := HD.out.feed (n := n) hrd hc' hn
            obtain ⟨A2, hcut, hR2⟩ := cut_from (P := Tryd.prog) Tryd.underlying22 hi0 hz1 HR.out hc' (k := n) hnr
            have HR2 := Lib.hid hR2
            have hrl : (rest.drop n).length = rest.length - n := List.length_drop
            rw [← hrl] at hcut
            have hlt2 : (rest.drop n).length < rest.length := by omega
            have hc2 : (rest.drop n).length ≤ c' - n := by omega
            have HN := Lib.hid (And.intro hn1 (And.intro hlt2 hc2))
            clear hrd hR2 hn hroom hr0 hlt2 hc2 hrl HD HW hi0 hz0 hz1 hz2
            generalize rest.drop n = rs at *
            generalize l ++ rest.take n = l2 at *
            go_wp2_with fail
            refine hbd.mono ?_
            rintro e w5 ⟨rfl, rfl⟩
            clear hbd
            go_wp2_with fail
            refine hfd.mono ?_
            rintro e w6 ⟨rfl, v6, h6⟩
            have HD6 := Lib.hid h6
            clear h6 hfd
            go_upto_region 16 with fail
            clear hcut hpos hpos2 hnr hn1
            go_loopw [14, 15] (fun o c wr => ∃ (L : List Pe) (v : Value) (l : List UInt8) (bad : Bool) (code : Nat), c = .int .i64 code ∧ Hid (DJ [(pa, 22, #[.slice A a.length ca, .slice B b.length cb])] w2 g m (a ++ b) (rs ++ tailJ a b (j + 1)) wr o v L l bad code)) (fun o c wr => heldN wr g)
            case atStart => exact ⟨L, v6, l2, false, code, rfl, HD6⟩
            case round =>
              obtain ⟨L, v, l, bad, code, rfl, HD⟩ := hrel
              clear HD6
              have HH := Lib.hid HD.out.sj.held
              have hnx := HD.out.next
              go_wp2_with fail
              refine hnx.mono ?_
              rintro e w7 (⟨A4, c4, v4, rfl, h4, hw⟩ | ⟨A4, c4, v4, k4, rfl, h4, hk0, hk9, hbd, hll⟩ | ⟨p4, A4, c4, v4, l4, rfl, h4, hbd, hll⟩)
              · have H4 := Lib.hid h4
                have HW4 := Lib.hid hw
                clear h4 hw hnx HD
                have HTW := Lib.hid (twoJ w7 (pcA Pc.zero A4 c4) (ftI (scI 0) 0) rfl)
                go_upto_region 17 with (first
                  | (refine wpList_sw (cs := (pcA Pc.zero A4 c4)) rfl _ _ rfl rfl rfl HTW.out.1 rfl (pcA_ok _ _ _) ?_)
                  | (refine wpList_sw (cs := (ftI (scI 0) 0)) rfl _ _ rfl rfl rfl HTW.out.2.1 (ftI_sz _ _ _ _) (ftI_ok _ _) ?_))
                have HP_w8 : Hid (Row ((((w7.alloc (.cells #[.bool false, .int .u8 0, .bool false, .int .u32 0, .slice none 0 0] 31)).alloc (.cells #[.int .u8 0, .int .u32 0] 33)).setRow w7.heap.size (pcA Pc.zero A4 c4)).setRow (w7.heap.size + 1) (ftI (scI 0) 0)) w7.heap.size 31 (pcA Pc.zero A4 c4)) := HTW.out.2.2.1
                have HT_w8 : Hid (Row ((((w7.alloc (.cells #[.bool false, .int .u8 0, .bool false, .int .u32 0, .slice none 0 0] 31)).alloc (.cells #[.int .u8 0, .int .u32 0] 33)).setRow w7.heap.size (pcA Pc.zero A4 c4)).setRow (w7.heap.size + 1) (ftI (scI 0) 0)) (w7.heap.size + 1) 33 (ftI (scI 0) 0)) := HTW.out.2.2.2.1
                have HB_w8 : Hid (Below w7.heap.size w7 ((((w7.alloc (.cells #[.bool false, .int .u8 0, .bool false, .int .u32 0, .slice none 0 0] 31)).alloc (.cells #[.int .u8 0, .int .u32 0] 33)).setRow w7.heap.size (pcA Pc.zero A4 c4)).setRow (w7.heap.size + 1) (ftI (scI 0) 0))) := HTW.out.2.2.2.2.1
                have HS_w8 : Hid (((((w7.alloc (.cells #[.bool false, .int .u8 0, .bool false, .int .u32 0, .slice none 0 0] 31)).alloc (.cells #[.int .u8 0, .int .u32 0] 33)).setRow w7.heap.size (pcA Pc.zero A4 c4)).setRow (w7.heap.size + 1) (ftI (scI 0) 0)).heap.size = w7.heap.size + 2) := HTW.out.2.2.2.2.2
                clear HTW
                generalize ((((w7.alloc (.cells #[.bool false, .int .u8 0, .bool false, .int .u32 0, .slice none 0 0] 31)).alloc (.cells #[.int .u8 0, .int .u32 0] 33)).setRow w7.heap.size (pcA Pc.zero A4 c4)).setRow (w7.heap.size + 1) (ftI (scI 0) 0)) = w8 at *
                have H5 := Lib.hid (H4.out.below HB_w8.out)
                have hn0 : ((n : Int) == 0) = false := beq_eq_false_iff_ne.2 (by have := HN.out.1; omega)
                clear H4 HP_w8 HT_w8 HB_w8 HS_w8
                go_wp2_with fail
                go_roundw
                case rel => exact ⟨rs, A2, c' - n, L, v4, l, bad, code, rfl, HN.out.2.2, rfl, HR2, H5, HW4⟩
                case measure => exact HN.out.2.1
              · have H4 := Lib.hid h4
                have HK := Lib.hid (And.intro hk0 hk9)
                clear h4 hnx HD hk0 hk9 hbd
                have HTW := Lib.hid (twoJ w7 (pcA Pc.zero A4 c4) (ftI 3 k4) rfl)
                go_upto_region 17 with (first
                  | (refine wpList_sw (cs := (pcA Pc.zero A4 c4)) rfl _ _ rfl rfl rfl HTW.out.1 rfl (pcA_ok _ _ _) ?_)
                  | (refine wpList_sw (cs := (ftI 3 k4)) rfl _ _ rfl rfl rfl HTW.out.2.1 (ftI_sz _ _ _ _) (ftI_ok _ _) ?_))
                have HP_w8 : Hid (Row ((((w7.alloc (.cells #[.bool false, .int .u8 0, .bool false, .int .u32 0, .slice none 0 0] 31)).alloc (.cells #[.int .u8 0, .int .u32 0] 33)).setRow w7.heap.size (pcA Pc.zero A4 c4)).setRow (w7.heap.size + 1) (ftI 3 k4)) w7.heap.size 31 (pcA Pc.zero A4 c4)) := HTW.out.2.2.1
                have HT_w8 : Hid (Row ((((w7.alloc (.cells #[.bool false, .int .u8 0, .bool false, .int .u32 0, .slice none 0 0] 31)).alloc (.cells #[.int .u8 0, .int .u32 0] 33)).setRow w7.heap.size (pcA Pc.zero A4 c4)).setRow (w7.heap.size + 1) (ftI 3 k4)) (w7.heap.size + 1) 33 (ftI 3 k4)) := HTW.out.2.2.2.1
                have HB_w8 : Hid (Below w7.heap.size w7 ((((w7.alloc (.cells #[.bool false, .int .u8 0, .bool false, .int .u32 0, .slice none 0 0] 31)).alloc (.cells #[.int .u8 0, .int .u32 0] 33)).setRow w7.heap.size (pcA Pc.zero A4 c4)).setRow (w7.heap.size + 1) (ftI 3 k4))) := HTW.out.2.2.2.2.1
                have HS_w8 : Hid (((((w7.alloc (.cells #[.bool false, .int .u8 0, .bool false, .int .u32 0, .slice none 0 0] 31)).alloc (.cells #[.int .u8 0, .int .u32 0] 33)).setRow w7.heap.size (pcA Pc.zero A4 c4)).setRow (w7.heap.size + 1) (ftI 3 k4)).heap.size = w7.heap.size + 2) := HTW.out.2.2.2.2.2
                clear HTW
                generalize ((((w7.alloc (.cells #[.bool false, .int .u8 0, .bool false, .int .u32 0, .slice none 0 0] 31)).alloc (.cells #[.int .u8 0, .int .u32 0] 33)).setRow w7.heap.size (pcA Pc.zero A4 c4)).setRow (w7.heap.size + 1) (ftI 3 k4)) = w8 at *
                have H5 := Lib.hid (H4.out.below HB_w8.out)
                have hne := ftJ_ne3 k4
                have hwk : IntKind.i64.wrap (k4 : Int) = (k4 : Int) := IntWalk.i64_in _ (by have := HK.out; omega)
                have c1 : w8.cell? ⟨w7.heap.size + 1, 1, none⟩ = some (.int .u32 (k4 : Int)) := HT_w8.out.cell rfl
                clear H4 HP_w8 HB_w8 HS_w8
                go_wp2_with (refine wpList_ld (cs := #[.int .u8 3, .int .u32 (k4 : Int)]) rfl _ rfl rfl HT_w8.out (ftI_ok 3 k4) ?_)
                go_roundw
                case rel => exact ⟨L, v4, [], true, k4, rfl, H5⟩
                case measure => rw [H5.out.sj.held, HH.out]; exact hll
              · have H4 := Lib.hid h4
                clear h4 hnx HD hbd
                have HTW := Lib.hid (twoJ w7 (pcA p4 A4 c4) (ftI (scI 0) 0) rfl)
                go_upto_region 17 with (first
                  | (refine wpList_sw (cs := (pcA p4 A4 c4)) rfl _ _ rfl rfl rfl HTW.out.1 rfl (pcA_ok _ _ _) ?_)
                  | (refine wpList_sw (cs := (ftI (scI 0) 0)) rfl _ _ rfl rfl rfl HTW.out.2.1 (ftI_sz _ _ _ _) (ftI_ok _ _) ?_))
                have HP_w8 : Hid (Row ((((w7.alloc (.cells #[.bool false, .int .u8 0, .bool false, .int .u32 0, .slice none 0 0] 31)).alloc (.cells #[.int .u8 0, .int .u32 0] 33)).setRow w7.heap.size (pcA p4 A4 c4)).setRow (w7.heap.size + 1) (ftI (scI 0) 0)) w7.heap.size 31 (pcA p4 A4 c4)) := HTW.out.2.2.1
                have HT_w8 : Hid (Row ((((w7.alloc (.cells #[.bool false, .int .u8 0, .bool false, .int .u32 0, .slice none 0 0] 31)).alloc (.cells #[.int .u8 0, .int .u32 0] 33)).setRow w7.heap.size (pcA p4 A4 c4)).setRow (w7.heap.size + 1) (ftI (scI 0) 0)) (w7.heap.size + 1) 33 (ftI (scI 0) 0)) := HTW.out.2.2.2.1
                have HB_w8 : Hid (Below w7.heap.size w7 ((((w7.alloc (.cells #[.bool false, .int .u8 0, .bool false, .int .u32 0, .slice none 0 0] 31)).alloc (.cells #[.int .u8 0, .int .u32 0] 33)).setRow w7.heap.size (pcA p4 A4 c4)).setRow (w7.heap.size + 1) (ftI (scI 0) 0))) := HTW.out.2.2.2.2.1
                have HS_w8 : Hid (((((w7.alloc (.cells #[.bool false, .int .u8 0, .bool false, .int .u32 0, .slice none 0 0] 31)).alloc (.cells #[.int .u8 0, .int .u32 0] 33)).setRow w7.heap.size (pcA p4 A4 c4)).setRow (w7.heap.size + 1) (ftI (scI 0) 0)).heap.size = w7.heap.size + 2) := HTW.out.2.2.2.2.2
                clear HTW
                generalize ((((w7.alloc (.cells #[.bool false, .int .u8 0, .bool false, .int .u32 0, .slice none 0 0] 31)).alloc (.cells #[.int .u8 0, .int .u32 0] 33)).setRow w7.heap.size (pcA p4 A4 c4)).setRow (w7.heap.size + 1) (ftI (scI 0) 0)) = w8 at *
                have hne := ftJ_ne0
                have HBA : Hid (Below w8.heap.size w8 (w8.alloc (.cells (pcA p4 A4 c4) 31))) := (Below.refl _ _).alloc (Nat.le_refl _) _
                have HRN : Hid (Row (w8.alloc (.cells (pcA p4 A4 c4) 31)) w8.heap.size 31 (pcA p4 A4 c4)) := Row.new _ _ _
                have H5 := Lib.hid ((H4.out.below HB_w8.out).below HBA.out)
                have hab : (a ++ b).length ≤ 1000000 := by rw [List.length_append]; have := HSM.out; omega
                clear H4 HB_w8 HS_w8
                go_upto_region 20 with (refine wpList_ld (cs := #[.int .u8 0, .int .u32 0]) rfl _ rfl rfl HT_w8.out (ftI_ok 0 0) ?_)
                clear hne
                go_wp2_with (first
                  | (refine wpList_ld rfl _ rfl rfl HP_w8.out (pcA_ok _ _ _) ?_)
                  | (refine wpList_bsP (p := p4) (A := A4) (c := c4) rfl _ rfl rfl ?_)
                  | (at_builtin; go_loud (refine wpList_appD rfl _ _ rfl rfl H5.out w8.heap.size rfl HRN.out hab ?_; intro gv9 w9 h9; have HD9 := Lib.hid h9; clear h9)))
                go_roundw
                case rel => exact ⟨_, v4, l4, false, code, rfl, HD9⟩
                case measure => rw [HD9.out.sj.held, HH.out]; exact hll
          · clear hpos2
            go_wp2_with fail
            refine hbd.mono ?_
            rintro e w5 ⟨rfl, rfl⟩
            clear hbd
            go_wp2_with fail
            go_roundw
            case rel => exact ⟨j + 1, L, v, l, true, code, rfl, by omega, rfl, HD.out.badz _, .inl rfl⟩
            case measure => first | omega | (simp; omega) | (simp [intOf]; omega)
    · obtain rfl : j = 2 := by omega
      have htl : tailJ a b 2 = [] := rfl
      rw [htl] at HD
      have hfin := HD.out.done HW.out
      have hall := AllJ.app (z := b) HAX.out (r := []) (by simp) HAY.out
      obtain ⟨e1, rfl, _⟩ := hall.det hfin
      have HE := Lib.hid e1
      have HPY3 := Lib.hid (HPY.out.below HD.out.bl)
      have HPX3 := Lib.hid (HPX2.out.below HD.out.bl)
      have hlx : Lx.length ≤ 1000000 := by have := HAX.out.facts.2.2.1; rw [List.length_map] at this; have := HSM.out; omega
      have hly : Ly.length ≤ 1000000 := by have := HAY.out.facts.2.2.1; rw [List.length_map] at this; have := HSM.out; omega
      have hlg : L.length ≤ 1000000 := by have := HD.out.len; rw [List.length_append] at this; have := HSM.out; omega
      obtain ⟨Ag, cg, rfl, _⟩ := HD.out.pl.shape
      obtain ⟨Ax, cx, rfl, _⟩ := HPX3.out.shape
      obtain ⟨Ay, cy2, rfl, _⟩ := HPY3.out.shape
      have HBW := Lib.hid (HB2.out.trans (HD.out.bl.mono HB2.out.size))
      have hfx := fixed17_any wr HD.out.gl
      clear hfin hall e1 htl HPX2 HPY HW hlt
      go_wp2_with fail
      refine hfx.mono ?_
      rintro e w5 ⟨rfl, hb5⟩
      have HD5 := Lib.hid (HD.out.pl.below hb5)
      have HPX5 := Lib.hid (HPX3.out.below hb5)
      have HPY5 := Lib.hid (HPY3.out.below hb5)
      have HB5 := Lib.hid (HBW.out.trans (hb5.mono HBW.out.size))
      clear hb5 hfx HPX3 HPY3 HBW HD
      obtain ⟨M, hM⟩ : ∃ M, M = [] ++ Lx ++ Ly := ⟨_, rfl⟩
      have HM := Lib.hid hM
      clear hM
      have HO6 : Hid (OwS (w5.alloc (.cells #[] 31)) w5.heap.size 31 5 (.slice (some ⟨w5.heap.size, 0, none⟩) 0 0) ([] : List Pe).length (enl Pe.cs [])) := (PL.made w5 noXJ (Nat.le_refl _) (fun k h => h.elim)).own
      have HW6 : Hid (Below w5.heap.size w5 (w5.alloc (.cells #[] 31))) := (Below.refl _ _).alloc (Nat.le_refl _) _
      have HX6 := Lib.hid (HPX5.out.below HW6.out).reads.1
      go_wp2_with (first
        | (at_builtin; refine wpList_catP (by rfl) _ _ rfl rfl HO6.out rfl rfl HX6.out (by simp) hlx HW6.out.size ?_; intro v7 w7 ho7 hf7 hn7; have HO7 := Lib.hid ho7; have HW7 := Lib.hid (HW6.out.trans (hf7.below (B := w5.heap.size) (fun k hk _ => (OwS.lt HO6.out k hk).1) HW6.out.size)); have HY7 := Lib.hid (HPY5.out.below HW7.out).reads.1; clear ho7 hf7 hn7 HO6 HW6 HX6)
        | (at_builtin; refine wpList_catP (by rfl) _ _ rfl rfl HO7.out rfl rfl HY7.out (by simpa using hlx) hly HW7.out.size ?_; intro v8 w8 ho8 hf8 hn8; rw [← HM.out] at ho8; have HO8 := Lib.hid ho8; have HW8 := Lib.hid (HW7.out.trans (hf8.below (B := w5.heap.size) (fun k hk _ => (OwS.lt HO7.out k hk).1) HW7.out.size)); obtain ⟨A8, c8, rfl, _⟩ := OwS.shape ho8; clear ho8 hf8 hn8 HO7 HW7 HY7))
      have hsame := sameJ_any (La := L) (Lb := M) (ca := cg) (cb := c8) (by rw [HE.out, HM.out]; simp) (HD5.out.below HW8.out).reads.1 ((OwS.up HO8.out).imp fun k hk _ => hk.2) (HD5.out.below HW8.out).reads.2 (fun e he => by
        rw [HM.out] at he
        rcases List.mem_append.1 he with h1 | h1
        · exact (HPX5.out.below HW8.out).reads.2 e (by simpa using h1)
        · exact (HPY5.out.below HW8.out).reads.2 e h1) hlg
      have HB8 := Lib.hid (HB5.out.trans (HW8.out.mono HB5.out.size))
      refine hsame.mono ?_
      rintro e w9 ⟨rfl, hb9⟩
      have HB9 := Lib.hid (HB8.out.trans (hb9.mono HB8.out.size))
      go_wp2_with fail
      go_ret
      exact ⟨rfl, HB9.out⟩
theorem jwtwo_law {a b : List UInt8} {ca cb : Nat} {A B : Option Addr} {m : Bool} {w : World} (hra : RdB w w.heap.size A a) (hca : a.length ≤ ca) (hrb : RdB w w.heap.size B b) (hcb : b.length ≤ cb) (hG : GlobE w) :
    Calls Tryd.prog 6 #[.slice A a.length ca, .slice B b.length cb, .bool m] w fun e w' => e = .returned (.bool true) ∧ Below w.heap.size w w' := by
  by_cases h : 5000 < a.length + b.length
  · exact jwtwo_big hG h
  · exact jwtwo_small hra hca hrb hcb hG (by omega)
end Go.Proofs.YtejlbgllfkfkfaaDoor
