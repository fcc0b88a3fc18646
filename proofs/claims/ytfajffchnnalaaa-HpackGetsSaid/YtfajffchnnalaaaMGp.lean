/-
  HpackGets: for every limit and every row of blocks the law answers true. No conditions: the reach alone bounds the lengths.
  HpackGets, by its contract: at every limit and every row of blocks it answers true; below what was there nothing has turned. Conditions: a limit below 2^32, as many blocks as an int counts, blocks whose lengths a sum of two holds.
  Slices as they come in, with what the reach says of their elements: no text and no slice in them is longer than a machine bears.
-/
import Derived.Test.YtfajffchnnalaaaMRc
import Derived.Test.YtfajffchnnalaaaKfix
import Derived.Test.YtfajffchnnalaaaMSm
import Derived.Test.YtfajffchnnalaaaMOp
import Derived.Test.YtfajffchnnalaaaLast
import Derived.Deep.CutBlock
import Derived.Deep.DeepCutAuto
import Derived.SizedLaws

namespace Go.Proofs.Ytfajffchnnalaaa
open Go.RowKit Go.WideShapes

attribute [local irreducible] tot shr sz pieceR blockR blk

set_option maxRecDepth 100000 in
set_option maxHeartbeats 4000000 in
theorem gets_law {w : World} {A : Option Addr} {c : Nat} {LL : List (Hd w UInt8 byv)} (m : Nat) (hm : m < 4294967296) (hR : RdS w (· < w.heap.size) A (enl hdc LL)) (hl : LL.length ≤ 9223372036854775807) (hB : ∀ h ∈ LL, h.els.length ≤ 140737488351232) :
    Calls Try.prog 4 #[.int .u32 (m : Int), .slice A LL.length c] w fun e w' => e = .returned (.bool true) ∧ Below w.heap.size w w' := by
  have HB := Lib.hid hB
  clear hB
  go_enter Try.func4, Try.ntmps4
  go_wp2_with fail
  go_loopw [5, 20] (fun n i wr => ∃ (k T : Nat), k ≤ LL.length ∧ i = .int .i64 k ∧ n = .int .i64 T ∧ T ≤ 600 ∧ Hid (∀ j (h : j < LL.length), j < k → LL[j].els.length ≤ 600) ∧ Hid (Below w.heap.size w wr))
    (fun _ i _ => LL.length - (intOf i).toNat)
  case atStart => exact ⟨0, 0, Nat.zero_le _, rfl, rfl, by omega, fun j h hj => by omega, Below.refl _ _⟩
  case round =>
    obtain ⟨k, T, hk, rfl, rfl, hT, hS, hW⟩ := hrel
    by_cases hlt : k < LL.length
    · obtain ⟨q, o, rfl, hq, f0⟩ := (hR.below hW.out).head hlt
      have hbk := HB.out _ (List.getElem_mem hlt)
      have HE : Hid (LL[k].els.length = LL[k].els.length) := rfl
      by_cases hle : T + (LL[k].els.length + 1) ≤ 600
      · have HS2 : Hid (∀ j (h : j < LL.length), j < k + 1 → LL[j].els.length ≤ 600) := fun j h hj => by
          by_cases e : j = k
          · subst e; omega
          · exact hS.out j h (by omega)
        generalize LL[k].at_ = Ak at *
        generalize LL[k].room = ck at *
        generalize LL[k].els.length = nk at *
        have hd1 : decide ((600 : Int) < (T : Int) + ((nk : Int) + 1)) = false := by simp; omega
        clear hS HE
        go_wp2_with fail
        go_roundw
        case rel => exact ⟨k + 1, T + (nk + 1), by omega, by go_num, by go_num, by omega, HS2, hW⟩
        case measure => simp [intOf]; omega
      · generalize LL[k].at_ = Ak at *
        generalize LL[k].room = ck at *
        generalize LL[k].els.length = nk at *
        have hd1 : decide ((600 : Int) < (T : Int) + ((nk : Int) + 1)) = true := by simp; omega
        clear hS HE
        go_wp2_with fail
        refine (fixed_any _).mono ?_
        rintro e w2 ⟨rfl, hb2⟩
        have HB2 := Lib.hid (hW.out.trans (hb2.mono hW.out.size))
        clear hb2 hW
        go_wp2_with fail
        go_ret
        exact ⟨rfl, HB2.out⟩
    · obtain rfl : k = LL.length := by omega
      have HS : Hid (∀ j (h : j < LL.length), LL[j].els.length ≤ 600) := fun j h => hS.out j h h
      have hn1 := newD_any m hm wr w.heap.size hW.out.size
      clear hS HB
      have hM : min m 4096 ≤ 4096 := Nat.min_le_right _ _
      have hrn := fun W => rnew6_any m hm W
      unfold dv at hrn
      generalize min m 4096 = M at *
      unfold pt at *
      go_wp2_with fail
      refine hn1.mono ?_
      rintro e w2 ⟨gd, g, rfl, hD, ha1, ha2, hB2⟩
      have HD := Lib.hid hD
      have HB2 := Lib.hid (hW.out.trans (hB2.mono hW.out.size))
      clear hD hB2 hn1
      go_wp2_with fail
      refine (hrn _).mono ?_
      rintro e w3 ⟨rfl, hB3⟩
      have HG : Hid (G7 w (w3.alloc (.cells #[.slice none 0 0, .int .i64 (M : Int), .int .i64 (M : Int)] 35)) gd g (.slice none 0 0) w3.heap.size [] M M none 0 0) := G7.start HD.out HB2.out hB3 hM
      clear hB3 hrn HD HB2 ha1 ha2 hW
      go_wp2_with fail
      generalize w3.heap.size = gm at *
      generalize hw4 : w3.alloc (.cells #[.slice none 0 0, .int .i64 (M : Int), .int .i64 (M : Int)] 35) = w4 at *
      clear hw4
      go_loopw [39] (fun i wr => ∃ (k : Nat) (v : Value) (L : List Fd) (M2 : Nat) (B : Option Addr) (RL d : Nat), k ≤ LL.length ∧ i = .int .i64 k ∧ Hid (G7 w wr gd g v gm L M2 M B RL d))
        (fun i _ => LL.length - (intOf i).toNat)
      case atStart => exact ⟨0, _, _, _, _, _, _, Nat.zero_le _, rfl, HG⟩
      case round =>
        clear HG
        obtain ⟨k, v, L, M2, B, RL, d, hk, rfl, hG⟩ := hrel
        by_cases hlt : k < LL.length
        · obtain ⟨q, o, rfl, hq, f0⟩ := (hR.below hG.out.be).head hlt
          have hfe := HS.out k hlt
          have hok := LL[k].ok
          generalize LL[k].at_ = Ak at *
          generalize LL[k].room = ck at *
          generalize LL[k].els = l at *
          obtain ⟨hk1, hk2, hk3⟩ := hok
          rw [byv_enl] at hk3
          have hrd : RdB w w.heap.size Ak l := RdB.ofS hk3 fun _ h _ => h
          have HRD := Lib.hid hrd
          clear hk3
          obtain ⟨i0, hi0, hz0, hz1, hz2⟩ := info_parts u8_info
          have hbA := (Below.refl wr.heap.size wr).alloc (Nat.le_refl _) (.cells #[] 5)
          have HBA := Lib.hid hbA
          have HO1 : Hid (Bo (wr.alloc (.cells #[] 5)) wr.heap.size 5 (.slice (some ⟨wr.heap.size, 0, none⟩) 0 0) []) := OwS.lit wr 5 1 0 #[] rfl (by simp [maxLen]) (Nat.le_refl _)
          have HRW := Lib.hid ((hrd.below hG.out.be).below (hbA.mono hG.out.be.size))
          clear hrd hbA
          go_wp2_with (at_builtin; go_loud (refine wpList_appBo rfl (.tmp 43) (.tmp 44) 38 rfl wr.heap.size 5 i0 Try.underlying38 hi0 hz0 hz1 hz2 (.slice (some ⟨wr.heap.size, 0, none⟩) 0 0) [] rfl HO1.out w.heap.size Ak l _ _ rfl rfl HRW.out (by simp; omega) (by simp) ?_; intro v2 w5 h1 h2 h3; rw [List.nil_append] at h1; obtain ⟨A2, c2, rfl, hc2⟩ := Bo.shape h1; have HO2 := Lib.hid h1; have HF2 := Lib.hid h2; clear h1 h2 h3))
          have hb5 : Below wr.heap.size wr w5 := HBA.out.trans (HF2.out.below (fun k hk _ => (HO1.out.lt hk).1) (by simp))
          have hget := get6_any (c := c2) (hG.out.dn.below hb5) hM hG.out.tm.2 hG.out.tm.1 (by have := hb5.size; have := hG.out.be.size; omega) (OwS.reads HO2.out) hc2 (fun k hk => ⟨(OwS.lt HO2.out k hk).2, fun e => by have h1 := (OwS.lt HO2.out k hk).1; have h2 := (hG.out.dn.eb e).2; omega⟩) (by omega)
          have hbk : blk M ⟨L, M2, []⟩ l = blockR M l.length ⟨L, M2, []⟩ l := by unfold blk; rfl
          have HBK := Lib.hid hbk
          generalize blockR M l.length ⟨L, M2, []⟩ l = R at *
          have HB5 := Lib.hid hb5
          have hs5 : wr.heap.size ≤ w5.heap.size := hb5.size
          unfold pt at hget
          clear hbk hb5
          refine hget.mono ?_
          intro e w6 he
          obtain ⟨Ag, ng, cg, fa, fb, v', rfl, hF6, hN6, hnone, hsome⟩ := he.gen
          have hs6 : w5.heap.size ≤ w6.heap.size := hF6.size
          have hown5 : ∀ k, ob (.slice A2 l.length c2) k → wr.heap.size ≤ k ∧ k < w5.heap.size := fun k hk => HO2.out.lt hk
          have hoe : ∀ k, ob (.slice A2 l.length c2) k → ¬ EB gd g v k := fun k hk e => by have h1 := (hown5 k hk).1; have h2 := (hG.out.dn.eb e).2; omega
          have hoe' : ∀ k, ob (.slice A2 l.length c2) k → ¬ EB gd g v' k := fun k hk e => by
            rcases EB.next hN6 e with e | e
            · exact hoe k hk e
            · have := (hown5 k hk).2; omega
          have hoc : OwS (w6.alloc (.cells #[.int .u8 (fa : Int), .int .u32 (fb : Int)] 41)) wr.heap.size 5 1 (.slice A2 l.length c2) l.length (byc l) := OwS.alloc (hF6.owns HO2.out fun k hk e => hoe k hk e) _
          obtain ⟨A', w7, hup, hcl, hgr, _, _, _⟩ := run_shed (P := Try.prog) (w6.alloc (.cells #[.int .u8 (fa : Int), .int .u32 (fb : Int)] 41)) wr.heap.size 38 5 i0 (.int .u8 0) 1 Try.underlying38 hi0 hz0 hz1 rfl (by intro u hu; simp [Value.cells] at hu; subst hu; rfl) hoc l.length (Nat.le_refl _)
          have hF7 : Fs (ob (.slice A2 l.length c2)) (w6.alloc (.cells #[.int .u8 (fa : Int), .int .u32 (fb : Int)] 41)) w7 := Fs.of_grown hgr
          have hF36 : Fs (fun k => EB gd g v k ∨ wr.heap.size ≤ k) wr w6 := (Fs.of_below (S := fun k => EB gd g v k ∨ wr.heap.size ≤ k) HB5.out).trans hF6 (fun k _ e => .inl e)
          have hF67 : Fs (ob (.slice A2 l.length c2)) w6 w7 := (Fs.of_below (S := ob (.slice A2 l.length c2)) ((Below.refl w6.heap.size w6).alloc (Nat.le_refl _) (.cells #[.int .u8 (fa : Int), .int .u32 (fb : Int)] 41))).trans hF7 (fun k _ e => e)
          have hF07 : Fs (fun k => EB gd g v k ∨ wr.heap.size ≤ k) wr w7 := hF36.trans hF67 (fun k _ e => .inr (hown5 k e).1)
          have hs7 : w6.heap.size < w7.heap.size := by have := hF7.size; simp at this; omega
          have hR7 : Row w7 gm 35 #[.slice B RL d, .int .i64 (M2 : Int), .int .i64 (M : Int)] := hF07.row (fun e => e.elim hG.out.ne (fun e => by have := hG.out.ro.lt; omega)) hG.out.ro
          have hX7 : Row w7 w6.heap.size 41 #[.int .u8 (fa : Int), .int .u32 (fb : Int)] := hF7.row (fun e => by have := (hown5 _ e).2; omega) (Row.new w6 _ _)
          have hT7 : RdS w7 (fun b => b < w7.heap.size ∧ b ≠ gm ∧ ¬ EB gd g v' b) B (enl fdc L.reverse) := (hF07.reads hG.out.tb (fun k hk => ⟨hk.1, fun e => e.elim hk.2.2 (fun e => by have := hk.1; omega)⟩)).imp fun b hb hl => ⟨hl, hb.2.1, fun e => by
            rcases EB.next hN6 e with e | e
            · exact hb.2.2 e
            · have := hb.1; omega⟩
          have hB7 : Below w.heap.size w w7 := hG.out.be.trans (hF07.below (fun k hk _ => hk.elim (fun e => (hG.out.dn.eb e).1) (fun e => by have := hG.out.be.size; omega)) hG.out.be.size)
          have href := rget6_any (c := ck) (d := d) (cap := M) (by omega) hk1 ((HRD.out.below hB7).more hB7.size) hT7 (fun b hb => hb.1) hG.out.td hG.out.tm.2 hG.out.tm.1 hM
          rw [← hG.out.rl, HBK.out] at href
          unfold dv at href
          have HG7 := Lib.hid (And.intro hF36 (And.intro ((Nx.refl wr v).trans hN6 hs5) hF67))
          have HOE := Lib.hid (fun k hk => And.intro (hown5 k hk).1 (hoe' k hk))
          have HSO := Lib.hid hsome
          have HNO := Lib.hid hnone
          have HR7 := Lib.hid hR7
          have HX7 := Lib.hid hX7
          have HB7 := Lib.hid hB7
          have HGX : Hid (∀ s, R = some s → tot s.out ≤ 4096 → RdS w7 (fun b => w5.heap.size ≤ b ∧ b < w6.heap.size) Ag (enl fdc s.out)) := fun s e ht => hF67.reads (((hsome s e).2.2.2.2 ht).2.2.2.imp fun b hb _ => ⟨hb.1, hb.2.1⟩) fun k hk => ⟨hk.2, fun e => by have := (hown5 k e).2; have := hk.1; omega⟩
          have x0 := hR7.cell (j := 0) rfl
          have x1 := hR7.cell (j := 1) rfl
          have x2 := hR7.cell (j := 2) rfl
          clear he hF6 hN6 hnone hsome hown5 hoe hoe' hoc hup hgr hF7 hF36 hF67 hF07 hR7 hX7 hT7 hB7 HO1 HO2 HF2 HRW HBA hget HB5 HBK
          go_wp2_with fail
          refine href.mono ?_
          rintro e w8 ⟨he, hb8⟩
          obtain ⟨A1, n1, c1, A3, m', d', M', C', code, rfl, rnone, rsome⟩ := he.gen
          have hs8 : w7.heap.size ≤ w8.heap.size := hb8.size
          have hb9 := hb8.alloc hb8.size (.cells #[.slice A3 m' d', .int .i64 M', .int .i64 C'] 35)
          have HR9 := Lib.hid (HR7.out.below hb9 HR7.out.lt)
          have HX9 := Lib.hid (HX7.out.below hb9 HX7.out.lt)
          have hmx : gm ≠ w6.heap.size := fun e => by
            have h1 := hG.out.ro.lt
            omega
          have HX10 : Hid (Row (set3 (w8.alloc (.cells #[.slice A3 m' d', .int .i64 M', .int .i64 C'] 35)) gm (.slice A3 m' d') (.int .i64 M') (.int .i64 C')) w6.heap.size 41 #[.int .u8 (fa : Int), .int .u32 (fb : Int)]) := set3_other (fun e => hmx e.symm) HX9.out
          have HR10 : Hid (Row (set3 (w8.alloc (.cells #[.slice A3 m' d', .int .i64 M', .int .i64 C'] 35)) gm (.slice A3 m' d') (.int .i64 M') (.int .i64 C')) gm 35 #[.slice A3 m' d', .int .i64 M', .int .i64 C']) := set3_own HR9.out
          have HB10 : Hid (Below w.heap.size w (set3 (w8.alloc (.cells #[.slice A3 m' d', .int .i64 M', .int .i64 C'] 35)) gm (.slice A3 m' d') (.int .i64 M') (.int .i64 C'))) := set3_below (HB7.out.trans (hb9.mono HB7.out.size)) hG.out.lo
          have HB8 := Lib.hid hb8
          have y0 := HR9.out.cell (j := 0) rfl
          have y1 := HR9.out.cell (j := 1) rfl
          have y2 := HR9.out.cell (j := 2) rfl
          have z0 := HR9.out.thawed 0
          have z1 := HR9.out.thawed 1
          have z2 := HR9.out.thawed 2
          have hways : (code = 9 ∧ ng = 0 ∧ fa = 1 ∧ fb = 9) ∨ (code = 11 ∧ ng = 0 ∧ fa = 1 ∧ fb = 11) ∨ ∃ s, R = some s ∧ tot s.out ≤ 4096 ∧ code = 0 ∧ fa = 0 ∧ fb = 0 ∧ ng = s.out.length ∧ n1 = s.out.length ∧ m' = s.tb.reverse.length ∧ M' = (s.mx : Int) ∧ C' = (M : Int) := by
            cases R with
            | none => exact .inl ⟨rnone rfl, HNO.out rfl⟩
            | some s =>
              obtain ⟨t1, t2, t3, t4⟩ := rsome s rfl
              obtain ⟨u1, u2, u3, u4, u5⟩ := HSO.out s rfl
              by_cases ht : 4096 < tot s.out
              · exact .inr (.inl ⟨t3 ht, u4 ht⟩)
              · obtain ⟨v1, v2, v3, v4, v5, _⟩ := t4 (by omega)
                obtain ⟨p1, p2, p3, _⟩ := u5 (by omega)
                exact .inr (.inr ⟨s, rfl, by omega, v1, p2, p3, p1, v2, v3, v4, v5⟩)
          have HRS := Lib.hid rsome
          clear he hb8 hb9 rnone rsome x0 x1 x2 HR7 HX7 hcl
          rcases hways with ⟨rfl, rfl, rfl, rfl⟩ | ⟨rfl, rfl, rfl, rfl⟩ | ⟨s, rfl, hto, rfl, rfl, rfl, rfl, rfl, rfl, rfl, rfl⟩
          · go_wp2_with fail
            refine (fixed_any _).mono ?_
            rintro e w11 ⟨rfl, hb11⟩
            have hX11 := Row.below HX10.out hb11 (Row.lt HX10.out)
            have q0 := hX11.cell (j := 0) rfl
            have q1 := hX11.cell (j := 1) rfl
            have HB11 := Lib.hid (HB10.out.trans (hb11.mono HB10.out.size))
            clear hX11 hb11
            go_wp2_with fail
            go_ret
            exact ⟨rfl, HB11.out⟩
          · go_wp2_with fail
            refine (fixed_any _).mono ?_
            rintro e w11 ⟨rfl, hb11⟩
            have hX11 := Row.below HX10.out hb11 (Row.lt HX10.out)
            have q0 := hX11.cell (j := 0) rfl
            have q1 := hX11.cell (j := 1) rfl
            have HB11 := Lib.hid (HB10.out.trans (hb11.mono HB10.out.size))
            clear hX11 hb11
            go_wp2_with fail
            go_ret
            exact ⟨rfl, HB11.out⟩
          · -- both read it
            obtain ⟨t1, t2, _, t4⟩ := HRS.out s rfl
            obtain ⟨_, _, _, _, _, k1, k2, k3⟩ := t4 hto
            have hsx := HSO.out s rfl
            have hlen : s.out.length ≤ 1099511627776 := by have := tot_len s.out; omega
            have hbA : Below w8.heap.size w8 (w8.alloc (.cells #[.slice A3 s.tb.reverse.length d', .int .i64 (s.mx : Int), .int .i64 (M : Int)] 35)) := (Below.refl _ _).alloc (Nat.le_refl _) _
            have hgm : gm < wr.heap.size := hG.out.ro.lt
            have HGn : Hid (G7 w (set3 (w8.alloc (.cells #[.slice A3 s.tb.reverse.length d', .int .i64 (s.mx : Int), .int .i64 (M : Int)] 35)) gm (.slice A3 s.tb.reverse.length d') (.int .i64 (s.mx : Int)) (.int .i64 (M : Int))) gd g v' gm s.tb s.mx M A3 s.tb.reverse.length d') := G7.step hG.out HG7.out.1 HG7.out.2.1 hsx.1 HG7.out.2.2 HOE.out HB8.out k2 k3 ⟨t1, t2⟩ hbA
            have HGot : Hid (RdS (set3 (w8.alloc (.cells #[.slice A3 s.tb.reverse.length d', .int .i64 (s.mx : Int), .int .i64 (M : Int)] 35)) gm (.slice A3 s.tb.reverse.length d') (.int .i64 (s.mx : Int)) (.int .i64 (M : Int))) (fun b => b < (set3 (w8.alloc (.cells #[.slice A3 s.tb.reverse.length d', .int .i64 (s.mx : Int), .int .i64 (M : Int)] 35)) gm (.slice A3 s.tb.reverse.length d') (.int .i64 (s.mx : Int)) (.int .i64 (M : Int))).heap.size) Ag (enl fdc s.out)) := (set3_rds (((HGX.out s rfl hto).keep fun b hb => HB8.out.block b (by omega)).keep fun b hb => hbA.block b (by omega)) (fun b hb => by omega)).imp fun b _ hl => hl
            have HWant : Hid (RdS (set3 (w8.alloc (.cells #[.slice A3 s.tb.reverse.length d', .int .i64 (s.mx : Int), .int .i64 (M : Int)] 35)) gm (.slice A3 s.tb.reverse.length d') (.int .i64 (s.mx : Int)) (.int .i64 (M : Int))) (fun b => b < (set3 (w8.alloc (.cells #[.slice A3 s.tb.reverse.length d', .int .i64 (s.mx : Int), .int .i64 (M : Int)] 35)) gm (.slice A3 s.tb.reverse.length d') (.int .i64 (s.mx : Int)) (.int .i64 (M : Int))).heap.size) A1 (enl fdc s.out)) := (set3_rds (k1.keep fun b hb => hbA.block b (by omega)) (fun b hb => by omega)).imp fun b _ hl => hl
            have hrts := fun (Wd : World) (h : RdS Wd (· < Wd.heap.size) A3 (enl fdc s.tb.reverse)) => rtsize_any (w := Wd) (c := d') (M := s.mx) h (by rw [tot_reverse]; omega) (fun g hg => by have h1 := tot_mem hg; rw [tot_reverse] at h1; omega)
            rw [tot_reverse] at hrts
            unfold tv at hrts
            have HRTS := Lib.hid hrts
            clear t4 k1 k2 k3 hsx hbA hrts HRS HSO HGX HNO HOE HG7 HB8
            generalize hSL : s.tb.reverse.length = SL at *
            clear hSL
            go_wp2_with fail
            unfold set3 at HX10 HR10 HB10 HGn HGot HWant
            generalize (((w8.alloc (.cells #[.slice A3 SL d', .int .i64 (s.mx : Int), .int .i64 (M : Int)] 35)).setCell ⟨gm, 0, none⟩ (.slice A3 SL d')).setCell ⟨gm, 1, none⟩ (.int .i64 (s.mx : Int))).setCell ⟨gm, 2, none⟩ (.int .i64 (M : Int)) = w10 at *
            clear y0 y1 y2 z0 z1 z2 HR9 HX9
            refine wp_region_E 16 (fun w' => w'.cell? ⟨w6.heap.size, 0, none⟩ = some (.int .u8 0) ∧ w'.cell? ⟨w6.heap.size, 1, none⟩ = some (.int .u32 0) ∧ w'.cell? ⟨gm, 0, none⟩ = some (.slice A3 SL d') ∧ w'.cell? ⟨gm, 1, none⟩ = some (.int .i64 (s.mx : Int))) (by kernel_rfl) ⟨HX10.out.cell (j := 0) rfl, HX10.out.cell (j := 1) rfl, HR10.out.cell (j := 0) rfl, HR10.out.cell (j := 1) rfl⟩ (fun hHeld => ?_)
            refine wpAnyE_take (i := 0) (v := ?v0) rfl (by kernel_rfl) (by kernel_rfl) (by kernel_rfl) (by kernel_rfl) (fun _ _ _ h => h) (Or.inl ⟨by rfl, ?hy0⟩) (by assumption) ?rest0
            case hy0 => (intro w hSw; (try dsimp only at hSw); go_simp <;> with_reducible rfl)
            try simp only [Act.put, List.getElem_toArray, List.getElem_cons_zero, List.setIfInBounds_toArray, List.set_cons_zero, List.set_cons_succ]
            refine wpAnyE_take (i := 1) (v := ?v1) rfl (by kernel_rfl) (by kernel_rfl) (by kernel_rfl) (by kernel_rfl) (fun _ _ _ h => h) (Or.inl ⟨by rfl, ?hy1⟩) (by assumption) ?rest1
            case hy1 => (intro w hSw; (try dsimp only at hSw); go_simp <;> with_reducible rfl)
            try simp only [Act.put, List.getElem_toArray, List.getElem_cons_zero, List.getElem_cons_succ, List.setIfInBounds_toArray, List.set_cons_zero, List.set_cons_succ]
            refine wpAnyE_take (i := 2) (v := ?v2) rfl (by kernel_rfl) (by kernel_rfl) (by kernel_rfl) (by kernel_rfl) (fun _ _ _ h => h) (Or.inl ⟨by rfl, ?hy2⟩) (by assumption) ?rest2
            case hy2 => (intro w hSw; (try dsimp only at hSw); go_simp <;> with_reducible rfl)
            try simp only [Act.put, List.getElem_toArray, List.getElem_cons_zero, List.getElem_cons_succ, List.setIfInBounds_toArray, List.set_cons_zero, List.set_cons_succ]
            refine wpAnyE_take (i := 3) (v := ?v3) rfl (by kernel_rfl) (by kernel_rfl) (by kernel_rfl) (by kernel_rfl) (fun _ _ _ h => h) (Or.inl ⟨by rfl, ?hy3⟩) (by assumption) ?rest3
            case hy3 => (intro w hSw; (try dsimp only at hSw); go_simp <;> with_reducible rfl)
            try simp only [Act.put, List.getElem_toArray, List.getElem_cons_zero, List.getElem_cons_succ, List.setIfInBounds_toArray, List.set_cons_zero, List.set_cons_succ]
            refine wpAnyE_take (i := 4) (v := ?v4) rfl (by kernel_rfl) (by kernel_rfl) (by kernel_rfl) (by kernel_rfl) (fun _ _ _ h => h) (Or.inl ⟨by rfl, ?hy4⟩) (by assumption) ?rest4
            case hy4 => (intro w hSw; (try dsimp only at hSw); go_simp <;> with_reducible rfl)
            try simp only [Act.put, List.getElem_toArray, List.getElem_cons_zero, List.getElem_cons_succ, List.setIfInBounds_toArray, List.set_cons_zero, List.set_cons_succ]
            refine wpAnyE_take (i := 5) (v := ?v5) rfl (by kernel_rfl) (by kernel_rfl) (by kernel_rfl) (by kernel_rfl) (fun _ _ _ h => h) (Or.inl ⟨by rfl, ?hy5⟩) (by assumption) ?rest5
            case hy5 => (intro w hSw; (try dsimp only at hSw); go_simp <;> with_reducible rfl)
            try simp only [Act.put, List.getElem_toArray, List.getElem_cons_zero, List.getElem_cons_succ, List.setIfInBounds_toArray, List.set_cons_zero, List.set_cons_succ]
            refine wpAnyE_next (i := 6) (by kernel_rfl) rfl (fun K hK => ?_)
            go_simp
            go_at_call 18
            refine (same6_any (w := w10.drew) HGot.out HWant.out hlen).mono ?_
            rintro e wq ⟨rfl, nq, rfl⟩
            have hbq : Below w10.heap.size w10 (w10.drewN (1 + nq)) := below_dN (Below.refl _ _) (1 + nq)
            have HGq := Lib.hid (HGn.out.then hbq)
            have hXq := Row.below HX10.out hbq (Row.lt HX10.out)
            have hRq := HGq.out.ro
            have HXq := Lib.hid hXq
            go_simp
            refine hK.out _ _ ⟨hXq.cell (j := 0) rfl, hXq.cell (j := 1) rfl, hRq.cell (j := 0) rfl, hRq.cell (j := 1) rfl⟩ (fun hHeld => ?_)
            clear hK K hbq hXq hRq HGn HX10 HR10 HB10 HGot HWant
            try simp only [Act.put, List.getElem_toArray, List.getElem_cons_zero, List.getElem_cons_succ, List.setIfInBounds_toArray, List.set_cons_zero, List.set_cons_succ]
            generalize w10.drewN (1 + nq) = wq at *
            refine wpAnyE_take (i := 7) (v := ?v7q1) rfl (by kernel_rfl) (by kernel_rfl) (by kernel_rfl) (by kernel_rfl) (fun _ _ _ h => h) (Or.inl ⟨by rfl, ?hy7q1⟩) (by assumption) ?rest7q1
            case hy7q1 => (intro w hSw; (try dsimp only at hSw); go_simp <;> with_reducible rfl)
            try simp only [Act.put, List.getElem_toArray, List.getElem_cons_zero, List.getElem_cons_succ, List.setIfInBounds_toArray, List.set_cons_zero, List.set_cons_succ]
            refine wpAnyE_take (i := 8) (v := ?v8q1) rfl (by kernel_rfl) (by kernel_rfl) (by kernel_rfl) (by kernel_rfl) (fun _ _ _ h => h) (Or.inl ⟨by rfl, ?hy8q1⟩) (by assumption) ?rest8q1
            case hy8q1 => (intro w hSw; (try dsimp only at hSw); go_simp <;> with_reducible rfl)
            try simp only [Act.put, List.getElem_toArray, List.getElem_cons_zero, List.getElem_cons_succ, List.setIfInBounds_toArray, List.set_cons_zero, List.set_cons_succ]
            refine wpAnyE_take (i := 9) (v := ?v9q1) rfl (by kernel_rfl) (by kernel_rfl) (by kernel_rfl) (by kernel_rfl) (fun _ _ _ h => h) (Or.inl ⟨by rfl, ?hy9q1⟩) (by assumption) ?rest9q1
            case hy9q1 => (intro w hSw; (try dsimp only at hSw); go_simp <;> with_reducible rfl)
            try simp only [Act.put, List.getElem_toArray, List.getElem_cons_zero, List.getElem_cons_succ, List.setIfInBounds_toArray, List.set_cons_zero, List.set_cons_succ]
            refine wpAnyE_take (i := 10) (v := ?v10q1) rfl (by kernel_rfl) (by kernel_rfl) (by kernel_rfl) (by kernel_rfl) (fun _ _ _ h => h) (Or.inl ⟨by rfl, ?hy10q1⟩) (by assumption) ?rest10q1
            case hy10q1 => (intro w hSw; (try dsimp only at hSw); go_simp <;> with_reducible rfl)
            try simp only [Act.put, List.getElem_toArray, List.getElem_cons_zero, List.getElem_cons_succ, List.setIfInBounds_toArray, List.set_cons_zero, List.set_cons_succ]
            refine wpAnyE_take (i := 12) (v := ?v12q1) rfl (by kernel_rfl) (by kernel_rfl) (by kernel_rfl) (by kernel_rfl) (fun _ _ _ h => h) (Or.inl ⟨by rfl, ?hy12q1⟩) (by assumption) ?rest12q1
            case hy12q1 => (intro w hSw; (try dsimp only at hSw); go_simp <;> with_reducible rfl)
            try simp only [Act.put, List.getElem_toArray, List.getElem_cons_zero, List.getElem_cons_succ, List.setIfInBounds_toArray, List.set_cons_zero, List.set_cons_succ]
            refine wpAnyE_take (i := 13) (v := ?v13q1) rfl (by kernel_rfl) (by kernel_rfl) (by kernel_rfl) (by kernel_rfl) (fun _ _ _ h => h) (Or.inl ⟨by rfl, ?hy13q1⟩) (by assumption) ?rest13q1
            case hy13q1 => (intro w hSw; (try dsimp only at hSw); go_simp <;> with_reducible rfl)
            try simp only [Act.put, List.getElem_toArray, List.getElem_cons_zero, List.getElem_cons_succ, List.setIfInBounds_toArray, List.set_cons_zero, List.set_cons_succ]
            refine wpAnyE_next (i := 11) (by kernel_rfl) rfl (fun K hK => ?_)
            go_simp
            go_at_call 20
            refine (dtable_any HGq.out.dn).mono ?_
            rintro e wz ⟨rfl, hwz⟩
            subst wz
            go_simp
            refine hK.out _ _ (by assumption) (fun hHeld => ?_)
            clear hK K
            try simp only [Act.put, List.getElem_toArray, List.getElem_cons_zero, List.getElem_cons_succ, List.setIfInBounds_toArray, List.set_cons_zero, List.set_cons_succ]
            refine wpAnyE_next (i := 14) (by kernel_rfl) rfl (fun K hK => ?_)
            go_simp
            go_at_call 21
            refine (HRTS.out _ (HGq.out.tb.imp fun b hb _ => hb.1)).mono ?_
            rintro e wz ⟨rfl, hbz⟩
            have HGz := Lib.hid (HGq.out.then hbz)
            have hXz := Row.below HXq.out hbz (Row.lt HXq.out)
            have hRz := HGz.out.ro
            go_simp
            refine hK.out _ _ ⟨hXz.cell (j := 0) rfl, hXz.cell (j := 1) rfl, hRz.cell (j := 0) rfl, hRz.cell (j := 1) rfl⟩ (fun hHeld => ?_)
            clear hK K hbz hXz hRz HGq HXq HRTS
            try simp only [Act.put, List.getElem_toArray, List.getElem_cons_zero, List.getElem_cons_succ, List.setIfInBounds_toArray, List.set_cons_zero, List.set_cons_succ]
            refine wpAnyE_take (i := 15) (v := ?v15q2) rfl (by kernel_rfl) (by kernel_rfl) (by kernel_rfl) (by kernel_rfl) (fun _ _ _ h => h) (Or.inl ⟨by rfl, ?hy15q2⟩) (by assumption) ?rest15q2
            case hy15q2 => (intro w hSw; (try dsimp only at hSw); go_simp <;> with_reducible rfl)
            try simp only [Act.put, List.getElem_toArray, List.getElem_cons_zero, List.getElem_cons_succ, List.setIfInBounds_toArray, List.set_cons_zero, List.set_cons_succ]
            refine wpAnyE_last (by kernel_rfl) rfl (by kernel_rfl) (fun K hK => ?_)
            go_simp
            refine hK.out _ _ ?_
            clear hK K
            try simp only [Act.put, List.getElem_toArray, List.getElem_cons_zero, List.getElem_cons_succ, List.setIfInBounds_toArray, List.set_cons_zero, List.set_cons_succ]
            go_wp2_with fail
            go_roundw
            case rel => exact ⟨k + 1, v', s.tb, s.mx, A3, SL, d', by omega, by go_num, HGz⟩
            case measure => simp [intOf]; omega
        · go_wp2_with fail
          refine (fixed_any _).mono ?_
          rintro e w5 ⟨rfl, hb5⟩
          have HB5 := Lib.hid (hG.out.be.trans (hb5.mono hG.out.be.size))
          clear hb5
          go_wp2_with fail
          go_ret
          exact ⟨rfl, HB5.out⟩
theorem gets_law' {w : World} {A : Option Addr} {c : Nat} {LL : List (Hd w UInt8 byv)} (a : Int) (b : 0 ≤ a ∧ a < 4294967296) (hR : RdS w (· < w.heap.size) A (enl hdc LL)) (hl : LL.length ≤ 9223372036854775807) (hB : ∀ h ∈ LL, h.els.length ≤ 140737488351232) :
    Calls Try.prog 4 #[.int .u32 a, .slice A LL.length c] w fun e w' => e = .returned (.bool true) ∧ Below w.heap.size w w' := by
  obtain ⟨m, rfl⟩ := Int.eq_ofNat_of_zero_le b.1
  exact gets_law m (by omega) hR hl hB
end Go.Proofs.Ytfajffchnnalaaa

namespace Go.Proofs.Ytfajffchnnalaaa
open Go.ChangeShapes Go.WideShapes Go.RowKit Go.Deep

section
variable {H : Type} {hc : TypeId × Value → H} {P : Program} {α : Type} {enc : α → List Value} {k : Nat}

/-- No part of a datum is above the reach. -/
def Lt (P : Program) (t : TypeId) (d : DataW H) : Prop := ∀ n ∈ d.weights P t, n ≤ reachBytes
theorem weightsAll_mem {e : TypeId} {d : DataW H} : ∀ {ds : List (DataW H)}, d ∈ ds → ∀ n ∈ d.weights P e, n ∈ DataW.weightsAll P e ds
  | [], h, _, _ => by simp at h
  | d0 :: ds, h, n, hn => by
    simp only [DataW.weightsAll, List.mem_append]
    rcases List.mem_cons.1 h with rfl | h
    · exact .inl hn
    · exact .inr (weightsAll_mem h n hn)
theorem Lt.of_each {ts : List TypeId} {ds : List (DataW H)} {j : Nat} {t : TypeId} {d : DataW H} (hs : (DataW.weightsEach P ts ds).all (· ≤ reachBytes) = true) (hj : ts[j]? = some t) (hd : ds[j]? = some d) : Lt P t d := fun n hn => by
  have := List.all_eq_true.1 hs _ (DataW.weights_mem_each hj hd n hn)
  simpa using this

theorem rowsW_of_trod {t e : TypeId} (hk : ∀ x, (enc x).length = k) (hk0 : 0 < k) (ht : P.underlying t = some (.slice e)) (hC : P.cellsOf e = k) {W : World}
    (hdec : ∀ (n : Nat) (cs : List Value) (x : DataW H × List MemPlace), DataW.trod hc P W 0 (fun _ => true) true n e cs = some x → Lt P e x.1 → ∃ y : α, cs = enc y)
    {fuel : Nat} {cs : List Value} {x : DataW H × List MemPlace} (hf : DataW.trod hc P W 0 (fun _ => true) true fuel t cs = some x) (hw : Lt P t x.1) :
    ∃ (A : Option Addr) (c : Nat) (L : List α), cs = [.slice A L.length c] ∧ L.length ≤ c ∧ c ≤ maxLen ∧ RdS W (· < W.heap.size) A (enl enc L) ∧ L.length * P.bytesOf e ≤ reachBytes := by
  rcases open_slice ht hf with ⟨hcs, _⟩ | ⟨a, len, cap, m, n, D, Pl, hcs, _, hl, hm, hmm, hx, hi⟩
  · subst hcs
    exact ⟨none, 0, [], rfl, Nat.le_refl _, Nat.zero_le _, RdS.nil, by simp⟩
  · subst hcs
    simp only [if_true] at hmm
    rw [hx] at hw
    have hw1 : len * P.bytesOf e ≤ reachBytes := by
      have h1 := hw ((((List.range len).map D).length + ((List.range (m - len)).map fun j => D (len + j)).length) * P.bytesOf e) (by simp [DataW.weights, ht])
      refine Nat.le_trans (Nat.mul_le_mul_right _ ?_) h1
      simp
    have hwD : ∀ i, i < len → Lt P e (D i) := fun i hi n hn => hw n (by
      simp only [DataW.weights, ht, List.mem_cons, List.mem_append]
      exact .inr (.inl (weightsAll_mem (List.mem_map.2 ⟨i, List.mem_range.2 hi, rfl⟩) n hn)))
    obtain ⟨b, off, spot⟩ := a
    by_cases h0 : len = 0
    · subst h0
      exact ⟨some ⟨b, off, spot⟩, cap, [], rfl, by simp, hm, RdS.nil, by simp⟩
    · have hat : ∀ i, i < len → ∃ y : α, ∀ r, r < k → W.cell? ((⟨b, off, spot⟩ : Addr).add (i * k + r)) = (enc y)[r]? := by
        intro i hil
        obtain ⟨cs', hcells, htr⟩ := hi i (by omega)
        obtain ⟨y, rfl⟩ := hdec n cs' _ htr (hwD i hil)
        obtain ⟨_, _, hget⟩ := World.cells?_some hcells
        refine ⟨y, fun r hr => ?_⟩
        have := hget r (by rw [hC]; exact hr)
        rw [hC] at this
        rw [← this, ← Go.Deep.add_add]
      have hspot : spot = none := by
        obtain ⟨y, hy⟩ := hat 0 (by omega)
        have h1 := hy 0 hk0
        rw [List.getElem?_eq_getElem (by rw [hk]; exact hk0)] at h1
        have h2 := World.cell?_spot h1
        simpa [Addr.add] using h2
      subst hspot
      obtain ⟨L, hL, hcell⟩ := rows_list (w := W) (b := b) (o := off) (len := len) hk (fun i hil => by
        obtain ⟨y, hy⟩ := hat i hil
        exact ⟨y, fun r hr => by rw [← add_plain]; exact hy r hr⟩)
      subst hL
      refine ⟨some ⟨b, off, none⟩, cap, L, rfl, hl, hm, fun hne => ⟨b, off, rfl, ?_, hcell⟩, hw1⟩
      have h1 : 0 < (enl enc L).length := List.length_pos_iff.2 hne
      exact World.block_lt_of_cell? W _ (hcell 0 _ (List.getElem?_eq_getElem h1))
theorem openW {t e : TypeId} (hk : ∀ x, (enc x).length = k) (hk0 : 0 < k) (ht : P.underlying t = some (.slice e)) (hC : P.cellsOf e = k) {W : World}
    (hdec : ∀ (n : Nat) (cs : List Value) (x : DataW H × List MemPlace), DataW.trod hc P W 0 (fun _ => true) true n e cs = some x → Lt P e x.1 → ∃ y : α, cs = enc y)
    {base : Nat} {v : Value} {d : DataW H} {p : List MemPlace} (hv : Value.okWide P W .any base t v) (h : DataW.Trod hc P W 0 (fun _ => true) true t v d p) (hw : Lt P t d) :
    ∃ (A : Option Addr) (c : Nat) (L : List α), v = .slice A L.length c ∧ L.length ≤ c ∧ c ≤ maxLen ∧ RdS W (· < W.heap.size) A (enl enc L) ∧ L.length * P.bytesOf e ≤ reachBytes := by
  obtain ⟨a0, len, cap, rfl⟩ := okWide_slice ht hv
  obtain ⟨fuel, hf⟩ := h
  obtain ⟨A, c, L, e1, e2⟩ := rowsW_of_trod hk hk0 ht hC hdec hf hw
  have e : Value.slice a0 len cap = Value.slice A L.length c := by simpa [Value.cells] using e1
  exact ⟨A, c, L, e, e2⟩
theorem enl_sub {Q : α → Prop} (L : List { y : α // Q y }) : enl (fun y : { y : α // Q y } => enc y.1) L = enl enc (L.map (·.1)) := by
  unfold enl
  induction L with
  | nil => rfl
  | cons y L ih => simp [List.flatMap_cons, ih]
end

section
variable {H : Type} {hc : TypeId × Value → H}
set_option maxRecDepth 100000 in
theorem field_cellsW {W : World} {n : Nat} {cs : List Value} {x : DataW H × List MemPlace} (h : DataW.trod hc Try.prog W 0 (fun _ => true) true n 52 cs = some x) (hw : Lt Try.prog 52 x.1) : ∃ f : { f : Fd // f.nm.length ≤ 140737488351232 ∧ f.vl.length ≤ 140737488351232 }, cs = fdc f.1 := by
  obtain ⟨xs, m, _, hx, hl, hxl, hf⟩ := DataW.trod_struct Try.underlying52 h
  rw [cells_field] at hl
  match cs, hl with
  | [a, b, c], _ =>
    have hxl' : xs.length = 3 := hxl
    match xs, hxl' with
    | [x0, x1, x2], _ =>
      have h0 : DataW.trod hc Try.prog W 0 (fun _ => true) true m 9 (List.take (Try.prog.cellsOf 9) (List.drop 0 [a, b, c])) = some x0 := hf 0 _ rfl
      have h1 : DataW.trod hc Try.prog W 0 (fun _ => true) true m 9 (List.take (Try.prog.cellsOf 9) (List.drop 1 [a, b, c])) = some x1 := hf 1 _ rfl
      have h2 : DataW.trod hc Try.prog W 0 (fun _ => true) true m 4 (List.take (Try.prog.cellsOf 4) (List.drop 2 [a, b, c])) = some x2 := hf 2 _ rfl
      simp only [cells_str, cells_bool, List.drop_succ_cons, List.drop_zero, List.take_succ_cons, List.take_zero] at h0 h1 h2
      obtain ⟨s0, e0, d0, _⟩ := DataW.trod_string Try.underlying9 h0
      obtain ⟨s1, e1, d1, _⟩ := DataW.trod_string Try.underlying9 h1
      obtain ⟨t, e2, _⟩ := DataW.trod_bool Try.underlying4 h2
      subst d0 d1
      have hwE : ∀ q, q ∈ DataW.weightsEach Try.prog [9, 9, 4] [.lit (.string s0.data.toList), .lit (.string s1.data.toList), x2.1] → q ≤ reachBytes := fun q hq => hw q (by
        rw [hx]
        simp only [DataW.weights, Try.underlying52]
        exact hq)
      have b0 := hwE s0.data.toList.length (by simp [DataW.weightsEach, DataW.weights])
      have b1 := hwE s1.data.toList.length (by simp [DataW.weightsEach, DataW.weights])
      refine ⟨⟨⟨s0.data.toList, s1.data.toList, t⟩, b0, b1⟩, ?_⟩
      simp only [List.cons.injEq, and_true] at e0 e1 e2
      subst e0 e1 e2
      simp [fdc, tx]
set_option maxRecDepth 100000 in
theorem open_fieldsW {W : World} {base : Nat} {v : Value} {d : DataW H} {p : List MemPlace} (hv : Value.okWide Try.prog W .any base 31 v) (h : DataW.Trod hc Try.prog W 0 (fun _ => true) true 31 v d p) (hw : Lt Try.prog 31 d) :
    ∃ (A : Option Addr) (c : Nat) (L : List Fd), v = .slice A L.length c ∧ L.length ≤ c ∧ c ≤ maxLen ∧ RdS W (· < W.heap.size) A (enl fdc L) ∧ ∀ f ∈ L, f.nm.length ≤ 140737488351232 ∧ f.vl.length ≤ 140737488351232 := by
  obtain ⟨A, c, L, e1, e2, e3, e4, _⟩ := openW (enc := fun f : { f : Fd // f.nm.length ≤ 140737488351232 ∧ f.vl.length ≤ 140737488351232 } => fdc f.1) (fun _ => fdc_len _) (by omega) Try.underlying31 cells_field (fun _ _ _ h hw => field_cellsW h hw) hv h hw
  rw [enl_sub] at e4
  refine ⟨A, c, L.map (·.1), by simpa using e1, by simpa using e2, e3, e4, fun f hf => ?_⟩
  obtain ⟨y, _, rfl⟩ := List.mem_map.1 hf
  exact y.2
set_option maxRecDepth 100000 in
theorem open_blocksW {W : World} {base : Nat} {v : Value} {d : DataW H} {p : List MemPlace} (hv : Value.okWide Try.prog W .any base 49 v) (h : DataW.Trod hc Try.prog W 0 (fun _ => true) true 49 v d p) (hw : Lt Try.prog 49 d) :
    ∃ (A : Option Addr) (c : Nat) (L : List (Hd W UInt8 byv)), v = .slice A L.length c ∧ L.length ≤ c ∧ c ≤ maxLen ∧ RdS W (· < W.heap.size) A (enl hdc L) ∧ ∀ h ∈ L, h.els.length ≤ 140737488351232 := by
  have hb : Try.prog.bytesOf 5 = 1 := by kernel_rfl
  obtain ⟨A, c, L, e1, e2, e3, e4, _⟩ := openW (enc := fun y : { y : Hd W UInt8 byv // y.els.length ≤ 140737488351232 } => hdc y.1) (fun _ => hdc_len _) (by omega) Try.underlying49 cells_bytes (fun n cs x hx hwx => by
    obtain ⟨A, c, L, q1, q2, q3, q4, q5⟩ := rowsW_of_trod byv_len (by omega) Try.underlying38 cells_u8 (fun _ _ _ h _ => u8_cell h) hx hwx
    rw [hb, Nat.mul_one] at q5
    exact ⟨⟨⟨A, c, L, q2, q3, q4⟩, q5⟩, q1⟩) hv h hw
  rw [enl_sub] at e4
  refine ⟨A, c, L.map (·.1), by simpa using e1, by simpa using e2, e3, e4, fun f hf => ?_⟩
  obtain ⟨y, _, rfl⟩ := List.mem_map.1 hf
  exact y.2
end
end Go.Proofs.Ytfajffchnnalaaa

namespace Go.Proofs.Ytfajffchnnalaaa
open Go.ChangeShapes Go.WideShapes Go.ChangeAt Go.RowKit

set_option maxRecDepth 100000 in
theorem hpackGets_lifted (os : Os) (started : os.Started) (H : Type) (enc : TypeId × Value → H) :
    ReturnsInHanded {} Try.checked os 4 .any (Rows.hpackGetsSpec.pre6 enc Try.prog Try.f4 Rows.hpackGetsRow.domain false) (Rows.hpackGetsSpec.post enc Try.prog Try.f4 false true false false) := by
  refine returnsInHanded_of_change_sized (C := Try.checked) own started (by kernel_rfl) Try.func4
    (ChangeSpec.witness6 (enc := enc) (C := Try.checked) false ⟨#[], #[.int .u32 0, .slice none 0 0], []⟩ 8 (by kernel_rfl) (by kernel_rfl) (by kernel_rfl) (by kernel_rfl)) ?_
  intro W base args ds gs before hval0 hW hcnd hsz0 _
  have hsz : (DataW.weightsEach Try.prog (Try.f4.params.toList ++ Rows.hpackGetsSpec.plain.varTypes Try.prog) (ds ++ gs)).all (· ≤ reachBytes) = true := hsz0
  clear hsz0
  have hval : ∀ (j : Nat) t v, Try.f4.params[j]? = some t → args[j]? = some v → Value.okWide Try.prog W .any base t v := hval0
  have hW' := hW
  obtain ⟨p, q, hA0, hV, rfl, hfz, hnd⟩ := hW
  have hA : DataW.TrodAll enc Try.prog W 0 (fun _ => true) true Try.f4.params.toList args.toList ds p := hA0
  rw [Try.params4] at hA hval hsz
  obtain ⟨v0, vs0, d0, ds0, p0, q0, hargs, rfl, rfl, h0, r0⟩ := trodAll_cons hA
  obtain ⟨v1, vs1, d1, ds1, p1, q1, rfl, rfl, rfl, h1, r1⟩ := trodAll_cons r0
  obtain ⟨rfl, rfl, rfl⟩ := trodAll_nil r1
  obtain rfl : args = #[v0, v1] := by cases args; simp_all
  obtain ⟨a0, rfl, rfl, rfl, w0⟩ := open_int Try.underlying22 (hval 0 22 v0 rfl rfl) h0
  have b0 := wf_u32 w0
  obtain ⟨A1, c1, l1, rfl, hc1, hm1, hr1, hw1⟩ := open_blocksW (hval 1 49 v1 rfl rfl) h1 (Lt.of_each (j := 1) hsz rfl rfl)
  refine law_post laidOut rfl (by rw [Try.params4]; intro t ht; change t ∈ [22, 49] at ht; simp only [List.mem_cons, List.not_mem_nil, or_false] at ht; rcases ht with rfl | rfl <;> exact ⟨by kernel_rfl, of_decide_eq_true (by kernel_rfl)⟩) (rb := 4) (by kernel_rfl) Try.underlying4 hW' rfl (gets_law' a0 b0 hr1 (len_max hc1 hm1) hw1)

theorem hpackGets_holds : Rows.HpackGetsSaid :=
  OpenClaim.holds_of_wide 4 Try.f4 rfl rfl rfl rfl rfl rfl rfl ⟨rfl, rfl, rfl, rfl, rfl⟩ rfl rfl rfl rfl rfl (by kernel_rfl) Try.func4 (by kernel_rfl)
    (of_decide_eq_true (by kernel_rfl)) (by unfold Func.isWrapper; first | (rw [if_pos (by decide +kernel)]; kernel_rfl) | (rw [if_neg (by decide +kernel)]; exact ⟨rfl, rfl⟩))
    (fun os started H enc _ => hpackGets_lifted os started H enc)
end Go.Proofs.Ytfajffchnnalaaa
