/-
  HpackBack, by its contract: at every most, every row of lists and every row of mosts it answers true; below what was there nothing has turned. Conditions: a most below 2^32, as many lists and mosts as an int counts.
-/
import Derived.Test.YtfajffchnnalaaaMBk
import Derived.Test.YtfajffchnnalaaaKfix
import Derived.Test.YtfajffchnnalaaaMOp
import Derived.Test.YtfajffchnnalaaaLast
import Derived.Deep.CutBlock
import Derived.Deep.DeepCutAuto

namespace Go.Proofs.Ytfajffchnnalaaa
open Go.RowKit Go.WideShapes

theorem RdS.num {w : World} {S : Nat → Prop} {A : Option Addr} {L : List N32} (h : RdS w S A (enl n32 L)) {i : Nat} (hi : i < L.length) : ∃ b q, A = some ⟨b, q, none⟩ ∧ S b ∧ w.cell? ⟨b, q + i, none⟩ = some (.int .u32 (L[i].1 : Int)) := by
  have hlen : (enl n32 L).length = L.length := by have := enl_length n32_len L; omega
  obtain ⟨b, q, e, hb, hc⟩ := h (by intro e; rw [e] at hlen; simp at hlen; omega)
  refine ⟨b, q, e, hb, hc i _ ?_⟩
  have e2 : enl n32 L = L.map fun n => (Value.int .u32 (n.1 : Int)) := by
    unfold enl n32
    clear hlen h hi hc
    induction L with
    | nil => rfl
    | cons a L ih => simp [List.flatMap_cons, ih]
  rw [e2]
  simp [hi]

attribute [local irreducible] tot shr sz txtL numL litL addL putF tabF nOf hOf putA tabA limL limT lowL sumK pieceR blockR blk

set_option maxRecDepth 100000 in
set_option maxHeartbeats 8000000 in
theorem back_law {w : World} {A D : Option Addr} {c cn : Nat} {LL : List (Hd w Fd fdc)} {NN : List N32} (m : Nat) (hm : m < 4294967296) (hR : RdS w (· < w.heap.size) A (enl hdc LL)) (hl : LL.length ≤ 9223372036854775807)
    (hNN : RdS w (· < w.heap.size) D (enl n32 NN)) (hnl : NN.length ≤ 9223372036854775807) :
    Calls Try.prog 3 #[.int .u32 (m : Int), .slice A LL.length c, .slice D NN.length cn] w fun e w' => e = .returned (.bool true) ∧ Below w.heap.size w w' := by
  have hgr := great2_any (c := c) hR hl
  go_enter Try.func3, Try.ntmps3
  go_wp2_with fail
  refine hgr.mono ?_
  rintro e w1 ⟨t, rfl, ht, nd, hw⟩
  have HB1 : Hid (Below w.heap.size w w1) := by show Below _ _ _; rw [hw]; exact below_dN (Below.refl _ _) nd
  clear hw hgr
  cases t with
  | true =>
    go_wp2_with fail
    refine (fixed_any _).mono ?_
    rintro e w2 ⟨rfl, hb2⟩
    have HB2 := Lib.hid (HB1.out.trans (hb2.mono HB1.out.size))
    clear hb2 HB1 ht
    go_wp2_with fail
    go_ret
    exact ⟨rfl, HB2.out⟩
  | false =>
    have HFew : Hid (Few2 LL) := ht rfl
    clear ht
    by_cases hn100 : 100 < NN.length
    · have hd1 : decide ((100 : Int) < (NN.length : Int)) = true := by simp; omega
      go_wp2_with fail
      refine (fixed_any _).mono ?_
      rintro e w2 ⟨rfl, hb2⟩
      have HB2 := Lib.hid (HB1.out.trans (hb2.mono HB1.out.size))
      clear hb2 HB1
      go_wp2_with fail
      go_ret
      exact ⟨rfl, HB2.out⟩
    · have hd1 : decide ((100 : Int) < (NN.length : Int)) = false := by simp; omega
      have hn1 := newE_any m hm w1 w.heap.size HB1.out.size
      have hmin : min (m : Int) 4096 = ((min m 4096 : Nat) : Int) := by omega
      have hC : min m 4096 ≤ 4096 := Nat.min_le_right _ _
      have hrn := fun W => rnew6_any m hm W
      have hnd := fun W hb => newD_any m hm W w.heap.size hb
      unfold dv at hrn
      generalize hCe : min m 4096 = C at *
      clear hCe
      unfold pt at *
      go_wp2_with fail
      refine hn1.mono ?_
      rintro e w2 ⟨ge, g1, rfl, hE1, ha1, ha2, hB2⟩
      have HE1 := Lib.hid hE1
      have HB2 := Lib.hid (HB1.out.trans (hB2.mono HB1.out.size))
      clear hE1 hB2 hn1 HB1
      go_wp2_with fail
      refine (hnd w2 HB2.out.size).mono ?_
      rintro e w3 ⟨gd, g, rfl, hD3, hb1, hb2, hB3⟩
      have HD3 := Lib.hid hD3
      have HB3 := Lib.hid hB3
      clear hD3 hB3 hnd
      go_wp2_with fail
      refine (hrn _).mono ?_
      rintro e w4 ⟨rfl, hB4⟩
      have HG : Hid (G8 w (w4.alloc (.cells #[.slice none 0 0, .int .i64 (C : Int), .int .i64 (C : Int)] 35)) ge g1 (.slice none 0 0) [] C false 0 gd g (.slice none 0 0) w4.heap.size [] C C none 0 0) := G8.start HE1.out HB2.out HD3.out hb1 hb2 HB3.out hB4
      have HT0 : Hid (tot [] ≤ C) := by show _ ≤ _; rw [tot_nil0]; exact Nat.zero_le _
      have HV0 : Hid (∀ x ∈ ([] : List Fd), x.nv = false) := fun x hx => by cases hx
      clear hB4 hrn HE1 HB2 HD3 HB3 ha1 ha2 hb1 hb2
      go_wp2_with fail
      generalize w4.heap.size = gm at *
      generalize hw5 : w4.alloc (.cells #[.slice none 0 0, .int .i64 (C : Int), .int .i64 (C : Int)] 35) = w5 at *
      clear hw5
      go_loopw [34] (fun i wr => ∃ (k : Nat) (ve v : Value) (L : List Fd) (M low : Nat) (B : Option Addr) (RL d : Nat), k ≤ LL.length ∧ i = .int .i64 k ∧ M ≤ C ∧ low ≤ C ∧ Hid (tot L ≤ M) ∧ Hid (∀ x ∈ L, x.nv = false) ∧ Hid (G8 w wr ge g1 ve L M false low gd g v gm L M C B RL d))
        (fun i _ => LL.length - (intOf i).toNat)
      case atStart => exact ⟨0, _, _, [], C, 0, _, _, _, Nat.zero_le _, rfl, Nat.le_refl _, Nat.zero_le _, HT0, HV0, HG⟩
      case round =>
        clear HG HT0 HV0
        obtain ⟨k, ve, v, L, M, low, B, RL, d, hk, rfl, hM, hlow, hT, hV, hG⟩ := hrel
        by_cases hlt : k < LL.length
        · obtain ⟨q, o, rfl, hq, f0⟩ := (hR.below hG.out.be).head hlt
          have hfe := HFew.out.2 _ (List.getElem_mem hlt)
          have hok := LL[k].ok
          generalize LL[k].at_ = Ak at *
          generalize LL[k].room = ck at *
          generalize LL[k].els = F at *
          have hFl : F.length ≤ 100 := hfe.1
          have HFe : Hid (∀ f ∈ F, f.nm.length ≤ 9000 ∧ f.vl.length ≤ 9000) := fun f hf => by have := hfe.2.1 f hf; unfold sz at this; omega
          have HFt : Hid (tot F ≤ 9000 + 31 * F.length) := hfe.2.2
          have HRF : Hid (RdS w (· < w.heap.size) Ak (enl fdc F)) := hok.2.2
          clear hfe hok
          have hways : (k < NN.length ∧ ∃ n : N32, (∃ b q, D = some ⟨b, q, none⟩ ∧ b < w.heap.size ∧ w.cell? ⟨b, q + k, none⟩ = some (.int .u32 (n.1 : Int))) ∧ 0 < n.1 % 3) ∨ (¬ k < NN.length) ∨ (k < NN.length ∧ ∃ n : N32, (∃ b q, D = some ⟨b, q, none⟩ ∧ b < w.heap.size ∧ w.cell? ⟨b, q + k, none⟩ = some (.int .u32 (n.1 : Int))) ∧ n.1 % 3 = 0) := by
            by_cases h1 : k < NN.length
            · obtain ⟨b, q, e, hb, hc⟩ := hNN.num h1
              by_cases h2 : 0 < NN[k].1 % 3
              · exact .inl ⟨h1, NN[k], ⟨b, q, e, hb, hc⟩, h2⟩
              · exact .inr (.inr ⟨h1, NN[k], ⟨b, q, e, hb, hc⟩, by omega⟩)
            · exact .inr (.inl h1)
          rcases hways with ⟨hkn, n, ⟨bn, qn, rfl, hbn, hcn⟩, hn3⟩ | hkn | ⟨hkn, n, ⟨bn, qn, rfl, hbn, hcn⟩, hn3⟩
          · -- mosts are told
            obtain ⟨nn, hnn⟩ := n
            have hdk : decide ((k : Int) < (NN.length : Int)) = true := by simp; omega
            have hmod : (0 : Int) < (nn : Int) % 3 := by simp only at hn3; omega
            have fn := (hG.out.be.cell (p := ⟨bn, qn + k, none⟩) hbn).trans hcn
            try simp only at fn
            have hi1 : (nn : Int) / 3 % ((C : Int) + 1) = ((nn / 3 % (C + 1) : Nat) : Int) := by first | rfl | simp
            have hi2 : (nn : Int) / 7 % ((C : Int) + 1) = ((nn / 7 % (C + 1) : Nat) : Int) := by first | rfl | simp
            have hm1 : nn / 3 % (C + 1) ≤ C := by have := Nat.mod_lt (nn / 3) (show 0 < C + 1 by omega); omega
            have hm2 : nn / 7 % (C + 1) ≤ C := by have := Nat.mod_lt (nn / 7) (show 0 < C + 1 by omega); omega
            generalize nn / 3 % (C + 1) = m1 at *
            generalize nn / 7 % (C + 1) = m2 at *
            have HI1 := Lib.hid hi1
            have HI2 := Lib.hid hi2
            have hlim1 := elimit_any hG.out.en m1 (by omega) (by omega) hT.out (by omega)
            have HCN := Lib.hid (And.intro hbn hcn)
            unfold pt at hlim1
            clear hi1 hi2 hbn hcn hn3
            go_wp2_with fail
            rw [HI1.out]
            refine hlim1.mono ?_
            rintro e w6 ⟨rfl, ve1, hE1, hF1, hN1⟩
            rw [lowL_no] at hE1
            have HG1 := Lib.hid (hG.out.enc hF1 hN1 hE1)
            have fn := (HG1.out.be.cell (p := ⟨bn, qn + k, none⟩) HCN.out.1).trans HCN.out.2
            try simp only at fn
            have ht1 : tot (shr (m1 : Int) L) ≤ m1 := by have := shr_le (m1 : Int) (by omega) L; omega
            have hlim2 := elimit_any HG1.out.en m2 (by omega) (by omega) ht1 (by omega)
            unfold pt at hlim2
            clear hE1 hF1 hN1 hlim1 hG
            go_wp2_with fail
            rw [HI2.out]
            refine hlim2.mono ?_
            rintro e w7 ⟨rfl, ve2, hE2, hF2, hN2⟩
            have HS : Hid (∃ (ve2 : Value) (L2 : List Fd) (M2 : Nat) (lim2 : Bool) (low2 : Nat), G8 w w7 ge g1 ve2 L2 M2 lim2 low2 gd g v gm L M C B RL d ∧ M2 ≤ C ∧ low2 ≤ C ∧ (lim2 = false → M = M2) ∧ limT lim2 low2 M2 L = L2 ∧ tot L2 ≤ M2 ∧ ∀ x ∈ L2, x.nv = false) :=
              ⟨ve2, _, m2, true, lowL true m1 m2, HG1.out.enc hF2 hN2 hE2, hm2, lowL_le hm1 hm2, (fun e => by cases e), limT_two m1 m2 L, (by have := shr_le (m2 : Int) (by omega) (shr (m1 : Int) L); omega), shr_bare (shr_bare hV.out)⟩
            clear hE2 hF2 hN2 hlim2 HG1 ht1 fn HI1 HI2 HCN hm1 hm2 hmod hdk
            go_wp2_with fail
            obtain ⟨ve2, L2, M2, lim2, low2, hG2, hM2, hlow2, hl2, hlt2, ht2, hv2⟩ := HS.out
            have hput := put_any (c := ck) hG2.en (by omega) ht2 (by omega) (HRF.out.below hG2.be) (fun k hk => by
              have h1 := hG2.en.lo
              have h2 := hG2.en.t.low
              have h3 := hG2.be.size
              exact ⟨by omega, by omega, by omega, fun e => by have := (hG2.en.vlt e).1; omega⟩) HFe.out (by omega)
            unfold pt at hput
            have hXl : (limL lim2 low2 M2 ++ putA M2 L2 F).length ≤ 12000 := put_short (by omega) ht2 HFe.out hFl HFt.out
            have hbk : blk C ⟨L, M, []⟩ (limL lim2 low2 M2 ++ putA M2 L2 F) = some ⟨tabA M2 L2 F, M2, F⟩ := blk_all hM2 hlow2 hC hl2 hlt2 ht2 hv2 HFe.out
            have hT3 : Hid (tot (tabA M2 L2 F) ≤ M2) := tabA_le ht2
            have hV3 : Hid (∀ x ∈ tabA M2 L2 F, x.nv = false) := tabA_bare hv2
            generalize limL lim2 low2 M2 ++ putA M2 L2 F = X at *
            generalize tabA M2 L2 F = L3 at *
            have HBK := Lib.hid hbk
            have HG2 := Lib.hid hG2
            have hs2 : w.heap.size ≤ w7.heap.size := hG2.be.size
            clear hbk hl2 hlt2 ht2 hv2 hG2 HS
            refine hput.mono ?_
            rintro e w8 ⟨xv, ve3, rfl, hP⟩
            obtain ⟨Ax, cx, rfl, hcx⟩ := hP.bo.shape
            have HG3 := Lib.hid (HG2.out.enc hP.fs hP.nx hP.en)
            have HX := Lib.hid hP.bo
            have hs8 : w7.heap.size ≤ w8.heap.size := hP.fs.size
            have HXe : Hid (∀ k, ob (.slice Ax X.length cx) k → k < w8.heap.size ∧ ¬ EB gd g v k) := fun k hk => by
              have h1 := OwS.lt hP.bo k hk
              exact ⟨h1.2, fun e => by have := (HG2.out.dn.eb e).2; omega⟩
            have hget := get6_any (c := cx) HG3.out.dn hC (by omega) hT.out (by omega) (OwS.reads HX.out) hcx HXe.out hXl
            have hbk2 : blockR C X.length ⟨L, M, []⟩ X = some ⟨L3, M2, F⟩ := by have := HBK.out; unfold blk at this; exact this
            rw [hbk2] at hget
            unfold pt at hget
            clear hP hput hbk2 HG2
            go_wp2_with fail
            refine hget.mono ?_
            intro e w9 he
            obtain ⟨Ag, ng, cg, fa, fb, v', rfl, hF9, hN9, _, hsome⟩ := he.gen
            obtain ⟨hD9, _, _, hbad, hgood⟩ := hsome _ rfl
            have hb10 : Below w9.heap.size w9 (w9.alloc (.cells #[.int .u8 (fa : Int), .int .u32 (fb : Int)] 41)) := (Below.refl _ _).alloc (Nat.le_refl _) _
            have hs9 : w8.heap.size ≤ w9.heap.size := hF9.size
            have hXb : RdB (w9.alloc (.cells #[.int .u8 (fa : Int), .int .u32 (fb : Int)] 41)) (w9.alloc (.cells #[.int .u8 (fa : Int), .int .u32 (fb : Int)] 41)).heap.size Ax X := Bo.reads (OwS.below (hF9.owns HX.out fun k hk e => (HXe.out k hk).2 e) hb10)
            have href := rget6_any (c := cx) (d := d) (M := M) (cap := C) hXl hcx hXb (HG3.out.tab hF9 hN9 hb10) (fun b hb => hb.1) HG3.out.td (by omega) hT.out hC
            rw [← HG3.out.rl, HBK.out] at href
            unfold dv at href
            have HR10 : Hid (Row (w9.alloc (.cells #[.int .u8 (fa : Int), .int .u32 (fb : Int)] 41)) gm 35 #[.slice B RL d, .int .i64 (M : Int), .int .i64 (C : Int)]) := (hF9.row HG3.out.ne HG3.out.ro).below hb10 (by have := HG3.out.ro.lt; omega)
            have HX10 : Hid (Row (w9.alloc (.cells #[.int .u8 (fa : Int), .int .u32 (fb : Int)] 41)) w9.heap.size 41 #[.int .u8 (fa : Int), .int .u32 (fb : Int)]) := Row.new w9 _ _
            have HBB : Hid (Below w.heap.size w (w9.alloc (.cells #[.int .u8 (fa : Int), .int .u32 (fb : Int)] 41))) := (HG3.out.be.trans (hF9.below (fun k hk _ => (HG3.out.dn.eb hk).1) HG3.out.be.size)).trans (hb10.mono (by have := HG3.out.be.size; omega))
            have HF9 := Lib.hid (And.intro hF9 (And.intro hN9 (And.intro hD9 hb10)))
            have HBG := Lib.hid (And.intro hbad hgood)
            have x0 := HR10.out.cell (j := 0) rfl
            have x1 := HR10.out.cell (j := 1) rfl
            have x2 := HR10.out.cell (j := 2) rfl
            have hgm : gm < w8.heap.size := HG3.out.ro.lt
            have hs10 : (w9.alloc (.cells #[.int .u8 (fa : Int), .int .u32 (fb : Int)] 41)).heap.size = w9.heap.size + 1 := by simp
            have HS10 := Lib.hid hs10
            clear he hF9 hN9 hsome hD9 hbad hgood hb10 hXb HX HXe hget hs10
            go_wp2_with fail
            generalize w9.alloc (.cells #[.int .u8 (fa : Int), .int .u32 (fb : Int)] 41) = w10 at *
            refine href.mono ?_
            rintro e w11 ⟨he, hb11⟩
            obtain ⟨A1, n1, c1, A3, m', d', M', C', code, rfl, _, rsome⟩ := he.gen
            obtain ⟨_, _, rbad, rgood⟩ := rsome _ rfl
            have hs11 : w10.heap.size ≤ w11.heap.size := hb11.size
            have hb12 := hb11.alloc hb11.size (.cells #[.slice A3 m' d', .int .i64 M', .int .i64 C'] 35)
            have HR12 := Lib.hid (HR10.out.below hb12 HR10.out.lt)
            have HX12 := Lib.hid (HX10.out.below hb12 HX10.out.lt)
            have HX13 : Hid (Row (set3 (w11.alloc (.cells #[.slice A3 m' d', .int .i64 M', .int .i64 C'] 35)) gm (.slice A3 m' d') (.int .i64 M') (.int .i64 C')) w9.heap.size 41 #[.int .u8 (fa : Int), .int .u32 (fb : Int)]) := set3_other (fun e => by omega) HX12.out
            have HR13 : Hid (Row (set3 (w11.alloc (.cells #[.slice A3 m' d', .int .i64 M', .int .i64 C'] 35)) gm (.slice A3 m' d') (.int .i64 M') (.int .i64 C')) gm 35 #[.slice A3 m' d', .int .i64 M', .int .i64 C']) := set3_own HR12.out
            have HB13 : Hid (Below w.heap.size w (set3 (w11.alloc (.cells #[.slice A3 m' d', .int .i64 M', .int .i64 C'] 35)) gm (.slice A3 m' d') (.int .i64 M') (.int .i64 C'))) := set3_below (HBB.out.trans (hb12.mono HBB.out.size)) HG3.out.lo
            have HB11 := Lib.hid hb11
            have y0 := HR12.out.cell (j := 0) rfl
            have y1 := HR12.out.cell (j := 1) rfl
            have y2 := HR12.out.cell (j := 2) rfl
            have z0 := HR12.out.thawed 0
            have z1 := HR12.out.thawed 1
            have z2 := HR12.out.thawed 2
            clear he hb11 hb12 rsome x0 x1 x2 HR10 HX10 href
            by_cases hbig : 4096 < tot F
            · obtain rfl := rbad hbig
              obtain ⟨rfl, rfl, rfl⟩ := HBG.out.1 hbig
              clear rgood rbad HBG
              go_wp2_with fail
              refine (fixed_any _).mono ?_
              rintro e w14 ⟨rfl, hb14⟩
              have hX14 := Row.below HX13.out hb14 (Row.lt HX13.out)
              have q0 := hX14.cell (j := 0) rfl
              have q1 := hX14.cell (j := 1) rfl
              have HB14 := Lib.hid (HB13.out.trans (hb14.mono HB13.out.size))
              clear hX14 hb14
              go_wp2_with fail
              go_ret
              exact ⟨rfl, HB14.out⟩
            · have hto : tot F ≤ 4096 := by omega
              obtain ⟨rfl, rfl, rfl, rfl, rfl, k1, k2, k3⟩ := rgood hto
              obtain ⟨rfl, rfl, rfl, k4⟩ := HBG.out.2 hto
              simp only at k1 k2 k3 k4
              have hbA : Below w11.heap.size w11 (w11.alloc (.cells #[.slice A3 L3.reverse.length d', .int .i64 (M2 : Int), .int .i64 (C : Int)] 35)) := (Below.refl _ _).alloc (Nat.le_refl _) _
              have hs12 := HS10.out
              have HGn : Hid (G8 w (set3 (w11.alloc (.cells #[.slice A3 L3.reverse.length d', .int .i64 (M2 : Int), .int .i64 (C : Int)] 35)) gm (.slice A3 L3.reverse.length d') (.int .i64 (M2 : Int)) (.int .i64 (C : Int))) ge g1 ve3 L3 M2 false low2 gd g v' gm L3 M2 C A3 L3.reverse.length d') := G8.dec HG3.out HF9.out.1 HF9.out.2.1 HF9.out.2.2.1 HF9.out.2.2.2 HB11.out k2 k3 hbA
              have HGot : Hid (RdS (set3 (w11.alloc (.cells #[.slice A3 L3.reverse.length d', .int .i64 (M2 : Int), .int .i64 (C : Int)] 35)) gm (.slice A3 L3.reverse.length d') (.int .i64 (M2 : Int)) (.int .i64 (C : Int))) (fun b => w8.heap.size ≤ b ∧ b < w9.heap.size) Ag (enl fdc F)) := set3_rds ((((k4.imp fun b hb _ => And.intro hb.1 hb.2.1).keep fun b hb => HF9.out.2.2.2.block b (by omega)).keep fun b hb => HB11.out.block b (by omega)).keep fun b hb => hbA.block b (by omega)) (fun b hb => by omega)
              have HWant : Hid (RdS (set3 (w11.alloc (.cells #[.slice A3 L3.reverse.length d', .int .i64 (M2 : Int), .int .i64 (C : Int)] 35)) gm (.slice A3 L3.reverse.length d') (.int .i64 (M2 : Int)) (.int .i64 (C : Int))) (fun b => w10.heap.size ≤ b ∧ b < w11.heap.size) A1 (enl fdc F)) := set3_rds (k1.keep fun b hb => hbA.block b (by omega)) (fun b hb => by omega)
              have hrts := fun (Wd : World) (h : RdS Wd (· < Wd.heap.size) A3 (enl fdc L3.reverse)) => rtsize_any (w := Wd) (c := d') (M := M2) h (by rw [tot_reverse]; have := hT3.out; omega) (fun g hg => by have h1 := tot_mem hg; rw [tot_reverse] at h1; have := hT3.out; omega)
              rw [tot_reverse] at hrts
              unfold tv at hrts
              have HRTS := Lib.hid hrts
              have HSW : Hid (w11.heap.size ≤ (set3 (w11.alloc (.cells #[.slice A3 L3.reverse.length d', .int .i64 (M2 : Int), .int .i64 (C : Int)] 35)) gm (.slice A3 L3.reverse.length d') (.int .i64 (M2 : Int)) (.int .i64 (C : Int))).heap.size) := by show _ ≤ _; rw [set3_size]; exact hbA.size
              clear k1 k2 k3 k4 hbA hrts rgood rbad HBG HF9 HB11 HG3 HBK HBB hs12 HS10
              generalize hSL : L3.reverse.length = SL at *
              clear hSL
              go_wp2_with fail
              unfold set3 at HX13 HR13 HB13 HGn HGot HWant HSW
              generalize (((w11.alloc (.cells #[.slice A3 SL d', .int .i64 (M2 : Int), .int .i64 (C : Int)] 35)).setCell ⟨gm, 0, none⟩ (.slice A3 SL d')).setCell ⟨gm, 1, none⟩ (.int .i64 (M2 : Int))).setCell ⟨gm, 2, none⟩ (.int .i64 (C : Int)) = w13 at *
              clear y0 y1 y2 z0 z1 z2 HR12 HX12
              have hsw := HSW.out
              have hlen : F.length ≤ 1099511627776 := by omega
              refine wp_region_E 33 (fun w' => w'.cell? ⟨w9.heap.size, 0, none⟩ = some (.int .u8 0) ∧ w'.cell? ⟨w9.heap.size, 1, none⟩ = some (.int .u32 0) ∧ w'.cell? ⟨gm, 0, none⟩ = some (.slice A3 SL d') ∧ w'.cell? ⟨gm, 1, none⟩ = some (.int .i64 (M2 : Int))) (by kernel_rfl) ⟨HX13.out.cell (j := 0) rfl, HX13.out.cell (j := 1) rfl, HR13.out.cell (j := 0) rfl, HR13.out.cell (j := 1) rfl⟩ (fun hHeld => ?_)
              refine wpAnyE_take (i := 0) (v := ?v0) rfl (by kernel_rfl) (by kernel_rfl) (by kernel_rfl) (by kernel_rfl) (fun _ _ _ h => h) (Or.inl ⟨by rfl, ?hy0⟩) (by assumption) ?rest0
              case hy0 => (intro w hSw; (try dsimp only at hSw); go_simp <;> with_reducible rfl)
              try simp only [Act.put, List.getElem_toArray, List.getElem_cons_zero, List.setIfInBounds_toArray, List.set_cons_zero, List.set_cons_succ]
              refine wpAnyE_take (i := 1) (v := ?v1) rfl (by kernel_rfl) (by kernel_rfl) (by kernel_rfl) (by kernel_rfl) (fun _ _ _ h => h) (Or.inl ⟨by rfl, ?hy1⟩) (by assumption) ?rest1
              case hy1 => (intro w hSw; (try dsimp only at hSw); go_simp <;> with_reducible rfl)
              try simp only [Act.put, List.getElem_toArray, List.getElem_cons_zero, List.getElem_cons_succ, List.setIfInBounds_toArray, List.set_cons_zero, List.set_cons_succ]
              refine wpAnyE_take (i := 2) (v := ?v2) rfl (by kernel_rfl) (by kernel_rfl) (by kernel_rfl) (by kernel_rfl) (fun _ _ _ h => h) (Or.inl ⟨by rfl, ?hy2⟩) (by assumption) ?rest2
              case hy2 => (intro w hSw; (try dsimp only at hSw); go_simp <;> with_reducible rfl)
              try simp only [Act.put, List.getElem_toArray, List.getElem_cons_zero, List.getElem_cons_succ, List.setIfInBounds_toArray, List.set_cons_zero, List.set_cons_succ]
              refine wpAnyE_take (i := 3) (v := ?v3) rfl (by kernel_rfl) (by kernel_rfl) (by kernel_rfl) (by kernel_rfl) (fun _ _ _ h => h) (Or.inl ⟨by rfl, ?hy3⟩) (by assumption) ?rest3
              case hy3 => (intro w hSw; (try dsimp only at hSw); go_simp <;> with_reducible rfl)
              try simp only [Act.put, List.getElem_toArray, List.getElem_cons_zero, List.getElem_cons_succ, List.setIfInBounds_toArray, List.set_cons_zero, List.set_cons_succ]
              refine wpAnyE_take (i := 4) (v := ?v4) rfl (by kernel_rfl) (by kernel_rfl) (by kernel_rfl) (by kernel_rfl) (fun _ _ _ h => h) (Or.inl ⟨by rfl, ?hy4⟩) (by assumption) ?rest4
              case hy4 => (intro w hSw; (try dsimp only at hSw); go_simp <;> with_reducible rfl)
              try simp only [Act.put, List.getElem_toArray, List.getElem_cons_zero, List.getElem_cons_succ, List.setIfInBounds_toArray, List.set_cons_zero, List.set_cons_succ]
              refine wpAnyE_take (i := 5) (v := ?v5) rfl (by kernel_rfl) (by kernel_rfl) (by kernel_rfl) (by kernel_rfl) (fun _ _ _ h => h) (Or.inl ⟨by rfl, ?hy5⟩) (by assumption) ?rest5
              case hy5 => (intro w hSw; (try dsimp only at hSw); go_simp <;> with_reducible rfl)
              try simp only [Act.put, List.getElem_toArray, List.getElem_cons_zero, List.getElem_cons_succ, List.setIfInBounds_toArray, List.set_cons_zero, List.set_cons_succ]
              refine wpAnyE_take (i := 6) (v := ?v6) rfl (by kernel_rfl) (by kernel_rfl) (by kernel_rfl) (by kernel_rfl) (fun _ _ _ h => h) (Or.inl ⟨by rfl, ?hy6⟩) (by assumption) ?rest6
              case hy6 => (intro w hSw; (try dsimp only at hSw); go_simp <;> with_reducible rfl)
              try simp only [Act.put, List.getElem_toArray, List.getElem_cons_zero, List.getElem_cons_succ, List.setIfInBounds_toArray, List.set_cons_zero, List.set_cons_succ]
              refine wpAnyE_take (i := 7) (v := ?v7) rfl (by kernel_rfl) (by kernel_rfl) (by kernel_rfl) (by kernel_rfl) (fun _ _ _ h => h) (Or.inl ⟨by rfl, ?hy7⟩) (by assumption) ?rest7
              case hy7 => (intro w hSw; (try dsimp only at hSw); go_simp <;> with_reducible rfl)
              try simp only [Act.put, List.getElem_toArray, List.getElem_cons_zero, List.getElem_cons_succ, List.setIfInBounds_toArray, List.set_cons_zero, List.set_cons_succ]
              refine wpAnyE_take (i := 8) (v := ?v8) rfl (by kernel_rfl) (by kernel_rfl) (by kernel_rfl) (by kernel_rfl) (fun _ _ _ h => h) (Or.inl ⟨by rfl, ?hy8⟩) (by assumption) ?rest8
              case hy8 => (intro w hSw; (try dsimp only at hSw); go_simp <;> with_reducible rfl)
              try simp only [Act.put, List.getElem_toArray, List.getElem_cons_zero, List.getElem_cons_succ, List.setIfInBounds_toArray, List.set_cons_zero, List.set_cons_succ]
              refine wpAnyE_take (i := 9) (v := ?v9) rfl (by kernel_rfl) (by kernel_rfl) (by kernel_rfl) (by kernel_rfl) (fun _ _ _ h => h) (Or.inl ⟨by rfl, ?hy9⟩) (by assumption) ?rest9
              case hy9 => (intro w hSw; (try dsimp only at hSw); go_simp <;> with_reducible rfl)
              try simp only [Act.put, List.getElem_toArray, List.getElem_cons_zero, List.getElem_cons_succ, List.setIfInBounds_toArray, List.set_cons_zero, List.set_cons_succ]
              refine wpAnyE_next (i := 10) (by kernel_rfl) rfl (fun K hK => ?_)
              go_simp
              go_at_call 18
              refine (same6_any (w := w13.drew) (A := Ag) (B := Ak) (F := F) ((HGot.out.imp fun b hb _ => (by omega : b < w13.heap.size)) : RdS w13 (· < w13.heap.size) Ag (enl fdc F)) (HRF.out.up (HB13.out.drew)) hlen).mono ?_
              rintro e wq ⟨rfl, nq, rfl⟩
              have hbq : Below w13.heap.size w13 (w13.drewN (1 + nq)) := below_dN (Below.refl _ _) (1 + nq)
              have HGq := Lib.hid (HGn.out.then hbq)
              have hXq := Row.below HX13.out hbq (Row.lt HX13.out)
              have hRq := HGq.out.ro
              have HXq := Lib.hid hXq
              have HWq := Lib.hid (HWant.out.keep fun b hb => hbq.block b (by omega))
              have hsq : w13.heap.size ≤ (w13.drewN (1 + nq)).heap.size := hbq.size
              have HSQ := Lib.hid hsq
              go_simp
              refine hK.out _ _ ⟨hXq.cell (j := 0) rfl, hXq.cell (j := 1) rfl, hRq.cell (j := 0) rfl, hRq.cell (j := 1) rfl⟩ (fun hHeld => ?_)
              clear hK K hbq hXq hRq HGn HX13 HR13 HB13 HGot HWant hsq
              try simp only [Act.put, List.getElem_toArray, List.getElem_cons_zero, List.getElem_cons_succ, List.setIfInBounds_toArray, List.set_cons_zero, List.set_cons_succ]
              generalize w13.drewN (1 + nq) = wq at *
              refine wpAnyE_take (i := 11) (v := ?v11q1) rfl (by kernel_rfl) (by kernel_rfl) (by kernel_rfl) (by kernel_rfl) (fun _ _ _ h => h) (Or.inl ⟨by rfl, ?hy11q1⟩) (by assumption) ?rest11q1
              case hy11q1 => (intro w hSw; (try dsimp only at hSw); go_simp <;> with_reducible rfl)
              try simp only [Act.put, List.getElem_toArray, List.getElem_cons_zero, List.getElem_cons_succ, List.setIfInBounds_toArray, List.set_cons_zero, List.set_cons_succ]
              refine wpAnyE_take (i := 12) (v := ?v12q1) rfl (by kernel_rfl) (by kernel_rfl) (by kernel_rfl) (by kernel_rfl) (fun _ _ _ h => h) (Or.inl ⟨by rfl, ?hy12q1⟩) (by assumption) ?rest12q1
              case hy12q1 => (intro w hSw; (try dsimp only at hSw); go_simp <;> with_reducible rfl)
              try simp only [Act.put, List.getElem_toArray, List.getElem_cons_zero, List.getElem_cons_succ, List.setIfInBounds_toArray, List.set_cons_zero, List.set_cons_succ]
              refine wpAnyE_take (i := 13) (v := ?v13q1) rfl (by kernel_rfl) (by kernel_rfl) (by kernel_rfl) (by kernel_rfl) (fun _ _ _ h => h) (Or.inl ⟨by rfl, ?hy13q1⟩) (by assumption) ?rest13q1
              case hy13q1 => (intro w hSw; (try dsimp only at hSw); go_simp <;> with_reducible rfl)
              try simp only [Act.put, List.getElem_toArray, List.getElem_cons_zero, List.getElem_cons_succ, List.setIfInBounds_toArray, List.set_cons_zero, List.set_cons_succ]
              refine wpAnyE_take (i := 14) (v := ?v14q1) rfl (by kernel_rfl) (by kernel_rfl) (by kernel_rfl) (by kernel_rfl) (fun _ _ _ h => h) (Or.inl ⟨by rfl, ?hy14q1⟩) (by assumption) ?rest14q1
              case hy14q1 => (intro w hSw; (try dsimp only at hSw); go_simp <;> with_reducible rfl)
              try simp only [Act.put, List.getElem_toArray, List.getElem_cons_zero, List.getElem_cons_succ, List.setIfInBounds_toArray, List.set_cons_zero, List.set_cons_succ]
              refine wpAnyE_take (i := 15) (v := ?v15q1) rfl (by kernel_rfl) (by kernel_rfl) (by kernel_rfl) (by kernel_rfl) (fun _ _ _ h => h) (Or.inl ⟨by rfl, ?hy15q1⟩) (by assumption) ?rest15q1
              case hy15q1 => (intro w hSw; (try dsimp only at hSw); go_simp <;> with_reducible rfl)
              try simp only [Act.put, List.getElem_toArray, List.getElem_cons_zero, List.getElem_cons_succ, List.setIfInBounds_toArray, List.set_cons_zero, List.set_cons_succ]
              refine wpAnyE_next (i := 16) (by kernel_rfl) rfl (fun K hK => ?_)
              go_simp
              go_at_call 18
              refine (same6_any (w := wq) (A := A1) (B := Ak) (F := F) (HWq.out.imp fun b hb _ => (by have := HSQ.out; omega : b < wq.heap.size)) (HRF.out.up HGq.out.be) hlen).mono ?_
              rintro e wy ⟨rfl, ny, rfl⟩
              have hby : Below wq.heap.size wq (wq.drewN ny) := below_dN (Below.refl _ _) ny
              have HGy := Lib.hid (HGq.out.then hby)
              have hXy := Row.below HXq.out hby (Row.lt HXq.out)
              have hRy := HGy.out.ro
              have HXy := Lib.hid hXy
              go_simp
              refine hK.out _ _ ⟨hXy.cell (j := 0) rfl, hXy.cell (j := 1) rfl, hRy.cell (j := 0) rfl, hRy.cell (j := 1) rfl⟩ (fun hHeld => ?_)
              clear hK K hby hXy hRy HGq HXq HWq HSQ HSW
              try simp only [Act.put, List.getElem_toArray, List.getElem_cons_zero, List.getElem_cons_succ, List.setIfInBounds_toArray, List.set_cons_zero, List.set_cons_succ]
              generalize wq.drewN ny = wy at *
              refine wpAnyE_take (i := 17) (v := ?v17q2) rfl (by kernel_rfl) (by kernel_rfl) (by kernel_rfl) (by kernel_rfl) (fun _ _ _ h => h) (Or.inl ⟨by rfl, ?hy17q2⟩) (by assumption) ?rest17q2
              case hy17q2 => (intro w hSw; (try dsimp only at hSw); go_simp <;> with_reducible rfl)
              try simp only [Act.put, List.getElem_toArray, List.getElem_cons_zero, List.getElem_cons_succ, List.setIfInBounds_toArray, List.set_cons_zero, List.set_cons_succ]
              refine wpAnyE_take (i := 18) (v := ?v18q2) rfl (by kernel_rfl) (by kernel_rfl) (by kernel_rfl) (by kernel_rfl) (fun _ _ _ h => h) (Or.inl ⟨by rfl, ?hy18q2⟩) (by assumption) ?rest18q2
              case hy18q2 => (intro w hSw; (try dsimp only at hSw); go_simp <;> with_reducible rfl)
              try simp only [Act.put, List.getElem_toArray, List.getElem_cons_zero, List.getElem_cons_succ, List.setIfInBounds_toArray, List.set_cons_zero, List.set_cons_succ]
              refine wpAnyE_take (i := 19) (v := ?v19q2) rfl (by kernel_rfl) (by kernel_rfl) (by kernel_rfl) (by kernel_rfl) (fun _ _ _ h => h) (Or.inl ⟨by rfl, ?hy19q2⟩) (by assumption) ?rest19q2
              case hy19q2 => (intro w hSw; (try dsimp only at hSw); go_simp <;> with_reducible rfl)
              try simp only [Act.put, List.getElem_toArray, List.getElem_cons_zero, List.getElem_cons_succ, List.setIfInBounds_toArray, List.set_cons_zero, List.set_cons_succ]
              refine wpAnyE_take (i := 20) (v := ?v20q2) rfl (by kernel_rfl) (by kernel_rfl) (by kernel_rfl) (by kernel_rfl) (fun _ _ _ h => h) (Or.inl ⟨by rfl, ?hy20q2⟩) (by assumption) ?rest20q2
              case hy20q2 => (intro w hSw; (try dsimp only at hSw); go_simp <;> with_reducible rfl)
              try simp only [Act.put, List.getElem_toArray, List.getElem_cons_zero, List.getElem_cons_succ, List.setIfInBounds_toArray, List.set_cons_zero, List.set_cons_succ]
              refine wpAnyE_take (i := 22) (v := ?v22q2) rfl (by kernel_rfl) (by kernel_rfl) (by kernel_rfl) (by kernel_rfl) (fun _ _ _ h => h) (Or.inl ⟨by rfl, ?hy22q2⟩) (by assumption) ?rest22q2
              case hy22q2 => (intro w hSw; (try dsimp only at hSw); go_simp <;> with_reducible rfl)
              try simp only [Act.put, List.getElem_toArray, List.getElem_cons_zero, List.getElem_cons_succ, List.setIfInBounds_toArray, List.set_cons_zero, List.set_cons_succ]
              refine wpAnyE_next (i := 21) (by kernel_rfl) rfl (fun K hK => ?_)
              go_simp
              go_at_call 19
              refine (etable_any HGy.out.en).mono ?_
              rintro e wz ⟨rfl, hwz⟩
              subst wz
              go_simp
              refine hK.out _ _ (by assumption) (fun hHeld => ?_)
              clear hK K
              try simp only [Act.put, List.getElem_toArray, List.getElem_cons_zero, List.getElem_cons_succ, List.setIfInBounds_toArray, List.set_cons_zero, List.set_cons_succ]
              refine wpAnyE_next (i := 23) (by kernel_rfl) rfl (fun K hK => ?_)
              go_simp
              go_at_call 20
              refine (dtable_any HGy.out.dn).mono ?_
              rintro e wz ⟨rfl, hwz⟩
              subst wz
              go_simp
              refine hK.out _ _ (by assumption) (fun hHeld => ?_)
              clear hK K
              try simp only [Act.put, List.getElem_toArray, List.getElem_cons_zero, List.getElem_cons_succ, List.setIfInBounds_toArray, List.set_cons_zero, List.set_cons_succ]
              refine wpAnyE_take (i := 24) (v := ?v24q3) rfl (by kernel_rfl) (by kernel_rfl) (by kernel_rfl) (by kernel_rfl) (fun _ _ _ h => h) (Or.inl ⟨by rfl, ?hy24q3⟩) (by assumption) ?rest24q3
              case hy24q3 => (intro w hSw; (try dsimp only at hSw); go_simp <;> with_reducible rfl)
              try simp only [Act.put, List.getElem_toArray, List.getElem_cons_zero, List.getElem_cons_succ, List.setIfInBounds_toArray, List.set_cons_zero, List.set_cons_succ]
              refine wpAnyE_take (i := 25) (v := ?v25q3) rfl (by kernel_rfl) (by kernel_rfl) (by kernel_rfl) (by kernel_rfl) (fun _ _ _ h => h) (Or.inl ⟨by rfl, ?hy25q3⟩) (by assumption) ?rest25q3
              case hy25q3 => (intro w hSw; (try dsimp only at hSw); go_simp <;> with_reducible rfl)
              try simp only [Act.put, List.getElem_toArray, List.getElem_cons_zero, List.getElem_cons_succ, List.setIfInBounds_toArray, List.set_cons_zero, List.set_cons_succ]
              refine wpAnyE_take (i := 26) (v := ?v26q3) rfl (by kernel_rfl) (by kernel_rfl) (by kernel_rfl) (by kernel_rfl) (fun _ _ _ h => h) (Or.inl ⟨by rfl, ?hy26q3⟩) (by assumption) ?rest26q3
              case hy26q3 => (intro w hSw; (try dsimp only at hSw); go_simp <;> with_reducible rfl)
              try simp only [Act.put, List.getElem_toArray, List.getElem_cons_zero, List.getElem_cons_succ, List.setIfInBounds_toArray, List.set_cons_zero, List.set_cons_succ]
              refine wpAnyE_take (i := 27) (v := ?v27q3) rfl (by kernel_rfl) (by kernel_rfl) (by kernel_rfl) (by kernel_rfl) (fun _ _ _ h => h) (Or.inl ⟨by rfl, ?hy27q3⟩) (by assumption) ?rest27q3
              case hy27q3 => (intro w hSw; (try dsimp only at hSw); go_simp <;> with_reducible rfl)
              try simp only [Act.put, List.getElem_toArray, List.getElem_cons_zero, List.getElem_cons_succ, List.setIfInBounds_toArray, List.set_cons_zero, List.set_cons_succ]
              refine wpAnyE_take (i := 29) (v := ?v29q3) rfl (by kernel_rfl) (by kernel_rfl) (by kernel_rfl) (by kernel_rfl) (fun _ _ _ h => h) (Or.inl ⟨by rfl, ?hy29q3⟩) (by assumption) ?rest29q3
              case hy29q3 => (intro w hSw; (try dsimp only at hSw); go_simp <;> with_reducible rfl)
              try simp only [Act.put, List.getElem_toArray, List.getElem_cons_zero, List.getElem_cons_succ, List.setIfInBounds_toArray, List.set_cons_zero, List.set_cons_succ]
              refine wpAnyE_take (i := 30) (v := ?v30q3) rfl (by kernel_rfl) (by kernel_rfl) (by kernel_rfl) (by kernel_rfl) (fun _ _ _ h => h) (Or.inl ⟨by rfl, ?hy30q3⟩) (by assumption) ?rest30q3
              case hy30q3 => (intro w hSw; (try dsimp only at hSw); go_simp <;> with_reducible rfl)
              try simp only [Act.put, List.getElem_toArray, List.getElem_cons_zero, List.getElem_cons_succ, List.setIfInBounds_toArray, List.set_cons_zero, List.set_cons_succ]
              refine wpAnyE_next (i := 28) (by kernel_rfl) rfl (fun K hK => ?_)
              go_simp
              go_at_call 20
              refine (dtable_any HGy.out.dn).mono ?_
              rintro e wz ⟨rfl, hwz⟩
              subst wz
              go_simp
              refine hK.out _ _ (by assumption) (fun hHeld => ?_)
              clear hK K
              try simp only [Act.put, List.getElem_toArray, List.getElem_cons_zero, List.getElem_cons_succ, List.setIfInBounds_toArray, List.set_cons_zero, List.set_cons_succ]
              refine wpAnyE_next (i := 31) (by kernel_rfl) rfl (fun K hK => ?_)
              go_simp
              go_at_call 21
              refine (HRTS.out _ (HGy.out.tb.imp fun b hb _ => hb.1)).mono ?_
              rintro e wz ⟨rfl, hbz⟩
              have HGz := Lib.hid (HGy.out.then hbz)
              have hXz := Row.below HXy.out hbz (Row.lt HXy.out)
              have hRz := HGz.out.ro
              go_simp
              refine hK.out _ _ ⟨hXz.cell (j := 0) rfl, hXz.cell (j := 1) rfl, hRz.cell (j := 0) rfl, hRz.cell (j := 1) rfl⟩ (fun hHeld => ?_)
              clear hK K hbz hXz hRz HGy HXy HRTS
              try simp only [Act.put, List.getElem_toArray, List.getElem_cons_zero, List.getElem_cons_succ, List.setIfInBounds_toArray, List.set_cons_zero, List.set_cons_succ]
              refine wpAnyE_take (i := 32) (v := ?v32q4) rfl (by kernel_rfl) (by kernel_rfl) (by kernel_rfl) (by kernel_rfl) (fun _ _ _ h => h) (Or.inl ⟨by rfl, ?hy32q4⟩) (by assumption) ?rest32q4
              case hy32q4 => (intro w hSw; (try dsimp only at hSw); go_simp <;> with_reducible rfl)
              try simp only [Act.put, List.getElem_toArray, List.getElem_cons_zero, List.getElem_cons_succ, List.setIfInBounds_toArray, List.set_cons_zero, List.set_cons_succ]
              refine wpAnyE_last (by kernel_rfl) rfl (by kernel_rfl) (fun K hK => ?_)
              go_simp
              refine hK.out _ _ ?_
              clear hK K
              try simp only [Act.put, List.getElem_toArray, List.getElem_cons_zero, List.getElem_cons_succ, List.setIfInBounds_toArray, List.set_cons_zero, List.set_cons_succ]
              go_wp2_with fail
              go_roundw
              case rel => exact ⟨k + 1, ve3, v', L3, M2, low2, A3, SL, d', by omega, by go_num, hM2, hlow2, hT3, hV3, HGz⟩
              case measure => simp [intOf]; omega
          · -- no most is told
            have hdk : decide ((k : Int) < (NN.length : Int)) = false := by simp; omega
            have HS : Hid (∃ (ve2 : Value) (L2 : List Fd) (M2 : Nat) (lim2 : Bool) (low2 : Nat), G8 w wr ge g1 ve2 L2 M2 lim2 low2 gd g v gm L M C B RL d ∧ M2 ≤ C ∧ low2 ≤ C ∧ (lim2 = false → M = M2) ∧ limT lim2 low2 M2 L = L2 ∧ tot L2 ≤ M2 ∧ ∀ x ∈ L2, x.nv = false) := ⟨ve, L, M, false, low, hG.out, hM, hlow, fun _ => rfl, by unfold limT; rfl, hT.out, hV.out⟩
            clear hG
            go_wp2_with fail
            obtain ⟨ve2, L2, M2, lim2, low2, hG2, hM2, hlow2, hl2, hlt2, ht2, hv2⟩ := HS.out
            have hput := put_any (c := ck) hG2.en (by omega) ht2 (by omega) (HRF.out.below hG2.be) (fun k hk => by
              have h1 := hG2.en.lo
              have h2 := hG2.en.t.low
              have h3 := hG2.be.size
              exact ⟨by omega, by omega, by omega, fun e => by have := (hG2.en.vlt e).1; omega⟩) HFe.out (by omega)
            unfold pt at hput
            have hXl : (limL lim2 low2 M2 ++ putA M2 L2 F).length ≤ 12000 := put_short (by omega) ht2 HFe.out hFl HFt.out
            have hbk : blk C ⟨L, M, []⟩ (limL lim2 low2 M2 ++ putA M2 L2 F) = some ⟨tabA M2 L2 F, M2, F⟩ := blk_all hM2 hlow2 hC hl2 hlt2 ht2 hv2 HFe.out
            have hT3 : Hid (tot (tabA M2 L2 F) ≤ M2) := tabA_le ht2
            have hV3 : Hid (∀ x ∈ tabA M2 L2 F, x.nv = false) := tabA_bare hv2
            generalize limL lim2 low2 M2 ++ putA M2 L2 F = X at *
            generalize tabA M2 L2 F = L3 at *
            have HBK := Lib.hid hbk
            have HG2 := Lib.hid hG2
            have hs2 : w.heap.size ≤ wr.heap.size := hG2.be.size
            clear hbk hl2 hlt2 ht2 hv2 hG2 HS
            refine hput.mono ?_
            rintro e w8 ⟨xv, ve3, rfl, hP⟩
            obtain ⟨Ax, cx, rfl, hcx⟩ := hP.bo.shape
            have HG3 := Lib.hid (HG2.out.enc hP.fs hP.nx hP.en)
            have HX := Lib.hid hP.bo
            have hs8 : wr.heap.size ≤ w8.heap.size := hP.fs.size
            have HXe : Hid (∀ k, ob (.slice Ax X.length cx) k → k < w8.heap.size ∧ ¬ EB gd g v k) := fun k hk => by
              have h1 := OwS.lt hP.bo k hk
              exact ⟨h1.2, fun e => by have := (HG2.out.dn.eb e).2; omega⟩
            have hget := get6_any (c := cx) HG3.out.dn hC (by omega) hT.out (by omega) (OwS.reads HX.out) hcx HXe.out hXl
            have hbk2 : blockR C X.length ⟨L, M, []⟩ X = some ⟨L3, M2, F⟩ := by have := HBK.out; unfold blk at this; exact this
            rw [hbk2] at hget
            unfold pt at hget
            clear hP hput hbk2 HG2
            go_wp2_with fail
            refine hget.mono ?_
            intro e w9 he
            obtain ⟨Ag, ng, cg, fa, fb, v', rfl, hF9, hN9, _, hsome⟩ := he.gen
            obtain ⟨hD9, _, _, hbad, hgood⟩ := hsome _ rfl
            have hb10 : Below w9.heap.size w9 (w9.alloc (.cells #[.int .u8 (fa : Int), .int .u32 (fb : Int)] 41)) := (Below.refl _ _).alloc (Nat.le_refl _) _
            have hs9 : w8.heap.size ≤ w9.heap.size := hF9.size
            have hXb : RdB (w9.alloc (.cells #[.int .u8 (fa : Int), .int .u32 (fb : Int)] 41)) (w9.alloc (.cells #[.int .u8 (fa : Int), .int .u32 (fb : Int)] 41)).heap.size Ax X := Bo.reads (OwS.below (hF9.owns HX.out fun k hk e => (HXe.out k hk).2 e) hb10)
            have href := rget6_any (c := cx) (d := d) (M := M) (cap := C) hXl hcx hXb (HG3.out.tab hF9 hN9 hb10) (fun b hb => hb.1) HG3.out.td (by omega) hT.out hC
            rw [← HG3.out.rl, HBK.out] at href
            unfold dv at href
            have HR10 : Hid (Row (w9.alloc (.cells #[.int .u8 (fa : Int), .int .u32 (fb : Int)] 41)) gm 35 #[.slice B RL d, .int .i64 (M : Int), .int .i64 (C : Int)]) := (hF9.row HG3.out.ne HG3.out.ro).below hb10 (by have := HG3.out.ro.lt; omega)
            have HX10 : Hid (Row (w9.alloc (.cells #[.int .u8 (fa : Int), .int .u32 (fb : Int)] 41)) w9.heap.size 41 #[.int .u8 (fa : Int), .int .u32 (fb : Int)]) := Row.new w9 _ _
            have HBB : Hid (Below w.heap.size w (w9.alloc (.cells #[.int .u8 (fa : Int), .int .u32 (fb : Int)] 41))) := (HG3.out.be.trans (hF9.below (fun k hk _ => (HG3.out.dn.eb hk).1) HG3.out.be.size)).trans (hb10.mono (by have := HG3.out.be.size; omega))
            have HF9 := Lib.hid (And.intro hF9 (And.intro hN9 (And.intro hD9 hb10)))
            have HBG := Lib.hid (And.intro hbad hgood)
            have x0 := HR10.out.cell (j := 0) rfl
            have x1 := HR10.out.cell (j := 1) rfl
            have x2 := HR10.out.cell (j := 2) rfl
            have hgm : gm < w8.heap.size := HG3.out.ro.lt
            have hs10 : (w9.alloc (.cells #[.int .u8 (fa : Int), .int .u32 (fb : Int)] 41)).heap.size = w9.heap.size + 1 := by simp
            have HS10 := Lib.hid hs10
            clear he hF9 hN9 hsome hD9 hbad hgood hb10 hXb HX HXe hget hs10
            go_wp2_with fail
            generalize w9.alloc (.cells #[.int .u8 (fa : Int), .int .u32 (fb : Int)] 41) = w10 at *
            refine href.mono ?_
            rintro e w11 ⟨he, hb11⟩
            obtain ⟨A1, n1, c1, A3, m', d', M', C', code, rfl, _, rsome⟩ := he.gen
            obtain ⟨_, _, rbad, rgood⟩ := rsome _ rfl
            have hs11 : w10.heap.size ≤ w11.heap.size := hb11.size
            have hb12 := hb11.alloc hb11.size (.cells #[.slice A3 m' d', .int .i64 M', .int .i64 C'] 35)
            have HR12 := Lib.hid (HR10.out.below hb12 HR10.out.lt)
            have HX12 := Lib.hid (HX10.out.below hb12 HX10.out.lt)
            have HX13 : Hid (Row (set3 (w11.alloc (.cells #[.slice A3 m' d', .int .i64 M', .int .i64 C'] 35)) gm (.slice A3 m' d') (.int .i64 M') (.int .i64 C')) w9.heap.size 41 #[.int .u8 (fa : Int), .int .u32 (fb : Int)]) := set3_other (fun e => by omega) HX12.out
            have HR13 : Hid (Row (set3 (w11.alloc (.cells #[.slice A3 m' d', .int .i64 M', .int .i64 C'] 35)) gm (.slice A3 m' d') (.int .i64 M') (.int .i64 C')) gm 35 #[.slice A3 m' d', .int .i64 M', .int .i64 C']) := set3_own HR12.out
            have HB13 : Hid (Below w.heap.size w (set3 (w11.alloc (.cells #[.slice A3 m' d', .int .i64 M', .int .i64 C'] 35)) gm (.slice A3 m' d') (.int .i64 M') (.int .i64 C'))) := set3_below (HBB.out.trans (hb12.mono HBB.out.size)) HG3.out.lo
            have HB11 := Lib.hid hb11
            have y0 := HR12.out.cell (j := 0) rfl
            have y1 := HR12.out.cell (j := 1) rfl
            have y2 := HR12.out.cell (j := 2) rfl
            have z0 := HR12.out.thawed 0
            have z1 := HR12.out.thawed 1
            have z2 := HR12.out.thawed 2
            clear he hb11 hb12 rsome x0 x1 x2 HR10 HX10 href
            by_cases hbig : 4096 < tot F
            · obtain rfl := rbad hbig
              obtain ⟨rfl, rfl, rfl⟩ := HBG.out.1 hbig
              clear rgood rbad HBG
              go_wp2_with fail
              refine (fixed_any _).mono ?_
              rintro e w14 ⟨rfl, hb14⟩
              have hX14 := Row.below HX13.out hb14 (Row.lt HX13.out)
              have q0 := hX14.cell (j := 0) rfl
              have q1 := hX14.cell (j := 1) rfl
              have HB14 := Lib.hid (HB13.out.trans (hb14.mono HB13.out.size))
              clear hX14 hb14
              go_wp2_with fail
              go_ret
              exact ⟨rfl, HB14.out⟩
            · have hto : tot F ≤ 4096 := by omega
              obtain ⟨rfl, rfl, rfl, rfl, rfl, k1, k2, k3⟩ := rgood hto
              obtain ⟨rfl, rfl, rfl, k4⟩ := HBG.out.2 hto
              simp only at k1 k2 k3 k4
              have hbA : Below w11.heap.size w11 (w11.alloc (.cells #[.slice A3 L3.reverse.length d', .int .i64 (M2 : Int), .int .i64 (C : Int)] 35)) := (Below.refl _ _).alloc (Nat.le_refl _) _
              have hs12 := HS10.out
              have HGn : Hid (G8 w (set3 (w11.alloc (.cells #[.slice A3 L3.reverse.length d', .int .i64 (M2 : Int), .int .i64 (C : Int)] 35)) gm (.slice A3 L3.reverse.length d') (.int .i64 (M2 : Int)) (.int .i64 (C : Int))) ge g1 ve3 L3 M2 false low2 gd g v' gm L3 M2 C A3 L3.reverse.length d') := G8.dec HG3.out HF9.out.1 HF9.out.2.1 HF9.out.2.2.1 HF9.out.2.2.2 HB11.out k2 k3 hbA
              have HGot : Hid (RdS (set3 (w11.alloc (.cells #[.slice A3 L3.reverse.length d', .int .i64 (M2 : Int), .int .i64 (C : Int)] 35)) gm (.slice A3 L3.reverse.length d') (.int .i64 (M2 : Int)) (.int .i64 (C : Int))) (fun b => w8.heap.size ≤ b ∧ b < w9.heap.size) Ag (enl fdc F)) := set3_rds ((((k4.imp fun b hb _ => And.intro hb.1 hb.2.1).keep fun b hb => HF9.out.2.2.2.block b (by omega)).keep fun b hb => HB11.out.block b (by omega)).keep fun b hb => hbA.block b (by omega)) (fun b hb => by omega)
              have HWant : Hid (RdS (set3 (w11.alloc (.cells #[.slice A3 L3.reverse.length d', .int .i64 (M2 : Int), .int .i64 (C : Int)] 35)) gm (.slice A3 L3.reverse.length d') (.int .i64 (M2 : Int)) (.int .i64 (C : Int))) (fun b => w10.heap.size ≤ b ∧ b < w11.heap.size) A1 (enl fdc F)) := set3_rds (k1.keep fun b hb => hbA.block b (by omega)) (fun b hb => by omega)
              have hrts := fun (Wd : World) (h : RdS Wd (· < Wd.heap.size) A3 (enl fdc L3.reverse)) => rtsize_any (w := Wd) (c := d') (M := M2) h (by rw [tot_reverse]; have := hT3.out; omega) (fun g hg => by have h1 := tot_mem hg; rw [tot_reverse] at h1; have := hT3.out; omega)
              rw [tot_reverse] at hrts
              unfold tv at hrts
              have HRTS := Lib.hid hrts
              have HSW : Hid (w11.heap.size ≤ (set3 (w11.alloc (.cells #[.slice A3 L3.reverse.length d', .int .i64 (M2 : Int), .int .i64 (C : Int)] 35)) gm (.slice A3 L3.reverse.length d') (.int .i64 (M2 : Int)) (.int .i64 (C : Int))).heap.size) := by show _ ≤ _; rw [set3_size]; exact hbA.size
              clear k1 k2 k3 k4 hbA hrts rgood rbad HBG HF9 HB11 HG3 HBK HBB hs12 HS10
              generalize hSL : L3.reverse.length = SL at *
              clear hSL
              go_wp2_with fail
              unfold set3 at HX13 HR13 HB13 HGn HGot HWant HSW
              generalize (((w11.alloc (.cells #[.slice A3 SL d', .int .i64 (M2 : Int), .int .i64 (C : Int)] 35)).setCell ⟨gm, 0, none⟩ (.slice A3 SL d')).setCell ⟨gm, 1, none⟩ (.int .i64 (M2 : Int))).setCell ⟨gm, 2, none⟩ (.int .i64 (C : Int)) = w13 at *
              clear y0 y1 y2 z0 z1 z2 HR12 HX12
              have hsw := HSW.out
              have hlen : F.length ≤ 1099511627776 := by omega
              refine wp_region_E 33 (fun w' => w'.cell? ⟨w9.heap.size, 0, none⟩ = some (.int .u8 0) ∧ w'.cell? ⟨w9.heap.size, 1, none⟩ = some (.int .u32 0) ∧ w'.cell? ⟨gm, 0, none⟩ = some (.slice A3 SL d') ∧ w'.cell? ⟨gm, 1, none⟩ = some (.int .i64 (M2 : Int))) (by kernel_rfl) ⟨HX13.out.cell (j := 0) rfl, HX13.out.cell (j := 1) rfl, HR13.out.cell (j := 0) rfl, HR13.out.cell (j := 1) rfl⟩ (fun hHeld => ?_)
              refine wpAnyE_take (i := 0) (v := ?v0q5) rfl (by kernel_rfl) (by kernel_rfl) (by kernel_rfl) (by kernel_rfl) (fun _ _ _ h => h) (Or.inl ⟨by rfl, ?hy0q5⟩) (by assumption) ?rest0q5
              case hy0q5 => (intro w hSw; (try dsimp only at hSw); go_simp <;> with_reducible rfl)
              try simp only [Act.put, List.getElem_toArray, List.getElem_cons_zero, List.setIfInBounds_toArray, List.set_cons_zero, List.set_cons_succ]
              refine wpAnyE_take (i := 1) (v := ?v1q5) rfl (by kernel_rfl) (by kernel_rfl) (by kernel_rfl) (by kernel_rfl) (fun _ _ _ h => h) (Or.inl ⟨by rfl, ?hy1q5⟩) (by assumption) ?rest1q5
              case hy1q5 => (intro w hSw; (try dsimp only at hSw); go_simp <;> with_reducible rfl)
              try simp only [Act.put, List.getElem_toArray, List.getElem_cons_zero, List.getElem_cons_succ, List.setIfInBounds_toArray, List.set_cons_zero, List.set_cons_succ]
              refine wpAnyE_take (i := 2) (v := ?v2q5) rfl (by kernel_rfl) (by kernel_rfl) (by kernel_rfl) (by kernel_rfl) (fun _ _ _ h => h) (Or.inl ⟨by rfl, ?hy2q5⟩) (by assumption) ?rest2q5
              case hy2q5 => (intro w hSw; (try dsimp only at hSw); go_simp <;> with_reducible rfl)
              try simp only [Act.put, List.getElem_toArray, List.getElem_cons_zero, List.getElem_cons_succ, List.setIfInBounds_toArray, List.set_cons_zero, List.set_cons_succ]
              refine wpAnyE_take (i := 3) (v := ?v3q5) rfl (by kernel_rfl) (by kernel_rfl) (by kernel_rfl) (by kernel_rfl) (fun _ _ _ h => h) (Or.inl ⟨by rfl, ?hy3q5⟩) (by assumption) ?rest3q5
              case hy3q5 => (intro w hSw; (try dsimp only at hSw); go_simp <;> with_reducible rfl)
              try simp only [Act.put, List.getElem_toArray, List.getElem_cons_zero, List.getElem_cons_succ, List.setIfInBounds_toArray, List.set_cons_zero, List.set_cons_succ]
              refine wpAnyE_take (i := 4) (v := ?v4q5) rfl (by kernel_rfl) (by kernel_rfl) (by kernel_rfl) (by kernel_rfl) (fun _ _ _ h => h) (Or.inl ⟨by rfl, ?hy4q5⟩) (by assumption) ?rest4q5
              case hy4q5 => (intro w hSw; (try dsimp only at hSw); go_simp <;> with_reducible rfl)
              try simp only [Act.put, List.getElem_toArray, List.getElem_cons_zero, List.getElem_cons_succ, List.setIfInBounds_toArray, List.set_cons_zero, List.set_cons_succ]
              refine wpAnyE_take (i := 5) (v := ?v5q5) rfl (by kernel_rfl) (by kernel_rfl) (by kernel_rfl) (by kernel_rfl) (fun _ _ _ h => h) (Or.inl ⟨by rfl, ?hy5q5⟩) (by assumption) ?rest5q5
              case hy5q5 => (intro w hSw; (try dsimp only at hSw); go_simp <;> with_reducible rfl)
              try simp only [Act.put, List.getElem_toArray, List.getElem_cons_zero, List.getElem_cons_succ, List.setIfInBounds_toArray, List.set_cons_zero, List.set_cons_succ]
              refine wpAnyE_take (i := 6) (v := ?v6q5) rfl (by kernel_rfl) (by kernel_rfl) (by kernel_rfl) (by kernel_rfl) (fun _ _ _ h => h) (Or.inl ⟨by rfl, ?hy6q5⟩) (by assumption) ?rest6q5
              case hy6q5 => (intro w hSw; (try dsimp only at hSw); go_simp <;> with_reducible rfl)
              try simp only [Act.put, List.getElem_toArray, List.getElem_cons_zero, List.getElem_cons_succ, List.setIfInBounds_toArray, List.set_cons_zero, List.set_cons_succ]
              refine wpAnyE_take (i := 7) (v := ?v7q5) rfl (by kernel_rfl) (by kernel_rfl) (by kernel_rfl) (by kernel_rfl) (fun _ _ _ h => h) (Or.inl ⟨by rfl, ?hy7q5⟩) (by assumption) ?rest7q5
              case hy7q5 => (intro w hSw; (try dsimp only at hSw); go_simp <;> with_reducible rfl)
              try simp only [Act.put, List.getElem_toArray, List.getElem_cons_zero, List.getElem_cons_succ, List.setIfInBounds_toArray, List.set_cons_zero, List.set_cons_succ]
              refine wpAnyE_take (i := 8) (v := ?v8q5) rfl (by kernel_rfl) (by kernel_rfl) (by kernel_rfl) (by kernel_rfl) (fun _ _ _ h => h) (Or.inl ⟨by rfl, ?hy8q5⟩) (by assumption) ?rest8q5
              case hy8q5 => (intro w hSw; (try dsimp only at hSw); go_simp <;> with_reducible rfl)
              try simp only [Act.put, List.getElem_toArray, List.getElem_cons_zero, List.getElem_cons_succ, List.setIfInBounds_toArray, List.set_cons_zero, List.set_cons_succ]
              refine wpAnyE_take (i := 9) (v := ?v9q5) rfl (by kernel_rfl) (by kernel_rfl) (by kernel_rfl) (by kernel_rfl) (fun _ _ _ h => h) (Or.inl ⟨by rfl, ?hy9q5⟩) (by assumption) ?rest9q5
              case hy9q5 => (intro w hSw; (try dsimp only at hSw); go_simp <;> with_reducible rfl)
              try simp only [Act.put, List.getElem_toArray, List.getElem_cons_zero, List.getElem_cons_succ, List.setIfInBounds_toArray, List.set_cons_zero, List.set_cons_succ]
              refine wpAnyE_next (i := 10) (by kernel_rfl) rfl (fun K hK => ?_)
              go_simp
              go_at_call 18
              refine (same6_any (w := w13.drew) (A := Ag) (B := Ak) (F := F) ((HGot.out.imp fun b hb _ => (by omega : b < w13.heap.size)) : RdS w13 (· < w13.heap.size) Ag (enl fdc F)) (HRF.out.up (HB13.out.drew)) hlen).mono ?_
              rintro e wq ⟨rfl, nq, rfl⟩
              have hbq : Below w13.heap.size w13 (w13.drewN (1 + nq)) := below_dN (Below.refl _ _) (1 + nq)
              have HGq := Lib.hid (HGn.out.then hbq)
              have hXq := Row.below HX13.out hbq (Row.lt HX13.out)
              have hRq := HGq.out.ro
              have HXq := Lib.hid hXq
              have HWq := Lib.hid (HWant.out.keep fun b hb => hbq.block b (by omega))
              have hsq : w13.heap.size ≤ (w13.drewN (1 + nq)).heap.size := hbq.size
              have HSQ := Lib.hid hsq
              go_simp
              refine hK.out _ _ ⟨hXq.cell (j := 0) rfl, hXq.cell (j := 1) rfl, hRq.cell (j := 0) rfl, hRq.cell (j := 1) rfl⟩ (fun hHeld => ?_)
              clear hK K hbq hXq hRq HGn HX13 HR13 HB13 HGot HWant hsq
              try simp only [Act.put, List.getElem_toArray, List.getElem_cons_zero, List.getElem_cons_succ, List.setIfInBounds_toArray, List.set_cons_zero, List.set_cons_succ]
              generalize w13.drewN (1 + nq) = wq at *
              refine wpAnyE_take (i := 11) (v := ?v11q6) rfl (by kernel_rfl) (by kernel_rfl) (by kernel_rfl) (by kernel_rfl) (fun _ _ _ h => h) (Or.inl ⟨by rfl, ?hy11q6⟩) (by assumption) ?rest11q6
              case hy11q6 => (intro w hSw; (try dsimp only at hSw); go_simp <;> with_reducible rfl)
              try simp only [Act.put, List.getElem_toArray, List.getElem_cons_zero, List.getElem_cons_succ, List.setIfInBounds_toArray, List.set_cons_zero, List.set_cons_succ]
              refine wpAnyE_take (i := 12) (v := ?v12q6) rfl (by kernel_rfl) (by kernel_rfl) (by kernel_rfl) (by kernel_rfl) (fun _ _ _ h => h) (Or.inl ⟨by rfl, ?hy12q6⟩) (by assumption) ?rest12q6
              case hy12q6 => (intro w hSw; (try dsimp only at hSw); go_simp <;> with_reducible rfl)
              try simp only [Act.put, List.getElem_toArray, List.getElem_cons_zero, List.getElem_cons_succ, List.setIfInBounds_toArray, List.set_cons_zero, List.set_cons_succ]
              refine wpAnyE_take (i := 13) (v := ?v13q6) rfl (by kernel_rfl) (by kernel_rfl) (by kernel_rfl) (by kernel_rfl) (fun _ _ _ h => h) (Or.inl ⟨by rfl, ?hy13q6⟩) (by assumption) ?rest13q6
              case hy13q6 => (intro w hSw; (try dsimp only at hSw); go_simp <;> with_reducible rfl)
              try simp only [Act.put, List.getElem_toArray, List.getElem_cons_zero, List.getElem_cons_succ, List.setIfInBounds_toArray, List.set_cons_zero, List.set_cons_succ]
              refine wpAnyE_take (i := 14) (v := ?v14q6) rfl (by kernel_rfl) (by kernel_rfl) (by kernel_rfl) (by kernel_rfl) (fun _ _ _ h => h) (Or.inl ⟨by rfl, ?hy14q6⟩) (by assumption) ?rest14q6
              case hy14q6 => (intro w hSw; (try dsimp only at hSw); go_simp <;> with_reducible rfl)
              try simp only [Act.put, List.getElem_toArray, List.getElem_cons_zero, List.getElem_cons_succ, List.setIfInBounds_toArray, List.set_cons_zero, List.set_cons_succ]
              refine wpAnyE_take (i := 15) (v := ?v15q6) rfl (by kernel_rfl) (by kernel_rfl) (by kernel_rfl) (by kernel_rfl) (fun _ _ _ h => h) (Or.inl ⟨by rfl, ?hy15q6⟩) (by assumption) ?rest15q6
              case hy15q6 => (intro w hSw; (try dsimp only at hSw); go_simp <;> with_reducible rfl)
              try simp only [Act.put, List.getElem_toArray, List.getElem_cons_zero, List.getElem_cons_succ, List.setIfInBounds_toArray, List.set_cons_zero, List.set_cons_succ]
              refine wpAnyE_next (i := 16) (by kernel_rfl) rfl (fun K hK => ?_)
              go_simp
              go_at_call 18
              refine (same6_any (w := wq) (A := A1) (B := Ak) (F := F) (HWq.out.imp fun b hb _ => (by have := HSQ.out; omega : b < wq.heap.size)) (HRF.out.up HGq.out.be) hlen).mono ?_
              rintro e wy ⟨rfl, ny, rfl⟩
              have hby : Below wq.heap.size wq (wq.drewN ny) := below_dN (Below.refl _ _) ny
              have HGy := Lib.hid (HGq.out.then hby)
              have hXy := Row.below HXq.out hby (Row.lt HXq.out)
              have hRy := HGy.out.ro
              have HXy := Lib.hid hXy
              go_simp
              refine hK.out _ _ ⟨hXy.cell (j := 0) rfl, hXy.cell (j := 1) rfl, hRy.cell (j := 0) rfl, hRy.cell (j := 1) rfl⟩ (fun hHeld => ?_)
              clear hK K hby hXy hRy HGq HXq HWq HSQ HSW
              try simp only [Act.put, List.getElem_toArray, List.getElem_cons_zero, List.getElem_cons_succ, List.setIfInBounds_toArray, List.set_cons_zero, List.set_cons_succ]
              generalize wq.drewN ny = wy at *
              refine wpAnyE_take (i := 17) (v := ?v17q7) rfl (by kernel_rfl) (by kernel_rfl) (by kernel_rfl) (by kernel_rfl) (fun _ _ _ h => h) (Or.inl ⟨by rfl, ?hy17q7⟩) (by assumption) ?rest17q7
              case hy17q7 => (intro w hSw; (try dsimp only at hSw); go_simp <;> with_reducible rfl)
              try simp only [Act.put, List.getElem_toArray, List.getElem_cons_zero, List.getElem_cons_succ, List.setIfInBounds_toArray, List.set_cons_zero, List.set_cons_succ]
              refine wpAnyE_take (i := 18) (v := ?v18q7) rfl (by kernel_rfl) (by kernel_rfl) (by kernel_rfl) (by kernel_rfl) (fun _ _ _ h => h) (Or.inl ⟨by rfl, ?hy18q7⟩) (by assumption) ?rest18q7
              case hy18q7 => (intro w hSw; (try dsimp only at hSw); go_simp <;> with_reducible rfl)
              try simp only [Act.put, List.getElem_toArray, List.getElem_cons_zero, List.getElem_cons_succ, List.setIfInBounds_toArray, List.set_cons_zero, List.set_cons_succ]
              refine wpAnyE_take (i := 19) (v := ?v19q7) rfl (by kernel_rfl) (by kernel_rfl) (by kernel_rfl) (by kernel_rfl) (fun _ _ _ h => h) (Or.inl ⟨by rfl, ?hy19q7⟩) (by assumption) ?rest19q7
              case hy19q7 => (intro w hSw; (try dsimp only at hSw); go_simp <;> with_reducible rfl)
              try simp only [Act.put, List.getElem_toArray, List.getElem_cons_zero, List.getElem_cons_succ, List.setIfInBounds_toArray, List.set_cons_zero, List.set_cons_succ]
              refine wpAnyE_take (i := 20) (v := ?v20q7) rfl (by kernel_rfl) (by kernel_rfl) (by kernel_rfl) (by kernel_rfl) (fun _ _ _ h => h) (Or.inl ⟨by rfl, ?hy20q7⟩) (by assumption) ?rest20q7
              case hy20q7 => (intro w hSw; (try dsimp only at hSw); go_simp <;> with_reducible rfl)
              try simp only [Act.put, List.getElem_toArray, List.getElem_cons_zero, List.getElem_cons_succ, List.setIfInBounds_toArray, List.set_cons_zero, List.set_cons_succ]
              refine wpAnyE_take (i := 22) (v := ?v22q7) rfl (by kernel_rfl) (by kernel_rfl) (by kernel_rfl) (by kernel_rfl) (fun _ _ _ h => h) (Or.inl ⟨by rfl, ?hy22q7⟩) (by assumption) ?rest22q7
              case hy22q7 => (intro w hSw; (try dsimp only at hSw); go_simp <;> with_reducible rfl)
              try simp only [Act.put, List.getElem_toArray, List.getElem_cons_zero, List.getElem_cons_succ, List.setIfInBounds_toArray, List.set_cons_zero, List.set_cons_succ]
              refine wpAnyE_next (i := 21) (by kernel_rfl) rfl (fun K hK => ?_)
              go_simp
              go_at_call 19
              refine (etable_any HGy.out.en).mono ?_
              rintro e wz ⟨rfl, hwz⟩
              subst wz
              go_simp
              refine hK.out _ _ (by assumption) (fun hHeld => ?_)
              clear hK K
              try simp only [Act.put, List.getElem_toArray, List.getElem_cons_zero, List.getElem_cons_succ, List.setIfInBounds_toArray, List.set_cons_zero, List.set_cons_succ]
              refine wpAnyE_next (i := 23) (by kernel_rfl) rfl (fun K hK => ?_)
              go_simp
              go_at_call 20
              refine (dtable_any HGy.out.dn).mono ?_
              rintro e wz ⟨rfl, hwz⟩
              subst wz
              go_simp
              refine hK.out _ _ (by assumption) (fun hHeld => ?_)
              clear hK K
              try simp only [Act.put, List.getElem_toArray, List.getElem_cons_zero, List.getElem_cons_succ, List.setIfInBounds_toArray, List.set_cons_zero, List.set_cons_succ]
              refine wpAnyE_take (i := 24) (v := ?v24q8) rfl (by kernel_rfl) (by kernel_rfl) (by kernel_rfl) (by kernel_rfl) (fun _ _ _ h => h) (Or.inl ⟨by rfl, ?hy24q8⟩) (by assumption) ?rest24q8
              case hy24q8 => (intro w hSw; (try dsimp only at hSw); go_simp <;> with_reducible rfl)
              try simp only [Act.put, List.getElem_toArray, List.getElem_cons_zero, List.getElem_cons_succ, List.setIfInBounds_toArray, List.set_cons_zero, List.set_cons_succ]
              refine wpAnyE_take (i := 25) (v := ?v25q8) rfl (by kernel_rfl) (by kernel_rfl) (by kernel_rfl) (by kernel_rfl) (fun _ _ _ h => h) (Or.inl ⟨by rfl, ?hy25q8⟩) (by assumption) ?rest25q8
              case hy25q8 => (intro w hSw; (try dsimp only at hSw); go_simp <;> with_reducible rfl)
              try simp only [Act.put, List.getElem_toArray, List.getElem_cons_zero, List.getElem_cons_succ, List.setIfInBounds_toArray, List.set_cons_zero, List.set_cons_succ]
              refine wpAnyE_take (i := 26) (v := ?v26q8) rfl (by kernel_rfl) (by kernel_rfl) (by kernel_rfl) (by kernel_rfl) (fun _ _ _ h => h) (Or.inl ⟨by rfl, ?hy26q8⟩) (by assumption) ?rest26q8
              case hy26q8 => (intro w hSw; (try dsimp only at hSw); go_simp <;> with_reducible rfl)
              try simp only [Act.put, List.getElem_toArray, List.getElem_cons_zero, List.getElem_cons_succ, List.setIfInBounds_toArray, List.set_cons_zero, List.set_cons_succ]
              refine wpAnyE_take (i := 27) (v := ?v27q8) rfl (by kernel_rfl) (by kernel_rfl) (by kernel_rfl) (by kernel_rfl) (fun _ _ _ h => h) (Or.inl ⟨by rfl, ?hy27q8⟩) (by assumption) ?rest27q8
              case hy27q8 => (intro w hSw; (try dsimp only at hSw); go_simp <;> with_reducible rfl)
              try simp only [Act.put, List.getElem_toArray, List.getElem_cons_zero, List.getElem_cons_succ, List.setIfInBounds_toArray, List.set_cons_zero, List.set_cons_succ]
              refine wpAnyE_take (i := 29) (v := ?v29q8) rfl (by kernel_rfl) (by kernel_rfl) (by kernel_rfl) (by kernel_rfl) (fun _ _ _ h => h) (Or.inl ⟨by rfl, ?hy29q8⟩) (by assumption) ?rest29q8
              case hy29q8 => (intro w hSw; (try dsimp only at hSw); go_simp <;> with_reducible rfl)
              try simp only [Act.put, List.getElem_toArray, List.getElem_cons_zero, List.getElem_cons_succ, List.setIfInBounds_toArray, List.set_cons_zero, List.set_cons_succ]
              refine wpAnyE_take (i := 30) (v := ?v30q8) rfl (by kernel_rfl) (by kernel_rfl) (by kernel_rfl) (by kernel_rfl) (fun _ _ _ h => h) (Or.inl ⟨by rfl, ?hy30q8⟩) (by assumption) ?rest30q8
              case hy30q8 => (intro w hSw; (try dsimp only at hSw); go_simp <;> with_reducible rfl)
              try simp only [Act.put, List.getElem_toArray, List.getElem_cons_zero, List.getElem_cons_succ, List.setIfInBounds_toArray, List.set_cons_zero, List.set_cons_succ]
              refine wpAnyE_next (i := 28) (by kernel_rfl) rfl (fun K hK => ?_)
              go_simp
              go_at_call 20
              refine (dtable_any HGy.out.dn).mono ?_
              rintro e wz ⟨rfl, hwz⟩
              subst wz
              go_simp
              refine hK.out _ _ (by assumption) (fun hHeld => ?_)
              clear hK K
              try simp only [Act.put, List.getElem_toArray, List.getElem_cons_zero, List.getElem_cons_succ, List.setIfInBounds_toArray, List.set_cons_zero, List.set_cons_succ]
              refine wpAnyE_next (i := 31) (by kernel_rfl) rfl (fun K hK => ?_)
              go_simp
              go_at_call 21
              refine (HRTS.out _ (HGy.out.tb.imp fun b hb _ => hb.1)).mono ?_
              rintro e wz ⟨rfl, hbz⟩
              have HGz := Lib.hid (HGy.out.then hbz)
              have hXz := Row.below HXy.out hbz (Row.lt HXy.out)
              have hRz := HGz.out.ro
              go_simp
              refine hK.out _ _ ⟨hXz.cell (j := 0) rfl, hXz.cell (j := 1) rfl, hRz.cell (j := 0) rfl, hRz.cell (j := 1) rfl⟩ (fun hHeld => ?_)
              clear hK K hbz hXz hRz HGy HXy HRTS
              try simp only [Act.put, List.getElem_toArray, List.getElem_cons_zero, List.getElem_cons_succ, List.setIfInBounds_toArray, List.set_cons_zero, List.set_cons_succ]
              refine wpAnyE_take (i := 32) (v := ?v32q9) rfl (by kernel_rfl) (by kernel_rfl) (by kernel_rfl) (by kernel_rfl) (fun _ _ _ h => h) (Or.inl ⟨by rfl, ?hy32q9⟩) (by assumption) ?rest32q9
              case hy32q9 => (intro w hSw; (try dsimp only at hSw); go_simp <;> with_reducible rfl)
              try simp only [Act.put, List.getElem_toArray, List.getElem_cons_zero, List.getElem_cons_succ, List.setIfInBounds_toArray, List.set_cons_zero, List.set_cons_succ]
              refine wpAnyE_last (by kernel_rfl) rfl (by kernel_rfl) (fun K hK => ?_)
              go_simp
              refine hK.out _ _ ?_
              clear hK K
              try simp only [Act.put, List.getElem_toArray, List.getElem_cons_zero, List.getElem_cons_succ, List.setIfInBounds_toArray, List.set_cons_zero, List.set_cons_succ]
              go_wp2_with fail
              go_roundw
              case rel => exact ⟨k + 1, ve3, v', L3, M2, low2, A3, SL, d', by omega, by go_num, hM2, hlow2, hT3, hV3, HGz⟩
              case measure => simp [intOf]; omega
          · -- no most is told
            obtain ⟨nn, hnn⟩ := n
            have hdk : decide ((k : Int) < (NN.length : Int)) = true := by simp; omega
            have hmod : (nn : Int) % 3 = 0 := by simp only at hn3; omega
            have fn := (hG.out.be.cell (p := ⟨bn, qn + k, none⟩) hbn).trans hcn
            try simp only at fn
            have HS : Hid (∃ (ve2 : Value) (L2 : List Fd) (M2 : Nat) (lim2 : Bool) (low2 : Nat), G8 w wr ge g1 ve2 L2 M2 lim2 low2 gd g v gm L M C B RL d ∧ M2 ≤ C ∧ low2 ≤ C ∧ (lim2 = false → M = M2) ∧ limT lim2 low2 M2 L = L2 ∧ tot L2 ≤ M2 ∧ ∀ x ∈ L2, x.nv = false) := ⟨ve, L, M, false, low, hG.out, hM, hlow, fun _ => rfl, by unfold limT; rfl, hT.out, hV.out⟩
            clear hG
            go_wp2_with fail
            obtain ⟨ve2, L2, M2, lim2, low2, hG2, hM2, hlow2, hl2, hlt2, ht2, hv2⟩ := HS.out
            have hput := put_any (c := ck) hG2.en (by omega) ht2 (by omega) (HRF.out.below hG2.be) (fun k hk => by
              have h1 := hG2.en.lo
              have h2 := hG2.en.t.low
              have h3 := hG2.be.size
              exact ⟨by omega, by omega, by omega, fun e => by have := (hG2.en.vlt e).1; omega⟩) HFe.out (by omega)
            unfold pt at hput
            have hXl : (limL lim2 low2 M2 ++ putA M2 L2 F).length ≤ 12000 := put_short (by omega) ht2 HFe.out hFl HFt.out
            have hbk : blk C ⟨L, M, []⟩ (limL lim2 low2 M2 ++ putA M2 L2 F) = some ⟨tabA M2 L2 F, M2, F⟩ := blk_all hM2 hlow2 hC hl2 hlt2 ht2 hv2 HFe.out
            have hT3 : Hid (tot (tabA M2 L2 F) ≤ M2) := tabA_le ht2
            have hV3 : Hid (∀ x ∈ tabA M2 L2 F, x.nv = false) := tabA_bare hv2
            generalize limL lim2 low2 M2 ++ putA M2 L2 F = X at *
            generalize tabA M2 L2 F = L3 at *
            have HBK := Lib.hid hbk
            have HG2 := Lib.hid hG2
            have hs2 : w.heap.size ≤ wr.heap.size := hG2.be.size
            clear hbk hl2 hlt2 ht2 hv2 hG2 HS
            refine hput.mono ?_
            rintro e w8 ⟨xv, ve3, rfl, hP⟩
            obtain ⟨Ax, cx, rfl, hcx⟩ := hP.bo.shape
            have HG3 := Lib.hid (HG2.out.enc hP.fs hP.nx hP.en)
            have HX := Lib.hid hP.bo
            have hs8 : wr.heap.size ≤ w8.heap.size := hP.fs.size
            have HXe : Hid (∀ k, ob (.slice Ax X.length cx) k → k < w8.heap.size ∧ ¬ EB gd g v k) := fun k hk => by
              have h1 := OwS.lt hP.bo k hk
              exact ⟨h1.2, fun e => by have := (HG2.out.dn.eb e).2; omega⟩
            have hget := get6_any (c := cx) HG3.out.dn hC (by omega) hT.out (by omega) (OwS.reads HX.out) hcx HXe.out hXl
            have hbk2 : blockR C X.length ⟨L, M, []⟩ X = some ⟨L3, M2, F⟩ := by have := HBK.out; unfold blk at this; exact this
            rw [hbk2] at hget
            unfold pt at hget
            clear hP hput hbk2 HG2
            go_wp2_with fail
            refine hget.mono ?_
            intro e w9 he
            obtain ⟨Ag, ng, cg, fa, fb, v', rfl, hF9, hN9, _, hsome⟩ := he.gen
            obtain ⟨hD9, _, _, hbad, hgood⟩ := hsome _ rfl
            have hb10 : Below w9.heap.size w9 (w9.alloc (.cells #[.int .u8 (fa : Int), .int .u32 (fb : Int)] 41)) := (Below.refl _ _).alloc (Nat.le_refl _) _
            have hs9 : w8.heap.size ≤ w9.heap.size := hF9.size
            have hXb : RdB (w9.alloc (.cells #[.int .u8 (fa : Int), .int .u32 (fb : Int)] 41)) (w9.alloc (.cells #[.int .u8 (fa : Int), .int .u32 (fb : Int)] 41)).heap.size Ax X := Bo.reads (OwS.below (hF9.owns HX.out fun k hk e => (HXe.out k hk).2 e) hb10)
            have href := rget6_any (c := cx) (d := d) (M := M) (cap := C) hXl hcx hXb (HG3.out.tab hF9 hN9 hb10) (fun b hb => hb.1) HG3.out.td (by omega) hT.out hC
            rw [← HG3.out.rl, HBK.out] at href
            unfold dv at href
            have HR10 : Hid (Row (w9.alloc (.cells #[.int .u8 (fa : Int), .int .u32 (fb : Int)] 41)) gm 35 #[.slice B RL d, .int .i64 (M : Int), .int .i64 (C : Int)]) := (hF9.row HG3.out.ne HG3.out.ro).below hb10 (by have := HG3.out.ro.lt; omega)
            have HX10 : Hid (Row (w9.alloc (.cells #[.int .u8 (fa : Int), .int .u32 (fb : Int)] 41)) w9.heap.size 41 #[.int .u8 (fa : Int), .int .u32 (fb : Int)]) := Row.new w9 _ _
            have HBB : Hid (Below w.heap.size w (w9.alloc (.cells #[.int .u8 (fa : Int), .int .u32 (fb : Int)] 41))) := (HG3.out.be.trans (hF9.below (fun k hk _ => (HG3.out.dn.eb hk).1) HG3.out.be.size)).trans (hb10.mono (by have := HG3.out.be.size; omega))
            have HF9 := Lib.hid (And.intro hF9 (And.intro hN9 (And.intro hD9 hb10)))
            have HBG := Lib.hid (And.intro hbad hgood)
            have x0 := HR10.out.cell (j := 0) rfl
            have x1 := HR10.out.cell (j := 1) rfl
            have x2 := HR10.out.cell (j := 2) rfl
            have hgm : gm < w8.heap.size := HG3.out.ro.lt
            have hs10 : (w9.alloc (.cells #[.int .u8 (fa : Int), .int .u32 (fb : Int)] 41)).heap.size = w9.heap.size + 1 := by simp
            have HS10 := Lib.hid hs10
            clear he hF9 hN9 hsome hD9 hbad hgood hb10 hXb HX HXe hget hs10
            go_wp2_with fail
            generalize w9.alloc (.cells #[.int .u8 (fa : Int), .int .u32 (fb : Int)] 41) = w10 at *
            refine href.mono ?_
            rintro e w11 ⟨he, hb11⟩
            obtain ⟨A1, n1, c1, A3, m', d', M', C', code, rfl, _, rsome⟩ := he.gen
            obtain ⟨_, _, rbad, rgood⟩ := rsome _ rfl
            have hs11 : w10.heap.size ≤ w11.heap.size := hb11.size
            have hb12 := hb11.alloc hb11.size (.cells #[.slice A3 m' d', .int .i64 M', .int .i64 C'] 35)
            have HR12 := Lib.hid (HR10.out.below hb12 HR10.out.lt)
            have HX12 := Lib.hid (HX10.out.below hb12 HX10.out.lt)
            have HX13 : Hid (Row (set3 (w11.alloc (.cells #[.slice A3 m' d', .int .i64 M', .int .i64 C'] 35)) gm (.slice A3 m' d') (.int .i64 M') (.int .i64 C')) w9.heap.size 41 #[.int .u8 (fa : Int), .int .u32 (fb : Int)]) := set3_other (fun e => by omega) HX12.out
            have HR13 : Hid (Row (set3 (w11.alloc (.cells #[.slice A3 m' d', .int .i64 M', .int .i64 C'] 35)) gm (.slice A3 m' d') (.int .i64 M') (.int .i64 C')) gm 35 #[.slice A3 m' d', .int .i64 M', .int .i64 C']) := set3_own HR12.out
            have HB13 : Hid (Below w.heap.size w (set3 (w11.alloc (.cells #[.slice A3 m' d', .int .i64 M', .int .i64 C'] 35)) gm (.slice A3 m' d') (.int .i64 M') (.int .i64 C'))) := set3_below (HBB.out.trans (hb12.mono HBB.out.size)) HG3.out.lo
            have HB11 := Lib.hid hb11
            have y0 := HR12.out.cell (j := 0) rfl
            have y1 := HR12.out.cell (j := 1) rfl
            have y2 := HR12.out.cell (j := 2) rfl
            have z0 := HR12.out.thawed 0
            have z1 := HR12.out.thawed 1
            have z2 := HR12.out.thawed 2
            clear he hb11 hb12 rsome x0 x1 x2 HR10 HX10 href
            by_cases hbig : 4096 < tot F
            · obtain rfl := rbad hbig
              obtain ⟨rfl, rfl, rfl⟩ := HBG.out.1 hbig
              clear rgood rbad HBG
              go_wp2_with fail
              refine (fixed_any _).mono ?_
              rintro e w14 ⟨rfl, hb14⟩
              have hX14 := Row.below HX13.out hb14 (Row.lt HX13.out)
              have q0 := hX14.cell (j := 0) rfl
              have q1 := hX14.cell (j := 1) rfl
              have HB14 := Lib.hid (HB13.out.trans (hb14.mono HB13.out.size))
              clear hX14 hb14
              go_wp2_with fail
              go_ret
              exact ⟨rfl, HB14.out⟩
            · have hto : tot F ≤ 4096 := by omega
              obtain ⟨rfl, rfl, rfl, rfl, rfl, k1, k2, k3⟩ := rgood hto
              obtain ⟨rfl, rfl, rfl, k4⟩ := HBG.out.2 hto
              simp only at k1 k2 k3 k4
              have hbA : Below w11.heap.size w11 (w11.alloc (.cells #[.slice A3 L3.reverse.length d', .int .i64 (M2 : Int), .int .i64 (C : Int)] 35)) := (Below.refl _ _).alloc (Nat.le_refl _) _
              have hs12 := HS10.out
              have HGn : Hid (G8 w (set3 (w11.alloc (.cells #[.slice A3 L3.reverse.length d', .int .i64 (M2 : Int), .int .i64 (C : Int)] 35)) gm (.slice A3 L3.reverse.length d') (.int .i64 (M2 : Int)) (.int .i64 (C : Int))) ge g1 ve3 L3 M2 false low2 gd g v' gm L3 M2 C A3 L3.reverse.length d') := G8.dec HG3.out HF9.out.1 HF9.out.2.1 HF9.out.2.2.1 HF9.out.2.2.2 HB11.out k2 k3 hbA
              have HGot : Hid (RdS (set3 (w11.alloc (.cells #[.slice A3 L3.reverse.length d', .int .i64 (M2 : Int), .int .i64 (C : Int)] 35)) gm (.slice A3 L3.reverse.length d') (.int .i64 (M2 : Int)) (.int .i64 (C : Int))) (fun b => w8.heap.size ≤ b ∧ b < w9.heap.size) Ag (enl fdc F)) := set3_rds ((((k4.imp fun b hb _ => And.intro hb.1 hb.2.1).keep fun b hb => HF9.out.2.2.2.block b (by omega)).keep fun b hb => HB11.out.block b (by omega)).keep fun b hb => hbA.block b (by omega)) (fun b hb => by omega)
              have HWant : Hid (RdS (set3 (w11.alloc (.cells #[.slice A3 L3.reverse.length d', .int .i64 (M2 : Int), .int .i64 (C : Int)] 35)) gm (.slice A3 L3.reverse.length d') (.int .i64 (M2 : Int)) (.int .i64 (C : Int))) (fun b => w10.heap.size ≤ b ∧ b < w11.heap.size) A1 (enl fdc F)) := set3_rds (k1.keep fun b hb => hbA.block b (by omega)) (fun b hb => by omega)
              have hrts := fun (Wd : World) (h : RdS Wd (· < Wd.heap.size) A3 (enl fdc L3.reverse)) => rtsize_any (w := Wd) (c := d') (M := M2) h (by rw [tot_reverse]; have := hT3.out; omega) (fun g hg => by have h1 := tot_mem hg; rw [tot_reverse] at h1; have := hT3.out; omega)
              rw [tot_reverse] at hrts
              unfold tv at hrts
              have HRTS := Lib.hid hrts
              have HSW : Hid (w11.heap.size ≤ (set3 (w11.alloc (.cells #[.slice A3 L3.reverse.length d', .int .i64 (M2 : Int), .int .i64 (C : Int)] 35)) gm (.slice A3 L3.reverse.length d') (.int .i64 (M2 : Int)) (.int .i64 (C : Int))).heap.size) := by show _ ≤ _; rw [set3_size]; exact hbA.size
              clear k1 k2 k3 k4 hbA hrts rgood rbad HBG HF9 HB11 HG3 HBK HBB hs12 HS10
              generalize hSL : L3.reverse.length = SL at *
              clear hSL
              go_wp2_with fail
              unfold set3 at HX13 HR13 HB13 HGn HGot HWant HSW
              generalize (((w11.alloc (.cells #[.slice A3 SL d', .int .i64 (M2 : Int), .int .i64 (C : Int)] 35)).setCell ⟨gm, 0, none⟩ (.slice A3 SL d')).setCell ⟨gm, 1, none⟩ (.int .i64 (M2 : Int))).setCell ⟨gm, 2, none⟩ (.int .i64 (C : Int)) = w13 at *
              clear y0 y1 y2 z0 z1 z2 HR12 HX12
              have hsw := HSW.out
              have hlen : F.length ≤ 1099511627776 := by omega
              refine wp_region_E 33 (fun w' => w'.cell? ⟨w9.heap.size, 0, none⟩ = some (.int .u8 0) ∧ w'.cell? ⟨w9.heap.size, 1, none⟩ = some (.int .u32 0) ∧ w'.cell? ⟨gm, 0, none⟩ = some (.slice A3 SL d') ∧ w'.cell? ⟨gm, 1, none⟩ = some (.int .i64 (M2 : Int))) (by kernel_rfl) ⟨HX13.out.cell (j := 0) rfl, HX13.out.cell (j := 1) rfl, HR13.out.cell (j := 0) rfl, HR13.out.cell (j := 1) rfl⟩ (fun hHeld => ?_)
              refine wpAnyE_take (i := 0) (v := ?v0q10) rfl (by kernel_rfl) (by kernel_rfl) (by kernel_rfl) (by kernel_rfl) (fun _ _ _ h => h) (Or.inl ⟨by rfl, ?hy0q10⟩) (by assumption) ?rest0q10
              case hy0q10 => (intro w hSw; (try dsimp only at hSw); go_simp <;> with_reducible rfl)
              try simp only [Act.put, List.getElem_toArray, List.getElem_cons_zero, List.setIfInBounds_toArray, List.set_cons_zero, List.set_cons_succ]
              refine wpAnyE_take (i := 1) (v := ?v1q10) rfl (by kernel_rfl) (by kernel_rfl) (by kernel_rfl) (by kernel_rfl) (fun _ _ _ h => h) (Or.inl ⟨by rfl, ?hy1q10⟩) (by assumption) ?rest1q10
              case hy1q10 => (intro w hSw; (try dsimp only at hSw); go_simp <;> with_reducible rfl)
              try simp only [Act.put, List.getElem_toArray, List.getElem_cons_zero, List.getElem_cons_succ, List.setIfInBounds_toArray, List.set_cons_zero, List.set_cons_succ]
              refine wpAnyE_take (i := 2) (v := ?v2q10) rfl (by kernel_rfl) (by kernel_rfl) (by kernel_rfl) (by kernel_rfl) (fun _ _ _ h => h) (Or.inl ⟨by rfl, ?hy2q10⟩) (by assumption) ?rest2q10
              case hy2q10 => (intro w hSw; (try dsimp only at hSw); go_simp <;> with_reducible rfl)
              try simp only [Act.put, List.getElem_toArray, List.getElem_cons_zero, List.getElem_cons_succ, List.setIfInBounds_toArray, List.set_cons_zero, List.set_cons_succ]
              refine wpAnyE_take (i := 3) (v := ?v3q10) rfl (by kernel_rfl) (by kernel_rfl) (by kernel_rfl) (by kernel_rfl) (fun _ _ _ h => h) (Or.inl ⟨by rfl, ?hy3q10⟩) (by assumption) ?rest3q10
              case hy3q10 => (intro w hSw; (try dsimp only at hSw); go_simp <;> with_reducible rfl)
              try simp only [Act.put, List.getElem_toArray, List.getElem_cons_zero, List.getElem_cons_succ, List.setIfInBounds_toArray, List.set_cons_zero, List.set_cons_succ]
              refine wpAnyE_take (i := 4) (v := ?v4q10) rfl (by kernel_rfl) (by kernel_rfl) (by kernel_rfl) (by kernel_rfl) (fun _ _ _ h => h) (Or.inl ⟨by rfl, ?hy4q10⟩) (by assumption) ?rest4q10
              case hy4q10 => (intro w hSw; (try dsimp only at hSw); go_simp <;> with_reducible rfl)
              try simp only [Act.put, List.getElem_toArray, List.getElem_cons_zero, List.getElem_cons_succ, List.setIfInBounds_toArray, List.set_cons_zero, List.set_cons_succ]
              refine wpAnyE_take (i := 5) (v := ?v5q10) rfl (by kernel_rfl) (by kernel_rfl) (by kernel_rfl) (by kernel_rfl) (fun _ _ _ h => h) (Or.inl ⟨by rfl, ?hy5q10⟩) (by assumption) ?rest5q10
              case hy5q10 => (intro w hSw; (try dsimp only at hSw); go_simp <;> with_reducible rfl)
              try simp only [Act.put, List.getElem_toArray, List.getElem_cons_zero, List.getElem_cons_succ, List.setIfInBounds_toArray, List.set_cons_zero, List.set_cons_succ]
              refine wpAnyE_take (i := 6) (v := ?v6q10) rfl (by kernel_rfl) (by kernel_rfl) (by kernel_rfl) (by kernel_rfl) (fun _ _ _ h => h) (Or.inl ⟨by rfl, ?hy6q10⟩) (by assumption) ?rest6q10
              case hy6q10 => (intro w hSw; (try dsimp only at hSw); go_simp <;> with_reducible rfl)
              try simp only [Act.put, List.getElem_toArray, List.getElem_cons_zero, List.getElem_cons_succ, List.setIfInBounds_toArray, List.set_cons_zero, List.set_cons_succ]
              refine wpAnyE_take (i := 7) (v := ?v7q10) rfl (by kernel_rfl) (by kernel_rfl) (by kernel_rfl) (by kernel_rfl) (fun _ _ _ h => h) (Or.inl ⟨by rfl, ?hy7q10⟩) (by assumption) ?rest7q10
              case hy7q10 => (intro w hSw; (try dsimp only at hSw); go_simp <;> with_reducible rfl)
              try simp only [Act.put, List.getElem_toArray, List.getElem_cons_zero, List.getElem_cons_succ, List.setIfInBounds_toArray, List.set_cons_zero, List.set_cons_succ]
              refine wpAnyE_take (i := 8) (v := ?v8q10) rfl (by kernel_rfl) (by kernel_rfl) (by kernel_rfl) (by kernel_rfl) (fun _ _ _ h => h) (Or.inl ⟨by rfl, ?hy8q10⟩) (by assumption) ?rest8q10
              case hy8q10 => (intro w hSw; (try dsimp only at hSw); go_simp <;> with_reducible rfl)
              try simp only [Act.put, List.getElem_toArray, List.getElem_cons_zero, List.getElem_cons_succ, List.setIfInBounds_toArray, List.set_cons_zero, List.set_cons_succ]
              refine wpAnyE_take (i := 9) (v := ?v9q10) rfl (by kernel_rfl) (by kernel_rfl) (by kernel_rfl) (by kernel_rfl) (fun _ _ _ h => h) (Or.inl ⟨by rfl, ?hy9q10⟩) (by assumption) ?rest9q10
              case hy9q10 => (intro w hSw; (try dsimp only at hSw); go_simp <;> with_reducible rfl)
              try simp only [Act.put, List.getElem_toArray, List.getElem_cons_zero, List.getElem_cons_succ, List.setIfInBounds_toArray, List.set_cons_zero, List.set_cons_succ]
              refine wpAnyE_next (i := 10) (by kernel_rfl) rfl (fun K hK => ?_)
              go_simp
              go_at_call 18
              refine (same6_any (w := w13.drew) (A := Ag) (B := Ak) (F := F) ((HGot.out.imp fun b hb _ => (by omega : b < w13.heap.size)) : RdS w13 (· < w13.heap.size) Ag (enl fdc F)) (HRF.out.up (HB13.out.drew)) hlen).mono ?_
              rintro e wq ⟨rfl, nq, rfl⟩
              have hbq : Below w13.heap.size w13 (w13.drewN (1 + nq)) := below_dN (Below.refl _ _) (1 + nq)
              have HGq := Lib.hid (HGn.out.then hbq)
              have hXq := Row.below HX13.out hbq (Row.lt HX13.out)
              have hRq := HGq.out.ro
              have HXq := Lib.hid hXq
              have HWq := Lib.hid (HWant.out.keep fun b hb => hbq.block b (by omega))
              have hsq : w13.heap.size ≤ (w13.drewN (1 + nq)).heap.size := hbq.size
              have HSQ := Lib.hid hsq
              go_simp
              refine hK.out _ _ ⟨hXq.cell (j := 0) rfl, hXq.cell (j := 1) rfl, hRq.cell (j := 0) rfl, hRq.cell (j := 1) rfl⟩ (fun hHeld => ?_)
              clear hK K hbq hXq hRq HGn HX13 HR13 HB13 HGot HWant hsq
              try simp only [Act.put, List.getElem_toArray, List.getElem_cons_zero, List.getElem_cons_succ, List.setIfInBounds_toArray, List.set_cons_zero, List.set_cons_succ]
              generalize w13.drewN (1 + nq) = wq at *
              refine wpAnyE_take (i := 11) (v := ?v11q11) rfl (by kernel_rfl) (by kernel_rfl) (by kernel_rfl) (by kernel_rfl) (fun _ _ _ h => h) (Or.inl ⟨by rfl, ?hy11q11⟩) (by assumption) ?rest11q11
              case hy11q11 => (intro w hSw; (try dsimp only at hSw); go_simp <;> with_reducible rfl)
              try simp only [Act.put, List.getElem_toArray, List.getElem_cons_zero, List.getElem_cons_succ, List.setIfInBounds_toArray, List.set_cons_zero, List.set_cons_succ]
              refine wpAnyE_take (i := 12) (v := ?v12q11) rfl (by kernel_rfl) (by kernel_rfl) (by kernel_rfl) (by kernel_rfl) (fun _ _ _ h => h) (Or.inl ⟨by rfl, ?hy12q11⟩) (by assumption) ?rest12q11
              case hy12q11 => (intro w hSw; (try dsimp only at hSw); go_simp <;> with_reducible rfl)
              try simp only [Act.put, List.getElem_toArray, List.getElem_cons_zero, List.getElem_cons_succ, List.setIfInBounds_toArray, List.set_cons_zero, List.set_cons_succ]
              refine wpAnyE_take (i := 13) (v := ?v13q11) rfl (by kernel_rfl) (by kernel_rfl) (by kernel_rfl) (by kernel_rfl) (fun _ _ _ h => h) (Or.inl ⟨by rfl, ?hy13q11⟩) (by assumption) ?rest13q11
              case hy13q11 => (intro w hSw; (try dsimp only at hSw); go_simp <;> with_reducible rfl)
              try simp only [Act.put, List.getElem_toArray, List.getElem_cons_zero, List.getElem_cons_succ, List.setIfInBounds_toArray, List.set_cons_zero, List.set_cons_succ]
              refine wpAnyE_take (i := 14) (v := ?v14q11) rfl (by kernel_rfl) (by kernel_rfl) (by kernel_rfl) (by kernel_rfl) (fun _ _ _ h => h) (Or.inl ⟨by rfl, ?hy14q11⟩) (by assumption) ?rest14q11
              case hy14q11 => (intro w hSw; (try dsimp only at hSw); go_simp <;> with_reducible rfl)
              try simp only [Act.put, List.getElem_toArray, List.getElem_cons_zero, List.getElem_cons_succ, List.setIfInBounds_toArray, List.set_cons_zero, List.set_cons_succ]
              refine wpAnyE_take (i := 15) (v := ?v15q11) rfl (by kernel_rfl) (by kernel_rfl) (by kernel_rfl) (by kernel_rfl) (fun _ _ _ h => h) (Or.inl ⟨by rfl, ?hy15q11⟩) (by assumption) ?rest15q11
              case hy15q11 => (intro w hSw; (try dsimp only at hSw); go_simp <;> with_reducible rfl)
              try simp only [Act.put, List.getElem_toArray, List.getElem_cons_zero, List.getElem_cons_succ, List.setIfInBounds_toArray, List.set_cons_zero, List.set_cons_succ]
              refine wpAnyE_next (i := 16) (by kernel_rfl) rfl (fun K hK => ?_)
              go_simp
              go_at_call 18
              refine (same6_any (w := wq) (A := A1) (B := Ak) (F := F) (HWq.out.imp fun b hb _ => (by have := HSQ.out; omega : b < wq.heap.size)) (HRF.out.up HGq.out.be) hlen).mono ?_
              rintro e wy ⟨rfl, ny, rfl⟩
              have hby : Below wq.heap.size wq (wq.drewN ny) := below_dN (Below.refl _ _) ny
              have HGy := Lib.hid (HGq.out.then hby)
              have hXy := Row.below HXq.out hby (Row.lt HXq.out)
              have hRy := HGy.out.ro
              have HXy := Lib.hid hXy
              go_simp
              refine hK.out _ _ ⟨hXy.cell (j := 0) rfl, hXy.cell (j := 1) rfl, hRy.cell (j := 0) rfl, hRy.cell (j := 1) rfl⟩ (fun hHeld => ?_)
              clear hK K hby hXy hRy HGq HXq HWq HSQ HSW
              try simp only [Act.put, List.getElem_toArray, List.getElem_cons_zero, List.getElem_cons_succ, List.setIfInBounds_toArray, List.set_cons_zero, List.set_cons_succ]
              generalize wq.drewN ny = wy at *
              refine wpAnyE_take (i := 17) (v := ?v17q12) rfl (by kernel_rfl) (by kernel_rfl) (by kernel_rfl) (by kernel_rfl) (fun _ _ _ h => h) (Or.inl ⟨by rfl, ?hy17q12⟩) (by assumption) ?rest17q12
              case hy17q12 => (intro w hSw; (try dsimp only at hSw); go_simp <;> with_reducible rfl)
              try simp only [Act.put, List.getElem_toArray, List.getElem_cons_zero, List.getElem_cons_succ, List.setIfInBounds_toArray, List.set_cons_zero, List.set_cons_succ]
              refine wpAnyE_take (i := 18) (v := ?v18q12) rfl (by kernel_rfl) (by kernel_rfl) (by kernel_rfl) (by kernel_rfl) (fun _ _ _ h => h) (Or.inl ⟨by rfl, ?hy18q12⟩) (by assumption) ?rest18q12
              case hy18q12 => (intro w hSw; (try dsimp only at hSw); go_simp <;> with_reducible rfl)
              try simp only [Act.put, List.getElem_toArray, List.getElem_cons_zero, List.getElem_cons_succ, List.setIfInBounds_toArray, List.set_cons_zero, List.set_cons_succ]
              refine wpAnyE_take (i := 19) (v := ?v19q12) rfl (by kernel_rfl) (by kernel_rfl) (by kernel_rfl) (by kernel_rfl) (fun _ _ _ h => h) (Or.inl ⟨by rfl, ?hy19q12⟩) (by assumption) ?rest19q12
              case hy19q12 => (intro w hSw; (try dsimp only at hSw); go_simp <;> with_reducible rfl)
              try simp only [Act.put, List.getElem_toArray, List.getElem_cons_zero, List.getElem_cons_succ, List.setIfInBounds_toArray, List.set_cons_zero, List.set_cons_succ]
              refine wpAnyE_take (i := 20) (v := ?v20q12) rfl (by kernel_rfl) (by kernel_rfl) (by kernel_rfl) (by kernel_rfl) (fun _ _ _ h => h) (Or.inl ⟨by rfl, ?hy20q12⟩) (by assumption) ?rest20q12
              case hy20q12 => (intro w hSw; (try dsimp only at hSw); go_simp <;> with_reducible rfl)
              try simp only [Act.put, List.getElem_toArray, List.getElem_cons_zero, List.getElem_cons_succ, List.setIfInBounds_toArray, List.set_cons_zero, List.set_cons_succ]
              refine wpAnyE_take (i := 22) (v := ?v22q12) rfl (by kernel_rfl) (by kernel_rfl) (by kernel_rfl) (by kernel_rfl) (fun _ _ _ h => h) (Or.inl ⟨by rfl, ?hy22q12⟩) (by assumption) ?rest22q12
              case hy22q12 => (intro w hSw; (try dsimp only at hSw); go_simp <;> with_reducible rfl)
              try simp only [Act.put, List.getElem_toArray, List.getElem_cons_zero, List.getElem_cons_succ, List.setIfInBounds_toArray, List.set_cons_zero, List.set_cons_succ]
              refine wpAnyE_next (i := 21) (by kernel_rfl) rfl (fun K hK => ?_)
              go_simp
              go_at_call 19
              refine (etable_any HGy.out.en).mono ?_
              rintro e wz ⟨rfl, hwz⟩
              subst wz
              go_simp
              refine hK.out _ _ (by assumption) (fun hHeld => ?_)
              clear hK K
              try simp only [Act.put, List.getElem_toArray, List.getElem_cons_zero, List.getElem_cons_succ, List.setIfInBounds_toArray, List.set_cons_zero, List.set_cons_succ]
              refine wpAnyE_next (i := 23) (by kernel_rfl) rfl (fun K hK => ?_)
              go_simp
              go_at_call 20
              refine (dtable_any HGy.out.dn).mono ?_
              rintro e wz ⟨rfl, hwz⟩
              subst wz
              go_simp
              refine hK.out _ _ (by assumption) (fun hHeld => ?_)
              clear hK K
              try simp only [Act.put, List.getElem_toArray, List.getElem_cons_zero, List.getElem_cons_succ, List.setIfInBounds_toArray, List.set_cons_zero, List.set_cons_succ]
              refine wpAnyE_take (i := 24) (v := ?v24q13) rfl (by kernel_rfl) (by kernel_rfl) (by kernel_rfl) (by kernel_rfl) (fun _ _ _ h => h) (Or.inl ⟨by rfl, ?hy24q13⟩) (by assumption) ?rest24q13
              case hy24q13 => (intro w hSw; (try dsimp only at hSw); go_simp <;> with_reducible rfl)
              try simp only [Act.put, List.getElem_toArray, List.getElem_cons_zero, List.getElem_cons_succ, List.setIfInBounds_toArray, List.set_cons_zero, List.set_cons_succ]
              refine wpAnyE_take (i := 25) (v := ?v25q13) rfl (by kernel_rfl) (by kernel_rfl) (by kernel_rfl) (by kernel_rfl) (fun _ _ _ h => h) (Or.inl ⟨by rfl, ?hy25q13⟩) (by assumption) ?rest25q13
              case hy25q13 => (intro w hSw; (try dsimp only at hSw); go_simp <;> with_reducible rfl)
              try simp only [Act.put, List.getElem_toArray, List.getElem_cons_zero, List.getElem_cons_succ, List.setIfInBounds_toArray, List.set_cons_zero, List.set_cons_succ]
              refine wpAnyE_take (i := 26) (v := ?v26q13) rfl (by kernel_rfl) (by kernel_rfl) (by kernel_rfl) (by kernel_rfl) (fun _ _ _ h => h) (Or.inl ⟨by rfl, ?hy26q13⟩) (by assumption) ?rest26q13
              case hy26q13 => (intro w hSw; (try dsimp only at hSw); go_simp <;> with_reducible rfl)
              try simp only [Act.put, List.getElem_toArray, List.getElem_cons_zero, List.getElem_cons_succ, List.setIfInBounds_toArray, List.set_cons_zero, List.set_cons_succ]
              refine wpAnyE_take (i := 27) (v := ?v27q13) rfl (by kernel_rfl) (by kernel_rfl) (by kernel_rfl) (by kernel_rfl) (fun _ _ _ h => h) (Or.inl ⟨by rfl, ?hy27q13⟩) (by assumption) ?rest27q13
              case hy27q13 => (intro w hSw; (try dsimp only at hSw); go_simp <;> with_reducible rfl)
              try simp only [Act.put, List.getElem_toArray, List.getElem_cons_zero, List.getElem_cons_succ, List.setIfInBounds_toArray, List.set_cons_zero, List.set_cons_succ]
              refine wpAnyE_take (i := 29) (v := ?v29q13) rfl (by kernel_rfl) (by kernel_rfl) (by kernel_rfl) (by kernel_rfl) (fun _ _ _ h => h) (Or.inl ⟨by rfl, ?hy29q13⟩) (by assumption) ?rest29q13
              case hy29q13 => (intro w hSw; (try dsimp only at hSw); go_simp <;> with_reducible rfl)
              try simp only [Act.put, List.getElem_toArray, List.getElem_cons_zero, List.getElem_cons_succ, List.setIfInBounds_toArray, List.set_cons_zero, List.set_cons_succ]
              refine wpAnyE_take (i := 30) (v := ?v30q13) rfl (by kernel_rfl) (by kernel_rfl) (by kernel_rfl) (by kernel_rfl) (fun _ _ _ h => h) (Or.inl ⟨by rfl, ?hy30q13⟩) (by assumption) ?rest30q13
              case hy30q13 => (intro w hSw; (try dsimp only at hSw); go_simp <;> with_reducible rfl)
              try simp only [Act.put, List.getElem_toArray, List.getElem_cons_zero, List.getElem_cons_succ, List.setIfInBounds_toArray, List.set_cons_zero, List.set_cons_succ]
              refine wpAnyE_next (i := 28) (by kernel_rfl) rfl (fun K hK => ?_)
              go_simp
              go_at_call 20
              refine (dtable_any HGy.out.dn).mono ?_
              rintro e wz ⟨rfl, hwz⟩
              subst wz
              go_simp
              refine hK.out _ _ (by assumption) (fun hHeld => ?_)
              clear hK K
              try simp only [Act.put, List.getElem_toArray, List.getElem_cons_zero, List.getElem_cons_succ, List.setIfInBounds_toArray, List.set_cons_zero, List.set_cons_succ]
              refine wpAnyE_next (i := 31) (by kernel_rfl) rfl (fun K hK => ?_)
              go_simp
              go_at_call 21
              refine (HRTS.out _ (HGy.out.tb.imp fun b hb _ => hb.1)).mono ?_
              rintro e wz ⟨rfl, hbz⟩
              have HGz := Lib.hid (HGy.out.then hbz)
              have hXz := Row.below HXy.out hbz (Row.lt HXy.out)
              have hRz := HGz.out.ro
              go_simp
              refine hK.out _ _ ⟨hXz.cell (j := 0) rfl, hXz.cell (j := 1) rfl, hRz.cell (j := 0) rfl, hRz.cell (j := 1) rfl⟩ (fun hHeld => ?_)
              clear hK K hbz hXz hRz HGy HXy HRTS
              try simp only [Act.put, List.getElem_toArray, List.getElem_cons_zero, List.getElem_cons_succ, List.setIfInBounds_toArray, List.set_cons_zero, List.set_cons_succ]
              refine wpAnyE_take (i := 32) (v := ?v32q14) rfl (by kernel_rfl) (by kernel_rfl) (by kernel_rfl) (by kernel_rfl) (fun _ _ _ h => h) (Or.inl ⟨by rfl, ?hy32q14⟩) (by assumption) ?rest32q14
              case hy32q14 => (intro w hSw; (try dsimp only at hSw); go_simp <;> with_reducible rfl)
              try simp only [Act.put, List.getElem_toArray, List.getElem_cons_zero, List.getElem_cons_succ, List.setIfInBounds_toArray, List.set_cons_zero, List.set_cons_succ]
              refine wpAnyE_last (by kernel_rfl) rfl (by kernel_rfl) (fun K hK => ?_)
              go_simp
              refine hK.out _ _ ?_
              clear hK K
              try simp only [Act.put, List.getElem_toArray, List.getElem_cons_zero, List.getElem_cons_succ, List.setIfInBounds_toArray, List.set_cons_zero, List.set_cons_succ]
              go_wp2_with fail
              go_roundw
              case rel => exact ⟨k + 1, ve3, v', L3, M2, low2, A3, SL, d', by omega, by go_num, hM2, hlow2, hT3, hV3, HGz⟩
              case measure => simp [intOf]; omega
        · go_wp2_with fail
          refine (fixed_any _).mono ?_
          rintro e w5 ⟨rfl, hb5⟩
          have HB5 := Lib.hid (hG.out.be.trans (hb5.mono hG.out.be.size))
          clear hb5
          go_wp2_with fail
          go_ret
          exact ⟨rfl, HB5.out⟩
theorem back_law' {w : World} {A D : Option Addr} {c cn : Nat} {LL : List (Hd w Fd fdc)} {NN : List N32} (a : Int) (b : 0 ≤ a ∧ a < 4294967296) (hR : RdS w (· < w.heap.size) A (enl hdc LL)) (hl : LL.length ≤ 9223372036854775807)
    (hNN : RdS w (· < w.heap.size) D (enl n32 NN)) (hnl : NN.length ≤ 9223372036854775807) :
    Calls Try.prog 3 #[.int .u32 a, .slice A LL.length c, .slice D NN.length cn] w fun e w' => e = .returned (.bool true) ∧ Below w.heap.size w w' := by
  obtain ⟨m, rfl⟩ := Int.eq_ofNat_of_zero_le b.1
  exact back_law m (by omega) hR hl hNN hnl
end Go.Proofs.Ytfajffchnnalaaa
