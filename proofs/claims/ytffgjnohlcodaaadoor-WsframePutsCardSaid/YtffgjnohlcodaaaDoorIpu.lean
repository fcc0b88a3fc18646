/-
  wsframe's Put, by its contract. Conditions: the data's bytes are read, their number.
-/
import Derived.Test.YtffgjnohlcodaaaDoorIma
import Derived.Deep.CutBlock
namespace Go.Proofs.YtffgjnohlcodaaaDoor
open Go.RowKit Go.WideShapes

/-- What a call leaves that makes bytes of its own. -/
def MadeI (w : World) (l : List UInt8) (e : Ending) (w' : World) : Prop := ∃ A c, e = .returned (.slice A l.length c) ∧ OwB w' w.heap.size 5 (.slice A l.length c) l ∧ Below w.heap.size w w'
/-- A frame's bytes, if it may be. -/
def Pc.putL (p : Pc) : List UInt8 := if p.May then p.put else []
theorem lensI_eq {n : Nat} (h : n ≤ 4096) : lensI n = be (behindN (formN n)) n := by
  unfold lensI behindN formN
  by_cases h1 : n < 126
  · rw [if_pos h1, if_neg (show ¬ 65536 ≤ n by omega), if_neg (show ¬ 126 ≤ n by omega), if_neg (by omega), if_neg (by omega)]
    rfl
  · rw [if_neg h1, if_neg (show ¬ 65536 ≤ n by omega), if_pos (show 126 ≤ n by omega)]
    rfl
theorem formI_eq {n : Nat} (h : n ≤ 4096) : formI n = formN n := by
  unfold formI formN
  by_cases h1 : n < 126
  · rw [if_pos h1, if_neg (show ¬ 65536 ≤ n by omega), if_neg (show ¬ 126 ≤ n by omega)]
  · rw [if_neg h1, if_neg (show ¬ 65536 ≤ n by omega), if_pos (show 126 ≤ n by omega)]
theorem or128 {n : Nat} (h : n < 128) : bits .or .u8 (n : Int) 128 = ((n + 128 : Nat) : Int) := by
  rw [show (128 : Int) = ((128 : Nat) : Int) from rfl, u8_or_nat _ _ (by omega) (by omega), Nat.or_comm]
  have := Nat.two_pow_add_eq_or_of_lt (i := 7) (show n < 2 ^ 7 by omega) 1
  rw [show 2 ^ 7 * 1 = 128 from rfl] at this
  omega
/-- Two bytes, laid. -/
theorem lit2I (x y : Nat) (hx : x < 256) (hy : y < 256) (W : World) : OwB (W.alloc (.cells #[.int .u8 (x : Int), .int .u8 (y : Int)] 5)) W.heap.size 5 (.slice (some ⟨W.heap.size, 0, none⟩) 2 2) [UInt8.ofNat x, UInt8.ofNat y] := by
  have hb : #[Value.int .u8 (x : Int), .int .u8 (y : Int)] = (byc [UInt8.ofNat x, UInt8.ofNat y]).toArray := by simp [byc]; omega
  rw [hb]
  exact OwB.lit W 5 _ 2 rfl (by simp [maxLen]) (Nat.le_refl _)

set_option maxRecDepth 100000 in
set_option maxHeartbeats 1000000 in
theorem iput_any (p : Pc) (hop : p.op < 256) (hkey : p.key < 4294967296) {B : Nat} {A : Option Addr} {c : Nat} {w : World} (hr : RdB w B A p.dat) (hB : B ≤ w.heap.size) (hl : p.dat.length ≤ 1000000) :
    Calls Tryd.prog 9 #[.agg (pcC p.fin p.op p.mask p.key A p.dat.length c)] w (MadeI w p.putL) := by
  obtain ⟨fin, op, mask, key, dat⟩ := p
  simp only at hop hkey hr hl ⊢
  have hmay := imay_any fin op mask key A dat.length c
  have HBx : Hid (Below w.heap.size w (w.alloc (.cells (pcC fin op mask key A dat.length c) 25))) := (Below.refl _ _).alloc (Nat.le_refl _) _
  have HRx := Lib.hid (Row.new w 25 (pcC fin op mask key A dat.length c))
  have HSx : Hid (w.heap.size + 1 = (w.alloc (.cells (pcC fin op mask key A dat.length c) 25)).heap.size) := by show _ = _; simp
  by_cases hm : MayI fin op mask key dat.length
  · have e : (Pc.mk fin op mask key dat).putL = (Pc.mk fin op mask key dat).put := if_pos hm
    rw [e]
    rw [decide_eq_true hm] at hmay
    clear e
    have hfl := formN_lt dat.length
    have hfo := ishort_any dat.length (by omega)
    have hbe := ibehind_any (formN dat.length)
    obtain ⟨c0, c1, c2, c3, c4⟩ := pc_cells HRx.out
    have hop' : op < 128 := by have := hm.1; unfold okOp at this; omega
    have hn4 : dat.length ≤ 4096 := hm.2.2.1
    have HM := Lib.hid hm
    have ho1 := or128 hop'
    have ho2 := or128 hfl
    clear hm
    have HPUT : Hid ((Pc.mk fin op mask key dat).put = ([UInt8.ofNat (op + if fin = true then 128 else 0), UInt8.ofNat (formN dat.length + if mask = true then 128 else 0)] ++ be (behindN (formN dat.length)) dat.length) ++ if mask = true then be 4 key ++ turnL key dat else turnL key dat) := by
      show _ = _
      unfold Pc.put firstI secondI
      rw [lensI_eq hn4, formI_eq hn4]
      cases mask with
      | true => simp
      | false =>
        have hk0 : key = 0 := by have := HM.out.2.1; simpa using this
        rw [hk0, turnL_zero]
    have hbn : behindN (formN dat.length) ≤ 8 := by unfold behindN; split <;> (try split) <;> omega
    generalize formN dat.length = f at *
    generalize behindN f = bh at *
    have HR := Lib.hid (hr.below (HBx.out.mono hB))
    clear hr
    have HLL : Hid ((turnL key dat).length = dat.length) := turnL_length _ _
    clear c0 c1 c2 c3 c4
    go_enter Tryd.func9, Tryd.ntmps9
    go_wp2_with (refine wpList_ld rfl _ rfl rfl HRx.out (pc_ok _ _ _ _ _ _ _) ?_)
    refine (hmay _).mono ?_
    rintro e w2 ⟨rfl, hb2⟩
    have HR2 := Lib.hid (HRx.out.below hb2 HRx.out.lt)
    have HD2 := Lib.hid (HR.out.below (hb2.mono (by have := HSx.out; omega)))
    have HB2 := Lib.hid (HBx.out.trans (hb2.mono HBx.out.size))
    have HS2 : Hid (w.heap.size < w2.heap.size) := HR2.out.lt
    obtain ⟨c0, c1, c2, c3, c4⟩ := pc_cells HR2.out
    clear hmay HBx HRx HSx hb2 HR
    obtain ⟨p, hp⟩ : ∃ p, p = w.heap.size := ⟨_, rfl⟩
    simp only [← hp] at c0 c1 c2 c3 c4 HR2 HB2 HS2 hB ⊢
    have HPP : Hid (w.heap.size ≤ p) := Nat.le_of_eq hp.symm
    clear hp
    go_upto_region 6 with (first
      | (go_at_call 19; refine (hfo _).mono ?_; rintro e w' ⟨rfl, rfl⟩))
    clear hfo
    go_upto_if 21 with fail
    go_cut [5] (fun v wx => ∃ x : Nat, v = .int .u8 x ∧ x < 256 ∧ Hid (x = op + if fin = true then 128 else 0) ∧ wx = w2)
    case first =>
      cases fin
      · go_wp2_with fail
        go_meet
        case rel => exact ⟨op, rfl, by omega, by show _ = _; simp, rfl⟩
      · go_wp2_with fail
        go_meet
        case rel => exact ⟨op + 128, rfl, by omega, by show _ = _; simp, rfl⟩
    case rest =>
      obtain ⟨x, rfl, hx, HX, rfl⟩ := hcut
      rw [← HX.out] at HPUT
      clear HX ho1
      go_upto_if 25 with fail
      go_cut [6] (fun v wx => ∃ y : Nat, v = .int .u8 y ∧ y < 256 ∧ Hid (y = f + if mask = true then 128 else 0) ∧ wx = wc)
      case first =>
        cases mask
        · go_wp2_with fail
          go_meet
          case rel => exact ⟨f, rfl, by omega, by show _ = _; simp, rfl⟩
        · go_wp2_with fail
          go_meet
          case rel => exact ⟨f + 128, rfl, by omega, by show _ = _; simp, rfl⟩
      case rest =>
        obtain ⟨y, rfl, hy, HY, rfl⟩ := hcut
        rw [← HY.out] at HPUT
        clear HY ho2 c0 c1 c2 c3 c4
        have HO3 := Lib.hid (lit2I x y hx hy wc)
        have HB3 : Hid (Below wc.heap.size wc (wc.alloc (.cells #[.int .u8 (x : Int), .int .u8 (y : Int)] 5))) := (Below.refl _ _).alloc (Nat.le_refl _) _
        obtain ⟨q, hq⟩ : ∃ q, q = wc.heap.size := ⟨_, rfl⟩
        have HPQ : Hid (p < q) := by show _ < _; rw [hq]; exact HS2.out
        go_upto_region 11 with fail
        rw [← hq] at HO3 HB3 ⊢
        have hqs : q ≤ (wc.alloc (.cells #[.int .u8 (x : Int), .int .u8 (y : Int)] 5)).heap.size := by rw [hq]; exact HB3.out.size
        have HR3 := Lib.hid (HR2.out.below HB3.out HPQ.out)
        have HD3 := Lib.hid (HD2.out.below (HB3.out.mono (by have := HPQ.out; omega)))
        have HB4 : Hid (Below p w (wc.alloc (.cells #[.int .u8 (x : Int), .int .u8 (y : Int)] 5))) := HB2.out.trans (HB3.out.mono (Nat.le_of_lt HPQ.out))
        clear hq HB3 HR2 HD2 HB2 HS2
        generalize wc.alloc (.cells #[.int .u8 (x : Int), .int .u8 (y : Int)] 5) = w3 at *
        have hpn := iputN_any (n := dat.length) (m := bh) (by omega) hbn HO3.out (by simp) hqs
        obtain ⟨L1, hL1⟩ : ∃ L1, L1 = [UInt8.ofNat x, UInt8.ofNat y] ++ be bh dat.length := ⟨_, rfl⟩
        have hL1l : L1.length ≤ 10 := by rw [hL1, List.length_append, be_length]; simp; omega
        rw [← hL1] at hpn HPUT
        clear hL1 HO3
        go_upto_region 12 with (first
          | (go_at_call 21; refine (hbe _).mono ?_; rintro e w' ⟨rfl, rfl⟩)
          | (go_at_call 20; refine hpn.mono ?_; rintro e w4 ⟨A4, k4, rfl, hO4, hb4⟩))
        have HO4 := Lib.hid hO4
        have HR4 := Lib.hid (HR3.out.below hb4 HPQ.out)
        have HD4 := Lib.hid (HD3.out.below (hb4.mono (by have := HPQ.out; omega)))
        have HB5 := Lib.hid (HB4.out.trans (hb4.mono (Nat.le_of_lt HPQ.out)))
        have hqs4 : q ≤ w4.heap.size := Nat.le_trans hqs hb4.size
        obtain ⟨c0, c1, c2, c3, c4⟩ := pc_cells HR4.out
        clear hpn hbe hO4 hb4 HR3 HD3 HB4 hqs
        go_upto_if 38 with fail
        go_cut [7] (fun v wx => ∃ (A5 : Option Addr) (k5 : Nat) (L5 : List UInt8), v = .slice A5 L5.length k5 ∧ L5.length ≤ 14 ∧ Hid (L5 = L1 ++ if mask = true then be 4 key else []) ∧ Hid (OwB wx q 5 (.slice A5 L5.length k5) L5) ∧ Hid (Below q w4 wx))
        case first =>
          cases mask
          · go_wp2_with fail
            go_meet
            case rel => exact ⟨A4, k4, L1, rfl, by omega, by show _ = _; simp, HO4.out, Below.refl _ _⟩
          · have hpn := iputN_any (n := key) (m := 4) (by omega) (by omega) HO4.out (by omega) hqs4
            obtain ⟨L2, hL2⟩ : ∃ L2, L2 = L1 ++ be 4 key := ⟨_, rfl⟩
            have hl2 : L2.length ≤ 14 := by rw [hL2, List.length_append, be_length]; omega
            rw [← hL2] at hpn
            have HL2 := Lib.hid hL2
            clear hL2
            go_wp2_with (go_at_call 20; refine hpn.mono ?_; rintro e w5 ⟨A5, k5, rfl, hO5, hb5⟩)
            go_meet
            case rel => exact ⟨A5, k5, L2, rfl, hl2, by show _ = _; rw [HL2.out]; simp, hO5, hb5⟩
        case rest =>
          obtain ⟨A5, k5, L5, rfl, hL5, HL5, HO5, HB6⟩ := hcut
          have HP2 : Hid (L5 ++ turnL key dat = (Pc.mk fin op mask key dat).put) := by
            show _ = _
            rw [HPUT.out, HL5.out]
            cases mask <;> simp
          have HR5 := Lib.hid (HR4.out.below HB6.out HPQ.out)
          have HD5 := Lib.hid (HD4.out.below (HB6.out.mono (by have := HPQ.out; omega)))
          have HB7 := Lib.hid (HB5.out.trans (HB6.out.mono (Nat.le_of_lt HPQ.out)))
          have hqs5 : q ≤ wc.heap.size := Nat.le_trans hqs4 HB6.out.size
          clear HL5 HPUT HO4 HR4 HD4 HB5 HB6 hqs4 c0 c1 c2 c3 c4
          obtain ⟨c0, c1, c2, c3, c4⟩ := pc_cells HR5.out
          have hcB : B ≤ wc.heap.size := by have := HPQ.out; omega
          have htu := iturn_any (c := c) (key := key) hkey HD5.out (by omega) hcB
          obtain ⟨i0, hi0, hz0, hz1, hz2⟩ := infoI infoI8
          go_upto_region 14 with fail
          go_wp2_with fail
          refine htu.mono ?_
          rintro e w6 ⟨gt, rfl, hO6, hb6⟩
          have HRD := RdB.ownI (l := turnL key dat) (A := some ⟨gt, 0, none⟩) (c := dat.length) (by rw [turnL_length]; exact hO6)
          have HOF := Lib.hid (HO5.out.below hb6)
          have HB8 := Lib.hid (HB7.out.trans (hb6.mono (by have := HPQ.out; omega)))
          have hqs6 : q ≤ w6.heap.size := Nat.le_trans hqs5 hb6.size
          have HRH := Lib.hid HRD
          clear HRD hO6 hb6 htu HO5 HB7 HR5 HD5
          go_wp2_with (at_builtin; go_loud (refine wpList_appB rfl (.tmp 44) (.tmp 49) 23 rfl q 5 i0 Tryd.underlying23 hi0 hz0 hz1 hz2 _ L5 rfl HOF.out w6.heap.size _ (turnL key dat) dat.length _ rfl HLL.out.symm HRH.out (by rw [HLL.out]; omega) hqs6 ?_; intro A7 c7 L7 w7 hL7 ho7 hb7))
          go_ret
          have e : L7 = (Pc.mk fin op mask key dat).put := by rw [hL7.out, HP2.out]
          subst e
          exact ⟨A7, c7, rfl, ho7.mono (Nat.le_trans HPP.out (Nat.le_of_lt HPQ.out)), (HB8.out.trans (hb7.mono (Nat.le_of_lt HPQ.out))).mono HPP.out⟩
  · have e : (Pc.mk fin op mask key dat).putL = [] := if_neg hm
    rw [e]
    rw [decide_eq_false hm] at hmay
    clear e hm
    go_enter Tryd.func9, Tryd.ntmps9
    go_wp2_with (first
      | (refine wpList_ld rfl _ rfl rfl HRx.out (pc_ok _ _ _ _ _ _ _) ?_)
      | (go_at_call 10; refine (hmay _).mono ?_; rintro e w' ⟨rfl, hb2⟩))
    go_ret
    exact ⟨none, 0, rfl, OwB.nil, HBx.out.trans (hb2.mono HBx.out.size)⟩
end Go.Proofs.YtffgjnohlcodaaaDoor
