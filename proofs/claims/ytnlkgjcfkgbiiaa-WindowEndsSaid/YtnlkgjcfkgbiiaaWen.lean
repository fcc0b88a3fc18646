/-
  WindowEnds: the law's walk. Condition: the operations are read.
-/
import Derived.Test.YtnlkgjcfkgbiiaaWfx
import Derived.Test.YtnlkgjcfkgbiiaaWop
namespace Go.Proofs.Ytnlkgjcfkgbiiaa
open Go.RowKit Go.WideShapes

/-- Both ends: the window's is the meter's. -/
structure EnI (w wr : World) (gw gm : Nat) (z l u : Int) : Prop where
  r : Row wr gw 63 (wnc l 2)
  m : Row wr gm 68 (mtc z l 2 u)
  ok : MtOk z l u
  hb : Below w.heap.size w wr
  wl : w.heap.size ≤ gw
  ml : w.heap.size ≤ gm
  ne : gw ≠ gm
theorem EnI.below {w wr w' : World} {gw gm : Nat} {z l u : Int} (h : EnI w wr gw gm z l u) (hb : Below wr.heap.size wr w') : EnI w w' gw gm z l u := ⟨h.r.below hb h.r.lt, h.m.below hb h.m.lt, h.ok, h.hb.trans (hb.mono h.hb.size), h.wl, h.ml, h.ne⟩
theorem EnI.both {w wr w1 w2 : World} {gw gm : Nat} {z l u l' u' : Int} (h : EnI w wr gw gm z l u) (h1 : Row w1 gw 63 (wnc l' 2)) (f1 : Fs (fun k => k = gw) wr w1) (h2 : Row w2 gm 68 (mtc z l' 2 u')) (f2 : Fs (fun k => k = gm) w1 w2) (ok : MtOk z l' u') : EnI w w2 gw gm z l' u' :=
  ⟨f2.row h.ne h1, h2, ok, (h.hb.trans (fs_below f1 h.wl h.hb.size)).trans (fs_below f2 h.ml (Nat.le_trans h.hb.size f1.size)), h.wl, h.ml, h.ne⟩
theorem EnI.both' {w wr w1 w2 : World} {gw gm : Nat} {z l u l' u' : Int} (h : EnI w wr gw gm z l u) (h1 : Row w1 gm 68 (mtc z l' 2 u')) (f1 : Fs (fun k => k = gm) wr w1) (h2 : Row w2 gw 63 (wnc l' 2)) (f2 : Fs (fun k => k = gw) w1 w2) (ok : MtOk z l' u') : EnI w w2 gw gm z l' u' :=
  ⟨h2, f2.row (fun e => h.ne e.symm) h1, ok, (h.hb.trans (fs_below f1 h.ml h.hb.size)).trans (fs_below f2 h.wl (Nat.le_trans h.hb.size f1.size)), h.wl, h.ml, h.ne⟩
attribute [local irreducible] wnc rwc mtc rmc btw ftc useN halfM usU
set_option maxRecDepth 100000 in
set_option maxHeartbeats 4000000 in
theorem ends_law {w : World} {A : Option Addr} {c : Nat} {O : List Op10} (hR : RdS w (· < w.heap.size) A (enl oc10 O)) {x : Int} (hx : 0 ≤ x ∧ x ≤ 4294967295) :
    Calls Try.prog 5 #[.int .u32 x, .slice A O.length c] w fun e w' => e = .returned (.bool true) ∧ Below w.heap.size w w' := by
  have HR := Lib.hid hR
  clear hR
  by_cases hlen : 500 < O.length
  · have h' : (500 : Int) < (O.length : Int) := by omega
    clear HR hlen
    go_enter Try.func5, Try.ntmps5
    go_wp2_with fail
    refine (fixed_any _).mono ?_
    rintro e w1 ⟨rfl, hb⟩
    have HB2 := Lib.hid hb
    clear hb
    go_wp2
    go_ret
    exact ⟨rfl, HB2.out⟩
  have h' : decide ((500 : Int) < (O.length : Int)) = false := by simp; omega
  have h500 : O.length ≤ 500 := by omega
  clear hlen
  have hz : 0 ≤ min x 2147483647 ∧ min x 2147483647 ≤ 2147483647 := by omega
  obtain ⟨z, hzz⟩ : ∃ z, min x 2147483647 = z := ⟨_, rfl⟩
  rw [hzz] at hz
  have hbz : btw z = z := by unfold btw; omega
  have HW := Lib.hid (fun W => wnew_any z true W)
  have HM := Lib.hid (fun W => mof_any (n := z) (by omega) true W)
  rw [hbz] at HW HM
  have HZ := Lib.hid hz
  have hwz : IntKind.i64.wrap z = z := IntWalk.i64_in _ (by omega)
  clear hz hx hbz
  go_enter Try.func5, Try.ntmps5
  go_wp2_with fail
  refine (HW.out _).mono ?_
  rintro e w1 ⟨gw, rfl, hr1, hb1, hg1⟩
  have HR1 : Hid (Row w1 gw 63 (wnc z 2)) := hr1
  have HB1 := Lib.hid hb1
  have HG1 := Lib.hid hg1
  clear hr1 hb1 hg1 HW hwz
  go_wp2_with fail
  refine (HM.out _).mono ?_
  rintro e w2 ⟨gm, rfl, hr2, hb2, hg2⟩
  have HI : Hid (EnI w w2 gw gm z z 0) := by
    have h1 := HR1.out.lt
    have h2 := HB1.out.size
    have h3 := HZ.out
    exact ⟨HR1.out.below hb2 h1, hr2, ⟨h3.1, by omega, by omega, h3.2⟩, HB1.out.trans (hb2.mono h2), HG1.out, by omega, by omega⟩
  clear hr2 hb2 hg2 HR1 HB1 HG1 HM h' hzz
  go_upto_region 7 with fail
  go_loopw [24] (fun i wr => ∃ (k : Nat) (l u : Int), k ≤ O.length ∧ i = .int .i64 k ∧ Hid (EnI w wr gw gm z l u))
    (fun i _ => O.length - (intOf i).toNat)
  case atStart => exact ⟨0, z, 0, Nat.zero_le _, rfl, HI⟩
  case round =>
    clear HI
    obtain ⟨k, l, u, hk, rfl, HI⟩ := hrel
    by_cases hlt : k < O.length
    · obtain ⟨b, q, rfl, hb, f0, f1, f2, f3⟩ := (HR.out.below HI.out.hb).op10 hlt
      generalize O[k].kd = kd at *
      generalize O[k].n = n at *
      generalize O[k].x = ox at *
      generalize O[k].y = oy at *
      have k0 : (0 : Int) ≤ (k : Int) := by omega
      have k1 : (k : Int) < (O.length : Int) := by omega
      have HO := Lib.hid (Row.new wr 31 #[.int .i64 kd, .int .i64 n, .int .u32 ox, .int .u32 oy])
      have HI1 := Lib.hid (HI.out.below ((Below.refl _ _).alloc (Nat.le_refl _) (.cells #[.int .i64 kd, .int .i64 n, .int .u32 ox, .int .u32 oy] 31)))
      clear hb HI
      go_upto_region 9 with fail
      clear f0 f1 f2 f3
      generalize wr.alloc (.cells #[.int .i64 kd, .int .i64 n, .int .u32 ox, .int .u32 oy] 31) = w5 at *
      generalize wr.heap.size = p at *
      have o0 := HO.out.cell (j := 0) (v := .int .i64 kd) rfl
      have o1 := HO.out.cell (j := 1) (v := .int .i64 n) rfl
      by_cases hkd : kd = 0
      · subst hkd
        by_cases hm : mayT l n
        · have ok := HI1.out.ok
          have htk := take_yesw HI1.out.r (by have := ok.l0; have := ok.u0; have := ok.le; have := ok.zz; omega) hm
          have hmx : max n 0 = n := by unfold mayT at hm; omega
          have ok2 : MtOk z (l - n) u := by
            have := ok.l0; have := ok.u0; have := ok.le; have := ok.zz
            unfold mayT at hm
            exact ⟨by omega, by omega, by omega, by omega⟩
          have hco := fun (W : World) (hW : Row W gm 68 (mtc z l 2 u)) => come_yes hW ok (n := n) (by unfold mayT at hm; have := ok.l0; omega)
          rw [hmx] at hco
          have HTK := Lib.hid htk
          have HCO := Lib.hid hco
          have HOK := Lib.hid ok2
          have e1 := ft_n00
          clear hm hmx ok ok2 htk hco
          go_wp2_with fail
          refine HTK.out.mono ?_
          rintro e w6 ⟨rfl, hr, hf⟩
          have HR6 := Lib.hid hr
          have HF6 := Lib.hid hf
          have HM6 := Lib.hid (hf.row (fun e => HI1.out.ne e.symm) HI1.out.m)
          have hpg : p ≠ gw := fun e => by
            have h0 := HO.out
            have h1 := HI1.out.r
            rw [e] at h0
            have h2 := h0.symm.trans h1
            unfold wnc at h2
            simp at h2
          have o2 := (hf.row (S := fun k => k = gw) hpg HO.out).cell (j := 1) (v := .int .i64 n) rfl
          clear hr hf HTK o0 o1 hpg HO
          go_wp2_with fail
          refine (HCO.out _ HM6.out).mono ?_
          rintro e w7 ⟨rfl, hr, hf⟩
          have HI7 := Lib.hid (HI1.out.both HR6.out HF6.out hr hf HOK.out)
          clear hr hf HCO HM6 HF6 HR6 HI1 o2 HOK
          go_wp2_with fail
          refine (left_any HI7.out.r).mono ?_
          rintro e wq ⟨rfl, rfl⟩
          go_wp2_with fail
          refine (mleft_any HI7.out.m).mono ?_
          rintro e wq ⟨rfl, rfl⟩
          clear e1
          go_wp2_with fail
          go_roundw
          case rel => exact ⟨k + 1, _, _, by omega, by go_num, HI7⟩
          case measure => simp [intOf]; omega
        · have HTK := Lib.hid (take_now HI1.out.r hm)
          clear hm
          go_wp2_with fail
          refine HTK.out.mono ?_
          rintro e wq ⟨rfl, rfl⟩
          clear HTK o0 o1 HO
          go_wp2_with fail
          go_roundw
          case rel => exact ⟨k + 1, l, u, by omega, by go_num, HI1⟩
          case measure => simp [intOf]; omega
      · have ek : (kd == 0) = false := beq_eq_false_iff_ne.2 hkd
        clear hkd
        have ok := HI1.out.ok
        have hus := use_any HI1.out.m ok n
        unfold UsePost at hus
        have hin := usU_in ok n
        by_cases hU : usU z l u n < halfM z
        · rw [useN_keep hU] at hus
          have ok2 : MtOk z l (usU z l u n) := ⟨ok.l0, by have := ok.u0; omega, by omega, ok.zz⟩
          generalize usU z l u n = U at *
          have HUS := Lib.hid hus
          have HOK := Lib.hid ok2
          clear hU hus ok ok2 hin
          go_wp2_with fail
          refine HUS.out.mono ?_
          rintro e w6 ⟨rfl, hr, hf⟩
          have HI7 : Hid (EnI w w6 gw gm z l U) := ⟨hf.row HI1.out.ne HI1.out.r, hr, HOK.out, HI1.out.hb.trans (fs_below hf HI1.out.ml HI1.out.hb.size), HI1.out.wl, HI1.out.ml, HI1.out.ne⟩
          clear hr hf HI1 HUS HOK o0 o1 HO
          go_wp2_with fail
          refine (left_any HI7.out.r).mono ?_
          rintro e wq ⟨rfl, rfl⟩
          go_wp2_with fail
          refine (mleft_any HI7.out.m).mono ?_
          rintro e wq ⟨rfl, rfl⟩
          go_wp2_with fail
          go_roundw
          case rel => exact ⟨k + 1, l, U, by omega, by go_num, HI7⟩
          case measure => simp [intOf]; omega
        · rw [useN_tell hU] at hus
          have hU0 : 0 < usU z l u n := by have := half_pos z; omega
          generalize usU z l u n = U at *
          have hl0 := ok.l0
          have hle := ok.le
          have hzz := ok.zz
          have ok2 : MtOk z (l + U) 0 := ⟨by omega, by omega, by omega, ok.zz⟩
          have hgr := fun (W : World) (hW : Row W gw 63 (wnc l 2)) => grow_yesw hW (by omega) (n := U) (by omega) (by omega)
          rw [show max (l + U) (-2147483648) = l + U by omega] at hgr
          have HUS := Lib.hid hus
          have HOK := Lib.hid ok2
          have HGR := Lib.hid hgr
          have e1 := ft_n00
          clear hU hus ok ok2 hin hl0 hle hzz hgr
          go_wp2_with fail
          refine HUS.out.mono ?_
          rintro e w6 ⟨rfl, hr, hf⟩
          have HR6 := Lib.hid hr
          have HF6 := Lib.hid hf
          have HW6 := Lib.hid (hf.row HI1.out.ne HI1.out.r)
          clear hr hf HUS o0 o1 HO
          go_wp2_with fail
          refine (HGR.out _ HW6.out).mono ?_
          rintro e w7 ⟨rfl, hr, hf⟩
          have HI7 := Lib.hid (HI1.out.both' HR6.out HF6.out hr hf HOK.out)
          clear hr hf HGR HW6 HF6 HR6 HI1 HOK
          go_wp2_with fail
          refine (left_any HI7.out.r).mono ?_
          rintro e wq ⟨rfl, rfl⟩
          go_wp2_with fail
          refine (mleft_any HI7.out.m).mono ?_
          rintro e wq ⟨rfl, rfl⟩
          clear e1
          go_wp2_with fail
          go_roundw
          case rel => exact ⟨k + 1, _, _, by omega, by go_num, HI7⟩
          case measure => simp [intOf]; omega
    · go_wp2_with fail
      refine (fixed_any _).mono ?_
      rintro e w7 ⟨rfl, hb7⟩
      have HB7 := Lib.hid (HI.out.hb.trans (hb7.mono HI.out.hb.size))
      clear hb7 HI
      go_wp2_with fail
      go_ret
      exact ⟨rfl, HB7.out⟩
end Go.Proofs.Ytnlkgjcfkgbiiaa
