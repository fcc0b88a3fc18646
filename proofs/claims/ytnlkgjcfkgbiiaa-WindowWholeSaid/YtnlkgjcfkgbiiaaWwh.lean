/-
  WindowWhole: the law's walk. Condition: the numbers are read.
-/
import Derived.Test.YtnlkgjcfkgbiiaaWfx
import Derived.Test.YtnlkgjcfkgbiiaaWop
namespace Go.Proofs.Ytnlkgjcfkgbiiaa
open Go.RowKit Go.WideShapes

/-- The meter, when all that came is used up. -/
structure WhI (w wr : World) (g : Nat) (z u : Int) : Prop where
  r : Row wr g 68 (mtc z (z - u) 1 u)
  hb : Below w.heap.size w wr
  gl : w.heap.size ≤ g
theorem WhI.below {w wr w' : World} {g : Nat} {z u : Int} (h : WhI w wr g z u) (hb : Below wr.heap.size wr w') : WhI w w' g z u := ⟨h.r.below hb h.r.lt, h.hb.trans (hb.mono h.hb.size), h.gl⟩
theorem half_le {z u : Int} (h : u < halfM z) (hz : 0 ≤ z) : u ≤ z / 2 := by unfold halfM at h; omega
theorem whole_use {z u n : Int} (hu : 0 ≤ u ∧ u < halfM z) (hn : 0 ≤ n) : ∃ u', (0 ≤ u' ∧ u' < halfM z) ∧ (useN z (z - u - n) u n).2.1 = z - u' ∧ (useN z (z - u - n) u n).2.2 = u' := by
  have hU : usU z (z - u - n) u n = u + n := by unfold usU; omega
  by_cases h : u + n < halfM z
  · refine ⟨u + n, ⟨by omega, h⟩, ?_⟩
    rw [useN_keep (by rw [hU]; exact h), hU]
    exact ⟨by show z - u - n = _; omega, rfl⟩
  · refine ⟨0, ⟨by omega, half_pos z⟩, ?_⟩
    rw [useN_tell (by rw [hU]; exact h), hU]
    exact ⟨by show z - u - n + (u + n) = _; omega, rfl⟩
attribute [local irreducible] wnc rwc mtc rmc btw ftc useN halfM
set_option maxRecDepth 100000 in
set_option maxHeartbeats 4000000 in
theorem whole_law {w : World} {A : Option Addr} {c : Nat} {O : List N16} (hR : RdS w (· < w.heap.size) A (enl nc16 O)) {x : Int} (hx : 0 ≤ x ∧ x ≤ 4294967295) :
    Calls Try.prog 8 #[.int .u32 x, .slice A O.length c] w fun e w' => e = .returned (.bool true) ∧ Below w.heap.size w w' := by
  have HR := Lib.hid hR
  clear hR
  by_cases hlen : 2000 < O.length
  · have h' : (2000 : Int) < (O.length : Int) := by omega
    clear HR hlen
    go_enter Try.func8, Try.ntmps8
    go_wp2_with fail
    refine (fixed_any _).mono ?_
    rintro e w1 ⟨rfl, hb⟩
    have HB2 := Lib.hid hb
    clear hb
    go_wp2
    go_ret
    exact ⟨rfl, HB2.out⟩
  have h' : decide ((2000 : Int) < (O.length : Int)) = false := by simp; omega
  have h2000 : O.length ≤ 2000 := by omega
  clear hlen
  have hz := btw_in x
  have hz0 : 0 ≤ btw x := by unfold btw; omega
  have HN := Lib.hid (fun W => mof_any hx false W)
  generalize btw x = z at *
  have hq : z.tdiv 2 = z / 2 := Int.tdiv_eq_ediv_of_nonneg hz0
  have hwq : IntKind.i64.wrap (z / 2) = z / 2 := IntWalk.i64_in _ (by omega)
  have HZ : Hid (0 ≤ z ∧ z ≤ 2147483647) := ⟨hz0, hz.2⟩
  clear hz hz0
  go_enter Try.func8, Try.ntmps8
  go_wp2_with fail
  refine (HN.out _).mono ?_
  rintro e w1 ⟨g, rfl, hr, hb, hg⟩
  have HI : Hid (WhI w w1 g z 0) := ⟨by rw [Int.sub_zero]; exact hr, hb, hg⟩
  clear hr hb hg HN
  have hl0 := mleft_any HI.out.r
  rw [Int.sub_zero] at hl0
  go_wp2_with fail
  refine hl0.mono ?_
  rintro e wq ⟨rfl, rfl⟩
  clear hl0 h'
  go_upto_region 6 with fail
  go_loopw [19] (fun i wr => ∃ (k : Nat) (u : Int), k ≤ O.length ∧ i = .int .i64 k ∧ (0 ≤ u ∧ u < halfM z) ∧ Hid (WhI w wr g z u))
    (fun i _ => O.length - (intOf i).toNat)
  case atStart => exact ⟨0, 0, Nat.zero_le _, rfl, ⟨by omega, half_pos z⟩, HI⟩
  case round =>
    clear HI
    obtain ⟨k, u, hk, rfl, hu, HI⟩ := hrel
    by_cases hlt : k < O.length
    · obtain ⟨b, q, rfl, hb, f0⟩ := (HR.out.below HI.out.hb).n16 hlt
      have hnv := O[k].hv
      generalize O[k].v = n at *
      have k0 : (0 : Int) ≤ (k : Int) := by omega
      have k1 : (k : Int) < (O.length : Int) := by omega
      have hwn : IntKind.i64.wrap n = n := IntWalk.i64_in _ (by omega)
      have hmt : MtOk z (z - u) u := by have := HZ.out; have := half_le hu.2 this.1; exact ⟨by omega, by omega, by omega, by omega⟩
      by_cases hc : z - u < max n 0
      · have hco := come_no HI.out.r hmt hc
        have e1 := ft_n13
        have HU := Lib.hid hu
        clear hc hmt hnv hu hb
        go_wp2_with fail
        refine hco.mono ?_
        rintro e w2 ⟨rfl, hb2⟩
        have HI2 := Lib.hid (HI.out.below hb2)
        clear hb2 HI hco f0
        go_wp2_with fail
        go_roundw
        case rel => exact ⟨k + 1, u, by omega, by go_num, HU.out, HI2⟩
        case measure => simp [intOf]; omega
      · have hco := come_yes HI.out.r hmt hc
        obtain ⟨u', hu', ha, hb'⟩ := whole_use (z := z) (n := n) hu (by omega)
        have hmn : max n 0 = n := by omega
        rw [hmn] at hco
        have hmt2 : MtOk z (z - u - n) u := by have := HZ.out; have := half_le hu.2 this.1; exact ⟨by omega, by omega, by omega, by omega⟩
        have hus := fun (W : World) (h : Row W g 68 (mtc z (z - u - n) 1 u)) => use_any h hmt2 n
        unfold UsePost at hus
        rw [ha, hb'] at hus
        have HUS := Lib.hid hus
        have hmt3 : MtOk z (z - u') u' := by have := HZ.out; have := half_le hu'.2 this.1; exact ⟨by omega, by omega, by omega, by omega⟩
        have HOW := Lib.hid (fun (W : World) (h : Row W g 68 (mtc z (z - u') 1 u')) => mowed_any h hmt3)
        have hle := half_le hu'.2 HZ.out.1
        have e1 := ft_n00
        have HU := Lib.hid hu'
        have hz1 : z - (z - u') - u' = 0 := by omega
        have hz2 : z - (z - u') = u' := by omega
        have hwu : IntKind.i64.wrap u' = u' := IntWalk.i64_in _ (by have := HZ.out; omega)
        have dz : decide (z / 2 < u') = false := by simp; omega
        clear hc hmt hnv hu hb hmt2 hmt3 hus hu' ha hb' hle hmn
        go_wp2_with fail
        refine hco.mono ?_
        rintro e w2 ⟨rfl, hr, hf⟩
        have HR2 := Lib.hid hr
        have HB2 := Lib.hid (HI.out.hb.trans (fs_below hf HI.out.gl HI.out.hb.size))
        have HGL := Lib.hid HI.out.gl
        clear hr hf HI hco f0
        go_wp2_with fail
        refine (HUS.out _ HR2.out).mono ?_
        rintro e w3 ⟨rfl, hr, hf⟩
        have HI3 : Hid (WhI w w3 g z u') := ⟨hr, HB2.out.trans (fs_below hf HGL.out HB2.out.size), HGL.out⟩
        clear hr hf HUS HB2 HGL HR2
        go_wp2_with fail
        refine (HOW.out _ HI3.out.r).mono ?_
        rintro e w4 ⟨rfl, hb4⟩
        have HI4 := Lib.hid (HI3.out.below hb4)
        clear hb4 HI3 HOW
        go_wp2_with fail
        refine (mleft_any HI4.out.r).mono ?_
        rintro e wq ⟨rfl, rfl⟩
        go_wp2_with fail
        go_roundw
        case rel => exact ⟨k + 1, u', by omega, by go_num, HU.out, HI4⟩
        case measure => simp [intOf]; omega
    · go_wp2_with fail
      refine (fixed_any _).mono ?_
      rintro e w7 ⟨rfl, hb7⟩
      have HB7 := Lib.hid (HI.out.hb.trans (hb7.mono HI.out.hb.size))
      clear hb7 HI
      go_wp2_with fail
      go_ret
      exact ⟨rfl, HB7.out⟩
end Go.Proofs.Ytnlkgjcfkgbiiaa
