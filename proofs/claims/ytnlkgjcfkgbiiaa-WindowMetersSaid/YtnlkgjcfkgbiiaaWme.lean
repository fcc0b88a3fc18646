/-
  WindowMeters: the law's walk. Condition: the operations are read.
-/
import Derived.Test.YtnlkgjcfkgbiiaaWfx
import Derived.Test.YtnlkgjcfkgbiiaaWop
import Derived.Test.YtnlkgjcfkgbiiaaWru
namespace Go.Proofs.Ytnlkgjcfkgbiiaa
open Go.RowKit Go.WideShapes

/-- Blocks of two types are two. -/
theorem Row.ne {w : World} {g g' : Nat} {t t' : TypeId} {cs cs' : Array Value} (h : Row w g t cs) (h' : Row w g' t' cs') (ht : t ≠ t') : g ≠ g' := by
  rintro rfl
  have h2 := h.symm.trans h'
  simp at h2
  exact ht h2.2
/-- The meter, the document's, the fault that is wanted. -/
structure MeI (w wr : World) (g p p9 : Nat) (z l u o : Int) (s : Nat) : Prop where
  r : Row wr g 68 (mtc z l s u)
  m : Row wr p 46 (rmc z l o u)
  f : Row wr p9 33 (ftc s 3)
  ok : MtOk z l u
  oo : o = z - l - u
  hb : Below w.heap.size w wr
  gl : w.heap.size ≤ g
  pl : w.heap.size ≤ p
section
variable {w wr w' : World} {g p p9 : Nat} {z l u o l' u' o' : Int} {s : Nat}
theorem MeI.below (h : MeI w wr g p p9 z l u o s) (hb : Below wr.heap.size wr w') : MeI w w' g p p9 z l u o s := ⟨h.r.below hb h.r.lt, h.m.below hb h.m.lt, h.f.below hb h.f.lt, h.ok, h.oo, h.hb.trans (hb.mono h.hb.size), h.gl, h.pl⟩
theorem MeI.ne (h : MeI w wr g p p9 z l u o s) : g ≠ p := h.r.ne h.m (by decide)
theorem MeI.nf (h : MeI w wr g p p9 z l u o s) : g ≠ p9 := h.r.ne h.f (by decide)
theorem MeI.pf (h : MeI w wr g p p9 z l u o s) : p ≠ p9 := h.m.ne h.f (by decide)
/-- The document's is stored anew, then the meter is what that is. -/
theorem MeI.next (h : MeI w wr g p p9 z l u o s) (hr : Row w' g 68 (mtc z l' s u')) (hf : Fs (fun k => k = g) (wr.setRow p (rmc z l' o' u')) w') (ok : MtOk z l' u') (oo : o' = z - l' - u') : MeI w w' g p p9 z l' u' o' s :=
  ⟨hr, hf.row (fun e => h.ne e.symm) (h.m.setRow _), hf.row (fun e => h.nf e.symm) (h.f.setRow' (fun e => h.pf e.symm) _), ok, oo, (below_setRow h.hb p _ h.pl).trans (fs_below hf h.gl (by have := h.hb.size; simpa using this)), h.gl, h.pl⟩
theorem MeI.same (h : MeI w wr g p p9 z l u o s) : MeI w (wr.setRow p (rmc z l o u)) g p p9 z l u o s := ⟨h.r.setRow' h.ne _, h.m.setRow _, h.f.setRow' (fun e => h.pf e.symm) _, h.ok, h.oo, below_setRow h.hb p _ h.pl, h.gl, h.pl⟩
theorem MeI.owed (h : MeI w wr g p p9 z l u o s) : Calls Try.prog 25 #[.pointer (some ⟨g, 0, none⟩)] wr fun e w' => e = .returned (.int .i64 o) ∧ Below wr.heap.size wr w' := by
  rw [h.oo]
  exact mowed_any h.r h.ok
theorem MeI.cells (h : MeI w wr g p p9 z l u o s) : wr.cell? ⟨p, 0, none⟩ = some (.int .i64 z) ∧ wr.cell? ⟨p, 1, none⟩ = some (.int .i64 l) ∧ wr.cell? ⟨p, 2, none⟩ = some (.int .i64 o) := ⟨(rm_cells h.m).1, (rm_cells h.m).2.1, (rm_cells h.m).2.2.1⟩
end
theorem one_rm (w : World) (z l o u : Int) : ∃ w', (w.alloc (.cells #[.int .i64 0, .int .i64 0, .int .i64 0, .int .i64 0] 46)).setRow w.heap.size (rmc z l o u) = w' ∧ Row (w.alloc (.cells #[.int .i64 0, .int .i64 0, .int .i64 0, .int .i64 0] 46)) w.heap.size 46 (rmc 0 0 0 0) ∧ Row w' w.heap.size 46 (rmc z l o u) ∧ Below w.heap.size w w' := by
  have h1 : Row (w.alloc (.cells #[.int .i64 0, .int .i64 0, .int .i64 0, .int .i64 0] 46)) w.heap.size 46 (rmc 0 0 0 0) := Row.new w _ _
  exact ⟨_, rfl, h1, h1.setRow _, below_setRow ((Below.refl _ _).alloc (Nat.le_refl _) _) _ _ (by omega)⟩
theorem ft_nrefl (s c : Nat) (w : World) : (binOp .neq 33 (.agg (ftc s c)) (.agg (ftc s c))).run Try.prog w = .ok (.bool false) w := by rw [ft_neq, decide_eq_true rfl, decide_eq_true rfl]; rfl
theorem useN_ok {z l u : Int} (hk : MtOk z l u) (n : Int) : MtOk z (useN z l u n).2.1 (useN z l u n).2.2 ∧ 0 ≤ (useN z l u n).1 ∧ (useN z l u n).1 ≤ z := by
  have h := usU_in hk n
  have h1 := hk.l0
  have h2 := hk.u0
  have h3 := hk.le
  have h4 := hk.zz
  by_cases hU : usU z l u n < halfM z
  · rw [useN_keep hU]
    exact ⟨⟨h1, by show 0 ≤ usU z l u n; omega, by show l + usU z l u n ≤ z; omega, h4⟩, by show (0 : Int) ≤ 0; omega, by show (0 : Int) ≤ z; omega⟩
  · rw [useN_tell hU]
    exact ⟨⟨by show 0 ≤ l + usU z l u n; omega, by show (0 : Int) ≤ 0; omega, by show l + usU z l u n + 0 ≤ z; omega, h4⟩, by show 0 ≤ usU z l u n; omega, by show usU z l u n ≤ z; omega⟩
attribute [local irreducible] wnc rwc mtc rmc btw ftc useN halfM usU sco
set_option maxRecDepth 100000 in
set_option maxHeartbeats 8000000 in
theorem meters_law {w : World} {A : Option Addr} {c : Nat} {O : List Op10} (hR : RdS w (· < w.heap.size) A (enl oc10 O)) {x : Int} (hx : 0 ≤ x ∧ x ≤ 4294967295) (b : Bool) :
    Calls Try.prog 4 #[.int .u32 x, .bool b, .slice A O.length c] w fun e w' => e = .returned (.bool true) ∧ Below w.heap.size w w' := by
  have HR := Lib.hid hR
  clear hR
  by_cases hlen : 500 < O.length
  · have h' : (500 : Int) < (O.length : Int) := by omega
    clear HR hlen
    go_enter Try.func4, Try.ntmps4
    go_wp2_with fail
    refine (fixed_any _).mono ?_
    rintro e w1 ⟨rfl, hb⟩
    have HB2 := Lib.hid hb
    clear hb
    go_wp2
    go_ret
    exact ⟨rfl, HB2.out⟩
  have h' : decide ((500 : Int) < (O.length : Int)) = false := by simp; omega
  have h500 : O.length ≤ 500 := by omega
  clear hlen
  have hz := btw_in x
  have HZ : Hid (MtOk (btw x) (btw x) 0) := ⟨by unfold btw; omega, by omega, by omega, by omega⟩
  have HW := Lib.hid (fun W => mof_any hx b W)
  have HM := Lib.hid (fun W => rmof_any hx W)
  generalize btw x = z at *
  obtain ⟨s, hs⟩ : ∃ s, sco b = s := ⟨_, rfl⟩
  rw [hs] at HW
  have HSB : Hid ((b = true ∧ s = 2) ∨ (b = false ∧ s = 1)) := by
    subst hs
    cases b
    · exact .inr ⟨rfl, by unfold sco; rfl⟩
    · exact .inl ⟨rfl, by unfold sco; rfl⟩
  clear hz hx hs
  go_enter Try.func4, Try.ntmps4
  go_wp2_with fail
  refine (HW.out _).mono ?_
  rintro e w1 ⟨g, rfl, hr1, hb1, hg1⟩
  have HR1 := Lib.hid hr1
  have HB1 := Lib.hid hb1
  have HG1 := Lib.hid hg1
  clear hr1 hb1 hg1 HW h'
  go_wp2_with fail
  refine (HM.out _).mono ?_
  rintro e w2 ⟨rfl, hb2⟩
  obtain ⟨w3, hw3, t1, t2, t3⟩ := one_rm w2 z z 0 0
  have T1 := Lib.hid t1
  have T7 := Lib.hid hw3
  have HP3 := Lib.hid t2
  have hb3 := hb2.trans (t3.mono hb2.size)
  have HR3 := Lib.hid (HR1.out.below hb3 HR1.out.lt)
  have HB3 := Lib.hid (HB1.out.trans (hb3.mono HB1.out.size))
  have HPL : Hid (w.heap.size ≤ w2.heap.size) := Nat.le_trans HB1.out.size hb2.size
  clear hb2 hb3 HR1 HB1 HM hw3 t1 t2 t3
  go_upto_region 5 with (refine wpList_sw (cs := rmc z z 0 0) rfl _ _ rfl rfl rfl T1.out (rm_sz _ _ _ _ _ _ _ _) (rm_ok _ _ _ _) ?_)
  rw [T7.out]
  clear T1 T7
  generalize w2.heap.size = p at *
  obtain ⟨w4, hw4, t1, t2, t3⟩ := one_fault w3 1 3
  have T1 := Lib.hid t1
  have T7 := Lib.hid hw4
  have HT4 := Lib.hid t2
  have HR4 := Lib.hid (HR3.out.below t3 HR3.out.lt)
  have HP4 := Lib.hid (HP3.out.below t3 HP3.out.lt)
  have HB4 := Lib.hid (HB3.out.trans (t3.mono HB3.out.size))
  have HFL : Hid (w.heap.size ≤ w3.heap.size) := HB3.out.size
  clear HR3 HP3 HB3 hw4 t1 t2 t3
  go_upto_region 6 with (refine wpList_sw (cs := ftc 1 3) rfl _ _ rfl rfl (by unfold ftc; rfl) T1.out (ft_sz _ _ _ _) (ft_ok _ _) ?_)
  rw [T7.out]
  clear T1 T7
  generalize w3.heap.size = p9 at *
  go_upto_if 27 with fail
  go_cut [] (fun wx => Hid (MeI w wx g p p9 z z 0 0 s))
  case first =>
    rcases HSB.out with ⟨h1, h2⟩ | ⟨h1, h2⟩
    · subst h1 h2
      have hth := HT4.out.thawed 0
      have c9 : w4.cell? ⟨p9, 0, none⟩ = some (.int .u8 (1 : Nat)) := HT4.out.cell (by unfold ftc; rfl)
      have HI : Hid (MeI w (w4.setCell ⟨p9, 0, none⟩ (.int .u8 2)) g p p9 z z 0 0 2) :=
        ⟨HR4.out.stored' (HR4.out.ne HT4.out (by decide)) _, HP4.out.stored' (HP4.out.ne HT4.out (by decide)) _, ft_sets (s' := 2) HT4.out, HZ.out, by omega, HB4.out.setCell HFL.out _, HG1.out, HPL.out⟩
      clear HSB HR4 HP4 HT4 HB4
      go_wp2_with fail
      go_meet
      exact HI
    · subst h1 h2
      have HI : Hid (MeI w w4 g p p9 z z 0 0 1) := ⟨HR4.out, HP4.out, HT4.out, HZ.out, by omega, HB4.out, HG1.out, HPL.out⟩
      clear HSB HR4 HP4 HT4 HB4
      go_wp2_with fail
      go_meet
      exact HI
  case rest =>
  have HI := hcut
  clear hcut HR4 HP4 HT4 HB4
  generalize wc = w5 at *
  go_upto_region 9 with fail
  go_loopw [31] (fun i wr => ∃ (k : Nat) (l u o : Int), k ≤ O.length ∧ i = .int .i64 k ∧ Hid (MeI w wr g p p9 z l u o s))
    (fun i _ => O.length - (intOf i).toNat)
  case atStart => exact ⟨0, z, 0, 0, Nat.zero_le _, rfl, HI⟩
  case round =>
    clear HI
    obtain ⟨k, l, u, o, hk, rfl, HI⟩ := hrel
    by_cases hlt : k < O.length
    · obtain ⟨bb, q, rfl, hb, f0, f1, f2, f3⟩ := (HR.out.below HI.out.hb).op10 hlt
      generalize O[k].kd = kd at *
      generalize O[k].n = n at *
      generalize O[k].x = ox at *
      generalize O[k].y = oy at *
      have k0 : (0 : Int) ≤ (k : Int) := by omega
      have k1 : (k : Int) < (O.length : Int) := by omega
      have HO := Lib.hid (Row.new wr 31 #[.int .i64 kd, .int .i64 n, .int .u32 ox, .int .u32 oy])
      have HI1 := Lib.hid (HI.out.below ((Below.refl _ _).alloc (Nat.le_refl _) (.cells #[.int .i64 kd, .int .i64 n, .int .u32 ox, .int .u32 oy] 31)))
      clear hb HI
      go_upto_region 11 with fail
      clear f0 f1 f2 f3
      generalize wr.alloc (.cells #[.int .i64 kd, .int .i64 n, .int .u32 ox, .int .u32 oy] 31) = w6 at *
      generalize wr.heap.size = po at *
      have o0 := HO.out.cell (j := 0) (v := .int .i64 kd) rfl
      have o1 := HO.out.cell (j := 1) (v := .int .i64 n) rfl
      go_upto_if 37 with fail
      go_cut [] (fun wx => ∃ (l' u' o' : Int), Hid (MeI w wx g p p9 z l' u' o' s))
      case first =>
        by_cases hkd : kd = 0
        · subst hkd
          by_cases hm : l < max n 0
          · have hc := fun W => rcome_no (z := z) (o := o) (u := u) hm W
            have hd := fun (W : World) (hW : Row W g 68 (mtc z l s u)) => come_no hW HI1.out.ok hm
            have e1 := ft_nrefl s 3
            have HC := Lib.hid hc
            have HD := Lib.hid hd
            clear hc hd hm o0
            go_wp2_with (refine wpList_ld rfl _ rfl rfl HI1.out.m (rm_ok _ _ _ _) ?_)
            refine (HC.out _).mono ?_
            rintro e w7 ⟨rfl, hb7⟩
            obtain ⟨w8, hw8, t1, t2, t3⟩ := one_rm w7 z l o u
            have T1 := Lib.hid t1
            have T2 := Lib.hid t2
            have T7 := Lib.hid hw8
            have hb8 := hb7.trans (t3.mono hb7.size)
            have HI3 := Lib.hid (HI1.out.below hb8)
            have HO3 := Lib.hid (HO.out.below hb8 HO.out.lt)
            clear hb7 hb8 t1 t2 t3 hw8 HI1 HO HC o1
            go_upto_region 13 with (refine wpList_sw (cs := rmc z l o u) rfl _ _ rfl rfl rfl T1.out (rm_sz _ _ _ _ _ _ _ _) (rm_ok _ _ _ _) ?_)
            rw [T7.out]
            clear T1 T7
            generalize w7.heap.size = pn at *
            have HO4 := Lib.hid (HO3.out.setRow' (k := p) (HO3.out.ne HI3.out.m (by decide)) (rmc z l o u))
            have HG4 := Lib.hid (HI3.out.r.setRow' (k := p) HI3.out.ne (rmc z l o u))
            have HI4 := Lib.hid HI3.out.same
            go_upto_region 14 with (first | (refine wpList_ld rfl _ rfl rfl T2.out (rm_ok _ _ _ _) ?_) | (refine wpList_sw (cs := rmc z l o u) rfl _ _ rfl rfl rfl HI3.out.m (rm_sz _ _ _ _ _ _ _ _) (rm_ok _ _ _ _) ?_))
            have HN := HO3
            clear HI3 HO3 T2
            generalize w8.setRow p (rmc z l o u) = w9 at *
            have o1 := HO4.out.cell (j := 1) (v := .int .i64 n) rfl
            go_wp2_with fail
            refine (HD.out _ HG4.out).mono ?_
            clear HG4
            rintro e wx ⟨rfl, hb⟩
            have HI5 := Lib.hid (HI4.out.below hb)
            clear hb HI4 HN HD HO4 o1
            obtain ⟨wy, hwy, t1, t2, t3⟩ := one_fault wx s 3
            have T1 := Lib.hid t1
            have T2 := Lib.hid t2
            have T7 := Lib.hid hwy
            have HI6 := Lib.hid (HI5.out.below t3)
            clear t1 t2 t3 hwy HI5
            go_upto_region 15 with (refine wpList_sw (cs := ftc s 3) rfl _ _ rfl rfl rfl T1.out (ft_sz _ _ _ _) (ft_ok _ _) ?_)
            rw [T7.out]
            clear T1 T7
            generalize wx.heap.size = pb at *
            go_wp2_with (first | (refine wpList_ldg (by rfl) _ rfl rfl T2.out (ft_ok _ _) ?_) | (refine wpList_ldg (by rfl) _ rfl rfl HI6.out.f (ft_ok _ _) ?_))
            go_meet
            exact ⟨_, _, _, HI6⟩
          · have hc := fun W => rcome_yes HI1.out.ok hm W
            have hd := fun (W : World) (hW : Row W g 68 (mtc z l s u)) => come_yes hW HI1.out.ok hm
            rw [← HI1.out.oo] at hc
            have HNX : Hid (MtOk z (l - max n 0) u) := by
              have h1 := HI1.out.ok.l0
              have h2 := HI1.out.ok.u0
              have h3 := HI1.out.ok.le
              have h4 := HI1.out.ok.zz
              exact ⟨by omega, by omega, by omega, by omega⟩
            obtain ⟨l2, hl2⟩ : ∃ l2, l - max n 0 = l2 := ⟨_, rfl⟩
            rw [hl2] at hc hd HNX
            obtain ⟨o2, ho2⟩ : ∃ o2, o2 = z - l2 - u := ⟨_, rfl⟩
            rw [← ho2] at hc
            have HO2 := Lib.hid ho2
            have e1 := ft_n00
            clear hl2 ho2
            have HC := Lib.hid hc
            have HD := Lib.hid hd
            clear hc hd hm o0
            go_wp2_with (refine wpList_ld rfl _ rfl rfl HI1.out.m (rm_ok _ _ _ _) ?_)
            refine (HC.out _).mono ?_
            rintro e w7 ⟨rfl, hb7⟩
            obtain ⟨w8, hw8, t1, t2, t3⟩ := one_rm w7 z l2 o2 u
            have T1 := Lib.hid t1
            have T2 := Lib.hid t2
            have T7 := Lib.hid hw8
            have hb8 := hb7.trans (t3.mono hb7.size)
            have HI3 := Lib.hid (HI1.out.below hb8)
            have HO3 := Lib.hid (HO.out.below hb8 HO.out.lt)
            clear hb7 hb8 t1 t2 t3 hw8 HI1 HO HC o1
            go_upto_region 13 with (refine wpList_sw (cs := rmc z l2 o2 u) rfl _ _ rfl rfl rfl T1.out (rm_sz _ _ _ _ _ _ _ _) (rm_ok _ _ _ _) ?_)
            rw [T7.out]
            clear T1 T7
            generalize w7.heap.size = pn at *
            have HO4 := Lib.hid (HO3.out.setRow' (k := p) (HO3.out.ne HI3.out.m (by decide)) (rmc z l2 o2 u))
            have HG4 := Lib.hid (HI3.out.r.setRow' (k := p) HI3.out.ne (rmc z l2 o2 u))
            have HI4 := HO3
            go_upto_region 14 with (first | (refine wpList_ld rfl _ rfl rfl T2.out (rm_ok _ _ _ _) ?_) | (refine wpList_sw (cs := rmc z l2 o2 u) rfl _ _ rfl rfl rfl HI3.out.m (rm_sz _ _ _ _ _ _ _ _) (rm_ok _ _ _ _) ?_))
            have HN := Lib.hid (fun (w' : World) (hr : Row w' g 68 (mtc z l2 s u)) (hf : Fs (fun k => k = g) (w8.setRow p (rmc z l2 o2 u)) w') => HI3.out.next (o' := o2) hr hf HNX.out HO2.out)
            clear HI3 HO3 T2
            generalize w8.setRow p (rmc z l2 o2 u) = w9 at *
            have o1 := HO4.out.cell (j := 1) (v := .int .i64 n) rfl
            go_wp2_with fail
            refine (HD.out _ HG4.out).mono ?_
            clear HG4
            rintro e wx ⟨rfl, hr, hf⟩
            have HI5 := Lib.hid (HN.out _ hr hf)
            clear hr hf HI4 HN HD HO4 o1
            obtain ⟨wy, hwy, t1, t2, t3⟩ := one_fault wx 0 0
            have T1 := Lib.hid t1
            have T2 := Lib.hid t2
            have T7 := Lib.hid hwy
            have HI6 := Lib.hid (HI5.out.below t3)
            clear t1 t2 t3 hwy HI5
            go_upto_region 15 with (refine wpList_sw (cs := ftc 0 0) rfl _ _ rfl rfl rfl T1.out (ft_sz _ _ _ _) (ft_ok _ _) ?_)
            rw [T7.out]
            clear T1 T7
            generalize wx.heap.size = pb at *
            go_wp2_with (refine wpList_ldg (by rfl) _ rfl rfl T2.out (ft_ok _ _) ?_)
            go_meet
            exact ⟨_, _, _, HI6⟩
        · have ek : (kd == 0) = false := beq_eq_false_iff_ne.2 hkd
          have hc := fun W => ruse_any HI1.out.ok n W
          have hd := fun (W : World) (hW : Row W g 68 (mtc z l s u)) => use_any hW HI1.out.ok n
          obtain ⟨hok, hT0, hTz⟩ := useN_ok HI1.out.ok n
          have h4 := HI1.out.ok.zz
          rw [← HI1.out.oo] at hc
          unfold rusV at hc
          unfold UsePost at hd
          obtain ⟨r, hre⟩ : ∃ r, useN z l u n = r := ⟨_, rfl⟩
          rw [hre] at hc hd hok hT0 hTz
          clear hre
          obtain ⟨T, L, V⟩ := r
          dsimp only at hc hd hok hT0 hTz
          have hwT : IntKind.i64.wrap T = T := IntWalk.i64_in _ (by omega)
          have e1 : (T != T) = false := by simp
          obtain ⟨o2, ho2⟩ : ∃ o2, o2 = z - L - V := ⟨_, rfl⟩
          rw [← ho2] at hc
          have HO2 := Lib.hid ho2
          have HNX := Lib.hid hok
          have HC := Lib.hid hc
          have HD := Lib.hid hd
          clear hc hd hkd ho2 hok hT0 hTz h4 o0
          go_wp2_with (refine wpList_ld rfl _ rfl rfl HI1.out.m (rm_ok _ _ _ _) ?_)
          refine (HC.out _).mono ?_
          rintro e w7 ⟨rfl, hb7⟩
          obtain ⟨w8, hw8, t1, t2, t3⟩ := one_rm w7 z L o2 V
          have T1 := Lib.hid t1
          have T2 := Lib.hid t2
          have T7 := Lib.hid hw8
          have hb8 := hb7.trans (t3.mono hb7.size)
          have HI3 := Lib.hid (HI1.out.below hb8)
          have HO3 := Lib.hid (HO.out.below hb8 HO.out.lt)
          clear hb7 hb8 t1 t2 t3 hw8 HI1 HO HC o1
          go_upto_region 18 with (refine wpList_sw (cs := rmc z L o2 V) rfl _ _ rfl rfl rfl T1.out (rm_sz _ _ _ _ _ _ _ _) (rm_ok _ _ _ _) ?_)
          rw [T7.out]
          clear T1 T7
          generalize w7.heap.size = pn at *
          have HO4 := Lib.hid (HO3.out.setRow' (k := p) (HO3.out.ne HI3.out.m (by decide)) (rmc z L o2 V))
          have HG4 := Lib.hid (HI3.out.r.setRow' (k := p) HI3.out.ne (rmc z L o2 V))
          have HI4 := HO3
          go_upto_region 19 with (first | (refine wpList_ld rfl _ rfl rfl T2.out (rm_ok _ _ _ _) ?_) | (refine wpList_sw (cs := rmc z L o2 V) rfl _ _ rfl rfl rfl HI3.out.m (rm_sz _ _ _ _ _ _ _ _) (rm_ok _ _ _ _) ?_))
          have HN := Lib.hid (fun (w' : World) (hr : Row w' g 68 (mtc z L s V)) (hf : Fs (fun k => k = g) (w8.setRow p (rmc z L o2 V)) w') => HI3.out.next (o' := o2) hr hf HNX.out HO2.out)
          clear HI3 HO3 T2
          generalize w8.setRow p (rmc z L o2 V) = w9 at *
          have o1 := HO4.out.cell (j := 1) (v := .int .i64 n) rfl
          go_wp2_with fail
          refine (HD.out _ HG4.out).mono ?_
          clear HG4
          rintro e wx ⟨rfl, hr, hf⟩
          have HI5 := Lib.hid (HN.out _ hr hf)
          clear hr hf HI4 HN HD HO4 o1
          go_wp2_with fail
          go_meet
          exact ⟨_, _, _, HI5⟩
      case rest =>
        clear HI1 HO o0 o1
        obtain ⟨l2, u2, o2, HI2⟩ := hcut
        generalize wc = w7 at *
        have hl0 := HI2.out.ok.l0
        have hu0 := HI2.out.ok.u0
        have hle := HI2.out.ok.le
        have hzz := HI2.out.ok.zz
        have hoo := HI2.out.oo
        have e1 : (l2 != l2) = false := by simp
        have e2 : (o2 != o2) = false := by simp
        have d1 : decide (l2 < 0) = false := by simp; omega
        have d2 : decide (z < l2) = false := by simp; omega
        have d3 : decide (z < l2 + o2) = false := by simp; omega
        have hwo : IntKind.i64.wrap (l2 + o2) = l2 + o2 := IntWalk.i64_in _ (by omega)
        clear hl0 hu0 hle hzz hoo
        go_upto_region 21 with fail
        refine wp_region_held_drew (S := fun w' => w'.cell? ⟨p, 0, none⟩ = some (.int .i64 z) ∧ w'.cell? ⟨p, 1, none⟩ = some (.int .i64 l2) ∧ w'.cell? ⟨p, 2, none⟩ = some (.int .i64 o2)) (by kernel_rfl) HI2.out.cells (fun hHeld => ?_)
        have HI3 : Hid (MeI w w7.drew g p p9 z l2 u2 o2 s) := HI2.out.below ((Below.refl _ _).drew)
        clear HI2
        refine wpAnyH_take (i := 0) (v := ?v0) rfl (by kernel_rfl) (by kernel_rfl) (by kernel_rfl) (fun _ _ _ h => h) (Or.inl ⟨by rfl, ?hy0⟩) (by assumption) ?rest0
        case hy0 => (intro w hSw; (try dsimp only at hSw); go_simp <;> with_reducible rfl)
        try simp only [Act.put, List.getElem_toArray, List.getElem_cons_zero, List.setIfInBounds_toArray, List.set_cons_zero, List.set_cons_succ]
        refine wpAnyH_take (i := 2) (v := ?v2) rfl (by kernel_rfl) (by kernel_rfl) (by kernel_rfl) (fun _ _ _ h => h) (Or.inl ⟨by rfl, ?hy2⟩) (by assumption) ?rest2
        case hy2 => (intro w hSw; (try dsimp only at hSw); go_simp <;> with_reducible rfl)
        try simp only [Act.put, List.getElem_toArray, List.getElem_cons_zero, List.getElem_cons_succ, List.setIfInBounds_toArray, List.set_cons_zero, List.set_cons_succ]
        refine wpAnyH_take (i := 3) (v := ?v3) rfl (by kernel_rfl) (by kernel_rfl) (by kernel_rfl) (fun _ _ _ h => h) (Or.inl ⟨by rfl, ?hy3⟩) (by assumption) ?rest3
        case hy3 => (intro w hSw; (try dsimp only at hSw); go_simp <;> with_reducible rfl)
        try simp only [Act.put, List.getElem_toArray, List.getElem_cons_zero, List.getElem_cons_succ, List.setIfInBounds_toArray, List.set_cons_zero, List.set_cons_succ]
        refine wpAnyH_ready (rs := [1]) (by kernel_rfl) (by simp) ?_
        refine AllReadyH.cons rfl (fun K hK => ?_) AllReadyH.nil
        go_simp
        go_at_call 24
        refine (mleft_any HI3.out.r).mono ?_
        rintro e wq ⟨rfl, rfl⟩
        go_simp
        refine hK.out _ _ hHeld (fun hHeld => ?_)
        clear hK K
        try simp only [Act.put, List.getElem_toArray, List.getElem_cons_zero, List.getElem_cons_succ, List.setIfInBounds_toArray, List.set_cons_zero, List.set_cons_succ]
        refine wpAnyH_take (i := 4) (v := ?v4q1) rfl (by kernel_rfl) (by kernel_rfl) (by kernel_rfl) (fun _ _ _ h => h) (Or.inl ⟨by rfl, ?hy4q1⟩) (by assumption) ?rest4q1
        case hy4q1 => (intro w hSw; (try dsimp only at hSw); go_simp <;> with_reducible rfl)
        try simp only [Act.put, List.getElem_toArray, List.getElem_cons_zero, List.getElem_cons_succ, List.setIfInBounds_toArray, List.set_cons_zero, List.set_cons_succ]
        refine wpAnyH_take (i := 5) (v := ?v5q1) rfl (by kernel_rfl) (by kernel_rfl) (by kernel_rfl) (fun _ _ _ h => h) (Or.inl ⟨by rfl, ?hy5q1⟩) (by assumption) ?rest5q1
        case hy5q1 => (intro w hSw; (try dsimp only at hSw); go_simp <;> with_reducible rfl)
        try simp only [Act.put, List.getElem_toArray, List.getElem_cons_zero, List.getElem_cons_succ, List.setIfInBounds_toArray, List.set_cons_zero, List.set_cons_succ]
        refine wpAnyH_take (i := 6) (v := ?v6q1) rfl (by kernel_rfl) (by kernel_rfl) (by kernel_rfl) (fun _ _ _ h => h) (Or.inl ⟨by rfl, ?hy6q1⟩) (by assumption) ?rest6q1
        case hy6q1 => (intro w hSw; (try dsimp only at hSw); go_simp <;> with_reducible rfl)
        try simp only [Act.put, List.getElem_toArray, List.getElem_cons_zero, List.getElem_cons_succ, List.setIfInBounds_toArray, List.set_cons_zero, List.set_cons_succ]
        refine wpAnyH_take (i := 8) (v := ?v8q1) rfl (by kernel_rfl) (by kernel_rfl) (by kernel_rfl) (fun _ _ _ h => h) (Or.inl ⟨by rfl, ?hy8q1⟩) (by assumption) ?rest8q1
        case hy8q1 => (intro w hSw; (try dsimp only at hSw); go_simp <;> with_reducible rfl)
        try simp only [Act.put, List.getElem_toArray, List.getElem_cons_zero, List.getElem_cons_succ, List.setIfInBounds_toArray, List.set_cons_zero, List.set_cons_succ]
        refine wpAnyH_take (i := 9) (v := ?v9q1) rfl (by kernel_rfl) (by kernel_rfl) (by kernel_rfl) (fun _ _ _ h => h) (Or.inl ⟨by rfl, ?hy9q1⟩) (by assumption) ?rest9q1
        case hy9q1 => (intro w hSw; (try dsimp only at hSw); go_simp <;> with_reducible rfl)
        try simp only [Act.put, List.getElem_toArray, List.getElem_cons_zero, List.getElem_cons_succ, List.setIfInBounds_toArray, List.set_cons_zero, List.set_cons_succ]
        refine wpAnyH_ready (rs := [7]) (by kernel_rfl) (by simp) ?_
        refine AllReadyH.cons rfl (fun K hK => ?_) AllReadyH.nil
        go_simp
        go_at_call 25
        refine HI3.out.owed.mono ?_
        rintro e w_1 ⟨rfl, hb⟩
        have HJ1 := Lib.hid (HI3.out.below hb)
        clear hb hHeld HI3
        go_simp
        refine hK.out _ _ HJ1.out.cells (fun hHeld => ?_)
        clear hK K
        try simp only [Act.put, List.getElem_toArray, List.getElem_cons_zero, List.getElem_cons_succ, List.setIfInBounds_toArray, List.set_cons_zero, List.set_cons_succ]
        refine wpAnyH_take (i := 10) (v := ?v10q2) rfl (by kernel_rfl) (by kernel_rfl) (by kernel_rfl) (fun _ _ _ h => h) (Or.inl ⟨by rfl, ?hy10q2⟩) (by assumption) ?rest10q2
        case hy10q2 => (intro w hSw; (try dsimp only at hSw); go_simp <;> with_reducible rfl)
        try simp only [Act.put, List.getElem_toArray, List.getElem_cons_zero, List.getElem_cons_succ, List.setIfInBounds_toArray, List.set_cons_zero, List.set_cons_succ]
        refine wpAnyH_take (i := 11) (v := ?v11q2) rfl (by kernel_rfl) (by kernel_rfl) (by kernel_rfl) (fun _ _ _ h => h) (Or.inl ⟨by rfl, ?hy11q2⟩) (by assumption) ?rest11q2
        case hy11q2 => (intro w hSw; (try dsimp only at hSw); go_simp <;> with_reducible rfl)
        try simp only [Act.put, List.getElem_toArray, List.getElem_cons_zero, List.getElem_cons_succ, List.setIfInBounds_toArray, List.set_cons_zero, List.set_cons_succ]
        refine wpAnyH_take (i := 12) (v := ?v12q2) rfl (by kernel_rfl) (by kernel_rfl) (by kernel_rfl) (fun _ _ _ h => h) (Or.inl ⟨by rfl, ?hy12q2⟩) (by assumption) ?rest12q2
        case hy12q2 => (intro w hSw; (try dsimp only at hSw); go_simp <;> with_reducible rfl)
        try simp only [Act.put, List.getElem_toArray, List.getElem_cons_zero, List.getElem_cons_succ, List.setIfInBounds_toArray, List.set_cons_zero, List.set_cons_succ]
        refine wpAnyH_take (i := 13) (v := ?v13q2) rfl (by kernel_rfl) (by kernel_rfl) (by kernel_rfl) (fun _ _ _ h => h) (Or.inl ⟨by rfl, ?hy13q2⟩) (by assumption) ?rest13q2
        case hy13q2 => (intro w hSw; (try dsimp only at hSw); go_simp <;> with_reducible rfl)
        try simp only [Act.put, List.getElem_toArray, List.getElem_cons_zero, List.getElem_cons_succ, List.setIfInBounds_toArray, List.set_cons_zero, List.set_cons_succ]
        refine wpAnyH_ready (rs := [14]) (by kernel_rfl) (by simp) ?_
        refine AllReadyH.cons rfl (fun K hK => ?_) AllReadyH.nil
        go_simp
        go_at_call 24
        refine (mleft_any HJ1.out.r).mono ?_
        rintro e wq ⟨rfl, rfl⟩
        go_simp
        refine hK.out _ _ hHeld (fun hHeld => ?_)
        clear hK K
        try simp only [Act.put, List.getElem_toArray, List.getElem_cons_zero, List.getElem_cons_succ, List.setIfInBounds_toArray, List.set_cons_zero, List.set_cons_succ]
        refine wpAnyH_take (i := 15) (v := ?v15q3) rfl (by kernel_rfl) (by kernel_rfl) (by kernel_rfl) (fun _ _ _ h => h) (Or.inl ⟨by rfl, ?hy15q3⟩) (by assumption) ?rest15q3
        case hy15q3 => (intro w hSw; (try dsimp only at hSw); go_simp <;> with_reducible rfl)
        try simp only [Act.put, List.getElem_toArray, List.getElem_cons_zero, List.getElem_cons_succ, List.setIfInBounds_toArray, List.set_cons_zero, List.set_cons_succ]
        refine wpAnyH_take (i := 16) (v := ?v16q3) rfl (by kernel_rfl) (by kernel_rfl) (by kernel_rfl) (fun _ _ _ h => h) (Or.inl ⟨by rfl, ?hy16q3⟩) (by assumption) ?rest16q3
        case hy16q3 => (intro w hSw; (try dsimp only at hSw); go_simp <;> with_reducible rfl)
        try simp only [Act.put, List.getElem_toArray, List.getElem_cons_zero, List.getElem_cons_succ, List.setIfInBounds_toArray, List.set_cons_zero, List.set_cons_succ]
        refine wpAnyH_take (i := 17) (v := ?v17q3) rfl (by kernel_rfl) (by kernel_rfl) (by kernel_rfl) (fun _ _ _ h => h) (Or.inl ⟨by rfl, ?hy17q3⟩) (by assumption) ?rest17q3
        case hy17q3 => (intro w hSw; (try dsimp only at hSw); go_simp <;> with_reducible rfl)
        try simp only [Act.put, List.getElem_toArray, List.getElem_cons_zero, List.getElem_cons_succ, List.setIfInBounds_toArray, List.set_cons_zero, List.set_cons_succ]
        refine wpAnyH_take (i := 18) (v := ?v18q3) rfl (by kernel_rfl) (by kernel_rfl) (by kernel_rfl) (fun _ _ _ h => h) (Or.inl ⟨by rfl, ?hy18q3⟩) (by assumption) ?rest18q3
        case hy18q3 => (intro w hSw; (try dsimp only at hSw); go_simp <;> with_reducible rfl)
        try simp only [Act.put, List.getElem_toArray, List.getElem_cons_zero, List.getElem_cons_succ, List.setIfInBounds_toArray, List.set_cons_zero, List.set_cons_succ]
        refine wpAnyH_take (i := 20) (v := ?v20q3) rfl (by kernel_rfl) (by kernel_rfl) (by kernel_rfl) (fun _ _ _ h => h) (Or.inl ⟨by rfl, ?hy20q3⟩) (by assumption) ?rest20q3
        case hy20q3 => (intro w hSw; (try dsimp only at hSw); go_simp <;> with_reducible rfl)
        try simp only [Act.put, List.getElem_toArray, List.getElem_cons_zero, List.getElem_cons_succ, List.setIfInBounds_toArray, List.set_cons_zero, List.set_cons_succ]
        refine wpAnyH_take (i := 21) (v := ?v21q3) rfl (by kernel_rfl) (by kernel_rfl) (by kernel_rfl) (fun _ _ _ h => h) (Or.inl ⟨by rfl, ?hy21q3⟩) (by assumption) ?rest21q3
        case hy21q3 => (intro w hSw; (try dsimp only at hSw); go_simp <;> with_reducible rfl)
        try simp only [Act.put, List.getElem_toArray, List.getElem_cons_zero, List.getElem_cons_succ, List.setIfInBounds_toArray, List.set_cons_zero, List.set_cons_succ]
        refine wpAnyH_ready (rs := [19]) (by kernel_rfl) (by simp) ?_
        refine AllReadyH.cons rfl (fun K hK => ?_) AllReadyH.nil
        go_simp
        go_at_call 24
        refine (mleft_any HJ1.out.r).mono ?_
        rintro e wq ⟨rfl, rfl⟩
        go_simp
        refine hK.out _ _ hHeld (fun hHeld => ?_)
        clear hK K
        try simp only [Act.put, List.getElem_toArray, List.getElem_cons_zero, List.getElem_cons_succ, List.setIfInBounds_toArray, List.set_cons_zero, List.set_cons_succ]
        refine wpAnyH_take (i := 22) (v := ?v22q4) rfl (by kernel_rfl) (by kernel_rfl) (by kernel_rfl) (fun _ _ _ h => h) (Or.inl ⟨by rfl, ?hy22q4⟩) (by assumption) ?rest22q4
        case hy22q4 => (intro w hSw; (try dsimp only at hSw); go_simp <;> with_reducible rfl)
        try simp only [Act.put, List.getElem_toArray, List.getElem_cons_zero, List.getElem_cons_succ, List.setIfInBounds_toArray, List.set_cons_zero, List.set_cons_succ]
        refine wpAnyH_take (i := 23) (v := ?v23q4) rfl (by kernel_rfl) (by kernel_rfl) (by kernel_rfl) (fun _ _ _ h => h) (Or.inl ⟨by rfl, ?hy23q4⟩) (by assumption) ?rest23q4
        case hy23q4 => (intro w hSw; (try dsimp only at hSw); go_simp <;> with_reducible rfl)
        try simp only [Act.put, List.getElem_toArray, List.getElem_cons_zero, List.getElem_cons_succ, List.setIfInBounds_toArray, List.set_cons_zero, List.set_cons_succ]
        refine wpAnyH_take (i := 24) (v := ?v24q4) rfl (by kernel_rfl) (by kernel_rfl) (by kernel_rfl) (fun _ _ _ h => h) (Or.inl ⟨by rfl, ?hy24q4⟩) (by assumption) ?rest24q4
        case hy24q4 => (intro w hSw; (try dsimp only at hSw); go_simp <;> with_reducible rfl)
        try simp only [Act.put, List.getElem_toArray, List.getElem_cons_zero, List.getElem_cons_succ, List.setIfInBounds_toArray, List.set_cons_zero, List.set_cons_succ]
        refine wpAnyH_take (i := 25) (v := ?v25q4) rfl (by kernel_rfl) (by kernel_rfl) (by kernel_rfl) (fun _ _ _ h => h) (Or.inl ⟨by rfl, ?hy25q4⟩) (by assumption) ?rest25q4
        case hy25q4 => (intro w hSw; (try dsimp only at hSw); go_simp <;> with_reducible rfl)
        try simp only [Act.put, List.getElem_toArray, List.getElem_cons_zero, List.getElem_cons_succ, List.setIfInBounds_toArray, List.set_cons_zero, List.set_cons_succ]
        refine wpAnyH_take (i := 27) (v := ?v27q4) rfl (by kernel_rfl) (by kernel_rfl) (by kernel_rfl) (fun _ _ _ h => h) (Or.inl ⟨by rfl, ?hy27q4⟩) (by assumption) ?rest27q4
        case hy27q4 => (intro w hSw; (try dsimp only at hSw); go_simp <;> with_reducible rfl)
        try simp only [Act.put, List.getElem_toArray, List.getElem_cons_zero, List.getElem_cons_succ, List.setIfInBounds_toArray, List.set_cons_zero, List.set_cons_succ]
        refine wpAnyH_take (i := 30) (v := ?v30q4) rfl (by kernel_rfl) (by kernel_rfl) (by kernel_rfl) (fun _ _ _ h => h) (Or.inl ⟨by rfl, ?hy30q4⟩) (by assumption) ?rest30q4
        case hy30q4 => (intro w hSw; (try dsimp only at hSw); go_simp <;> with_reducible rfl)
        try simp only [Act.put, List.getElem_toArray, List.getElem_cons_zero, List.getElem_cons_succ, List.setIfInBounds_toArray, List.set_cons_zero, List.set_cons_succ]
        refine wpAnyH_take (i := 31) (v := ?v31q4) rfl (by kernel_rfl) (by kernel_rfl) (by kernel_rfl) (fun _ _ _ h => h) (Or.inl ⟨by rfl, ?hy31q4⟩) (by assumption) ?rest31q4
        case hy31q4 => (intro w hSw; (try dsimp only at hSw); go_simp <;> with_reducible rfl)
        try simp only [Act.put, List.getElem_toArray, List.getElem_cons_zero, List.getElem_cons_succ, List.setIfInBounds_toArray, List.set_cons_zero, List.set_cons_succ]
        refine wpAnyH_ready (rs := [26]) (by kernel_rfl) (by simp) ?_
        refine AllReadyH.cons rfl (fun K hK => ?_) AllReadyH.nil
        go_simp
        go_at_call 24
        refine (mleft_any HJ1.out.r).mono ?_
        rintro e wq ⟨rfl, rfl⟩
        go_simp
        refine hK.out _ _ hHeld (fun hHeld => ?_)
        clear hK K
        try simp only [Act.put, List.getElem_toArray, List.getElem_cons_zero, List.getElem_cons_succ, List.setIfInBounds_toArray, List.set_cons_zero, List.set_cons_succ]
        refine wpAnyH_ready (rs := [28]) (by kernel_rfl) (by simp) ?_
        refine AllReadyH.cons rfl (fun K hK => ?_) AllReadyH.nil
        go_simp
        go_at_call 25
        refine HJ1.out.owed.mono ?_
        rintro e w_5 ⟨rfl, hb⟩
        have HJ5 := Lib.hid (HJ1.out.below hb)
        clear hb hHeld HJ1
        go_simp
        refine hK.out _ _ HJ5.out.cells (fun hHeld => ?_)
        clear hK K
        try simp only [Act.put, List.getElem_toArray, List.getElem_cons_zero, List.getElem_cons_succ, List.setIfInBounds_toArray, List.set_cons_zero, List.set_cons_succ]
        refine wpAnyH_take (i := 29) (v := ?v29q5) rfl (by kernel_rfl) (by kernel_rfl) (by kernel_rfl) (fun _ _ _ h => h) (Or.inl ⟨by rfl, ?hy29q5⟩) (by assumption) ?rest29q5
        case hy29q5 => (intro w hSw; (try dsimp only at hSw); go_simp <;> with_reducible rfl)
        try simp only [Act.put, List.getElem_toArray, List.getElem_cons_zero, List.getElem_cons_succ, List.setIfInBounds_toArray, List.set_cons_zero, List.set_cons_succ]
        refine wpAnyH_take (i := 32) (v := ?v32q5) rfl (by kernel_rfl) (by kernel_rfl) (by kernel_rfl) (fun _ _ _ h => h) (Or.inl ⟨by rfl, ?hy32q5⟩) (by assumption) ?rest32q5
        case hy32q5 => (intro w hSw; (try dsimp only at hSw); go_simp <;> with_reducible rfl)
        try simp only [Act.put, List.getElem_toArray, List.getElem_cons_zero, List.getElem_cons_succ, List.setIfInBounds_toArray, List.set_cons_zero, List.set_cons_succ]
        refine wpAnyH_take (i := 33) (v := ?v33q5) rfl (by kernel_rfl) (by kernel_rfl) (by kernel_rfl) (fun _ _ _ h => h) (Or.inl ⟨by rfl, ?hy33q5⟩) (by assumption) ?rest33q5
        case hy33q5 => (intro w hSw; (try dsimp only at hSw); go_simp <;> with_reducible rfl)
        try simp only [Act.put, List.getElem_toArray, List.getElem_cons_zero, List.getElem_cons_succ, List.setIfInBounds_toArray, List.set_cons_zero, List.set_cons_succ]
        refine wpAnyH_done (by kernel_rfl) ?_ _
        clear hHeld e1 e2 d1 d2 d3 hwo
        go_wp2_with fail
        go_roundw
        case rel => exact ⟨k + 1, l2, u2, o2, by omega, by go_num, HJ5⟩
        case measure => simp [intOf]; omega
    · go_wp2_with fail
      refine (fixed_any _).mono ?_
      rintro e w7 ⟨rfl, hb7⟩
      have HB7 := Lib.hid (HI.out.hb.trans (hb7.mono HI.out.hb.size))
      clear hb7 HI
      go_wp2_with fail
      go_ret
      exact ⟨rfl, HB7.out⟩
end Go.Proofs.Ytnlkgjcfkgbiiaa
