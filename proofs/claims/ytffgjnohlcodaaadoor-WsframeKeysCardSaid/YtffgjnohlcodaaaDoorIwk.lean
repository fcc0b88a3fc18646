/-
  WsframeKeys: the law's walk. Conditions: errors.errorType holds what the program's text lays.
-/
import Derived.Test.YtffgjnohlcodaaaDoorIba
import Derived.Test.YtffgjnohlcodaaaDoorIeq
import Derived.Test.YtffgjnohlcodaaaDoorIfx
import Derived.Test.YtffgjnohlcodaaaDoorIrm
import Derived.Test.YtffgjnohlcodaaaDoorIge
import Derived.Orders
namespace Go.Proofs.YtffgjnohlcodaaaDoor
open Go.RowKit Go.WideShapes

theorem frontI_le (m : Bool) (n : Nat) : frontI m n ≤ 14 := by
  unfold frontI four4 behindN
  repeat' split
  all_goals omega
set_option maxRecDepth 100000 in
set_option maxHeartbeats 4000000 in
theorem wkeys_law {p : Pc} (hop : p.op < 256) {a b : Nat} (ha : a < 4294967296) (hb : b < 4294967296) {A : Option Addr} {c : Nat} {w : World} (hr : RdB w w.heap.size A p.dat) (hG : GlobE w) :
    Calls Tryd.prog 6 #[.agg (pcC p.fin p.op p.mask p.key A p.dat.length c), .int .u32 a, .int .u32 b] w fun e w' => e = .returned (.bool true) ∧ Below w.heap.size w w' := by
  obtain ⟨fin, op, mask, key, dat⟩ := p
  simp only at hop hr ⊢
  have HB0 : Hid (Below w.heap.size w (w.alloc (.cells (pcC fin op mask key A dat.length c) 25))) := (Below.refl _ _).alloc (Nat.le_refl _) _
  have HR0 := Lib.hid (Row.new w 25 (pcC fin op mask key A dat.length c))
  have HD0 := Lib.hid (hr.below HB0.out)
  have HG0 := Lib.hid (hG.below HB0.out)
  have HGw := Lib.hid hG
  obtain ⟨c0, c1, c2, c3, c4⟩ := pc_cells HR0.out
  clear hr hG
  by_cases hl : 9000 < dat.length
  · have h1 : (9000 : Int) < (dat.length : Int) := by omega
    clear hl
    go_enter Tryd.func6, Tryd.ntmps6
    go_wp2_with fail
    refine (fixed16_any _).mono ?_
    rintro e w1 ⟨rfl, hb1⟩
    go_wp2_with fail
    go_ret
    exact ⟨rfl, HB0.out.trans (hb1.mono HB0.out.size)⟩
  have h1 : ¬ (9000 : Int) < (dat.length : Int) := by omega
  go_enter Tryd.func6, Tryd.ntmps6
  go_upto_region 4 with fail
  rw [show ((pcC fin op mask key A dat.length c).setIfInBounds 2 (.bool false)).setIfInBounds 3 (.int .u32 0) = pcC fin op false 0 A dat.length c from rfl]
  have HB1 : Hid (Below w.heap.size w (w.alloc (.cells (pcC fin op false 0 A dat.length c) 25))) := (Below.refl _ _).alloc (Nat.le_refl _) _
  have HR1 := Lib.hid (Row.new w 25 (pcC fin op false 0 A dat.length c))
  have HD1 : Hid (RdB (w.alloc (.cells (pcC fin op false 0 A dat.length c) 25)) w.heap.size A dat) := HD0.out.keep fun q hq => by
    rw [World.cell?_alloc_lt _ _ q hq, World.cell?_alloc_lt _ _ q hq]
  have HG1 : Hid (GlobE (w.alloc (.cells (pcC fin op false 0 A dat.length c) 25))) := HGw.out.below HB1.out
  clear c0 c1 c2 c3 c4 HB0 HR0 HD0 HG0
  generalize w.alloc (.cells (pcC fin op false 0 A dat.length c) 25) = w1 at *
  obtain ⟨p0, hp⟩ : ∃ p0, p0 = w.heap.size := ⟨_, rfl⟩
  have HPP : Hid (w.heap.size = p0) := hp.symm
  simp only [← hp] at HR1 HD1 ⊢
  clear hp
  have hs1 : p0 ≤ w1.heap.size := Nat.le_of_lt HR1.out.lt
  have hpx := iput_any (Pc.mk fin op false 0 dat) hop (show (0 : Nat) < 4294967296 by omega) (c := c) HD1.out hs1 (show dat.length ≤ 1000000 by omega)
  simp only at hpx
  obtain ⟨Lx, hLx⟩ : ∃ Lx, Lx = (Pc.mk fin op false 0 dat).putL := ⟨_, rfl⟩
  rw [← hLx] at hpx
  have HLX := Lib.hid hLx
  clear hLx
  have hrm := rmayI_any fin op false 0 A dat.length c
  go_upto_region 5 with (first
    | (refine wpList_ld rfl _ rfl rfl HR1.out (pc_ok _ _ _ _ _ _ _) ?_)
    | (go_at_call 9; refine hpx.mono ?_; rintro e w2 ⟨Ax, cx, rfl, hOx, hb2⟩))
  have HR2 := Lib.hid (HR1.out.below hb2 HR1.out.lt)
  have HD2 := Lib.hid (HD1.out.below (hb2.mono hs1))
  have HB2 := Lib.hid (HB1.out.trans (hb2.mono HB1.out.size))
  have HG2 := Lib.hid (HG1.out.below hb2)
  clear hOx hb2 hpx HR1 HD1 HB1 HG1 hs1
  by_cases hm : MayI fin op false 0 dat.length
  · rw [decide_eq_true hm] at hrm
    have hmy : ∀ k, (Pc.mk fin op true k dat).May := fun k => by
      show MayI fin op true k dat.length
      exact ⟨hm.1, .inl rfl, hm.2.2.1, hm.2.2.2⟩
    have hn4 : dat.length ≤ 4096 := hm.2.2.1
    have hlx : Lx.length = frontI false dat.length + dat.length := by
      rw [HLX.out, show (Pc.mk fin op false 0 dat).putL = (Pc.mk fin op false 0 dat).put from if_pos hm]
      exact put_length (p := Pc.mk fin op false 0 dat) hn4
    have hly : ∀ k, (Pc.mk fin op true k dat).put.length = Lx.length + 4 := fun k => by
      rw [put_length (p := Pc.mk fin op true k dat) hn4, hlx]
      show frontI true dat.length + dat.length = _
      unfold frontI four4
      simp
      omega
    have HLY := Lib.hid hly
    have HMY := Lib.hid hmy
    have hlx9 : Lx.length ≤ 5000 := by rw [hlx]; have := frontI_le false dat.length; omega
    clear hly hmy hlx hm HLX
    go_upto_region 7 with (first
      | (refine wpList_ld rfl _ rfl rfl HR2.out (pc_ok _ _ _ _ _ _ _) ?_)
      | (go_at_call 11; refine (hrm _).mono ?_; rintro e w3 ⟨rfl, hb3⟩))
    have hR3 := HR2.out.below hb3 HR2.out.lt
    have HB3 := Lib.hid (HB2.out.trans (hb3.mono HB2.out.size))
    have hD3 := HD2.out.below (hb3.mono (Nat.le_of_lt HR2.out.lt))
    have hG3 := HG2.out.below hb3
    have c2 : w3.cell? ⟨p0, 2, none⟩ = some (.bool false) := (pc_cells hR3).2.2.1
    have t2 := hR3.thawed 2
    have hR4 : Row (w3.setCell ⟨p0, 2, none⟩ (.bool true)) p0 25 (pcC fin op true 0 A dat.length c) := hR3.stored 2 (.bool true)
    have c3 : (w3.setCell ⟨p0, 2, none⟩ (.bool true)).cell? ⟨p0, 3, none⟩ = some (.int .u32 (0 : Nat)) := (pc_cells hR4).2.2.2.1
    have t3 := hR4.thawed 3
    have HR5 : Hid (Row ((w3.setCell ⟨p0, 2, none⟩ (.bool true)).setCell ⟨p0, 3, none⟩ (.int .u32 (a : Int))) p0 25 (pcC fin op true a A dat.length c)) := hR4.stored 3 (.int .u32 (a : Int))
    have HB5 := Lib.hid ((HB3.out.setCell (p := ⟨p0, 2, none⟩) (Nat.le_of_eq HPP.out) (.bool true)).setCell (p := ⟨p0, 3, none⟩) (Nat.le_of_eq HPP.out) (.int .u32 (a : Int)))
    have hb35 : Below p0 w3 ((w3.setCell ⟨p0, 2, none⟩ (.bool true)).setCell ⟨p0, 3, none⟩ (.int .u32 (a : Int))) := ((Below.refl p0 w3).setCell (p := ⟨p0, 2, none⟩) (Nat.le_refl _) (.bool true)).setCell (p := ⟨p0, 3, none⟩) (Nat.le_refl _) (.int .u32 (a : Int))
    have HD5 := Lib.hid (hD3.below hb35)
    have HG5 : Hid (GlobE ((w3.setCell ⟨p0, 2, none⟩ (.bool true)).setCell ⟨p0, 3, none⟩ (.int .u32 (a : Int)))) := HGw.out.below HB5.out
    clear hR3 hR4 hD3 hG3 hb3 hb35 HR2 HD2 HB2 HG2 HB3 hrm
    go_upto_region 8 with fail
    clear c2 t2 c3 t3
    generalize (w3.setCell ⟨p0, 2, none⟩ (.bool true)).setCell ⟨p0, 3, none⟩ (.int .u32 (a : Int)) = w5 at *
    have hpy := iput_any (Pc.mk fin op true a dat) hop ha (c := c) HD5.out (Nat.le_of_lt HR5.out.lt) (show dat.length ≤ 1000000 by omega)
    rw [show (Pc.mk fin op true a dat).putL = (Pc.mk fin op true a dat).put from if_pos (HMY.out a)] at hpy
    simp only at hpy
    have hga := getI_put (HMY.out a) ha
    have hla := HLY.out a
    obtain ⟨Ly, hLy⟩ : ∃ Ly, Ly = (Pc.mk fin op true a dat).put := ⟨_, rfl⟩
    rw [← hLy] at hpy hga hla
    have HLYe := Lib.hid hLy
    have HGA := Lib.hid hga
    have HLA := Lib.hid hla
    clear hLy hga hla
    go_upto_region 9 with (first
      | (refine wpList_ld rfl _ rfl rfl HR5.out (pc_ok _ _ _ _ _ _ _) ?_)
      | (go_at_call 9; refine hpy.mono ?_; rintro e w6 ⟨Ay, cy, rfl, hOy, hb6⟩))
    have hcy : Ly.length ≤ cy := by
      obtain ⟨A', c2, e1, h2, _⟩ := hOy.shape
      injection e1 with _ _ e3
      rw [e3]; exact h2
    have hry := RdB.ownI hOy
    have hlt6 : p0 < w6.heap.size := Nat.lt_of_lt_of_le HR5.out.lt hb6.size
    have hR6 := HR5.out.below hb6 HR5.out.lt
    have HB6 := Lib.hid (HB5.out.trans (hb6.mono HB5.out.size))
    have hD6 := HD5.out.below (hb6.mono (Nat.le_of_lt HR5.out.lt))
    have c3 : w6.cell? ⟨p0, 3, none⟩ = some (.int .u32 (a : Int)) := (pc_cells hR6).2.2.2.1
    have t3 := hR6.thawed 3
    have HR7 : Hid (Row (w6.setCell ⟨p0, 3, none⟩ (.int .u32 (b : Int))) p0 25 (pcC fin op true b A dat.length c)) := hR6.stored 3 (.int .u32 (b : Int))
    have HB7 := Lib.hid (HB6.out.setCell (p := ⟨p0, 3, none⟩) (Nat.le_of_eq HPP.out) (.int .u32 (b : Int)))
    have HD7 := Lib.hid (hD6.below ((Below.refl p0 w6).setCell (p := ⟨p0, 3, none⟩) (Nat.le_refl _) (.int .u32 (b : Int))))
    have HRY7 : Hid (Ly ≠ [] → ∃ g o, Ay = some ⟨g, o, none⟩ ∧ p0 < g ∧ RdB (w6.setCell ⟨p0, 3, none⟩ (.int .u32 (b : Int))) (w6.setCell ⟨p0, 3, none⟩ (.int .u32 (b : Int))).heap.size (some ⟨g, o, none⟩) Ly) := fun hne => by
      obtain ⟨g, cc, e1, e2, _⟩ := hOy.form hne
      injection e1 with e1 _ _
      have hg : p0 < g := Nat.lt_of_lt_of_le HR5.out.lt e2
      refine ⟨g, 0, e1, hg, RdB.more (B := w6.heap.size) (fun hx => ?_) (by simp [World.setCell])⟩
      obtain ⟨g', o', e3, h4, h5⟩ := hry hx
      rw [e1] at e3
      refine ⟨g', o', e3, h4, fun j hj => ?_⟩
      injection e3 with e3
      injection e3 with e3 _
      rw [World.cell?_setCell_far _ _ _ _ (by show p0 ≠ g'; omega)]
      exact h5 j hj
    clear hOy hry hR6 hD6 hb6 hpy HR5 HB5 HD5 HG5
    go_upto_region 10 with fail
    clear c3 t3
    generalize w6.setCell ⟨p0, 3, none⟩ (.int .u32 (b : Int)) = w7 at *
    have hRY7 : RdB w7 w7.heap.size Ay Ly := by
      by_cases hne : Ly = []
      · rw [hne]; exact RdB.nil
      · obtain ⟨g, o, e1, _, h⟩ := HRY7.out hne
        rw [e1]; exact h
    have HRYa := Lib.hid hRY7
    have hpz := iput_any (Pc.mk fin op true b dat) hop hb (c := c) HD7.out (Nat.le_of_lt HR7.out.lt) (show dat.length ≤ 1000000 by omega)
    rw [show (Pc.mk fin op true b dat).putL = (Pc.mk fin op true b dat).put from if_pos (HMY.out b)] at hpz
    simp only at hpz
    have hgb := getI_put (HMY.out b) hb
    have hlb := HLY.out b
    obtain ⟨Lz, hLz⟩ : ∃ Lz, Lz = (Pc.mk fin op true b dat).put := ⟨_, rfl⟩
    rw [← hLz] at hpz hgb hlb
    have HLZe := Lib.hid hLz
    have HGB := Lib.hid hgb
    have HLB := Lib.hid hlb
    clear hLz hgb hlb hRY7 HRY7
    go_upto_region 11 with (first
      | (refine wpList_ld rfl _ rfl rfl HR7.out (pc_ok _ _ _ _ _ _ _) ?_)
      | (go_at_call 9; refine hpz.mono ?_; rintro e w8 ⟨Az, cz, rfl, hOz, hb8⟩))
    have hcz : Lz.length ≤ cz := by
      obtain ⟨A', c2, e1, h2, _⟩ := hOz.shape
      injection e1 with _ _ e3
      rw [e3]; exact h2
    have HRZ8 := Lib.hid (RdB.ownI hOz)
    have HRY8 := Lib.hid ((HRYa.out.below hb8).more hb8.size)
    have HR8 := Lib.hid (HR7.out.below hb8 HR7.out.lt)
    have HB8 := Lib.hid (HB7.out.trans (hb8.mono HB7.out.size))
    have HD8 := Lib.hid (HD7.out.below (hb8.mono (Nat.le_of_lt HR7.out.lt)))
    clear hOz hb8 hpz HRYa HR7 HB7 HD7
    have HG8 := Lib.hid (HGw.out.below HB8.out)
    have hgy := iget_any (c := cy) (m := true) HRY8.out (Nat.le_refl _) (by have := HLA.out; omega) hcy HG8.out
    have hgA : getI true Ly = (⟨fin, op, true, a, dat⟩, 0) := HGA.out
    rw [hgA] at hgy
    clear hgA
    have hgn : Calls Tryd.prog 13 #[.slice Ay Ly.length cy, .bool true] w8 fun e w' => ∃ A' c', e = .returned (.tuple #[.agg (pcC fin op true a A' dat.length c'), .agg (ftI 0 0)]) ∧ RdB w' w'.heap.size A' dat ∧ Below w8.heap.size w8 w' := hgy.mono (by
      rintro e w' ⟨A', c', rfl, h1, _, h2⟩
      exact ⟨A', c', rfl, h1, h2⟩)
    clear hgy
    go_wp2_with fail
    refine hgn.mono ?_
    rintro e w9 ⟨Ac, cc, rfl, hrc, hb9⟩
    obtain ⟨w10, e10, r10, r11, hb10, hz10, s10, s11⟩ := varsI w9 (pcC fin op true a Ac dat.length cc) (ftI 0 0) rfl rfl
    have hb := hb9.trans (hb10.mono hb9.size)
    have HRC := Lib.hid ((hrc.below hb10).more hb10.size)
    have HC1 := Lib.hid r10
    have HF1 := Lib.hid r11
    have HRZa := Lib.hid ((HRZ8.out.below hb).more hb.size)
    have HRYa := Lib.hid ((HRY8.out.below hb).more hb.size)
    have HRa := Lib.hid (HR8.out.below hb HR8.out.lt)
    have HBa := Lib.hid (HB8.out.trans (hb.mono HB8.out.size))
    have HDa := Lib.hid (HD8.out.below (hb.mono (Nat.le_of_lt HR8.out.lt)))
    go_upto_region 12 with (first
      | (refine wpList_sw (cs := pcC fin op true a Ac dat.length cc) rfl _ _ rfl rfl rfl s10 (pc_sz _ _ _ _ _ _ _ _ _ _ _ _ _ _) (pc_ok _ _ _ _ _ _ _) ?_)
      | (refine wpList_sw (cs := ftI 0 0) rfl _ _ rfl rfl rfl s11 (ftI_sz _ _ _ _) (ftI_ok _ _) ?_))
    rw [pcC0_eq, ftI0_eq, e10]
    clear e10 r10 r11 s10 s11 hb10 hb9 hb hrc hgn HRZ8 HRY8 HR8 HB8 HD8 hz10 HG8
    generalize w9.heap.size = p10 at *
    have HGa := Lib.hid (HGw.out.below HBa.out)
    have hgz := iget_any (c := cz) (m := true) HRZa.out (Nat.le_refl _) (by have := HLB.out; omega) hcz HGa.out
    have hgA : getI true Lz = (⟨fin, op, true, b, dat⟩, 0) := HGB.out
    rw [hgA] at hgz
    clear hgA
    have hgn : Calls Tryd.prog 13 #[.slice Az Lz.length cz, .bool true] w10 fun e w' => ∃ A' c', e = .returned (.tuple #[.agg (pcC fin op true b A' dat.length c'), .agg (ftI 0 0)]) ∧ RdB w' w'.heap.size A' dat ∧ Below w10.heap.size w10 w' := hgz.mono (by
      rintro e w' ⟨A', c', rfl, h1, _, h2⟩
      exact ⟨A', c', rfl, h1, h2⟩)
    clear hgz
    go_wp2_with fail
    refine hgn.mono ?_
    rintro e w11 ⟨Ad, cd, rfl, hrd, hb11⟩
    obtain ⟨w12, e12, r12, r13, hb12, hz12, s12, s13⟩ := varsI w11 (pcC fin op true b Ad dat.length cd) (ftI 0 0) rfl rfl
    have hb := hb11.trans (hb12.mono hb11.size)
    have HRD := Lib.hid ((hrd.below hb12).more hb12.size)
    have HC2 := Lib.hid r12
    have HF2 := Lib.hid r13
    have HC1b := Lib.hid (HC1.out.below hb HC1.out.lt)
    have HF1b := Lib.hid (HF1.out.below hb HF1.out.lt)
    have HRCb := Lib.hid ((HRC.out.below hb).more hb.size)
    have HRZb := Lib.hid ((HRZa.out.below hb).more hb.size)
    have HRYb := Lib.hid ((HRYa.out.below hb).more hb.size)
    have HRb := Lib.hid (HRa.out.below hb HRa.out.lt)
    have HBb := Lib.hid (HBa.out.trans (hb.mono HBa.out.size))
    have HDb := Lib.hid ((HDa.out.below (hb.mono (Nat.le_of_lt HRa.out.lt))).more (Nat.le_trans (Nat.le_of_lt HRa.out.lt) hb.size))
    go_upto_region 13 with (first
      | (refine wpList_sw (cs := pcC fin op true b Ad dat.length cd) rfl _ _ rfl rfl rfl s12 (pc_sz _ _ _ _ _ _ _ _ _ _ _ _ _ _) (pc_ok _ _ _ _ _ _ _) ?_)
      | (refine wpList_sw (cs := ftI 0 0) rfl _ _ rfl rfl rfl s13 (ftI_sz _ _ _ _) (ftI_ok _ _) ?_))
    rw [pcC0_eq, ftI0_eq, e12]
    clear e12 r12 r13 s12 s13 hb12 hb11 hb hrd hgn HRZa HRYa HRa HBa HDa hz12 HGa HC1 HF1 HRC
    generalize w11.heap.size = p12 at *
    simp only [List.append]
    go_wp2_with fail
    refine (fixed16_any _).mono ?_
    rintro e w13 ⟨rfl, hb13⟩
    have HF1c := Lib.hid (HF1b.out.below hb13 HF1b.out.lt)
    have HF2c := Lib.hid (HF2.out.below hb13 HF2.out.lt)
    obtain ⟨x0, x1, _, _, x4⟩ := pc_cells (HC1b.out.below hb13 HC1b.out.lt)
    obtain ⟨y0, y1, _, _, y4⟩ := pc_cells (HC2.out.below hb13 HC2.out.lt)
    obtain ⟨_, _, _, _, v4⟩ := pc_cells (HRb.out.below hb13 HRb.out.lt)
    have k1 := run_text (P := Tryd.prog) (c := cc) Tryd.underlying23 Tryd.underlying5 Tryd.underlying9 (HRCb.out.below hb13)
    have k2 := run_text (P := Tryd.prog) (c := c) Tryd.underlying23 Tryd.underlying5 Tryd.underlying9 (HDb.out.below hb13)
    have k3 := run_text (P := Tryd.prog) (c := cd) Tryd.underlying23 Tryd.underlying5 Tryd.underlying9 (HRD.out.below hb13)
    have k4 := run_text (P := Tryd.prog) (c := cy) Tryd.underlying23 Tryd.underlying5 Tryd.underlying9 (HRYb.out.below hb13)
    have k5 := run_text (P := Tryd.prog) (c := cz) Tryd.underlying23 Tryd.underlying5 Tryd.underlying9 (HRZb.out.below hb13)
    have HBc := Lib.hid (HBb.out.trans (hb13.mono HBb.out.size))
    have hqf := fun W => ft_zeroI W
    have hab : (a ≠ b ∧ ((a : Int) != (b : Int)) = true) ∨ (a = b ∧ Ly = Lz ∧ ((a : Int) != (b : Int)) = false) := by
      by_cases h : a = b
      · exact .inr ⟨h, by rw [HLYe.out, HLZe.out, h], by rw [h]; simp⟩
      · exact .inl ⟨h, bne_iff_ne.2 (by omega)⟩
    have hw4 : IntKind.i64.wrap ((Lx.length : Int) + 4) = (Lx.length : Int) + 4 := IntWalk.i64_in _ (by omega)
    have hq1 : ((Ly.length : Int) == (Lx.length : Int) + 4) = true := by have := HLA.out; simp; omega
    have hyz : (Lz.length : Int) = (Ly.length : Int) := by have := HLA.out; have := HLB.out; omega
    have hq2 : ((Lz.length : Int) == (Ly.length : Int)) = true := by rw [hyz]; simp
    have hfe : (fin == fin) = true := by cases fin <;> rfl
    clear hyz hb13 HF1b HF2 HC1b HC2 HRb HRCb HDb HRD HRYb HRZb HBb
    generalize ByteArray.mk dat.toArray = td at *
    rcases hab with ⟨hne, hab⟩ | ⟨rfl, rfl, hab⟩
    · clear hne k4 k5
      go_wp2_with (first
        | (refine wpList_ldg (by kernel_rfl) _ rfl rfl HF1c.out (ftI_ok _ _) ?_)
        | (refine wpList_ldg (by kernel_rfl) _ rfl rfl HF2c.out (ftI_ok _ _) ?_))

      go_ret
      exact ⟨rfl, HBc.out⟩
    · generalize ByteArray.mk Ly.toArray = ty at *
      go_wp2_with (first
        | (refine wpList_ldg (by kernel_rfl) _ rfl rfl HF1c.out (ftI_ok _ _) ?_)
        | (refine wpList_ldg (by kernel_rfl) _ rfl rfl HF2c.out (ftI_ok _ _) ?_))
      go_ret
      exact ⟨rfl, HBc.out⟩
  · rw [decide_eq_false hm] at hrm
    have e : Lx = [] := by rw [HLX.out]; exact if_neg hm
    subst e
    go_wp2_with (first
      | (refine wpList_ld rfl _ rfl rfl HR2.out (pc_ok _ _ _ _ _ _ _) ?_)
      | (go_at_call 11; refine (hrm _).mono ?_; rintro e w3 ⟨rfl, hb3⟩)
      | (go_at_call 8; refine (fixed16_any _).mono ?_; rintro e w4 ⟨rfl, hb4⟩))
    go_ret
    exact ⟨rfl, (HB2.out.trans (hb3.mono HB2.out.size)).trans (hb4.mono (Nat.le_trans HB2.out.size hb3.size))⟩
end Go.Proofs.YtffgjnohlcodaaaDoor
