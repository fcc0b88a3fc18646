/-
  TurnsPlays: the law's walk. Condition: the operations are read.
-/
import Derived.Test.YtplohgaecoobaaaUfx
namespace Go.Proofs.Ytplohgaecoobaaa
open Go.RowKit Go.WideShapes

/-- A stream's number isn't a ring's cell: they lie apart. -/
theorem RgS.far {w : World} {S : Nat → Prop} {A A' : Option Addr} {c c' n f p : Nat} {l : Int} {L : List Sn} (h : RgS w S A c L) (hr : Row w p 31 (rrc A' n c' f l)) : RgS w (fun b => S b ∧ b ≠ p) A c L := by
  refine ⟨fun hne => ?_, h.len, h.bd⟩
  obtain ⟨b, q, hA, hb, hc⟩ := h.rd hne
  refine ⟨b, q, hA, ⟨⟨hb.1, fun e => ?_⟩, hb.2⟩, hc⟩
  subst e
  cases L with
  | nil => exact hne rfl
  | cons x L =>
    have h1 := hc 0 (.int .u32 x.st) rfl
    rw [Nat.add_zero] at h1
    match q, h1 with
    | 0, h1 => rw [(rr_cells hr).1] at h1; cases h1
    | 1, h1 => rw [(rr_cells hr).2.1] at h1; cases h1
    | 2, h1 => rw [(rr_cells hr).2.2.1] at h1; cases h1
    | 3, h1 => rw [(rr_cells hr).2.2.2] at h1; cases h1
    | q + 4, h1 =>
      have h2 : w.cell? ⟨b, q + 4, none⟩ = none := by
        have h3 : w.heap[b]? = some (.cells (rrc A' n c' f l) 31) := hr
        unfold World.cell?
        simp [h3, rrc]
      rw [h2] at h1
      cases h1
/-- What the law's loop keeps. -/
structure PlI (w wr : World) (p g : Nat) (m : Rm) (A : Option Addr) (c : Nat) (F : Nat → Prop) : Prop where
  row : Row wr p 31 (rrc A m.l.length c m.t m.w)
  rg : RgS wr (fun b => ¬ F b) A c (rot m.l m.t)
  tr : Tr wr F g m
  ok : m.Ok
  fr : ∀ k, F k → w.heap.size ≤ k ∧ k ≠ p
  bel : Below w.heap.size w wr
  lo : w.heap.size ≤ p
theorem PlI.below {w wr w' : World} {p g : Nat} {m : Rm} {A : Option Addr} {c : Nat} {F : Nat → Prop} (h : PlI w wr p g m A c F) (hb : Below wr.heap.size wr w') : PlI w w' p g m A c F :=
  ⟨h.row.below hb h.row.lt, (h.rg.up (S' := fun _ => False) hb).imp fun b h2 _ => (by rcases h2 with h2 | h2; exact h2; exact h2.elim), h.tr.below hb, h.ok, h.fr, h.bel.trans (hb.mono h.bel.size), h.lo⟩
theorem PlI.step {w w2 w3 w4 : World} {p g : Nat} {m m3 : Rm} {A A3 : Option Addr} {c c3 : Nat} {F F3 : Nat → Prop} (h : PlI w w2 p g m A c F) (hR : RgS w3 (fun b => ¬ F3 b) A3 c3 (rot m3.l m3.t)) (hT : Tr w3 F3 g m3) (hF : Fs F w2 w3) (hN : ∀ k, F3 k → F k ∨ w2.heap.size ≤ k) (hok : m3.Ok) (hb : Below w3.heap.size w3 w4) :
    PlI w (w4.setRow p (rrc A3 m3.l.length c3 m3.t m3.w)) p g m3 A3 c3 F3 := by
  have hp := h.row.lt
  have hr3 := hF.row (fun hk => (h.fr p hk).2 rfl) h.row
  have hr4 := hr3.below hb hr3.lt
  have hfr : ∀ k, F3 k → w.heap.size ≤ k ∧ k ≠ p := fun k hk => by
    rcases hN k hk with h1 | h1
    · exact h.fr k h1
    · exact ⟨by have := h.bel.size; omega, by omega⟩
  have hR4 := ((hR.up (S' := fun _ => False) hb).far hr4)
  have hbF : Below w.heap.size w2 w3 := hF.below (fun k hk _ => (h.fr k hk).1) h.bel.size
  refine ⟨hr4.setRow _, ⟨(hR4.rd.keep fun b hb2 => setRow_other w4 p b _ hb2.1.2).imp fun b hb2 _ => ⟨?_, ?_⟩, hR4.len, hR4.bd⟩, (hT.below hb).keep fun k hk => setRow_other w4 p k _ (hfr k hk).2, hok, hfr, below_setRow ((h.bel.trans hbF).trans (hb.mono (by have := h.bel.size; have := hF.size; omega))) _ _ h.lo, h.lo⟩
  · rcases hb2.1.1 with h1 | h1
    · exact h1
    · exact h1.elim
  · have := hb2.2
    simpa using this
theorem allN_takele (L : List Sn) (j : Nat) : allN (L.take j) ≤ allN L := by
  have h : L = L.take j ++ L.drop j := (List.take_append_drop _ _).symm
  have := allN_append (L.take j) (L.drop j)
  rw [← h] at this
  omega
theorem allN_rot (l : List Sn) (t : Nat) : allN (rot l t) = allN l := by
  have h := allN_append (l.take t) (l.drop t)
  rw [List.take_append_drop] at h
  unfold rot
  rw [allN_append]
  omega
theorem any_take {f : Sn → Bool} {L : List Sn} {j : Nat} (hj : j < L.length) : (L.take (j + 1)).any f = ((L.take j).any f || f L[j]) := by
  rw [List.take_succ_eq_append_getElem hj, List.any_append]
  simp
theorem any_rot (f : Sn → Bool) (l : List Sn) (t : Nat) : (rot l t).any f = l.any f := by
  unfold rot
  rw [List.any_append, Bool.or_comm, ← List.any_append, List.take_append_drop]
/-- A stream of the ring, asked by its number. -/
theorem by_st {m : Rm} (hm : m.Ok) {x : Sn} (hx : x ∈ rot m.l m.t) : wtN m x.st = x.b.length ∧ lfN m x.st = x.lf ∧ x.st < 4294967296 := by
  have hx2 := rot_mem.1 hx
  obtain ⟨k, hk, hxe⟩ := List.getElem_of_mem hx2
  have h1 : m.l[k]? = some x := by rw [← hxe]; exact List.getElem?_eq_getElem hk
  have h2 := fd_iff hm.uq h1 rfl
  have h3 := hm.st x hx2
  unfold wtN lfN
  rw [h2, h1, if_neg (by omega)]
  exact ⟨rfl, rfl, h3.2⟩
theorem allN_z (L : List Sn) : allN (L.take 0) = 0 := rfl
theorem allB_new (left : Int) : allB (rmNew left) = 0 := rfl
attribute [local irreducible] snc rrc ovc stM allN
set_option maxRecDepth 100000 in
set_option maxHeartbeats 8000000 in
theorem plays_law {w : World} (left : Int) {A0 : Option Addr} {c0 : Nat} {O : List Ov} (hR : RdS w (· < w.heap.size) A0 (enl ovl O)) (hl : O.length ≤ 9223372036854775807) (hD : ∀ o ∈ O, RdB w w.heap.size o.A o.b) :
    Calls Try.prog 3 #[.int .i64 left, .slice A0 O.length c0] w fun e w' => e = .returned (.bool true) ∧ Below w.heap.size w w' := by
  have HR := Lib.hid hR
  have HD := Lib.hid hD
  have HG := Lib.hid (great_any (c := c0) hR hl)
  clear hR hD
  go_enter Try.func3, Try.ntmps3
  go_wp2_with fail
  refine HG.out.mono ?_
  rintro e w1 ⟨t, rfl, hF, hb1⟩
  have HB1 := Lib.hid hb1
  clear hb1
  cases t with
  | true =>
    clear hF
    go_wp2_with fail
    refine (fixed13_any w1).mono ?_
    rintro e w2 ⟨rfl, hb2⟩
    have HB2 := Lib.hid (HB1.out.trans (hb2.mono HB1.out.size))
    clear hb2
    go_wp2_with fail
    go_ret
    exact ⟨rfl, HB2.out⟩
  | false =>
    have HF := Lib.hid (hF rfl)
    clear hF HG
    go_wp2_with fail
    refine (tnew_any left w1).mono ?_
    rintro e w2 ⟨g, F0, rfl, hT2, hF2, hb2⟩
    have HT2 := Lib.hid hT2
    have HF2 : Hid (∀ k, F0 k → w1.heap.size ≤ k) := hF2
    have HB2 := Lib.hid (HB1.out.trans (hb2.mono HB1.out.size))
    clear hb2 hT2 hF2
    go_wp2_with fail
    refine (rnew13_any w2 left).mono ?_
    rintro e w3 ⟨rfl, hb3⟩
    obtain ⟨w4, hw4, u1, u2, u3, u4⟩ := one_rr w3 none 0 0 0 (btw left)
    rw [← rr_zero] at u1
    have HW4 := Lib.hid hw4
    have U1 := Lib.hid u1
    have hb4 := hb3.trans (u3.mono hb3.size)
    have HI : Hid (PlI w w4 w3.heap.size g (rmNew left) none 0 F0) :=
      ⟨u2, ⟨RdS.nil, Nat.le_refl _, Nat.zero_le _⟩, HT2.out.below hb4, rmNew_ok left, fun k hk => ⟨by have := HF2.out k hk; have := HB1.out.size; omega, by have := HT2.out.lts k hk; have := hb3.size; omega⟩, HB2.out.trans (hb4.mono HB2.out.size), by have := HB2.out.size; have := hb3.size; omega⟩
    clear hb3 hw4 u1 u2 u3 u4 hb4 HT2 HF2 HB2 HB1
    go_upto_region 5 with (refine wpList_sw (cs := rrc none 0 0 0 (btw left)) rfl _ _ rfl rfl rfl U1.out (by rw [rr_size]; rfl) (rr_ok _ _ _ _ _) ?_)
    rw [HW4.out]
    clear HW4 U1
    generalize w3.heap.size = p at *
    have HBB : Hid (allB (rmNew left) ≤ sm13 (O.take 0) ∧ (rmNew left).l.length ≤ 0) := ⟨by rw [allB_new]; exact Nat.zero_le _, Nat.le_refl _⟩
    generalize rmNew left = m0 at *
    go_wp2_with fail
    go_loopw [24] (fun i wr => ∃ (k : Nat) (m : Rm) (A : Option Addr) (c : Nat) (F : Nat → Prop), k ≤ O.length ∧ i = .int .i64 k ∧ Hid (PlI w wr p g m A c F) ∧ Hid (allB m ≤ sm13 (O.take k) ∧ m.l.length ≤ k)) (fun i _ => O.length - (intOf i).toNat)
    case atStart => exact ⟨0, m0, none, 0, F0, Nat.zero_le _, rfl, HI, HBB⟩
    case round =>
      clear HI HBB
      obtain ⟨k, m, A, c, F, hk, rfl, HI, HBB⟩ := hrel
      by_cases hlt : k < O.length
      · obtain ⟨bb, q, rfl, hbb, hr⟩ := ov_at (HR.out.below HI.out.bel) hlt
        have HXC := Lib.hid hr
        have HST := Lib.hid (sm13_take hlt)
        obtain ⟨o, ho⟩ : ∃ o, o = O[k] := ⟨_, rfl⟩
        have hDo := HD.out o (by rw [ho]; exact List.getElem_mem hlt)
        rw [← ho] at HXC HST
        have HSA : Hid (sm13 (O.take (k + 1)) ≤ 9000) := by
          show _ ≤ _
          have h1 := HF.out.2
          have h2 : O = O.take (k + 1) ++ O.drop (k + 1) := (List.take_append_drop _ _).symm
          rw [h2, sm13_append] at h1
          omega
        obtain ⟨w2, hw2, u1, u2, u3, u4⟩ := one_ov wr o
        have HW2 := Lib.hid hw2
        have U1 := Lib.hid u1
        have U2 := Lib.hid u2
        have HI2 := Lib.hid (HI.out.below u3)
        have HDO : Hid (RdB w2 w2.heap.size o.A o.b) := by
          have := RdB.toS ((hDo.below HI.out.bel).below (u3.mono HI.out.bel.size))
          exact RdB.ofS this fun g hg h2 => h2
        have hpp : p < wr.heap.size := HI.out.row.lt
        have HLF : Hid (∀ k, F k → k < wr.heap.size) := HI.out.tr.lts
        clear hr ho hDo hw2 u1 u2 u3 u4 hbb
        go_upto_region 8 with (first | (refine wpList_ldm (cs := ovc o) rfl _ rfl rfl HXC.out (ov_ok _) ?_) | (refine wpList_sw (cs := ovc o) rfl _ _ rfl rfl rfl U1.out (by rw [ov_size]; rfl) (ov_ok _) ?_))
        rw [HW2.out]
        clear HW2 U1 HXC HI
        generalize wr.heap.size = po at *
        have hBB := HBB.out
        have hst := HST.out
        have hsa := HSA.out
        have hfw := HF.out
        have hsm : m.Sm := allB_sm (by omega) (by have := hfw.1; omega)
        have hob : o.b.length ≤ 9000 := by omega
        have HSP := Lib.hid (step_any HI2.out.tr HI2.out.ok hsm HI2.out.rg o HDO.out hob)
        have T12 := Lib.hid HI2.out.row
        have hal := allB_st HI2.out.ok o
        have HBB2 : Hid (allB (stM m o) ≤ sm13 (O.take (k + 1)) ∧ (stM m o).l.length ≤ k + 1) := ⟨by omega, by omega⟩
        have HOK2 := Lib.hid (stM_ok HI2.out.ok o)
        clear hBB hst hsa hfw hsm hob hal HST HBB HDO
        go_wp2_with (first | (refine wpList_ld rfl _ rfl rfl T12.out (rr_ok _ _ _ _ _) ?_) | (refine wpList_ld rfl _ rfl rfl U2.out (ov_ok _) ?_))
        refine HSP.out.mono ?_
        rintro e w3 ⟨A3, c3, F3, rfl, hR3, hT3, hF3, hN3⟩
        generalize stM m o = m3 at *
        obtain ⟨w4, hw4, u1, u2, u3, u4⟩ := one_rr w3 A3 m3.l.length c3 m3.t m3.w
        rw [← rr_zero] at u1
        have HW4 := Lib.hid hw4
        have U1 := Lib.hid u1
        have V2 := Lib.hid u2
        have HI5 := Lib.hid (HI2.out.step hR3 hT3 hF3 hN3 HOK2.out u3)
        have hT24 := hF3.row (fun hk => (HI2.out.fr p hk).2 rfl) T12.out
        have T14 := Lib.hid (hT24.below u3 hT24.lt)
        have hpo : ¬ F po := fun hk => by have := HLF.out po hk; omega
        have hO3 := hF3.row hpo U2.out
        have O5 := Lib.hid ((hO3.below u3 hO3.lt).setRow' (k := p) (by omega) (rrc A3 m3.l.length c3 m3.t m3.w))
        clear hR3 hT3 hF3 hN3 hT24 hO3 hpo hw4 u1 u2 u3 u4 HI2 T12 U2
        go_upto_region 9 with (refine wpList_sw (cs := rrc A3 m3.l.length c3 m3.t m3.w) rfl _ _ rfl rfl rfl U1.out (by rw [rr_size]; rfl) (rr_ok _ _ _ _ _) ?_)
        rw [HW4.out]
        clear HW4 U1
        go_upto_region 10 with (first | (refine wpList_ld rfl _ rfl rfl V2.out (rr_ok _ _ _ _ _) ?_) | (refine wpList_sw (cs := rrc A3 m3.l.length c3 m3.t m3.w) rfl _ _ rfl rfl rfl T14.out (rr_sz _ _ _ _ _ _ _ _ _ _) (rr_ok _ _ _ _ _) ?_))
        clear T14 V2
        generalize w4.setRow p (rrc A3 m3.l.length c3 m3.t m3.w) = w5 at *
        have c0 := (rr_cells HI5.out.row).1
        go_wp2_with fail
        clear c0 HLF
        have hb3 := HSA.out
        have hfw := HF.out
        have hsm3 : m3.Sm := allB_sm (by have := HBB2.out; omega) (by have := HBB2.out; have := hfw.1; omega)
        have HSM := Lib.hid hsm3
        have hrl : (rot m3.l m3.t).length = m3.l.length := rot_len _ _
        have HRL := Lib.hid hrl
        have HO3 := Lib.hid HI5.out.ok
        clear hb3 hfw hsm3 hrl
        have hml : m3.l.length ≤ 1000 := HSM.out.few
        go_loopw [11, 12, 39] (fun a n i wr2 => ∃ j : Nat, j ≤ m3.l.length ∧ i = .int .i64 j ∧ a = .int .i64 (allN ((rot m3.l m3.t).take j)) ∧ n = .bool (((rot m3.l m3.t).take j).any (can m3.w)) ∧ Hid (PlI w wr2 p g m3 A3 c3 F3) ∧ Hid (Row wr2 po 36 (ovc o))) (fun _ _ i _ => m3.l.length - (intOf i).toNat)
        case atStart => exact ⟨0, Nat.zero_le _, rfl, (by rw [allN_z]; rfl), rfl, HI5, O5⟩
        case round =>
          clear HI5 O5
          obtain ⟨j, hj, rfl, rfl, rfl, HI5, O5⟩ := hrel
          by_cases hltj : j < m3.l.length
          · have hjr : j < (rot m3.l m3.t).length := by rw [HRL.out]; exact hltj
            obtain ⟨b3, q3, hA3, hb3, hr3⟩ := HI5.out.rg.rg.at hjr
            have hmem := List.getElem_mem hjr
            have HBY := Lib.hid (by_st HO3.out hmem)
            have hat := allN_take hjr
            have hatl := allN_takele (rot m3.l m3.t) (j + 1)
            have har := allN_rot m3.l m3.t
            have hnt := any_take (f := can m3.w) hjr
            have hab : allN m3.l ≤ 9000 := by have h1 := HBB2.out.1; have h2 := HSA.out; unfold allB at h1; omega
            obtain ⟨x, hxx⟩ : ∃ x, x = (rot m3.l m3.t)[j] := ⟨_, rfl⟩
            rw [← hxx] at hr3 hat hnt HBY
            have HXC : Hid (wr.rangeAt b3 (q3 + j * 6) (snc x).toList) := hr3
            obtain ⟨a0, ha0⟩ : ∃ a0, a0 = allN ((rot m3.l m3.t).take j) := ⟨_, rfl⟩
            obtain ⟨n0, hn0⟩ : ∃ n0, n0 = ((rot m3.l m3.t).take j).any (can m3.w) := ⟨_, rfl⟩
            rw [← ha0] at hat ⊢
            rw [← hn0] at hnt ⊢
            have HAT := Lib.hid hat
            have HNT := Lib.hid hnt
            have hw0 : IntKind.i64.wrap ((a0 : Int) + (x.b.length : Int)) = ((a0 + x.b.length : Nat) : Int) := by rw [IntWalk.i64_in _ (by omega)]; omega
            obtain ⟨w6, hw6, u1, u2, u3, u4⟩ := one_sn wr x
            have HW6 := Lib.hid hw6
            have U1 := Lib.hid u1
            have U2 := Lib.hid u2
            have HI6 := Lib.hid (HI5.out.below u3)
            have O6 := Lib.hid (O5.out.below u3 O5.out.lt)
            clear hr3 hmem hat hatl har hnt hab hxx ha0 hn0 hw6 u1 u2 u3 u4 hb3 O5 HI5
            subst hA3
            go_upto_region 14 with (first | (refine wpList_ldm (cs := snc x) rfl _ rfl rfl HXC.out (sn_ok _) ?_) | (refine wpList_sw (cs := snc x) rfl _ _ rfl rfl rfl U1.out (by rw [sn_size]; rfl) (sn_ok _) ?_))
            rw [HW6.out]
            clear HW6 U1 HXC
            generalize wr.heap.size = px at *
            have s1 := (sn_cells U2.out).2.1
            go_upto_region 15 with fail
            clear s1 hw0
            go_cut [12] from 40 to 72 (fun v wx => v = .bool (n0 || can m3.w x) ∧ Hid (Below w6.heap.size w6 wx))
            case first =>
              have R6 := Lib.hid HI6.out.row
              cases n0 with
              | true =>
                clear HI6 O6 U2
                go_wp2_with fail
                go_meet
                case rel => exact ⟨rfl, Below.refl _ _⟩
              | false =>
                clear HI6 O6
                go_wp2_with (first | (refine wpList_ldg rfl _ rfl rfl R6.out (rr_ok _ _ _ _ _) ?_) | (refine wpList_ldg rfl _ rfl rfl U2.out (sn_ok _) ?_))
                refine (rcan_any _ _ _ _ _ _ _).mono ?_
                rintro e w7 ⟨rfl, hb7⟩
                have HB7 := Lib.hid hb7
                clear hb7 R6 U2
                go_wp2_with fail
                go_meet
                case rel => exact ⟨by rw [Bool.false_or], HB7.out⟩
            case rest =>
              obtain ⟨rfl, hb7⟩ := hcut
              have HI7 := Lib.hid (HI6.out.below hb7.out)
              have O7 := Lib.hid (O6.out.below hb7.out O6.out.lt)
              have U7 := Lib.hid (U2.out.below hb7.out U2.out.lt)
              clear hb7 HI6 O6 U2
              have hwt := twaits_any (w := wc.drew) (HI7.out.tr.keep (w' := wc.drew) fun _ _ => rfl) HSM.out x.st
              have hlf := fun (W : World) (h : Tr W F3 g m3) => tleft_any h HSM.out x.st
              rw [HBY.out.1] at hwt
              rw [HBY.out.2.1] at hlf
              have HLF := Lib.hid hlf
              clear hlf
              go_upto_region 16 with fail
              have d0 : wc.drew.cell? ⟨px, 0, none⟩ = some (.int .u32 x.st) := (sn_cells U7.out).1
              have d1 : wc.drew.cell? ⟨px, 1, none⟩ = some (.string (tb x.b)) := (sn_cells U7.out).2.1
              have d4 : wc.drew.cell? ⟨px, 4, none⟩ = some (.int .i64 x.lf) := (sn_cells U7.out).2.2.2.2.1
              refine wp_region_E 17 (fun w' => w'.cell? ⟨px, 0, none⟩ = some (.int .u32 x.st) ∧ w'.cell? ⟨px, 1, none⟩ = some (.string (tb x.b)) ∧ w'.cell? ⟨px, 4, none⟩ = some (.int .i64 x.lf)) (by kernel_rfl) ⟨d0, d1, d4⟩ (fun hHeld => ?_)
              refine wpAnyE_take (i := 0) (v := ?v0) rfl (by kernel_rfl) (by kernel_rfl) (by kernel_rfl) (by kernel_rfl) (fun _ _ _ h => h) (Or.inl ⟨by rfl, ?hy0⟩) (by assumption) ?rest0
              case hy0 => (intro w hSw; (try dsimp only at hSw); go_simp <;> with_reducible rfl)
              try simp only [Act.put, List.getElem_toArray, List.getElem_cons_zero, List.setIfInBounds_toArray, List.set_cons_zero, List.set_cons_succ]
              refine wpAnyE_take (i := 1) (v := ?v1) rfl (by kernel_rfl) (by kernel_rfl) (by kernel_rfl) (by kernel_rfl) (fun _ _ _ h => h) (Or.inl ⟨by rfl, ?hy1⟩) (by assumption) ?rest1
              case hy1 => (intro w hSw; (try dsimp only at hSw); go_simp <;> with_reducible rfl)
              try simp only [Act.put, List.getElem_toArray, List.getElem_cons_zero, List.getElem_cons_succ, List.setIfInBounds_toArray, List.set_cons_zero, List.set_cons_succ]
              refine wpAnyE_take (i := 2) (v := ?v2) rfl (by kernel_rfl) (by kernel_rfl) (by kernel_rfl) (by kernel_rfl) (fun _ _ _ h => h) (Or.inl ⟨by rfl, ?hy2⟩) (by assumption) ?rest2
              case hy2 => (intro w hSw; (try dsimp only at hSw); go_simp <;> with_reducible rfl)
              try simp only [Act.put, List.getElem_toArray, List.getElem_cons_zero, List.getElem_cons_succ, List.setIfInBounds_toArray, List.set_cons_zero, List.set_cons_succ]
              refine wpAnyE_take (i := 4) (v := ?v4) rfl (by kernel_rfl) (by kernel_rfl) (by kernel_rfl) (by kernel_rfl) (fun _ _ _ h => h) (Or.inl ⟨by rfl, ?hy4⟩) (by assumption) ?rest4
              case hy4 => (intro w hSw; (try dsimp only at hSw); go_simp <;> with_reducible rfl)
              try simp only [Act.put, List.getElem_toArray, List.getElem_cons_zero, List.getElem_cons_succ, List.setIfInBounds_toArray, List.set_cons_zero, List.set_cons_succ]
              refine wpAnyE_take (i := 5) (v := ?v5) rfl (by kernel_rfl) (by kernel_rfl) (by kernel_rfl) (by kernel_rfl) (fun _ _ _ h => h) (Or.inl ⟨by rfl, ?hy5⟩) (by assumption) ?rest5
              case hy5 => (intro w hSw; (try dsimp only at hSw); go_simp <;> with_reducible rfl)
              try simp only [Act.put, List.getElem_toArray, List.getElem_cons_zero, List.getElem_cons_succ, List.setIfInBounds_toArray, List.set_cons_zero, List.set_cons_succ]
              refine wpAnyE_take (i := 6) (v := ?v6) rfl (by kernel_rfl) (by kernel_rfl) (by kernel_rfl) (by kernel_rfl) (fun _ _ _ h => h) (Or.inl ⟨by rfl, ?hy6⟩) (by assumption) ?rest6
              case hy6 => (intro w hSw; (try dsimp only at hSw); go_simp <;> with_reducible rfl)
              try simp only [Act.put, List.getElem_toArray, List.getElem_cons_zero, List.getElem_cons_succ, List.setIfInBounds_toArray, List.set_cons_zero, List.set_cons_succ]
              refine wpAnyE_next (i := 3) (by kernel_rfl) rfl (fun K hK => ?_)
              go_simp
              go_at_call 14
              refine hwt.mono ?_
              rintro e w8 ⟨rfl, hb8⟩
              have hbl : Below wc.heap.size wc w8 := ⟨hb8.os, hb8.tape, hb8.output, hb8.size, hb8.block⟩
              have HI8 := Lib.hid (HI7.out.below hbl)
              have O8 := Lib.hid (O7.out.below hbl O7.out.lt)
              have U8 := Lib.hid (U7.out.below hbl U7.out.lt)
              clear hb8 hbl HI7 O7 U7 d0 d1 d4 hHeld hwt
              have d0 := (sn_cells U8.out).1
              have d1 := (sn_cells U8.out).2.1
              have d4 := (sn_cells U8.out).2.2.2.2.1
              go_simp
              refine hK.out _ _ ⟨d0, d1, d4⟩ (fun hHeld => ?_)
              clear hK K
              try simp only [Act.put, List.getElem_toArray, List.getElem_cons_zero, List.getElem_cons_succ, List.setIfInBounds_toArray, List.set_cons_zero, List.set_cons_succ]
              refine wpAnyE_take (i := 7) (v := ?v7q2) rfl (by kernel_rfl) (by kernel_rfl) (by kernel_rfl) (by kernel_rfl) (fun _ _ _ h => h) (Or.inl ⟨by rfl, ?hy7q2⟩) (by assumption) ?rest7q2
              case hy7q2 => (intro w hSw; (try dsimp only at hSw); go_simp <;> with_reducible rfl)
              try simp only [Act.put, List.getElem_toArray, List.getElem_cons_zero, List.getElem_cons_succ, List.setIfInBounds_toArray, List.set_cons_zero, List.set_cons_succ]
              refine wpAnyE_take (i := 8) (v := ?v8q2) rfl (by kernel_rfl) (by kernel_rfl) (by kernel_rfl) (by kernel_rfl) (fun _ _ _ h => h) (Or.inl ⟨by rfl, ?hy8q2⟩) (by assumption) ?rest8q2
              case hy8q2 => (intro w hSw; (try dsimp only at hSw); go_simp <;> with_reducible rfl)
              try simp only [Act.put, List.getElem_toArray, List.getElem_cons_zero, List.getElem_cons_succ, List.setIfInBounds_toArray, List.set_cons_zero, List.set_cons_succ]
              refine wpAnyE_take (i := 9) (v := ?v9q2) rfl (by kernel_rfl) (by kernel_rfl) (by kernel_rfl) (by kernel_rfl) (fun _ _ _ h => h) (Or.inl ⟨by rfl, ?hy9q2⟩) (by assumption) ?rest9q2
              case hy9q2 => (intro w hSw; (try dsimp only at hSw); go_simp <;> with_reducible rfl)
              try simp only [Act.put, List.getElem_toArray, List.getElem_cons_zero, List.getElem_cons_succ, List.setIfInBounds_toArray, List.set_cons_zero, List.set_cons_succ]
              refine wpAnyE_take (i := 10) (v := ?v10q2) rfl (by kernel_rfl) (by kernel_rfl) (by kernel_rfl) (by kernel_rfl) (fun _ _ _ h => h) (Or.inl ⟨by rfl, ?hy10q2⟩) (by assumption) ?rest10q2
              case hy10q2 => (intro w hSw; (try dsimp only at hSw); go_simp <;> with_reducible rfl)
              try simp only [Act.put, List.getElem_toArray, List.getElem_cons_zero, List.getElem_cons_succ, List.setIfInBounds_toArray, List.set_cons_zero, List.set_cons_succ]
              refine wpAnyE_take (i := 11) (v := ?v11q2) rfl (by kernel_rfl) (by kernel_rfl) (by kernel_rfl) (by kernel_rfl) (fun _ _ _ h => h) (Or.inl ⟨by rfl, ?hy11q2⟩) (by assumption) ?rest11q2
              case hy11q2 => (intro w hSw; (try dsimp only at hSw); go_simp <;> with_reducible rfl)
              try simp only [Act.put, List.getElem_toArray, List.getElem_cons_zero, List.getElem_cons_succ, List.setIfInBounds_toArray, List.set_cons_zero, List.set_cons_succ]
              refine wpAnyE_take (i := 13) (v := ?v13q2) rfl (by kernel_rfl) (by kernel_rfl) (by kernel_rfl) (by kernel_rfl) (fun _ _ _ h => h) (Or.inl ⟨by rfl, ?hy13q2⟩) (by assumption) ?rest13q2
              case hy13q2 => (intro w hSw; (try dsimp only at hSw); go_simp <;> with_reducible rfl)
              try simp only [Act.put, List.getElem_toArray, List.getElem_cons_zero, List.getElem_cons_succ, List.setIfInBounds_toArray, List.set_cons_zero, List.set_cons_succ]
              refine wpAnyE_take (i := 14) (v := ?v14q2) rfl (by kernel_rfl) (by kernel_rfl) (by kernel_rfl) (by kernel_rfl) (fun _ _ _ h => h) (Or.inl ⟨by rfl, ?hy14q2⟩) (by assumption) ?rest14q2
              case hy14q2 => (intro w hSw; (try dsimp only at hSw); go_simp <;> with_reducible rfl)
              try simp only [Act.put, List.getElem_toArray, List.getElem_cons_zero, List.getElem_cons_succ, List.setIfInBounds_toArray, List.set_cons_zero, List.set_cons_succ]
              refine wpAnyE_take (i := 15) (v := ?v15q2) rfl (by kernel_rfl) (by kernel_rfl) (by kernel_rfl) (by kernel_rfl) (fun _ _ _ h => h) (Or.inl ⟨by rfl, ?hy15q2⟩) (by assumption) ?rest15q2
              case hy15q2 => (intro w hSw; (try dsimp only at hSw); go_simp <;> with_reducible rfl)
              try simp only [Act.put, List.getElem_toArray, List.getElem_cons_zero, List.getElem_cons_succ, List.setIfInBounds_toArray, List.set_cons_zero, List.set_cons_succ]
              refine wpAnyE_next (i := 12) (by kernel_rfl) rfl (fun K hK => ?_)
              go_simp
              go_at_call 15
              refine (HLF.out _ HI8.out.tr).mono ?_
              rintro e w9 ⟨rfl, hb9⟩
              have HI9 := Lib.hid (HI8.out.below hb9)
              have O9 := Lib.hid (O8.out.below hb9 O8.out.lt)
              have U9 := Lib.hid (U8.out.below hb9 U8.out.lt)
              clear hb9 HI8 O8 U8 d0 d1 d4 hHeld HLF
              have d0 := (sn_cells U9.out).1
              have d1 := (sn_cells U9.out).2.1
              have d4 := (sn_cells U9.out).2.2.2.2.1
              go_simp
              refine hK.out _ _ ⟨d0, d1, d4⟩ (fun hHeld => ?_)
              clear hK K
              try simp only [Act.put, List.getElem_toArray, List.getElem_cons_zero, List.getElem_cons_succ, List.setIfInBounds_toArray, List.set_cons_zero, List.set_cons_succ]
              refine wpAnyE_take (i := 16) (v := ?v16q3) rfl (by kernel_rfl) (by kernel_rfl) (by kernel_rfl) (by kernel_rfl) (fun _ _ _ h => h) (Or.inl ⟨by rfl, ?hy16q3⟩) (by assumption) ?rest16q3
              case hy16q3 => (intro w hSw; (try dsimp only at hSw); go_simp <;> with_reducible rfl)
              try simp only [Act.put, List.getElem_toArray, List.getElem_cons_zero, List.getElem_cons_succ, List.setIfInBounds_toArray, List.set_cons_zero, List.set_cons_succ]
              refine wpAnyE_last (by kernel_rfl) rfl (by kernel_rfl) (fun K hK => ?_)
              go_simp
              refine hK.out _ _ ?_
              clear hK K hHeld d0 d1 d4
              try simp only [Act.put, List.getElem_toArray, List.getElem_cons_zero, List.getElem_cons_succ, List.setIfInBounds_toArray, List.set_cons_zero, List.set_cons_succ]
              go_wp2_with fail
              go_roundw
              case rel => exact ⟨j + 1, by omega, by go_num, by rw [HAT.out]; rfl, by rw [HNT.out], HI9, O9⟩
              case measure => simp [intOf]; omega
          · obtain rfl : j = m3.l.length := by omega
            have htk : (rot m3.l m3.t).take m3.l.length = rot m3.l m3.t := List.take_of_length_le (by rw [HRL.out]; exact Nat.le_refl _)
            rw [htk, allN_rot, any_rot]
            clear htk
            have hal : allN m3.l ≤ 9000 := by have h1 := HBB2.out.1; have h2 := HSA.out; unfold allB at h1; omega
            have HTA := Lib.hid (fun (W : World) (h : Tr W F3 g m3) => tall_any h HSM.out)
            have HTC := Lib.hid (fun (W : World) (h : Tr W F3 g m3) => tcan_any h HO3.out HSM.out)
            have HTL := Lib.hid (fun (W : World) (h : Tr W F3 g m3) => tleft_any h HSM.out 0)
            have HTW := Lib.hid (fun (W : World) (h : Tr W F3 g m3) => twaits_any h HSM.out o.st)
            have hl0 : lfN m3 0 = m3.w := by unfold lfN; rw [if_pos rfl]
            rw [hl0] at HTL
            clear hl0
            have hfi : Hid (¬ wtN m3 o.st = 0 → 0 ≤ fdI o.st (rot m3.l m3.t)) := fun h => by
              unfold wtN at h
              cases hx : m3.l[fd o.st m3.l]? with
              | none => rw [hx] at h; exact absurd rfl h
              | some x =>
                have h1 := (List.getElem?_eq_some_iff.1 hx).1
                have h2 := HO3.out.lt (by omega)
                rw [fdI_pos (by rw [rot_len, fd_rot HO3.out.uq h2 h1]; exact rp_lt h2 h1)]
                omega
            go_upto_region 19 with fail
            have d0 : wr.drew.cell? ⟨p, 2, none⟩ = some (.int .i64 m3.w) := (rr_cells HI5.out.row).2.2.1
            have d1 : wr.drew.cell? ⟨po, 1, none⟩ = some (.int .u32 o.st) := (ov_cells O5.out).2.1
            have HI5d : Hid (PlI w wr.drew p g m3 A3 c3 F3) := Lib.hid (HI5.out.below ((Below.refl wr.heap.size wr).drew))
            refine wp_region_E 35 (fun w' => w'.cell? ⟨p, 2, none⟩ = some (.int .i64 m3.w) ∧ w'.cell? ⟨po, 1, none⟩ = some (.int .u32 o.st) ∧ Row w' p 31 (rrc A3 m3.l.length c3 m3.t m3.w)) (by kernel_rfl) ⟨d0, d1, HI5.out.row⟩ (fun hHeld => ?_)
            refine wpAnyE_take (i := 0) (v := ?v0q4) rfl (by kernel_rfl) (by kernel_rfl) (by kernel_rfl) (by kernel_rfl) (fun _ _ _ h => h) (Or.inl ⟨by rfl, ?hy0q4⟩) (by assumption) ?rest0q4
            case hy0q4 => (intro w hSw; (try dsimp only at hSw); go_simp <;> with_reducible rfl)
            try simp only [Act.put, List.getElem_toArray, List.getElem_cons_zero, List.setIfInBounds_toArray, List.set_cons_zero, List.set_cons_succ]
            refine wpAnyE_take (i := 1) (v := ?v1q4) rfl (by kernel_rfl) (by kernel_rfl) (by kernel_rfl) (by kernel_rfl) (fun _ _ _ h => h) (Or.inl ⟨by rfl, ?hy1q4⟩) (by assumption) ?rest1q4
            case hy1q4 => (intro w hSw; (try dsimp only at hSw); go_simp <;> with_reducible rfl)
            try simp only [Act.put, List.getElem_toArray, List.getElem_cons_zero, List.getElem_cons_succ, List.setIfInBounds_toArray, List.set_cons_zero, List.set_cons_succ]
            refine wpAnyE_take (i := 2) (v := ?v2q4) rfl (by kernel_rfl) (by kernel_rfl) (by kernel_rfl) (by kernel_rfl) (fun _ _ _ h => h) (Or.inl ⟨by rfl, ?hy2q4⟩) (by assumption) ?rest2q4
            case hy2q4 => (intro w hSw; (try dsimp only at hSw); go_simp <;> with_reducible rfl)
            try simp only [Act.put, List.getElem_toArray, List.getElem_cons_zero, List.getElem_cons_succ, List.setIfInBounds_toArray, List.set_cons_zero, List.set_cons_succ]
            refine wpAnyE_take (i := 3) (v := ?v3q4) rfl (by kernel_rfl) (by kernel_rfl) (by kernel_rfl) (by kernel_rfl) (fun _ _ _ h => h) (Or.inl ⟨by rfl, ?hy3q4⟩) (by assumption) ?rest3q4
            case hy3q4 => (intro w hSw; (try dsimp only at hSw); go_simp <;> with_reducible rfl)
            try simp only [Act.put, List.getElem_toArray, List.getElem_cons_zero, List.getElem_cons_succ, List.setIfInBounds_toArray, List.set_cons_zero, List.set_cons_succ]
            refine wpAnyE_take (i := 5) (v := ?v5q4) rfl (by kernel_rfl) (by kernel_rfl) (by kernel_rfl) (by kernel_rfl) (fun _ _ _ h => h) (Or.inl ⟨by rfl, ?hy5q4⟩) (by assumption) ?rest5q4
            case hy5q4 => (intro w hSw; (try dsimp only at hSw); go_simp <;> with_reducible rfl)
            try simp only [Act.put, List.getElem_toArray, List.getElem_cons_zero, List.getElem_cons_succ, List.setIfInBounds_toArray, List.set_cons_zero, List.set_cons_succ]
            refine wpAnyE_next (i := 4) (by kernel_rfl) rfl (fun K hK => ?_)
            go_simp
            go_at_call 16
            refine (HTA.out _ HI5d.out.tr).mono ?_
            rintro e w6 ⟨rfl, hb6⟩
            have HI6 := Lib.hid (HI5d.out.below hb6)
            have O6 := Lib.hid (Row.below (w := wr.drew) O5.out hb6 O5.out.lt)
            clear hb6 HI5 HI5d O5 d0 d1 hHeld HTA
            go_simp
            refine hK.out _ _ ⟨(rr_cells HI6.out.row).2.2.1, (ov_cells O6.out).2.1, HI6.out.row⟩ (fun hHeld => ?_)
            clear hK K
            try simp only [Act.put, List.getElem_toArray, List.getElem_cons_zero, List.getElem_cons_succ, List.setIfInBounds_toArray, List.set_cons_zero, List.set_cons_succ]
            refine wpAnyE_take (i := 6) (v := ?v6q5) rfl (by kernel_rfl) (by kernel_rfl) (by kernel_rfl) (by kernel_rfl) (fun _ _ _ h => h) (Or.inl ⟨by rfl, ?hy6q5⟩) (by assumption) ?rest6q5
            case hy6q5 => (intro w hSw; (try dsimp only at hSw); go_simp <;> with_reducible rfl)
            try simp only [Act.put, List.getElem_toArray, List.getElem_cons_zero, List.getElem_cons_succ, List.setIfInBounds_toArray, List.set_cons_zero, List.set_cons_succ]
            refine wpAnyE_take (i := 7) (v := ?v7q5) rfl (by kernel_rfl) (by kernel_rfl) (by kernel_rfl) (by kernel_rfl) (fun _ _ _ h => h) (Or.inl ⟨by rfl, ?hy7q5⟩) (by assumption) ?rest7q5
            case hy7q5 => (intro w hSw; (try dsimp only at hSw); go_simp <;> with_reducible rfl)
            try simp only [Act.put, List.getElem_toArray, List.getElem_cons_zero, List.getElem_cons_succ, List.setIfInBounds_toArray, List.set_cons_zero, List.set_cons_succ]
            refine wpAnyE_take (i := 8) (v := ?v8q5) rfl (by kernel_rfl) (by kernel_rfl) (by kernel_rfl) (by kernel_rfl) (fun _ _ _ h => h) (Or.inl ⟨by rfl, ?hy8q5⟩) (by assumption) ?rest8q5
            case hy8q5 => (intro w hSw; (try dsimp only at hSw); go_simp <;> with_reducible rfl)
            try simp only [Act.put, List.getElem_toArray, List.getElem_cons_zero, List.getElem_cons_succ, List.setIfInBounds_toArray, List.set_cons_zero, List.set_cons_succ]
            refine wpAnyE_take (i := 9) (v := ?v9q5) rfl (by kernel_rfl) (by kernel_rfl) (by kernel_rfl) (by kernel_rfl) (fun _ _ _ h => h) (Or.inl ⟨by rfl, ?hy9q5⟩) (by assumption) ?rest9q5
            case hy9q5 => (intro w hSw; (try dsimp only at hSw); go_simp <;> with_reducible rfl)
            try simp only [Act.put, List.getElem_toArray, List.getElem_cons_zero, List.getElem_cons_succ, List.setIfInBounds_toArray, List.set_cons_zero, List.set_cons_succ]
            refine wpAnyE_take (i := 11) (v := ?v11q5) rfl (by kernel_rfl) (by kernel_rfl) (by kernel_rfl) (by kernel_rfl) (fun _ _ _ h => h) (Or.inl ⟨by rfl, ?hy11q5⟩) (by assumption) ?rest11q5
            case hy11q5 => (intro w hSw; (try dsimp only at hSw); go_simp <;> with_reducible rfl)
            try simp only [Act.put, List.getElem_toArray, List.getElem_cons_zero, List.getElem_cons_succ, List.setIfInBounds_toArray, List.set_cons_zero, List.set_cons_succ]
            refine wpAnyE_next (i := 10) (by kernel_rfl) rfl (fun K hK => ?_)
            go_simp
            go_at_call 17
            refine (HTC.out _ HI6.out.tr).mono ?_
            rintro e w7 ⟨rfl, hb7⟩
            have HI7 := Lib.hid (HI6.out.below hb7)
            have O7 := Lib.hid (O6.out.below hb7 O6.out.lt)
            clear hb7 HI6 O6 hHeld
            go_simp
            refine hK.out _ _ ⟨(rr_cells HI7.out.row).2.2.1, (ov_cells O7.out).2.1, HI7.out.row⟩ (fun hHeld => ?_)
            clear hK K
            try simp only [Act.put, List.getElem_toArray, List.getElem_cons_zero, List.getElem_cons_succ, List.setIfInBounds_toArray, List.set_cons_zero, List.set_cons_succ]
            refine wpAnyE_take (i := 12) (v := ?v12q6) rfl (by kernel_rfl) (by kernel_rfl) (by kernel_rfl) (by kernel_rfl) (fun _ _ _ h => h) (Or.inl ⟨by rfl, ?hy12q6⟩) (by assumption) ?rest12q6
            case hy12q6 => (intro w hSw; (try dsimp only at hSw); go_simp <;> with_reducible rfl)
            try simp only [Act.put, List.getElem_toArray, List.getElem_cons_zero, List.getElem_cons_succ, List.setIfInBounds_toArray, List.set_cons_zero, List.set_cons_succ]
            refine wpAnyE_take (i := 13) (v := ?v13q6) rfl (by kernel_rfl) (by kernel_rfl) (by kernel_rfl) (by kernel_rfl) (fun _ _ _ h => h) (Or.inl ⟨by rfl, ?hy13q6⟩) (by assumption) ?rest13q6
            case hy13q6 => (intro w hSw; (try dsimp only at hSw); go_simp <;> with_reducible rfl)
            try simp only [Act.put, List.getElem_toArray, List.getElem_cons_zero, List.getElem_cons_succ, List.setIfInBounds_toArray, List.set_cons_zero, List.set_cons_succ]
            refine wpAnyE_take (i := 14) (v := ?v14q6) rfl (by kernel_rfl) (by kernel_rfl) (by kernel_rfl) (by kernel_rfl) (fun _ _ _ h => h) (Or.inl ⟨by rfl, ?hy14q6⟩) (by assumption) ?rest14q6
            case hy14q6 => (intro w hSw; (try dsimp only at hSw); go_simp <;> with_reducible rfl)
            try simp only [Act.put, List.getElem_toArray, List.getElem_cons_zero, List.getElem_cons_succ, List.setIfInBounds_toArray, List.set_cons_zero, List.set_cons_succ]
            refine wpAnyE_take (i := 15) (v := ?v15q6) rfl (by kernel_rfl) (by kernel_rfl) (by kernel_rfl) (by kernel_rfl) (fun _ _ _ h => h) (Or.inl ⟨by rfl, ?hy15q6⟩) (by assumption) ?rest15q6
            case hy15q6 => (intro w hSw; (try dsimp only at hSw); go_simp <;> with_reducible rfl)
            try simp only [Act.put, List.getElem_toArray, List.getElem_cons_zero, List.getElem_cons_succ, List.setIfInBounds_toArray, List.set_cons_zero, List.set_cons_succ]
            refine wpAnyE_take (i := 17) (v := ?v17q6) rfl (by kernel_rfl) (by kernel_rfl) (by kernel_rfl) (by kernel_rfl) (fun _ _ _ h => h) (Or.inl ⟨by rfl, ?hy17q6⟩) (by assumption) ?rest17q6
            case hy17q6 => (intro w hSw; (try dsimp only at hSw); go_simp <;> with_reducible rfl)
            try simp only [Act.put, List.getElem_toArray, List.getElem_cons_zero, List.getElem_cons_succ, List.setIfInBounds_toArray, List.set_cons_zero, List.set_cons_succ]
            refine wpAnyE_take (i := 18) (v := ?v18q6) rfl (by kernel_rfl) (by kernel_rfl) (by kernel_rfl) (by kernel_rfl) (fun _ _ _ h => h) (Or.inl ⟨by rfl, ?hy18q6⟩) (by assumption) ?rest18q6
            case hy18q6 => (intro w hSw; (try dsimp only at hSw); go_simp <;> with_reducible rfl)
            try simp only [Act.put, List.getElem_toArray, List.getElem_cons_zero, List.getElem_cons_succ, List.setIfInBounds_toArray, List.set_cons_zero, List.set_cons_succ]
            refine wpAnyE_take (i := 19) (v := ?v19q6) rfl (by kernel_rfl) (by kernel_rfl) (by kernel_rfl) (by kernel_rfl) (fun _ _ _ h => h) (Or.inl ⟨by rfl, ?hy19q6⟩) (by assumption) ?rest19q6
            case hy19q6 => (intro w hSw; (try dsimp only at hSw); go_simp <;> with_reducible rfl)
            try simp only [Act.put, List.getElem_toArray, List.getElem_cons_zero, List.getElem_cons_succ, List.setIfInBounds_toArray, List.set_cons_zero, List.set_cons_succ]
            refine wpAnyE_next (i := 16) (by kernel_rfl) rfl (fun K hK => ?_)
            go_simp
            go_at_call 15
            refine (HTL.out _ HI7.out.tr).mono ?_
            rintro e w8 ⟨rfl, hb8⟩
            have HI8 := Lib.hid (HI7.out.below hb8)
            have O8 := Lib.hid (O7.out.below hb8 O7.out.lt)
            clear hb8 HI7 O7 hHeld
            go_simp
            refine hK.out _ _ ⟨(rr_cells HI8.out.row).2.2.1, (ov_cells O8.out).2.1, HI8.out.row⟩ (fun hHeld => ?_)
            clear hK K
            try simp only [Act.put, List.getElem_toArray, List.getElem_cons_zero, List.getElem_cons_succ, List.setIfInBounds_toArray, List.set_cons_zero, List.set_cons_succ]
            refine wpAnyE_take (i := 20) (v := ?v20q7) rfl (by kernel_rfl) (by kernel_rfl) (by kernel_rfl) (by kernel_rfl) (fun _ _ _ h => h) (Or.inl ⟨by rfl, ?hy20q7⟩) (by assumption) ?rest20q7
            case hy20q7 => (intro w hSw; (try dsimp only at hSw); go_simp <;> with_reducible rfl)
            try simp only [Act.put, List.getElem_toArray, List.getElem_cons_zero, List.getElem_cons_succ, List.setIfInBounds_toArray, List.set_cons_zero, List.set_cons_succ]
            refine wpAnyE_take (i := 21) (v := ?v21q7) rfl (by kernel_rfl) (by kernel_rfl) (by kernel_rfl) (by kernel_rfl) (fun _ _ _ h => h) (Or.inl ⟨by rfl, ?hy21q7⟩) (by assumption) ?rest21q7
            case hy21q7 => (intro w hSw; (try dsimp only at hSw); go_simp <;> with_reducible rfl)
            try simp only [Act.put, List.getElem_toArray, List.getElem_cons_zero, List.getElem_cons_succ, List.setIfInBounds_toArray, List.set_cons_zero, List.set_cons_succ]
            refine wpAnyE_take (i := 22) (v := ?v22q7) rfl (by kernel_rfl) (by kernel_rfl) (by kernel_rfl) (by kernel_rfl) (fun _ _ _ h => h) (Or.inl ⟨by rfl, ?hy22q7⟩) (by assumption) ?rest22q7
            case hy22q7 => (intro w hSw; (try dsimp only at hSw); go_simp <;> with_reducible rfl)
            try simp only [Act.put, List.getElem_toArray, List.getElem_cons_zero, List.getElem_cons_succ, List.setIfInBounds_toArray, List.set_cons_zero, List.set_cons_succ]
            refine wpAnyE_take (i := 23) (v := ?v23q7) rfl (by kernel_rfl) (by kernel_rfl) (by kernel_rfl) (by kernel_rfl) (fun _ _ _ h => h) (Or.inl ⟨by rfl, ?hy23q7⟩) (by assumption) ?rest23q7
            case hy23q7 => (intro w hSw; (try dsimp only at hSw); go_simp <;> with_reducible rfl)
            try simp only [Act.put, List.getElem_toArray, List.getElem_cons_zero, List.getElem_cons_succ, List.setIfInBounds_toArray, List.set_cons_zero, List.set_cons_succ]
            refine wpAnyE_take (i := 24) (v := ?v24q7) rfl (by kernel_rfl) (by kernel_rfl) (by kernel_rfl) (by kernel_rfl) (fun _ _ _ h => h) (Or.inl ⟨by rfl, ?hy24q7⟩) (by assumption) ?rest24q7
            case hy24q7 => (intro w hSw; (try dsimp only at hSw); go_simp <;> with_reducible rfl)
            try simp only [Act.put, List.getElem_toArray, List.getElem_cons_zero, List.getElem_cons_succ, List.setIfInBounds_toArray, List.set_cons_zero, List.set_cons_succ]
            refine wpAnyE_take (i := 25) (v := ?v25q7) rfl (by kernel_rfl) (by kernel_rfl) (by kernel_rfl) (by kernel_rfl) (fun _ _ _ h => h) (Or.inl ⟨by rfl, ?hy25q7⟩) (by assumption) ?rest25q7
            case hy25q7 => (intro w hSw; (try dsimp only at hSw); go_simp <;> with_reducible rfl)
            try simp only [Act.put, List.getElem_toArray, List.getElem_cons_zero, List.getElem_cons_succ, List.setIfInBounds_toArray, List.set_cons_zero, List.set_cons_succ]
            refine wpAnyE_next (i := 26) (by kernel_rfl) rfl (fun K hK => ?_)
            go_simp
            go_at_call 14
            refine (HTW.out _ HI8.out.tr).mono ?_
            rintro e w9 ⟨rfl, hb9⟩
            have HI9 := Lib.hid (HI8.out.below hb9)
            have O9 := Lib.hid (O8.out.below hb9 O8.out.lt)
            clear hb9 HI8 O8 hHeld
            go_simp
            refine hK.out _ _ ⟨(rr_cells HI9.out.row).2.2.1, (ov_cells O9.out).2.1, HI9.out.row⟩ (fun hHeld => ?_)
            clear hK K
            try simp only [Act.put, List.getElem_toArray, List.getElem_cons_zero, List.getElem_cons_succ, List.setIfInBounds_toArray, List.set_cons_zero, List.set_cons_succ]
            clear HTC HTL HTW
            by_cases hwz : wtN m3 o.st = 0
            · have hz : ((wtN m3 o.st : Nat) : Int) = 0 := by omega
              rw [hz]
              clear hfi hwz
              refine wpAnyE_take (i := 27) (v := ?v27q8) rfl (by kernel_rfl) (by kernel_rfl) (by kernel_rfl) (by kernel_rfl) (fun _ _ _ h => h) (Or.inl ⟨by rfl, ?hy27q8⟩) (by assumption) ?rest27q8
              case hy27q8 => (intro w hSw; (try dsimp only at hSw); go_simp <;> with_reducible rfl)
              try simp only [Act.put, List.getElem_toArray, List.getElem_cons_zero, List.getElem_cons_succ, List.setIfInBounds_toArray, List.set_cons_zero, List.set_cons_succ]
              refine wpAnyE_take (i := 28) (v := ?v28q8) rfl (by kernel_rfl) (by kernel_rfl) (by kernel_rfl) (by kernel_rfl) (fun _ _ _ h => h) (Or.inl ⟨by rfl, ?hy28q8⟩) (by assumption) ?rest28q8
              case hy28q8 => (intro w hSw; (try dsimp only at hSw); go_simp <;> with_reducible rfl)
              try simp only [Act.put, List.getElem_toArray, List.getElem_cons_zero, List.getElem_cons_succ, List.setIfInBounds_toArray, List.set_cons_zero, List.set_cons_succ]
              refine wpAnyE_take (i := 29) (v := undef) rfl (by kernel_rfl) (by kernel_rfl) (by kernel_rfl) (by kernel_rfl) (fun _ _ _ h => h) (Or.inr ⟨by rfl, rfl⟩) (by assumption) ?rest29q8
              try simp only [Act.put, List.getElem_toArray, List.getElem_cons_zero, List.getElem_cons_succ, List.setIfInBounds_toArray, List.set_cons_zero, List.set_cons_succ]
              refine wpAnyE_take (i := 30) (v := undef) rfl (by kernel_rfl) (by kernel_rfl) (by kernel_rfl) (by kernel_rfl) (fun _ _ _ h => h) (Or.inr ⟨by rfl, rfl⟩) (by assumption) ?rest30q8
              try simp only [Act.put, List.getElem_toArray, List.getElem_cons_zero, List.getElem_cons_succ, List.setIfInBounds_toArray, List.set_cons_zero, List.set_cons_succ]
              refine wpAnyE_take (i := 31) (v := undef) rfl (by kernel_rfl) (by kernel_rfl) (by kernel_rfl) (by kernel_rfl) (fun _ _ _ h => h) (Or.inr ⟨by rfl, rfl⟩) (by assumption) ?rest31q8
              try simp only [Act.put, List.getElem_toArray, List.getElem_cons_zero, List.getElem_cons_succ, List.setIfInBounds_toArray, List.set_cons_zero, List.set_cons_succ]
              refine wpAnyE_take (i := 32) (v := undef) rfl (by kernel_rfl) (by kernel_rfl) (by kernel_rfl) (by kernel_rfl) (fun _ _ _ h => h) (Or.inr ⟨by rfl, rfl⟩) (by assumption) ?rest32q8
              try simp only [Act.put, List.getElem_toArray, List.getElem_cons_zero, List.getElem_cons_succ, List.setIfInBounds_toArray, List.set_cons_zero, List.set_cons_succ]
              refine wpAnyE_take (i := 33) (v := undef) rfl (by kernel_rfl) (by kernel_rfl) (by kernel_rfl) (by kernel_rfl) (fun _ _ _ h => h) (Or.inr ⟨by rfl, rfl⟩) (by assumption) ?rest33q8
              try simp only [Act.put, List.getElem_toArray, List.getElem_cons_zero, List.getElem_cons_succ, List.setIfInBounds_toArray, List.set_cons_zero, List.set_cons_succ]
              refine wpAnyE_take (i := 34) (v := ?v34q8) rfl (by kernel_rfl) (by kernel_rfl) (by kernel_rfl) (by kernel_rfl) (fun _ _ _ h => h) (Or.inl ⟨by rfl, ?hy34q8⟩) (by assumption) ?rest34q8
              case hy34q8 => (intro w hSw; (try dsimp only at hSw); go_simp <;> with_reducible rfl)
              try simp only [Act.put, List.getElem_toArray, List.getElem_cons_zero, List.getElem_cons_succ, List.setIfInBounds_toArray, List.set_cons_zero, List.set_cons_succ]
              refine wpAnyE_last (by kernel_rfl) rfl (by kernel_rfl) (fun K hK => ?_)
              go_simp
              refine hK.out _ _ ?_
              clear hK K hHeld
              try simp only [Act.put, List.getElem_toArray, List.getElem_cons_zero, List.getElem_cons_succ, List.setIfInBounds_toArray, List.set_cons_zero, List.set_cons_succ]
              go_wp2_with fail
              go_roundw
              case rel => exact ⟨k + 1, m3, A3, c3, F3, by omega, by go_num, HI9, HBB2⟩
              case measure => simp [intOf]; omega
            · have hz : ((((wtN m3 o.st : Nat) : Int)) != 0) = true := bne_iff_ne.2 (by omega)
              have hfz := hfi.out hwz
              have hlt0 : decide (fdI o.st (rot m3.l m3.t) < 0) = false := decide_eq_false (by omega)
              have hfind := fun W (h : Rg W A3 c3 (rot m3.l m3.t)) => rfind_any (f := m3.t) (l := m3.w) h o.st
              rw [HRL.out] at hfind
              clear hfi hfz hwz
              generalize fdI o.st (rot m3.l m3.t) = z9 at *
              refine wpAnyE_take (i := 27) (v := ?v27q9) rfl (by kernel_rfl) (by kernel_rfl) (by kernel_rfl) (by kernel_rfl) (fun _ _ _ h => h) (Or.inl ⟨by rfl, ?hy27q9⟩) (by assumption) ?rest27q9
              case hy27q9 => (intro w hSw; (try dsimp only at hSw); go_simp <;> with_reducible rfl)
              try simp only [Act.put, List.getElem_toArray, List.getElem_cons_zero, List.getElem_cons_succ, List.setIfInBounds_toArray, List.set_cons_zero, List.set_cons_succ]
              refine wpAnyE_take (i := 28) (v := ?v28q9) rfl (by kernel_rfl) (by kernel_rfl) (by kernel_rfl) (by kernel_rfl) (fun _ _ _ h => h) (Or.inl ⟨by rfl, ?hy28q9⟩) (by assumption) ?rest28q9
              case hy28q9 => (intro w hSw; (try dsimp only at hSw); go_simp <;> with_reducible rfl)
              try simp only [Act.put, List.getElem_toArray, List.getElem_cons_zero, List.getElem_cons_succ, List.setIfInBounds_toArray, List.set_cons_zero, List.set_cons_succ]
              refine wpAnyE_take (i := 29) (v := _) rfl (by kernel_rfl) (by kernel_rfl) (by kernel_rfl) (by kernel_rfl) (fun _ _ _ h => h) (yields_ld (by rfl) _ rfl rfl (rr_ok _ _ _ _ _) (fun _ hSw => hSw.2.2)) (by assumption) ?rest29w1
              try simp only [Act.put, List.getElem_toArray, List.getElem_cons_zero, List.getElem_cons_succ, List.setIfInBounds_toArray, List.set_cons_zero, List.set_cons_succ]
              refine wpAnyE_take (i := 30) (v := ?v30q10) rfl (by kernel_rfl) (by kernel_rfl) (by kernel_rfl) (by kernel_rfl) (fun _ _ _ h => h) (Or.inl ⟨by rfl, ?hy30q10⟩) (by assumption) ?rest30q10
              case hy30q10 => (intro w hSw; (try dsimp only at hSw); go_simp <;> with_reducible rfl)
              try simp only [Act.put, List.getElem_toArray, List.getElem_cons_zero, List.getElem_cons_succ, List.setIfInBounds_toArray, List.set_cons_zero, List.set_cons_succ]
              refine wpAnyE_take (i := 31) (v := ?v31q10) rfl (by kernel_rfl) (by kernel_rfl) (by kernel_rfl) (by kernel_rfl) (fun _ _ _ h => h) (Or.inl ⟨by rfl, ?hy31q10⟩) (by assumption) ?rest31q10
              case hy31q10 => (intro w hSw; (try dsimp only at hSw); go_simp <;> with_reducible rfl)
              try simp only [Act.put, List.getElem_toArray, List.getElem_cons_zero, List.getElem_cons_succ, List.setIfInBounds_toArray, List.set_cons_zero, List.set_cons_succ]
              refine wpAnyE_next (i := 32) (by kernel_rfl) rfl (fun K hK => ?_)
              go_simp
              go_at_call 18
              refine (hfind _ HI9.out.rg.rg).mono ?_
              rintro e w10 ⟨rfl, hb10⟩
              have HI10 := Lib.hid (HI9.out.below hb10)
              have O10 := Lib.hid (O9.out.below hb10 O9.out.lt)
              clear hb10 HI9 O9 hHeld hfind
              go_simp
              refine hK.out _ _ ⟨(rr_cells HI10.out.row).2.2.1, (ov_cells O10.out).2.1, HI10.out.row⟩ (fun hHeld => ?_)
              clear hK K
              try simp only [Act.put, List.getElem_toArray, List.getElem_cons_zero, List.getElem_cons_succ, List.setIfInBounds_toArray, List.set_cons_zero, List.set_cons_succ]
              refine wpAnyE_take (i := 33) (v := ?v33q11) rfl (by kernel_rfl) (by kernel_rfl) (by kernel_rfl) (by kernel_rfl) (fun _ _ _ h => h) (Or.inl ⟨by rfl, ?hy33q11⟩) (by assumption) ?rest33q11
              case hy33q11 => (intro w hSw; (try dsimp only at hSw); go_simp <;> with_reducible rfl)
              try simp only [Act.put, List.getElem_toArray, List.getElem_cons_zero, List.getElem_cons_succ, List.setIfInBounds_toArray, List.set_cons_zero, List.set_cons_succ]
              refine wpAnyE_take (i := 34) (v := ?v34q11) rfl (by kernel_rfl) (by kernel_rfl) (by kernel_rfl) (by kernel_rfl) (fun _ _ _ h => h) (Or.inl ⟨by rfl, ?hy34q11⟩) (by assumption) ?rest34q11
              case hy34q11 => (intro w hSw; (try dsimp only at hSw); go_simp <;> with_reducible rfl)
              try simp only [Act.put, List.getElem_toArray, List.getElem_cons_zero, List.getElem_cons_succ, List.setIfInBounds_toArray, List.set_cons_zero, List.set_cons_succ]
              refine wpAnyE_last (by kernel_rfl) rfl (by kernel_rfl) (fun K hK => ?_)
              go_simp
              refine hK.out _ _ ?_
              clear hK K hHeld
              try simp only [Act.put, List.getElem_toArray, List.getElem_cons_zero, List.getElem_cons_succ, List.setIfInBounds_toArray, List.set_cons_zero, List.set_cons_succ]
              go_wp2_with fail
              go_roundw
              case rel => exact ⟨k + 1, m3, A3, c3, F3, by omega, by go_num, HI10, HBB2⟩
              case measure => simp [intOf]; omega
      · obtain rfl : k = O.length := by omega
        clear HBB
        go_wp2_with fail
        refine (fixed13_any wr).mono ?_
        rintro e w5 ⟨rfl, hb5⟩
        have HB5 := Lib.hid (HI.out.bel.trans (hb5.mono HI.out.bel.size))
        clear hb5 HI
        go_wp2_with fail
        go_ret
        exact ⟨rfl, HB5.out⟩
end Go.Proofs.Ytplohgaecoobaaa
