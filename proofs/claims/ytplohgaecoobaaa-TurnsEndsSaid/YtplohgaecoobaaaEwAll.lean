/-
  TurnsEnds: for any row of bytes and any number the law answers true. No conditions.
  TurnsEnds: the law's walk. No conditions but those of slices as they come in.
  A row of bytes, as it comes in: their cells, their bytes read. No conditions.
-/
import Derived.Test.YtplohgaecoobaaaUem
import Derived.Test.YtplohgaecoobaaaUfw
import Derived.Deep.CutBlock
import Derived.Deep.RegionHeld3
import Derived.Test.YtplohgaecoobaaaUar
import Derived.Test.YtplohgaecoobaaaPost

namespace Go.Proofs.Ytplohgaecoobaaa
open Go.RowKit Go.WideShapes

/-- Bytes as they come in. -/
structure Bh where
  A : Option Addr
  c : Nat
  b : List UInt8
def bhc (h : Bh) : List Value := [.slice h.A h.b.length h.c]
theorem bhc_len (h : Bh) : (bhc h).length = 1 := rfl
theorem bh_at {w : World} {S : Nat → Prop} {A : Option Addr} {O : List Bh} (h : RdS w S A (enl bhc O)) {i : Nat} (hi : i < O.length) : ∃ b q, A = some ⟨b, q, none⟩ ∧ w.cell? ⟨b, q + i, none⟩ = some (.slice O[i].A O[i].b.length O[i].c) := by
  obtain ⟨b, q, hA, _, hcl⟩ := h (enl_ne bhc_len (by omega) (by omega))
  refine ⟨b, q, hA, ?_⟩
  have := hcl (i * 1 + 0) _ (by rw [enl_at bhc_len hi (by omega)]; rfl)
  simpa using this
/-- Rows of texts, of bools. -/
def gsc (G : List (List UInt8)) : Array Value := (G.map fun g => Value.string (tb g)).toArray
def esc (E : List Bool) : Array Value := (E.map Value.bool).toArray
theorem gsc_at {G : List (List UInt8)} {j : Nat} {g : List UInt8} (h : G[j]? = some g) : (gsc G)[j]? = some (.string (tb g)) := by unfold gsc; simp [h]
theorem esc_at {E : List Bool} {j : Nat} {e : Bool} (h : E[j]? = some e) : (esc E)[j]? = some (.bool e) := by unfold esc; simp [h]
theorem gsc_set (G : List (List UInt8)) (j : Nat) (g : List UInt8) : (gsc G).setIfInBounds j (.string (tb g)) = gsc (G.set j g) := by unfold gsc; simp [List.map_set]
theorem esc_set (E : List Bool) (j : Nat) (e : Bool) : (esc E).setIfInBounds j (.bool e) = esc (E.set j e) := by unfold esc; simp [List.map_set]
theorem str_info : (Try.prog.info? 9).map (fun i => (i.zero, i.size, i.bytes)) = some (some (.string ⟨#[]⟩), 1, 16) := by kernel_rfl
theorem bool_info : (Try.prog.info? 4).map (fun i => (i.zero, i.size, i.bytes)) = some (some (.bool false), 1, 1) := by kernel_rfl
theorem made_rep (z : Value) (n : Nat) : madeCells #[z] n = (List.replicate n z).toArray := by
  apply Array.ext
  · rw [size_madeCells, List.size_toArray, List.length_replicate]
  · intro i h1 h2
    simp [madeCells, Nat.mod_one]
theorem mk_gs (n : Nat) (hn : n ≤ 1000) (W : World) : (Instr.makeSlice 62 (.int .i64 (n : Int)) (.int .i64 (n : Int))).run Try.prog W = .ok (.slice (some ⟨W.heap.size, 0, none⟩) n n) (W.alloc (.cells (gsc (List.replicate n [])) 9)) := by
  have h := run_make_row' (P := Try.prog) 62 9 (.string ⟨#[]⟩) 16 Try.underlying62 str_info rfl .i64 .i64 n (by omega) (by omega) W
  rw [made_rep] at h
  unfold gsc
  rw [List.map_replicate]
  exact h
theorem mk_es (n : Nat) (hn : n ≤ 1000) (W : World) : (Instr.makeSlice 63 (.int .i64 (n : Int)) (.int .i64 (n : Int))).run Try.prog W = .ok (.slice (some ⟨W.heap.size, 0, none⟩) n n) (W.alloc (.cells (esc (List.replicate n false)) 4)) := by
  have h := run_make_row' (P := Try.prog) 63 4 (.bool false) 1 Try.underlying63 bool_info rfl .i64 .i64 n (by omega) (by omega) W
  rw [made_rep] at h
  unfold esc
  rw [List.map_replicate]
  exact h
/-- What holds in the law's second loop. -/
structure EwI (w wr : World) (F : Nat → Prop) (g pg pe : Nat) (L : List (List UInt8)) (m : Rm) (G : List (List UInt8)) (E : List Bool) : Prop where
  t : Tr wr F g m
  ok : m.Ok
  fr : ∀ x, F x → w.heap.size ≤ x
  gr : Row wr pg 9 (gsc G)
  er : Row wr pe 4 (esc E)
  b : Below w.heap.size w wr
  lo : w.heap.size ≤ pg ∧ w.heap.size ≤ pe
theorem EwI.nf {w wr : World} {F : Nat → Prop} {g pg pe : Nat} {L : List (List UInt8)} {m : Rm} {G : List (List UInt8)} {E : List Bool} (h : EwI w wr F g pg pe L m G E) : ¬ F pg ∧ ¬ F pe :=
  ⟨h.t.no h.gr (by decide) (by decide) (by decide) (by decide) (by decide), h.t.no h.er (by decide) (by decide) (by decide) (by decide) (by decide)⟩
theorem EwI.below {w wr w' : World} {F : Nat → Prop} {g pg pe : Nat} {L : List (List UInt8)} {m : Rm} {G : List (List UInt8)} {E : List Bool} (h : EwI w wr F g pg pe L m G E) (hb : Below wr.heap.size wr w') : EwI w w' F g pg pe L m G E :=
  ⟨h.t.below hb, h.ok, h.fr, h.gr.below hb h.gr.lt, h.er.below hb h.er.lt, h.b.trans (hb.mono h.b.size), h.lo⟩
/-- Behind a turn. -/
theorem EwI.on {w wr w' : World} {F F' : Nat → Prop} {g pg pe : Nat} {L : List (List UInt8)} {m m' : Rm} {G : List (List UInt8)} {E : List Bool} (h : EwI w wr F g pg pe L m G E) (hm : m'.Ok) (hT : Tr w' F' g m') (hF : Fs F wr w') (hN : ∀ k, F' k → F k ∨ wr.heap.size ≤ k) : EwI w w' F' g pg pe L m' G E :=
  ⟨hT, hm, fun x hx => by
    rcases hN x hx with h1 | h1
    · exact h.fr x h1
    · have := h.b.size; omega, hF.row h.nf.1 h.gr, hF.row h.nf.2 h.er, h.b.trans (hF.below (fun x hx _ => h.fr x hx) h.b.size), h.lo⟩
theorem EwI.setG {w wr : World} {F : Nat → Prop} {g pg pe : Nat} {L : List (List UInt8)} {m : Rm} {G : List (List UInt8)} {E : List Bool} (h : EwI w wr F g pg pe L m G E) (j : Nat) (s : List UInt8) : EwI w (wr.setCell ⟨pg, j, none⟩ (.string (tb s))) F g pg pe L m (G.set j s) E := by
  refine ⟨h.t.keep fun k hk => Below.heap_setCell wr ⟨pg, j, none⟩ _ k (fun e => h.nf.1 (by rw [← show k = pg from e]; exact hk)), h.ok, h.fr, ?_, h.er.stored' (a := ⟨pg, j, none⟩) (fun e => h.gr.ne_type h.er (by decide) e.symm) _, h.b.setCell (p := ⟨pg, j, none⟩) h.lo.1 _, h.lo⟩
  have := h.gr.stored j (.string (tb s))
  rw [gsc_set] at this
  exact this
theorem EwI.setE {w wr : World} {F : Nat → Prop} {g pg pe : Nat} {L : List (List UInt8)} {m : Rm} {G : List (List UInt8)} {E : List Bool} (h : EwI w wr F g pg pe L m G E) (j : Nat) (e : Bool) : EwI w (wr.setCell ⟨pe, j, none⟩ (.bool e)) F g pg pe L m G (E.set j e) := by
  refine ⟨h.t.keep fun k hk => Below.heap_setCell wr ⟨pe, j, none⟩ _ k (fun e => h.nf.2 (by rw [← show k = pe from e]; exact hk)), h.ok, h.fr, h.gr.stored' (a := ⟨pe, j, none⟩) (fun e => h.gr.ne_type h.er (by decide) e) _, ?_, h.b.setCell (p := ⟨pe, j, none⟩) h.lo.2 _, h.lo⟩
  have := h.er.stored j (.bool e)
  rw [esc_set] at this
  exact this
attribute [local irreducible] enO rmOpen rmPut gsc esc
set_option maxRecDepth 100000 in
set_option maxHeartbeats 4000000 in
theorem ends_law {w : World} {A : Option Addr} {c : Nat} {O : List Bh} (hR : RdS w (· < w.heap.size) A (enl bhc O)) (hD : ∀ h ∈ O, RdS w (· < w.heap.size) h.A (byc h.b)) {most : Nat} (hmo : most < 256) : Calls Try.prog 7 #[.slice A O.length c, .int .u8 most] w fun e w' => e = .returned (.bool true) ∧ Below w.heap.size w w' := by
  have HR := Lib.hid hR
  have HD := Lib.hid hD
  clear hR hD
  by_cases h20 : 20 < O.length
  · have h20' : (20 : Int) < (O.length : Int) := by omega
    go_enter Try.func7, Try.ntmps7
    go_wp2_with fail
    refine (fixed13_any _).mono ?_
    rintro e w3 ⟨rfl, hb3⟩
    have HB3 := Lib.hid hb3
    clear hb3
    go_wp2_with fail
    go_ret
    exact ⟨rfl, HB3.out⟩
  have h20' : decide ((20 : Int) < (O.length : Int)) = false := decide_eq_false (by omega)
  have h20'' : decide (20 < O.length) = false := decide_eq_false h20
  obtain ⟨L, hL⟩ : ∃ L, L = O.map (·.b) := ⟨_, rfl⟩
  have hLl : L.length = O.length := by rw [hL]; simp
  have HL : Hid (∀ j, (h : j < O.length) → L[j]? = some O[j].b) := fun j h => by rw [hL]; simp [h]
  clear hL
  go_enter Try.func7, Try.ntmps7
  go_wp2_with fail
  refine (tnew_any 1048576 w).mono ?_
  rintro e w1 ⟨g, F, rfl, hT1, hF1, hb1⟩
  rw [enO_0] at hT1
  have HT1 : Hid (Tr w1 F g (enO (L.take 0))) := by rw [List.take_zero]; exact hT1
  have HFR := Lib.hid hF1
  have HB1 := Lib.hid hb1
  have HLE : Hid (∀ b ∈ L.take 0, b.length ≤ 300) := fun b hb => by simp at hb
  clear hT1 hF1 hb1
  go_wp2_with fail
  go_loopw [23] (fun i wr => ∃ (k : Nat) (F' : Nat → Prop), k ≤ O.length ∧ i = .int .i64 k ∧ Hid (Tr wr F' g (enO (L.take k))) ∧ Hid (∀ x, F' x → w.heap.size ≤ x) ∧ Hid (∀ b ∈ L.take k, b.length ≤ 300) ∧ Hid (Below w.heap.size w wr)) (fun i _ => O.length - (intOf i).toNat)
  case atStart => exact ⟨0, F, Nat.zero_le _, rfl, HT1, HFR, HLE, HB1⟩
  case round =>
    clear HT1 HFR HB1 HLE
    obtain ⟨k, F1, hk, rfl, HT, HFR, HLE, HB⟩ := hrel
    by_cases hlt : k < O.length
    · obtain ⟨bb, q, hA, hc⟩ := bh_at (HR.out.below HB.out) hlt
      subst hA
      have hlk := HL.out k hlt
      have hmem := List.getElem_mem hlt
      obtain ⟨h, hh⟩ : ∃ h, h = O[k] := ⟨_, rfl⟩
      rw [← hh] at hc hlk hmem
      have HDH := Lib.hid (HD.out h hmem)
      have HLK := Lib.hid hlk
      clear hmem hh hlk
      by_cases h300 : 300 < h.b.length
      · have h300' : (300 : Int) < (h.b.length : Int) := by omega
        clear HT HFR
        go_wp2_with fail
        refine (fixed13_any _).mono ?_
        rintro e w3 ⟨rfl, hb3⟩
        have HB3 := Lib.hid (HB.out.trans (hb3.mono HB.out.size))
        clear hb3 hc
        go_wp2_with fail
        go_ret
        exact ⟨rfl, HB3.out⟩
      · have h300' : decide ((300 : Int) < (h.b.length : Int)) = false := decide_eq_false (by omega)
        have h300'' : decide (300 < h.b.length) = false := decide_eq_false h300
        have htl : (L.take k).length = k := by rw [List.length_take]; omega
        have htk : L.take (k + 1) = L.take k ++ [h.b] := by
          have hkl := (List.getElem?_eq_some_iff.1 HLK.out)
          rw [List.take_succ_eq_append_getElem hkl.1, hkl.2]
        obtain ⟨e1, e2, e3⟩ := enO_step (L.take k) h.b
        rw [← htk, htl] at e2 e3
        rw [htl] at e1
        have hok := enO_ok k (L.take k) htl (by omega)
        have hsm := enO_sm (l := L.take k) (by omega) HLE.out
        have hsmo := eno_sm (l := L.take k) (by omega) HLE.out
        rw [htl] at hsmo
        have HTO := Lib.hid (topen_any HT.out hok hsm (k + 1) 1000)
        have HOK2 := Lib.hid (rmOpen_ok hok (k + 1) (by omega) 1000)
        have HSM2 := Lib.hid hsmo
        have HLE3 : Hid (∀ b ∈ L.take (k + 1), b.length ≤ 300) := fun b hb => by
          rw [htk] at hb
          rcases List.mem_append.1 hb with hb | hb
          · exact HLE.out b hb
          · rw [List.mem_singleton.1 hb]; omega
        have HOK3 := Lib.hid (enO_ok (k + 1) (L.take (k + 1)) (by rw [List.length_take]; omega) (by omega))
        have HSM3 := Lib.hid (enO_sm (l := L.take (k + 1)) (by rw [List.length_take]; omega) HLE3.out)
        rw [e1, show ((k + 1 : Nat) : Int) = (k : Int) + 1 from rfl] at HTO
        have HE2 := Lib.hid e2
        have HE3 := Lib.hid e3
        have hs1 : IntKind.i64.wrap ((k : Int) + 1) = (k : Int) + 1 := IntWalk.i64_in _ (by omega)
        have hs2 : IntKind.u32.wrap ((k : Int) + 1) = (k : Int) + 1 := IntWalk.u32_in _ (by omega)
        clear e1 e2 e3 hok hsm hsmo htl htk
        generalize (rmOpen (enO (L.take k)) (k + 1) 1000).1 = mo at *
        go_wp2_with fail
        refine HTO.out.mono ?_
        rintro e w3 ⟨rfl, F3, hT3, hF3, hN3⟩
        have HFR3 : Hid (∀ x, F3 x → w.heap.size ≤ x) := fun x hx => by
          rcases hN3 x hx with h | h
          · exact HFR.out x h
          · have := HB.out.size; omega
        have HB3 := Lib.hid (HB.out.trans (hF3.below (fun x hx _ => HFR.out x hx) HB.out.size))
        have hpu := tput_any (c := h.c) hT3 HOK2.out HSM2.out (k + 1) (HDH.out.below HB3.out) (fun x hx _ hf => by have := HFR3.out x hf; omega) (by omega) true
        rw [HE2.out, show ((k + 1 : Nat) : Int) = (k : Int) + 1 from rfl] at hpu
        have HPU := Lib.hid hpu
        clear hpu hT3 hF3 hN3 HFR HB HT HTO
        go_wp2_with fail
        refine HPU.out.mono ?_
        rintro e w5 ⟨rfl, F5, hT5, hF5, hN5⟩
        have HFR5 : Hid (∀ x, F5 x → w.heap.size ≤ x) := fun x hx => by
          rcases hN5 x hx with h | h
          · exact HFR3.out x h
          · have := HB3.out.size; omega
        have HB5 := Lib.hid (HB3.out.trans (hF5.below (fun x hx _ => HFR3.out x hx) HB3.out.size))
        have hpu := tput_any (c := h.c) hT5 HOK3.out HSM3.out (k + 1) (HDH.out.below HB5.out) (fun x hx _ hf => by have := HFR5.out x hf; omega) (by omega) false
        rw [HE3.out, show ((k + 1 : Nat) : Int) = (k : Int) + 1 from rfl] at hpu
        have HPU2 := Lib.hid hpu
        clear hpu hT5 hF5 hN5 HFR3 HB3 HPU HE2
        go_wp2_with fail
        refine HPU2.out.mono ?_
        rintro e w6 ⟨rfl, F6, hT6, hF6, hN6⟩
        have HFR6 : Hid (∀ x, F6 x → w.heap.size ≤ x) := fun x hx => by
          rcases hN6 x hx with h | h
          · exact HFR5.out x h
          · have := HB5.out.size; omega
        have HB6 := Lib.hid (HB5.out.trans (hF6.below (fun x hx _ => HFR5.out x hx) HB5.out.size))
        have HT6 := Lib.hid hT6
        clear hT6 hF6 hN6 HFR5 HB5 HPU2 HE3
        go_wp2_with fail
        go_roundw
        case rel => exact ⟨k + 1, F6, by omega, by go_num, HT6, HFR6, HLE3, HB6⟩
        case measure => simp [intOf]; omega
    · obtain rfl : k = O.length := by omega
      rw [← hLl, List.take_of_length_le (Nat.le_refl _)] at HT HLE
      have hlt' : decide (O.length < O.length) = false := decide_eq_false hlt
      have hms := mk_gs O.length (by omega)
      have hme := mk_es O.length (by omega)
      have al1 : Below wr.heap.size wr (wr.alloc (.cells (gsc (List.replicate O.length [])) 9)) := (Below.refl _ _).alloc (Nat.le_refl _) _
      have hr1 : Row (wr.alloc (.cells (gsc (List.replicate O.length [])) 9)) wr.heap.size 9 (gsc (List.replicate O.length [])) := Row.new wr _ _
      have al2 : Below (wr.alloc (.cells (gsc (List.replicate O.length [])) 9)).heap.size (wr.alloc (.cells (gsc (List.replicate O.length [])) 9)) ((wr.alloc (.cells (gsc (List.replicate O.length [])) 9)).alloc (.cells (esc (List.replicate O.length false)) 4)) := (Below.refl _ _).alloc (Nat.le_refl _) _
      have hr2 : Row ((wr.alloc (.cells (gsc (List.replicate O.length [])) 9)).alloc (.cells (esc (List.replicate O.length false)) 4)) (wr.alloc (.cells (gsc (List.replicate O.length [])) 9)).heap.size 4 (esc (List.replicate O.length false)) := Row.new _ _ _
      have HEW : Hid (EwI w ((wr.alloc (.cells (gsc (List.replicate O.length [])) 9)).alloc (.cells (esc (List.replicate O.length false)) 4)) F1 g wr.heap.size (wr.heap.size + 1) L (enO L) (List.replicate L.length []) (List.replicate L.length false)) := by
        have h1 := HB.out.size
        have h2 := al1.size
        refine ⟨(HT.out.below al1).below al2, enO_ok _ L rfl (by omega), HFR.out, ?_, ?_, (HB.out.trans (al1.mono h1)).trans (al2.mono (by omega)), h1, by omega⟩
        · rw [hLl]; exact hr1.below al2 hr1.lt
        · rw [hLl]
          have h9 := hr2
          rw [show (wr.alloc (.cells (gsc (List.replicate O.length [])) 9)).heap.size = wr.heap.size + 1 by simp] at h9
          exact h9
      have HEN := Lib.hid (EnI.start L)
      have HMU : Hid (mu (enO L).l ≤ 6020) := by
        show mu (enO L).l ≤ 6020
        have h1 := sumB_le HLE.out
        have h2 : (enO L).l = enR L := by unfold enO; rfl
        have h3 : L.length * 300 ≤ 20 * 300 := Nat.mul_le_mul_right _ (by omega)
        rw [h2, mu_enR]
        omega
      clear al1 hr1 al2 hr2 HT HFR HB
      go_upto_region 14 with fail
      generalize (wr.alloc (.cells (gsc (List.replicate O.length [])) 9)).alloc (.cells (esc (List.replicate O.length false)) 4) = w2 at *
      generalize wr.heap.size = pg at *
      have hpe : ∃ pe, pe = pg + 1 := ⟨_, rfl⟩
      obtain ⟨pe, hpe⟩ := hpe
      rw [← hpe] at HEW ⊢
      clear hpe
      go_upto_block 2 with fail
      have hLO : L.length ≤ 20 := by omega
      have hwm : IntKind.i64.wrap (most : Int) = (most : Int) := IntWalk.i64_in _ (by omega)
      go_cut [] from 10 to 105 (fun wx => ∃ F' m G E, Hid (EwI w wx F' g pg pe L m G E) ∧ Hid (EnD L m G E))
      case first =>
        go_wp2_with fail
        go_loopw [62] (fun i wr => ∃ (k : Nat) (F' : Nat → Prop) (m : Rm) (G : List (List UInt8)) (E : List Bool), k ≤ 6020 ∧ i = .int .i64 k ∧ Hid (EwI w wr F' g pg pe L m G E) ∧ Hid (EnI L m G E) ∧ Hid (mu m.l + k ≤ 6020)) (fun i _ => 6020 - (intOf i).toNat)
        case atStart => exact ⟨0, F1, enO L, _, _, Nat.zero_le _, rfl, HEW, HEN, HMU⟩
        case round =>
          clear HEW HEN HMU
          obtain ⟨k, F2, m, G, E, hk, rfl, HEW, HEN, HMU⟩ := hrel
          by_cases hlt : k < 6020
          · have hlt9 : (k : Int) < 6020 := by omega
            have hsm := HEN.out.sm HLE.out hLO
            have htn := tnext_any HEW.out.t HEW.out.ok hsm (most : Int)
            cases hr : rmNext m (most : Int) with
            | none =>
              rw [hr] at htn
              have HTN := Lib.hid htn
              have HED := Lib.hid (HEN.out.none HLE.out hLO hr)
              clear htn hsm hr
              go_wp2_with fail
              refine HTN.out.mono ?_
              rintro e w3 ⟨rfl, F3, hT3, hF3, hN3⟩
              have HEW3 := Lib.hid (HEW.out.on HEW.out.ok hT3 hF3 hN3)
              clear hT3 hF3 hN3 HTN HEW
              go_wp2_with fail
              go_meet
              case rel => exact ⟨F3, m, G, E, HEW3, HED⟩
            | some r =>
              obtain ⟨x, N, m'⟩ := r
              rw [hr] at htn
              obtain ⟨j, g9, hj, hst, hej, hgj, hen, hmu⟩ := HEN.out.next HEW.out.ok hr
              have HOK := Lib.hid (nxM_ok HEW.out.ok (most : Int))
              have hnm : nxM m (most : Int) = m' := by unfold nxM; rw [hr]
              rw [hnm] at HOK
              obtain ⟨k9, hs9⟩ := rmNext_sends HEW.out.ok hr
              have hlN : (x.b.take N).length = N := by rw [List.length_take, Nat.min_eq_left hs9.le]
              have HTN := Lib.hid htn
              have HEN3 := Lib.hid hen
              have HMU3 : Hid (mu m'.l + (k + 1) ≤ 6020) := by have := HMU.out; show _ ≤ _; omega
              have hbd : g9.length + N ≤ 300 := by
                have h1 := hen.gl
                obtain ⟨r9, _, h3, _⟩ := hen.a j L[j] (g9 ++ x.b.take N) (snY N x).ov (List.getElem?_eq_getElem hj) (by rw [List.getElem?_set, if_pos rfl, if_pos (List.getElem?_eq_some_iff.1 hgj).1]) (by rw [List.getElem?_set, if_pos rfl, if_pos (List.getElem?_eq_some_iff.1 hej).1])
                have h4 := HLE.out _ (List.getElem_mem hj)
                rw [← h3, List.length_append, List.length_append, hlN] at h4
                omega
              clear htn hsm hr hs9 hen hmu hnm
              go_wp2_with fail
              refine HTN.out.mono ?_
              rintro e w3 ⟨A3, c3, rfl, hO3, F3, hT3, hF3, hN3, hD3⟩
              have HEW3 := Lib.hid (HEW.out.on HOK.out hT3 hF3 hN3)
              have hrb : RdB w3 w3.heap.size A3 (x.b.take N) := Bo.reads hO3
              have HRB := Lib.hid hrb
              rw [hst, show ((j + 1 : Nat) : Int) = (j : Int) + 1 from rfl]
              clear hO3 hT3 hF3 hN3 hD3 HTN HEW hrb
              generalize (snY N x).ov = ov at *
              generalize x.b.take N = l at *
              clear hst
              have i1 : decide ((j : Int) + 1 < 1) = false := decide_eq_false (by omega)
              have i2 : IntKind.i64.wrap ((j : Int) + 1) = (j : Int) + 1 := IntWalk.i64_in _ (by omega)
              have i3 : decide ((O.length : Int) < (j : Int) + 1) = false := decide_eq_false (by omega)
              have i4 : IntKind.u32.wrap ((j : Int) + 1 - 1) = (j : Int) := (IntWalk.u32_in _ (by omega)).trans (by omega)
              have i5 : IntKind.u32.wrap (j : Int) = (j : Int) := IntWalk.u32_in _ (by omega)
              have hjO : j < O.length := by omega
              have hjO' : (j : Int) < (O.length : Int) := by omega
              have ce := HEW3.out.er.cell (esc_at hej)
              have cg := HEW3.out.gr.cell (gsc_at hgj)
              dsimp only
              go_wp2_with fail
              have hcv : (convert 34 9 (.slice A3 N c3)).run Try.prog w3.drew = .ok (.string (tb l)) w3.drew := by
                have h1 := run_text (P := Try.prog) (c := c3) (dst := 9) Try.underlying34 Try.underlying5 Try.underlying9 (HRB.out.below (w' := w3.drew) (Below.refl _ _).drew)
                rw [hlN] at h1
                exact h1
              have hadd := tb_add g9 l (by omega) (by omega)
              have cg9 : w3.drew.cell? ⟨pg, 0 + j, none⟩ = some (.string (tb g9)) := by rw [Nat.zero_add]; exact cg
              rw [Nat.zero_add] at cg9
              have HEWd : Hid (EwI w w3.drew F3 g pg pe L m' G E) := HEW3.out.below ((Below.refl _ _).drew)
              have zg := HEWd.out.gr.thawed j
              clear HRB ce cg
              refine wp_region_E 9 (fun w' => w'.cell? ⟨pg, j, none⟩ = some (.string (tb g9)) ∧ (convert 34 9 (.slice A3 N c3)).run Try.prog w' = .ok (.string (tb l)) w') (by kernel_rfl) ⟨cg9, hcv⟩ (fun hHeld => ?_)
              refine wpAnyE_take (i := 0) (v := ?v0) rfl (by kernel_rfl) (by kernel_rfl) (by kernel_rfl) (by kernel_rfl) (fun _ _ _ h => h) (Or.inl ⟨by rfl, ?hy0⟩) (by assumption) ?rest0
              case hy0 => (intro w hSw; (try dsimp only at hSw); go_simp <;> with_reducible rfl)
              try simp only [Act.put, List.getElem_toArray, List.getElem_cons_zero, List.setIfInBounds_toArray, List.set_cons_zero, List.set_cons_succ]
              refine wpAnyE_take (i := 1) (v := ?v1) rfl (by kernel_rfl) (by kernel_rfl) (by kernel_rfl) (by kernel_rfl) (fun _ _ _ h => h) (Or.inl ⟨by rfl, ?hy1⟩) (by assumption) ?rest1
              case hy1 => (intro w hSw; (try dsimp only at hSw); go_simp <;> with_reducible rfl)
              try simp only [Act.put, List.getElem_toArray, List.getElem_cons_zero, List.getElem_cons_succ, List.setIfInBounds_toArray, List.set_cons_zero, List.set_cons_succ]
              refine wpAnyE_take (i := 2) (v := ?v2) rfl (by kernel_rfl) (by kernel_rfl) (by kernel_rfl) (by kernel_rfl) (fun _ _ _ h => h) (Or.inl ⟨by rfl, ?hy2⟩) (by assumption) ?rest2
              case hy2 => (intro w hSw; (try dsimp only at hSw); go_simp <;> with_reducible rfl)
              try simp only [Act.put, List.getElem_toArray, List.getElem_cons_zero, List.getElem_cons_succ, List.setIfInBounds_toArray, List.set_cons_zero, List.set_cons_succ]
              refine wpAnyE_take (i := 3) (v := ?v3) rfl (by kernel_rfl) (by kernel_rfl) (by kernel_rfl) (by kernel_rfl) (fun _ _ _ h => h) (Or.inl ⟨by rfl, ?hy3⟩) (by assumption) ?rest3
              case hy3 => (intro w hSw; (try dsimp only at hSw); go_simp <;> with_reducible rfl)
              try simp only [Act.put, List.getElem_toArray, List.getElem_cons_zero, List.getElem_cons_succ, List.setIfInBounds_toArray, List.set_cons_zero, List.set_cons_succ]
              refine wpAnyE_take (i := 4) (v := ?v4) rfl (by kernel_rfl) (by kernel_rfl) (by kernel_rfl) (by kernel_rfl) (fun _ _ _ h => h) (Or.inl ⟨by rfl, ?hy4⟩) (by assumption) ?rest4
              case hy4 => (intro w hSw; (try dsimp only at hSw); go_simp <;> with_reducible rfl)
              try simp only [Act.put, List.getElem_toArray, List.getElem_cons_zero, List.getElem_cons_succ, List.setIfInBounds_toArray, List.set_cons_zero, List.set_cons_succ]
              refine wpAnyE_take (i := 5) (v := ?v5) rfl (by kernel_rfl) (by kernel_rfl) (by kernel_rfl) (by kernel_rfl) (fun _ _ _ h => h) (Or.inl ⟨by rfl, ?hy5⟩) (by assumption) ?rest5
              case hy5 => (intro w hSw; (try dsimp only at hSw); go_simp <;> with_reducible rfl)
              try simp only [Act.put, List.getElem_toArray, List.getElem_cons_zero, List.getElem_cons_succ, List.setIfInBounds_toArray, List.set_cons_zero, List.set_cons_succ]
              refine wpAnyE_take (i := 6) (v := ?v6) rfl (by kernel_rfl) (by kernel_rfl) (by kernel_rfl) (by kernel_rfl) (fun _ _ _ h => h) (Or.inl ⟨by rfl, ?hy6⟩) (by assumption) ?rest6
              case hy6 => (intro w hSw; (try dsimp only at hSw); go_simp <;> with_reducible rfl)
              try simp only [Act.put, List.getElem_toArray, List.getElem_cons_zero, List.getElem_cons_succ, List.setIfInBounds_toArray, List.set_cons_zero, List.set_cons_succ]
              refine wpAnyE_take (i := 7) (v := ?v7) rfl (by kernel_rfl) (by kernel_rfl) (by kernel_rfl) (by kernel_rfl) (fun _ _ _ h => h) (Or.inl ⟨by rfl, ?hy7⟩) (by assumption) ?rest7
              case hy7 => (intro w hSw; (try dsimp only at hSw); go_simp <;> with_reducible rfl)
              try simp only [Act.put, List.getElem_toArray, List.getElem_cons_zero, List.getElem_cons_succ, List.setIfInBounds_toArray, List.set_cons_zero, List.set_cons_succ]
              refine wpAnyE_take (i := 8) (v := ?v8) rfl (by kernel_rfl) (by kernel_rfl) (by kernel_rfl) (by kernel_rfl) (fun _ _ _ h => h) (Or.inl ⟨by rfl, ?hy8⟩) (by assumption) ?rest8
              case hy8 => (intro w hSw; (try dsimp only at hSw); go_simp <;> with_reducible rfl)
              try simp only [Act.put, List.getElem_toArray, List.getElem_cons_zero, List.getElem_cons_succ, List.setIfInBounds_toArray, List.set_cons_zero, List.set_cons_succ]
              refine wpAnyE_last (by kernel_rfl) rfl (by kernel_rfl) (fun K hK => ?_)
              go_simp
              refine hK.out _ _ ?_
              clear hK K hHeld hcv hadd cg9 zg
              try simp only [Act.put, List.getElem_toArray, List.getElem_cons_zero, List.getElem_cons_succ, List.setIfInBounds_toArray, List.set_cons_zero, List.set_cons_succ]
              have HEW4 : Hid (EwI w (w3.setCell ⟨pg, j, none⟩ (.string (tb (g9 ++ l)))).drew F3 g pg pe L m' (G.set j (g9 ++ l)) E) := (HEW3.out.setG j (g9 ++ l)).below ((Below.refl _ _).drew)
              clear HEWd HEW3
              generalize (w3.setCell ⟨pg, j, none⟩ (.string (tb (g9 ++ l)))).drew = w4 at *
              have HEW5 := Lib.hid (HEW4.out.setE j ov)
              have ce := HEW4.out.er.cell (esc_at hej)
              have ze := HEW4.out.er.thawed j
              clear HEW4
              go_wp2_with fail
              go_roundw
              case rel => exact ⟨k + 1, F3, m', _, _, by omega, by go_num, HEW5, HEN3, HMU3⟩
              case measure => simp [intOf]; omega
          · have hlt9 : decide ((k : Int) < 6020) = false := decide_eq_false (by omega)
            have hlt8 : decide (k < 6020) = false := decide_eq_false hlt
            have HED := Lib.hid (HEN.out.done (mu_mem (by have := HMU.out; omega)))
            clear HEN HMU
            go_wp2_with fail
            go_meet
            case rel => exact ⟨F2, m, G, E, HEW, HED⟩
      case rest =>
        obtain ⟨F2, m, G, E, HEW, HED⟩ := hcut
        have HSM : Hid m.Sm := HED.out.sm hLO
        go_wp2_with fail
        go_loopw [108] (fun i wr => ∃ k : Nat, k ≤ O.length ∧ i = .int .i64 k ∧ Hid (EwI w wr F2 g pg pe L m G E)) (fun i _ => O.length - (intOf i).toNat)
        case atStart => exact ⟨0, Nat.zero_le _, rfl, HEW⟩
        case round =>
          clear HEW
          obtain ⟨k, hk, rfl, HEW⟩ := hrel
          by_cases hlt : k < O.length
          · obtain ⟨bb, q, hA, hc⟩ := bh_at (HR.out.below HEW.out.b) hlt
            subst hA
            obtain ⟨hgk, hek, _⟩ := HED.out.2.2.1 k _ (HL.out k hlt)
            have hwz := HED.out.waits HEW.out.ok (j := k) (by omega)
            have hdd := HD.out _ (List.getElem_mem hlt)
            have hbl := HLE.out _ (List.mem_of_getElem? (HL.out k hlt))
            obtain ⟨h, hh⟩ : ∃ h, h = O[k] := ⟨_, rfl⟩
            rw [← hh] at hc hgk hdd hbl
            clear hh
            have hrb : RdB wr wr.heap.size h.A h.b := RdB.ofS (hdd.below HEW.out.b) fun x hx _ => by have := HEW.out.b.size; omega
            have HRB := Lib.hid hrb
            have htw := fun (W : World) (h : Tr W F2 g m) => twaits_any h HSM.out (k + 1)
            rw [hwz, show ((k + 1 : Nat) : Int) = (k : Int) + 1 from rfl] at htw
            have HTW := Lib.hid htw
            clear htw hwz hdd hrb
            have hk9 : (k : Int) < (O.length : Int) := by omega
            have hs1 : IntKind.i64.wrap ((k : Int) + 1) = (k : Int) + 1 := IntWalk.i64_in _ (by omega)
            have hs2 : IntKind.u32.wrap ((k : Int) + 1) = (k : Int) + 1 := IntWalk.u32_in _ (by omega)
            go_upto_region 26 with fail
            have HEWd : Hid (EwI w wr.drew F2 g pg pe L m G E) := HEW.out.below ((Below.refl _ _).drew)
            have HRBd : Hid (RdB wr.drew wr.drew.heap.size h.A h.b) := HRB.out.below (w' := wr.drew) (Below.refl _ _).drew
            have hcv : (convert 34 9 (.slice h.A h.b.length h.c)).run Try.prog wr.drew = .ok (.string (tb h.b)) wr.drew := run_text (P := Try.prog) (c := h.c) (dst := 9) Try.underlying34 Try.underlying5 Try.underlying9 HRBd.out
            have cg : wr.drew.cell? ⟨pg, k, none⟩ = some (.string (tb h.b)) := HEWd.out.gr.cell (gsc_at hgk)
            have ce : wr.drew.cell? ⟨pe, k, none⟩ = some (.bool true) := HEWd.out.er.cell (esc_at hek)
            have hne : ((tb h.b).toList != (tb h.b).toList) = false := by simp
            have heq : ((tb h.b).toList == (tb h.b).toList) = true := by simp
            clear hc HEW HRB
            refine wp_region_E 21 (fun w' => w'.cell? ⟨pg, k, none⟩ = some (.string (tb h.b)) ∧ w'.cell? ⟨pe, k, none⟩ = some (.bool true) ∧ (convert 34 9 (.slice h.A h.b.length h.c)).run Try.prog w' = .ok (.string (tb h.b)) w') (by kernel_rfl) ⟨cg, ce, hcv⟩ (fun hHeld => ?_)
            refine wpAnyE_take (i := 0) (v := ?v0q1) rfl (by kernel_rfl) (by kernel_rfl) (by kernel_rfl) (by kernel_rfl) (fun _ _ _ h => h) (Or.inl ⟨by rfl, ?hy0q1⟩) (by assumption) ?rest0q1
            case hy0q1 => (intro w hSw; (try dsimp only at hSw); go_simp <;> with_reducible rfl)
            try simp only [Act.put, List.getElem_toArray, List.getElem_cons_zero, List.setIfInBounds_toArray, List.set_cons_zero, List.set_cons_succ]
            refine wpAnyE_take (i := 1) (v := ?v1q1) rfl (by kernel_rfl) (by kernel_rfl) (by kernel_rfl) (by kernel_rfl) (fun _ _ _ h => h) (Or.inl ⟨by rfl, ?hy1q1⟩) (by assumption) ?rest1q1
            case hy1q1 => (intro w hSw; (try dsimp only at hSw); go_simp <;> with_reducible rfl)
            try simp only [Act.put, List.getElem_toArray, List.getElem_cons_zero, List.getElem_cons_succ, List.setIfInBounds_toArray, List.set_cons_zero, List.set_cons_succ]
            refine wpAnyE_take (i := 4) (v := ?v4q1) rfl (by kernel_rfl) (by kernel_rfl) (by kernel_rfl) (by kernel_rfl) (fun _ _ _ h => h) (Or.inl ⟨by rfl, ?hy4q1⟩) (by assumption) ?rest4q1
            case hy4q1 => (intro w hSw; (try dsimp only at hSw); go_simp <;> with_reducible rfl)
            try simp only [Act.put, List.getElem_toArray, List.getElem_cons_zero, List.getElem_cons_succ, List.setIfInBounds_toArray, List.set_cons_zero, List.set_cons_succ]
            refine wpAnyE_take (i := 2) (v := ?v2q1) rfl (by kernel_rfl) (by kernel_rfl) (by kernel_rfl) (by kernel_rfl) (fun _ _ _ h => h) (Or.inl ⟨by rfl, ?hy2q1⟩) (by assumption) ?rest2q1
            case hy2q1 => (intro w hSw; (try dsimp only at hSw); go_simp <;> with_reducible rfl)
            try simp only [Act.put, List.getElem_toArray, List.getElem_cons_zero, List.getElem_cons_succ, List.setIfInBounds_toArray, List.set_cons_zero, List.set_cons_succ]
            refine wpAnyE_take (i := 3) (v := ?v3q1) rfl (by kernel_rfl) (by kernel_rfl) (by kernel_rfl) (by kernel_rfl) (fun _ _ _ h => h) (Or.inl ⟨by rfl, ?hy3q1⟩) (by assumption) ?rest3q1
            case hy3q1 => (intro w hSw; (try dsimp only at hSw); go_simp <;> with_reducible rfl)
            try simp only [Act.put, List.getElem_toArray, List.getElem_cons_zero, List.getElem_cons_succ, List.setIfInBounds_toArray, List.set_cons_zero, List.set_cons_succ]
            refine wpAnyE_take (i := 5) (v := ?v5q1) rfl (by kernel_rfl) (by kernel_rfl) (by kernel_rfl) (by kernel_rfl) (fun _ _ _ h => h) (Or.inl ⟨by rfl, ?hy5q1⟩) (by assumption) ?rest5q1
            case hy5q1 => (intro w hSw; (try dsimp only at hSw); go_simp <;> with_reducible rfl)
            try simp only [Act.put, List.getElem_toArray, List.getElem_cons_zero, List.getElem_cons_succ, List.setIfInBounds_toArray, List.set_cons_zero, List.set_cons_succ]
            refine wpAnyE_take (i := 6) (v := ?v6q1) rfl (by kernel_rfl) (by kernel_rfl) (by kernel_rfl) (by kernel_rfl) (fun _ _ _ h => h) (Or.inl ⟨by rfl, ?hy6q1⟩) (by assumption) ?rest6q1
            case hy6q1 => (intro w hSw; (try dsimp only at hSw); go_simp <;> with_reducible rfl)
            try simp only [Act.put, List.getElem_toArray, List.getElem_cons_zero, List.getElem_cons_succ, List.setIfInBounds_toArray, List.set_cons_zero, List.set_cons_succ]
            refine wpAnyE_take (i := 7) (v := ?v7q1) rfl (by kernel_rfl) (by kernel_rfl) (by kernel_rfl) (by kernel_rfl) (fun _ _ _ h => h) (Or.inl ⟨by rfl, ?hy7q1⟩) (by assumption) ?rest7q1
            case hy7q1 => (intro w hSw; (try dsimp only at hSw); go_simp <;> with_reducible rfl)
            try simp only [Act.put, List.getElem_toArray, List.getElem_cons_zero, List.getElem_cons_succ, List.setIfInBounds_toArray, List.set_cons_zero, List.set_cons_succ]
            refine wpAnyE_take (i := 8) (v := ?v8q1) rfl (by kernel_rfl) (by kernel_rfl) (by kernel_rfl) (by kernel_rfl) (fun _ _ _ h => h) (Or.inl ⟨by rfl, ?hy8q1⟩) (by assumption) ?rest8q1
            case hy8q1 => (intro w hSw; (try dsimp only at hSw); go_simp <;> with_reducible rfl)
            try simp only [Act.put, List.getElem_toArray, List.getElem_cons_zero, List.getElem_cons_succ, List.setIfInBounds_toArray, List.set_cons_zero, List.set_cons_succ]
            refine wpAnyE_take (i := 9) (v := ?v9q1) rfl (by kernel_rfl) (by kernel_rfl) (by kernel_rfl) (by kernel_rfl) (fun _ _ _ h => h) (Or.inl ⟨by rfl, ?hy9q1⟩) (by assumption) ?rest9q1
            case hy9q1 => (intro w hSw; (try dsimp only at hSw); go_simp <;> with_reducible rfl)
            try simp only [Act.put, List.getElem_toArray, List.getElem_cons_zero, List.getElem_cons_succ, List.setIfInBounds_toArray, List.set_cons_zero, List.set_cons_succ]
            refine wpAnyE_take (i := 10) (v := ?v10q1) rfl (by kernel_rfl) (by kernel_rfl) (by kernel_rfl) (by kernel_rfl) (fun _ _ _ h => h) (Or.inl ⟨by rfl, ?hy10q1⟩) (by assumption) ?rest10q1
            case hy10q1 => (intro w hSw; (try dsimp only at hSw); go_simp <;> with_reducible rfl)
            try simp only [Act.put, List.getElem_toArray, List.getElem_cons_zero, List.getElem_cons_succ, List.setIfInBounds_toArray, List.set_cons_zero, List.set_cons_succ]
            refine wpAnyE_take (i := 11) (v := ?v11q1) rfl (by kernel_rfl) (by kernel_rfl) (by kernel_rfl) (by kernel_rfl) (fun _ _ _ h => h) (Or.inl ⟨by rfl, ?hy11q1⟩) (by assumption) ?rest11q1
            case hy11q1 => (intro w hSw; (try dsimp only at hSw); go_simp <;> with_reducible rfl)
            try simp only [Act.put, List.getElem_toArray, List.getElem_cons_zero, List.getElem_cons_succ, List.setIfInBounds_toArray, List.set_cons_zero, List.set_cons_succ]
            refine wpAnyE_take (i := 12) (v := ?v12q1) rfl (by kernel_rfl) (by kernel_rfl) (by kernel_rfl) (by kernel_rfl) (fun _ _ _ h => h) (Or.inl ⟨by rfl, ?hy12q1⟩) (by assumption) ?rest12q1
            case hy12q1 => (intro w hSw; (try dsimp only at hSw); go_simp <;> with_reducible rfl)
            try simp only [Act.put, List.getElem_toArray, List.getElem_cons_zero, List.getElem_cons_succ, List.setIfInBounds_toArray, List.set_cons_zero, List.set_cons_succ]
            refine wpAnyE_take (i := 13) (v := ?v13q1) rfl (by kernel_rfl) (by kernel_rfl) (by kernel_rfl) (by kernel_rfl) (fun _ _ _ h => h) (Or.inl ⟨by rfl, ?hy13q1⟩) (by assumption) ?rest13q1
            case hy13q1 => (intro w hSw; (try dsimp only at hSw); go_simp <;> with_reducible rfl)
            try simp only [Act.put, List.getElem_toArray, List.getElem_cons_zero, List.getElem_cons_succ, List.setIfInBounds_toArray, List.set_cons_zero, List.set_cons_succ]
            refine wpAnyE_take (i := 14) (v := ?v14q1) rfl (by kernel_rfl) (by kernel_rfl) (by kernel_rfl) (by kernel_rfl) (fun _ _ _ h => h) (Or.inl ⟨by rfl, ?hy14q1⟩) (by assumption) ?rest14q1
            case hy14q1 => (intro w hSw; (try dsimp only at hSw); go_simp <;> with_reducible rfl)
            try simp only [Act.put, List.getElem_toArray, List.getElem_cons_zero, List.getElem_cons_succ, List.setIfInBounds_toArray, List.set_cons_zero, List.set_cons_succ]
            refine wpAnyE_take (i := 15) (v := ?v15q1) rfl (by kernel_rfl) (by kernel_rfl) (by kernel_rfl) (by kernel_rfl) (fun _ _ _ h => h) (Or.inl ⟨by rfl, ?hy15q1⟩) (by assumption) ?rest15q1
            case hy15q1 => (intro w hSw; (try dsimp only at hSw); go_simp <;> with_reducible rfl)
            try simp only [Act.put, List.getElem_toArray, List.getElem_cons_zero, List.getElem_cons_succ, List.setIfInBounds_toArray, List.set_cons_zero, List.set_cons_succ]
            refine wpAnyE_take (i := 16) (v := ?v16q1) rfl (by kernel_rfl) (by kernel_rfl) (by kernel_rfl) (by kernel_rfl) (fun _ _ _ h => h) (Or.inl ⟨by rfl, ?hy16q1⟩) (by assumption) ?rest16q1
            case hy16q1 => (intro w hSw; (try dsimp only at hSw); go_simp <;> with_reducible rfl)
            try simp only [Act.put, List.getElem_toArray, List.getElem_cons_zero, List.getElem_cons_succ, List.setIfInBounds_toArray, List.set_cons_zero, List.set_cons_succ]
            refine wpAnyE_take (i := 17) (v := ?v17q1) rfl (by kernel_rfl) (by kernel_rfl) (by kernel_rfl) (by kernel_rfl) (fun _ _ _ h => h) (Or.inl ⟨by rfl, ?hy17q1⟩) (by assumption) ?rest17q1
            case hy17q1 => (intro w hSw; (try dsimp only at hSw); go_simp <;> with_reducible rfl)
            try simp only [Act.put, List.getElem_toArray, List.getElem_cons_zero, List.getElem_cons_succ, List.setIfInBounds_toArray, List.set_cons_zero, List.set_cons_succ]
            refine wpAnyE_take (i := 18) (v := ?v18q1) rfl (by kernel_rfl) (by kernel_rfl) (by kernel_rfl) (by kernel_rfl) (fun _ _ _ h => h) (Or.inl ⟨by rfl, ?hy18q1⟩) (by assumption) ?rest18q1
            case hy18q1 => (intro w hSw; (try dsimp only at hSw); go_simp <;> with_reducible rfl)
            try simp only [Act.put, List.getElem_toArray, List.getElem_cons_zero, List.getElem_cons_succ, List.setIfInBounds_toArray, List.set_cons_zero, List.set_cons_succ]
            refine wpAnyE_next (i := 19) (by kernel_rfl) rfl (fun K hK => ?_)
            go_simp
            go_at_call 14
            refine (HTW.out wr.drew HEWd.out.t).mono ?_
            rintro e w4 ⟨rfl, hb4⟩
            have HEW4 := Lib.hid (HEWd.out.below hb4)
            have HRB4 : Hid (RdB w4 wr.drew.heap.size h.A h.b) := HRBd.out.below hb4
            have hcv4 : (convert 34 9 (.slice h.A h.b.length h.c)).run Try.prog w4 = .ok (.string (tb h.b)) w4 := run_text (P := Try.prog) (c := h.c) (dst := 9) Try.underlying34 Try.underlying5 Try.underlying9 HRB4.out
            have cg4 : w4.cell? ⟨pg, k, none⟩ = some (.string (tb h.b)) := HEW4.out.gr.cell (gsc_at hgk)
            have ce4 : w4.cell? ⟨pe, k, none⟩ = some (.bool true) := HEW4.out.er.cell (esc_at hek)
            clear hb4 HEWd HRBd hcv cg ce hHeld HTW HRB4
            go_simp
            refine hK.out _ _ ⟨cg4, ce4, hcv4⟩ (fun hHeld => ?_)
            clear hK K
            try simp only [Act.put, List.getElem_toArray, List.getElem_cons_zero, List.getElem_cons_succ, List.setIfInBounds_toArray, List.set_cons_zero, List.set_cons_succ]
            refine wpAnyE_take (i := 20) (v := ?v20q2) rfl (by kernel_rfl) (by kernel_rfl) (by kernel_rfl) (by kernel_rfl) (fun _ _ _ h => h) (Or.inl ⟨by rfl, ?hy20q2⟩) (by assumption) ?rest20q2
            case hy20q2 => (intro w hSw; (try dsimp only at hSw); go_simp <;> with_reducible rfl)
            try simp only [Act.put, List.getElem_toArray, List.getElem_cons_zero, List.getElem_cons_succ, List.setIfInBounds_toArray, List.set_cons_zero, List.set_cons_succ]
            refine wpAnyE_last (by kernel_rfl) rfl (by kernel_rfl) (fun K hK => ?_)
            go_simp
            refine hK.out _ _ ?_
            clear hK K hHeld hcv4 cg4 ce4 hne heq
            try simp only [Act.put, List.getElem_toArray, List.getElem_cons_zero, List.getElem_cons_succ, List.setIfInBounds_toArray, List.set_cons_zero, List.set_cons_succ]
            go_wp2_with fail
            go_roundw
            case rel => exact ⟨k + 1, by omega, by go_num, HEW4⟩
            case measure => simp [intOf]; omega
          · obtain rfl : k = O.length := by omega
            have hlt8 : decide (O.length < O.length) = false := decide_eq_false hlt
            have htc := fun (W : World) (h : Tr W F2 g m) => tcan_any h HEW.out.ok HSM.out
            have hta := fun (W : World) (h : Tr W F2 g m) => tall_any h HSM.out
            rw [HED.out.can] at htc
            rw [HED.out.all] at hta
            have HTC := Lib.hid htc
            have HTA := Lib.hid hta
            clear htc hta
            go_wp2_with fail
            refine (fixed13_any _).mono ?_
            rintro e w3 ⟨rfl, hb3⟩
            have HEW3 := Lib.hid (HEW.out.below hb3)
            clear hb3 HEW
            go_wp2_with fail
            refine (HTC.out _ HEW3.out.t).mono ?_
            rintro e w4 ⟨rfl, hb4⟩
            have HEW4 := Lib.hid (HEW3.out.below hb4)
            clear hb4 HEW3
            go_wp2_with fail
            refine (HTA.out _ HEW4.out.t).mono ?_
            rintro e w5 ⟨rfl, hb5⟩
            have HB5 := Lib.hid (HEW4.out.below hb5).b
            clear hb5 HEW4
            go_wp2_with fail
            go_ret
            exact ⟨rfl, HB5.out⟩
theorem ends_int {w : World} {A : Option Addr} {c : Nat} {O : List Bh} (hR : RdS w (· < w.heap.size) A (enl bhc O)) (hD : ∀ h ∈ O, RdS w (· < w.heap.size) h.A (byc h.b)) {most : Int} (hm : 0 ≤ most ∧ most < 256) : Calls Try.prog 7 #[.slice A O.length c, .int .u8 most] w fun e w' => e = .returned (.bool true) ∧ Below w.heap.size w w' := by
  obtain ⟨a, rfl⟩ := Int.eq_ofNat_of_zero_le hm.1
  exact ends_law hR hD (by omega)
end Go.Proofs.Ytplohgaecoobaaa

namespace Go.Proofs.Ytplohgaecoobaaa
open Go.ChangeShapes Go.WideShapes Go.RowKit Go.Deep

section
variable {H : Type} {hc : TypeId × Value → H}
set_option maxRecDepth 100000 in
theorem u8_cell {W : World} {n : Nat} {cs : List Value} {x : DataW H × List MemPlace} (h : DataW.trod hc Try.prog W 0 (fun _ => true) true n 5 cs = some x) : ∃ b : UInt8, cs = byv b := by
  obtain ⟨k, e, _, w⟩ := DataW.trod_int Try.underlying5 h
  have hw := wf_u8 w
  exact ⟨UInt8.ofNat k.toNat, by rw [e]; unfold byv; rw [byte_back hw.1 hw.2]⟩
theorem enl_hd {W : World} : ∀ L : List (Hd W UInt8 byv), enl hdc L = enl bhc (L.map fun h => ⟨h.at_, h.room, h.els⟩)
  | [] => rfl
  | h :: L => by
    have ih := enl_hd L
    rw [enl_cons, List.map_cons, enl_cons, ih]
    rfl
set_option maxRecDepth 100000 in
theorem open_bss {W : World} {base : Nat} {v : Value} {d : DataW H} {p : List MemPlace} (hv : Value.okWide Try.prog W .any base 61 v) (h : DataW.Trod hc Try.prog W 0 (fun _ => true) true 61 v d p) :
    ∃ (A : Option Addr) (c : Nat) (O : List Bh), v = .slice A O.length c ∧ O.length ≤ c ∧ c ≤ maxLen ∧ RdS W (· < W.heap.size) A (enl bhc O) ∧ ∀ h ∈ O, RdS W (· < W.heap.size) h.A (byc h.b) := by
  obtain ⟨A, c, L, h1, h2, h3, h4⟩ := open_nest byv_len (by omega) Try.underlying61 Try.underlying34 cells_bytes cells_u8 (fun _ _ _ h => u8_cell h) hv h
  rw [enl_hd] at h4
  refine ⟨A, c, L.map fun h => ⟨h.at_, h.room, h.els⟩, by rw [List.length_map]; exact h1, by rw [List.length_map]; exact h2, h3, h4, fun e he => ?_⟩
  obtain ⟨x, _, rfl⟩ := List.mem_map.1 he
  have := x.ok.2.2
  rw [byv_enl] at this
  exact this
end
end Go.Proofs.Ytplohgaecoobaaa

namespace Go.Proofs.Ytplohgaecoobaaa
open Go.ChangeShapes Go.WideShapes Go.ChangeAt Go.RowKit

set_option maxRecDepth 100000 in
theorem turnsEnds_lifted (os : Os) (started : os.Started) (H : Type) (enc : TypeId × Value → H) :
    ReturnsInHanded {} Try.checked os 7 .any (Rows.turnsEndsSpec.pre6 enc Try.prog Try.f7 Rows.turnsEndsRow.domain false) (Rows.turnsEndsSpec.post enc Try.prog Try.f7 false true false false) := by
  refine returnsInHanded_of_change (C := Try.checked) own started (by kernel_rfl) Try.func7
    (ChangeSpec.witness6 (enc := enc) (C := Try.checked) false ⟨#[], #[.slice none 0 0, .int .u8 0], []⟩ 8 (by kernel_rfl) (by kernel_rfl) (by kernel_rfl) (by kernel_rfl)) ?_
  intro W base args ds gs before hval0 hW hcnd _
  have hval : ∀ (j : Nat) t v, Try.f7.params[j]? = some t → args[j]? = some v → Value.okWide Try.prog W .any base t v := hval0
  have hW' := hW
  obtain ⟨p, q, hA0, hV, rfl, hfz, hnd⟩ := hW
  have hA : DataW.TrodAll enc Try.prog W 0 (fun _ => true) true Try.f7.params.toList args.toList ds p := hA0
  rw [Try.params7] at hA hval
  obtain ⟨v0, vs0, d0, ds0, p0, q0, hargs, rfl, rfl, h0, r0⟩ := trodAll_cons hA
  obtain ⟨v1, vs1, d1, ds1, p1, q1, rfl, rfl, rfl, h1, r1⟩ := trodAll_cons r0
  obtain ⟨rfl, rfl, rfl⟩ := trodAll_nil r1
  obtain rfl : args = #[v0, v1] := by cases args; simp_all
  obtain ⟨A0, c0, l0, rfl, hc0, hm0, hr0⟩ := open_bss (hval 0 61 v0 rfl rfl) h0
  obtain ⟨a1, rfl, rfl, rfl, w1⟩ := open_int Try.underlying5 (hval 1 5 v1 rfl rfl) h1
  have b1 := wf_u8 w1
  refine law_post laidOut rfl (by rw [Try.params7]; intro t ht; change t ∈ [61, 5] at ht; simp only [List.mem_cons, List.not_mem_nil, or_false] at ht; rcases ht with rfl | rfl <;> exact ⟨by kernel_rfl, of_decide_eq_true (by kernel_rfl)⟩) (rb := 4) (by kernel_rfl) Try.underlying4 hW' rfl (ends_int hr0.1 hr0.2 b1)

theorem turnsEnds_holds : Rows.TurnsEndsSaid :=
  OpenClaim.holds_of_wide 7 Try.f7 rfl rfl rfl rfl rfl rfl rfl ⟨rfl, rfl, rfl, rfl, rfl⟩ rfl rfl rfl rfl rfl (by kernel_rfl) Try.func7 (by kernel_rfl)
    (of_decide_eq_true (by kernel_rfl)) (by unfold Func.isWrapper; first | (rw [if_pos (by decide +kernel)]; kernel_rfl) | (rw [if_neg (by decide +kernel)]; exact ⟨rfl, rfl⟩))
    (fun os started H enc _ => turnsEnds_lifted os started H enc)
end Go.Proofs.Ytplohgaecoobaaa
