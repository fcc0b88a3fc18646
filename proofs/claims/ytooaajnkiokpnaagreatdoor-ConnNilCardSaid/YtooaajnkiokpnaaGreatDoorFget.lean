/-
  frame's Get, by its contract: which frame bytes are, or their fault. Conditions: the bytes lie where the call doesn't write; errors.errorType holds what the program's text lays.
-/
import Derived.Test.YtooaajnkiokpnaaGreatDoorFread
import Derived.Deep.CutBlock
import Derived.Deep.DeepCutAuto
namespace Go.Proofs.YtooaajnkiokpnaaGreatDoor
open Go.RowKit Go.WideShapes

theorem fault_info7 : (Tryz.prog.info? 29).map (·.size) = some 2 := by kernel_rfl
/-- A fault's cells. -/
def ftc (s c : Nat) : Array Value := #[.int .u8 s, .int .u32 c]
theorem wpList_sft {ops : Array Oper} {rest : List Oper} {o : Oper} {a : Act} {w : World} {Q : Exit → Act → World → Prop} (hgd : o.guard = none) (p q : Operand) (ho : o.op = .store 29 p q) {g : Nat} (hp : a.eval p = .pointer (some ⟨g, 0, none⟩)) {s c s0 c0 : Nat} (hq : a.eval q = .agg (ftc s c)) (h : Row w g 29 (ftc s0 c0))
    (hk : wpList Tryz.prog ops Q rest (a.put o.dst undef) (w.setRow g (ftc s c))) : wpList Tryz.prog ops Q (o :: rest) a w :=
  wpList_store_row hgd 29 p q ho g (ftc s c) hp hq 29 (ftc s0 c0) h fault_info7 rfl (by unfold ftc; kernel_rfl) hk
theorem step_sft {ops : Array Oper} {o : Oper} {a : Act} {w : World} {K : Act → World → Prop} {Q : Exit → Act → World → Prop} {E : Prop} (hgd : o.guard = none) (p q : Operand) (ho : o.op = .store 29 p q) {g : Nat} (hp : a.eval p = .pointer (some ⟨g, 0, none⟩)) {s c s0 c0 : Nat} (hq : a.eval q = .agg (ftc s c)) (h : Row w g 29 (ftc s0 c0))
    (hk : K (a.put o.dst undef) (w.setRow g (ftc s c))) : if Region.wanted o (yielded ops a.tmps) = true then Oper.wp Tryz.prog o a w K Q else E := by
  have hw : Region.wanted o (yielded ops a.tmps) = true := by simp [Region.wanted, hgd]
  rw [if_pos hw]
  exact wp_store_row 29 p q ho g (ftc s c) hp hq 29 (ftc s0 c0) h fault_info7 rfl (by unfold ftc; kernel_rfl) hk
theorem ret_ff {fn : Func} {p q : Tmp} (h : fn.results = #[.cell p 66, .cell q 29]) (tmps : Array Value) (w : World) (g k : Nat) (x : Fm) (s c : Nat) (hp : tmps.getD p undef = .pointer (some ⟨g, 0, none⟩)) (hR : Row w g 66 x.c) (hq : tmps.getD q undef = .pointer (some ⟨k, 0, none⟩)) (hK : Row w k 29 (ftc s c)) :
    (results fn tmps).run Tryz.prog w = .ok (.tuple #[.agg x.c, .agg (ftc s c)]) w := by
  have hl := run_loadVar_row (P := Tryz.prog) w g 66 66 x.c (0, 0) _ hR Tryz.underlying66 rfl (Fm.size x)
  have hk := run_loadVar_row (P := Tryz.prog) w k 29 29 (ftc s c) (0, 0) _ hK Tryz.underlying29 rfl fault_info7
  have hp' : tmps[p]?.getD undef = .pointer (some ⟨g, 0, none⟩) := by simpa using hp
  have hq' : tmps[q]?.getD undef = .pointer (some ⟨k, 0, none⟩) := by simpa using hq
  simp only [results, h]
  simp [hp', hq', asAddr, hl, hk]
/-- What Get leaves. -/
def GetPost (w : World) (r : Frm × Nat × Nat) (e : Ending) (w' : World) : Prop :=
  ∃ x : Fm, e = .returned (.tuple #[.agg x.c, .agg (ftc r.2.1 r.2.2)]) ∧ FmIs w' w.heap.size x r.1 ∧ Below w.heap.size w w'
theorem FmIs.hd (w : World) (base ty fl st : Nat) : FmIs w base (fm0 ty fl st (-1)) (hdN ty fl st) := ⟨rfl, Bo.nil, OwS.nil⟩
theorem hd_c (ty fl st : Nat) : (fm0 ty fl st (-1)).c = #[.int .u8 ty, .int .u8 fl, .int .u32 st, .slice none 0 0, .int .i64 (-1), .int .u32 0, .int .u32 0, .int .u8 0, .bool false, .int .u32 0, .slice none 0 0] := by unfold Fm.c; rfl
theorem z_c : (fm0 0 0 0 0).c = #[.int .u8 0, .int .u8 0, .int .u32 0, .slice none 0 0, .int .i64 0, .int .u32 0, .int .u32 0, .int .u8 0, .bool false, .int .u32 0, .slice none 0 0] := by unfold Fm.c; rfl
theorem hz_c : (fm0 0 0 0 (-1)).c = #[.int .u8 0, .int .u8 0, .int .u32 0, .slice none 0 0, .int .i64 (-1), .int .u32 0, .int .u32 0, .int .u8 0, .bool false, .int .u32 0, .slice none 0 0] := by unfold Fm.c; rfl
theorem readN_hd (ty fl st : Nat) (s : List UInt8) : (readN ty fl st s).2.1 ≠ 0 → (readN ty fl st s).1 = hdN ty fl st := by
  unfold readN
  intro h
  split
  · rfl
  · split
    · rfl
    · split
      · rfl
      · split
        · rfl
        · split
          · rename_i h1 h2 _ pad r h3 h4 h5
            rw [if_neg h1, if_neg h2, h3] at h
            simp only at h
            rw [if_neg h4, if_pos h5] at h
            exact absurd rfl h
          · rfl
theorem readN_z (ty fl st : Nat) (s : List UInt8) : (readN ty fl st s).2.1 = 0 → (readN ty fl st s).2.2 = 0 := by
  unfold readN
  split
  · intro h; cases h
  · split
    · intro h; cases h
    · split
      · intro h; cases h
      · split
        · intro h; simp only at h; split at h <;> cases h
        · split
          · intro _; rfl
          · rename_i h5; intro h; exact absurd h h5
attribute [local irreducible] Fm.c ftc

set_option maxRecDepth 100000 in
set_option maxHeartbeats 4000000 in
theorem get_any {A : Option Addr} {c : Nat} {l : List UInt8} {w : World} (hr : RdB w w.heap.size A l) (hc : l.length ≤ c) (hl : l.length ≤ 100000) (hG : GlobE w) :
    Calls Tryz.prog 126 #[.slice A l.length c] w (GetPost w (getN l)) := by
  have hftc : ∀ s c : Nat, ftc s c = #[.int .u8 s, .int .u32 c] := fun s c => by unfold ftc; rfl
  have HX : Hid (Row ((w.alloc (.cells #[.int .u8 0, .int .u8 0, .int .u32 0, .slice none 0 0, .int .i64 0, .int .u32 0, .int .u32 0, .int .u8 0, .bool false, .int .u32 0, .slice none 0 0] 66)).alloc (.cells #[.int .u8 0, .int .u32 0] 29)) w.heap.size 66 (fm0 0 0 0 0).c) := by show Row _ _ _ _; rw [z_c]; exact (Row.new w _ _).alloc _
  have HT : Hid (Row ((w.alloc (.cells #[.int .u8 0, .int .u8 0, .int .u32 0, .slice none 0 0, .int .i64 0, .int .u32 0, .int .u32 0, .int .u8 0, .bool false, .int .u32 0, .slice none 0 0] 66)).alloc (.cells #[.int .u8 0, .int .u32 0] 29)) (w.heap.size + 1) 29 (ftc 0 0)) := by show Row _ _ _ _; rw [hftc]; exact Row.made _ _ _ (by simp)
  have HB : Hid (Below w.heap.size w ((w.alloc (.cells #[.int .u8 0, .int .u8 0, .int .u32 0, .slice none 0 0, .int .i64 0, .int .u32 0, .int .u32 0, .int .u8 0, .bool false, .int .u32 0, .slice none 0 0] 66)).alloc (.cells #[.int .u8 0, .int .u32 0] 29))) := ((Below.refl _ _).alloc (Nat.le_refl _) _).alloc (by simp) _
  have HG : Hid (GlobE ((w.alloc (.cells #[.int .u8 0, .int .u8 0, .int .u32 0, .slice none 0 0, .int .i64 0, .int .u32 0, .int .u32 0, .int .u8 0, .bool false, .int .u32 0, .slice none 0 0] 66)).alloc (.cells #[.int .u8 0, .int .u32 0] 29))) := (hG.alloc _).alloc _
  have HRd := Lib.hid hr
  have HGN := Lib.hid (rfl : getN l = getN l)
  have HGw := Lib.hid hG
  clear hr hG
  by_cases h9 : l.length < 9
  · have hE : getN l = (hdN 0 0 0, 1, 6) := if_pos (.inl h9)
    rw [hE]
    have hh := fun W => head_no (A := A) (c := c) (n := l.length) (w := W) h9
    clear hE h9 HGN HGw
    go_enter Tryz.func126, Tryz.ntmps126
    go_wp2_with fail
    generalize ((w.alloc (.cells #[.int .u8 0, .int .u8 0, .int .u32 0, .slice none 0 0, .int .i64 0, .int .u32 0, .int .u32 0, .int .u8 0, .bool false, .int .u32 0, .slice none 0 0] 66)).alloc (.cells #[.int .u8 0, .int .u32 0] 29)) = w1 at *
    refine (hh _).mono ?_
    rintro e w1' ⟨rfl, rfl⟩
    obtain ⟨HX1, HT1, HB1, HG1⟩ := (⟨HX, HT, HB, HG⟩ : _ ∧ _ ∧ _ ∧ _)
    clear hh HX HT HB HG
    go_wp2_with fail
    refine (conn_any _ _).mono ?_
    rintro e w2 ⟨ge, rfl, hE2, hb2⟩
    have HX2 := Lib.hid (HX1.out.below hb2 HX1.out.lt)
    have HT2 := Lib.hid (HT1.out.below hb2 HT1.out.lt)
    have HB2 := Lib.hid (HB1.out.trans (hb2.mono HB1.out.size))
    have HG2 := Lib.hid (HG1.out.below hb2)
    have hof := of_row hE2 HG2.out
    clear hb2 hE2 HX1 HT1 HB1 HG1
    go_wp2_with fail
    refine hof.mono ?_
    rintro e w3 ⟨rfl, hb3⟩
    have HX3 := Lib.hid (HX2.out.below hb3 HX2.out.lt)
    have HT3 := Lib.hid (HT2.out.below hb3 HT2.out.lt)
    have HB3 := Lib.hid (HB2.out.trans (hb3.mono HB2.out.size))
    have HT4 := Lib.hid (HT3.out.setRow' (k := w.heap.size) (by omega) (fm0 0 0 0 (-1)).c)
    clear hb3 hof HX2 HT2 HB2 HG2
    go_wp2_with (first | (refine wpList_sfm (x := fm0 0 0 0 (-1)) rfl _ _ rfl rfl (by rw [hz_c]; rfl) HX3.out ?_) | (refine wpList_sft rfl _ _ rfl rfl (show _ = Value.agg (ftc 1 6) by rw [hftc]; rfl) HT4.out ?_))
    refine bodyPost_ret (ret_ff rfl _ _ w.heap.size (w.heap.size + 1) (fm0 0 0 0 (-1)) 1 6 rfl ((HX3.out.setRow _).setRow' (by omega) _) rfl (HT4.out.setRow _)) rfl ?_
    exact ⟨_, rfl, FmIs.hd _ _ _ _ _, below_setRow (below_setRow HB3.out _ _ (Nat.le_refl _)) _ _ (by omega)⟩
  have hh := fun W => head_yes (c := c) (w := W) (B := w.heap.size) (A := A) (l := l)
  by_cases hn : l.length = 9 + valL (l.take 3)
  rotate_left
  · have hE : getN l = (hdN 0 0 0, 1, 6) := if_pos (.inr hn)
    rw [hE]
    have hn' : (((9 + valL (l.take 3) : Nat) : Int) == (l.length : Int)) = false := beq_eq_false_iff_ne.2 (by omega)
    clear hE HGN HGw
    go_enter Tryz.func126, Tryz.ntmps126
    go_wp2_with fail
    generalize ((w.alloc (.cells #[.int .u8 0, .int .u8 0, .int .u32 0, .slice none 0 0, .int .i64 0, .int .u32 0, .int .u32 0, .int .u8 0, .bool false, .int .u32 0, .slice none 0 0] 66)).alloc (.cells #[.int .u8 0, .int .u32 0] 29)) = w1 at *
    refine (hh _ (HRd.out.below HB.out) (by omega) (by omega)).mono ?_
    rintro e w1' ⟨rfl, nq, rfl⟩
    generalize valL (l.take 3) = v3 at *
    have HX1 := Lib.hid (show Row (w1.drewN nq) _ _ _ from HX.out)
    have HT1 := Lib.hid (show Row (w1.drewN nq) _ _ _ from HT.out)
    have HB1 := Lib.hid (below_dN HB.out nq)
    have HG1 := Lib.hid (show GlobE (w1.drewN nq) from HG.out)
    clear hh HX HT HB HG
    generalize w1.drewN nq = w2 at *
    go_wp2_with fail
    refine (conn_any _ _).mono ?_
    rintro e w2 ⟨ge, rfl, hE2, hb2⟩
    have HX2 := Lib.hid (HX1.out.below hb2 HX1.out.lt)
    have HT2 := Lib.hid (HT1.out.below hb2 HT1.out.lt)
    have HB2 := Lib.hid (HB1.out.trans (hb2.mono HB1.out.size))
    have HG2 := Lib.hid (HG1.out.below hb2)
    have hof := of_row hE2 HG2.out
    clear hb2 hE2 HX1 HT1 HB1 HG1
    go_wp2_with fail
    refine hof.mono ?_
    rintro e w3 ⟨rfl, hb3⟩
    have HX3 := Lib.hid (HX2.out.below hb3 HX2.out.lt)
    have HT3 := Lib.hid (HT2.out.below hb3 HT2.out.lt)
    have HB3 := Lib.hid (HB2.out.trans (hb3.mono HB2.out.size))
    have HT4 := Lib.hid (HT3.out.setRow' (k := w.heap.size) (by omega) (fm0 0 0 0 (-1)).c)
    clear hb3 hof HX2 HT2 HB2 HG2
    go_wp2_with (first | (refine wpList_sfm (x := fm0 0 0 0 (-1)) rfl _ _ rfl rfl (by rw [hz_c]; rfl) HX3.out ?_) | (refine wpList_sft rfl _ _ rfl rfl (show _ = Value.agg (ftc 1 6) by rw [hftc]; rfl) HT4.out ?_))
    refine bodyPost_ret (ret_ff rfl _ _ w.heap.size (w.heap.size + 1) (fm0 0 0 0 (-1)) 1 6 rfl ((HX3.out.setRow _).setRow' (by omega) _) rfl (HT4.out.setRow _)) rfl ?_
    exact ⟨_, rfl, FmIs.hd _ _ _ _ _, below_setRow (below_setRow HB3.out _ _ (Nat.le_refl _)) _ _ (by omega)⟩
  -- which frame the head tells
  obtain ⟨ty, hty⟩ : ∃ ty, ty = (l.getD 3 0).toNat := ⟨_, rfl⟩
  obtain ⟨fl, hfl⟩ : ∃ fl, fl = (l.getD 4 0).toNat := ⟨_, rfl⟩
  obtain ⟨st, hst⟩ : ∃ st, st = valL ((l.drop 5).take 4) % 2147483648 := ⟨_, rfl⟩
  have hE : getN l = readN ty fl st (l.drop 9) := by rw [hty, hfl, hst]; exact if_neg (by omega)
  rw [hE]
  have hf : fl < 256 := by rw [hfl]; exact (l.getD 4 0).toNat_lt
  obtain ⟨i1, hi1, _, hz11, _⟩ := info_parts u8_info
  obtain ⟨A5, hcut5, hRd5⟩ := cut_from (P := Tryz.prog) (k := 5) Tryz.underlying22 hi1 hz11 HRd.out hc (by omega)
  obtain ⟨A9, hcut9, hRd9⟩ := cut_from (P := Tryz.prog) (k := 9) Tryz.underlying22 hi1 hz11 HRd.out hc (by omega)
  obtain ⟨g, o, rfl, hgl, hcell⟩ := HRd.out (by intro e; rw [e] at h9; simp at h9)
  have c3 : w.cell? ⟨g, o + 3, none⟩ = some (.int .u8 (ty : Int)) := by have := hcell 3 (by omega); rw [hty]; simpa [List.getD, List.getElem?_eq_getElem (show 3 < l.length by omega)] using this
  have c4 : w.cell? ⟨g, o + 4, none⟩ = some (.int .u8 (fl : Int)) := by have := hcell 4 (by omega); rw [hfl]; simpa [List.getD, List.getElem?_eq_getElem (show 4 < l.length by omega)] using this
  have hl5 : (l.drop 5).length = l.length - 5 := List.length_drop
  have hl9 : (l.drop 9).length = l.length - 9 := List.length_drop
  have hgs := fun (W : World) (h1 : RdB W w.heap.size A5 (l.drop 5)) => getStream_any (c := c - 5) h1 (by rw [hl5]; omega) (by rw [hl5]; omega)
  rw [← hst, hl5] at hgs
  have hrd := fun (W : World) (h1 : RdB W W.heap.size A9 (l.drop 9)) => read_any (ty := ty) (st := st) hf (c := c - 9) h1 (by rw [hl9]; omega) (by rw [hl9]; omega)
  have hrh := And.intro (readN_hd ty fl st (l.drop 9)) (readN_z ty fl st (l.drop 9))
  rw [hl9] at hrd
  obtain ⟨RN, hRN⟩ : ∃ RN, RN = readN ty fl st (l.drop 9) := ⟨_, rfl⟩
  rw [← hRN] at hrd hrh ⊢
  have HRH := Lib.hid hrh
  have HRd5 := Lib.hid hRd5
  have HRd9 := Lib.hid hRd9
  have HC3 := Lib.hid c3
  have HC4 := Lib.hid c4
  have HSz : Hid ((((w.alloc (.cells #[.int .u8 0, .int .u8 0, .int .u32 0, .slice none 0 0, .int .i64 0, .int .u32 0, .int .u32 0, .int .u8 0, .bool false, .int .u32 0, .slice none 0 0] 66)).alloc (.cells #[.int .u8 0, .int .u32 0] 29))).heap.size = w.heap.size + 2) := by simp [Hid]
  have m3 : (3 : Int) < (l.length : Int) := by omega
  have m4 : (4 : Int) < (l.length : Int) := by omega
  have hnn : (((9 + valL (l.take 3) : Nat) : Int) == (l.length : Int)) = true := beq_iff_eq.2 (by omega)
  have hh' := fun (W : World) (h1 : RdB W w.heap.size (some ⟨g, o, none⟩) l) => head_yes (c := c) h1 (by omega) (by omega)
  have hc5 : ∀ W, (Instr.slice 22 (.slice (some ⟨g, o, none⟩) l.length c) (some (.int .i64 5)) none none).run Tryz.prog W = .ok (.slice A5 (l.length - 5) (c - 5)) W := fun W => hcut5 W
  have hc9 : ∀ W, (Instr.slice 22 (.slice (some ⟨g, o, none⟩) l.length c) (some (.int .i64 9)) none none).run Tryz.prog W = .ok (.slice A9 (l.length - 9) (c - 9)) W := fun W => hcut9 W
  generalize valL (l.take 3) = v3 at *
  clear hE hty hfl hst hcell hgl c3 c4 hRN hrh hRd5 hRd9 hl5 hl9 hcut5 hcut9 HGN hh hn hf hi1 hz11 h9
  go_enter Tryz.func126, Tryz.ntmps126
  go_wp2_with fail
  generalize ((w.alloc (.cells #[.int .u8 0, .int .u8 0, .int .u32 0, .slice none 0 0, .int .i64 0, .int .u32 0, .int .u32 0, .int .u8 0, .bool false, .int .u32 0, .slice none 0 0] 66)).alloc (.cells #[.int .u8 0, .int .u32 0] 29)) = w1 at *
  refine (hh' _ (HRd.out.below HB.out)).mono ?_
  rintro e w1' ⟨rfl, nq, rfl⟩
  have HX2 := Lib.hid (show Row (w1.drewN nq) _ _ _ from HX.out)
  have HT2 := Lib.hid (show Row (w1.drewN nq) _ _ _ from HT.out)
  have HB2 := Lib.hid (below_dN HB.out nq)
  have HG2 := Lib.hid (show GlobE (w1.drewN nq) from HG.out)
  have HS2 : Hid ((w1.drewN nq).heap.size = w.heap.size + 2) := HSz
  clear hh' HX HT HB HG HSz
  generalize w1.drewN nq = w2 at *
  go_upto_region 4 with fail
  go_cut [6] (fun v wx => v = .pointer (some ⟨w2.heap.size, 0, none⟩) ∧ Hid (Row wx w2.heap.size 66 (fm0 ty fl st (-1)).c) ∧ Hid (Below w2.heap.size w2 wx) ∧ Hid (wx.heap.size = w2.heap.size + 1))
  case first =>
    have k3 := (HB2.out.cell (p := ⟨g, o + 3, none⟩) (blk_lt HC3.out)).trans HC3.out
    have k4 := (HB2.out.cell (p := ⟨g, o + 4, none⟩) (blk_lt HC4.out)).trans HC4.out
    have b3 : g < w2.heap.size := blk_lt k3
    have HB9 : Hid (Below w2.heap.size w2 w2) := Below.refl _ _
    refine wp_region_held_drew (S := fun w' => w'.cell? ⟨g, o + 3, none⟩ = some (.int .u8 (ty : Int)) ∧ w'.cell? ⟨g, o + 4, none⟩ = some (.int .u8 (fl : Int))) (by kernel_rfl) ⟨k3, k4⟩ (fun hHeld => ?_)
    clear k3 k4
    refine wpAnyH_take (i := 0) (v := ?v0) rfl (by kernel_rfl) (by kernel_rfl) (by kernel_rfl) (fun _ _ _ h => h) (Or.inl ⟨by rfl, ?hy0⟩) (by assumption) ?rest0
    case hy0 => (intro w hSw; (try dsimp only at hSw); go_simp <;> with_reducible rfl)
    try simp only [Act.put, List.getElem_toArray, List.getElem_cons_zero, List.getElem_cons_succ, List.setIfInBounds_toArray, List.set_cons_zero, List.set_cons_succ]
    refine wpAnyH_take (i := 1) (v := ?v1) rfl (by kernel_rfl) (by kernel_rfl) (by kernel_rfl) (fun _ _ _ h => h) (Or.inl ⟨by rfl, ?hy1⟩) (by assumption) ?rest1
    case hy1 => (intro w hSw; (try dsimp only at hSw); go_simp <;> with_reducible rfl)
    try simp only [Act.put, List.getElem_toArray, List.getElem_cons_zero, List.getElem_cons_succ, List.setIfInBounds_toArray, List.set_cons_zero, List.set_cons_succ]
    refine wpAnyH_take (i := 2) (v := ?v2) rfl (by kernel_rfl) (by kernel_rfl) (by kernel_rfl) (fun _ _ _ h => h) (Or.inl ⟨by rfl, ?hy2⟩) (by assumption) ?rest2
    case hy2 => (intro w hSw; (try dsimp only at hSw); go_simp <;> with_reducible rfl)
    try simp only [Act.put, List.getElem_toArray, List.getElem_cons_zero, List.getElem_cons_succ, List.setIfInBounds_toArray, List.set_cons_zero, List.set_cons_succ]
    refine wpAnyH_take (i := 3) (v := ?v3) rfl (by kernel_rfl) (by kernel_rfl) (by kernel_rfl) (fun _ _ _ h => h) (Or.inl ⟨by rfl, ?hy3⟩) (by assumption) ?rest3
    case hy3 => (intro w hSw; (try dsimp only at hSw); go_simp <;> with_reducible rfl)
    try simp only [Act.put, List.getElem_toArray, List.getElem_cons_zero, List.getElem_cons_succ, List.setIfInBounds_toArray, List.set_cons_zero, List.set_cons_succ]
    refine wpAnyH_take (i := 4) (v := ?v4) rfl (by kernel_rfl) (by kernel_rfl) (by kernel_rfl) (fun _ _ _ h => h) (Or.inl ⟨by rfl, ?hy4⟩) (by assumption) ?rest4
    case hy4 => (intro w hSw; (try dsimp only at hSw); go_simp <;> with_reducible rfl)
    try simp only [Act.put, List.getElem_toArray, List.getElem_cons_zero, List.getElem_cons_succ, List.setIfInBounds_toArray, List.set_cons_zero, List.set_cons_succ]
    refine wpAnyH_take (i := 5) (v := ?v5) rfl (by kernel_rfl) (by kernel_rfl) (by kernel_rfl) (fun _ _ _ h => h) (Or.inl ⟨by rfl, ?hy5⟩) (by assumption) ?rest5
    case hy5 => (intro w hSw; (try dsimp only at hSw); go_simp <;> with_reducible rfl)
    try simp only [Act.put, List.getElem_toArray, List.getElem_cons_zero, List.getElem_cons_succ, List.setIfInBounds_toArray, List.set_cons_zero, List.set_cons_succ]
    refine wpAnyH_take (i := 6) (v := ?v6) rfl (by kernel_rfl) (by kernel_rfl) (by kernel_rfl) (fun _ _ _ h => h) (Or.inl ⟨by rfl, ?hy6⟩) (by assumption) ?rest6
    case hy6 => (intro w hSw; (try dsimp only at hSw); go_simp <;> with_reducible rfl)
    try simp only [Act.put, List.getElem_toArray, List.getElem_cons_zero, List.getElem_cons_succ, List.setIfInBounds_toArray, List.set_cons_zero, List.set_cons_succ]
    refine wpAnyH_take (i := 7) (v := ?v7) rfl (by kernel_rfl) (by kernel_rfl) (by kernel_rfl) (fun _ _ _ h => h) (Or.inl ⟨by rfl, ?hy7⟩) (by assumption) ?rest7
    case hy7 => (intro w hSw; (try dsimp only at hSw); go_simp <;> with_reducible rfl)
    try simp only [Act.put, List.getElem_toArray, List.getElem_cons_zero, List.getElem_cons_succ, List.setIfInBounds_toArray, List.set_cons_zero, List.set_cons_succ]
    refine wpAnyH_ready (rs := [8, 10]) (by kernel_rfl) (by simp) ?_
    refine AllReadyH.cons rfl (fun K hK => ?_) (AllReadyH.cons rfl (fun K hK => ?_) AllReadyH.nil)
    · go_simp
      go_at_call 162
      refine (hgs _ (HRd5.out.below (show Below w.heap.size w w2.drew from HB2.out.drew))).mono ?_
      rintro e w3 ⟨rfl, nr, rfl⟩
      refine hK.out _ _ hHeld (fun hHeld => ?_)
      clear hK K
      try simp only [Act.put, List.getElem_toArray, List.getElem_cons_zero, List.getElem_cons_succ, List.setIfInBounds_toArray, List.set_cons_zero, List.set_cons_succ]
      refine wpAnyH_take (i := 9) (v := ?v9q1) rfl (by kernel_rfl) (by kernel_rfl) (by kernel_rfl) (fun _ _ _ h => h) (Or.inl ⟨by rfl, ?hy9q1⟩) (by assumption) ?rest9q1
      case hy9q1 => (intro w hSw; (try dsimp only at hSw); go_simp <;> with_reducible rfl)
      try simp only [Act.put, List.getElem_toArray, List.getElem_cons_zero, List.getElem_cons_succ, List.setIfInBounds_toArray, List.set_cons_zero, List.set_cons_succ]
      refine wpAnyH_ready (rs := [10]) (by kernel_rfl) (by simp) ?_
      refine AllReadyH.cons rfl (fun K hK => ?_) AllReadyH.nil
      go_simp
      refine hK.out _ _ ⟨(World.cell?_alloc_lt _ _ ⟨g, o + 3, none⟩ b3).trans hHeld.1, (World.cell?_alloc_lt _ _ ⟨g, o + 4, none⟩ b3).trans hHeld.2⟩ (fun hHeld => ?_)
      clear hK K
      try simp only [Act.put, List.getElem_toArray, List.getElem_cons_zero, List.getElem_cons_succ, List.setIfInBounds_toArray, List.set_cons_zero, List.set_cons_succ]
      refine wpAnyH_ready (rs := [11]) (by kernel_rfl) (by simp) ?_
      refine AllReadyH.cons rfl (fun K hK => ?_) AllReadyH.nil
      have hRw : Row ((w2.drewN (1 + nr)).alloc (.cells #[.int .u8 0, .int .u8 0, .int .u32 0, .slice none 0 0, .int .i64 0, .int .u32 0, .int .u32 0, .int .u8 0, .bool false, .int .u32 0, .slice none 0 0] 66)) w2.heap.size 66 (fm0 0 0 0 0).c := by rw [z_c]; exact Row.made _ _ _ rfl
      have hBw : Below w2.heap.size w2 ((w2.drewN (1 + nr)).alloc (.cells #[.int .u8 0, .int .u8 0, .int .u32 0, .slice none 0 0, .int .i64 0, .int .u32 0, .int .u32 0, .int .u8 0, .bool false, .int .u32 0, .slice none 0 0] 66)) := (below_dN (Below.refl _ _) (1 + nr)).alloc (Nat.le_refl _) _
      have hSw : ((w2.drewN (1 + nr)).alloc (.cells #[.int .u8 0, .int .u8 0, .int .u32 0, .slice none 0 0, .int .i64 0, .int .u32 0, .int .u32 0, .int .u8 0, .bool false, .int .u32 0, .slice none 0 0] 66)).heap.size = w2.heap.size + 1 := by simp
      refine step_sfm (x := fm0 ty fl st (-1)) rfl (.tmp 6) (.tmp 34) rfl rfl (by rw [hd_c]; rfl) hRw ?_
      refine hK.out _ _ ⟨(below_setRow (Below.refl w2.heap.size _) _ _ (Nat.le_refl _)).cell (p := ⟨g, o + 3, none⟩) b3 |>.trans hHeld.1, (below_setRow (Below.refl w2.heap.size _) _ _ (Nat.le_refl _)).cell (p := ⟨g, o + 4, none⟩) b3 |>.trans hHeld.2⟩ (fun hHeld => ?_)
      clear hK K
      try simp only [Act.put, List.getElem_toArray, List.getElem_cons_zero, List.getElem_cons_succ, List.setIfInBounds_toArray, List.set_cons_zero, List.set_cons_succ]
      refine wpAnyH_done (by kernel_rfl) ?_ _
      go_wp2_with fail
      go_meet
      exact ⟨rfl, hRw.setRow _, below_setRow hBw _ _ (Nat.le_refl _), by show _ = _; simp⟩
    · go_simp
      refine hK.out _ _ ⟨(World.cell?_alloc_lt _ _ ⟨g, o + 3, none⟩ b3).trans hHeld.1, (World.cell?_alloc_lt _ _ ⟨g, o + 4, none⟩ b3).trans hHeld.2⟩ (fun hHeld => ?_)
      clear hK K
      try simp only [Act.put, List.getElem_toArray, List.getElem_cons_zero, List.getElem_cons_succ, List.setIfInBounds_toArray, List.set_cons_zero, List.set_cons_succ]
      refine wpAnyH_ready (rs := [8]) (by kernel_rfl) (by simp) ?_
      refine AllReadyH.cons rfl (fun K hK => ?_) AllReadyH.nil
      have hRw : Row ((w2.drew).alloc (.cells #[.int .u8 0, .int .u8 0, .int .u32 0, .slice none 0 0, .int .i64 0, .int .u32 0, .int .u32 0, .int .u8 0, .bool false, .int .u32 0, .slice none 0 0] 66)) w2.heap.size 66 (fm0 0 0 0 0).c := by rw [z_c]; exact Row.made _ _ _ rfl
      have hBw : Below w2.heap.size w2 ((w2.drew).alloc (.cells #[.int .u8 0, .int .u8 0, .int .u32 0, .slice none 0 0, .int .i64 0, .int .u32 0, .int .u32 0, .int .u8 0, .bool false, .int .u32 0, .slice none 0 0] 66)) := (Below.refl _ _).drew.alloc (Nat.le_refl _) _
      have hSw : ((w2.drew).alloc (.cells #[.int .u8 0, .int .u8 0, .int .u32 0, .slice none 0 0, .int .i64 0, .int .u32 0, .int .u32 0, .int .u8 0, .bool false, .int .u32 0, .slice none 0 0] 66)).heap.size = w2.heap.size + 1 := by simp
      go_simp
      go_at_call 162
      refine (hgs _ (HRd5.out.below (HB2.out.trans (hBw.mono HB2.out.size)))).mono ?_
      rintro e w3 ⟨rfl, nr, rfl⟩
      refine hK.out _ _ hHeld (fun hHeld => ?_)
      clear hK K
      try simp only [Act.put, List.getElem_toArray, List.getElem_cons_zero, List.getElem_cons_succ, List.setIfInBounds_toArray, List.set_cons_zero, List.set_cons_succ]
      refine wpAnyH_take (i := 9) (v := ?v9q2) rfl (by kernel_rfl) (by kernel_rfl) (by kernel_rfl) (fun _ _ _ h => h) (Or.inl ⟨by rfl, ?hy9q2⟩) (by assumption) ?rest9q2
      case hy9q2 => (intro w hSw; (try dsimp only at hSw); go_simp <;> with_reducible rfl)
      try simp only [Act.put, List.getElem_toArray, List.getElem_cons_zero, List.getElem_cons_succ, List.setIfInBounds_toArray, List.set_cons_zero, List.set_cons_succ]
      refine wpAnyH_ready (rs := [11]) (by kernel_rfl) (by simp) ?_
      refine AllReadyH.cons rfl (fun K hK => ?_) AllReadyH.nil
      refine step_sfm (x := fm0 ty fl st (-1)) (y := fm0 0 0 0 0) rfl (.tmp 6) (.tmp 34) rfl rfl (by rw [hd_c]; rfl) hRw ?_
      refine hK.out _ _ ⟨(below_setRow (Below.refl w2.heap.size _) _ _ (Nat.le_refl _)).cell (p := ⟨g, o + 3, none⟩) b3 |>.trans hHeld.1, (below_setRow (Below.refl w2.heap.size _) _ _ (Nat.le_refl _)).cell (p := ⟨g, o + 4, none⟩) b3 |>.trans hHeld.2⟩ (fun hHeld => ?_)
      clear hK K
      try simp only [Act.put, List.getElem_toArray, List.getElem_cons_zero, List.getElem_cons_succ, List.setIfInBounds_toArray, List.set_cons_zero, List.set_cons_succ]
      refine wpAnyH_done (by kernel_rfl) ?_ _
      go_wp2_with fail
      go_meet
      exact ⟨rfl, hRw.setRow _, below_setRow (below_dN hBw nr) _ _ (Nat.le_refl _), by show _ = _; simp⟩
  case rest =>
    obtain ⟨rfl, HH3, HBc, HSc⟩ := hcut
    have HX3 := Lib.hid (HX2.out.below HBc.out HX2.out.lt)
    have HT3 := Lib.hid (HT2.out.below HBc.out HT2.out.lt)
    have HG3 := Lib.hid (HG2.out.below HBc.out)
    have HB3 := Lib.hid (HB2.out.trans (HBc.out.mono HB2.out.size))
    clear HX2 HT2 HG2 HB2 HBc HC3 HC4 HRd5 hgs m3 m4 hc5
    generalize w2.heap.size = k at *
    generalize wc = w3 at *
    go_upto_region 5 with fail
    go_cut [7, 8] (fun p v wx => ∃ kx x, p = .pointer (some ⟨kx, 0, none⟩) ∧ Hid (Row wx kx 66 (Fm.c x)) ∧ Hid (EV wx v RN.2.1 RN.2.2) ∧ Hid (RN.2.1 = 0 → FmIs wx w3.heap.size x RN.1) ∧ Hid (Below w3.heap.size w3 wx))
    case first =>
      have hk3 : k < w3.heap.size := HH3.out.lt
      refine wp_region_held_drew (S := fun w' => Row w' k 66 (fm0 ty fl st (-1)).c ∧ True) (by kernel_rfl) ⟨HH3.out, trivial⟩ (fun hHeld => ?_)
      refine wpAnyH_take (i := 0) (v := _) rfl (by kernel_rfl) (by kernel_rfl) (by kernel_rfl) (fun _ _ _ h => h) (yields_fm (by rfl) _ rfl rfl (fun _ hSw => hSw.1)) (by assumption) ?rest0q3
      try simp only [Act.put, List.getElem_toArray, List.getElem_cons_zero, List.getElem_cons_succ, List.setIfInBounds_toArray, List.set_cons_zero, List.set_cons_succ]
      refine wpAnyH_take (i := 1) (v := ?v1q4) rfl (by kernel_rfl) (by kernel_rfl) (by kernel_rfl) (fun _ _ _ h => h) (Or.inl ⟨by rfl, ?hy1q4⟩) (by assumption) ?rest1q4
      case hy1q4 => (intro w hSw; (try dsimp only at hSw); go_simp <;> with_reducible rfl)
      try simp only [Act.put, List.getElem_toArray, List.getElem_cons_zero, List.getElem_cons_succ, List.setIfInBounds_toArray, List.set_cons_zero, List.set_cons_succ]
      refine wpAnyH_take (i := 2) (v := ?v2q4) rfl (by kernel_rfl) (by kernel_rfl) (by kernel_rfl) (fun _ _ _ h => h) (Or.inl ⟨by rfl, ?hy2q4⟩) (by assumption) ?rest2q4
      case hy2q4 => (intro w hSw; (try dsimp only at hSw); go_simp <;> with_reducible rfl)
      try simp only [Act.put, List.getElem_toArray, List.getElem_cons_zero, List.getElem_cons_succ, List.setIfInBounds_toArray, List.set_cons_zero, List.set_cons_succ]
      refine wpAnyH_ready (rs := [3, 7]) (by kernel_rfl) (by simp) ?_
      refine AllReadyH.cons rfl (fun K hK => ?_) (AllReadyH.cons rfl (fun K hK => ?_) AllReadyH.nil)
      · go_simp
        go_at_call 163
        refine (hrd _ ((HRd9.out.below (show Below _ _ w3.drew from HB3.out.drew)).more (show w.heap.size ≤ w3.drew.heap.size from HB3.out.size))).mono ?_
        rintro e w4 ⟨x4, v4, rfl, hv4, hm4, hb4⟩
        have HH4 := hHeld.1.below hb4 hHeld.1.lt
        refine hK.out _ _ ⟨HH4, trivial⟩ (fun hHeld => ?_)
        clear hK K
        try simp only [Act.put, List.getElem_toArray, List.getElem_cons_zero, List.getElem_cons_succ, List.setIfInBounds_toArray, List.set_cons_zero, List.set_cons_succ]
        refine wpAnyH_take (i := 4) (v := ?v4q5) rfl (by kernel_rfl) (by kernel_rfl) (by kernel_rfl) (fun _ _ _ h => h) (Or.inl ⟨by rfl, ?hy4q5⟩) (by assumption) ?rest4q5
        case hy4q5 => (intro w hSw; (try dsimp only at hSw); go_simp <;> with_reducible rfl)
        try simp only [Act.put, List.getElem_toArray, List.getElem_cons_zero, List.getElem_cons_succ, List.setIfInBounds_toArray, List.set_cons_zero, List.set_cons_succ]
        refine wpAnyH_take (i := 5) (v := ?v5q5) rfl (by kernel_rfl) (by kernel_rfl) (by kernel_rfl) (fun _ _ _ h => h) (Or.inl ⟨by rfl, ?hy5q5⟩) (by assumption) ?rest5q5
        case hy5q5 => (intro w hSw; (try dsimp only at hSw); go_simp <;> with_reducible rfl)
        try simp only [Act.put, List.getElem_toArray, List.getElem_cons_zero, List.getElem_cons_succ, List.setIfInBounds_toArray, List.set_cons_zero, List.set_cons_succ]
        refine wpAnyH_take (i := 6) (v := ?v6q5) rfl (by kernel_rfl) (by kernel_rfl) (by kernel_rfl) (fun _ _ _ h => h) (Or.inl ⟨by rfl, ?hy6q5⟩) (by assumption) ?rest6q5
        case hy6q5 => (intro w hSw; (try dsimp only at hSw); go_simp <;> with_reducible rfl)
        try simp only [Act.put, List.getElem_toArray, List.getElem_cons_zero, List.getElem_cons_succ, List.setIfInBounds_toArray, List.set_cons_zero, List.set_cons_succ]
        refine wpAnyH_ready (rs := [7]) (by kernel_rfl) (by simp) ?_
        refine AllReadyH.cons rfl (fun K hK => ?_) AllReadyH.nil
        go_simp
        refine hK.out _ _ ⟨HH4.alloc _, trivial⟩ (fun hHeld => ?_)
        clear hK K
        try simp only [Act.put, List.getElem_toArray, List.getElem_cons_zero, List.getElem_cons_succ, List.setIfInBounds_toArray, List.set_cons_zero, List.set_cons_succ]
        refine wpAnyH_ready (rs := [8]) (by kernel_rfl) (by simp) ?_
        refine AllReadyH.cons rfl (fun K hK => ?_) AllReadyH.nil
        have hRw : Row (w4.alloc (.cells #[.int .u8 0, .int .u8 0, .int .u32 0, .slice none 0 0, .int .i64 0, .int .u32 0, .int .u32 0, .int .u8 0, .bool false, .int .u32 0, .slice none 0 0] 66)) w4.heap.size 66 (fm0 0 0 0 0).c := by rw [z_c]; exact Row.made _ _ _ rfl
        have h34 : w3.heap.size ≤ w4.heap.size := hb4.size
        have hbs : Below w4.heap.size w4 ((w4.alloc (.cells #[.int .u8 0, .int .u8 0, .int .u32 0, .slice none 0 0, .int .i64 0, .int .u32 0, .int .u32 0, .int .u8 0, .bool false, .int .u32 0, .slice none 0 0] 66)).setRow w4.heap.size (Fm.c x4)) := below_setRow ((Below.refl _ _).alloc (Nat.le_refl _) _) _ _ (Nat.le_refl _)
        refine step_sfm (x := x4) (y := fm0 0 0 0 0) rfl (.tmp 7) (.tmp 40) rfl rfl rfl hRw ?_
        refine hK.out _ _ ⟨HH4.below hbs HH4.lt, trivial⟩ (fun hHeld => ?_)
        clear hK K
        try simp only [Act.put, List.getElem_toArray, List.getElem_cons_zero, List.getElem_cons_succ, List.setIfInBounds_toArray, List.set_cons_zero, List.set_cons_succ]
        refine wpAnyH_take (i := 9) (v := ?v9q6) rfl (by kernel_rfl) (by kernel_rfl) (by kernel_rfl) (fun _ _ _ h => h) (Or.inl ⟨by rfl, ?hy9q6⟩) (by assumption) ?rest9q6
        case hy9q6 => (intro w hSw; (try dsimp only at hSw); go_simp <;> with_reducible rfl)
        try simp only [Act.put, List.getElem_toArray, List.getElem_cons_zero, List.getElem_cons_succ, List.setIfInBounds_toArray, List.set_cons_zero, List.set_cons_succ]
        refine wpAnyH_done (by kernel_rfl) ?_ _
        go_wp2_with fail
        go_meet
        refine ⟨_, x4, rfl, hRw.setRow _, EV.keep hv4 (fun j hj => ?_), fun h => FmIs.below (hm4 h) hbs, Below.trans (show Below w3.heap.size w3 w4 from (Below.refl _ w3).drew.trans hb4) (hbs.mono h34)⟩
        rcases hv4 with ⟨rfl, _⟩ | ⟨_, ge, rfl, hE⟩
        · cases hj
        · injection hj with h1 h2; injection h2 with h2; injection h2 with h2; injection h2 with h2; subst h2; exact hbs.block _ hE.lt
      · go_simp
        have hBa : Below w3.heap.size w3 ((w3.drew).alloc (.cells #[.int .u8 0, .int .u8 0, .int .u32 0, .slice none 0 0, .int .i64 0, .int .u32 0, .int .u32 0, .int .u8 0, .bool false, .int .u32 0, .slice none 0 0] 66)) := (Below.refl _ _).drew.alloc (Nat.le_refl _) _
        have HHa : Row ((w3.drew).alloc (.cells #[.int .u8 0, .int .u8 0, .int .u32 0, .slice none 0 0, .int .i64 0, .int .u32 0, .int .u32 0, .int .u8 0, .bool false, .int .u32 0, .slice none 0 0] 66)) k 66 (fm0 ty fl st (-1)).c := HH3.out.below hBa hk3
        have hRa : Row ((w3.drew).alloc (.cells #[.int .u8 0, .int .u8 0, .int .u32 0, .slice none 0 0, .int .i64 0, .int .u32 0, .int .u32 0, .int .u8 0, .bool false, .int .u32 0, .slice none 0 0] 66)) w3.heap.size 66 (fm0 0 0 0 0).c := by rw [z_c]; exact Row.made _ _ _ rfl
        have hsa : ((w3.drew).alloc (.cells #[.int .u8 0, .int .u8 0, .int .u32 0, .slice none 0 0, .int .i64 0, .int .u32 0, .int .u32 0, .int .u8 0, .bool false, .int .u32 0, .slice none 0 0] 66)).heap.size = w3.heap.size + 1 := by simp
        refine hK.out _ _ ⟨HHa, trivial⟩ (fun hHeld => ?_)
        clear hK K
        try simp only [Act.put, List.getElem_toArray, List.getElem_cons_zero, List.getElem_cons_succ, List.setIfInBounds_toArray, List.set_cons_zero, List.set_cons_succ]
        refine wpAnyH_ready (rs := [3]) (by kernel_rfl) (by simp) ?_
        refine AllReadyH.cons rfl (fun K hK => ?_) AllReadyH.nil
        go_simp
        go_at_call 163
        refine (hrd _ ((HRd9.out.below (HB3.out.trans (hBa.mono HB3.out.size))).more (by rw [hsa]; have := HB3.out.size; omega))).mono ?_
        rintro e w4 ⟨x4, v4, rfl, hv4, hm4, hb4⟩
        rw [hsa] at hm4 hb4
        have HH4 := HHa.below hb4 (by omega)
        have hR4 := hRa.below hb4 (by omega)
        refine hK.out _ _ ⟨HH4, trivial⟩ (fun hHeld => ?_)
        clear hK K
        try simp only [Act.put, List.getElem_toArray, List.getElem_cons_zero, List.getElem_cons_succ, List.setIfInBounds_toArray, List.set_cons_zero, List.set_cons_succ]
        refine wpAnyH_take (i := 4) (v := ?v4q7) rfl (by kernel_rfl) (by kernel_rfl) (by kernel_rfl) (fun _ _ _ h => h) (Or.inl ⟨by rfl, ?hy4q7⟩) (by assumption) ?rest4q7
        case hy4q7 => (intro w hSw; (try dsimp only at hSw); go_simp <;> with_reducible rfl)
        try simp only [Act.put, List.getElem_toArray, List.getElem_cons_zero, List.getElem_cons_succ, List.setIfInBounds_toArray, List.set_cons_zero, List.set_cons_succ]
        refine wpAnyH_take (i := 5) (v := ?v5q7) rfl (by kernel_rfl) (by kernel_rfl) (by kernel_rfl) (fun _ _ _ h => h) (Or.inl ⟨by rfl, ?hy5q7⟩) (by assumption) ?rest5q7
        case hy5q7 => (intro w hSw; (try dsimp only at hSw); go_simp <;> with_reducible rfl)
        try simp only [Act.put, List.getElem_toArray, List.getElem_cons_zero, List.getElem_cons_succ, List.setIfInBounds_toArray, List.set_cons_zero, List.set_cons_succ]
        refine wpAnyH_take (i := 6) (v := ?v6q7) rfl (by kernel_rfl) (by kernel_rfl) (by kernel_rfl) (fun _ _ _ h => h) (Or.inl ⟨by rfl, ?hy6q7⟩) (by assumption) ?rest6q7
        case hy6q7 => (intro w hSw; (try dsimp only at hSw); go_simp <;> with_reducible rfl)
        try simp only [Act.put, List.getElem_toArray, List.getElem_cons_zero, List.getElem_cons_succ, List.setIfInBounds_toArray, List.set_cons_zero, List.set_cons_succ]
        refine wpAnyH_ready (rs := [8]) (by kernel_rfl) (by simp) ?_
        refine AllReadyH.cons rfl (fun K hK => ?_) AllReadyH.nil
        refine step_sfm (x := x4) (y := fm0 0 0 0 0) rfl (.tmp 7) (.tmp 40) rfl rfl rfl hR4 ?_
        refine hK.out _ _ ⟨HH4.setRow' (by omega) _, trivial⟩ (fun hHeld => ?_)
        clear hK K
        try simp only [Act.put, List.getElem_toArray, List.getElem_cons_zero, List.getElem_cons_succ, List.setIfInBounds_toArray, List.set_cons_zero, List.set_cons_succ]
        refine wpAnyH_take (i := 9) (v := ?v9q8) rfl (by kernel_rfl) (by kernel_rfl) (by kernel_rfl) (fun _ _ _ h => h) (Or.inl ⟨by rfl, ?hy9q8⟩) (by assumption) ?rest9q8
        case hy9q8 => (intro w hSw; (try dsimp only at hSw); go_simp <;> with_reducible rfl)
        try simp only [Act.put, List.getElem_toArray, List.getElem_cons_zero, List.getElem_cons_succ, List.setIfInBounds_toArray, List.set_cons_zero, List.set_cons_succ]
        refine wpAnyH_done (by kernel_rfl) ?_ _
        go_wp2_with fail
        go_meet
        exact ⟨_, x4, rfl, hR4.setRow _, EV.keep' hv4 hR4, fun h => ((hm4 h).setRow (by omega) _).mono (by omega), below_setRow (hBa.trans (hb4.mono (by omega))) _ _ (Nat.le_refl _)⟩
    case rest =>
      obtain ⟨kx, x, rfl, HRx, HV, HM, HBx⟩ := hcut
      have HX4 := Lib.hid (HX3.out.below HBx.out HX3.out.lt)
      have HT4 := Lib.hid (HT3.out.below HBx.out HT3.out.lt)
      have HG4 := Lib.hid (HG3.out.below HBx.out)
      have HB4 := Lib.hid (HB3.out.trans (HBx.out.mono HB3.out.size))
      have HH4 := Lib.hid (HH3.out.below HBx.out HH3.out.lt)
      have HS4 : Hid (k = w.heap.size + 2 ∧ w3.heap.size = k + 1) := ⟨HS2.out, HSc.out⟩
      clear HX3 HT3 HG3 HB3 HH3 HBx HRd9 hrd hc9 HS2 HSc
      rcases HV.out with ⟨rfl, hs0⟩ | ⟨hs0, ge, rfl, hE⟩
      · have HM0 := Lib.hid (HM.out hs0)
        have HZ0 := Lib.hid (And.intro hs0 (HRH.out.2 hs0))
        have HT5 := Lib.hid (HT4.out.setRow' (k := w.heap.size) (by omega) (Fm.c x))
        clear hs0 HM HRH HV
        go_wp2_with (first | (refine wpList_fm rfl _ rfl rfl HRx.out ?_) | (refine wpList_sfm (x := x) rfl _ _ rfl rfl rfl HX4.out ?_) | (refine wpList_sft rfl _ _ rfl rfl (show _ = Value.agg (ftc 0 0) by rw [hftc]; rfl) HT5.out ?_))
        refine bodyPost_ret (ret_ff rfl _ _ w.heap.size (w.heap.size + 1) x 0 0 rfl ((HX4.out.setRow _).setRow' (by omega) _) rfl (HT5.out.setRow _)) rfl ?_
        obtain ⟨h1, h2⟩ := HZ0.out
        obtain ⟨h3, h4⟩ := HS4.out
        refine ⟨x, by rw [h1, h2], ?_, below_setRow (below_setRow HB4.out _ _ (Nat.le_refl _)) _ _ (by omega)⟩
        exact ((HM0.out.setRow (by omega) _).setRow (by omega) _).mono (by omega)
      · have HF := Lib.hid (HRH.out.1 hs0)
        have HE4 := Lib.hid hE
        clear HV hE HM HRH HRx hs0
        obtain ⟨hk1, hk2⟩ := HS4.out
        clear HS4
        have hof := fun (W : World) (h1 : Row W ge 174 #[.int .u8 (RN.2.1 : Int), .int .u32 (RN.2.2 : Int)]) (h2 : GlobE W) => of_row h1 h2
        have hg0 : ge ≠ w.heap.size := fun e1 => by
          have h1 := HE4.out
          rw [e1] at h1
          have h2 := (show wc.heap[w.heap.size]? = _ from h1).symm.trans (show wc.heap[w.heap.size]? = _ from HX4.out)
          simp at h2
        go_upto_region 7 with fail
        refine wp_region_held_drew (S := fun w' => Row w' k 66 (fm0 ty fl st (-1)).c ∧ True) (by kernel_rfl) ⟨HH4.out, trivial⟩ (fun hHeld => ?_)
        refine wpAnyH_take (i := 0) (v := _) rfl (by kernel_rfl) (by kernel_rfl) (by kernel_rfl) (fun _ _ _ h => h) (yields_fm (by rfl) _ rfl rfl (fun _ hSw => hSw.1)) (by assumption) ?rest0q9
        try simp only [Act.put, List.getElem_toArray, List.getElem_cons_zero, List.getElem_cons_succ, List.setIfInBounds_toArray, List.set_cons_zero, List.set_cons_succ]
        refine wpAnyH_take (i := 1) (v := ?v1q10) rfl (by kernel_rfl) (by kernel_rfl) (by kernel_rfl) (fun _ _ _ h => h) (Or.inl ⟨by rfl, ?hy1q10⟩) (by assumption) ?rest1q10
        case hy1q10 => (intro w hSw; (try dsimp only at hSw); go_simp <;> with_reducible rfl)
        try simp only [Act.put, List.getElem_toArray, List.getElem_cons_zero, List.getElem_cons_succ, List.setIfInBounds_toArray, List.set_cons_zero, List.set_cons_succ]
        refine wpAnyH_ready (rs := [2]) (by kernel_rfl) (by simp) ?_
        refine AllReadyH.cons rfl (fun K hK => ?_) AllReadyH.nil
        go_simp
        go_at_call 111
        refine (hof _ (show Row wc.drew _ _ _ from HE4.out) (show GlobE wc.drew from HG4.out)).mono ?_
        rintro e w6 ⟨rfl, hb6⟩
        have hb6 : Below wc.heap.size wc w6 := (Below.refl _ wc).drew.trans hb6
        have HX6 := HX4.out.below hb6 HX4.out.lt
        have HT6 := HT4.out.below hb6 HT4.out.lt
        have HH6 := HH4.out.below hb6 HH4.out.lt
        have HB6 := HB4.out.trans (hb6.mono HB4.out.size)
        refine hK.out _ _ ⟨HH6, trivial⟩ (fun hHeld => ?_)
        clear hK K
        try simp only [Act.put, List.getElem_toArray, List.getElem_cons_zero, List.getElem_cons_succ, List.setIfInBounds_toArray, List.set_cons_zero, List.set_cons_succ]
        refine wpAnyH_ready (rs := [3]) (by kernel_rfl) (by simp) ?_
        refine AllReadyH.cons rfl (fun K hK => ?_) AllReadyH.nil
        refine step_sfm (x := fm0 ty fl st (-1)) (y := fm0 0 0 0 0) rfl (.tmp 2) (.tmp 44) rfl rfl rfl HX6 ?_
        refine hK.out _ _ ⟨HH6.setRow' (by omega) _, trivial⟩ (fun hHeld => ?_)
        clear hK K
        try simp only [Act.put, List.getElem_toArray, List.getElem_cons_zero, List.getElem_cons_succ, List.setIfInBounds_toArray, List.set_cons_zero, List.set_cons_succ]
        refine wpAnyH_ready (rs := [4]) (by kernel_rfl) (by simp) ?_
        refine AllReadyH.cons rfl (fun K hK => ?_) AllReadyH.nil
        refine step_sft (s := RN.2.1) (c := RN.2.2) (s0 := 0) (c0 := 0) rfl (.tmp 3) (.tmp 46) rfl rfl (by rw [hftc]; rfl) (HT6.setRow' (by omega) _) ?_
        refine hK.out _ _ ⟨(HH6.setRow' (by omega) _).setRow' (by omega) _, trivial⟩ (fun hHeld => ?_)
        clear hK K
        try simp only [Act.put, List.getElem_toArray, List.getElem_cons_zero, List.getElem_cons_succ, List.setIfInBounds_toArray, List.set_cons_zero, List.set_cons_succ]
        refine wpAnyH_done (by kernel_rfl) ?_ _
        go_wp2_with fail
        refine bodyPost_ret (ret_ff rfl _ _ w.heap.size (w.heap.size + 1) (fm0 ty fl st (-1)) RN.2.1 RN.2.2 rfl ((HX6.setRow _).setRow' (by omega) _) rfl ((HT6.setRow' (by omega) _).setRow _)) rfl ?_
        exact ⟨_, rfl, by rw [HF.out]; exact FmIs.hd _ _ _ _ _, below_setRow (below_setRow HB6 _ _ (Nat.le_refl _)) _ _ (by omega)⟩
end Go.Proofs.YtooaajnkiokpnaaGreatDoor
