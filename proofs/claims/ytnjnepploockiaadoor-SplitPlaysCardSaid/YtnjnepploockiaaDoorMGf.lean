/-
  SplitPlays: over every input the law answers true, and the arguments read behind the call as they read before. Conditions: the row's own alone (each listed package-level variable reads as the program's text lays it: the card ties that).
  SplitPlays: the law's walk. Conditions: errors.errorType holds what the program's text lays.
-/
import Derived.Test.YtnjnepploockiaaDoorMGe
import Derived.Test.YtnjnepploockiaaDoorMGd
import Derived.Test.YtnjnepploockiaaDoorMGc
import Derived.Test.YtnjnepploockiaaDoorFdoor
import Derived.Test.YtnjnepploockiaaDoorFopen

namespace Go.Proofs.YtnjnepploockiaaDoor
open Go.RowKit Go.WideShapes

theorem el_bd {b0 : List UInt8} {p : Bool} {L : List El} {n : Nat} {b : Bool} (h : AllR b0 p (L.map El.rd) n b) (hb : b0.length ≤ 100000) : (∀ e ∈ L, e.F.dat.length ≤ 1000000 ∧ e.F.sets.length ≤ 1000000) ∧ L.length ≤ 1000000 := by
  refine ⟨fun e he => ?_, ?_⟩
  · have h1 : e.F.dat.length ≤ b0.length ∧ e.F.sets.length ≤ b0.length := h.bd e.rd (List.mem_map_of_mem he)
    omega
  · have := h.len
    rw [List.length_map] at this
    omega
attribute [local irreducible] Fm.c ftc fxc enl

set_option maxRecDepth 100000 in
set_option maxHeartbeats 8000000 in
theorem plays_big {b0 zs : List UInt8} {A Z : Option Addr} {cb cz often : Nat} {p : Bool} {w : World} (hG : GlobE w) (h : 40000 < b0.length ∨ 3000 < zs.length) :
    Calls Tryd.prog 3 #[.slice A b0.length cb, .bool p, .slice Z zs.length cz, .int .u8 often] w fun e w' => e = .returned (.bool true) ∧ Below w.heap.size w w' := by
  have hf := fixed_any8 _ hG
  by_cases c1 : 40000 < b0.length
  · have hd : decide ((40000 : Int) < (b0.length : Int)) = true := by simp; omega
    clear h
    go_enter Tryd.func3, Tryd.ntmps3
    go_wp2_with fail
    refine hf.mono ?_
    rintro e w1 ⟨rfl, hb⟩
    have HB := Lib.hid hb
    clear hb hf
    go_wp2_with fail
    go_ret
    exact ⟨rfl, HB.out⟩
  · have hd : decide ((40000 : Int) < (b0.length : Int)) = false := by simp; omega
    have hd2 : decide ((3000 : Int) < (zs.length : Int)) = true := by simp; omega
    clear h
    go_enter Tryd.func3, Tryd.ntmps3
    go_wp2_with fail
    refine hf.mono ?_
    rintro e w1 ⟨rfl, hb⟩
    have HB := Lib.hid hb
    clear hb hf
    go_wp2_with fail
    go_ret
    exact ⟨rfl, HB.out⟩

set_option maxRecDepth 100000 in
set_option maxHeartbeats 8000000 in
theorem plays_small {b0 zs : List UInt8} {A Z : Option Addr} {cb cz often : Nat} {p : Bool} {w : World} (hG : GlobE w) (hR : RdB w w.heap.size A b0) (hc : b0.length ≤ cb) (hZ : RdB w w.heap.size Z zs) (hof : often < 256) (hb0 : b0.length ≤ 40000) (hzl : zs.length ≤ 3000) :
    Calls Tryd.prog 3 #[.slice A b0.length cb, .bool p, .slice Z zs.length cz, .int .u8 often] w fun e w' => e = .returned (.bool true) ∧ Below w.heap.size w w' := by
  have hd : decide ((40000 : Int) < (b0.length : Int)) = false := by simp; omega
  have hd2 : decide ((3000 : Int) < (zs.length : Int)) = false := by simp; omega
  have hnew := new_any w p hG
  have HG := Lib.hid hG
  have HR := Lib.hid hR
  have HZ := Lib.hid hZ
  have HBL := Lib.hid hb0
  clear hG hR hZ
  go_enter Tryd.func3, Tryd.ntmps3
  go_wp2_with fail
  refine hnew.mono ?_
  rintro e w1 ⟨g, rfl, b, h1, hg1, hb1, hw1⟩
  have hS1 : Spl w1 g b [] p false := by have := h1.spl; rwa [heldL_nil] at this
  have HB1 := Lib.hid hw1
  have hlo : 0 < b := h1.lo.2
  have hlo2 : 0 < g := h1.lo.1
  have HL := Lib.hid hS1.lts
  have hG1 : GlobE w1 := HG.out.below hw1
  have HG1 := Lib.hid hG1
  have hsz1 : w.heap.size ≤ w1.heap.size := hw1.size
  have hpl := play_any (cb := cb) (cz := cz) (often := often) hS1 hG1 hlo ((RdB.toS (HR.out.below hw1)).imp fun k hk _ => ⟨by omega, by omega, by omega⟩) hc ((RdB.toS (HZ.out.below hw1)).imp fun k hk _ => ⟨by omega, by omega, by omega⟩) (by omega) (by omega) hof
  have HR1 := Lib.hid (HR.out.below hw1)
  clear h1 hnew hw1 hS1 hG1 HG HR HZ hzl
  go_wp2_with fail
  refine hpl.mono ?_
  rintro e w2 ⟨L, v, l, wt, bad, rfl, hF2, hS2, hA2, hn2, hW2⟩
  obtain ⟨Av, cv, rfl, _⟩ := hF2.own.shape
  have hb2 : Below w.heap.size w1 w2 := hW2.below (fun k hk _ => by rcases hk with hk | hk <;> omega) hsz1
  have HB2 := Lib.hid (HB1.out.trans hb2)
  have HF2 := Lib.hid hF2
  have HS2 := Lib.hid hS2
  have HA2 := Lib.hid hA2
  have HN2 := Lib.hid hn2
  have HG2 := Lib.hid (HG1.out.fs hW2 (gbS_glob hlo2 hlo))
  have HR2 := Lib.hid (HR1.out.below hb2)
  have htx := run_text (P := Tryd.prog) (c := cb) Tryd.underlying22 Tryd.underlying5 Tryd.underlying9 HR2.out
  have hal := all_any (l := b0) (by omega) p w2
  clear hpl hF2 hS2 hA2 hn2 hW2 hb2 HB1 HG1 HR1
  go_wp2_with (rw [show (⟨b0.toArray⟩ : ByteArray) = tb b0 from rfl] at htx)
  refine hal.mono ?_
  rintro e w3 ⟨M, n, b', v2, hA3, rfl, hF3, hb3⟩
  obtain ⟨e1, rfl, rfl⟩ := HA2.out.det hA3
  obtain ⟨Bv, cv2, rfl, _⟩ := hF3.own.shape
  have hb23 := hb3
  have HB3 := Lib.hid (HB2.out.trans (hb3.mono HB2.out.size))
  have HS3 := Lib.hid (HS2.out.below hb3)
  have HG3 := Lib.hid (HG2.out.below hb3)
  have HR3 := Lib.hid (HR2.out.below (hb3.mono HB2.out.size))
  have hbd1 := el_bd HA2.out (by have := HBL.out; omega)
  have hsm := same8_any (ca := cv) (cb := cv2) e1.symm (HF2.out.below hb3).reads.1 hF3.reads.1 (HF2.out.below hb3).reads.2 hF3.reads.2 hbd1.1 hbd1.2
  clear hal hA3 hF3 hb3 HB2 HS2 HG2 HR2 HF2 HA2 e1 hbd1 hb23
  go_wp2_with fail
  refine hsm.mono ?_
  rintro e w4 ⟨rfl, hb4⟩
  have HB4 := Lib.hid (HB3.out.trans (hb4.mono HB3.out.size))
  have HS4 := Lib.hid (HS3.out.below hb4)
  have HG4 := Lib.hid (HG3.out.below hb4)
  have HR4 := Lib.hid (HR3.out.below (hb4.mono HB3.out.size))
  clear hsm hb4 HB3 HS3 HG3 HR3
  have hbd := bad_any HS4.out
  have hhd := hld_any HS4.out
  go_wp2_with fail
  refine hbd.mono ?_
  rintro e w4' ⟨rfl, rfl⟩
  clear hbd
  go_wp2_with fail
  refine hhd.mono ?_
  rintro e w5 ⟨rfl, q, rfl⟩
  have HS5 : Hid (Spl (w4'.drewN q) g b l wt b') := HS4.out.keep (Nat.le_refl _) rfl rfl
  have HB5 := Lib.hid (below_dN HB4.out q)
  have HG5 : Hid (GlobE (w4'.drewN q)) := HG4.out
  have HR5 : Hid (RdB (w4'.drewN q) w.heap.size A b0) := HR4.out
  clear hhd HS4 HB4 HG4 HR4
  generalize w4'.drewN q = w5 at *
  have hn := Next_any HS5.out HG5.out
  rw [HN2.out] at hn
  go_wp2_with fail
  refine hn.mono ?_
  rintro e w6 ⟨vv, rfl, ⟨X, s, c, ok, rfl, rfl, rfl, rfl, rfl⟩, hS6, hF6⟩
  have hb6 : Below w.heap.size w5 w6 := hF6.below (fun k hk _ => by rcases hk with hk | hk <;> omega) HB5.out.size
  have HS6 : Hid (Spl w6 g b l wt b') := hS6
  have HB6 := Lib.hid (HB5.out.trans hb6)
  have HG6 := Lib.hid (HG5.out.fs hF6 (gbS_glob hlo2 hlo))
  have HR6 := Lib.hid (HR5.out.below hb6)
  have HLt := Lib.hid HS6.out.lts
  clear hn hS6 hF6 hb6 HS5 HB5 HG5 HR5
  have HXe : Hid (Row ((w6.alloc (.cells #[.int .u8 0, .int .u8 0, .int .u32 0, .slice none 0 0, .int .i64 0, .int .u32 0, .int .u32 0, .int .u8 0, .bool false, .int .u32 0, .slice none 0 0] 36)).alloc (.cells #[.int .u8 0, .int .u32 0] 38)) w6.heap.size 36 (fm0 0 0 0 0).c) := by show Row _ _ _ _; rw [z_c]; exact (Row.new w6 _ _).alloc _
  have HTe : Hid (Row ((w6.alloc (.cells #[.int .u8 0, .int .u8 0, .int .u32 0, .slice none 0 0, .int .i64 0, .int .u32 0, .int .u32 0, .int .u8 0, .bool false, .int .u32 0, .slice none 0 0] 36)).alloc (.cells #[.int .u8 0, .int .u32 0] 38)) (w6.heap.size + 1) 38 (ftc 0 0)) := by show Row _ _ _ _; rw [ftc_eq]; exact Row.made _ _ _ (by simp)
  have HBe : Hid (Below w6.heap.size w6 ((w6.alloc (.cells #[.int .u8 0, .int .u8 0, .int .u32 0, .slice none 0 0, .int .i64 0, .int .u32 0, .int .u32 0, .int .u8 0, .bool false, .int .u32 0, .slice none 0 0] 36)).alloc (.cells #[.int .u8 0, .int .u32 0] 38))) := ((Below.refl _ _).alloc (Nat.le_refl _) _).alloc (by simp) _
  have HSe : Hid (((w6.alloc (.cells #[.int .u8 0, .int .u8 0, .int .u32 0, .slice none 0 0, .int .i64 0, .int .u32 0, .int .u32 0, .int .u8 0, .bool false, .int .u32 0, .slice none 0 0] 36)).alloc (.cells #[.int .u8 0, .int .u32 0] 38)).heap.size = w6.heap.size + 2) := by show _ = _; simp
  go_upto_region 9 with (first | (refine wpList_sfm (x := (fm0 0 0 0 0)) rfl _ _ rfl rfl rfl HXe.out ?_) | (refine wpList_sft (s := 0) (c := 0) rfl _ _ rfl rfl rfl (HTe.out.setRow' (k := w6.heap.size) (by omega) (Fm.c (fm0 0 0 0 0))) ?_))
  have HTf := Lib.hid ((HTe.out.setRow' (k := w6.heap.size) (by omega) (Fm.c (fm0 0 0 0 0))).setRow (ftc 0 0))
  have HZ := Lib.hid (((Fs.of_below (S := fun k => k = w6.heap.size ∨ k = w6.heap.size + 1) HBe.out).setRow (g := w6.heap.size) (fun _ => .inl rfl) (Fm.c (fm0 0 0 0 0))).setRow (g := w6.heap.size + 1) (fun _ => .inr rfl) (ftc 0 0))
  have HW := Lib.hid (HZ.out.below (B := w6.heap.size) (fun k hk _ => by omega) (Nat.le_refl _))
  have HS7 := Lib.hid (HS6.out.below HW.out)
  have HB7 := Lib.hid (HB6.out.trans (HW.out.mono HB6.out.size))
  have HG7 := Lib.hid (HG6.out.below HW.out)
  have HR7 := Lib.hid (HR6.out.below (HW.out.mono HB6.out.size))
  generalize ((((w6.alloc (.cells #[.int .u8 0, .int .u8 0, .int .u32 0, .slice none 0 0, .int .i64 0, .int .u32 0, .int .u32 0, .int .u8 0, .bool false, .int .u32 0, .slice none 0 0] 36)).alloc (.cells #[.int .u8 0, .int .u32 0] 38)).setRow w6.heap.size (Fm.c (fm0 0 0 0 0))).setRow (w6.heap.size + 1) (ftc 0 0)) = w7 at *
  clear HXe HTe HBe HSe HZ HW HS6 HB6 HG6 HR6
  go_wp2_with fail
  refine (fixed_any8 _ HG7.out).mono ?_
  rintro e w8 ⟨rfl, hbf⟩
  have HS8 := Lib.hid (HS7.out.below hbf)
  have HB8 := Lib.hid (HB7.out.trans (hbf.mono HB7.out.size))
  have HTg := Lib.hid (HTf.out.below hbf HTf.out.lt)
  clear hbf HS7 HB7 HG7 HTf HR7
  have hsm := ft_00
  cases b' with
  | true =>
    have hfd := feed_bad (.slice A b0.length cb) HS8.out
    go_wp2_with (refine wpList_lftg (by rfl) _ rfl rfl HTg.out ?_)
    refine hfd.mono ?_
    rintro e w9 ⟨rfl, rfl⟩
    clear hfd HS8 HTg
    go_wp2_with fail
    go_ret
    exact ⟨rfl, HB8.out⟩
  | false =>
    clear HS8
    go_wp2_with (refine wpList_lftg (by rfl) _ rfl rfl HTg.out ?_)
    go_ret
    exact ⟨rfl, HB8.out⟩
theorem plays_any {b0 zs : List UInt8} {A Z : Option Addr} {cb cz often : Nat} {p : Bool} {w : World} (hG : GlobE w) (hR : RdB w w.heap.size A b0) (hc : b0.length ≤ cb) (hZ : RdB w w.heap.size Z zs) (hof : often < 256) :
    Calls Tryd.prog 3 #[.slice A b0.length cb, .bool p, .slice Z zs.length cz, .int .u8 often] w fun e w' => e = .returned (.bool true) ∧ Below w.heap.size w w' := by
  by_cases h : 40000 < b0.length ∨ 3000 < zs.length
  · exact plays_big hG h
  · exact plays_small hG hR hc hZ hof (by omega) (by omega)
end Go.Proofs.YtnjnepploockiaaDoor

namespace Go.Proofs.YtnjnepploockiaaDoor
open Go.ChangeShapes Go.WideShapes Go.ChangeAt Go.RowKit Go.Deep Go.Joins

theorem splitPlays_laid {W : World} (h : laidMetH Tryd.prog Rows.splitPlaysRow.laid W) : GlobE W := by
  have h' : laidMet Tryd.prog [] W ∧ handlesMet Tryd.prog [("errors.errorType", Rows.laid_errors_errorType)] W := h
  exact handle_cell h'.2 (by simp)

set_option maxRecDepth 100000 in
theorem splitPlays_contract (H : Type) (enc : TypeId × Value → H) (W : World) (base : Nat) (args : Array Value) (ds gs : List (DataW H)) (before : List MemPlace)
    (hval : ∀ (j : Nat) t v, Tryd.f3.params[j]? = some t → args[j]? = some v → Value.okWide Tryd.prog W .any base t v)
    (hW : DataW.Whole enc Tryd.prog Tryd.f3.params.toList Rows.splitPlaysSpec.vars false W args.toList ds gs before) (hL : laidMetH Tryd.prog Rows.splitPlaysRow.laid W) :
    Calls Tryd.prog 3 args W fun e W' => ∃ v, e = .returned v ∧ Rows.splitPlaysSpec.post enc Tryd.prog Tryd.f3 false true false false W args v W' := by
  have hW' := hW
  obtain ⟨p, q, hA0, hV, rfl, hfz, hnd⟩ := hW
  have hA : DataW.TrodAll enc Tryd.prog W 0 (fun _ => true) true Tryd.f3.params.toList args.toList ds p := hA0
  rw [Tryd.params3] at hA hval
  obtain ⟨v0, vs0, d0, ds0, p0, q0, hargs, rfl, rfl, h0, r0⟩ := trodAll_cons hA
  obtain ⟨v1, vs1, d1, ds1, p1, q1, rfl, rfl, rfl, h1, r1⟩ := trodAll_cons r0
  obtain ⟨v2, vs2, d2, ds2, p2, q2, rfl, rfl, rfl, h2, r2⟩ := trodAll_cons r1
  obtain ⟨v3, vs3, d3, ds3, p3, q3, rfl, rfl, rfl, h3, r3⟩ := trodAll_cons r2
  obtain ⟨rfl, rfl, rfl⟩ := trodAll_nil r3
  obtain rfl : args = #[v0, v1, v2, v3] := by cases args; simp_all
  obtain ⟨A0, c0, l0, rfl, hc0, _, hr0⟩ := open_bytesB Tryd.underlying22 Tryd.underlying5 cellsU8 (hval 0 22 v0 rfl rfl) h0
  obtain ⟨a1, rfl, rfl, rfl⟩ := open_bool Tryd.underlying4 (hval 1 4 v1 rfl rfl) h1
  obtain ⟨A2, c2, l2, rfl, hc2, _, hr2⟩ := open_bytesB Tryd.underlying22 Tryd.underlying5 cellsU8 (hval 2 22 v2 rfl rfl) h2
  obtain ⟨a3, rfl, rfl, rfl, w3⟩ := open_int Tryd.underlying5 (hval 3 5 v3 rfl rfl) h3
  obtain ⟨k3, rfl, b3⟩ := nat_of (wf_u8 w3)
  refine law_post laidOut rfl (by rw [Tryd.params3]; intro t ht; change t ∈ [22, 4, 22, 5] at ht; simp only [List.mem_cons, List.not_mem_nil, or_false] at ht; rcases ht with rfl | rfl | rfl | rfl <;> exact ⟨by kernel_rfl, of_decide_eq_true (by kernel_rfl)⟩) (rb := 4) (by kernel_rfl) Tryd.underlying4 hW' rfl (plays_any (p := a1) (often := k3) (splitPlays_laid hL) hr0 hc0 hr2 (by omega))

theorem splitPlays_met (os : Os) : laidMetH Tryd.prog Rows.splitPlaysRow.laid ((rowWorld7 os).forCall (fun _ _ => 0) ⟨#[], #[.slice none 0 0, .bool false, .slice none 0 0, .int .u8 0], []⟩).memory :=
  laidMetH_of_parts (laidMet_of_run' 8 (by kernel_rfl) (by kernel_rfl)) (by kernel_rfl)
theorem splitPlays_reads (os : Os) {H : Type} (enc : TypeId × Value → H) : ∃ places, DataW.whole enc Tryd.prog ((rowWorld7 os).forCall (fun _ _ => 0) ⟨#[], #[.slice none 0 0, .bool false, .slice none 0 0, .int .u8 0], []⟩).memory Tryd.f3.params.toList Rows.splitPlaysSpec.vars false (#[.slice none 0 0, .bool false, .slice none 0 0, .int .u8 0] : Array Value).toList 8 = some ([.nil, .lit (.bool false), .nil, .lit (.int .u8 0)], [], places) :=
  ⟨[], by kernel_rfl⟩

set_option maxRecDepth 100000 in
theorem splitPlays_lifted (os : Os) (started : os.Started) (H : Type) (enc : TypeId × Value → H) (F : Stop.Interp) :
    ReturnsInHanded {} Tryd.checked os 3 .any ((OpenSpec.ofChange Rows.splitPlaysSpec).preRow enc Tryd.prog Tryd.f3 Rows.splitPlaysRow.domain false Rows.splitPlaysRow.laid) (((OpenSpec.ofChange Rows.splitPlaysSpec).at F).post enc Tryd.prog Tryd.f3 false true false false) := by
  obtain ⟨places, hx⟩ := splitPlays_reads os enc
  refine returnsInHanded_of_row (C := Tryd.checked) (s := OpenSpec.ofChange Rows.splitPlaysSpec) own started (by kernel_rfl) Tryd.func3
    (witness_row_at (enc := enc) (C := Tryd.checked) false (rowWorld7 os) #[.slice none 0 0, .bool false, .slice none 0 0, .int .u8 0] rfl (by kernel_rfl) (by kernel_rfl) (by kernel_rfl)
      (OpenSpec.preRow_of_cond 8 hx (by kernel_rfl) (fun k hk => by cases hk) (by kernel_rfl) (splitPlays_met os))) ?_
  intro W base args ds gs before hval hW _ _ _ hL _ _
  exact splitPlays_contract H enc W base args ds gs before hval hW hL

theorem splitPlays_said : Rows.SplitPlaysSaid :=
  OpenClaim.holds_of_cond 3 Tryd.f3 rfl rfl rfl rfl rfl rfl rfl ⟨rfl, rfl, rfl, rfl, rfl⟩ rfl rfl rfl rfl rfl (by kernel_rfl) Tryd.func3 (by kernel_rfl)
    (of_decide_eq_true (by kernel_rfl)) (by unfold Func.isWrapper; first | (rw [if_pos (by decide +kernel)]; kernel_rfl) | (rw [if_neg (by decide +kernel)]; exact ⟨rfl, rfl⟩))
    (fun os started H enc _ F => by rw [OpenClaim.pre_eq_preRow]; exact splitPlays_lifted os started H enc F)

theorem splitPlays_plain (f : FuncId) (fn : Func) (hf : Tryd.pinned.checked.prog.funcNamed "louver/louverlaw08.SplitPlays" = some f) (hfn : Tryd.pinned.checked.prog.funcs[f]? = some fn) :
    true = Tryd.pinned.checked.prog.looks [] ∧ ∀ (j : Nat) t, fn.params[j]? = some t → Tryd.pinned.checked.prog.wantsStandIn t = false := by
  obtain rfl : f = 3 := Option.some.inj ((show Tryd.prog.funcNamed "louver/louverlaw08.SplitPlays" = some 3 by kernel_rfl).symm.trans hf) |>.symm
  obtain rfl : fn = Tryd.f3 := (Option.some.inj (Tryd.func3.symm.trans hfn)).symm
  refine ⟨by kernel_rfl, fun j t ht => ?_⟩
  rw [Tryd.params3] at ht
  have ht' := Array.mem_of_getElem? ht
  change t ∈ (#[22, 4, 22, 5] : Array Nat) at ht'
  simp only [List.mem_toArray, List.mem_cons, List.not_mem_nil, or_false] at ht'
  rcases ht' with rfl | rfl | rfl | rfl
  · exact (show Tryd.prog.wantsStandIn 22 = false by kernel_rfl)
  · exact (show Tryd.prog.wantsStandIn 4 = false by kernel_rfl)
  · exact (show Tryd.prog.wantsStandIn 22 = false by kernel_rfl)
  · exact (show Tryd.prog.wantsStandIn 5 = false by kernel_rfl)

/-- The card. -/
theorem splitPlays_card : Rows.SplitPlaysCardSaid :=
  Claim7.holds_tied_plain_at .later [] _ _ _ _ splitPlays_said (fun _ h => by cases h) (by kernel_rfl) (fun _ h => by cases h) splitPlays_row_tie rfl ⟨rfl, rfl⟩ (by kernel_rfl) rfl splitPlays_plain (by kernel_rfl)
end Go.Proofs.YtnjnepploockiaaDoor
