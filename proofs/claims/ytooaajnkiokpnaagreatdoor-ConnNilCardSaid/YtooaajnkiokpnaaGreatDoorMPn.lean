/-
  ConnNil: whatever the bytes, the fields and the number, the law answers true, and each argument reads behind the call as it read before. Conditions: the row's own alone (each listed package-level variable reads as the program's text lays it: the card ties that).
  ConnNil: the law's walk. Condition: errors.errorType as the program's text lays it.
-/
import Derived.Test.YtooaajnkiokpnaaGreatDoorMC3
import Derived.Test.YtooaajnkiokpnaaGreatDoorMD
import Derived.Test.YtooaajnkiokpnaaGreatDoorFdoor
import Derived.Test.YtooaajnkiokpnaaGreatDoorPost

namespace Go.Proofs.YtooaajnkiokpnaaGreatDoor
open Go.RowKit Go.WideShapes
attribute [local irreducible] Cc.c evc Fm.c ftc

set_option maxRecDepth 100000 in
set_option maxHeartbeats 8000000 in
theorem connnil_law {w : World} (hG : GlobE w) {A B : Option Addr} {m c cb : Nat} {L : List Fd} (hR : RdS w (· < w.heap.size) B (enl fdc L)) (hl : L.length ≤ 9223372036854775807) (n : Int) :
    Calls Tryz.prog 3 #[.slice A m c, .slice B L.length cb, .int .u32 n] w fun e w' => e = .returned (.bool true) ∧ Below w.heap.size w w' := by
  have hgr := great_anyK (c := cb) hR hl
  have HG := Lib.hid hG
  clear hG hR hl
  generalize L.length = ll at *
  go_enter Tryz.func3, Tryz.ntmps3
  go_wp2_with fail
  refine hgr.mono ?_
  rintro e w1 ⟨t, rfl, _, k, rfl⟩
  have hb1 : Below w.heap.size w (w.drewN k) := below_dN (Below.refl _ _) k
  have HB1 := Lib.hid hb1
  have HG1 := Lib.hid (HG.out.below hb1)
  clear hb1 hgr HG
  cases t with
  | true =>
    have hfx := fixed_any14 _ HG1.out
    go_wp2_with fail
    refine hfx.mono ?_
    rintro e w2 ⟨rfl, hb2⟩
    have HB2 := Lib.hid (HB1.out.trans (hb2.mono HB1.out.size))
    clear hb2 hfx HB1 HG1
    go_wp2_with fail
    go_ret
    exact ⟨rfl, HB2.out⟩
  | false =>
    have hpn := cpoll_nil (w.drewN k)
    go_wp2_with fail
    refine hpn.mono ?_
    rintro e w2 ⟨rfl, hb2⟩
    have hHB := HB1.out.trans (hb2.mono HB1.out.size)
    have hHG := HG1.out.below hb2
    obtain ⟨w3, hw3, t1, t2, t3⟩ := ev_var w2 ev0
    have HW3 := Lib.hid hw3
    have T3 := Lib.hid t3
    have HB3 := Lib.hid (hHB.trans (t2.mono hHB.size))
    have HG3 := Lib.hid (hHG.below t2)
    clear hpn hb2 hHB hHG hw3 t1 t2 t3 HB1 HG1
    go_upto_region 5 with (refine wpList_sw (cs := evc ev0) rfl _ _ rfl rfl rfl T3.out (ev_sz _ _) (ev_ok _) ?_)
    rw [HW3.out]
    clear HW3 T3
    have hfx := fixed_any14 w3 HG3.out
    go_wp2_with (first
      | (go_at_call 10; refine (copen_nil _ _ _).mono ?_; rintro e w4 ⟨rfl, rfl⟩)
      | (go_at_call 11; refine (cuse_nil _ _ _).mono ?_; rintro e w4 ⟨rfl, rfl⟩)
      | (go_at_call 12; refine (caway_nil _ _).mono ?_; rintro e w4 ⟨rfl, rfl⟩)
      | (go_at_call 8; refine hfx.mono ?_; rintro e w5 ⟨rfl, hb5⟩; have HB5 := Lib.hid (HB3.out.trans (hb5.mono HB3.out.size)); clear hb5 hfx)
      | (go_at_call 13; refine (cfeed_nil _ _).mono ?_; rintro e w4 ⟨rfl, rfl⟩)
      | (go_at_call 14; refine (cout_nil _ _).mono ?_; rintro e w4 ⟨rfl, rfl⟩)
      | (go_at_call 15; refine (canswer_nil _ _ _ _).mono ?_; rintro e w4 ⟨rfl, rfl⟩)
      | (go_at_call 16; refine (cdata_nil _ _ _ _).mono ?_; rintro e w4 ⟨rfl, rfl⟩)
      | (go_at_call 17; refine (creset_nil _ _ _).mono ?_; rintro e w4 ⟨rfl, rfl⟩)
      | (go_at_call 18; refine (cstate_nil _ _).mono ?_; rintro e w4 ⟨rfl, rfl⟩)
      | (go_at_call 19; refine (waits_nilc _ _).mono ?_; rintro e w4 ⟨rfl, rfl⟩)
      | (go_at_call 20; refine (clive_nil _).mono ?_; rintro e w4 ⟨rfl, rfl⟩)
      | (go_at_call 21; refine (cgone_nil _).mono ?_; rintro e w4 ⟨rfl, rfl⟩)
      | (go_at_call 22; refine (cquiet_nil _).mono ?_; rintro e w4 ⟨rfl, rfl⟩))
    go_ret
    exact ⟨rfl, HB5.out⟩
end Go.Proofs.YtooaajnkiokpnaaGreatDoor

namespace Go.Proofs.YtooaajnkiokpnaaGreatDoor
open Go.ChangeShapes Go.WideShapes Go.ChangeAt Go.RowKit Go.Deep Go.Joins

theorem connNil_laid {W : World} (h : laidMetH Tryz.prog Rows.connNilRow.laid W) : GlobE W := by
  have h' : laidMet Tryz.prog [] W ∧ handlesMet Tryz.prog [("errors.errorType", Rows.laid_errors_errorType)] W := h
  exact handle_cell h'.2 (by simp)

set_option maxRecDepth 100000 in
theorem connNil_contract (H : Type) (enc : TypeId × Value → H) (W : World) (base : Nat) (args : Array Value) (ds gs : List (DataW H)) (before : List MemPlace)
    (hval : ∀ (j : Nat) t v, Tryz.f3.params[j]? = some t → args[j]? = some v → Value.okWide Tryz.prog W .any base t v)
    (hW : DataW.Whole enc Tryz.prog Tryz.f3.params.toList Rows.connNilSpec.vars false W args.toList ds gs before) (hL : laidMetH Tryz.prog Rows.connNilRow.laid W) :
    Calls Tryz.prog 3 args W fun e W' => ∃ v, e = .returned v ∧ Rows.connNilSpec.post enc Tryz.prog Tryz.f3 false true false false W args v W' := by
  have hW' := hW
  obtain ⟨p, q, hA0, hV, rfl, hfz, hnd⟩ := hW
  have hA : DataW.TrodAll enc Tryz.prog W 0 (fun _ => true) true Tryz.f3.params.toList args.toList ds p := hA0
  rw [Tryz.params3] at hA hval
  obtain ⟨v0, vs0, d0, ds0, p0, q0, hargs, rfl, rfl, h0, r0⟩ := trodAll_cons hA
  obtain ⟨v1, vs1, d1, ds1, p1, q1, rfl, rfl, rfl, h1, r1⟩ := trodAll_cons r0
  obtain ⟨v2, vs2, d2, ds2, p2, q2, rfl, rfl, rfl, h2, r2⟩ := trodAll_cons r1
  obtain ⟨rfl, rfl, rfl⟩ := trodAll_nil r2
  obtain rfl : args = #[v0, v1, v2] := by cases args; simp_all
  obtain ⟨A0, c0, l0, rfl, hc0, _, hr0⟩ := open_bytesB Tryz.underlying22 Tryz.underlying5 cellsU8 (hval 0 22 v0 rfl rfl) h0
  obtain ⟨A1, c1, L1, rfl, hc1, hm1, hr1⟩ := open_fields (hval 1 23 v1 rfl rfl) h1
  obtain ⟨a2, rfl, rfl, rfl, w2⟩ := open_int Tryz.underlying24 (hval 2 24 v2 rfl rfl) h2
  refine law_post laidOut rfl (by rw [Tryz.params3]; intro t ht; change t ∈ [22, 23, 24] at ht; simp only [List.mem_cons, List.not_mem_nil, or_false] at ht; rcases ht with rfl | rfl | rfl <;> exact ⟨by kernel_rfl, of_decide_eq_true (by kernel_rfl)⟩) (rb := 4) (by kernel_rfl) Tryz.underlying4 hW' rfl (connnil_law (connNil_laid hL) hr1 (len_max hc1 hm1) a2)

theorem connNil_met (os : Os) : laidMetH Tryz.prog Rows.connNilRow.laid ((rowWorld7 os).forCall (fun _ _ => 0) ⟨#[], #[.slice none 0 0, .slice none 0 0, .int .u32 0], []⟩).memory :=
  laidMetH_of_parts (laidMet_of_run' 8 (by kernel_rfl) (by kernel_rfl)) (by kernel_rfl)
theorem connNil_reads (os : Os) {H : Type} (enc : TypeId × Value → H) : ∃ places, DataW.whole enc Tryz.prog ((rowWorld7 os).forCall (fun _ _ => 0) ⟨#[], #[.slice none 0 0, .slice none 0 0, .int .u32 0], []⟩).memory Tryz.f3.params.toList Rows.connNilSpec.vars false (#[.slice none 0 0, .slice none 0 0, .int .u32 0] : Array Value).toList 8 = some ([.nil, .nil, .lit (.int .u32 0)], [], places) :=
  ⟨[], by kernel_rfl⟩

set_option maxRecDepth 100000 in
theorem connNil_lifted (os : Os) (started : os.Started) (H : Type) (enc : TypeId × Value → H) (F : Stop.Interp) :
    ReturnsInHanded {} Tryz.checked os 3 .any ((OpenSpec.ofChange Rows.connNilSpec).preRow enc Tryz.prog Tryz.f3 Rows.connNilRow.domain false Rows.connNilRow.laid) (((OpenSpec.ofChange Rows.connNilSpec).at F).post enc Tryz.prog Tryz.f3 false true false false) := by
  obtain ⟨places, hx⟩ := connNil_reads os enc
  refine returnsInHanded_of_row (C := Tryz.checked) (s := OpenSpec.ofChange Rows.connNilSpec) own started (by kernel_rfl) Tryz.func3
    (witness_row_at (enc := enc) (C := Tryz.checked) false (rowWorld7 os) #[.slice none 0 0, .slice none 0 0, .int .u32 0] rfl (by kernel_rfl) (by kernel_rfl) (by kernel_rfl)
      (OpenSpec.preRow_of_cond 8 hx (by kernel_rfl) (fun k hk => by cases hk) (by kernel_rfl) (connNil_met os))) ?_
  intro W base args ds gs before hval hW _ _ _ hL _ _
  exact connNil_contract H enc W base args ds gs before hval hW hL

theorem connNil_said : Rows.ConnNilSaid :=
  OpenClaim.holds_of_cond 3 Tryz.f3 rfl rfl rfl rfl rfl rfl rfl ⟨rfl, rfl, rfl, rfl, rfl⟩ rfl rfl rfl rfl rfl (by kernel_rfl) Tryz.func3 (by kernel_rfl)
    (of_decide_eq_true (by kernel_rfl)) (by unfold Func.isWrapper; first | (rw [if_pos (by decide +kernel)]; kernel_rfl) | (rw [if_neg (by decide +kernel)]; exact ⟨rfl, rfl⟩))
    (fun os started H enc _ F => by rw [OpenClaim.pre_eq_preRow]; exact connNil_lifted os started H enc F)

theorem connNil_plain (f : FuncId) (fn : Func) (hf : Tryz.pinned.checked.prog.funcNamed "louver/louverlaw14.ConnNil" = some f) (hfn : Tryz.pinned.checked.prog.funcs[f]? = some fn) :
    true = Tryz.pinned.checked.prog.looks [] ∧ ∀ (j : Nat) t, fn.params[j]? = some t → Tryz.pinned.checked.prog.wantsStandIn t = false := by
  obtain rfl : f = 3 := Option.some.inj ((show Tryz.prog.funcNamed "louver/louverlaw14.ConnNil" = some 3 by kernel_rfl).symm.trans hf) |>.symm
  obtain rfl : fn = Tryz.f3 := (Option.some.inj (Tryz.func3.symm.trans hfn)).symm
  refine ⟨by kernel_rfl, fun j t ht => ?_⟩
  rw [Tryz.params3] at ht
  have ht' := Array.mem_of_getElem? ht
  change t ∈ (#[22, 23, 24] : Array Nat) at ht'
  simp only [List.mem_toArray, List.mem_cons, List.not_mem_nil, or_false] at ht'
  rcases ht' with rfl | rfl | rfl
  · exact (show Tryz.prog.wantsStandIn 22 = false by kernel_rfl)
  · exact (show Tryz.prog.wantsStandIn 23 = false by kernel_rfl)
  · exact (show Tryz.prog.wantsStandIn 24 = false by kernel_rfl)

/-- The card. -/
theorem connNil_card : Rows.ConnNilCardSaid :=
  Claim7.holds_tied_plain_at .later [] _ _ _ _ connNil_said (fun _ h => by cases h) (by kernel_rfl) (fun _ h => by cases h) connNil_row_tie rfl ⟨rfl, rfl⟩ (by kernel_rfl) rfl connNil_plain (by kernel_rfl)
end Go.Proofs.YtooaajnkiokpnaaGreatDoor
