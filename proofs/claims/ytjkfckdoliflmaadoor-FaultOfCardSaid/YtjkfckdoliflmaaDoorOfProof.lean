/-
  FaultOf: over every fault and every row of places the law answers true, and both read behind the call as they read before. Conditions: the row's own alone (each listed package-level variable reads as the program's text lays it: the card ties that).
-/
import Derived.Test.YtjkfckdoliflmaaDoorOfWalk
import Derived.Test.YtjkfckdoliflmaaDoorRowProof
namespace Go.Proofs.YtjkfckdoliflmaaDoor
open Go.ChangeShapes Go.WideShapes Go.RowKit Go.Deep Go.Joins

theorem fo_laid {W : World} (h : laidMetH Tryd.prog Rows.faultOfRow.laid W) : Glob W := by
  have h' : laidMet Tryd.prog [("math/bits.deBruijn32tab", Rows.laid_math_bits_deBruijn32tab), ("math/bits.deBruijn64tab", Rows.laid_math_bits_deBruijn64tab), ("internal/strconv.uint64pow10", Rows.laid_internal_strconv_uint64pow10), ("louver/fault.names", Rows.laid_louver_fault_names)] W ∧ handlesMet Tryd.prog [("errors.errorType", Rows.laid_errors_errorType)] W := h
  exact ⟨handle_cell h'.2 (by simp), name_cell (rest := []) h'.1.tail.tail.tail⟩

set_option maxRecDepth 100000 in
/-- A fault, as it comes in. -/
theorem fault_open {H : Type} {enc : TypeId × Value → H} {W : World} {base : Nat} {v : Value} {d : DataW H} {p : List MemPlace} (hv : Value.okWide Tryd.prog W .any base 24 v)
    (h : DataW.Trod enc Tryd.prog W 0 (fun _ => true) true 24 v d p) : ∃ s c : Int, v = .agg #[.int .u8 s, .int .u32 c] ∧ 0 ≤ s := by
  obtain ⟨v0, v1, y0, y1, n, rfl, _, _, t0, t1⟩ := open_agg2 Tryd.underlying24 (by kernel_rfl) cells_fault hv h
  obtain ⟨x, ex, _, wx⟩ := DataW.trod_int Tryd.underlying5 t0
  obtain ⟨y, ey, _, _⟩ := DataW.trod_int Tryd.underlying22 t1
  have ex' : v0 = .int .u8 x := by simpa using ex
  have ey' : v1 = .int .u32 y := by simpa using ey
  exact ⟨x, y, by rw [ex', ey'], (bounds_u8 wx).1⟩

set_option maxRecDepth 100000 in
/-- A row of places, as it comes in. -/
theorem strs_open {H : Type} {enc : TypeId × Value → H} {W : World} {base : Nat} {v : Value} {d : DataW H} {p : List MemPlace} (hv : Value.okWide Tryd.prog W .any base 25 v)
    (h : DataW.Trod enc Tryd.prog W 0 (fun _ => true) true 25 v d p) : ∃ (A : Option Addr) (n cap : Nat) (S : Nat → ByteArray), v = .slice A n cap ∧ StrElems W A n S := by
  obtain ⟨a0, len, cap, rfl⟩ := okWide_slice Tryd.underlying25 hv
  obtain ⟨fuel, hf⟩ := h
  rcases open_strings Tryd.underlying25 Tryd.underlying9 cellsStr hf with ⟨hcs, _⟩ | ⟨a, len', cap', ss, hcs, _, hl, _, hz, _, hcell, _⟩
  · have e : Value.slice a0 len cap = Value.slice none 0 0 := by simpa [Value.cells] using hcs
    injection e with e1 e2 e3
    subst e1 e2 e3
    exact ⟨none, 0, 0, fun _ => ByteArray.empty, rfl, fun k hk => absurd hk (by omega)⟩
  · have e : Value.slice a0 len cap = Value.slice (some a) len' cap' := by simpa [Value.cells] using hcs
    injection e with e1 e2 e3
    subst e1 e2 e3
    simp only [if_true] at hz
    refine ⟨some a, len, cap, fun i => ss.getD i ByteArray.empty, rfl, fun k hk => ?_⟩
    have c0 := hcell k (by omega)
    obtain ⟨b, off, spot⟩ := a
    have hspot : spot = none := by
      have h1 := World.cell?_spot (hcell 0 (by omega))
      simpa [Addr.add] using h1
    subst hspot
    rw [add_plain] at c0
    exact ⟨b, off, rfl, blk_lt c0, c0⟩

set_option maxRecDepth 100000 in
theorem fo_contract (H : Type) (enc : TypeId × Value → H) (W : World) (base : Nat) (args : Array Value) (ds gs : List (DataW H)) (before : List MemPlace)
    (hval : ∀ (j : Nat) t v, Tryd.f3.params[j]? = some t → args[j]? = some v → Value.okWide Tryd.prog W .any base t v)
    (hW : DataW.Whole enc Tryd.prog Tryd.f3.params.toList Rows.faultOfSpec.vars false W args.toList ds gs before) (hL : laidMetH Tryd.prog Rows.faultOfRow.laid W) :
    Calls Tryd.prog 3 args W fun e W' => ∃ v, e = .returned v ∧ Rows.faultOfSpec.post enc Tryd.prog Tryd.f3 false true false false W args v W' := by
  have hW' := hW
  obtain ⟨p, q, hA0, hV, rfl, hfz, hnd⟩ := hW
  have hA : DataW.TrodAll enc Tryd.prog W 0 (fun _ => true) true Tryd.f3.params.toList args.toList ds p := hA0
  rw [Tryd.params3] at hA hval
  obtain ⟨v0, vs0, d0, ds0, p0, q0, hargs, rfl, rfl, h0, r0⟩ := trodAll_cons hA
  obtain ⟨v1, vs1, d1, ds1, p1, q1, rfl, rfl, rfl, h1, r1⟩ := trodAll_cons r0
  obtain ⟨rfl, rfl, rfl⟩ := trodAll_nil r1
  obtain rfl : args = #[v0, v1] := by cases args; simp_all
  obtain ⟨s, c, rfl, hs⟩ := fault_open (hval 0 24 v0 rfl rfl) h0
  obtain ⟨A, n, cap, S, rfl, hE⟩ := strs_open (hval 1 25 v1 rfl rfl) h1
  refine law_post laidOut rfl (by rw [Tryd.params3]; intro t ht
                                  have ht' : t = 24 ∨ t = 25 := by simpa using ht
                                  rcases ht' with rfl | rfl
                                  · exact ⟨by kernel_rfl, of_decide_eq_true (by kernel_rfl)⟩
                                  · exact ⟨by kernel_rfl, of_decide_eq_true (by kernel_rfl)⟩) (rb := 4) (by kernel_rfl) Tryd.underlying4 hW' rfl (of_any s c A n cap S W hs hE (fo_laid hL))

theorem fo_met (os : Os) : laidMetH Tryd.prog Rows.faultOfRow.laid ((rowWorld os).forCall (fun _ _ => 0) ⟨#[], #[.agg #[.int .u8 0, .int .u32 0], .slice none 0 0], []⟩).memory :=
  laidMetH_of_parts (laidMet_of_run' 8 (by kernel_rfl) (by kernel_rfl)) (by kernel_rfl)
theorem fo_reads (os : Os) {H : Type} (enc : TypeId × Value → H) : ∃ places, DataW.whole enc Tryd.prog ((rowWorld os).forCall (fun _ _ => 0) ⟨#[], #[.agg #[.int .u8 0, .int .u32 0], .slice none 0 0], []⟩).memory Tryd.f3.params.toList Rows.faultOfSpec.vars false #[Value.agg #[.int .u8 0, .int .u32 0], Value.slice none 0 0].toList 8 = some ([.agg [.lit (.int .u8 0), .lit (.int .u32 0)], .nil], [], places) :=
  ⟨[], by kernel_rfl⟩

set_option maxRecDepth 100000 in
theorem fo_lifted (os : Os) (started : os.Started) (H : Type) (enc : TypeId × Value → H) (F : Stop.Interp) :
    ReturnsInHanded {} Tryd.checked os 3 .any ((OpenSpec.ofChange Rows.faultOfSpec).preRow enc Tryd.prog Tryd.f3 Rows.faultOfRow.domain false Rows.faultOfRow.laid) (((OpenSpec.ofChange Rows.faultOfSpec).at F).post enc Tryd.prog Tryd.f3 false true false false) := by
  obtain ⟨places, hx⟩ := fo_reads os enc
  refine returnsInHanded_of_row (C := Tryd.checked) (s := OpenSpec.ofChange Rows.faultOfSpec) own started (by kernel_rfl) Tryd.func3
    (witness_row_at (enc := enc) (C := Tryd.checked) false (rowWorld os) #[.agg #[.int .u8 0, .int .u32 0], .slice none 0 0] rfl (by kernel_rfl) (by kernel_rfl) (by kernel_rfl)
      (OpenSpec.preRow_of_cond 8 hx (by kernel_rfl) (fun k hk => by cases hk) (by kernel_rfl) (fo_met os))) ?_
  intro W base args ds gs before hval hW _ _ _ hL _ _
  exact fo_contract H enc W base args ds gs before hval hW hL

theorem fo_said : Rows.FaultOfSaid :=
  OpenClaim.holds_of_cond 3 Tryd.f3 rfl rfl rfl rfl rfl rfl rfl ⟨rfl, rfl, rfl, rfl, rfl⟩ rfl rfl rfl rfl rfl (by kernel_rfl) Tryd.func3 (by kernel_rfl)
    (of_decide_eq_true (by kernel_rfl)) (by unfold Func.isWrapper; first | (rw [if_pos (by decide +kernel)]; kernel_rfl) | (rw [if_neg (by decide +kernel)]; exact ⟨rfl, rfl⟩))
    (fun os started H enc _ F => by rw [OpenClaim.pre_eq_preRow]; exact fo_lifted os started H enc F)

theorem fo_plain (f : FuncId) (fn : Func) (hf : Tryd.pinned.checked.prog.funcNamed "louver/louverlaw01.FaultOf" = some f) (hfn : Tryd.pinned.checked.prog.funcs[f]? = some fn) :
    true = Tryd.pinned.checked.prog.looks [] ∧ ∀ (j : Nat) t, fn.params[j]? = some t → Tryd.pinned.checked.prog.wantsStandIn t = false := by
  obtain rfl : f = 3 := Option.some.inj ((show Tryd.prog.funcNamed "louver/louverlaw01.FaultOf" = some 3 by kernel_rfl).symm.trans hf) |>.symm
  obtain rfl : fn = Tryd.f3 := (Option.some.inj (Tryd.func3.symm.trans hfn)).symm
  refine ⟨by kernel_rfl, fun j t ht => ?_⟩
  rw [Tryd.params3] at ht
  have ht' : t = 24 ∨ t = 25 := by simpa using Array.mem_of_getElem? ht
  rcases ht' with rfl | rfl
  · exact (show Tryd.prog.wantsStandIn 24 = false by kernel_rfl)
  · exact (show Tryd.prog.wantsStandIn 25 = false by kernel_rfl)

/-- The card of FaultOf. -/
theorem faultOf_card : Rows.FaultOfCardSaid :=
  Claim7.holds_tied_plain_at .later [] _ _ _ _ fo_said (fun _ h => by cases h) (by kernel_rfl) (fun _ h => by cases h) faultOf_row_tie rfl ⟨rfl, rfl⟩ (by kernel_rfl) rfl fo_plain (by kernel_rfl)
end Go.Proofs.YtjkfckdoliflmaaDoor
