/-
  FaultRow: over every row of faults the law answers true, and the row reads behind the call as it read before. Conditions: the row's own alone (each listed package-level variable reads as the program's text lays it: the card ties that).
-/
import Derived.Test.YtjkfckdoliflmaaDoorRowWalk
import Derived.Test.YtjkfckdoliflmaaDoorLaw
namespace Go.Proofs.YtjkfckdoliflmaaDoor
open Go.ChangeShapes Go.WideShapes Go.RowKit Go.Deep

noncomputable def rowWorld (os : Os) : World :=
  setBlk (setBlk (setBlk (setBlk (setBlk (World.holding Tryd.prog os ⟨#[], #[], []⟩) 0 (cellsD Rows.laid_louver_fault_names)) 1 #[.iface 70 (.agg #[.pointer (some ⟨5, 28, none⟩)])])
    2 (cellsD Rows.laid_internal_strconv_uint64pow10)) 3 (cellsD Rows.laid_math_bits_deBruijn32tab)) 4 (cellsD Rows.laid_math_bits_deBruijn64tab)

theorem fr_laid {W : World} (h : laidMetH Tryd.prog Rows.faultRowRow.laid W) : Glob W := by
  have h' : laidMet Tryd.prog [("math/bits.deBruijn32tab", Rows.laid_math_bits_deBruijn32tab), ("math/bits.deBruijn64tab", Rows.laid_math_bits_deBruijn64tab), ("internal/strconv.uint64pow10", Rows.laid_internal_strconv_uint64pow10), ("louver/fault.names", Rows.laid_louver_fault_names)] W ∧ handlesMet Tryd.prog [("errors.errorType", Rows.laid_errors_errorType)] W := h
  exact ⟨handle_cell h'.2 (by simp), name_cell (rest := []) h'.1.tail.tail.tail⟩

theorem cells_fault : Tryd.prog.cellsOf 24 = 2 := by kernel_rfl
theorem cells_u8 : Tryd.prog.cellsOf 5 = 1 := by kernel_rfl
theorem cells_u32 : Tryd.prog.cellsOf 22 = 1 := by kernel_rfl

set_option maxRecDepth 100000 in
/-- A row of faults, as it comes in. -/
theorem faults_open {H : Type} {enc : TypeId × Value → H} {W : World} {base : Nat} {v : Value} {d : DataW H} {p : List MemPlace} (hv : Value.okWide Tryd.prog W .any base 35 v)
    (h : DataW.Trod enc Tryd.prog W 0 (fun _ => true) true 35 v d p) :
    ∃ (A : Option Addr) (n cap : Nat) (F : Nat → Int × Int), v = .slice A n cap ∧ n ≤ maxLen ∧ ElemsAt W A n F ∧ ∀ i, i < n → 0 ≤ (F i).1 := by
  obtain ⟨a0, len, cap, rfl⟩ := okWide_slice Tryd.underlying35 hv
  obtain ⟨fuel, hf⟩ := h
  rcases open_slice_pairs Tryd.underlying35 Tryd.underlying24 cells_fault rfl rfl cells_u8 cells_u32 hf with ⟨hcs, _⟩ | ⟨a, len', cap', m, n, V0, V1, D0, D1, P0, P1, hcs, _, hl, hm, hmm, hx, hcell⟩
  · have e : Value.slice a0 len cap = Value.slice none 0 0 := by simpa [Value.cells] using hcs
    injection e with e1 e2 e3
    subst e1 e2 e3
    exact ⟨none, 0, 0, fun _ => (0, 0), rfl, Nat.zero_le _, fun k hk => absurd hk (by omega), fun i hi => absurd hi (by omega)⟩
  · have e : Value.slice a0 len cap = Value.slice (some a) len' cap' := by simpa [Value.cells] using hcs
    injection e with e1 e2 e3
    subst e1 e2 e3
    simp only [if_true] at hmm
    subst hmm
    refine ⟨some a, len, m, fun i => (intOf (V0 i), intOf (V1 i)), rfl, by omega, fun k hk => ?_, fun i hi => ?_⟩
    · obtain ⟨c0, c1, t0, t1⟩ := hcell k (by omega)
      obtain ⟨x, ex, _, _⟩ := DataW.trod_int Tryd.underlying5 t0
      obtain ⟨y, ey, _, _⟩ := DataW.trod_int Tryd.underlying22 t1
      have ex' : V0 k = .int .u8 x := by simpa using ex
      have ey' : V1 k = .int .u32 y := by simpa using ey
      obtain ⟨b, off, spot⟩ := a
      have hspot : spot = none := by
        have h1 := World.cell?_spot (hcell 0 (by omega)).1
        simpa [Addr.add] using h1
      subst hspot
      rw [add_plain] at c0 c1
      refine ⟨b, off, rfl, blk_lt c0, ?_, ?_⟩
      · rw [c0]; simp [ex', intOf]
      · rw [← Nat.add_assoc] at c1
        rw [c1]; simp [ey', intOf]
    · obtain ⟨_, _, t0, _⟩ := hcell i (by omega)
      obtain ⟨x, ex, _, wx⟩ := DataW.trod_int Tryd.underlying5 t0
      have ex' : V0 i = .int .u8 x := by simpa using ex
      simp only [ex', intOf]
      exact (bounds_u8 wx).1

set_option maxRecDepth 100000 in
theorem fr_contract (H : Type) (enc : TypeId × Value → H) (W : World) (base : Nat) (args : Array Value) (ds gs : List (DataW H)) (before : List MemPlace)
    (hval : ∀ (j : Nat) t v, Tryd.f4.params[j]? = some t → args[j]? = some v → Value.okWide Tryd.prog W .any base t v)
    (hW : DataW.Whole enc Tryd.prog Tryd.f4.params.toList Rows.faultRowSpec.vars false W args.toList ds gs before) (hL : laidMetH Tryd.prog Rows.faultRowRow.laid W) :
    Calls Tryd.prog 4 args W fun e W' => ∃ v, e = .returned v ∧ Rows.faultRowSpec.post enc Tryd.prog Tryd.f4 false true false false W args v W' := by
  have hW' := hW
  obtain ⟨p, q, hA0, hV, rfl, hfz, hnd⟩ := hW
  have hA : DataW.TrodAll enc Tryd.prog W 0 (fun _ => true) true Tryd.f4.params.toList args.toList ds p := hA0
  rw [Tryd.params4] at hA hval
  obtain ⟨v0, vs0, d0, ds0, p0, q0, hargs, rfl, rfl, h0, r0⟩ := trodAll_cons hA
  obtain ⟨rfl, rfl, rfl⟩ := trodAll_nil r0
  obtain rfl : args = #[v0] := by cases args; simp_all
  obtain ⟨A, n, cap, F, rfl, hn, hE, hF⟩ := faults_open (hval 0 35 v0 rfl rfl) h0
  refine law_post laidOut rfl (by rw [Tryd.params4]; intro t ht; obtain rfl : t = 35 := by simpa using ht
                                  exact ⟨by kernel_rfl, of_decide_eq_true (by kernel_rfl)⟩) (rb := 4) (by kernel_rfl) Tryd.underlying4 hW' rfl (row_any A n cap F W hn hE hF (fr_laid hL))

theorem fr_met (os : Os) : laidMetH Tryd.prog Rows.faultRowRow.laid ((rowWorld os).forCall (fun _ _ => 0) ⟨#[], #[.slice none 0 0], []⟩).memory :=
  laidMetH_of_parts (laidMet_of_run' 8 (by kernel_rfl) (by kernel_rfl)) (by kernel_rfl)
theorem fr_reads (os : Os) {H : Type} (enc : TypeId × Value → H) : ∃ places, DataW.whole enc Tryd.prog ((rowWorld os).forCall (fun _ _ => 0) ⟨#[], #[.slice none 0 0], []⟩).memory Tryd.f4.params.toList Rows.faultRowSpec.vars false #[Value.slice none 0 0].toList 8 = some ([.nil], [], places) :=
  ⟨[], by kernel_rfl⟩

set_option maxRecDepth 100000 in
theorem fr_lifted (os : Os) (started : os.Started) (H : Type) (enc : TypeId × Value → H) (F : Stop.Interp) :
    ReturnsInHanded {} Tryd.checked os 4 .any ((OpenSpec.ofChange Rows.faultRowSpec).preRow enc Tryd.prog Tryd.f4 Rows.faultRowRow.domain false Rows.faultRowRow.laid) (((OpenSpec.ofChange Rows.faultRowSpec).at F).post enc Tryd.prog Tryd.f4 false true false false) := by
  obtain ⟨places, hx⟩ := fr_reads os enc
  refine returnsInHanded_of_row (C := Tryd.checked) (s := OpenSpec.ofChange Rows.faultRowSpec) own started (by kernel_rfl) Tryd.func4
    (witness_row_at (enc := enc) (C := Tryd.checked) false (rowWorld os) #[.slice none 0 0] rfl (by kernel_rfl) (by kernel_rfl) (by kernel_rfl)
      (OpenSpec.preRow_of_cond 8 hx (by kernel_rfl) (fun k hk => by cases hk) (by kernel_rfl) (fr_met os))) ?_
  intro W base args ds gs before hval hW _ _ _ hL _ _
  exact fr_contract H enc W base args ds gs before hval hW hL

theorem fr_said : Rows.FaultRowSaid :=
  OpenClaim.holds_of_cond 4 Tryd.f4 rfl rfl rfl rfl rfl rfl rfl ⟨rfl, rfl, rfl, rfl, rfl⟩ rfl rfl rfl rfl rfl (by kernel_rfl) Tryd.func4 (by kernel_rfl)
    (of_decide_eq_true (by kernel_rfl)) (by unfold Func.isWrapper; first | (rw [if_pos (by decide +kernel)]; kernel_rfl) | (rw [if_neg (by decide +kernel)]; exact ⟨rfl, rfl⟩))
    (fun os started H enc _ F => by rw [OpenClaim.pre_eq_preRow]; exact fr_lifted os started H enc F)

theorem fr_plain (f : FuncId) (fn : Func) (hf : Tryd.pinned.checked.prog.funcNamed "louver/louverlaw01.FaultRow" = some f) (hfn : Tryd.pinned.checked.prog.funcs[f]? = some fn) :
    true = Tryd.pinned.checked.prog.looks [] ∧ ∀ (j : Nat) t, fn.params[j]? = some t → Tryd.pinned.checked.prog.wantsStandIn t = false := by
  obtain rfl : f = 4 := Option.some.inj ((show Tryd.prog.funcNamed "louver/louverlaw01.FaultRow" = some 4 by kernel_rfl).symm.trans hf) |>.symm
  obtain rfl : fn = Tryd.f4 := (Option.some.inj (Tryd.func4.symm.trans hfn)).symm
  refine ⟨by kernel_rfl, fun j t ht => ?_⟩
  rw [Tryd.params4] at ht
  obtain rfl : t = 35 := by simpa using Array.mem_of_getElem? ht
  exact (show Tryd.prog.wantsStandIn 35 = false by kernel_rfl)

/-- The card of FaultRow. -/
theorem faultRow_card : Rows.FaultRowCardSaid :=
  Claim7.holds_tied_plain_at .later [] _ _ _ _ fr_said (fun _ h => by cases h) (by kernel_rfl) (fun _ h => by cases h) faultRow_row_tie rfl ⟨rfl, rfl⟩ (by kernel_rfl) rfl fr_plain (by kernel_rfl)
end Go.Proofs.YtjkfckdoliflmaaDoor
