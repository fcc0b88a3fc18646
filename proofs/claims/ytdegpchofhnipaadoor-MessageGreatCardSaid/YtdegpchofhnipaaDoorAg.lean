/-
  Structs by value, over whatever program and of whatever cells: loaded, stored and handed back whole. No conditions but those that each theorem names.
-/
import Derived.Test.YtdegpchofhnipaaDoorCel
import Derived.Deep.MidRow
import Derived.BigFrame
namespace Go.Proofs.YtdegpchofhnipaaDoor
open Go.RowKit Go.WideShapes

/-- These are the cells of a struct of this type. -/
structure AgOk (P : Program) (T : TypeId) (cs : Array Value) : Prop where
  u : ∃ fs, P.underlying T = some (.struct fs)
  s : (P.info? T).map (·.size) = some cs.size
  o : cs.all (·.oneCell') = true

section
variable {P : Program} {w : World} {g : Nat} {T : TypeId} {cs old : Array Value}
theorem run_ld (hk : AgOk P T cs) (h : Row w g T cs) : (loadVar T ⟨g, 0, none⟩).run P w = .ok (.agg cs) w := by
  obtain ⟨d, h1⟩ := hk.u
  exact run_loadVar_row w g T T cs (0, 0) _ h h1 rfl hk.s
theorem wpList_ld {ops : Array Oper} {rest : List Oper} {o : Oper} {a : Act} {Q : Exit → Act → World → Prop} (hgd : o.guard = none) (y : Operand) (ho : o.op = .load T y) (hy : a.eval y = .pointer (some ⟨g, 0, none⟩)) (h : Row w g T cs) (hk : AgOk P T cs)
    (hq : wpList P ops Q rest (a.put o.dst (.agg cs)) w) : wpList P ops Q (o :: rest) a w := by
  obtain ⟨d, h1⟩ := hk.u
  exact wpList_load_row hgd T y ho g hy T cs (0, 0) _ h h1 rfl hk.s hq
/-- .. behind a guard that lets it. -/
theorem wpList_ldg {ops : Array Oper} {rest : List Oper} {o : Oper} {a : Act} {Q : Exit → Act → World → Prop} (hw : Region.wanted o (yielded ops a.tmps) = true) (y : Operand) (ho : o.op = .load T y) (hy : a.eval y = .pointer (some ⟨g, 0, none⟩)) (h : Row w g T cs) (hk : AgOk P T cs)
    (hq : wpList P ops Q rest (a.put o.dst (.agg cs)) w) : wpList P ops Q (o :: rest) a w := by
  obtain ⟨d, h1⟩ := hk.u
  exact BigFrame.wpList_want hw fun _ hK => wp_load_row T y ho g hy T cs (0, 0) _ h h1 rfl hk.s (hK _ _ hq)
/-- From the middle of a block. -/
theorem wpList_ldm {ops : Array Oper} {rest : List Oper} {o : Oper} {a : Act} {Q : Exit → Act → World → Prop} (hgd : o.guard = none) (y : Operand) (ho : o.op = .load T y) {b q : Nat} (hy : a.eval y = .pointer (some ⟨b, q, none⟩)) (h : w.rangeAt b q cs.toList) (hk : AgOk P T cs)
    (hq : wpList P ops Q rest (a.put o.dst (.agg cs)) w) : wpList P ops Q (o :: rest) a w := by
  obtain ⟨d, h1⟩ := hk.u
  refine wpList_load_mid hgd T y ho b q hy cs.toList _ h h1 rfl (by rw [hk.s]; simp) (by simpa using hq)
theorem wpList_sw {ops : Array Oper} {rest : List Oper} {o : Oper} {a : Act} {Q : Exit → Act → World → Prop} (hgd : o.guard = none) (p q : Operand) (ho : o.op = .store T p q) (hp : a.eval p = .pointer (some ⟨g, 0, none⟩)) (hv : a.eval q = .agg cs) (h : Row w g T old) (hs : old.size = cs.size) (hk : AgOk P T cs)
    (hq : wpList P ops Q rest (a.put o.dst undef) (w.setRow g cs)) : wpList P ops Q (o :: rest) a w :=
  wpList_store_row hgd T p q ho g cs hp hv T old h hk.s hs hk.o hq
theorem step_sw {ops : Array Oper} {o : Oper} {a : Act} {K : Act → World → Prop} {Q : Exit → Act → World → Prop} {E : Prop} (hgd : o.guard = none) (p q : Operand) (ho : o.op = .store T p q) (hp : a.eval p = .pointer (some ⟨g, 0, none⟩)) (hv : a.eval q = .agg cs) (h : Row w g T old) (hs : old.size = cs.size) (hk : AgOk P T cs)
    (hq : K (a.put o.dst undef) (w.setRow g cs)) : if Region.wanted o (yielded ops a.tmps) = true then Oper.wp P o a w K Q else E := by
  have hw : Region.wanted o (yielded ops a.tmps) = true := by simp [Region.wanted, hgd]
  rw [if_pos hw]
  exact wp_store_row T p q ho g cs hp hv T old h hk.s hs hk.o hq
/-- In a region that draws its order, under an S that gives its row: it may be taken first. -/
theorem yields_ld {ops : Array Oper} {S : World → Prop} {o : Oper} {a : Act} (hw : Region.wanted o (yielded ops a.tmps) = true) (y : Operand) (ho : o.op = .load T y) (hy : a.eval y = .pointer (some ⟨g, 0, none⟩)) (hk : AgOk P T cs) (hS : ∀ w, S w → Row w g T cs) : YieldsIf P ops S o (.agg cs) a :=
  .inl ⟨hw, fun w hw' => by
    unfold execOp
    simp only [ho, hy, Instr.loadAt, Instr.sureAddr, Sem.run_bind, Sem.run_pure, Result.andThen_ok, run_ld hk (hS w hw')]⟩
theorem yields_ldm {ops : Array Oper} {S : World → Prop} {o : Oper} {a : Act} (hw : Region.wanted o (yielded ops a.tmps) = true) (y : Operand) (ho : o.op = .load T y) {b q : Nat} (hy : a.eval y = .pointer (some ⟨b, q, none⟩)) (hk : AgOk P T cs) (hS : ∀ w, S w → w.rangeAt b q cs.toList) : YieldsIf P ops S o (.agg cs) a := by
  obtain ⟨d, h1⟩ := hk.u
  have := yieldsIf_load_mid (P := P) hw T y ho b q hy cs.toList _ hS h1 rfl (by rw [hk.s]; simp)
  simpa using this
/-- What a function hands back out of one variable .. -/
theorem ret_ag {fn : Func} {p : Tmp} (h : fn.results = #[.cell p T]) (tmps : Array Value) (hp : tmps.getD p undef = .pointer (some ⟨g, 0, none⟩)) (hR : Row w g T cs) (hk : AgOk P T cs) : (results fn tmps).run P w = .ok (.agg cs) w := by
  have hl := run_ld hk hR
  have hp' : tmps[p]?.getD undef = .pointer (some ⟨g, 0, none⟩) := by simpa using hp
  simp only [results, h]
  simp [hp', asAddr, hl]
/-- .. out of two .. -/
theorem ret_ag2 {fn : Func} {p q : Tmp} {g' : Nat} {T' : TypeId} {cs' : Array Value} (h : fn.results = #[.cell p T, .cell q T']) (tmps : Array Value) (hp : tmps.getD p undef = .pointer (some ⟨g, 0, none⟩)) (hR : Row w g T cs) (hk : AgOk P T cs)
    (hq : tmps.getD q undef = .pointer (some ⟨g', 0, none⟩)) (hR' : Row w g' T' cs') (hk' : AgOk P T' cs') : (results fn tmps).run P w = .ok (.tuple #[.agg cs, .agg cs']) w := by
  have hl := run_ld hk hR
  have hl' := run_ld hk' hR'
  have hp' : tmps[p]?.getD undef = .pointer (some ⟨g, 0, none⟩) := by simpa using hp
  have hq' : tmps[q]?.getD undef = .pointer (some ⟨g', 0, none⟩) := by simpa using hq
  simp only [results, h]
  simp [hp', hq', asAddr, hl, hl']
/-- .. out of one, beside a value. -/
theorem ret_agv {fn : Func} {p q : Tmp} {v : Value} (h : fn.results = #[.cell p T, .tmp q]) (tmps : Array Value) (hp : tmps.getD p undef = .pointer (some ⟨g, 0, none⟩)) (hR : Row w g T cs) (hk : AgOk P T cs) (hq : tmps.getD q undef = v) :
    (results fn tmps).run P w = .ok (.tuple #[.agg cs, v]) w := by
  have hl := run_ld hk hR
  have hp' : tmps[p]?.getD undef = .pointer (some ⟨g, 0, none⟩) := by simpa using hp
  have hq' : tmps[q]?.getD undef = v := by simpa using hq
  simp only [results, h]
  simp [hp', hq', asAddr, hl]
end
theorem Row.range {w : World} {g : Nat} {T : TypeId} {cs : Array Value} (h : Row w g T cs) (o : Nat) (l : List Value) (hl : ∀ (j : Nat) (v : Value), l[j]? = some v → cs[o + j]? = some v) : w.rangeAt g o l := fun j v hv => h.cell (hl j v hv)
end Go.Proofs.YtdegpchofhnipaaDoor
