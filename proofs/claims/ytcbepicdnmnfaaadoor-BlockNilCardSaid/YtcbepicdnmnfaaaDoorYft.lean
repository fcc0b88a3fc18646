/-
  A fault by value: its cells, faults held against others. No conditions.
-/
import Derived.Test.YtcbepicdnmnfaaaDoorProg
import Derived.Test.YtcbepicdnmnfaaaDoorAg
import Derived.Test.YtcbepicdnmnfaaaDoorFs
import Derived.Laws.StructEq
import Derived.ChangeKeysEq
namespace Go.Proofs.YtcbepicdnmnfaaaDoor
open Go.RowKit Go.WideShapes

/-- The cells of a fault. -/
def ftc (s c : Int) : Array Value := #[.int .u8 s, .int .u32 c]
theorem ft_sz (s c s' c' : Int) : (ftc s c).size = (ftc s' c').size := rfl
theorem ftz : #[Value.int .u8 0, .int .u32 0] = ftc 0 0 := rfl
theorem ft_c (s c : Int) : ftc s c = #[.int .u8 s, .int .u32 c] := rfl
theorem ft_info : (Tryd.prog.info? 36).map (·.size) = some 2 := by kernel_rfl
theorem ft_ok (s c : Int) : AgOk Tryd.prog 36 (ftc s c) := ⟨⟨_, Tryd.underlying36⟩, ft_info, by unfold ftc; kernel_rfl⟩
theorem int_eq (a b : Int) : (a == b) = decide (a = b) := by
  by_cases h : a = b
  · subst h; simp
  · simp [h]
section
variable {P : Program}
/-- One field, held against the other's. -/
theorem eqF {d : Nat} {f : Field} {fs : List Field} {xs ys : Array Value} {w : World} {a b : Value} {r : Bool} (hn : f.name ≠ "_") (hp : P.plainKey f.type = true) (hx : xs[f.offset]? = some a) (hy : ys[f.offset]? = some b) (he : (Op.equalIn d f.type a b).run P w = .ok r w) :
    (Op.eqFields d xs ys (f :: fs)).run P w = if r = true then (Op.eqFields d xs ys fs).run P w else .ok false w := by
  simp only [Op.eqFields, Sem.run_bind, Sem.run_ite, if_pos hn, run_part_plain w hp hx, run_part_plain w hp hy, Result.andThen_ok, he]
  cases r <;> simp
theorem fieldsOf_eq {t : TypeId} {fs : Array Field} (h : P.underlying t = some (.struct fs)) : P.fieldsOf t = fs := by unfold Program.fieldsOf; rw [h]
theorem eqF_nil {d : Nat} {xs ys : Array Value} {w : World} : (Op.eqFields d xs ys []).run P w = .ok true w := rfl
end
theorem and_if {a b : Bool} {w : World} : (if a = true then (Result.ok b w : Result Bool) else .ok false w) = .ok (a && b) w := by cases a <;> rfl
set_option maxRecDepth 100000 in
theorem ft_eqIn (s c s' c' : Int) (w : World) : (Op.equalIn 10000 36 (.agg (ftc s c)) (.agg (ftc s' c'))).run Tryd.prog w = .ok (decide (s = s') && decide (c = c')) w := by
  have h1 := fieldsOf_eq Tryd.underlying36
  rw [show (10000 : Nat) = 9998 + 1 + 1 from rfl, run_equalIn_struct w 9999 36 _ _ (by kernel_rfl) (by kernel_rfl), h1]
  have h8 := fun (a b : Int) => (run_equalIn_int (P := Tryd.prog) w 9998 5 .u8 .u8 a b Tryd.underlying5).trans (by rw [int_eq])
  have hi := fun (a b : Int) => (run_equalIn_int (P := Tryd.prog) w 9998 26 .u32 .u32 a b Tryd.underlying26).trans (by rw [int_eq])
  rw [eqF (by decide) (by kernel_rfl) rfl rfl (h8 s s'), eqF (by decide) (by kernel_rfl) rfl rfl (hi c c'), eqF_nil]
  rw [and_if, and_if, Bool.and_true]
theorem ft_eql (s c s' c' : Int) (w : World) : (binOp .eql 36 (.agg (ftc s c)) (.agg (ftc s' c'))).run Tryd.prog w = .ok (.bool (decide (s = s') && decide (c = c'))) w := by rw [run_eql_struct, ft_eqIn]; rfl
theorem ft_neq (s c s' c' : Int) (w : World) : (binOp .neq 36 (.agg (ftc s c)) (.agg (ftc s' c'))).run Tryd.prog w = .ok (.bool (!(decide (s = s') && decide (c = c')))) w := by rw [run_neq_struct, ft_eqIn]; rfl
theorem fault_var (w : World) : Row (w.alloc (.cells #[.int .u8 0, .int .u32 0] 36)) w.heap.size 36 (ftc 0 0) ∧ Below w.heap.size w (w.alloc (.cells #[.int .u8 0, .int .u32 0] 36)) ∧ (w.alloc (.cells #[.int .u8 0, .int .u32 0] 36)).heap.size = w.heap.size + 1 := by
  refine ⟨by rw [ftz]; exact Row.new w _ _, (Below.refl _ _).alloc (Nat.le_refl _) _, by simp⟩
theorem one_fault (w : World) (s c : Int) : ∃ w', (w.alloc (.cells #[.int .u8 0, .int .u32 0] 36)).setRow w.heap.size (ftc s c) = w' ∧ Row (w.alloc (.cells #[.int .u8 0, .int .u32 0] 36)) w.heap.size 36 (ftc 0 0) ∧ Row w' w.heap.size 36 (ftc s c) ∧ Below w.heap.size w w' := by
  have h1 : Row (w.alloc (.cells #[.int .u8 0, .int .u32 0] 36)) w.heap.size 36 (ftc 0 0) := by rw [ftz]; exact Row.new w _ _
  exact ⟨_, rfl, h1, h1.setRow _, below_setRow ((Below.refl _ _).alloc (Nat.le_refl _) _) _ _ (by omega)⟩

theorem ne_f {a b : Int} (h : a ≠ b) : (a == b) = false := by rw [int_eq]; exact decide_eq_false h
end Go.Proofs.YtcbepicdnmnfaaaDoor
