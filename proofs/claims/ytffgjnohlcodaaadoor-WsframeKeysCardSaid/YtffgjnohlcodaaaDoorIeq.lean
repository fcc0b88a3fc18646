/-
  A socket's fault held against another one, by value; variables made and stored into behind a call. No conditions.
-/
import Derived.Test.YtffgjnohlcodaaaDoorIhd
import Derived.Test.YtffgjnohlcodaaaDoorIma
import Derived.Laws.StructEq
import Derived.ChangeKeysEq
namespace Go.Proofs.YtffgjnohlcodaaaDoor
open Go.RowKit Go.WideShapes

theorem int_eqI (a b : Int) : (a == b) = decide (a = b) := by
  by_cases h : a = b
  · subst h; simp
  · simp [h]
section
variable {P : Program}
/-- One field, held against the other's. -/
theorem eqFI {d : Nat} {f : Field} {fs : List Field} {xs ys : Array Value} {w : World} {a b : Value} {r : Bool} (hn : f.name ≠ "_") (hp : P.plainKey f.type = true) (hx : xs[f.offset]? = some a) (hy : ys[f.offset]? = some b) (he : (Op.equalIn d f.type a b).run P w = .ok r w) :
    (Op.eqFields d xs ys (f :: fs)).run P w = if r = true then (Op.eqFields d xs ys fs).run P w else .ok false w := by
  simp only [Op.eqFields, Sem.run_bind, Sem.run_ite, if_pos hn, run_part_plain w hp hx, run_part_plain w hp hy, Result.andThen_ok, he]
  cases r <;> simp
theorem fieldsOf_eqI {t : TypeId} {fs : Array Field} (h : P.underlying t = some (.struct fs)) : P.fieldsOf t = fs := by unfold Program.fieldsOf; rw [h]
theorem eqF_nilI {d : Nat} {xs ys : Array Value} {w : World} : (Op.eqFields d xs ys []).run P w = .ok true w := rfl
end
theorem and_ifI {a b : Bool} {w : World} : (if a = true then (Result.ok b w : Result Bool) else .ok false w) = .ok (a && b) w := by cases a <;> rfl
set_option maxRecDepth 100000 in
theorem ft_eqInI (s c s' c' : Nat) (w : World) : (Op.equalIn 10000 31 (.agg (ftI s c)) (.agg (ftI s' c'))).run Tryd.prog w = .ok (decide ((s : Int) = s') && decide ((c : Int) = c')) w := by
  have h1 := fieldsOf_eqI Tryd.underlying31
  rw [show (10000 : Nat) = 9998 + 1 + 1 from rfl, run_equalIn_struct w 9999 31 _ _ (by kernel_rfl) (by kernel_rfl), h1]
  have h8 := fun (a b : Int) => (run_equalIn_int (P := Tryd.prog) w 9998 5 .u8 .u8 a b Tryd.underlying5).trans (by rw [int_eqI])
  have hi := fun (a b : Int) => (run_equalIn_int (P := Tryd.prog) w 9998 22 .u32 .u32 a b Tryd.underlying22).trans (by rw [int_eqI])
  rw [eqFI (by decide) (by kernel_rfl) rfl rfl (h8 s s'), eqFI (by decide) (by kernel_rfl) rfl rfl (hi c c'), eqF_nilI]
  rw [and_ifI, and_ifI, Bool.and_true]
/-- A fault is the same as itself. -/
theorem ft_eqlI (s c : Nat) (w : World) : (binOp .eql 31 (.agg (ftI s c)) (.agg (ftI s c))).run Tryd.prog w = .ok (.bool true) w := by rw [run_eql_struct, ft_eqInI]; simp
theorem ft_neqI (s c : Nat) (w : World) : (binOp .neq 31 (.agg (ftI s c)) (.agg (ftI s c))).run Tryd.prog w = .ok (.bool false) w := by rw [run_neq_struct, ft_eqInI]; simp
theorem ft_zeroI (w : World) : (binOp .eql 31 (.agg (ftI 0 0)) (.agg #[.int .u8 0, .int .u32 0])).run Tryd.prog w = .ok (.bool true) w := ft_eqlI 0 0 w
/-- A frame's and a fault's variable, made and stored into. -/
theorem varsI (w : World) (X F : Array Value) (_hX : X.size = 5) (_hF : F.size = 2) : ∃ w5, (((w.alloc (.cells (pcC false 0 false 0 none 0 0) 25)).alloc (.cells (ftI 0 0) 31)).setRow w.heap.size X).setRow (w.heap.size + 1) F = w5 ∧ Row w5 w.heap.size 25 X ∧ Row w5 (w.heap.size + 1) 31 F ∧ Below w.heap.size w w5 ∧ w5.heap.size = w.heap.size + 2 ∧
    Row ((w.alloc (.cells (pcC false 0 false 0 none 0 0) 25)).alloc (.cells (ftI 0 0) 31)) w.heap.size 25 (pcC false 0 false 0 none 0 0) ∧ Row (((w.alloc (.cells (pcC false 0 false 0 none 0 0) 25)).alloc (.cells (ftI 0 0) 31)).setRow w.heap.size X) (w.heap.size + 1) 31 (ftI 0 0) := by
  have r1 : Row ((w.alloc (.cells (pcC false 0 false 0 none 0 0) 25)).alloc (.cells (ftI 0 0) 31)) w.heap.size 25 (pcC false 0 false 0 none 0 0) := (Row.new w _ _).alloc _
  have r2 : Row ((w.alloc (.cells (pcC false 0 false 0 none 0 0) 25)).alloc (.cells (ftI 0 0) 31)) (w.heap.size + 1) 31 (ftI 0 0) := Row.made _ _ _ (by simp)
  have r3 := r2.setRow' (k := w.heap.size) (by omega) X
  have hb : Below w.heap.size w ((w.alloc (.cells (pcC false 0 false 0 none 0 0) 25)).alloc (.cells (ftI 0 0) 31)) := ((Below.refl _ _).alloc (Nat.le_refl _) _).alloc (by simp) _
  exact ⟨_, rfl, (r1.setRow X).setRow' (by omega) F, r3.setRow F, below_setRow (below_setRow hb _ _ (Nat.le_refl _)) _ _ (by omega), by simp, r1, r3⟩
theorem ftI0_eq : (#[.int .u8 0, .int .u32 0] : Array Value) = ftI 0 0 := rfl
theorem pcC0_eq : (#[.bool false, .int .u8 0, .bool false, .int .u32 0, .slice none 0 0] : Array Value) = pcC false 0 false 0 none 0 0 := rfl
/-- One variable. -/
theorem varI (w : World) (T : TypeId) (Z X : Array Value) : ∃ w5, (w.alloc (.cells Z T)).setRow w.heap.size X = w5 ∧ Row w5 w.heap.size T X ∧ Below w.heap.size w w5 ∧ w5.heap.size = w.heap.size + 1 ∧ Row (w.alloc (.cells Z T)) w.heap.size T Z :=
  ⟨_, rfl, (Row.new w T Z).setRow X, below_setRow ((Below.refl _ _).alloc (Nat.le_refl _) _) _ _ (Nat.le_refl _), by simp, Row.new w T Z⟩
end Go.Proofs.YtffgjnohlcodaaaDoor
