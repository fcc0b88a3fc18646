/-
  A fault by value: its cells, faults held against others. What the document's tables of streams say, as functions of numbers. No conditions.
-/
import Derived.Test.YtngngebkecanmaaDoorProg
import Derived.Test.YtngngebkecanmaaDoorAg
import Derived.Test.YtngngebkecanmaaDoorFs
import Derived.Laws.StructEq
import Derived.ChangeKeysEq
namespace Go.Proofs.YtngngebkecanmaaDoor
open Go.RowKit Go.WideShapes

/-- The cells of a fault. -/
def ftc (s c : Int) : Array Value := #[.int .u8 s, .int .u32 c]
theorem ft_sz (s c s' c' : Int) : (ftc s c).size = (ftc s' c').size := rfl
theorem ftz : #[Value.int .u8 0, .int .u32 0] = ftc 0 0 := rfl
theorem ft_c (s c : Int) : ftc s c = #[.int .u8 s, .int .u32 c] := rfl
theorem ft_info : (Tryd.prog.info? 31).map (·.size) = some 2 := by kernel_rfl
theorem ft_ok (s c : Int) : AgOk Tryd.prog 31 (ftc s c) := ⟨⟨_, Tryd.underlying31⟩, ft_info, by unfold ftc; kernel_rfl⟩
theorem int_eq (a b : Int) : (a == b) = decide (a = b) := by
  by_cases h : a = b
  · subst h; simp
  · simp [h]
section
variable {P : Program}
/-- One field, held against the other's. -/
theorem eqF {d : Nat} {f : Field} {fs : List Field} {xs ys : Array Value} {w : World} {a b : Value} {r : Bool} (hn : f.name ≠ "_") (hp : P.plainKey f.type = true) (hx : xs[f.offset]? = some a) (hy : ys[f.offset]? = some b) (he : (Op.equalIn d f.type a b).run P w = .ok r w) :
    (Op.eqFields d xs ys (f :: fs)).run P w = if r = true then (Op.eqFields d xs ys fs).run P w else .ok false w := by
  simp only [Op.eqFields, Sem.run_bind, Sem.run_ite, if_pos hn, run_part_plain w hp hx, run_part_plain w hp hy, Result.andThen_ok, he]
  cases r <;> simp
theorem fieldsOf_eq {t : TypeId} {fs : Array Field} (h : P.underlying t = some (.struct fs)) : P.fieldsOf t = fs := by unfold Program.fieldsOf; rw [h]
theorem eqF_nil {d : Nat} {xs ys : Array Value} {w : World} : (Op.eqFields d xs ys []).run P w = .ok true w := rfl
end
theorem and_if {a b : Bool} {w : World} : (if a = true then (Result.ok b w : Result Bool) else .ok false w) = .ok (a && b) w := by cases a <;> rfl
theorem ft_eqIn (s c s' c' : Int) (w : World) : (Op.equalIn 10000 31 (.agg (ftc s c)) (.agg (ftc s' c'))).run Tryd.prog w = .ok (decide (s = s') && decide (c = c')) w := by
  have h1 := fieldsOf_eq Tryd.underlying31
  rw [show (10000 : Nat) = 9998 + 1 + 1 from rfl, run_equalIn_struct w 9999 31 _ _ (by kernel_rfl) (by kernel_rfl), h1]
  have h8 := fun (a b : Int) => (run_equalIn_int (P := Tryd.prog) w 9998 5 .u8 .u8 a b Tryd.underlying5).trans (by rw [int_eq])
  have hi := fun (a b : Int) => (run_equalIn_int (P := Tryd.prog) w 9998 29 .u32 .u32 a b Tryd.underlying29).trans (by rw [int_eq])
  rw [eqF (by decide) (by kernel_rfl) rfl rfl (h8 s s'), eqF (by decide) (by kernel_rfl) rfl rfl (hi c c'), eqF_nil]
  rw [and_if, and_if, Bool.and_true]
theorem ft_eql (s c s' c' : Int) (w : World) : (binOp .eql 31 (.agg (ftc s c)) (.agg (ftc s' c'))).run Tryd.prog w = .ok (.bool (decide (s = s') && decide (c = c'))) w := by rw [run_eql_struct, ft_eqIn]; rfl
theorem ft_neq (s c s' c' : Int) (w : World) : (binOp .neq 31 (.agg (ftc s c)) (.agg (ftc s' c'))).run Tryd.prog w = .ok (.bool (!(decide (s = s') && decide (c = c')))) w := by rw [run_neq_struct, ft_eqIn]; rfl
theorem fault_var (w : World) : Row (w.alloc (.cells #[.int .u8 0, .int .u32 0] 31)) w.heap.size 31 (ftc 0 0) ∧ Below w.heap.size w (w.alloc (.cells #[.int .u8 0, .int .u32 0] 31)) ∧ (w.alloc (.cells #[.int .u8 0, .int .u32 0] 31)).heap.size = w.heap.size + 1 := by
  refine ⟨by rw [ftz]; exact Row.new w _ _, (Below.refl _ _).alloc (Nat.le_refl _) _, by simp⟩
theorem one_fault (w : World) (s c : Int) : ∃ w', (w.alloc (.cells #[.int .u8 0, .int .u32 0] 31)).setRow w.heap.size (ftc s c) = w' ∧ Row (w.alloc (.cells #[.int .u8 0, .int .u32 0] 31)) w.heap.size 31 (ftc 0 0) ∧ Row w' w.heap.size 31 (ftc s c) ∧ Below w.heap.size w w' := by
  have h1 : Row (w.alloc (.cells #[.int .u8 0, .int .u32 0] 31)) w.heap.size 31 (ftc 0 0) := by rw [ftz]; exact Row.new w _ _
  exact ⟨_, rfl, h1, h1.setRow _, below_setRow ((Below.refl _ _).alloc (Nat.le_refl _) _) _ _ (by omega)⟩

/-- Whether a frame's type carries something. -/
def car (k : Int) : Bool := decide (k = 1 ∨ k = 0)
/-- The state behind what the other side sent. -/
def gotS (s : Int) (e : Bool) : Int := if e = true then (if s = 2 then 4 else 3) else s
/-- The state behind what this side sent. -/
def sentS (s : Int) (e : Bool) : Int := if e = true then (if s = 3 then 4 else 2) else s
/-- What is sent: the state, whether it may be. -/
def sd (s k : Int) (e : Bool) : Int × Bool :=
  if s = 0 then (if k = 1 then (if e = true then (2, true) else (1, true)) else (s, false))
  else if (k = 1 ∨ k = 0) ∧ (s = 1 ∨ s = 3) then (sentS s e, true)
  else if k = 3 ∧ 1 ≤ s ∧ s ≤ 3 then (5, true)
  else (s, decide (k = 8 ∧ (s = 1 ∨ s = 2)))
/-- What comes ahead of the other side's end: the state, a fault's scope and code. -/
def cmBe (s k : Int) (e : Bool) : Int × Int × Int :=
  if k = 1 ∧ e = false then (s, 2, 1) else if k = 1 ∨ k = 0 then (gotS s e, 0, 0) else if k = 3 then (6, 0, 0) else (s, 0, 0)
def cmOn (s k : Int) (e : Bool) : Int × Int × Int :=
  if s = 0 then (if k = 1 then (if e = true then (3, 0, 0) else (1, 0, 0)) else (s, 1, 1))
  else if s = 1 ∨ s = 2 then cmBe s k e
  else if s = 3 ∧ k = 3 then (6, 0, 0)
  else if (s = 3 ∨ s = 6) ∧ (k = 1 ∨ k = 0) then (s, 2, 5)
  else if s = 4 ∧ (k = 1 ∨ k = 0) then (s, 1, 5)
  else (s, 0, 0)
def cm (s k : Int) (e : Bool) : Int × Int × Int :=
  if 6 < s then (s, 1, 2)
  else if k = 2 then (s, 0, 0)
  else if k = 0 ∨ k = 1 ∨ k = 3 ∨ k = 8 then cmOn s k e
  else (s, 1, 1)
/-- A fault is one just if its scope is one. -/
theorem cmBe_codes (s k : Int) (e : Bool) : (cmBe s k e).2.1 = 0 ∧ (cmBe s k e).2.2 = 0 ∨ 1 ≤ (cmBe s k e).2.1 := by
  unfold cmBe
  repeat' split
  all_goals simp
theorem cmOn_codes (s k : Int) (e : Bool) : (cmOn s k e).2.1 = 0 ∧ (cmOn s k e).2.2 = 0 ∨ 1 ≤ (cmOn s k e).2.1 := by
  have := cmBe_codes s k e
  unfold cmOn
  repeat' split
  all_goals first | exact this | simp
theorem cm_codes (s k : Int) (e : Bool) : (cm s k e).2.1 = 0 ∧ (cm s k e).2.2 = 0 ∨ 1 ≤ (cm s k e).2.1 := by
  have := cmOn_codes s k e
  unfold cm
  repeat' split
  all_goals first | exact this | simp
theorem cm_range (s k : Int) (e : Bool) (h : 0 ≤ s ∧ s ≤ 6) : 0 ≤ (cm s k e).1 ∧ (cm s k e).1 ≤ 6 := by
  unfold cm cmOn cmBe gotS
  repeat' split
  all_goals first | omega | (simp only []; omega)
theorem sd_range (s k : Int) (e : Bool) (h : 0 ≤ s ∧ s ≤ 6) : 0 ≤ (sd s k e).1 ∧ (sd s k e).1 ≤ 6 := by
  unfold sd sentS
  repeat' split
  all_goals first | omega | (simp only []; omega)
/-- Only on: a stream's states. -/
def On (s t : Int) : Prop := (s ≠ 0 → s ≤ t) ∧ (4 ≤ s → 4 ≤ t)
theorem cm_on (s k : Int) (e : Bool) (h : 0 ≤ s ∧ s ≤ 6) : On s (cm s k e).1 := by
  unfold On cm cmOn cmBe gotS
  repeat' split
  all_goals first | omega | (simp only []; omega)
theorem sd_on (s k : Int) (e : Bool) (h : 0 ≤ s ∧ s ≤ 6) : On s (sd s k e).1 := by
  unfold On sd sentS
  repeat' split
  all_goals first | omega | (simp only []; omega)
end Go.Proofs.YtngngebkecanmaaDoor
