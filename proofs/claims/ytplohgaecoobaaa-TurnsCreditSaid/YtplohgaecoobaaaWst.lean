/-
  Windows and meters, the program's and the document's, and a fault by value: their cells; faults held against others. No conditions.
-/
import Derived.Test.YtplohgaecoobaaaProg
import Derived.Test.YtplohgaecoobaaaAg
import Derived.Test.YtplohgaecoobaaaFs
import Derived.Laws.StructEq
import Derived.ChangeKeysEq
namespace Go.Proofs.Ytplohgaecoobaaa
open Go.RowKit Go.WideShapes

/-- The cells of a window .. -/
def wnc (l : Int) (s : Nat) : Array Value := #[.int .i64 l, .int .u8 s]
/-- .. of the document's .. -/
def rwc (l : Int) (b : Bool) : Array Value := #[.int .i64 l, .bool b]
/-- .. of a meter: its size, its window, what is untold .. -/
def mtc (z l : Int) (s : Nat) (u : Int) : Array Value := #[.int .i64 z, .int .i64 l, .int .u8 s, .int .i64 u]
/-- .. of the document's: its size, what may come, what is owed, what is untold .. -/
def rmc (z l o u : Int) : Array Value := #[.int .i64 z, .int .i64 l, .int .i64 o, .int .i64 u]
/-- .. of a fault. -/
def ftc (s c : Nat) : Array Value := #[.int .u8 s, .int .u32 c]
/-- A scope. -/
def sco (b : Bool) : Nat := if b then 2 else 1
/-- Brought between the bounds. -/
def btw (n : Int) : Int := if 2147483647 < n then 2147483647 else if n < -2147483648 then -2147483648 else n
theorem btw_in (n : Int) : -2147483648 ≤ btw n ∧ btw n ≤ 2147483647 := by unfold btw; omega
theorem ft_sz (s c s' c' : Nat) : (ftc s c).size = (ftc s' c').size := rfl
theorem wn_sz (l l' : Int) (s s' : Nat) : (wnc l s).size = (wnc l' s').size := rfl
theorem rw_sz (l l' : Int) (b b' : Bool) : (rwc l b).size = (rwc l' b').size := rfl
theorem rm_sz (z l o u z' l' o' u' : Int) : (rmc z l o u).size = (rmc z' l' o' u').size := rfl
theorem ftz : #[Value.int .u8 0, .int .u32 0] = ftc 0 0 := rfl
theorem wn_c (l : Int) (s : Nat) : wnc l s = #[.int .i64 l, .int .u8 s] := rfl
theorem rw_c (l : Int) (b : Bool) : rwc l b = #[.int .i64 l, .bool b] := rfl
theorem mt_c (z l : Int) (s : Nat) (u : Int) : mtc z l s u = #[.int .i64 z, .int .i64 l, .int .u8 s, .int .i64 u] := rfl
theorem rm_c (z l o u : Int) : rmc z l o u = #[.int .i64 z, .int .i64 l, .int .i64 o, .int .i64 u] := rfl
theorem ft_c (s c : Nat) : ftc s c = #[.int .u8 s, .int .u32 c] := rfl
theorem ft_info : (Try.prog.info? 56).map (·.size) = some 2 := by kernel_rfl
theorem wn_info : (Try.prog.info? 93).map (·.size) = some 2 := by kernel_rfl
theorem rw_info : (Try.prog.info? 29).map (·.size) = some 2 := by kernel_rfl
theorem ft_ok (s c : Nat) : AgOk Try.prog 56 (ftc s c) := ⟨⟨_, Try.underlying56⟩, ft_info, by unfold ftc; kernel_rfl⟩
theorem wn_ok (l : Int) (s : Nat) : AgOk Try.prog 93 (wnc l s) := ⟨⟨_, Try.underlying93⟩, wn_info, by unfold wnc; kernel_rfl⟩
theorem rw_ok (l : Int) (b : Bool) : AgOk Try.prog 29 (rwc l b) := ⟨⟨_, Try.underlying29⟩, rw_info, by unfold rwc; kernel_rfl⟩
section
variable {w : World} {g : Nat}
theorem wn_cells {l : Int} {s : Nat} (h : Row w g 93 (wnc l s)) : w.cell? ⟨g, 0, none⟩ = some (.int .i64 l) ∧ w.cell? ⟨g, 1, none⟩ = some (.int .u8 s) := ⟨h.cell rfl, h.cell rfl⟩
theorem rw_cells {l : Int} {b : Bool} (h : Row w g 29 (rwc l b)) : w.cell? ⟨g, 0, none⟩ = some (.int .i64 l) ∧ w.cell? ⟨g, 1, none⟩ = some (.bool b) := ⟨h.cell rfl, h.cell rfl⟩
theorem wn_set {l l' : Int} {s : Nat} (h : Row w g 93 (wnc l s)) : Row (w.setCell ⟨g, 0, none⟩ (.int .i64 l')) g 93 (wnc l' s) := h.stored 0 _
theorem wnC {l : Int} {s : Nat} (h : Row w g 93 (wnc l s)) : w.cell? ⟨g, 0, none⟩ = some (.int .i64 l) := h.cell rfl
theorem wnS {l : Int} {s : Nat} (h : Row w g 93 (wnc l s)) : w.cell? ⟨g, 1, none⟩ = some (.int .u8 s) := h.cell rfl
theorem wnL {l l' : Int} {s : Nat} (h : Row w g 93 (wnc l s)) : Row (w.setCell ⟨g, 0, none⟩ (.int .i64 l')) g 93 (wnc l' s) := h.stored 0 _
theorem wn_sets {l : Int} {s s' : Nat} (h : Row w g 93 (wnc l s)) : Row (w.setCell ⟨g, 1, none⟩ (.int .u8 s')) g 93 (wnc l s') := h.stored 1 _
theorem rw_set {l l' : Int} {b : Bool} (h : Row w g 29 (rwc l b)) : Row (w.setCell ⟨g, 0, none⟩ (.int .i64 l')) g 29 (rwc l' b) := h.stored 0 _
theorem ft_sets {s c s' : Nat} (h : Row w g 56 (ftc s c)) : Row (w.setCell ⟨g, 0, none⟩ (.int .u8 s')) g 56 (ftc s' c) := h.stored 0 _
end
theorem nat_eq (a b : Nat) : ((a : Int) == (b : Int)) = decide (a = b) := by
  by_cases h : a = b
  · subst h; simp
  · have : ¬ (a : Int) = (b : Int) := by omega
    simp [h, this]
section
variable {P : Program}
/-- One field, held against the other's. -/
theorem eqF {d : Nat} {f : Field} {fs : List Field} {xs ys : Array Value} {w : World} {a b : Value} {r : Bool} (hn : f.name ≠ "_") (hp : P.plainKey f.type = true) (hx : xs[f.offset]? = some a) (hy : ys[f.offset]? = some b) (he : (Op.equalIn d f.type a b).run P w = .ok r w) :
    (Op.eqFields d xs ys (f :: fs)).run P w = if r = true then (Op.eqFields d xs ys fs).run P w else .ok false w := by
  simp only [Op.eqFields, Sem.run_bind, Sem.run_ite, if_pos hn, run_part_plain w hp hx, run_part_plain w hp hy, Result.andThen_ok, he]
  cases r <;> simp
theorem fieldsOf_eq {t : TypeId} {fs : Array Field} (h : P.underlying t = some (.struct fs)) : P.fieldsOf t = fs := by unfold Program.fieldsOf; rw [h]
theorem eqF_nil {d : Nat} {xs ys : Array Value} {w : World} : (Op.eqFields d xs ys []).run P w = .ok true w := rfl
end
theorem and_if {a b : Bool} {w : World} : (if a = true then (Result.ok b w : Result Bool) else .ok false w) = .ok (a && b) w := by cases a <;> rfl
set_option maxRecDepth 100000 in
theorem ft_eqIn (s c s' c' : Nat) (w : World) : (Op.equalIn 10000 56 (.agg (ftc s c)) (.agg (ftc s' c'))).run Try.prog w = .ok (decide (s = s') && decide (c = c')) w := by
  have h1 := fieldsOf_eq Try.underlying56
  rw [show (10000 : Nat) = 9998 + 1 + 1 from rfl, run_equalIn_struct w 9999 56 _ _ (by kernel_rfl) (by kernel_rfl), h1]
  have h8 := fun (a b : Nat) => (run_equalIn_int (P := Try.prog) w 9998 5 .u8 .u8 a b Try.underlying5).trans (by rw [nat_eq])
  have hi := fun (a b : Nat) => (run_equalIn_int (P := Try.prog) w 9998 33 .u32 .u32 a b Try.underlying33).trans (by rw [nat_eq])
  rw [eqF (by decide) (by kernel_rfl) rfl rfl (h8 s s'), eqF (by decide) (by kernel_rfl) rfl rfl (hi c c'), eqF_nil]
  rw [and_if, and_if, Bool.and_true]
theorem ft_eql (s c s' c' : Nat) (w : World) : (binOp .eql 56 (.agg (ftc s c)) (.agg (ftc s' c'))).run Try.prog w = .ok (.bool (decide (s = s') && decide (c = c'))) w := by rw [run_eql_struct, ft_eqIn]; rfl
theorem ft_neq (s c s' c' : Nat) (w : World) : (binOp .neq 56 (.agg (ftc s c)) (.agg (ftc s' c'))).run Try.prog w = .ok (.bool (!(decide (s = s') && decide (c = c')))) w := by rw [run_neq_struct, ft_eqIn]; rfl
theorem fs_set (w : World) (g o : Nat) (x : Value) : Fs (fun k => k = g) w (w.setCell ⟨g, o, none⟩ x) := (Fs.refl (fun k => k = g) w).setCell (fun _ => rfl) _ _
theorem fs_below {w w' : World} {B g : Nat} (h : Fs (fun k => k = g) w w') (hg : B ≤ g) (hB : B ≤ w.heap.size) : Below B w w' := h.below (fun k hk _ => by subst hk; exact hg) hB
theorem fault_var (w : World) : Row (w.alloc (.cells #[.int .u8 0, .int .u32 0] 56)) w.heap.size 56 (ftc 0 0) ∧ Below w.heap.size w (w.alloc (.cells #[.int .u8 0, .int .u32 0] 56)) ∧ (w.alloc (.cells #[.int .u8 0, .int .u32 0] 56)).heap.size = w.heap.size + 1 := by
  refine ⟨by rw [ftz]; exact Row.new w _ _, (Below.refl _ _).alloc (Nat.le_refl _) _, by simp⟩
theorem one_fault (w : World) (s c : Nat) : ∃ w', (w.alloc (.cells #[.int .u8 0, .int .u32 0] 56)).setRow w.heap.size (ftc s c) = w' ∧ Row (w.alloc (.cells #[.int .u8 0, .int .u32 0] 56)) w.heap.size 56 (ftc 0 0) ∧ Row w' w.heap.size 56 (ftc s c) ∧ Below w.heap.size w w' := by
  have h1 : Row (w.alloc (.cells #[.int .u8 0, .int .u32 0] 56)) w.heap.size 56 (ftc 0 0) := by rw [ftz]; exact Row.new w _ _
  exact ⟨_, rfl, h1, h1.setRow _, below_setRow ((Below.refl _ _).alloc (Nat.le_refl _) _) _ _ (by omega)⟩
end Go.Proofs.Ytplohgaecoobaaa
