/-
  Settings, a setting and a fault by value: their cells, held against others. No conditions.
-/
import Derived.Test.YtaffmcbpfjdokaaProg
import Derived.Test.YtaffmcbpfjdokaaAg
import Derived.Test.YtaffmcbpfjdokaaGm
import Derived.Laws.StructEq
import Derived.ChangeKeysEq
namespace Go.Proofs.Ytaffmcbpfjdokaa
open Go.RowKit Go.WideShapes

/-- The cells of settings .. -/
def St.l (x : St) : List Value := [.int .u32 x.tb, .bool x.pu, .int .u32 x.st, .int .u32 x.wn, .int .u32 x.fr, .int .u32 x.hd, .bool x.co]
def St.c (x : St) : Array Value := #[.int .u32 x.tb, .bool x.pu, .int .u32 x.st, .int .u32 x.wn, .int .u32 x.fr, .int .u32 x.hd, .bool x.co]
/-- .. of a setting .. -/
def sec (i v : Nat) : Array Value := #[.int .u16 i, .int .u32 v]
def sgc (s : Nat × Nat) : List Value := [.int .u16 (s.1 : Int), .int .u32 (s.2 : Int)]
/-- .. of a fault. -/
def ftc (s c : Nat) : Array Value := #[.int .u8 s, .int .u32 c]
theorem St.cl (x : St) : x.c.toList = x.l := rfl
theorem St.cl' (x : St) : x.l.toArray = x.c := rfl
theorem St.llen (x : St) : x.l.length = 7 := rfl
theorem St.csize (x : St) : x.c.size = 7 := rfl
theorem ft_size (s c : Nat) : (ftc s c).size = 2 := rfl
theorem ft_sz (s c s' c' : Nat) : (ftc s c).size = (ftc s' c').size := rfl
theorem St.sz (x y : St) : x.c.size = y.c.size := rfl
theorem sgc_len (s : Nat × Nat) : (sgc s).length = 2 := rfl
theorem sgc_one (s : Nat × Nat) : ∀ u ∈ sgc s, u.oneCell' = true := by intro u hu; simp [sgc] at hu; rcases hu with rfl | rfl <;> rfl
theorem St.one (x : St) : ∀ u ∈ x.l, u.oneCell' = true := by intro u hu; simp [St.l] at hu; rcases hu with rfl | rfl | rfl | rfl | rfl | rfl | rfl <;> rfl
theorem beg_c : begS.c = #[.int .u32 4096, .bool true, .int .u32 4294967295, .int .u32 65535, .int .u32 16384, .int .u32 4294967295, .bool false] := rfl
theorem z_c : zS.c = #[.int .u32 0, .bool false, .int .u32 0, .int .u32 0, .int .u32 0, .int .u32 0, .bool false] := rfl
theorem ft_c (s c : Nat) : ftc s c = #[.int .u8 s, .int .u32 c] := rfl
theorem st_info : (Try.prog.info? 24).map (·.size) = some 7 := by kernel_rfl
theorem se_info : (Try.prog.info? 39).map (·.size) = some 2 := by kernel_rfl
theorem ft_info : (Try.prog.info? 28).map (·.size) = some 2 := by kernel_rfl
theorem St.ok (x : St) : AgOk Try.prog 24 x.c := ⟨⟨_, Try.underlying24⟩, st_info, by unfold St.c; kernel_rfl⟩
theorem se_ok (i v : Nat) : AgOk Try.prog 39 (sec i v) := ⟨⟨_, Try.underlying39⟩, se_info, by unfold sec; kernel_rfl⟩
theorem ft_ok (s c : Nat) : AgOk Try.prog 28 (ftc s c) := ⟨⟨_, Try.underlying28⟩, ft_info, by unfold ftc; kernel_rfl⟩
section
variable {w : World} {g : Nat}
theorem st_cells {x : St} (h : Row w g 24 x.c) : w.cell? ⟨g, 0, none⟩ = some (.int .u32 x.tb) ∧ w.cell? ⟨g, 1, none⟩ = some (.bool x.pu) ∧ w.cell? ⟨g, 2, none⟩ = some (.int .u32 x.st) ∧ w.cell? ⟨g, 3, none⟩ = some (.int .u32 x.wn) ∧
    w.cell? ⟨g, 4, none⟩ = some (.int .u32 x.fr) ∧ w.cell? ⟨g, 5, none⟩ = some (.int .u32 x.hd) ∧ w.cell? ⟨g, 6, none⟩ = some (.bool x.co) := ⟨h.cell rfl, h.cell rfl, h.cell rfl, h.cell rfl, h.cell rfl, h.cell rfl, h.cell rfl⟩
theorem se_cells {i v : Nat} (h : Row w g 39 (sec i v)) : w.cell? ⟨g, 0, none⟩ = some (.int .u16 i) ∧ w.cell? ⟨g, 1, none⟩ = some (.int .u32 v) := ⟨h.cell rfl, h.cell rfl⟩
end
theorem nat_eq (a b : Nat) : ((a : Int) == (b : Int)) = decide (a = b) := by
  by_cases h : a = b
  · subst h; simp
  · have : ¬ (a : Int) = (b : Int) := by omega
    simp [h, this]
theorem st_dec (x y : St) : decide (x = y) = (decide (x.tb = y.tb) && (decide (x.pu = y.pu) && (decide (x.st = y.st) && (decide (x.wn = y.wn) && (decide (x.fr = y.fr) && (decide (x.hd = y.hd) && decide (x.co = y.co))))))) := by
  cases x; cases y
  rw [Bool.eq_iff_iff]
  simp
section
variable {P : Program}
/-- One field, held against the other's. -/
theorem eqF {d : Nat} {f : Field} {fs : List Field} {xs ys : Array Value} {w : World} {a b : Value} {r : Bool} (hn : f.name ≠ "_") (hp : P.plainKey f.type = true) (hx : xs[f.offset]? = some a) (hy : ys[f.offset]? = some b) (he : (Op.equalIn d f.type a b).run P w = .ok r w) :
    (Op.eqFields d xs ys (f :: fs)).run P w = if r = true then (Op.eqFields d xs ys fs).run P w else .ok false w := by
  simp only [Op.eqFields, Sem.run_bind, Sem.run_ite, if_pos hn, run_part_plain w hp hx, run_part_plain w hp hy, Result.andThen_ok, he]
  cases r <;> simp
theorem fieldsOf_eq {t : TypeId} {fs : Array Field} (h : P.underlying t = some (.struct fs)) : P.fieldsOf t = fs := by unfold Program.fieldsOf; rw [h]
theorem eqF_nil {d : Nat} {xs ys : Array Value} {w : World} : (Op.eqFields d xs ys []).run P w = .ok true w := rfl
end
theorem and_if {a b : Bool} {w : World} : (if a = true then (Result.ok b w : Result Bool) else .ok false w) = .ok (a && b) w := by cases a <;> rfl
theorem bool_eq (a b : Bool) : (a == b) = decide (a = b) := by cases a <;> cases b <;> rfl
theorem st_eqIn (x y : St) (w : World) : (Op.equalIn 10000 24 (.agg x.c) (.agg y.c)).run Try.prog w = .ok (decide (x = y)) w := by
  have h1 := fieldsOf_eq Try.underlying24
  rw [show (10000 : Nat) = 9998 + 1 + 1 from rfl, run_equalIn_struct w 9999 24 _ _ (by kernel_rfl) (by kernel_rfl), h1]
  have hi := fun (a b : Nat) => (run_equalIn_int (P := Try.prog) w 9998 22 .u32 .u32 a b Try.underlying22).trans (by rw [nat_eq])
  have hb := fun (a b : Bool) => (run_equalIn_bool' (P := Try.prog) w 9998 4 a b Try.underlying4).trans (by rw [bool_eq])
  rw [eqF (by decide) (by kernel_rfl) rfl rfl (hi x.tb y.tb), eqF (by decide) (by kernel_rfl) rfl rfl (hb x.pu y.pu), eqF (by decide) (by kernel_rfl) rfl rfl (hi x.st y.st), eqF (by decide) (by kernel_rfl) rfl rfl (hi x.wn y.wn),
    eqF (by decide) (by kernel_rfl) rfl rfl (hi x.fr y.fr), eqF (by decide) (by kernel_rfl) rfl rfl (hi x.hd y.hd), eqF (by decide) (by kernel_rfl) rfl rfl (hb x.co y.co), eqF_nil]
  rw [and_if, and_if, and_if, and_if, and_if, and_if, and_if, st_dec, Bool.and_true]
theorem st_eql (x y : St) (w : World) : (binOp .eql 24 (.agg x.c) (.agg y.c)).run Try.prog w = .ok (.bool (decide (x = y))) w := by rw [run_eql_struct, st_eqIn]; rfl
theorem st_neq (x y : St) (w : World) : (binOp .neq 24 (.agg x.c) (.agg y.c)).run Try.prog w = .ok (.bool (!decide (x = y))) w := by rw [run_neq_struct, st_eqIn]; rfl
theorem ft_eqIn (s c s' c' : Nat) (w : World) : (Op.equalIn 10000 28 (.agg (ftc s c)) (.agg (ftc s' c'))).run Try.prog w = .ok (decide (s = s') && decide (c = c')) w := by
  have h1 := fieldsOf_eq Try.underlying28
  rw [show (10000 : Nat) = 9998 + 1 + 1 from rfl, run_equalIn_struct w 9999 28 _ _ (by kernel_rfl) (by kernel_rfl), h1]
  have h8 := fun (a b : Nat) => (run_equalIn_int (P := Try.prog) w 9998 5 .u8 .u8 a b Try.underlying5).trans (by rw [nat_eq])
  have hi := fun (a b : Nat) => (run_equalIn_int (P := Try.prog) w 9998 22 .u32 .u32 a b Try.underlying22).trans (by rw [nat_eq])
  rw [eqF (by decide) (by kernel_rfl) rfl rfl (h8 s s'), eqF (by decide) (by kernel_rfl) rfl rfl (hi c c'), eqF_nil]
  rw [and_if, and_if, Bool.and_true]
theorem ft_eql (s c s' c' : Nat) (w : World) : (binOp .eql 28 (.agg (ftc s c)) (.agg (ftc s' c'))).run Try.prog w = .ok (.bool (decide (s = s') && decide (c = c'))) w := by rw [run_eql_struct, ft_eqIn]; rfl
theorem ft_neq (s c s' c' : Nat) (w : World) : (binOp .neq 28 (.agg (ftc s c)) (.agg (ftc s' c'))).run Try.prog w = .ok (.bool (!(decide (s = s') && decide (c = c')))) w := by rw [run_neq_struct, ft_eqIn]; rfl
theorem se_eqIn (i v i' v' : Nat) (w : World) : (Op.equalIn 10000 39 (.agg (sec i v)) (.agg (sec i' v'))).run Try.prog w = .ok (decide ((i, v) = (i', v'))) w := by
  have h1 := fieldsOf_eq Try.underlying39
  rw [show (10000 : Nat) = 9998 + 1 + 1 from rfl, run_equalIn_struct w 9999 39 _ _ (by kernel_rfl) (by kernel_rfl), h1]
  have h8 := fun (a b : Nat) => (run_equalIn_int (P := Try.prog) w 9998 37 .u16 .u16 a b Try.underlying37).trans (by rw [nat_eq])
  have hi := fun (a b : Nat) => (run_equalIn_int (P := Try.prog) w 9998 22 .u32 .u32 a b Try.underlying22).trans (by rw [nat_eq])
  rw [eqF (by decide) (by kernel_rfl) rfl rfl (h8 i i'), eqF (by decide) (by kernel_rfl) rfl rfl (hi v v'), eqF_nil]
  rw [and_if, and_if, Bool.and_true]
  congr 1
  rw [Bool.eq_iff_iff]
  simp
theorem se_neq (i v i' v' : Nat) (w : World) : (binOp .neq 39 (.agg (sec i v)) (.agg (sec i' v'))).run Try.prog w = .ok (.bool (!decide ((i, v) = (i', v')))) w := by rw [run_neq_struct, se_eqIn]; rfl
end Go.Proofs.Ytaffmcbpfjdokaa
