/-
  A frame by value and in a block: its eleven cells. No conditions.
-/
import Derived.Test.YtooaajnkiokpnaaGreatDoorProg
import Derived.Test.YtooaajnkiokpnaaGreatDoorArr
import Derived.Deep.MidRow
import Derived.BigFrame
namespace Go.Proofs.YtooaajnkiokpnaaGreatDoor
open Go.RowKit Go.WideShapes

/-- A frame as the program has it: its two slices by their addresses. -/
structure Fm where
  ty : Nat
  fl : Nat
  st : Nat
  dA : Option Addr
  dn : Nat
  dc : Nat
  pad : Int
  code : Nat
  oth : Nat
  wt : Nat
  al : Bool
  win : Nat
  sA : Option Addr
  sn : Nat
  sc : Nat
def Fm.c (x : Fm) : Array Value := #[.int .u8 x.ty, .int .u8 x.fl, .int .u32 x.st, .slice x.dA x.dn x.dc, .int .i64 x.pad, .int .u32 x.code, .int .u32 x.oth, .int .u8 x.wt, .bool x.al, .int .u32 x.win, .slice x.sA x.sn x.sc]

theorem frame_info : (Tryz.prog.info? 66).map (·.size) = some 11 := by kernel_rfl
theorem Fm.size (x : Fm) : (Tryz.prog.info? 66).map (·.size) = some x.c.size := frame_info

section
variable {w : World} {g : Nat} {x : Fm}
theorem fm_load (h : Row w g 66 x.c) : (Instr.loadAt 66 (.pointer (some ⟨g, 0, none⟩))).run Tryz.prog w = .ok (.agg x.c) w := by
  have := run_loadAt_mid (P := Tryz.prog) w g 0 66 x.c.toList _ (fun j v hv => by rw [Nat.zero_add]; exact h.cell (by simpa using hv)) Tryz.underlying66 rfl (by rw [Fm.size x]; simp)
  simpa using this
theorem fm_cells (h : Row w g 66 x.c) : w.cell? ⟨g, 0, none⟩ = some (.int .u8 x.ty) ∧ w.cell? ⟨g, 1, none⟩ = some (.int .u8 x.fl) ∧ w.cell? ⟨g, 2, none⟩ = some (.int .u32 x.st) ∧ w.cell? ⟨g, 3, none⟩ = some (.slice x.dA x.dn x.dc) ∧
    w.cell? ⟨g, 4, none⟩ = some (.int .i64 x.pad) ∧ w.cell? ⟨g, 5, none⟩ = some (.int .u32 x.code) ∧ w.cell? ⟨g, 6, none⟩ = some (.int .u32 x.oth) ∧ w.cell? ⟨g, 7, none⟩ = some (.int .u8 x.wt) ∧ w.cell? ⟨g, 8, none⟩ = some (.bool x.al) ∧
    w.cell? ⟨g, 9, none⟩ = some (.int .u32 x.win) ∧ w.cell? ⟨g, 10, none⟩ = some (.slice x.sA x.sn x.sc) :=
  ⟨h.cell rfl, h.cell rfl, h.cell rfl, h.cell rfl, h.cell rfl, h.cell rfl, h.cell rfl, h.cell rfl, h.cell rfl, h.cell rfl, h.cell rfl⟩
end
/-- A whole frame, loaded. -/
theorem wpList_fm {ops : Array Oper} {rest : List Oper} {o : Oper} {a : Act} {w : World} {Q : Exit → Act → World → Prop} (hgd : o.guard = none) (y : Operand) (ho : o.op = .load 66 y) {g : Nat} (hy : a.eval y = .pointer (some ⟨g, 0, none⟩)) {x : Fm} (h : Row w g 66 x.c)
    (hk : wpList Tryz.prog ops Q rest (a.put o.dst (.agg x.c)) w) : wpList Tryz.prog ops Q (o :: rest) a w :=
  wpList_load_row hgd 66 y ho g hy 66 x.c (0, 0) _ h Tryz.underlying66 rfl (Fm.size x) hk
/-- .. behind a guard. -/
theorem wpList_fmg {ops : Array Oper} {rest : List Oper} {o : Oper} {a : Act} {w : World} {Q : Exit → Act → World → Prop} (hw : Region.wanted o (yielded ops a.tmps) = true) (y : Operand) (ho : o.op = .load 66 y) {g : Nat} (hy : a.eval y = .pointer (some ⟨g, 0, none⟩)) {x : Fm} (h : Row w g 66 x.c)
    (hk : wpList Tryz.prog ops Q rest (a.put o.dst (.agg x.c)) w) : wpList Tryz.prog ops Q (o :: rest) a w :=
  BigFrame.wpList_want hw fun _ hK => wp_load_row 66 y ho g hy 66 x.c (0, 0) _ h Tryz.underlying66 rfl (Fm.size x) (hK _ _ hk)
/-- .. in a region that draws its order, under an S that gives its row: it may be taken first. -/
theorem yields_fm {ops : Array Oper} {S : World → Prop} {o : Oper} {a : Act} (hw : Region.wanted o (yielded ops a.tmps) = true) (y : Operand) (ho : o.op = .load 66 y) {g : Nat} (hy : a.eval y = .pointer (some ⟨g, 0, none⟩)) {x : Fm} (hS : ∀ w, S w → Row w g 66 x.c) : YieldsIf Tryz.prog ops S o (.agg x.c) a :=
  .inl ⟨hw, fun w hw' => by
    unfold execOp
    simp only [ho, hy, Instr.loadAt, Instr.sureAddr, Sem.run_bind, Sem.run_pure, Result.andThen_ok, run_loadVar_row w g 66 66 x.c (0, 0) _ (hS w hw') Tryz.underlying66 rfl (Fm.size x)]⟩
attribute [local irreducible] Fm.c
end Go.Proofs.YtooaajnkiokpnaaGreatDoor
