/-
  A meter's Of, by contract. No conditions.
  Windows and meters, the program's and the document's, and a fault by value: their cells; faults held against others. No conditions.
  A window's functions, the program's and the document's, by their contracts. Conditions: the bounds of a window.
  Take, the window's (by itself, and in a meter) and the document's, by contract. Conditions: the bounds of a window.
  add, Grow, Shift, the window's (by itself, and in a meter), by contract. Conditions: the bounds of a window.
  A meter's Of, Left, Owed, Come, by contract; a nil one's functions. Conditions: what a meter is: its window and what is untold are no more than its size.
-/
import Derived.Test.YtooaajnkiokpnaaGreatDoorProg
import Derived.Test.YtooaajnkiokpnaaGreatDoorAg
import Derived.Test.YtooaajnkiokpnaaGreatDoorFs
import Derived.Laws.StructEq
import Derived.ChangeKeysEq
import Derived.Lib.MinMax
import Derived.Deep.CutBlock
import Derived.Deep.DeepCutAuto
import Derived.BigQuiet

namespace Go.Proofs.YtooaajnkiokpnaaGreatDoor
open Go.RowKit Go.WideShapes

/-- The cells of a window .. -/
def wnc (l : Int) (s : Nat) : Array Value := #[.int .i64 l, .int .u8 s]
/-- .. of the document's .. -/
def rwc (l : Int) (b : Bool) : Array Value := #[.int .i64 l, .bool b]
/-- .. of a meter: its size, its window, what is untold .. -/
def mtc (z l : Int) (s : Nat) (u : Int) : Array Value := #[.int .i64 z, .int .i64 l, .int .u8 s, .int .i64 u]
/-- .. of the document's: its size, what may come, what is owed, what is untold .. -/
def rmc (z l o u : Int) : Array Value := #[.int .i64 z, .int .i64 l, .int .i64 o, .int .i64 u]
/-- .. of a fault. -/
def ftcW (s c : Nat) : Array Value := #[.int .u8 s, .int .u32 c]
/-- A scope. -/
def sco (b : Bool) : Nat := if b then 2 else 1
/-- Brought between the bounds. -/
def btw (n : Int) : Int := if 2147483647 < n then 2147483647 else if n < -2147483648 then -2147483648 else n
theorem btw_in (n : Int) : -2147483648 ≤ btw n ∧ btw n ≤ 2147483647 := by unfold btw; omega
theorem ft_szW (s c s' c' : Nat) : (ftcW s c).size = (ftcW s' c').size := rfl
theorem wn_sz (l l' : Int) (s s' : Nat) : (wnc l s).size = (wnc l' s').size := rfl
theorem rw_sz (l l' : Int) (b b' : Bool) : (rwc l b).size = (rwc l' b').size := rfl
theorem rm_sz (z l o u z' l' o' u' : Int) : (rmc z l o u).size = (rmc z' l' o' u').size := rfl
theorem ftzW : #[Value.int .u8 0, .int .u32 0] = ftcW 0 0 := rfl
theorem wn_c (l : Int) (s : Nat) : wnc l s = #[.int .i64 l, .int .u8 s] := rfl
theorem rw_c (l : Int) (b : Bool) : rwc l b = #[.int .i64 l, .bool b] := rfl
theorem mt_c (z l : Int) (s : Nat) (u : Int) : mtc z l s u = #[.int .i64 z, .int .i64 l, .int .u8 s, .int .i64 u] := rfl
theorem rm_c (z l o u : Int) : rmc z l o u = #[.int .i64 z, .int .i64 l, .int .i64 o, .int .i64 u] := rfl
theorem ft_cW (s c : Nat) : ftcW s c = #[.int .u8 s, .int .u32 c] := rfl
theorem ft_infoW : (Tryz.prog.info? 29).map (·.size) = some 2 := by kernel_rfl
theorem wn_info : (Tryz.prog.info? 160).map (·.size) = some 2 := by kernel_rfl
theorem mt_info : (Tryz.prog.info? 162).map (·.size) = some 4 := by kernel_rfl
theorem ft_okW (s c : Nat) : AgOk Tryz.prog 29 (ftcW s c) := ⟨⟨_, Tryz.underlying29⟩, ft_infoW, by unfold ftcW; kernel_rfl⟩
theorem wn_ok (l : Int) (s : Nat) : AgOk Tryz.prog 160 (wnc l s) := ⟨⟨_, Tryz.underlying160⟩, wn_info, by unfold wnc; kernel_rfl⟩
theorem mt_ok (z l : Int) (s : Nat) (u : Int) : AgOk Tryz.prog 162 (mtc z l s u) := ⟨⟨_, Tryz.underlying162⟩, mt_info, by unfold mtc; kernel_rfl⟩
section
variable {w : World} {g : Nat}
theorem wn_cells {l : Int} {s : Nat} (h : Row w g 160 (wnc l s)) : w.cell? ⟨g, 0, none⟩ = some (.int .i64 l) ∧ w.cell? ⟨g, 1, none⟩ = some (.int .u8 s) := ⟨h.cell rfl, h.cell rfl⟩
theorem mt_cells {z l u : Int} {s : Nat} (h : Row w g 162 (mtc z l s u)) : w.cell? ⟨g, 0, none⟩ = some (.int .i64 z) ∧ w.cell? ⟨g, 1, none⟩ = some (.int .i64 l) ∧ w.cell? ⟨g, 2, none⟩ = some (.int .u8 s) ∧ w.cell? ⟨g, 3, none⟩ = some (.int .i64 u) := ⟨h.cell rfl, h.cell rfl, h.cell rfl, h.cell rfl⟩
theorem wn_set {l l' : Int} {s : Nat} (h : Row w g 160 (wnc l s)) : Row (w.setCell ⟨g, 0, none⟩ (.int .i64 l')) g 160 (wnc l' s) := h.stored 0 _
theorem wnC {l : Int} {s : Nat} (h : Row w g 160 (wnc l s)) : w.cell? ⟨g, 0, none⟩ = some (.int .i64 l) := h.cell rfl
theorem mtC {z l u : Int} {s : Nat} (h : Row w g 162 (mtc z l s u)) : w.cell? ⟨g, 1, none⟩ = some (.int .i64 l) := h.cell rfl
theorem wnS {l : Int} {s : Nat} (h : Row w g 160 (wnc l s)) : w.cell? ⟨g, 1, none⟩ = some (.int .u8 s) := h.cell rfl
theorem mtS {z l u : Int} {s : Nat} (h : Row w g 162 (mtc z l s u)) : w.cell? ⟨g, 2, none⟩ = some (.int .u8 s) := h.cell rfl
theorem wnL {l l' : Int} {s : Nat} (h : Row w g 160 (wnc l s)) : Row (w.setCell ⟨g, 0, none⟩ (.int .i64 l')) g 160 (wnc l' s) := h.stored 0 _
theorem mtL {z l l' u : Int} {s : Nat} (h : Row w g 162 (mtc z l s u)) : Row (w.setCell ⟨g, 1, none⟩ (.int .i64 l')) g 162 (mtc z l' s u) := h.stored 1 _
theorem wn_sets {l : Int} {s s' : Nat} (h : Row w g 160 (wnc l s)) : Row (w.setCell ⟨g, 1, none⟩ (.int .u8 s')) g 160 (wnc l s') := h.stored 1 _
theorem mt_setl {z l l' u : Int} {s : Nat} (h : Row w g 162 (mtc z l s u)) : Row (w.setCell ⟨g, 1, none⟩ (.int .i64 l')) g 162 (mtc z l' s u) := h.stored 1 _
theorem mt_setu {z l u u' : Int} {s : Nat} (h : Row w g 162 (mtc z l s u)) : Row (w.setCell ⟨g, 3, none⟩ (.int .i64 u')) g 162 (mtc z l s u') := h.stored 3 _
theorem ft_sets {s c s' : Nat} (h : Row w g 29 (ftcW s c)) : Row (w.setCell ⟨g, 0, none⟩ (.int .u8 s')) g 29 (ftcW s' c) := h.stored 0 _
end
theorem nat_eqW (a b : Nat) : ((a : Int) == (b : Int)) = decide (a = b) := by
  by_cases h : a = b
  · subst h; simp
  · have : ¬ (a : Int) = (b : Int) := by omega
    simp [h, this]
section
variable {P : Program}
/-- One field, held against the other's. -/
theorem eqFW {d : Nat} {f : Field} {fs : List Field} {xs ys : Array Value} {w : World} {a b : Value} {r : Bool} (hn : f.name ≠ "_") (hp : P.plainKey f.type = true) (hx : xs[f.offset]? = some a) (hy : ys[f.offset]? = some b) (he : (Op.equalIn d f.type a b).run P w = .ok r w) :
    (Op.eqFields d xs ys (f :: fs)).run P w = if r = true then (Op.eqFields d xs ys fs).run P w else .ok false w := by
  simp only [Op.eqFields, Sem.run_bind, Sem.run_ite, if_pos hn, run_part_plain w hp hx, run_part_plain w hp hy, Result.andThen_ok, he]
  cases r <;> simp
theorem fieldsOf_eqW {t : TypeId} {fs : Array Field} (h : P.underlying t = some (.struct fs)) : P.fieldsOf t = fs := by unfold Program.fieldsOf; rw [h]
theorem eqF_nilW {d : Nat} {xs ys : Array Value} {w : World} : (Op.eqFields d xs ys []).run P w = .ok true w := rfl
end
theorem and_ifW {a b : Bool} {w : World} : (if a = true then (Result.ok b w : Result Bool) else .ok false w) = .ok (a && b) w := by cases a <;> rfl
set_option maxRecDepth 100000 in
theorem ft_eqInW (s c s' c' : Nat) (w : World) : (Op.equalIn 10000 29 (.agg (ftcW s c)) (.agg (ftcW s' c'))).run Tryz.prog w = .ok (decide (s = s') && decide (c = c')) w := by
  have h1 := fieldsOf_eqW Tryz.underlying29
  rw [show (10000 : Nat) = 9998 + 1 + 1 from rfl, run_equalIn_struct w 9999 29 _ _ (by kernel_rfl) (by kernel_rfl), h1]
  have h8 := fun (a b : Nat) => (run_equalIn_int (P := Tryz.prog) w 9998 5 .u8 .u8 a b Tryz.underlying5).trans (by rw [nat_eqW])
  have hi := fun (a b : Nat) => (run_equalIn_int (P := Tryz.prog) w 9998 24 .u32 .u32 a b Tryz.underlying24).trans (by rw [nat_eqW])
  rw [eqFW (by decide) (by kernel_rfl) rfl rfl (h8 s s'), eqFW (by decide) (by kernel_rfl) rfl rfl (hi c c'), eqF_nilW]
  rw [and_ifW, and_ifW, Bool.and_true]
theorem ft_eqlW (s c s' c' : Nat) (w : World) : (binOp .eql 29 (.agg (ftcW s c)) (.agg (ftcW s' c'))).run Tryz.prog w = .ok (.bool (decide (s = s') && decide (c = c'))) w := by rw [run_eql_struct, ft_eqInW]; rfl
theorem ft_neqW (s c s' c' : Nat) (w : World) : (binOp .neq 29 (.agg (ftcW s c)) (.agg (ftcW s' c'))).run Tryz.prog w = .ok (.bool (!(decide (s = s') && decide (c = c')))) w := by rw [run_neq_struct, ft_eqInW]; rfl
theorem fs_set (w : World) (g o : Nat) (x : Value) : Fs (fun k => k = g) w (w.setCell ⟨g, o, none⟩ x) := (Fs.refl (fun k => k = g) w).setCell (fun _ => rfl) _ _
theorem fs_below {w w' : World} {B g : Nat} (h : Fs (fun k => k = g) w w') (hg : B ≤ g) (hB : B ≤ w.heap.size) : Below B w w' := h.below (fun k hk _ => by subst hk; exact hg) hB
theorem fault_varW (w : World) : Row (w.alloc (.cells #[.int .u8 0, .int .u32 0] 29)) w.heap.size 29 (ftcW 0 0) ∧ Below w.heap.size w (w.alloc (.cells #[.int .u8 0, .int .u32 0] 29)) ∧ (w.alloc (.cells #[.int .u8 0, .int .u32 0] 29)).heap.size = w.heap.size + 1 := by
  refine ⟨by rw [ftzW]; exact Row.new w _ _, (Below.refl _ _).alloc (Nat.le_refl _) _, by simp⟩
theorem one_faultW (w : World) (s c : Nat) : ∃ w', (w.alloc (.cells #[.int .u8 0, .int .u32 0] 29)).setRow w.heap.size (ftcW s c) = w' ∧ Row (w.alloc (.cells #[.int .u8 0, .int .u32 0] 29)) w.heap.size 29 (ftcW 0 0) ∧ Row w' w.heap.size 29 (ftcW s c) ∧ Below w.heap.size w w' := by
  have h1 : Row (w.alloc (.cells #[.int .u8 0, .int .u32 0] 29)) w.heap.size 29 (ftcW 0 0) := by rw [ftzW]; exact Row.new w _ _
  exact ⟨_, rfl, h1, h1.setRow _, below_setRow ((Below.refl _ _).alloc (Nat.le_refl _) _) _ _ (by omega)⟩
end Go.Proofs.YtooaajnkiokpnaaGreatDoor

namespace Go.Proofs.YtooaajnkiokpnaaGreatDoor
open Go.RowKit Go.WideShapes

set_option maxRecDepth 100000 in
set_option maxHeartbeats 1000000 in
theorem wint_any (w : World) : Calls Tryz.prog 152 #[] w fun e w' => e = .returned (.agg (ftcW 1 2)) ∧ Below w.heap.size w w' := by
  have HR : Hid (Row (w.alloc (.cells #[.int .u8 0, .int .u32 0] 29)) w.heap.size 29 (ftcW 0 0)) := Row.new w _ _
  go_enter Tryz.func152, Tryz.ntmps152
  go_wp2_with (first | (refine wpList_build_is rfl 29 _ rfl (ftcW 1 2) (by kernel_rfl) ?_) | (refine wpList_sw (cs := ftcW 1 2) rfl _ _ rfl rfl rfl HR.out rfl (ft_okW _ _) ?_))
  exact bodyPost_ret (ret_ag rfl _ rfl (HR.out.setRow _) (ft_okW _ _)) rfl ⟨rfl, below_setRow ((Below.refl _ _).alloc (Nat.le_refl _) _) _ _ (Nat.le_refl _)⟩
set_option maxRecDepth 100000 in
theorem left_nil (w : World) : Calls Tryz.prog 154 #[.pointer none] w fun e w' => e = .returned (.int .i64 0) ∧ w' = w := by
  go_enter Tryz.func154, Tryz.ntmps154
  go_wp2
  go_ret
  exact ⟨rfl, rfl⟩
set_option maxRecDepth 100000 in
theorem left_any {w : World} {g : Nat} {l : Int} {s : Nat} (h : Row w g 160 (wnc l s)) : Calls Tryz.prog 154 #[.pointer (some ⟨g, 0, none⟩)] w fun e w' => e = .returned (.int .i64 l) ∧ w' = w := by
  obtain ⟨c0, c1⟩ := wn_cells h
  clear h
  go_enter Tryz.func154, Tryz.ntmps154
  go_wp2
  go_ret
  exact ⟨rfl, rfl⟩
theorem btw_mm (l : Int) : min (max l (-2147483648)) 2147483647 = btw l := by unfold btw; omega
theorem one_win (w : World) (l : Int) : ∃ w', w.alloc (.cells #[.int .i64 l, .int .u8 1] 160) = w' ∧ Row w' w.heap.size 160 (wnc l 1) ∧ Below w.heap.size w w' :=
  ⟨_, rfl, Row.new w _ _, (Below.refl _ _).alloc (Nat.le_refl _) _⟩
attribute [local irreducible] wnc rwc mtc rmc ftcW btw
set_option maxRecDepth 100000 in
set_option maxHeartbeats 1000000 in
theorem wnew_any (l : Int) (b : Bool) (w : World) : Calls Tryz.prog 88 #[.int .i64 l, .bool b] w fun e w' => ∃ g, e = .returned (.pointer (some ⟨g, 0, none⟩)) ∧ Row w' g 160 (wnc (btw l) (sco b)) ∧ Below w.heap.size w w' ∧ w.heap.size ≤ g := by
  have hm := btw_mm l
  obtain ⟨w1, hw1, t2, t3⟩ := one_win w (btw l)
  have T2 := Lib.hid t2
  have T3 := Lib.hid t3
  have T7 := Lib.hid hw1
  have HS := Lib.hid (wn_sets (s' := 2) t2)
  have hth := t2.thawed 1
  have hc1 := (wn_cells t2).2
  clear t2 t3 hw1
  cases b
  all_goals
    go_enter Tryz.func88, Tryz.ntmps88
    go_upto_region 2 with fail
    rw [T7.out]
    go_wp2_with fail
    go_ret
  · exact ⟨w.heap.size, rfl, T2.out, T3.out, Nat.le_refl _⟩
  · exact ⟨w.heap.size, rfl, HS.out, T3.out.setCell (Nat.le_refl _) _, Nat.le_refl _⟩
end Go.Proofs.YtooaajnkiokpnaaGreatDoor

namespace Go.Proofs.YtooaajnkiokpnaaGreatDoor
open Go.RowKit Go.WideShapes

/-- What may be taken is taken. -/
def mayT (l n : Int) : Prop := 0 ≤ n ∧ n ≤ max l 0
attribute [local irreducible] wnc rwc mtc rmc ftcW btw
set_option maxRecDepth 100000 in
theorem take_nil (n : Int) (w : World) : Calls Tryz.prog 155 #[.pointer none, .int .i64 n] w fun e w' => e = .returned (.bool false) ∧ w' = w := by
  go_enter Tryz.func155, Tryz.ntmps155
  go_wp2
  go_ret
  exact ⟨rfl, rfl⟩
end Go.Proofs.YtooaajnkiokpnaaGreatDoor

namespace Go.Proofs.YtooaajnkiokpnaaGreatDoor
open Go.RowKit Go.WideShapes

theorem row_new0 (w : World) : Hid (Row (w.alloc (.cells #[.int .u8 0, .int .u32 0] 29)) w.heap.size 29 (ftcW 0 0)) := (fault_varW w).1
theorem bel_new0 (w : World) : Hid (Below w.heap.size w (w.alloc (.cells #[.int .u8 0, .int .u32 0] 29))) := (fault_varW w).2.1
attribute [local irreducible] wnc rwc mtc rmc btw
set_option maxRecDepth 100000 in
theorem grow_nil (n : Int) (w : World) : Calls Tryz.prog 117 #[.pointer none, .int .u32 n] w fun e w' => e = .returned (.agg (ftcW 1 2)) ∧ Below w.heap.size w w' := by
  have HR := row_new0 w
  have HB := bel_new0 w
  go_enter Tryz.func117, Tryz.ntmps117
  go_wp2_with fail
  refine (wint_any _).mono ?_
  rintro e w1 ⟨rfl, hb⟩
  have HR2 := Lib.hid (HR.out.below hb HR.out.lt)
  have HB2 := Lib.hid (HB.out.trans (hb.mono HB.out.size))
  clear hb HR HB
  go_wp2_with (refine wpList_sw (cs := ftcW 1 2) rfl _ _ rfl rfl rfl HR2.out (ft_szW _ _ _ _) (ft_okW _ _) ?_)
  exact bodyPost_ret (ret_ag rfl _ rfl (HR2.out.setRow _) (ft_okW _ _)) rfl ⟨rfl, below_setRow HB2.out _ _ (Nat.le_refl _)⟩
set_option maxRecDepth 100000 in
theorem shift_nil (n m : Int) (w : World) : Calls Tryz.prog 169 #[.pointer none, .int .u32 n, .int .u32 m] w fun e w' => e = .returned (.agg (ftcW 1 2)) ∧ Below w.heap.size w w' := by
  have HR := row_new0 w
  have HB := bel_new0 w
  go_enter Tryz.func169, Tryz.ntmps169
  go_wp2_with fail
  refine (wint_any _).mono ?_
  rintro e w1 ⟨rfl, hb⟩
  have HR2 := Lib.hid (HR.out.below hb HR.out.lt)
  have HB2 := Lib.hid (HB.out.trans (hb.mono HB.out.size))
  clear hb HR HB
  go_wp2_with (refine wpList_sw (cs := ftcW 1 2) rfl _ _ rfl rfl rfl HR2.out (ft_szW _ _ _ _) (ft_okW _ _) ?_)
  exact bodyPost_ret (ret_ag rfl _ rfl (HR2.out.setRow _) (ft_okW _ _)) rfl ⟨rfl, below_setRow HB2.out _ _ (Nat.le_refl _)⟩
end Go.Proofs.YtooaajnkiokpnaaGreatDoor

namespace Go.Proofs.YtooaajnkiokpnaaGreatDoor
open Go.RowKit Go.WideShapes

/-- A meter: its window and what is untold are no more than its size. -/
structure MtOk (z l u : Int) : Prop where
  l0 : 0 ≤ l
  u0 : 0 ≤ u
  le : l + u ≤ z
  zz : z ≤ 2147483647
attribute [local irreducible] wnc rwc mtc rmc btw
set_option maxRecDepth 100000 in
theorem mowed_nil (w : World) : Calls Tryz.prog 75 #[.pointer none] w fun e w' => e = .returned (.int .i64 0) ∧ w' = w := by
  go_enter Tryz.func75, Tryz.ntmps75
  go_wp2
  go_ret
  exact ⟨rfl, rfl⟩
set_option maxRecDepth 100000 in
theorem mowed_any {w : World} {g : Nat} {z l u : Int} {s : Nat} (h : Row w g 162 (mtc z l s u)) (hk : MtOk z l u) : Calls Tryz.prog 75 #[.pointer (some ⟨g, 0, none⟩)] w fun e w' => e = .returned (.int .i64 (z - l - u)) ∧ Below w.heap.size w w' := by
  obtain ⟨c0, c1, _, c3⟩ := mt_cells h
  obtain ⟨k1, k2, k3, k4⟩ := hk
  have hw : IntKind.i64.wrap (z - l) = z - l := IntWalk.i64_in _ (by omega)
  have hw2 : IntKind.i64.wrap (z - l - u) = z - l - u := IntWalk.i64_in _ (by omega)
  clear h k1 k2 k3 k4
  go_enter Tryz.func75, Tryz.ntmps75
  go_wp2_with fail
  go_quiet (fail)
  go_wp2_with fail
  go_ret
  exact ⟨rfl, below_dN (Below.refl _ _) _⟩
set_option maxRecDepth 100000 in
theorem come_nil (n : Int) (w : World) : Calls Tryz.prog 134 #[.pointer none, .int .i64 n] w fun e w' => e = .returned (.agg (ftcW 1 2)) ∧ Below w.heap.size w w' := by
  have HR := row_new0 w
  have HB := bel_new0 w
  go_enter Tryz.func134, Tryz.ntmps134
  go_wp2_with fail
  refine (wint_any _).mono ?_
  rintro e w1 ⟨rfl, hb⟩
  have HR2 := Lib.hid (HR.out.below hb HR.out.lt)
  have HB2 := Lib.hid (HB.out.trans (hb.mono HB.out.size))
  clear hb HR HB
  go_wp2_with (refine wpList_sw (cs := ftcW 1 2) rfl _ _ rfl rfl rfl HR2.out (ft_szW _ _ _ _) (ft_okW _ _) ?_)
  exact bodyPost_ret (ret_ag rfl _ rfl (HR2.out.setRow _) (ft_okW _ _)) rfl ⟨rfl, below_setRow HB2.out _ _ (Nat.le_refl _)⟩
set_option maxRecDepth 100000 in
theorem use_nil (n : Int) (w : World) : Calls Tryz.prog 77 #[.pointer none, .int .i64 n] w fun e w' => e = .returned (.int .u32 0) ∧ w' = w := by
  go_enter Tryz.func77, Tryz.ntmps77
  go_wp2
  go_ret
  exact ⟨rfl, rfl⟩
end Go.Proofs.YtooaajnkiokpnaaGreatDoor

namespace Go.Proofs.YtooaajnkiokpnaaGreatDoor
open Go.RowKit Go.WideShapes

attribute [local irreducible] btw
set_option maxRecDepth 100000 in
set_option maxHeartbeats 1000000 in
theorem mof_any {n : Int} (hn : 0 ≤ n ∧ n ≤ 4294967295) (b : Bool) (w : World) : Calls Tryz.prog 55 #[.int .u32 n, .bool b] w fun e w' => ∃ g, e = .returned (.pointer (some ⟨g, 0, none⟩)) ∧ Row w' g 162 (mtc (btw n) (btw n) (sco b) 0) ∧ Below w.heap.size w w' ∧ w.heap.size ≤ g := by
  have hw : IntKind.i64.wrap n = n := IntWalk.i64_in _ (by omega)
  clear hn
  go_enter Tryz.func55, Tryz.ntmps55
  go_wp2_with fail
  refine (wnew_any n b _).mono ?_
  rintro e w1 ⟨g, rfl, hr, hb, hg⟩
  obtain ⟨c0, c1⟩ := wn_cells hr
  have HB := Lib.hid hb
  clear hr hb hg
  go_wp2_with fail
  go_region
  go_wp2_with fail
  go_ret
  exact ⟨w1.heap.size, rfl, by show Row _ _ _ _; exact Row.new w1 _ _, below_dN (HB.out.alloc HB.out.size _) 1, HB.out.size⟩
attribute [local irreducible] rmc
end Go.Proofs.YtooaajnkiokpnaaGreatDoor
