/-
  The keys of the program's map: a code by its number and its bits. Conditions: those that each theorem names.
-/
import Derived.Test.YtfajffchnnalaaaHcodes
import Derived.Maps.Own
import Derived.Maps.Views
import Derived.Maps.OwnSet
import Derived.DeepKeys4
import Derived.MapViews
namespace Go.Proofs.Ytfajffchnnalaaa
open Go.RowKit Go.WideShapes Go.Maps

set_option maxRecDepth 100000 in
theorem laidOutK : laidOutB Try.prog = true := by kernel_rfl
set_option maxRecDepth 100000 in
theorem rowCode : (127 : TypeId) < Try.prog.types.size := of_decide_eq_true (by kernel_rfl)
set_option maxRecDepth 100000 in
theorem wideCode : (match Try.prog.underlying 127 with | some (.array _ _) | some (.struct _) => true | _ => false) = true := by rw [Try.underlying127]
set_option maxRecDepth 100000 in
theorem lawCode : WideMaps.KeyLaw Try.prog 127 := deep_law_laid laidOutK (m := 2) (by omega) rowCode (by kernel_rfl) wideCode
set_option maxRecDepth 100000 in
theorem keyedCode : Keyed Try.prog 127 := Keyed.of_law lawCode
set_option maxRecDepth 100000 in
theorem keyTypeCode : Try.prog.keyType 127 = true := by kernel_rfl
set_option maxRecDepth 100000 in
theorem cellsCode : Try.prog.cellsOf 127 = 2 := by kernel_rfl
set_option maxRecDepth 100000 in
theorem cellsU32 : Try.prog.cellsOf 22 = 1 := by kernel_rfl
set_option maxRecDepth 100000 in
theorem cellsI64 : Try.prog.cellsOf 3 = 1 := by kernel_rfl
set_option maxRecDepth 100000 in
theorem typesSize : Try.prog.types.size = 153 := by kernel_rfl

set_option maxRecDepth 100000 in
theorem keyLits_two {P : Program} {k : TypeId} {f0 f1 : Field} {q0 q1 : IntKind} (hu : P.underlying k = some (.struct #[f0, f1])) (hc : P.cellsOf k = 2) (n0 : (f0.name != "_") = true) (n1 : (f1.name != "_") = true) (o0 : f0.offset = 0) (o1 : f1.offset = 1)
    (h0 : P.underlying f0.type = some (.int q0)) (h1 : P.underlying f1.type = some (.int q1)) (c0 : P.cellsOf f0.type = 1) (c1 : P.cellsOf f1.type = 1) {a b : Int} (wa : (Lit.int q0 a).wf = true) (wb : (Lit.int q1 b).wf = true) (d : Nat) :
    P.keyLits (d + 2) k [.int q0 a, .int q1 b] = some [.int q0 a, .int q1 b] := by
  have e0 : P.keyLits (d + 1) f0.type [.int q0 a] = some [.int q0 a] := by
    unfold Program.keyLits
    simp [h0, wa]
  have e1 : P.keyLits (d + 1) f1.type [.int q1 b] = some [.int q1 b] := by
    unfold Program.keyLits
    simp [h1, wb]
  rw [show d + 2 = (d + 1) + 1 from rfl]
  unfold Program.keyLits
  simp [hu, hc, n0, n1, o0, o1, c0, c1, e0, e1]
set_option maxRecDepth 100000 in
theorem key_some {x n : Nat} (hx : x < 4294967296) (hn : n < 9223372036854775808) : ∃ l, keyOf Try.prog 127 (.agg #[.int .u32 (x : Int), .int .i64 (n : Int)]) = some l := by
  have w1 : (Lit.int .u32 (x : Int)).wf = true := by
    have h1 : IntKind.u32.min = 0 := rfl
    have h2 : IntKind.u32.max = 4294967295 := rfl
    simp only [Lit.wf, Bool.and_eq_true, decide_eq_true_eq]
    omega
  have w2 : (Lit.int .i64 (n : Int)).wf = true := by
    have h1 : IntKind.i64.min = -9223372036854775808 := rfl
    have h2 : IntKind.i64.max = 9223372036854775807 := rfl
    simp only [Lit.wf, Bool.and_eq_true, decide_eq_true_eq]
    omega
  have hf : (Value.agg #[.int .u32 (x : Int), .int .i64 (n : Int)]).formed Try.prog 127 = true := by simp [Value.formed, Try.underlying127, cellsCode]
  unfold keyOf
  rw [Try.underlying127]
  simp only [keyTypeCode, hf, Bool.and_self, if_true]
  rw [typesSize]
  have h := keyLits_two (P := Try.prog) Try.underlying127 cellsCode rfl rfl rfl rfl Try.underlying22 Try.underlying3 cellsU32 cellsI64 w1 w2 (153 - 1)
  rw [show 153 - 1 + 2 = 153 + 1 from rfl] at h
  show ∃ l, (Try.prog.keyLits (153 + 1) 127 [.int .u32 (x : Int), .int .i64 (n : Int)]).map _ = some l
  rw [h]
  exact ⟨_, rfl⟩
/-- The key that a code is. -/
noncomputable def kL (x n : Nat) : Lit := (keyOf Try.prog 127 (.agg #[.int .u32 (x : Int), .int .i64 (n : Int)])).getD (.bool false)
set_option maxRecDepth 100000 in
theorem kL_is {x n : Nat} (hx : x < 4294967296) (hn : n < 9223372036854775808) : keyOf Try.prog 127 (.agg #[.int .u32 (x : Int), .int .i64 (n : Int)]) = some (kL x n) := by
  obtain ⟨l, hl⟩ := key_some hx hn
  unfold kL
  rw [hl]
  rfl
set_option maxRecDepth 100000 in
theorem kL_inj {x n x' n' : Nat} (hx : x < 4294967296) (hn : n < 9223372036854775808) (hx' : x' < 4294967296) (hn' : n' < 9223372036854775808) (h : kL x n = kL x' n') : x = x' ∧ n = n' := by
  have h1 := kL_is hx hn
  have h2 := kL_is hx' hn'
  rw [← h] at h2
  have e := keyOf_inj_deep (m := 2) (by kernel_rfl) wideCode h1 h2
  simp only [Value.agg.injEq, Array.mk.injEq, List.cons.injEq, Value.int.injEq] at e
  omega

/-- What the map holds behind so many signs. -/
noncomputable def mapD : Nat → DataW Unit
  | 0 => .map []
  | k + 1 => (mapD k).put (kL (cd k) (ln k)) (.lit (.int .i64 (k : Int)))
set_option maxRecDepth 100000 in
theorem mapD_is (k : Nat) : IsMap (mapD k) := by
  induction k with
  | zero => exact isMap_empty
  | succ k ih => exact ih.put _ _
set_option maxRecDepth 100000 in
theorem cd_apart {i j : Nat} (hi : i < 257) (hj : j < 257) (hc : cd i = cd j) (hl : ln i = ln j) : i = j := by
  have key : ∀ {i j : Nat}, i < 257 → j < 257 → ln i = ln j → i < j → cd i < cd j := by
    intro i j hi hj hl hlt
    unfold cd
    rw [← hl]
    have h1 := cnt_next hi (ln i)
    rw [if_pos rfl] at h1
    have h2 : (lens.take (i + 1)).count (ln i) ≤ (lens.take j).count (ln i) := by
      have : lens.take (i + 1) = (lens.take j).take (i + 1) := by rw [List.take_take]; congr 1; omega
      rw [this]
      exact (List.take_sublist _ _).count_le _
    omega
  rcases Nat.lt_trichotomy i j with h | h | h
  · have := key hi hj hl h; omega
  · exact h
  · have := key hj hi hl.symm h; omega
set_option maxRecDepth 100000 in
theorem cd_u32 {i : Nat} (hi : i < 257) : cd i < 4294967296 := by have := cd_bd hi; omega
set_option maxRecDepth 100000 in
theorem ln_i64 {i : Nat} (hi : i < 257) : ln i < 9223372036854775808 := by have := ln_all i hi; omega
set_option maxRecDepth 100000 in
set_option maxRecDepth 100000 in
theorem mapD_no {x n : Nat} (hx : x < 4294967296) (hn : n < 9223372036854775808) : ∀ k, k ≤ 257 → (∀ i, i < k → ¬ (cd i = x ∧ ln i = n)) → has (mapD k) (kL x n) = false
  | 0, _, _ => rfl
  | k + 1, hk, h => by
    have hne : kL x n ≠ kL (cd k) (ln k) := fun e => by
      obtain ⟨e1, e2⟩ := kL_inj hx hn (cd_u32 (by omega)) (ln_i64 (by omega)) e
      exact h k (by omega) ⟨e1.symm, e2.symm⟩
    rw [mapD, has_put_other hne]
    exact mapD_no hx hn k (by omega) fun i hi => h i (by omega)
set_option maxRecDepth 100000 in
theorem kL_key {x n : Nat} (hx : x < 4294967296) (hn : n < 9223372036854775808) : WideAt.IsKeyLit (kL x n) := keyedCode.key (kL_is hx hn)
set_option maxRecDepth 100000 in
theorem mapD_yes {i : Nat} (hi : i < 257) (z : DataW Unit) : ∀ k, k ≤ 257 → i < k → has (mapD k) (kL (cd i) (ln i)) = true ∧ (mapD k).atKey (kL (cd i) (ln i)) z = .lit (.int .i64 (i : Int))
  | 0, _, h => by omega
  | k + 1, hk, h => by
    by_cases e : i = k
    · subst e
      rw [mapD]
      exact ⟨has_put_same (mapD_is _) (kL_key (cd_u32 hi) (ln_i64 hi)) _, atKey_put_same (mapD_is _) (kL_key (cd_u32 hi) (ln_i64 hi)) _ _⟩
    · have hne : kL (cd i) (ln i) ≠ kL (cd k) (ln k) := fun h0 => by
        obtain ⟨e1, e2⟩ := kL_inj (cd_u32 hi) (ln_i64 hi) (cd_u32 (show k < 257 by omega)) (ln_i64 (show k < 257 by omega)) h0
        exact e (cd_apart hi (by omega) e1 e2)
      rw [mapD, has_put_other hne, atKey_put_other hne]
      exact mapD_yes hi z k (by omega) (by omega)

/-- Block g is the map of the first k signs. -/
def MapAt (w : World) (g k : Nat) : Prop := w.ownsMap Try.prog 127 (plainElem Try.prog 3) g k (mapD k)
section
variable {w w' : World} {g k B : Nat}
set_option maxRecDepth 100000 in
theorem MapAt.lt (h : MapAt w g k) : g < w.heap.size := World.ownsMap.lt h
set_option maxRecDepth 100000 in
theorem MapAt.below (h : MapAt w g k) (hb : Below B w w') (hg : g < B) : MapAt w' g k := by
  obtain ⟨es, clock, hk, F, hs, hD⟩ := h
  exact ⟨es, clock, (hb.block g hg).trans hk, F, hs, hD⟩
set_option maxRecDepth 100000 in
theorem MapAt.setCell (h : MapAt w g k) {a : Addr} (hne : g ≠ a.block) (v : Value) : MapAt (w.setCell a v) g k := by
  obtain ⟨es, clock, hk, F, hs, hD⟩ := h
  exact ⟨es, clock, (heap_setCell_other w a g v hne).trans hk, F, hs, hD⟩
set_option maxRecDepth 100000 in
theorem MapAt.alloc (h : MapAt w g k) (o : Obj) : MapAt (w.alloc o) g k := World.ownsMap.alloc h o
end
set_option maxRecDepth 100000 in
theorem zeroI64 (w : World) : (zeroValue 3).run Try.prog w = .ok (.int .i64 0) w := by
  cases hi : Try.prog.info? 3 with
  | none => have := i64_info; rw [hi] at this; simp at this
  | some i =>
    have hz : i.zero = some (.int .i64 0) := by have := i64_info; rw [hi] at this; simp at this; exact this.1
    simp [zeroValue, typeInfo, hi, hz]
set_option maxRecDepth 100000 in
theorem look_yes {w : World} {g i : Nat} (h : MapAt w g 257) (hi : i < 257) : (Instr.lookup 131 (.map (some g)) (.agg #[.int .u32 (cd i : Int), .int .i64 (ln i : Int)]) true).run Try.prog w = .ok (.tuple #[.int .i64 (i : Int), .bool true]) w := by
  obtain ⟨v, ps, hrun, hv⟩ := World.ownsMap.look_ok h keyedCode Try.underlying131 (zeroI64 w) (plainElem_int Try.underlying3 (a := 0) (by decide)) (kL_is (cd_u32 hi) (ln_i64 hi))
  obtain ⟨h1, h2⟩ := mapD_yes hi (.lit (.int .i64 0)) 257 (Nat.le_refl _) hi
  rw [h2] at hv
  rw [h1] at hrun
  obtain ⟨c, rfl, hc, _⟩ := plainElem_int_inv Try.underlying3 hv
  have : (i : Int) = c := by have := congrArg Prod.fst hc; simpa using this
  subst this
  exact hrun
set_option maxRecDepth 100000 in
theorem look_no {w : World} {g x n : Nat} (h : MapAt w g 257) (hx : x < 4294967296) (hn : n < 9223372036854775808) (hno : ∀ i, i < 257 → ¬ (cd i = x ∧ ln i = n)) : (Instr.lookup 131 (.map (some g)) (.agg #[.int .u32 (x : Int), .int .i64 (n : Int)]) true).run Try.prog w = .ok (.tuple #[.int .i64 0, .bool false]) w := by
  obtain ⟨v, ps, hrun, hv⟩ := World.ownsMap.look_ok h keyedCode Try.underlying131 (zeroI64 w) (plainElem_int Try.underlying3 (a := 0) (by decide)) (kL_is hx hn)
  have h1 := mapD_no hx hn 257 (Nat.le_refl _) hno
  rw [atKey_of_not_has h1] at hv
  rw [h1] at hrun
  obtain ⟨c, rfl, hc, _⟩ := plainElem_int_inv Try.underlying3 hv
  have : (0 : Int) = c := by have := congrArg Prod.fst hc; simpa using this
  subst this
  exact hrun
end Go.Proofs.Ytfajffchnnalaaa
