/-
  The program's fields, by its contract: an array by value of all of them.
-/
import Derived.Test.YtfajffchnnalaaaProg
import Derived.Test.YtfajffchnnalaaaArr
import Derived.Test.YtfajffchnnalaaaStab
import Derived.Great.BuildSlice
import Derived.Deep.Cut
namespace Go.Proofs.Ytfajffchnnalaaa
open Go.RowKit Go.WideShapes

def tx (l : List UInt8) : Value := .string ⟨l.toArray⟩
/-- The cells of all fields: three for each. -/
def fldF (j : Nat) : Value := match j % 3 with
  | 0 => tx (nmL (j / 3))
  | 1 => tx (vlL (j / 3))
  | _ => .bool false
def fldC : Array Value := rowF 183 fldF
def one (k : Nat) : Array Value := #[tx (nmL k), tx (vlL k), .bool false]
def fld0 : Array Value := rowF 183 fun j => match j % 3 with
  | 2 => .bool false
  | _ => .string ⟨#[]⟩
theorem fields_info : (Try.prog.info? 113).map (fun i => (i.zero, i.size)) = some (some (.agg fld0), 183) := by kernel_rfl
theorem fldC_size : fldC.size = 183 := by kernel_rfl
theorem fldC_one : fldC.all (·.oneCell') = true := by kernel_rfl
theorem fldC_part {k : Nat} (h : k < 61) : fldC.extract (k * 3) (k * 3 + 3) = one k := by
  apply Array.ext_getElem?
  intro i
  rw [Array.getElem?_extract, fldC_size]
  unfold fldC one
  match i with
  | 0 =>
    rw [if_pos (by omega), rowF_at _ (by omega)]
    unfold fldF
    rw [show (k * 3 + 0) % 3 = 0 by omega, show (k * 3 + 0) / 3 = k by omega]
    rfl
  | 1 =>
    rw [if_pos (by omega), rowF_at _ (by omega)]
    unfold fldF
    rw [show (k * 3 + 1) % 3 = 1 by omega, show (k * 3 + 1) / 3 = k by omega]
    rfl
  | 2 =>
    rw [if_pos (by omega), rowF_at _ (by omega)]
    unfold fldF
    rw [show (k * 3 + 2) % 3 = 2 by omega]
    rfl
  | i + 3 => rw [if_neg (by omega)]; rfl

attribute [local irreducible] wpList Code.wp one fldC

set_option maxHeartbeats 4000000 in
set_option maxRecDepth 100000 in
theorem fields_any (w : World) : Calls Try.prog 70 #[] w fun e w' => e = .returned (.agg fldC) ∧ Below w.heap.size w w' := by
  obtain ⟨hz, hsz⟩ := zero_of_info fields_info
  have hsz' : (Try.prog.info? 113).map (·.size) = some fldC.size := by rw [fldC_size]; exact hsz
  go_enter Try.func70, Try.ntmps70
  go_upto_region 1 with fail
  rename_i K hK
  apply wp_region_lit
  refine wpList_buildTo rfl 52 _ rfl (some 1) rfl (one 0) (by as_aux_lemma => kernel_rfl) ?_
  refine wpList_buildTo rfl 52 _ rfl (some 2) rfl (one 1) (by as_aux_lemma => kernel_rfl) ?_
  refine wpList_buildTo rfl 52 _ rfl (some 3) rfl (one 2) (by as_aux_lemma => kernel_rfl) ?_
  refine wpList_buildTo rfl 52 _ rfl (some 4) rfl (one 3) (by as_aux_lemma => kernel_rfl) ?_
  refine wpList_buildTo rfl 52 _ rfl (some 5) rfl (one 4) (by as_aux_lemma => kernel_rfl) ?_
  refine wpList_buildTo rfl 52 _ rfl (some 6) rfl (one 5) (by as_aux_lemma => kernel_rfl) ?_
  refine wpList_buildTo rfl 52 _ rfl (some 7) rfl (one 6) (by as_aux_lemma => kernel_rfl) ?_
  refine wpList_buildTo rfl 52 _ rfl (some 8) rfl (one 7) (by as_aux_lemma => kernel_rfl) ?_
  refine wpList_buildTo rfl 52 _ rfl (some 9) rfl (one 8) (by as_aux_lemma => kernel_rfl) ?_
  refine wpList_buildTo rfl 52 _ rfl (some 10) rfl (one 9) (by as_aux_lemma => kernel_rfl) ?_
  refine wpList_buildTo rfl 52 _ rfl (some 11) rfl (one 10) (by as_aux_lemma => kernel_rfl) ?_
  refine wpList_buildTo rfl 52 _ rfl (some 12) rfl (one 11) (by as_aux_lemma => kernel_rfl) ?_
  refine wpList_buildTo rfl 52 _ rfl (some 13) rfl (one 12) (by as_aux_lemma => kernel_rfl) ?_
  refine wpList_buildTo rfl 52 _ rfl (some 14) rfl (one 13) (by as_aux_lemma => kernel_rfl) ?_
  refine wpList_buildTo rfl 52 _ rfl (some 15) rfl (one 14) (by as_aux_lemma => kernel_rfl) ?_
  refine wpList_buildTo rfl 52 _ rfl (some 16) rfl (one 15) (by as_aux_lemma => kernel_rfl) ?_
  refine wpList_buildTo rfl 52 _ rfl (some 17) rfl (one 16) (by as_aux_lemma => kernel_rfl) ?_
  refine wpList_buildTo rfl 52 _ rfl (some 18) rfl (one 17) (by as_aux_lemma => kernel_rfl) ?_
  refine wpList_buildTo rfl 52 _ rfl (some 19) rfl (one 18) (by as_aux_lemma => kernel_rfl) ?_
  refine wpList_buildTo rfl 52 _ rfl (some 20) rfl (one 19) (by as_aux_lemma => kernel_rfl) ?_
  refine wpList_buildTo rfl 52 _ rfl (some 21) rfl (one 20) (by as_aux_lemma => kernel_rfl) ?_
  refine wpList_buildTo rfl 52 _ rfl (some 22) rfl (one 21) (by as_aux_lemma => kernel_rfl) ?_
  refine wpList_buildTo rfl 52 _ rfl (some 23) rfl (one 22) (by as_aux_lemma => kernel_rfl) ?_
  refine wpList_buildTo rfl 52 _ rfl (some 24) rfl (one 23) (by as_aux_lemma => kernel_rfl) ?_
  refine wpList_buildTo rfl 52 _ rfl (some 25) rfl (one 24) (by as_aux_lemma => kernel_rfl) ?_
  refine wpList_buildTo rfl 52 _ rfl (some 26) rfl (one 25) (by as_aux_lemma => kernel_rfl) ?_
  refine wpList_buildTo rfl 52 _ rfl (some 27) rfl (one 26) (by as_aux_lemma => kernel_rfl) ?_
  refine wpList_buildTo rfl 52 _ rfl (some 28) rfl (one 27) (by as_aux_lemma => kernel_rfl) ?_
  refine wpList_buildTo rfl 52 _ rfl (some 29) rfl (one 28) (by as_aux_lemma => kernel_rfl) ?_
  refine wpList_buildTo rfl 52 _ rfl (some 30) rfl (one 29) (by as_aux_lemma => kernel_rfl) ?_
  refine wpList_buildTo rfl 52 _ rfl (some 31) rfl (one 30) (by as_aux_lemma => kernel_rfl) ?_
  refine wpList_buildTo rfl 52 _ rfl (some 32) rfl (one 31) (by as_aux_lemma => kernel_rfl) ?_
  refine wpList_buildTo rfl 52 _ rfl (some 33) rfl (one 32) (by as_aux_lemma => kernel_rfl) ?_
  refine wpList_buildTo rfl 52 _ rfl (some 34) rfl (one 33) (by as_aux_lemma => kernel_rfl) ?_
  refine wpList_buildTo rfl 52 _ rfl (some 35) rfl (one 34) (by as_aux_lemma => kernel_rfl) ?_
  refine wpList_buildTo rfl 52 _ rfl (some 36) rfl (one 35) (by as_aux_lemma => kernel_rfl) ?_
  refine wpList_buildTo rfl 52 _ rfl (some 37) rfl (one 36) (by as_aux_lemma => kernel_rfl) ?_
  refine wpList_buildTo rfl 52 _ rfl (some 38) rfl (one 37) (by as_aux_lemma => kernel_rfl) ?_
  refine wpList_buildTo rfl 52 _ rfl (some 39) rfl (one 38) (by as_aux_lemma => kernel_rfl) ?_
  refine wpList_buildTo rfl 52 _ rfl (some 40) rfl (one 39) (by as_aux_lemma => kernel_rfl) ?_
  refine wpList_buildTo rfl 52 _ rfl (some 41) rfl (one 40) (by as_aux_lemma => kernel_rfl) ?_
  refine wpList_buildTo rfl 52 _ rfl (some 42) rfl (one 41) (by as_aux_lemma => kernel_rfl) ?_
  refine wpList_buildTo rfl 52 _ rfl (some 43) rfl (one 42) (by as_aux_lemma => kernel_rfl) ?_
  refine wpList_buildTo rfl 52 _ rfl (some 44) rfl (one 43) (by as_aux_lemma => kernel_rfl) ?_
  refine wpList_buildTo rfl 52 _ rfl (some 45) rfl (one 44) (by as_aux_lemma => kernel_rfl) ?_
  refine wpList_buildTo rfl 52 _ rfl (some 46) rfl (one 45) (by as_aux_lemma => kernel_rfl) ?_
  refine wpList_buildTo rfl 52 _ rfl (some 47) rfl (one 46) (by as_aux_lemma => kernel_rfl) ?_
  refine wpList_buildTo rfl 52 _ rfl (some 48) rfl (one 47) (by as_aux_lemma => kernel_rfl) ?_
  refine wpList_buildTo rfl 52 _ rfl (some 49) rfl (one 48) (by as_aux_lemma => kernel_rfl) ?_
  refine wpList_buildTo rfl 52 _ rfl (some 50) rfl (one 49) (by as_aux_lemma => kernel_rfl) ?_
  refine wpList_buildTo rfl 52 _ rfl (some 51) rfl (one 50) (by as_aux_lemma => kernel_rfl) ?_
  refine wpList_buildTo rfl 52 _ rfl (some 52) rfl (one 51) (by as_aux_lemma => kernel_rfl) ?_
  refine wpList_buildTo rfl 52 _ rfl (some 53) rfl (one 52) (by as_aux_lemma => kernel_rfl) ?_
  refine wpList_buildTo rfl 52 _ rfl (some 54) rfl (one 53) (by as_aux_lemma => kernel_rfl) ?_
  refine wpList_buildTo rfl 52 _ rfl (some 55) rfl (one 54) (by as_aux_lemma => kernel_rfl) ?_
  refine wpList_buildTo rfl 52 _ rfl (some 56) rfl (one 55) (by as_aux_lemma => kernel_rfl) ?_
  refine wpList_buildTo rfl 52 _ rfl (some 57) rfl (one 56) (by as_aux_lemma => kernel_rfl) ?_
  refine wpList_buildTo rfl 52 _ rfl (some 58) rfl (one 57) (by as_aux_lemma => kernel_rfl) ?_
  refine wpList_buildTo rfl 52 _ rfl (some 59) rfl (one 58) (by as_aux_lemma => kernel_rfl) ?_
  refine wpList_buildTo rfl 52 _ rfl (some 60) rfl (one 59) (by as_aux_lemma => kernel_rfl) ?_
  refine wpList_buildTo rfl 52 _ rfl (some 61) rfl (one 60) (by as_aux_lemma => kernel_rfl) ?_
  refine wpList_buildTo rfl 113 _ rfl (some 62) rfl fldC (by as_aux_lemma => kernel_rfl) ?_
  refine wpList_store_rowTo rfl 113 (.tmp 0) (.tmp 62) rfl rfl w.heap.size fldC (by kernel_rfl) (by kernel_rfl) 113 fld0 (heap_alloc_last w _) hsz' (by kernel_rfl) fldC_one ?_
  apply wpList_nil
  refine hK _ _ ?_
  clear hK K
  apply wp_ret
  refine bodyPost_ret (v := .agg fldC) (results_cell_row rfl _ _ w.heap.size 113 fldC (0, 0) _ (by kernel_rfl) ((Row.new w _ _).setRow _) Try.underlying113 rfl hsz') rfl ⟨rfl, below_setRow ((Below.refl _ _).alloc (Nat.le_refl _) _) _ _ (Nat.le_refl _)⟩
end Go.Proofs.Ytfajffchnnalaaa
