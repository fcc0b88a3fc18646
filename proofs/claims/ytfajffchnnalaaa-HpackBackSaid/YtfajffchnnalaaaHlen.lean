/-
  The program's lengths, by its contract.
-/
import Derived.Test.YtfajffchnnalaaaProg
import Derived.Test.YtfajffchnnalaaaArr
import Derived.Test.YtfajffchnnalaaaHuf
namespace Go.Proofs.Ytfajffchnnalaaa
open Go.RowKit Go.WideShapes

def lenC : Array Value := (lens.map fun n : Nat => Value.int .i64 (n : Int)).toArray
def len0 : Array Value := (List.replicate 257 (Value.int .i64 0)).toArray
theorem ints_info : (Try.prog.info? 124).map (fun i => (i.zero, i.size)) = some (some (.agg len0), 257) := by kernel_rfl
theorem lenC_size : lenC.size = 257 := by kernel_rfl
theorem lenC_one : lenC.all (·.oneCell') = true := by kernel_rfl

set_option maxHeartbeats 1000000 in
set_option maxRecDepth 100000 in
theorem lengths_any (w : World) : Calls Try.prog 78 #[] w fun e w' => e = .returned (.agg lenC) ∧ Below w.heap.size w w' := by
  obtain ⟨hz, hsz⟩ := zero_of_info ints_info
  have hsz' : (Try.prog.info? 124).map (·.size) = some lenC.size := by rw [lenC_size]; exact hsz
  go_enter Try.func78, Try.ntmps78
  go_wp2_with (first
    | (refine wpList_build_is rfl 124 _ rfl lenC (by kernel_rfl) ?_)
    | (refine wpList_store_row rfl 124 (.tmp 0) (.tmp 1) rfl w.heap.size lenC rfl rfl 124 len0 (heap_alloc_last w _) hsz' (by kernel_rfl) lenC_one ?_))
  refine bodyPost_ret (v := .agg lenC) (results_cell_row rfl _ _ w.heap.size 124 lenC (0, 0) _ rfl ((Row.new w _ _).setRow _) Try.underlying124 rfl hsz') rfl ⟨rfl, below_setRow ((Below.refl _ _).alloc (Nat.le_refl _) _) _ _ (Nat.le_refl _)⟩
end Go.Proofs.Ytfajffchnnalaaa
