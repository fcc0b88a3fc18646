/-
  The document's table, by its contract: names and values by turns.
-/
import Derived.Test.YteoneedehfijhaaLit
import Derived.Test.YteoneedehfijhaaSfind
namespace Go.Proofs.Yteoneedehfijhaa
open Go.RowKit Go.WideShapes

def rtabF (j : Nat) : Value := if j % 2 = 0 then tx (nmL (j / 2)) else tx (vlL (j / 2))
def rtabC : Array Value := rowF 122 rtabF
theorem rtab_even {k : Nat} (h : k < 61) : rtabC[2 * k]? = some (tx (nmL k)) := by
  unfold rtabC
  rw [rowF_at _ (by omega)]
  unfold rtabF
  rw [if_pos (by omega), show 2 * k / 2 = k by omega]
theorem rtab_odd {k : Nat} (h : k < 61) : rtabC[2 * k + 1]? = some (tx (vlL k)) := by
  unfold rtabC
  rw [rowF_at _ (by omega)]
  unfold rtabF
  rw [if_neg (by omega), show (2 * k + 1) / 2 = k by omega]
theorem tstr_info : (Try.prog.info? 9).map (fun i => (i.zero, i.size)) = some (some (.string ⟨#[]⟩), 1) := by kernel_rfl
theorem tstr_parts : ∃ i, Try.prog.info? 9 = some i ∧ i.zero = some (.string ⟨#[]⟩) ∧ i.size = 1 := by
  cases hi : Try.prog.info? 9 with
  | none => have := tstr_info; rw [hi] at this; simp at this
  | some i => have := tstr_info; rw [hi] at this; simp at this; exact ⟨i, rfl, this.1, this.2⟩

set_option maxRecDepth 100000 in
set_option maxHeartbeats 1000000 in
theorem rtable_any (w : World) : Calls Try.prog 35 #[] w fun e w' => e = .returned (.slice (some ⟨w.heap.size, 0, none⟩) 122 122) ∧ w' = w.alloc (.cells rtabC 9) := by
  obtain ⟨i0, hi0, hz0, hs0⟩ := tstr_parts
  go_enter Try.func35, Try.ntmps35
  go_wp2_with (refine wpList_buildSlice_is rfl 49 9 122 _ rfl Try.underlying49 i0 hi0 _ hz0 hs0 (by omega) (by omega) rtabC (by kernel_rfl) ?_)
  go_ret
  exact ⟨rfl, rfl⟩
end Go.Proofs.Yteoneedehfijhaa
