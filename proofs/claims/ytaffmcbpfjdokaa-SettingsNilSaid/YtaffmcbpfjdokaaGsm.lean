/-
  settings' connFault, bit, Begin, may, check and the document's Begin, told, wrong, by their contracts. No conditions.
-/
import Derived.Test.YtaffmcbpfjdokaaGst
import Derived.Test.YtaffmcbpfjdokaaFs
namespace Go.Proofs.Ytaffmcbpfjdokaa
open Go.RowKit Go.WideShapes

set_option maxRecDepth 100000 in
set_option maxHeartbeats 1000000 in
theorem connFault_any (k : Nat) (w : World) : Calls Try.prog 25 #[.int .u32 (k : Int)] w fun e w' => e = .returned (.agg (ftc 1 k)) ∧ Below w.heap.size w w' := by
  have HR : Hid (Row (w.alloc (.cells #[.int .u8 0, .int .u32 0] 28)) w.heap.size 28 (ftc 0 0)) := Row.new w _ _
  go_enter Try.func25, Try.ntmps25
  go_wp2_with (refine wpList_sw (cs := ftc 1 k) rfl _ _ rfl rfl rfl HR.out rfl (ft_ok _ _) ?_)
  exact bodyPost_ret (ret_ag rfl _ rfl (HR.out.setRow _) (ft_ok _ _)) rfl ⟨rfl, below_setRow ((Below.refl _ _).alloc (Nat.le_refl _) _) _ _ (Nat.le_refl _)⟩
set_option maxRecDepth 100000 in
theorem bit_any (b : Bool) (w : World) : Calls Try.prog 27 #[.bool b] w fun e w' => e = .returned (.int .u32 (bitN b : Nat)) ∧ w' = w := by
  cases b
  all_goals
    go_enter Try.func27, Try.ntmps27
    go_wp2
    go_ret
    exact ⟨rfl, rfl⟩
set_option maxRecDepth 100000 in
set_option maxHeartbeats 1000000 in
theorem begi_any (w : World) : Calls Try.prog 11 #[] w fun e w' => e = .returned (.agg begS.c) ∧ Below w.heap.size w w' := by
  have HR : Hid (Row (w.alloc (.cells #[.int .u32 0, .bool false, .int .u32 0, .int .u32 0, .int .u32 0, .int .u32 0, .bool false] 24)) w.heap.size 24 zS.c) := Row.new w _ _
  go_enter Try.func11, Try.ntmps11
  go_wp2_with (refine wpList_sw (cs := begS.c) rfl _ _ rfl rfl rfl HR.out rfl (St.ok _) ?_)
  exact bodyPost_ret (ret_ag rfl _ rfl (HR.out.setRow _) (St.ok _)) rfl ⟨rfl, below_setRow ((Below.refl _ _).alloc (Nat.le_refl _) _) _ _ (Nat.le_refl _)⟩
set_option maxRecDepth 100000 in
set_option maxHeartbeats 1000000 in
theorem rbegi_any (w : World) : Calls Try.prog 12 #[] w fun e w' => e = .returned (.agg begS.c) ∧ Below w.heap.size w w' := by
  have HR : Hid (Row (w.alloc (.cells #[.int .u32 0, .bool false, .int .u32 0, .int .u32 0, .int .u32 0, .int .u32 0, .bool false] 24)) w.heap.size 24 zS.c) := Row.new w _ _
  go_enter Try.func12, Try.ntmps12
  go_wp2_with (refine wpList_sw (cs := begS.c) rfl _ _ rfl rfl rfl HR.out rfl (St.ok _) ?_)
  exact bodyPost_ret (ret_ag rfl _ rfl (HR.out.setRow _) (St.ok _)) rfl ⟨rfl, below_setRow ((Below.refl _ _).alloc (Nat.le_refl _) _) _ _ (Nat.le_refl _)⟩
/-- The document's number of a code. -/
def cdN (n : Nat) : Nat := if n = 0 then 99 else n
theorem cdN_0 : cdN 0 = 99 := rfl
set_option maxRecDepth 100000 in
set_option maxHeartbeats 1000000 in
theorem told_any {n : Nat} (h : n = 0 ∨ n = 1 ∨ n = 3) (w : World) : Calls Try.prog 10 #[.int .i64 (cdN n : Nat)] w fun e w' => e = .returned (.agg (ftc (if n = 0 then 0 else 1) n)) ∧ Below w.heap.size w w' := by
  have HR : Hid (Row (w.alloc (.cells #[.int .u8 0, .int .u32 0] 28)) w.heap.size 28 (ftc 0 0)) := Row.new w _ _
  have HB : Hid (∀ c, Below w.heap.size w ((w.alloc (.cells #[.int .u8 0, .int .u32 0] 28)).setRow w.heap.size c)) := fun c => below_setRow ((Below.refl _ _).alloc (Nat.le_refl _) _) _ _ (Nat.le_refl _)
  rcases h with rfl | rfl | rfl
  · go_enter Try.func10, Try.ntmps10
    go_wp2_with (refine wpList_sw (cs := ftc 0 0) rfl _ _ rfl rfl rfl HR.out rfl (ft_ok _ _) ?_)
    exact bodyPost_ret (ret_ag rfl _ rfl (HR.out.setRow _) (ft_ok _ _)) rfl ⟨rfl, HB.out _⟩
  · go_enter Try.func10, Try.ntmps10
    go_wp2_with (refine wpList_sw (cs := ftc 1 1) rfl _ _ rfl rfl rfl HR.out rfl (ft_ok _ _) ?_)
    exact bodyPost_ret (ret_ag rfl _ rfl (HR.out.setRow _) (ft_ok _ _)) rfl ⟨rfl, HB.out _⟩
  · go_enter Try.func10, Try.ntmps10
    go_wp2_with (refine wpList_sw (cs := ftc 1 3) rfl _ _ rfl rfl rfl HR.out rfl (ft_ok _ _) ?_)
    exact bodyPost_ret (ret_ag rfl _ rfl (HR.out.setRow _) (ft_ok _ _)) rfl ⟨rfl, HB.out _⟩
end Go.Proofs.Ytaffmcbpfjdokaa
