/-
  Of and (*passage).next, by their contracts: over nil and over chains of passages that end in a failure.
-/
import Derived.Test.YtjkfckdoliflmaaDoorFirst
namespace Go.Proofs.YtjkfckdoliflmaaDoor
open Go.RowKit Go.Extern.Stop Go.Stop Go.Extern

theorem bcell {w : World} {o : Obj} {w1 : World} (hb : Below (w.alloc o).heap.size (w.alloc o) w1) :
    (∀ b i, b < (w.alloc o).heap.size → w1.cell? ⟨b, i, none⟩ = (w.alloc o).cell? ⟨b, i, none⟩) ∧ (∀ b i, b < (w.alloc o).heap.size → w1.frozen? ⟨b, i, none⟩ = (w.alloc o).frozen? ⟨b, i, none⟩) :=
  ⟨fun b i h => hb.cell (p := ⟨b, i, none⟩) h, fun b i h => hb.frozen (p := ⟨b, i, none⟩) h⟩

set_option maxHeartbeats 4000000 in
theorem of_nil (w : World) :
    Calls Tryd.prog 10 #[.nilIface] w fun e w' => e = .returned (.agg #[.int .u8 0, .int .u32 0]) ∧ Below w.heap.size w w' := by
  go_enter Tryd.func10, Tryd.ntmps10
  go_wp2_with fail
  refine (firstF_nil _).mono ?_
  rintro e w1 ⟨rfl, hb⟩
  have c0 : w1.cell? ⟨w.heap.size, 0, none⟩ = some (.int .u8 0) := by rw [(bcell hb).1 _ _ (by simp)]; simp
  have c1 : w1.cell? ⟨w.heap.size, 1, none⟩ = some (.int .u32 0) := by rw [(bcell hb).1 _ _ (by simp)]; simp
  have z0 : w1.frozen? ⟨w.heap.size, 0, none⟩ = false := by rw [(bcell hb).2 _ _ (by simp)]; simp
  have z1 : w1.frozen? ⟨w.heap.size, 1, none⟩ = false := by rw [(bcell hb).2 _ _ (by simp)]; simp
  go_wp2
  refine bodyPost_ret (v := .agg #[.int .u8 0, .int .u32 0]) (by simp [results, Tryd.results10, go_sem, c0, c1]) rfl ⟨rfl, ?_⟩
  exact ((((Below.refl _ _).alloc (Nat.le_refl _) _).trans (hb.mono (by simp))).setCell (by simp) _).setCell (by simp) _

set_option maxHeartbeats 4000000 in
theorem of_ch (xs : List ByteArray) (v : Value) (pf : Nat) (s c : Int) (w : World) (hch : Ch w v xs pf) (hs : w.cell? ⟨pf, 0, none⟩ = some (.int .u8 s)) (hc : w.cell? ⟨pf, 1, none⟩ = some (.int .u32 c))
    (hg : w.cell? ⟨1, 0, none⟩ = some (.iface 70 (.agg #[.pointer (some ⟨5, 28, none⟩)]))) :
    Calls Tryd.prog 10 #[v] w fun e w' => e = .returned (.agg #[.int .u8 s, .int .u32 c]) ∧ Below w.heap.size w w' := by
  have hlt := blk_lt hg
  have hpl : pf < w.heap.size := blk_lt hs
  have C := firstF_ch xs v pf (w.alloc (.cells #[.int .u8 0, .int .u32 0] 24)) (hch.alloc _) (by rw [World.cell?_alloc_lt _ _ ⟨1, 0, none⟩ hlt]; exact hg)
  have HC := Lib.hid C
  clear C hg
  go_enter Tryd.func10, Tryd.ntmps10
  go_wp2_with fail
  refine (HC.out).mono ?_
  rintro e w1 ⟨rfl, hb⟩
  have c0 : w1.cell? ⟨w.heap.size, 0, none⟩ = some (.int .u8 0) := by rw [(bcell hb).1 _ _ (by simp)]; simp
  have c1 : w1.cell? ⟨w.heap.size, 1, none⟩ = some (.int .u32 0) := by rw [(bcell hb).1 _ _ (by simp)]; simp
  have z0 : w1.frozen? ⟨w.heap.size, 0, none⟩ = false := by rw [(bcell hb).2 _ _ (by simp)]; simp
  have z1 : w1.frozen? ⟨w.heap.size, 1, none⟩ = false := by rw [(bcell hb).2 _ _ (by simp)]; simp
  have d0 : w1.cell? ⟨pf, 0, none⟩ = some (.int .u8 s) := by rw [(bcell hb).1 _ _ (by simp; omega), World.cell?_alloc_lt _ _ ⟨pf, 0, none⟩ hpl]; exact hs
  have d1 : w1.cell? ⟨pf, 1, none⟩ = some (.int .u32 c) := by rw [(bcell hb).1 _ _ (by simp; omega), World.cell?_alloc_lt _ _ ⟨pf, 1, none⟩ hpl]; exact hc
  clear hs hc hch
  go_wp2
  refine bodyPost_ret (v := .agg #[.int .u8 s, .int .u32 c]) (by simp [results, Tryd.results10, go_sem, c0, c1]) rfl ⟨rfl, ?_⟩
  exact ((((Below.refl _ _).alloc (Nat.le_refl _) _).trans (hb.mono (by simp))).setCell (by simp) _).setCell (by simp) _

theorem isPassP (a : Addr) (w : World) : (Instr.typeAssert (.iface 44 (.pointer (some a))) 28 44 true).run Tryd.prog w = .ok (.tuple #[.pointer (some a), .bool true]) w := by kernel_rfl
theorem isPassF (a : Addr) (w : World) : (Instr.typeAssert (.iface 41 (.pointer (some a))) 28 44 true).run Tryd.prog w = .ok (.tuple #[.pointer none, .bool false]) w := by kernel_rfl
theorem isFailF (a : Addr) (w : World) : (Instr.typeAssert (.iface 41 (.pointer (some a))) 28 41 true).run Tryd.prog w = .ok (.tuple #[.pointer (some a), .bool true]) w := by kernel_rfl

set_option maxRecDepth 100000 in
theorem next_hit (b b2 : Nat) (w : World) (h : w.cell? ⟨b, 1, none⟩ = some (.iface 44 (.pointer (some ⟨b2, 0, none⟩)))) :
    Calls Tryd.prog 16 #[.pointer (some ⟨b, 0, none⟩)] w fun e w' => e = .returned (.pointer (some ⟨b2, 0, none⟩)) ∧ w = w' := by
  have f1 := isPassP
  have f2 := isPassF
  have f3 := isFailF
  go_enter Tryd.func16, Tryd.ntmps16
  go_wp2
  go_ret
  exact ⟨rfl, rfl⟩

set_option maxRecDepth 100000 in
theorem next_miss (b pf : Nat) (w : World) (h : w.cell? ⟨b, 1, none⟩ = some (.iface 41 (.pointer (some ⟨pf, 0, none⟩)))) :
    Calls Tryd.prog 16 #[.pointer (some ⟨b, 0, none⟩)] w fun e w' => e = .returned (.pointer none) ∧ w = w' := by
  have f1 := isPassP
  have f2 := isPassF
  have f3 := isFailF
  go_enter Tryd.func16, Tryd.ntmps16
  go_wp2
  go_ret
  exact ⟨rfl, rfl⟩
end Go.Proofs.YtjkfckdoliflmaaDoor
