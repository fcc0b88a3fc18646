/-
  A field by value and in memory; the sizes of a field; what a table has, by the program's getters; a new table. Conditions: a field of fewer than 2^31 bytes.
-/
import Derived.Test.YtfajffchnnalaaaSfind
import Derived.Test.YtfajffchnnalaaaCel
import Derived.Test.YtfajffchnnalaaaDmath
namespace Go.Proofs.Ytfajffchnnalaaa
open Go.RowKit Go.WideShapes

def fdc (f : Fd) : List Value := [tx f.nm, tx f.vl, .bool f.nv]
def fv (f : Fd) : Value := .agg #[tx f.nm, tx f.vl, .bool f.nv]
theorem fdc_len (f : Fd) : (fdc f).length = 3 := rfl
theorem fdc_one (f : Fd) : ∀ u ∈ fdc f, u.oneCell' = true := by
  intro u hu
  simp only [fdc, List.mem_cons, List.not_mem_nil, or_false] at hu
  rcases hu with rfl | rfl | rfl <;> rfl
theorem tx_size (l : List UInt8) : (ByteArray.mk l.toArray).size = l.length := by simp [ByteArray.size]

set_option maxRecDepth 100000 in
set_option maxHeartbeats 1000000 in
theorem size_any (f : Fd) (hf : sz f ≤ 2147483648) (w : World) : Calls Try.prog 54 #[fv f] w fun e w' => e = .returned (.int .i64 (sz f : Int)) ∧ Below w.heap.size w w' := by
  have hs : Hid ((f.nm.length : Int) + f.vl.length + 32 = (sz f : Int)) := by show _ = _; unfold sz; omega
  have h1 : f.nm.length ≤ 2147483648 := by unfold sz at hf; omega
  have h2 : f.vl.length ≤ 2147483648 := by unfold sz at hf; omega
  unfold fv tx
  clear hf
  have hz1 := tx_size f.nm
  have hz2 := tx_size f.vl
  go_enter Try.func54, Try.ntmps54
  go_wp2_with fail
  go_ret
  refine ⟨?_, (Below.refl _ _).alloc (Nat.le_refl _) _⟩
  rw [hs.out]
  rfl

set_option maxRecDepth 100000 in
set_option maxHeartbeats 1000000 in
theorem rsize_any (f : Fd) (hf : sz f ≤ 2147483648) (w : World) : Calls Try.prog 23 #[fv f] w fun e w' => e = .returned (.int .i64 (sz f : Int)) ∧ Below w.heap.size w w' := by
  have hs : Hid ((32 : Int) + f.nm.length + f.vl.length = (sz f : Int)) := by show _ = _; unfold sz; omega
  have h1 : f.nm.length ≤ 2147483648 := by unfold sz at hf; omega
  have h2 : f.vl.length ≤ 2147483648 := by unfold sz at hf; omega
  unfold fv tx
  clear hf
  have hz1 := tx_size f.nm
  have hz2 := tx_size f.vl
  go_enter Try.func23, Try.ntmps23
  go_wp2_with fail
  go_ret
  refine ⟨?_, (Below.refl _ _).alloc (Nat.le_refl _) _⟩
  rw [hs.out]
  rfl

/-- The table's own block: its slice, its size, its most. -/
def TabR (w : World) (g : Nat) (v : Value) (size most : Nat) : Prop := Row w g 78 #[v, .int .i64 (size : Int), .int .i64 (most : Int)]
theorem TabR.c0 {w : World} {g size most : Nat} {v : Value} (h : TabR w g v size most) : w.cell? ⟨g, 0, none⟩ = some v := Row.cell h (j := 0) rfl
theorem TabR.c1 {w : World} {g size most : Nat} {v : Value} (h : TabR w g v size most) : w.cell? ⟨g, 1, none⟩ = some (.int .i64 (size : Int)) := Row.cell h (j := 1) rfl
theorem TabR.c2 {w : World} {g size most : Nat} {v : Value} (h : TabR w g v size most) : w.cell? ⟨g, 2, none⟩ = some (.int .i64 (most : Int)) := Row.cell h (j := 2) rfl
/-- The table's pointer. -/
def pt (g : Nat) : Value := .pointer (some ⟨g, 0, none⟩)

set_option maxRecDepth 100000 in
set_option maxHeartbeats 1000000 in
theorem tsize_any {g size most : Nat} {v : Value} {w : World} (h : TabR w g v size most) : Calls Try.prog 35 #[pt g] w fun e w' => e = .returned (.int .i64 (size : Int)) ∧ w' = w := by
  have h1 := h.c1
  unfold pt
  clear h
  go_enter Try.func35, Try.ntmps35
  go_wp2_with fail
  go_ret
  exact ⟨rfl, rfl⟩
set_option maxRecDepth 100000 in
set_option maxHeartbeats 1000000 in
theorem tmost_any {g size most : Nat} {v : Value} {w : World} (h : TabR w g v size most) : Calls Try.prog 37 #[pt g] w fun e w' => e = .returned (.int .i64 (most : Int)) ∧ w' = w := by
  have h1 := h.c2
  unfold pt
  clear h
  go_enter Try.func37, Try.ntmps37
  go_wp2_with fail
  go_ret
  exact ⟨rfl, rfl⟩
set_option maxRecDepth 100000 in
set_option maxHeartbeats 1000000 in
theorem tlen_any {g size most n c : Nat} {A : Option Addr} {w : World} (h : TabR w g (.slice A n c) size most) : Calls Try.prog 57 #[pt g] w fun e w' => e = .returned (.int .i64 (n : Int)) ∧ w' = w := by
  have h1 := h.c0
  unfold pt
  clear h
  go_enter Try.func57, Try.ntmps57
  go_wp2_with fail
  go_ret
  exact ⟨rfl, rfl⟩
set_option maxRecDepth 100000 in
set_option maxHeartbeats 1000000 in
theorem tlen_cell {g n c : Nat} {A : Option Addr} {w : World} (h : w.cell? ⟨g, 0, none⟩ = some (.slice A n c)) : Calls Try.prog 57 #[.pointer (some ⟨g, 0, none⟩)] w fun e w' => e = .returned (.int .i64 (n : Int)) ∧ w' = w := by
  go_enter Try.func57, Try.ntmps57
  go_wp2_with fail
  go_ret
  exact ⟨rfl, rfl⟩
theorem nsize_any (w : World) : Calls Try.prog 35 #[.pointer none] w fun e w' => e = .returned (.int .i64 0) ∧ w' = w := by
  go_enter Try.func35, Try.ntmps35
  go_wp2_with fail
  go_ret
  exact ⟨rfl, rfl⟩
theorem nmost_any (w : World) : Calls Try.prog 37 #[.pointer none] w fun e w' => e = .returned (.int .i64 0) ∧ w' = w := by
  go_enter Try.func37, Try.ntmps37
  go_wp2_with fail
  go_ret
  exact ⟨rfl, rfl⟩
theorem nlen_any (w : World) : Calls Try.prog 57 #[.pointer none] w fun e w' => e = .returned (.int .i64 0) ∧ w' = w := by
  go_enter Try.func57, Try.ntmps57
  go_wp2_with fail
  go_ret
  exact ⟨rfl, rfl⟩
set_option maxRecDepth 100000 in
set_option maxHeartbeats 1000000 in
theorem new_any (m : Nat) (hm : m < 4294967296) (w : World) : Calls Try.prog 24 #[.int .u32 (m : Int)] w fun e w' => e = .returned (pt w.heap.size) ∧ w' = w.alloc (.cells #[.slice none 0 0, .int .i64 0, .int .i64 (m : Int)] 78) := by
  unfold pt
  go_enter Try.func24, Try.ntmps24
  go_wp2_with fail
  go_ret
  exact ⟨rfl, rfl⟩
end Go.Proofs.Ytfajffchnnalaaa
