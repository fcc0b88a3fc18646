/-
  hpack's small functions, by their contracts: atMost, prefixOf, kindOf, connFault. No conditions but those that each theorem names.
-/
import Derived.Test.YtfajffchnnalaaaKmath
import Derived.Test.YtfajffchnnalaaaKen
import Derived.IntWalk
import Derived.Lib.MinMax
namespace Go.Proofs.Ytfajffchnnalaaa
open Go.RowKit Go.WideShapes

theorem atMost_any (n : Nat) (hn : n < 4294967296) (w : World) : Calls Try.prog 25 #[.int .u32 (n : Int)] w fun e w' => e = .returned (.int .u32 ((min n 4096 : Nat) : Int)) ∧ w = w' := by
  have h : min (n : Int) 4096 = ((min n 4096 : Nat) : Int) := by omega
  go_enter Try.func25, Try.ntmps25
  go_wp2_with fail
  go_ret
  exact ⟨rfl, rfl⟩

theorem ret_row {fn : Func} {p : Tmp} {t : TypeId} {F : Array Field} (h : fn.results = #[.cell p t]) (ht : Try.prog.underlying t = some (.struct F)) (tmps : Array Value) (w : World) (g : Nat) (cs : Array Value) (hp : tmps.getD p undef = .pointer (some ⟨g, 0, none⟩)) (hR : Row w g t cs) (hc : (Try.prog.info? t).map (·.size) = some cs.size) :
    (results fn tmps).run Try.prog w = .ok (.agg cs) w := by
  have hl := run_loadVar_row w g t t cs (0, 0) _ hR ht rfl hc
  have hp' : tmps[p]?.getD undef = .pointer (some ⟨g, 0, none⟩) := by simpa using hp
  simp only [results, h]
  simp [hp', asAddr, hl]
theorem fault_size : (Try.prog.info? 41).map (·.size) = some 2 := by kernel_rfl
theorem fault_cells (cs : Array Value) (h : cs.size = 2) : (Try.prog.info? 41).map (·.size) = some cs.size := by rw [h]; exact fault_size
set_option maxRecDepth 100000 in
theorem connFault_any (n : Int) (w : World) : Calls Try.prog 29 #[.int .u32 n] w fun e w' => e = .returned (.agg #[.int .u8 1, .int .u32 n]) ∧ Below w.heap.size w w' := by
  go_enter Try.func29, Try.ntmps29
  go_wp2_with fail
  refine bodyPost_ret (ret_row rfl Try.underlying41 _ _ w.heap.size #[.int .u8 1, .int .u32 n] rfl ?_ (fault_cells _ rfl)) rfl ⟨rfl, ?_⟩
  · exact Row.new w _ _
  · exact (Below.refl _ _).alloc (Nat.le_refl _) _

/-- The kinds of pieces. -/
def isKind (k : Nat) : Prop := k = 128 ∨ k = 64 ∨ k = 32 ∨ k = 16 ∨ k = 0
theorem pfx_bd {k : Nat} : 4 ≤ pfxN k ∧ pfxN k ≤ 7 := by unfold pfxN; repeat (first | omega | split)

set_option maxRecDepth 100000 in
theorem len8_128 (W : World) : Calls Try.prog 62 #[.int .u8 128] W fun e w' => e = .returned (.int .i64 8) ∧ W = w' := by
  go_enter Try.func62, Try.ntmps62
  go_wp2_with fail
  go_ret
  exact ⟨by kernel_rfl, rfl⟩
set_option maxRecDepth 100000 in
theorem len8_64 (W : World) : Calls Try.prog 62 #[.int .u8 64] W fun e w' => e = .returned (.int .i64 7) ∧ W = w' := by
  go_enter Try.func62, Try.ntmps62
  go_wp2_with fail
  go_ret
  exact ⟨by kernel_rfl, rfl⟩
set_option maxRecDepth 100000 in
theorem len8_32 (W : World) : Calls Try.prog 62 #[.int .u8 32] W fun e w' => e = .returned (.int .i64 6) ∧ W = w' := by
  go_enter Try.func62, Try.ntmps62
  go_wp2_with fail
  go_ret
  exact ⟨by kernel_rfl, rfl⟩
set_option maxRecDepth 100000 in
theorem len8_16 (W : World) : Calls Try.prog 62 #[.int .u8 16] W fun e w' => e = .returned (.int .i64 5) ∧ W = w' := by
  go_enter Try.func62, Try.ntmps62
  go_wp2_with fail
  go_ret
  exact ⟨by kernel_rfl, rfl⟩
set_option maxRecDepth 100000 in
theorem len8_0 (W : World) : Calls Try.prog 62 #[.int .u8 0] W fun e w' => e = .returned (.int .i64 0) ∧ W = w' := by
  go_enter Try.func62, Try.ntmps62
  go_wp2_with fail
  go_ret
  exact ⟨by kernel_rfl, rfl⟩
set_option maxRecDepth 100000 in
theorem prefixOf_any {k : Nat} (hk : isKind k) (w : World) : Calls Try.prog 44 #[.int .u8 (k : Int)] w fun e w' => e = .returned (.int .i64 (pfxN k : Int)) ∧ w = w' := by
  have key : ∀ {r : Int} (k : Int), (∀ W, Calls Try.prog 62 #[.int .u8 k] W fun e w' => e = .returned (.int .i64 r) ∧ W = w') → -100 ≤ r → r ≤ 100 →
      Calls Try.prog 44 #[.int .u8 k] w fun e w' => e = .returned (.int .i64 (max (r - 1) 4)) ∧ w = w' := by
    intro r k h h0 h1
    go_enter Try.func44, Try.ntmps44
    go_wp2_with fail
    refine (h _).mono ?_
    rintro e w1 ⟨rfl, rfl⟩
    go_wp2_with fail
    go_ret
    exact ⟨rfl, rfl⟩
  rcases hk with rfl | rfl | rfl | rfl | rfl
  · exact key 128 (r := 8) (fun W => len8_128 W) (by omega) (by omega)
  · exact key 64 (r := 7) (fun W => len8_64 W) (by omega) (by omega)
  · exact key 32 (r := 6) (fun W => len8_32 W) (by omega) (by omega)
  · exact key 16 (r := 5) (fun W => len8_16 W) (by omega) (by omega)
  · exact key 0 (r := 0) (fun W => len8_0 W) (by omega) (by omega)

theorem kind_and : ∀ b : Fin 256, (bits .and .u8 (b.val : Int) 128 ≠ 0 ↔ 128 ≤ b.val) ∧ (b.val < 128 → (bits .and .u8 (b.val : Int) 64 ≠ 0 ↔ 64 ≤ b.val)) ∧ (b.val < 64 → (bits .and .u8 (b.val : Int) 32 ≠ 0 ↔ 32 ≤ b.val)) ∧ (b.val < 32 → (bits .and .u8 (b.val : Int) 16 ≠ 0 ↔ 16 ≤ b.val)) := by decide +kernel
theorem kindOf_any (b : Nat) (hb : b < 256) (w : World) : Calls Try.prog 42 #[.int .u8 (b : Int)] w fun e w' => e = .returned (.int .u8 (kindN b : Int)) ∧ w = w' := by
  obtain ⟨h1, h2, h3, h4⟩ := kind_and ⟨b, hb⟩
  simp only at h1 h2 h3 h4
  obtain ⟨K, hK⟩ : ∃ K, K = kindN b := ⟨_, rfl⟩
  have HK : Hid (K = kindN b) := hK
  rw [← hK]
  clear hK
  go_enter Try.func42, Try.ntmps42
  go_wp2_with fail
  go_loopw [3] (fun v wr => ∃ k : Nat, (k = 128 ∨ k = 64 ∨ k = 32 ∨ k = 16 ∨ k = 8) ∧ v = .int .u8 k ∧ b < 2 * k ∧ w = wr) (fun v _ => (intOf v).toNat)
  case atStart => exact ⟨128, .inl rfl, rfl, by omega, rfl⟩
  case round =>
    obtain ⟨k, hk, rfl, hbk, rfl⟩ := hrel
    rcases hk with rfl | rfl | rfl | rfl | rfl
    · by_cases hb1 : 128 ≤ b
      · have hne : (bits .and .u8 (b : Int) 128 == 0) = false := by rw [beq_eq_false_iff_ne]; exact h1.2 hb1
        have hKv : K = 128 := by rw [HK.out]; unfold kindN; repeat (first | omega | split)
        subst hKv
        clear h1 h2 h3 h4
        go_wp2_with fail
        go_ret
        exact ⟨rfl, rfl⟩
      · have heq : (bits .and .u8 (b : Int) 128) = 0 := Classical.byContradiction fun h => hb1 (h1.1 h)
        clear h1 h2 h3 h4
        go_wp2_with fail
        go_roundw
        case rel => exact ⟨64, .inr (.inl rfl), by go_num, by omega, by first | trivial | rfl⟩
        case measure => simp [intOf]
    · by_cases hb1 : 64 ≤ b
      · have hne : (bits .and .u8 (b : Int) 64 == 0) = false := by rw [beq_eq_false_iff_ne]; exact (h2 (by omega)).2 hb1
        have hKv : K = 64 := by rw [HK.out]; unfold kindN; repeat (first | omega | split)
        subst hKv
        clear h1 h2 h3 h4
        go_wp2_with fail
        go_ret
        exact ⟨rfl, rfl⟩
      · have heq : (bits .and .u8 (b : Int) 64) = 0 := Classical.byContradiction fun h => hb1 ((h2 (by omega)).1 h)
        clear h1 h2 h3 h4
        go_wp2_with fail
        go_roundw
        case rel => exact ⟨32, .inr (.inr (.inl rfl)), by go_num, by omega, by first | trivial | rfl⟩
        case measure => simp [intOf]
    · by_cases hb1 : 32 ≤ b
      · have hne : (bits .and .u8 (b : Int) 32 == 0) = false := by rw [beq_eq_false_iff_ne]; exact (h3 (by omega)).2 hb1
        have hKv : K = 32 := by rw [HK.out]; unfold kindN; repeat (first | omega | split)
        subst hKv
        clear h1 h2 h3 h4
        go_wp2_with fail
        go_ret
        exact ⟨rfl, rfl⟩
      · have heq : (bits .and .u8 (b : Int) 32) = 0 := Classical.byContradiction fun h => hb1 ((h3 (by omega)).1 h)
        clear h1 h2 h3 h4
        go_wp2_with fail
        go_roundw
        case rel => exact ⟨16, .inr (.inr (.inr (.inl rfl))), by go_num, by omega, by first | trivial | rfl⟩
        case measure => simp [intOf]
    · by_cases hb1 : 16 ≤ b
      · have hne : (bits .and .u8 (b : Int) 16 == 0) = false := by rw [beq_eq_false_iff_ne]; exact (h4 (by omega)).2 hb1
        have hKv : K = 16 := by rw [HK.out]; unfold kindN; repeat (first | omega | split)
        subst hKv
        clear h1 h2 h3 h4
        go_wp2_with fail
        go_ret
        exact ⟨rfl, rfl⟩
      · have heq : (bits .and .u8 (b : Int) 16) = 0 := Classical.byContradiction fun h => hb1 ((h4 (by omega)).1 h)
        clear h1 h2 h3 h4
        go_wp2_with fail
        go_roundw
        case rel => exact ⟨8, .inr (.inr (.inr (.inr rfl))), by go_num, by omega, by first | trivial | rfl⟩
        case measure => simp [intOf]
    · have hKv : K = 0 := by rw [HK.out]; unfold kindN; repeat (first | omega | split)
      subst hKv
      clear h1 h2 h3 h4
      go_wp2_with fail
      go_ret
      exact ⟨rfl, rfl⟩
end Go.Proofs.Ytfajffchnnalaaa
