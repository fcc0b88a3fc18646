/-
  The document's size and write, by contract. Conditions: those that each theorem names.
-/
import Derived.Test.YtdegpchofhnipaaDoorVst
import Derived.Test.YtdegpchofhnipaaDoorTxt
namespace Go.Proofs.YtdegpchofhnipaaDoor
open Go.RowKit Go.WideShapes

set_option maxRecDepth 100000 in
theorem rsize_any {c : Nat} (w : World) : Calls Tryd.prog 29 #[.int .u8 (c : Int)] w fun e w' => e = .returned (.int .i64 (szN c : Int)) ∧ w' = w := by
  unfold szN
  by_cases h1 : c < 128
  · rw [if_pos h1]
    have d1 : (c : Int) < 128 := by omega
    clear h1
    go_enter Tryd.func29, Tryd.ntmps29
    go_wp2
    go_ret
    exact ⟨rfl, rfl⟩
  rw [if_neg h1]
  have d1 : ¬ (c : Int) < 128 := by omega
  by_cases h2 : c < 192
  · rw [if_neg (by omega), if_neg (by omega), if_neg (by omega)]
    have d2 : decide ((192 : Int) ≤ c) = false := by simp; omega
    have d3 : decide ((224 : Int) ≤ c) = false := by simp; omega
    have d4 : decide ((240 : Int) ≤ c) = false := by simp; omega
    clear h1 h2
    go_enter Tryd.func29, Tryd.ntmps29
    go_wp2
    go_ret
    exact ⟨rfl, rfl⟩
  have d2 : decide ((192 : Int) ≤ c) = true := by simp; omega
  by_cases h3 : c < 224
  · rw [if_pos (by omega)]
    have d3 : (c : Int) < 224 := by omega
    clear h1 h2 h3
    go_enter Tryd.func29, Tryd.ntmps29
    go_wp2
    go_ret
    exact ⟨rfl, rfl⟩
  have d3 : decide ((c : Int) < 224) = false := by simp; omega
  have d4 : decide ((224 : Int) ≤ c) = true := by simp; omega
  by_cases h4 : c < 240
  · rw [if_neg (by omega), if_pos (by omega)]
    have d5 : (c : Int) < 240 := by omega
    clear h1 h2 h3 h4
    go_enter Tryd.func29, Tryd.ntmps29
    go_wp2
    go_ret
    exact ⟨rfl, rfl⟩
  have d5 : decide ((c : Int) < 240) = false := by simp; omega
  have d6 : decide ((240 : Int) ≤ c) = true := by simp; omega
  by_cases h5 : c < 248
  · rw [if_neg (by omega), if_neg (by omega), if_pos (by omega)]
    have d7 : (c : Int) < 248 := by omega
    clear h1 h2 h3 h4 h5
    go_enter Tryd.func29, Tryd.ntmps29
    go_wp2
    go_ret
    exact ⟨rfl, rfl⟩
  have d7 : decide ((c : Int) < 248) = false := by simp; omega
  rw [if_neg (by omega), if_neg (by omega), if_neg (by omega)]
  clear h1 h2 h3 h4 h5
  go_enter Tryd.func29, Tryd.ntmps29
  go_wp2
  go_ret
  exact ⟨rfl, rfl⟩
/-- A letter's bytes. -/
def lwB (n : Nat) : List UInt8 := (lwN n).map UInt8.ofNat
/-- A literal of bytes, as a text. -/
theorem convL (xs : List Int) (hx : ∀ x ∈ xs, 0 ≤ x ∧ x < 256) (_hn : xs ≠ []) (W : World) : (convert 30 9 (.slice (some ⟨W.heap.size, 0, none⟩) xs.length xs.length)).run Tryd.prog (W.alloc (.cells (xs.map (Value.int .u8)).toArray 5)) = .ok (.string (txb (xs.map fun x => UInt8.ofNat x.toNat))) (W.alloc (.cells (xs.map (Value.int .u8)).toArray 5)) := by
  have hr : RdB (W.alloc (.cells (xs.map (Value.int .u8)).toArray 5)) (W.heap.size + 1) (some ⟨W.heap.size, 0, none⟩) (xs.map fun x => UInt8.ofNat x.toNat) := fun _ => ⟨_, 0, rfl, Nat.lt_succ_self _, fun j hj => by
    have hj' : j < xs.length := by simpa using hj
    have h := (Row.new W 5 (xs.map (Value.int .u8)).toArray).cell (j := j) (v := .int .u8 xs[j]) (by simp [hj'])
    rw [Nat.zero_add, h]
    simp only [List.getElem_map]
    obtain ⟨h0, h1⟩ := hx xs[j] (List.getElem_mem ..)
    rw [byte_back h0 h1]⟩
  have h := run_text (P := Tryd.prog) Tryd.underlying30 Tryd.underlying5 Tryd.underlying9 (c := xs.length) hr
  rw [List.length_map] at h
  exact h
set_option maxRecDepth 100000 in
set_option maxHeartbeats 1000000 in
theorem rwrite_any {n : Nat} (hn : n < 1114112) (w : World) : Calls Tryd.prog 37 #[.int .i64 (n : Int)] w fun e w' => e = .returned (.string (txb (lwB n))) ∧ Below w.heap.size w w' := by
  have q1 : (n : Int).tdiv 64 = n / 64 := rfl
  have q2 : (n : Int).tdiv 4096 = n / 4096 := rfl
  have q3 : (n : Int).tdiv 262144 = n / 262144 := rfl
  by_cases h1 : n < 128
  · have hx : Hid (txb (lwB n) = txb [UInt8.ofNat (n : Int).toNat]) := by show _ = _; unfold lwB; rw [wr1 h1]; rfl
    have hc := fun W => convL [(n : Int)] (by simp; omega) (by simp) W
    have d1 : (n : Int) < 128 := by omega
    clear h1
    simp only [List.map_cons, List.map_nil, List.length_cons, List.length_nil] at hc
    rw [← hx.out] at hc
    go_enter Tryd.func37, Tryd.ntmps37
    go_wp2
    go_ret
    exact ⟨rfl, (Below.refl _ _).alloc (Nat.le_refl _) _⟩
  have d1 : ¬ (n : Int) < 128 := by omega
  by_cases h2 : n < 2048
  · have hx : Hid (txb (lwB n) = txb [UInt8.ofNat (192 + (n : Int) / 64).toNat, UInt8.ofNat (128 + (n : Int) % 64).toNat]) := by show _ = _; unfold lwB; rw [wr2 (by omega) h2]; rfl
    have hc := fun W => convL [192 + (n : Int) / 64, 128 + (n : Int) % 64] (by simp; omega) (by simp) W
    have d2 : (n : Int) < 2048 := by omega
    clear h1
    simp only [List.map_cons, List.map_nil, List.length_cons, List.length_nil] at hc
    rw [← hx.out] at hc
    go_enter Tryd.func37, Tryd.ntmps37
    go_wp2
    go_ret
    exact ⟨rfl, (Below.refl _ _).alloc (Nat.le_refl _) _⟩
  have d2 : ¬ (n : Int) < 2048 := by omega
  by_cases h3 : n < 65536
  · have hx : Hid (txb (lwB n) = txb [UInt8.ofNat (224 + (n : Int) / 4096).toNat, UInt8.ofNat (128 + (n : Int) / 64 % 64).toNat, UInt8.ofNat (128 + (n : Int) % 64).toNat]) := by show _ = _; unfold lwB; rw [wr3 (by omega) h3]; rfl
    have hc := fun W => convL [224 + (n : Int) / 4096, 128 + (n : Int) / 64 % 64, 128 + (n : Int) % 64] (by simp; omega) (by simp) W
    have d3 : (n : Int) < 65536 := by omega
    clear h1 h2
    simp only [List.map_cons, List.map_nil, List.length_cons, List.length_nil] at hc
    rw [← hx.out] at hc
    go_enter Tryd.func37, Tryd.ntmps37
    go_wp2
    go_ret
    exact ⟨rfl, (Below.refl _ _).alloc (Nat.le_refl _) _⟩
  have d3 : ¬ (n : Int) < 65536 := by omega
  have hx : Hid (txb (lwB n) = txb [UInt8.ofNat (240 + (n : Int) / 262144).toNat, UInt8.ofNat (128 + (n : Int) / 4096 % 64).toNat, UInt8.ofNat (128 + (n : Int) / 64 % 64).toNat, UInt8.ofNat (128 + (n : Int) % 64).toNat]) := by show _ = _; unfold lwB; rw [wr4 (by omega)]; rfl
  have hc := fun W => convL [240 + (n : Int) / 262144, 128 + (n : Int) / 4096 % 64, 128 + (n : Int) / 64 % 64, 128 + (n : Int) % 64] (by simp; omega) (by simp) W
  clear h1 h2 h3
  simp only [List.map_cons, List.map_nil, List.length_cons, List.length_nil] at hc
  rw [← hx.out] at hc
  go_enter Tryd.func37, Tryd.ntmps37
  go_wp2
  go_ret
  exact ⟨rfl, (Below.refl _ _).alloc (Nat.le_refl _) _⟩
end Go.Proofs.YtdegpchofhnipaaDoor
