/-
  The document's numbers and bytes as texts: Number, Value, xor, Turn, by their contracts. Conditions: those that each theorem names.
-/
import Derived.Test.YtejlbgllfkfkfaaDoorTxt
import Derived.Test.YtejlbgllfkfkfaaDoorIm
import Derived.Deep.DeepCutAuto
import Derived.BigQuiet
namespace Go.Proofs.YtejlbgllfkfkfaaDoor
open Go.RowKit Go.WideShapes

theorem RdB.rowI {w : World} {B g : Nat} {t : TypeId} {cs : Array Value} {m : List UInt8} (h : Row w g t cs) (hc : cs.toList = byc m) (hg : g < B) : RdB w B (some ⟨g, 0, none⟩) m := fun _ => ⟨g, 0, rfl, hg, fun j hj => by
  refine h.cell ?_
  rw [Nat.zero_add, ← Array.getElem?_toList, hc]
  exact byc_at hj⟩
theorem textI1 (x : Nat) (hx : x < 256) (W : World) : (convert 22 9 (.slice (some ⟨W.heap.size, 0, none⟩) 1 1)).run Tryd.prog (W.alloc (.cells #[.int .u8 (x : Int)] 5)) = .ok (.string (txb [UInt8.ofNat x])) (W.alloc (.cells #[.int .u8 (x : Int)] 5)) := by
  have hb : (#[Value.int .u8 (x : Int)]).toList = byc [UInt8.ofNat x] := by simp [byc]; omega
  exact run_text (P := Tryd.prog) (l := [UInt8.ofNat x]) (c := 1) Tryd.underlying22 Tryd.underlying5 Tryd.underlying9 (RdB.rowI (B := W.heap.size + 1) (Row.new W _ _) hb (Nat.lt_succ_self _))
theorem be_stepI (k n : Nat) : UInt8.ofNat (n / 256 ^ k % 256) :: be k n = be (k + 1) n := by
  show _ = UInt8.ofNat (n / 256 ^ k) :: be k n
  congr 1
  rw [← UInt8.toNat_inj]
  simp

set_option maxRecDepth 100000 in
set_option maxHeartbeats 1000000 in
theorem inumber_any (n m : Nat) (hn : n < 18446744073709551616) (hm : m ≤ 8) (w : World) : Calls Tryd.prog 23 #[.int .u64 n, .int .i64 m] w fun e w' => e = .returned (.string (txb (be m n))) ∧ Below w.heap.size w w' := by
  go_enter Tryd.func23, Tryd.ntmps23
  go_wp2_with fail
  go_loopw [0, 5, 6] (fun a s i wr => ∃ (k q : Nat) (x : List UInt8), k ≤ m ∧ a = .int .u64 q ∧ q < 18446744073709551616 ∧ i = .int .i64 k ∧ s = .string (txb x) ∧ x.length = k ∧ Hid (q = n / 256 ^ k) ∧ Hid (x = be k n) ∧ Hid (Below w.heap.size w wr)) (fun _ _ i _ => m - (intOf i).toNat)
  case atStart => exact ⟨0, n, [], Nat.zero_le _, rfl, hn, rfl, rfl, rfl, by show _ = _; simp, by show _ = _; rfl, Below.refl _ _⟩
  case round =>
    obtain ⟨k, q, x, hk, rfl, hq, rfl, rfl, hxl, hqe, hxe, hB⟩ := hrel
    by_cases hlt : k < m
    · have hX2 : Hid (UInt8.ofNat (q % 256) :: x = be (k + 1) n) := by show _ = _; rw [hqe.out, hxe.out]; exact be_stepI k n
      have hQ2 : Hid (q / 256 = n / 256 ^ (k + 1)) := by show _ = _; rw [hqe.out, Nat.pow_succ, Nat.div_div_eq_div_mul]
      have hxl9 : x.length ≤ 9 := by omega
      have HXL := Lib.hid hxl
      obtain ⟨d, hd⟩ : ∃ d, d = q % 256 := ⟨_, rfl⟩
      have hd256 : d < 256 := by omega
      have hm1 : (q : Int) % 256 = (d : Int) := by omega
      rw [← hd] at hX2
      have hadd := txb_add [UInt8.ofNat d] x (by simp) (by omega)
      have ht1 := textI1 d hd256
      clear hqe hxe hxl hd
      go_wp2_with fail
      have hsz := hB.out.size
      go_roundw
      case rel => exact ⟨k + 1, q / 256, UInt8.ofNat d :: x, by omega, by go_num, by omega, by go_num, rfl, by simp; exact HXL.out, hQ2, hX2, hB.out.alloc hsz _⟩
      case measure => simp [intOf]; omega
    · obtain rfl : k = m := by omega
      go_wp2_with fail
      go_ret
      rw [← hxe.out]
      exact ⟨rfl, hB.out⟩
theorem valL_takeI (l : List UInt8) {k : Nat} (h : k < l.length) : valL (l.take (k + 1)) = 256 * valL (l.take k) + l[k].toNat := by
  rw [List.take_add_one, List.getElem?_eq_getElem h]
  exact valL_snoc _ _
set_option maxRecDepth 100000 in
set_option maxHeartbeats 1000000 in
theorem ivalue_any (l : List UInt8) (hl : l.length ≤ 4) (w : World) : Calls Tryd.prog 31 #[.string (txb l)] w fun e w' => e = .returned (.int .u32 (valL l : Nat)) ∧ w = w' := by
  have hsz := txb_size l
  go_enter Tryd.func31, Tryd.ntmps31
  go_wp2_with fail
  go_loop [3, 4] (fun a i => ∃ (k v : Nat), k ≤ l.length ∧ i = .int .i64 k ∧ a = .int .u32 v ∧ v < 4294967296 ∧ Hid (v = valL (l.take k))) (fun _ i => l.length - (intOf i).toNat)
  case atStart => exact ⟨0, 0, Nat.zero_le _, rfl, rfl, by omega, by show _ = _; rfl⟩
  case round =>
    obtain ⟨k, v, hk, rfl, rfl, hv, hve⟩ := hrel
    by_cases hlt : k < l.length
    · have hat := txb_at l k hlt
      have hn2 := valL_takeI l hlt
      have hlt4 := valL_lt (l.take (k + 1))
      have hp4 : 256 ^ (l.take (k + 1)).length ≤ 256 ^ 4 := Nat.pow_le_pow_right (by omega) (by rw [List.length_take]; omega)
      rw [← hve.out] at hn2
      have h256 := l[k].toNat_lt
      have hN : Hid (256 * v + l[k].toNat = valL (l.take (k + 1))) := hn2.symm
      have hv4 : 256 * v + l[k].toNat < 4294967296 := by omega
      clear hve hn2 hlt4 hp4
      generalize l[k].toNat = b at *
      go_wp2_with fail
      go_round
      case rel => exact ⟨k + 1, 256 * v + b, by omega, by go_num, by go_num, hv4, hN⟩
      case measure => simp [intOf]; omega
    · obtain rfl : k = l.length := by omega
      have he : v = valL l := by rw [hve.out, List.take_length]
      have HE := Lib.hid he
      clear he hve
      go_wp2_with fail
      go_ret
      rw [← HE.out]
      exact ⟨rfl, rfl⟩
/-- What a round of xor keeps: the bits behind, weighed. -/
def XorI (a b : Nat) (k x y n : Nat) : Prop := n + 2 ^ k * (x ^^^ y) = a ^^^ b ∧ x = a / 2 ^ k ∧ y = b / 2 ^ k
theorem XorI.next {a b k x y n : Nat} (h : XorI a b k x y n) : XorI a b (k + 1) (x / 2) (y / 2) (n + if x % 2 = y % 2 then 0 else 2 ^ k) := by
  obtain ⟨h1, h2, h3⟩ := h
  refine ⟨?_, by rw [h2, Nat.pow_succ, Nat.div_div_eq_div_mul], by rw [h3, Nat.pow_succ, Nat.div_div_eq_div_mul]⟩
  rw [← h1, xor_bit x y, Nat.pow_succ]
  split <;> simp [Nat.mul_add, Nat.mul_assoc] <;> omega
theorem XorI.done {a b x y n : Nat} (ha : a < 256) (hb : b < 256) (h : XorI a b 8 x y n) : n = a ^^^ b := by
  obtain ⟨h1, h2, h3⟩ := h
  have hx : x = 0 := by omega
  have hy : y = 0 := by omega
  subst hx hy
  simpa using h1
theorem pow_k {k : Nat} (h : k < 8) : ∃ c, c < 256 ∧ 2 ^ k = c ∧ 2 ^ k % 256 = c ∧ c * 2 % 256 = 2 ^ (k + 1) % 256 := by
  have h1 : 2 ^ k < 256 := Nat.pow_lt_pow_right (n := 8) (by omega) h
  exact ⟨2 ^ k, h1, rfl, Nat.mod_eq_of_lt h1, by rw [Nat.pow_succ]⟩
set_option maxRecDepth 100000 in
set_option maxHeartbeats 1000000 in
theorem xorI_any (a b : Nat) (ha : a < 256) (hb : b < 256) (w : World) : Calls Tryd.prog 32 #[.int .u8 a, .int .u8 b] w fun e w' => e = .returned (.int .u8 (a ^^^ b : Nat)) ∧ w = w' := by
  go_enter Tryd.func32, Tryd.ntmps32
  go_wp2_with fail
  go_loop [0, 1, 5, 6, 7] (fun va vb vn vc vi => ∃ (k x y n : Nat), k ≤ 8 ∧ va = .int .u8 x ∧ vb = .int .u8 y ∧ vn = .int .u8 n ∧ vc = .int .u8 (2 ^ k % 256 : Nat) ∧ vi = .int .i64 k ∧ x < 256 ∧ y < 256 ∧ Hid (XorI a b k x y n)) (fun _ _ _ _ i => 8 - (intOf i).toNat)
  case atStart => exact ⟨0, a, b, 0, by omega, rfl, rfl, rfl, rfl, rfl, ha, hb, by show XorI _ _ _ _ _ _; exact ⟨by simp, by simp, by simp⟩⟩
  case round =>
    obtain ⟨k, x, y, n, hk, rfl, rfl, rfl, rfl, rfl, hx, hy, hX⟩ := hrel
    by_cases hlt : k < 8
    · obtain ⟨c, hc, hc1, hc2, hc3⟩ := pow_k hlt
      have hX2 : Hid (XorI a b (k + 1) (x / 2) (y / 2) (n + if x % 2 = y % 2 then 0 else c)) := by rw [← hc1]; exact hX.out.next
      rw [hc2]
      by_cases hp : x % 2 = y % 2
      · rw [if_pos hp] at hX2
        have hq : ((x : Int) % 2 != (y : Int) % 2) = false := by simp; omega
        have hm : IntKind.u8.wrap ((c : Int) * 2) = ((2 ^ (k + 1) % 256 : Nat) : Int) := by rw [IntKind.wrap_u8, ← hc3]; omega
        clear hX hc hc1 hc2 hc3 hp
        go_wp2_with fail
        go_round
        case rel => exact ⟨k + 1, x / 2, y / 2, n, by omega, by go_num, by go_num, rfl, by go_num, by go_num, by omega, by omega, hX2⟩
        case measure => simp [intOf]; omega
      · rw [if_neg hp] at hX2
        have hq : ((x : Int) % 2 != (y : Int) % 2) = true := by simp; omega
        have hm : IntKind.u8.wrap ((c : Int) * 2) = ((2 ^ (k + 1) % 256 : Nat) : Int) := by rw [IntKind.wrap_u8, ← hc3]; omega
        have hnc : n + c < 256 := by
          have h1 := hX2.out.1
          have h2 := xor_lt ha hb
          have h3 := Nat.zero_le (2 ^ (k + 1) * (x / 2 ^^^ y / 2))
          omega
        clear hX hc hc1 hc2 hc3 hp
        go_wp2_with fail
        go_round
        case rel => exact ⟨k + 1, x / 2, y / 2, n + c, by omega, by go_num, by go_num, by go_num, by go_num, by go_num, by omega, by omega, hX2⟩
        case measure => simp [intOf]; omega
    · obtain rfl : k = 8 := by omega
      have hD := hX.out.done ha hb
      clear hX
      go_wp2_with fail
      go_ret
      exact ⟨rfl, rfl⟩
end Go.Proofs.YtejlbgllfkfkfaaDoor
