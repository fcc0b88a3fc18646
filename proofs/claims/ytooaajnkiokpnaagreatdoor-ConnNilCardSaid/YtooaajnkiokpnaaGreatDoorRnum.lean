/-
  The document's answers for frames: texts of bytes, Number, Value, low, pads, leans, by their contracts. Conditions: those that each theorem names.
-/
import Derived.Test.YtooaajnkiokpnaaGreatDoorFnum
import Derived.Test.YtooaajnkiokpnaaGreatDoorFput
namespace Go.Proofs.YtooaajnkiokpnaaGreatDoor
open Go.RowKit Go.WideShapes

/-- Bytes as a text. -/
def tb (l : List UInt8) : ByteArray := ⟨l.toArray⟩
theorem tb_size (l : List UInt8) : (tb l).size = l.length := by simp [tb, ByteArray.size]
theorem tb_nil : tb [] = ⟨#[]⟩ := rfl
theorem tb_append (a b : List UInt8) : tb a ++ tb b = tb (a ++ b) := by unfold tb; rw [ByteArray.mk_append_mk]
theorem tb_extract (l : List UInt8) (i j : Nat) : (tb l).extract i j = tb ((l.drop i).take (j - i)) := by unfold tb; rw [ByteArray.extract_mk]
theorem tb_add (a b : List UInt8) (ha : a.length ≤ 1000000) (hb : b.length ≤ 1000000) (W : World) : (Op.stringOp .add (tb a) (tb b)).run Tryz.prog W = .ok (.string (tb (a ++ b))) W := by
  rw [← tb_append]
  exact run_string_add W (tb a) (tb b) (by rw [tb_size]; omega) (by rw [tb_size]; omega)
theorem tb_cut (l : List UInt8) (i j : Int) (h0 : 0 ≤ i) (hij : i ≤ j) (hj : j ≤ l.length) (W : World) : (Instr.slice 9 (.string (tb l)) (some (.int .i64 i)) (some (.int .i64 j)) none).run Tryz.prog W = .ok (.string (tb ((l.drop i.toNat).take (j.toNat - i.toNat)))) W := by
  rw [run_slice_string (P := Tryz.prog) W 9 (tb l) .i64 .i64 i j Tryz.underlying9 h0 hij (by rw [tb_size]; omega), tb_extract]
theorem tb_upto (l : List UInt8) (j : Int) (h0 : 0 ≤ j) (hj : j ≤ l.length) (W : World) : (Instr.slice 9 (.string (tb l)) none (some (.int .i64 j)) none).run Tryz.prog W = .ok (.string (tb (l.take j.toNat))) W := by
  have h := run_slice_string_h (P := Tryz.prog) (s := tb l) W 9 Tryz.underlying9 .i64 j h0 (by rw [tb_size]; omega)
  rw [h, tb_extract]
  simp
theorem tb_from (l : List UInt8) (i : Int) (h0 : 0 ≤ i) (hi : i ≤ l.length) (W : World) : (Instr.slice 9 (.string (tb l)) (some (.int .i64 i)) none none).run Tryz.prog W = .ok (.string (tb (l.drop i.toNat))) W := by
  have h := run_slice_string_l (P := Tryz.prog) (s := tb l) W 9 Tryz.underlying9 .i64 i h0 (by rw [tb_size]; omega)
  rw [h, tb_extract, tb_size, List.take_of_length_le (by simp)]
theorem tb_at (l : List UInt8) (j : Nat) (h : j < l.length) (W : World) : (Instr.index 9 (.string (tb l)) (.int .i64 (j : Int))).run Tryz.prog W = .ok (.int .u8 (l[j].toNat : Int)) W := by
  have h1 : 0 ≤ (j : Int) ∧ (j : Int) < (tb l).size := by rw [tb_size]; omega
  rw [run_index_string (P := Tryz.prog) W 9 (tb l) .i64 (j : Int) Tryz.underlying9, dif_pos h1]
  rfl
/-- A literal of one byte, of two, as a text. -/
theorem text1 (x : Nat) (hx : x < 256) (W : World) : (convert 22 9 (.slice (some ⟨W.heap.size, 0, none⟩) 1 1)).run Tryz.prog (W.alloc (.cells #[.int .u8 (x : Int)] 5)) = .ok (.string (tb [UInt8.ofNat x])) (W.alloc (.cells #[.int .u8 (x : Int)] 5)) := by
  have hb : (#[Value.int .u8 (x : Int)]).toList = byc [UInt8.ofNat x] := by simp [byc]; omega
  exact run_text (P := Tryz.prog) (l := [UInt8.ofNat x]) (c := 1) Tryz.underlying22 Tryz.underlying5 Tryz.underlying9 (RdB.row (B := W.heap.size + 1) (Row.new W _ _) hb (Nat.lt_succ_self _))
theorem text2 (x y : Nat) (hx : x < 256) (hy : y < 256) (W : World) : (convert 22 9 (.slice (some ⟨W.heap.size, 0, none⟩) 2 2)).run Tryz.prog (W.alloc (.cells #[.int .u8 (x : Int), .int .u8 (y : Int)] 5)) = .ok (.string (tb [UInt8.ofNat x, UInt8.ofNat y])) (W.alloc (.cells #[.int .u8 (x : Int), .int .u8 (y : Int)] 5)) := by
  have hb : (#[Value.int .u8 (x : Int), .int .u8 (y : Int)]).toList = byc [UInt8.ofNat x, UInt8.ofNat y] := by simp [byc]; omega
  exact run_text (P := Tryz.prog) (l := [UInt8.ofNat x, UInt8.ofNat y]) (c := 2) Tryz.underlying22 Tryz.underlying5 Tryz.underlying9 (RdB.row (B := W.heap.size + 1) (Row.new W _ _) hb (Nat.lt_succ_self _))
theorem be_step (k n : Nat) : UInt8.ofNat (n / 256 ^ k % 256) :: be k n = be (k + 1) n := by
  show _ = UInt8.ofNat (n / 256 ^ k) :: be k n
  congr 1
  rw [← UInt8.toNat_inj]
  simp

set_option maxRecDepth 100000 in
set_option maxHeartbeats 1000000 in
theorem rnumber_any (n m : Nat) (hn : n < 18446744073709551616) (hm : m ≤ 8) (w : World) : Calls Tryz.prog 62 #[.int .u64 n, .int .i64 m] w fun e w' => e = .returned (.string (tb (be m n))) ∧ Below w.heap.size w w' := by
  go_enter Tryz.func62, Tryz.ntmps62
  go_wp2_with fail
  go_loopw [0, 5, 6] (fun a s i wr => ∃ (k q : Nat) (x : List UInt8), k ≤ m ∧ a = .int .u64 q ∧ q < 18446744073709551616 ∧ i = .int .i64 k ∧ s = .string (tb x) ∧ x.length = k ∧ Hid (q = n / 256 ^ k) ∧ Hid (x = be k n) ∧ Hid (Below w.heap.size w wr)) (fun _ _ i _ => m - (intOf i).toNat)
  case atStart => exact ⟨0, n, [], Nat.zero_le _, rfl, hn, rfl, rfl, rfl, by show _ = _; simp, by show _ = _; rfl, Below.refl _ _⟩
  case round =>
    obtain ⟨k, q, x, hk, rfl, hq, rfl, rfl, hxl, hqe, hxe, hB⟩ := hrel
    by_cases hlt : k < m
    · have hX2 : Hid (UInt8.ofNat (q % 256) :: x = be (k + 1) n) := by show _ = _; rw [hqe.out, hxe.out]; exact be_step k n
      have hQ2 : Hid (q / 256 = n / 256 ^ (k + 1)) := by show _ = _; rw [hqe.out, Nat.pow_succ, Nat.div_div_eq_div_mul]
      have hxl9 : x.length ≤ 9 := by omega
      have HXL := Lib.hid hxl
      obtain ⟨d, hd⟩ : ∃ d, d = q % 256 := ⟨_, rfl⟩
      have hd256 : d < 256 := by omega
      have hm1 : (q : Int) % 256 = (d : Int) := by omega
      rw [← hd] at hX2
      have hadd := tb_add [UInt8.ofNat d] x (by simp) (by omega)
      have ht1 := text1 d hd256
      clear hqe hxe hxl hd
      go_wp2_with fail
      have hsz := hB.out.size
      go_roundw
      case rel => exact ⟨k + 1, q / 256, UInt8.ofNat d :: x, by omega, by go_num, by omega, by go_num, rfl, by simp; exact HXL.out, hQ2, hX2, hB.out.alloc hsz _⟩
      case measure => simp [intOf]; omega
    · obtain rfl : k = m := by omega
      go_wp2_with fail
      go_ret
      rw [← hxe.out]
      exact ⟨rfl, hB.out⟩

theorem valL_take (l : List UInt8) {k : Nat} (h : k < l.length) : valL (l.take (k + 1)) = 256 * valL (l.take k) + l[k].toNat := by
  rw [List.take_add_one, List.getElem?_eq_getElem h]
  exact valL_snoc _ _
set_option maxRecDepth 100000 in
set_option maxHeartbeats 1000000 in
theorem rvalue_any (l : List UInt8) (hl : l.length ≤ 4) (w : World) : Calls Tryz.prog 59 #[.string (tb l)] w fun e w' => e = .returned (.int .u32 (valL l : Nat)) ∧ w = w' := by
  have hsz := tb_size l
  go_enter Tryz.func59, Tryz.ntmps59
  go_wp2_with fail
  go_loop [3, 4] (fun a i => ∃ (k v : Nat), k ≤ l.length ∧ i = .int .i64 k ∧ a = .int .u32 v ∧ v < 4294967296 ∧ Hid (v = valL (l.take k))) (fun _ i => l.length - (intOf i).toNat)
  case atStart => exact ⟨0, 0, Nat.zero_le _, rfl, rfl, by omega, by show _ = _; rfl⟩
  case round =>
    obtain ⟨k, v, hk, rfl, rfl, hv, hve⟩ := hrel
    by_cases hlt : k < l.length
    · have hat := tb_at l k hlt
      have hn2 := valL_take l hlt
      have hlt4 := valL_lt (l.take (k + 1))
      have hp4 : 256 ^ (l.take (k + 1)).length ≤ 256 ^ 4 := Nat.pow_le_pow_right (by omega) (by rw [List.length_take]; omega)
      rw [← hve.out] at hn2
      have h256 := l[k].toNat_lt
      have hN : Hid (256 * v + l[k].toNat = valL (l.take (k + 1))) := hn2.symm
      have hv4 : 256 * v + l[k].toNat < 4294967296 := by omega
      clear hve hn2 hlt4 hp4
      generalize l[k].toNat = b at *
      go_wp2_with fail
      go_round
      case rel => exact ⟨k + 1, 256 * v + b, by omega, by go_num, by go_num, hv4, hN⟩
      case measure => simp [intOf]; omega
    · obtain rfl : k = l.length := by omega
      have he : v = valL l := by rw [hve.out, List.take_length]
      have HE := Lib.hid he
      clear he hve
      go_wp2_with fail
      go_ret
      rw [← HE.out]
      exact ⟨rfl, rfl⟩

theorem rlow_any (n : Nat) (hn : n < 4294967296) (w : World) : Calls Tryz.prog 91 #[.int .u32 n] w fun e w' => e = .returned (.int .u32 (n % 2147483648 : Nat)) ∧ w = w' := by
  have hm : IntKind.u32.wrap ((n : Int) % 2147483648) = ((n % 2147483648 : Nat) : Int) := by rw [IntKind.wrap_u32]; omega
  go_enter Tryz.func91, Tryz.ntmps91
  go_wp2_with fail
  go_ret
  exact ⟨ret1 (by omega), rfl⟩
theorem rpads_any (ty : Nat) (w : World) : Calls Tryz.prog 93 #[.int .u8 ty] w fun e w' => e = .returned (.bool (decide (ty = 0 ∨ ty = 1 ∨ ty = 5))) ∧ w = w' := by
  by_cases h0 : ty = 0
  · subst h0
    go_enter Tryz.func93, Tryz.ntmps93
    go_wp2_with fail
    go_ret
    exact ⟨rfl, rfl⟩
  have h0' : ((ty : Int) == 0) = false := ne_int h0
  by_cases h1 : ty = 1
  · subst h1
    go_enter Tryz.func93, Tryz.ntmps93
    go_wp2_with fail
    go_ret
    exact ⟨rfl, rfl⟩
  have h1' : ((ty : Int) == 1) = false := ne_int h1
  by_cases h5 : ty = 5
  · subst h5
    go_enter Tryz.func93, Tryz.ntmps93
    go_wp2_with fail
    go_ret
    exact ⟨rfl, rfl⟩
  have h5' : ((ty : Int) == 5) = false := ne_int h5
  rw [decide_eq_false (by omega)]
  clear h0 h1 h5
  go_enter Tryz.func93, Tryz.ntmps93
  go_wp2_with fail
  go_ret
  exact ⟨rfl, rfl⟩
end Go.Proofs.YtooaajnkiokpnaaGreatDoor
