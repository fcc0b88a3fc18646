/-
  wsframe's small functions, by their contracts: isControl, mayOp, shortest, behind, putNumber. Conditions: those that each theorem names.
-/
import Derived.Test.YtffgjnohlcodaaaDoorItu
namespace Go.Proofs.YtffgjnohlcodaaaDoor
open Go.RowKit Go.WideShapes

theorem ictl_any (op : Nat) (w : World) : Calls Tryd.prog 23 #[.int .u8 op] w fun e w' => e = .returned (.bool (decide (8 ≤ op))) ∧ w = w' := by
  go_enter Tryd.func23, Tryd.ntmps23
  go_wp2_with fail
  go_ret
  have h : decide ((8 : Int) ≤ (op : Int)) = decide (8 ≤ op) := by rw [decide_eq_decide]; omega
  exact ⟨by rw [← h]; rfl, rfl⟩
def okB (op : Nat) (fin : Bool) : Bool := decide (op < 3 ∨ (7 < op ∧ op < 11 ∧ fin = true))
theorem imayOp_any (op : Nat) (fin : Bool) (w : World) : Calls Tryd.prog 24 #[.int .u8 op, .bool fin] w fun e w' => e = .returned (.bool (okB op fin)) ∧ w = w' := by
  by_cases h0 : op = 0 ∨ op = 1 ∨ op = 2
  · have e : okB op fin = true := decide_eq_true (by omega)
    rw [e]
    rcases h0 with rfl | rfl | rfl
    all_goals
      clear e
      go_enter Tryd.func24, Tryd.ntmps24
      go_wp2
      go_ret
      exact ⟨rfl, rfl⟩
  by_cases h1 : op = 8 ∨ op = 9 ∨ op = 10
  · have e : okB op fin = fin := by
      unfold okB
      cases fin
      · exact decide_eq_false (by simp; omega)
      · exact decide_eq_true (by simp; omega)
    rw [e]
    clear h0
    rcases h1 with rfl | rfl | rfl
    all_goals
      clear e
      go_enter Tryd.func24, Tryd.ntmps24
      go_wp2
      go_ret
      exact ⟨rfl, rfl⟩
  have e : okB op fin = false := decide_eq_false (by omega)
  rw [e]
  have n0 : ((op : Int) == 0) = false := beq_eq_false_iff_ne.2 (by omega)
  have n1 : ((op : Int) == 1) = false := beq_eq_false_iff_ne.2 (by omega)
  have n2 : ((op : Int) == 2) = false := beq_eq_false_iff_ne.2 (by omega)
  have n8 : ((op : Int) == 8) = false := beq_eq_false_iff_ne.2 (by omega)
  have n9 : ((op : Int) == 9) = false := beq_eq_false_iff_ne.2 (by omega)
  have n10 : ((op : Int) == 10) = false := beq_eq_false_iff_ne.2 (by omega)
  clear h0 h1 e
  go_enter Tryd.func24, Tryd.ntmps24
  go_wp2
  go_ret
  exact ⟨rfl, rfl⟩
def formN (n : Nat) : Nat := if 65536 ≤ n then 127 else if 126 ≤ n then 126 else n
theorem formN_lt (n : Nat) : formN n < 128 := by unfold formN; split <;> (try split) <;> omega
theorem ishort_any (n : Nat) (hn : n < 18446744073709551616) (w : World) : Calls Tryd.prog 19 #[.int .u64 n] w fun e w' => e = .returned (.int .u8 (formN n : Nat)) ∧ w = w' := by
  unfold formN
  by_cases h1 : 65536 ≤ n
  · rw [if_pos h1]
    have h1' : (65536 : Int) ≤ n := by omega
    clear h1
    go_enter Tryd.func19, Tryd.ntmps19
    go_wp2
    go_ret
    exact ⟨rfl, rfl⟩
  rw [if_neg h1]
  have h1' : ¬ (65536 : Int) ≤ n := by omega
  by_cases h2 : 126 ≤ n
  · rw [if_pos h2]
    have h2' : (126 : Int) ≤ n := by omega
    clear h1 h2
    go_enter Tryd.func19, Tryd.ntmps19
    go_wp2
    go_ret
    exact ⟨rfl, rfl⟩
  rw [if_neg h2]
  have h2' : ¬ (126 : Int) ≤ n := by omega
  have hw : IntKind.u8.wrap (n : Int) = (n : Int) := by rw [IntKind.wrap_u8]; omega
  clear h1 h2
  go_enter Tryd.func19, Tryd.ntmps19
  go_wp2
  go_ret
  exact ⟨rfl, rfl⟩
def behindN (f : Nat) : Nat := if f = 127 then 8 else if f = 126 then 2 else 0
theorem ibehind_any (f : Nat) (w : World) : Calls Tryd.prog 21 #[.int .u8 f] w fun e w' => e = .returned (.int .i64 (behindN f : Nat)) ∧ w = w' := by
  unfold behindN
  by_cases h1 : f = 127
  · subst h1
    go_enter Tryd.func21, Tryd.ntmps21
    go_wp2
    go_ret
    exact ⟨rfl, rfl⟩
  rw [if_neg h1]
  have n1 : ((f : Int) == 127) = false := beq_eq_false_iff_ne.2 (by omega)
  by_cases h2 : f = 126
  · subst h2
    clear h1 n1
    go_enter Tryd.func21, Tryd.ntmps21
    go_wp2
    go_ret
    exact ⟨rfl, rfl⟩
  rw [if_neg h2]
  have n2 : ((f : Int) == 126) = false := beq_eq_false_iff_ne.2 (by omega)
  clear h1 h2
  go_enter Tryd.func21, Tryd.ntmps21
  go_wp2
  go_ret
  exact ⟨rfl, rfl⟩

theorem be_take (m n : Nat) {k : Nat} (h : k < m) : (be m n).take (k + 1) = (be m n).take k ++ [UInt8.ofNat (n / 256 ^ (m - 1 - k))] := by
  induction m generalizing k with
  | zero => omega
  | succ m ih =>
    cases k with
    | zero => simp [be]
    | succ k =>
      have := ih (k := k) (by omega)
      simp only [be, List.take_succ_cons, this, List.cons_append]
      rw [show m + 1 - 1 - (k + 1) = m - 1 - k by omega]
set_option maxRecDepth 100000 in
set_option maxHeartbeats 1000000 in
theorem iputN_any {base : Nat} {A : Option Addr} {c : Nat} {l : List UInt8} {n m : Nat} {w : World} (_hn : n < 18446744073709551616) (hm : m ≤ 8) (hO : OwB w base 5 (.slice A l.length c) l) (hl : l.length ≤ 1000000) (hbase : base ≤ w.heap.size) :
    Calls Tryd.prog 20 #[.slice A l.length c, .int .u64 n, .int .i64 m] w fun e w' => ∃ A' c', e = .returned (.slice A' (l ++ be m n).length c') ∧ OwB w' base 5 (.slice A' (l ++ be m n).length c') (l ++ be m n) ∧ Below base w w' := by
  obtain ⟨i0, hi0, hz0, hz1, hz2⟩ := infoI infoI8
  have HO := Lib.hid hO
  clear hO
  go_enter Tryd.func20, Tryd.ntmps20
  go_wp2_with fail
  go_loopw [0, 9] (fun sv iv wr => ∃ (k : Nat) (L : List UInt8) (A : Option Addr) (c : Nat), k ≤ m ∧ sv = .slice A L.length c ∧ iv = .int .i64 k ∧ L.length ≤ 1000000 + k ∧ Hid (L = l ++ (be m n).take k) ∧ Hid (OwB wr base 5 (.slice A L.length c) L) ∧ Hid (Below base w wr)) (fun _ iv _ => m - (intOf iv).toNat)
  case atStart => exact ⟨0, l, A, c, Nat.zero_le _, rfl, rfl, hl, by show _ = _; simp, HO, Below.refl _ _⟩
  case round =>
    obtain ⟨k, L, A, c, hkm, rfl, rfl, hLl, hL, hO, hBw⟩ := hrel
    by_cases hlt : k < m
    · have h1 : IntKind.i64.wrap ((m : Int) - 1) = ((m - 1 : Nat) : Int) := by rw [IntWalk.i64_in _ (by omega)]; omega
      have h2 : IntKind.i64.wrap (((m - 1 : Nat) : Int) - k) = ((m - 1 - k : Nat) : Int) := by rw [IntWalk.i64_in _ (by omega)]; omega
      have h3 : IntKind.i64.wrap (8 * ((m - 1 - k : Nat) : Int)) = ((8 * (m - 1 - k) : Nat) : Int) := by rw [IntWalk.i64_in _ (by omega)]; omega
      have hL9 : L.length ≤ 1000008 := by omega
      have HV : Hid (UInt8.ofNat ((n : Int) / 2 ^ (8 * (m - 1 - k)) % 256).toNat = UInt8.ofNat (n / 256 ^ (m - 1 - k))) := by
        show _ = _
        have e1 : ((n : Int) / 2 ^ (8 * (m - 1 - k)) % 256) = ((n / 256 ^ (m - 1 - k) % 256 : Nat) : Int) := by
          have e2 : (256 : Nat) ^ (m - 1 - k) = 2 ^ (8 * (m - 1 - k)) := by rw [Nat.pow_mul]
          rw [e2]
          simp
        rw [e1, Int.toNat_natCast, ← UInt8.toNat_inj]
        simp
      have hv0 : 0 ≤ ((n : Int) / 2 ^ (8 * (m - 1 - k)) % 256) := Int.emod_nonneg _ (by omega)
      have hv1 : ((n : Int) / 2 ^ (8 * (m - 1 - k)) % 256) < 256 := Int.emod_lt_of_pos _ (by omega)
      have hsz := hBw.out.size
      go_wp2_with (at_builtin; go_loud (refine wpList_appB1 rfl (.tmp 12) (.tmp 21) 23 rfl base 5 i0 Tryd.underlying23 hi0 hz0 hz1 hz2 _ L rfl (World.ownsRow.alloc hO.out _) wr.heap.size _ _ rfl (cell_newI _ _ _ _) hv0 hv1 (by omega) (by simp; omega) ?_; intro A3 c3 L3 w3 hL3 ho3 hb3))
      go_roundw
      case rel => exact ⟨k + 1, L3, A3, c3, by omega, rfl, by go_num, by rw [hL3.out, List.length_append]; simp; omega, by show _ = _; rw [hL3.out, HV.out, be_take m n hlt, hL.out, List.append_assoc], ho3, hBw.out.trans (((Below.refl _ _).alloc (by omega) _).trans hb3)⟩
      case measure => simp [intOf]; omega
    · obtain rfl : k = m := by omega
      have e : l ++ be k n = L := by rw [hL.out, List.take_of_length_le (by rw [be_length]; omega)]
      have HE := Lib.hid e
      clear hL e
      go_wp2_with fail
      go_ret
      rw [HE.out]
      exact ⟨_, _, rfl, hO.out, hBw.out⟩
end Go.Proofs.YtffgjnohlcodaaaDoor
