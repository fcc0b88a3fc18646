/-
  What the statements share: how much is gone through; a scope as a fault; an account's place. By their contracts. No conditions but those that each theorem names.
-/
import Derived.Test.YtplohgaecoobaaaUar
import Derived.Lib.MinMax
namespace Go.Proofs.Ytplohgaecoobaaa
open Go.RowKit Go.WideShapes

/-- How much operations come to. -/
def sm13 : List Ov → Nat
  | [] => 0
  | o :: L => 1 + min o.b.length 9000 + sm13 L
theorem sm13_append : ∀ (L M : List Ov), sm13 (L ++ M) = sm13 L + sm13 M
  | [], M => by simp [sm13]
  | o :: L, M => by rw [List.cons_append, sm13, sm13, sm13_append L M]; omega
theorem sm13_take {L : List Ov} {k : Nat} (hk : k < L.length) : sm13 (L.take (k + 1)) = sm13 (L.take k) + (1 + min L[k].b.length 9000) := by
  rw [List.take_succ_eq_append_getElem hk, sm13_append, sm13, sm13]
  omega
theorem sm13_le : ∀ (L : List Ov), sm13 L ≤ L.length * 9001
  | [] => by simp [sm13]
  | o :: L => by
    have := sm13_le L
    rw [sm13, List.length_cons]
    omega
/-- Few operations, few bytes. -/
def Few (L : List Ov) : Prop := L.length ≤ 300 ∧ sm13 L ≤ 9000
/-- What the bound answers. -/
def GrP (w : World) (L : List Ov) (e : Ending) (w' : World) : Prop := ∃ t, e = .returned (.bool t) ∧ (t = false → Few L) ∧ Below w.heap.size w w'
theorem ov_at {w : World} {S : Nat → Prop} {A : Option Addr} {L : List Ov} (h : RdS w S A (enl ovl L)) {i : Nat} (hi : i < L.length) : ∃ b q, A = some ⟨b, q, none⟩ ∧ S b ∧ w.rangeAt b (q + i * 7) (ovc L[i]).toList := h.elem ovl_len hi (by omega)
attribute [local irreducible] ovc
set_option maxRecDepth 100000 in
set_option maxHeartbeats 4000000 in
theorem great_any {w : World} {A : Option Addr} {c : Nat} {L : List Ov} (hR : RdS w (· < w.heap.size) A (enl ovl L)) (hl : L.length ≤ 9223372036854775807) : Calls Try.prog 8 #[.slice A L.length c] w (GrP w L) := by
  go_enter Try.func8, Try.ntmps8
  go_wp2_with fail
  have HR := Lib.hid hR
  clear hR
  go_loopw [3, 8] (fun n i wr => ∃ (k : Nat) (z : Int), k ≤ L.length ∧ i = .int .i64 k ∧ n = .int .i64 z ∧ Hid (L.length ≤ 300 → z = (sm13 (L.take k) : Int)) ∧ Hid (Below w.heap.size w wr)) (fun _ i _ => L.length - (intOf i).toNat)
  case atStart => exact ⟨0, 0, Nat.zero_le _, rfl, rfl, fun _ => rfl, Below.refl _ _⟩
  case round =>
    obtain ⟨k, z, hk, rfl, rfl, hZ, hB⟩ := hrel
    by_cases hlt : k < L.length
    · obtain ⟨b, q, rfl, hb, hr⟩ := ov_at (HR.out.below hB.out) hlt
      have HXC := Lib.hid hr
      have HST := Lib.hid (sm13_take hlt)
      have HSL := Lib.hid (sm13_le (L.take (k + 1)))
      obtain ⟨o, ho⟩ : ∃ o, o = L[k] := ⟨_, rfl⟩
      rw [← ho] at HXC HST
      obtain ⟨w2, hw2, u1, u2, u3, u4⟩ := one_ov wr o
      have HW2 := Lib.hid hw2
      have U1 := Lib.hid u1
      have U2 := Lib.hid u2
      have HB2 := Lib.hid (hB.out.trans (u3.mono hB.out.size))
      have c3 := (ov_cells u2).2.2.2.1
      clear hr ho hw2 u1 u2 u3 u4 hb hB
      go_upto_region 5 with (first | (refine wpList_ldm (cs := ovc o) rfl _ rfl rfl HXC.out (ov_ok _) ?_) | (refine wpList_sw (cs := ovc o) rfl _ _ rfl rfl rfl U1.out (by rw [ov_size]; rfl) (ov_ok _) ?_))
      rw [HW2.out]
      clear HW2 U1 HXC
      generalize wr.heap.size = p at *
      obtain ⟨r, hr⟩ : ∃ r, r = min o.b.length 9000 := ⟨_, rfl⟩
      have hrm : min (o.b.length : Int) 9000 = (r : Int) := by omega
      have hr9 : r ≤ 9000 := by omega
      rw [← hr] at HST
      have s1 : IntKind.i64.wrap (1 + (r : Int)) = 1 + (r : Int) := IntWalk.i64_in _ (by omega)
      obtain ⟨z', hz'⟩ : ∃ z', IntKind.i64.wrap (z + (1 + (r : Int))) = z' := ⟨_, rfl⟩
      have HZ2 : Hid (L.length ≤ 300 → z' = (sm13 (L.take (k + 1)) : Int)) := fun h => by
        have h1 := hZ.out h
        have h2 := HST.out
        have h3 := HSL.out
        have h4 : (L.take (k + 1)).length ≤ 300 := by rw [List.length_take]; omega
        have h5 : (L.take (k + 1)).length * 9001 ≤ 300 * 9001 := Nat.mul_le_mul_right _ h4
        rw [← hz', IntWalk.i64_in _ (by omega)]
        omega
      clear hr hZ HST HSL
      go_wp2_with fail
      go_roundw
      case rel => exact ⟨k + 1, z', by omega, by go_num, rfl, HZ2, HB2⟩
      case measure => simp [intOf]; omega
    · obtain rfl : k = L.length := by omega
      by_cases h3 : 300 < L.length
      · have h3t : (300 : Int) < (L.length : Int) := by omega
        clear hZ
        go_wp2_with fail
        go_ret
        exact ⟨true, rfl, (fun h => by cases h), hB.out⟩
      · have hz := hZ.out (by omega)
        rw [List.take_of_length_le (Nat.le_refl _)] at hz
        have h3' : decide ((300 : Int) < (L.length : Int)) = false := decide_eq_false (by omega)
        have HF : Hid (z ≤ 9000 → Few L) := fun h => ⟨by omega, by omega⟩
        clear hz hZ h3
        go_wp2_with fail
        go_ret
        exact ⟨decide (9000 < z), rfl, fun h => HF.out (by have := of_decide_eq_false h; omega), hB.out⟩
/-- A scope as a fault. -/
def tdc (s : Int) : Array Value := if s = 0 then ftc 0 0 else ftc s.toNat 3
set_option maxRecDepth 100000 in
theorem told_any (s : Int) (h : 0 ≤ s ∧ s ≤ 3) (w : World) : Calls Try.prog 32 #[.int .i64 s] w fun e w' => e = .returned (.agg (tdc s)) ∧ Below w.heap.size w w' := by
  obtain ⟨t1, t2, t3⟩ := fault_var w
  have T1 := Lib.hid t1
  have T2 := Lib.hid t2
  clear t1 t2 t3
  obtain ⟨k, rfl⟩ := Int.eq_ofNat_of_zero_le h.1
  by_cases h0 : k = 0
  · subst h0
    go_enter Try.func32, Try.ntmps32
    go_upto_region 1 with fail
    generalize w.alloc (.cells #[.int .u8 0, .int .u32 0] 56) = w1 at *
    go_wp2_with (refine wpList_sw (cs := ftc 0 0) rfl _ _ rfl rfl rfl T1.out (ft_sz _ _ _ _) (ft_ok _ _) ?_)
    exact bodyPost_ret (ret_ag rfl _ rfl (T1.out.setRow _) (ft_ok _ _)) rfl ⟨rfl, below_setRow T2.out _ _ (Nat.le_refl _)⟩
  · have e0 : ((k : Int) == 0) = false := by rw [beq_eq_false_iff_ne]; omega
    have hw : IntKind.u8.wrap (k : Int) = (k : Int) := IntWalk.u8_in _ (by omega)
    have hd : tdc (k : Int) = ftc k 3 := by unfold tdc; rw [if_neg (by omega)]; rfl
    rw [hd]
    clear hd h h0
    go_enter Try.func32, Try.ntmps32
    go_upto_region 1 with fail
    generalize w.alloc (.cells #[.int .u8 0, .int .u32 0] 56) = w1 at *
    go_wp2_with (refine wpList_sw (cs := ftc k 3) rfl _ _ rfl rfl rfl T1.out (ft_sz _ _ _ _) (ft_ok _ _) ?_)
    exact bodyPost_ret (ret_ag rfl _ rfl (T1.out.setRow _) (ft_ok _ _)) rfl ⟨rfl, below_setRow T2.out _ _ (Nat.le_refl _)⟩
end Go.Proofs.Ytplohgaecoobaaa
