/-
  The document's Decode, by its contract. Conditions: at most 12000 bytes.
  The document's Get, by its contract. Conditions: at most 65536 bytes.
  Bits as texts of 0 and 1, as the document's answers have them, and one more than a row of bits. No conditions but those that each theorem names; no program.
  The document's one and its Sizes, by their contracts. Conditions: at most 1000 bits.
  The document's bits and begins, by their contracts. Conditions: those that each theorem names.
  A slice literal of many elements of one cell each, over whatever program. No conditions but those that each theorem names.
  The document's Sizes, by its contract.
  The document's Codes, by its contract.
-/
import Derived.Test.YtfajffchnnalaaaQget
import Derived.Test.YtfajffchnnalaaaHmath
import Derived.WalkKit
import Derived.Test.YtfajffchnnalaaaProg
import Derived.Test.YtfajffchnnalaaaArr
import Derived.Test.YtfajffchnnalaaaHlen
import Derived.Test.YtfajffchnnalaaaBytes
import Derived.Test.YtfajffchnnalaaaHfst
import Derived.Test.YtfajffchnnalaaaHdec
import Derived.Test.YtfajffchnnalaaaHdecp

namespace Go.Proofs.Ytfajffchnnalaaa
open Go.RowKit Go.WideShapes

theorem rget_arg (k : Int) (hno : ¬ (1 ≤ k ∧ k ≤ 8)) (A : Option Addr) (n c : Nat) (w : World) :
    Calls Try.prog 32 #[.slice A n c, .int .i64 k] w fun e w' => Three .u32 .i64 .i64 (0, 0, 1) e ∧ w = w' := by
  by_cases h1 : k < 1
  · go_enter Try.func32, Try.ntmps32
    go_wp2
    go_ret3
    exact ⟨rfl, rfl⟩
  · have h8 : 8 < k := by omega
    have h1' : decide (k < 1) = false := by simp; omega
    clear hno
    go_enter Try.func32, Try.ntmps32
    go_wp2
    go_ret3
    exact ⟨rfl, rfl⟩

set_option maxRecDepth 100000 in
set_option maxRecDepth 100000 in
set_option maxHeartbeats 2000000 in
theorem rget_any (k : Nat) (h1 : 1 ≤ k) (h8 : k ≤ 8) (A : Option Addr) (c : Nat) (l : List UInt8) (hl : l.length ≤ 65536) (w : World) (B : Nat) (hr : RdB w B A l) :
    Calls Try.prog 32 #[.slice A l.length c, .int .i64 k] w fun e w' => Three .u32 .i64 .i64 (getL k l) e ∧ w = w' := by
  have hk1 : decide ((k : Int) < 1) = false := by simp; omega
  have hk8 : decide ((8 : Int) < k) = false := by simp; omega
  cases l with
  | nil =>
    go_enter Try.func32, Try.ntmps32
    go_wp2
    go_ret3
    exact ⟨rfl, rfl⟩
  | cons b l =>
    obtain ⟨g, o, rfl, hg, hc⟩ := hr (by simp)
    have hc0 : w.cell? ⟨g, o, none⟩ = some (.int .u8 (b.toNat : Int)) := hc 0 (by simp)
    have hb := b.toNat_lt
    have hp := pow_le h1 h8
    have hone := top_any k
    obtain ⟨lo, hlo⟩ : ∃ lo, lo = b.toNat % 2 ^ k := ⟨_, rfl⟩
    have hlob : lo ≤ 2 ^ k - 1 := by
      have := Nat.mod_lt b.toNat (show 2 ^ k > 0 by omega)
      omega
    have hand : (b.toNat : Int) % (((2 ^ k - 1 : Nat) : Int) + 1) = (lo : Int) := by
      rw [show (((2 ^ k - 1 : Nat) : Int) + 1) = ((2 ^ k : Nat) : Int) by omega, ← Int.natCast_emod, hlo]
    generalize hG : getR 0 0 l = G
    obtain ⟨x, y, z⟩ := G
    have hE : getL k (b :: l) = if lo < 2 ^ k - 1 then (lo, 1, 0) else if z ≠ 0 then (0, 0, z) else if 268435456 - (2 ^ k - 1) < x then (0, 0, 4) else (2 ^ k - 1 + x, 1 + y, 0) := by
      simp only [getL, hG, hlo]
    generalize ht : 2 ^ k - 1 = t at hp hone hand hlob hE
    obtain ⟨p1, p2, _, _⟩ := hp
    have HT := Lib.hid ht
    have HE := Lib.hid hE
    have HG := Lib.hid hG
    have Hlo := Lib.hid hlo
    have HC := Lib.hid hc
    clear ht hE hG hlo hc
    simp only [List.length_cons] at hl
    by_cases hlt : lo < t
    · rw [HE.out, if_pos hlt]
      go_enter Try.func32, Try.ntmps32
      go_wp2_with (go_at_call 49; refine (hone _ h1 h8).mono ?_; rintro e w' ⟨rfl, rfl⟩)
      go_ret3
      exact ⟨rfl, rfl⟩
    · have Hlt : Hid (¬ lo < t) := hlt
      have hle0 : t ≤ lo := by omega
      have hd0 : decide ((lo : Int) < t) = false := by simp; omega
      clear hlt
      have hE2 : Hid (getL k (b :: l) = if z ≠ 0 then (0, 0, z) else if 268435456 - t < x then (0, 0, 4) else (t + x, 1 + y, 0)) := by
        show _ = _
        rw [HE.out, if_neg Hlt.out]
      clear HE Hlt
      generalize getL k (b :: l) = R at hE2
      go_enter Try.func32, Try.ntmps32
      go_wp2_with (go_at_call 49; refine (hone _ h1 h8).mono ?_; rintro e w' ⟨rfl, rfl⟩)
      go_loop [8, 9, 10] (fun n s i => ∃ j r' s' : Nat, j ≤ l.length ∧ j ≤ 4 ∧ i = .int .i64 ((j + 1 : Nat) : Int) ∧ n = .int .u64 ((lo + r' : Nat) : Int) ∧ s = .int .u64 s' ∧ Hid (r' < 128 ^ j) ∧ r' < 268435456 ∧ Hid (s' = 128 ^ j) ∧ s' ≤ 268435456 ∧ Hid (getR j r' (l.drop j) = (x, y, z))) (fun _ _ i => l.length + 1 - (intOf i).toNat)
      case atStart => exact ⟨0, 0, 1, Nat.zero_le _, Nat.zero_le _, rfl, by first | rfl | (rw [hand]; rfl), rfl, by show _ < _; decide, by omega, by show _ = _; decide, by omega, by simpa using HG⟩
      case round =>
        obtain ⟨j, r', s', hj, hj4, rfl, rfl, rfl, hr', hr32, hs', hsb, hG⟩ := hrel
        by_cases hlt : j < l.length
        · have hcell : w.cell? ⟨g, o + (j + 1), none⟩ = some (.int .u8 (l[j].toNat : Int)) := by
            have := HC.out (j + 1) (by simp; omega)
            simpa using this
          have hG' : Hid (getR j r' (l[j] :: l.drop (j + 1)) = (x, y, z)) := by rw [← List.drop_eq_getElem_cons hlt]; exact hG
          generalize l[j] = d at hcell hG'
          have hdb := d.toNat_lt
          clear hG hr HC
          by_cases h4 : j = 4
          · subst h4
            obtain ⟨rfl, rfl, rfl⟩ : x = 0 ∧ y = 0 ∧ z = 4 := by
              have := hG'.out
              rw [getR_four] at this
              simp only [Prod.mk.injEq] at this
              omega
            clear hG'
            go_wp2
            go_ret3
            rw [hE2.out]
            exact ⟨rfl, rfl⟩
          · have hj3 : j ≤ 3 := by omega
            have h4b : decide ((4 : Int) < (j : Int) + 1) = false := by simp; omega
            have hbd := digit_bd (n := d.toNat) hj3
            have hsum := digit_sum (n := d.toNat) hr'.out hj3
            have hrl : r' < 128 ^ j := hr'.out
            have hle : 128 ^ j ≤ 128 ^ (j + 1) := Nat.pow_le_pow_right (by omega) (by omega)
            obtain ⟨D, hD⟩ : ∃ D, D = d.toNat % 128 * 128 ^ j := ⟨_, rfl⟩
            rw [← hD] at hbd hsum
            have hdig : IntKind.u64.wrap ((d.toNat : Int) % 128 * (s' : Int)) = (D : Int) := by
              rw [show ((d.toNat : Int) % 128 * (s' : Int)) = ((d.toNat % 128 * s' : Nat) : Int) by simp, hs'.out, ← hD, IntKind.wrap_u64]
              omega
            obtain ⟨s2, hs2⟩ : ∃ s2, s2 = 128 ^ (j + 1) := ⟨_, rfl⟩
            have hse : (s' : Int) * 128 = (s2 : Int) := by rw [hs2, hs'.out, Nat.pow_succ]; simp
            have hS : Hid (r' + D < 128 ^ (j + 1)) := hsum
            have hS32 : r' + D < 268435456 := by omega
            have hs2b : s2 ≤ 268435456 := by omega
            have Hs2 := Lib.hid hs2
            have HD := Lib.hid hD
            clear hD hbd hsum hrl hle hs2
            by_cases hlast : d.toNat < 128
            · obtain ⟨rfl, rfl, rfl⟩ : x = r' + D ∧ y = j + 1 ∧ z = 0 := by
                have := hG'.out
                rw [getR_last h4 _ hlast, ← HD.out] at this
                simp only [Prod.mk.injEq] at this
                omega
              clear hG'
              by_cases hx2 : 268435456 - t < r' + D
              · have hx3 : (268435456 : Int) < (lo : Int) + r' + D := by omega
                go_wp2
                go_ret3
                rw [hE2.out, if_neg (by simp), if_pos hx2]
                exact ⟨rfl, rfl⟩
              · have hx3 : decide ((268435456 : Int) < (lo : Int) + r' + D) = false := by simp; omega
                go_wp2
                go_ret3
                rw [hE2.out, if_neg (by simp), if_neg hx2]
                exact ⟨ret3 (by simp <;> omega) (by simp <;> omega) rfl, rfl⟩
            · have hG2 : Hid (getR (j + 1) (r' + D) (l.drop (j + 1)) = (x, y, z)) := by
                have := hG'.out
                rw [getR_more h4 _ hlast, ← HD.out] at this
                exact this
              have hnl : decide ((d.toNat : Int) < 128) = false := by simp; omega
              clear hG' hr'
              go_wp2
              go_round
              case rel => exact ⟨j + 1, r' + D, s2, by omega, by omega, by go_num, by go_num, rfl, hS, by omega, Hs2, by omega, hG2⟩
              case measure => simp [intOf]; omega
        · obtain rfl : j = l.length := by omega
          obtain ⟨rfl, rfl, rfl⟩ : x = 0 ∧ y = 0 ∧ z = 2 := by
            have := hG.out
            rw [List.drop_length, getR] at this
            simp only [Prod.mk.injEq] at this
            omega
          clear hG hr'
          go_wp2
          go_ret3
          rw [hE2.out]
          exact ⟨rfl, rfl⟩
end Go.Proofs.Ytfajffchnnalaaa

namespace Go.Proofs.Ytfajffchnnalaaa
open Go.RowKit

def chr (b : Bool) : UInt8 := if b then 49 else 48
/-- A row of bits, as a text. -/
def bs (l : List Bool) : ByteArray := ⟨(l.map chr).toArray⟩
theorem bs_size (l : List Bool) : (bs l).size = l.length := by simp [bs, ByteArray.size]
theorem bs_nil : bs [] = ⟨#[]⟩ := rfl
theorem bs_list (l : List Bool) : (bs l).toList = l.map chr := by unfold bs; rw [ByteArray.toList_mk]
theorem bs_append (a b : List Bool) : bs a ++ bs b = bs (a ++ b) := by
  unfold bs
  rw [ByteArray.mk_append_mk, List.map_append]
theorem chr_inj {a b : Bool} (h : chr a = chr b) : a = b := by revert h; cases a <;> cases b <;> decide
theorem bs_inj {a b : List Bool} (h : bs a = bs b) : a = b := by
  have h1 := congrArg ByteArray.toList h
  rw [bs_list, bs_list] at h1
  exact (List.map_inj_right (fun _ _ => chr_inj)).1 h1
theorem bs_extract (l : List Bool) (i j : Nat) : (bs l).extract i j = bs ((l.drop i).take (j - i)) := by
  unfold bs
  rw [ByteArray.extract_mk, List.map_take, List.map_drop]
theorem bs_at (l : List Bool) {i : Nat} (h : i < (bs l).size) : (bs l)[i] = chr (l[i]'(by rw [bs_size] at h; exact h)) := by
  simp [bs, ByteArray.getElem_eq_getElem_data]
theorem bs_beq (a b : List Bool) : ((bs a).toList == (bs b).toList) = decide (a = b) := by
  rw [bs_list, bs_list, Bool.eq_iff_iff]
  simp only [beq_iff_eq, decide_eq_true_eq]
  exact List.map_inj_right (fun _ _ => chr_inj)

/-- One more than a row of bits; and whether it went round. -/
def inc : List Bool → List Bool × Bool
  | [] => ([], true)
  | b :: l => if (inc l).2 then (if b then (false :: (inc l).1, true) else (true :: (inc l).1, false)) else (b :: (inc l).1, false)
theorem inc_len (l : List Bool) : (inc l).1.length = l.length := by
  induction l with
  | nil => rfl
  | cons b l ih =>
    unfold inc
    split
    · split <;> simp [ih]
    · simp [ih]
theorem inc_val (l : List Bool) : val (inc l).1 + (inc l).2.toNat * 2 ^ l.length = val l + 1 := by
  induction l with
  | nil => rfl
  | cons b l ih =>
    unfold inc
    rw [val_cons]
    split
    · rename_i h
      rw [h] at ih
      split
      · rename_i hb
        subst hb
        simp only [val_cons, inc_len, List.length_cons, Nat.pow_succ, Bool.toNat_false, Bool.toNat_true, Nat.zero_mul, Nat.one_mul, Nat.zero_add] at ih ⊢
        omega
      · rename_i hb
        have hb' : b = false := by simpa using hb
        subst hb'
        simp only [val_cons, inc_len, List.length_cons, Nat.pow_succ, Bool.toNat_false, Bool.toNat_true, Nat.zero_mul, Nat.one_mul, Nat.zero_add, Nat.add_zero] at ih ⊢
        omega
    · rename_i h
      have h' : (inc l).2 = false := by simpa using h
      rw [h'] at ih
      simp only [val_cons, inc_len, Bool.toNat_false, Nat.zero_mul, Nat.add_zero] at ih ⊢
      omega
theorem inc_one {l : List Bool} (h : val l + 1 < 2 ^ l.length) : val (inc l).1 = val l + 1 := by
  have h1 := inc_val l
  cases h2 : (inc l).2 with
  | false => rw [h2] at h1; simpa using h1
  | true =>
    rw [h2] at h1
    have h3 := val_lt (inc l).1
    simp at h1
    omega

/-- How the codes grow: what the last one was, ahead of sign i among those of n bits. -/
def Grow (n i : Nat) (last : List Bool) : Prop :=
  (last = [] ∧ fst n + (lens.take i).count n = 0) ∨ (last ≠ [] ∧ last.length ≤ n ∧ (val last + 1) * 2 ^ (n - last.length) = fst n + (lens.take i).count n)
theorem grow_start : Grow 1 0 [] := .inl ⟨rfl, by decide +kernel⟩
theorem grow_row {n : Nat} {last : List Bool} (h : Grow n 257 last) : Grow (n + 1) 0 last := by
  have hf : fst (n + 1) = (fst n + lens.count n) * 2 := rfl
  unfold Grow at h ⊢
  rw [cnt_all] at h
  rw [List.take_zero, List.count_nil, hf]
  rcases h with ⟨h1, h2⟩ | ⟨h1, h2, h3⟩
  · exact .inl ⟨h1, by omega⟩
  · refine .inr ⟨h1, by omega, ?_⟩
    rw [show n + 1 - last.length = (n - last.length) + 1 by omega, Nat.pow_succ, ← Nat.mul_assoc, h3]
    omega
theorem grow_pass {n i : Nat} {last : List Bool} (h : Grow n i last) (hi : i < 257) (hne : ln i ≠ n) : Grow n (i + 1) last := by
  unfold Grow at h ⊢
  rw [cnt_next hi, if_neg (Ne.symm hne)]
  exact h
/-- The text that the next code is filled up from. -/
def seed (last : List Bool) : List Bool := if last = [] then [] else (inc last).1
theorem seed_nil : seed [] = [] := rfl
theorem seed_more {l : List Bool} (h : l ≠ []) : seed l = (inc l).1 := if_neg h
theorem grow_code {n i : Nat} {last : List Bool} (h : Grow n i last) (hi : i < 257) (he : ln i = n) :
    (seed last).length ≤ n ∧ seed last ++ List.replicate (n - (seed last).length) false = codeB i ∧ Grow n (i + 1) (codeB i) := by
  have hcd : cd i = fst n + (lens.take i).count n := by unfold cd; rw [he]
  have hlt := cd_all i hi
  have hln := ln_all i hi
  rw [he] at hlt
  have hz : ∀ m, val (List.replicate m false) = 0 := fun m => by
    induction m with
    | zero => rfl
    | succ m ih => rw [List.replicate_succ, val_cons, ih]; simp
  have hG : Grow n (i + 1) (codeB i) := by
    refine .inr ⟨fun h0 => ?_, by rw [codeB_len, he]; exact Nat.le_refl _, ?_⟩
    · have := codeB_len i
      rw [h0] at this
      simp at this
      omega
    · rw [codeB_len, he, Nat.sub_self, Nat.pow_zero, Nat.mul_one, codeB_val hi, cnt_next hi, if_pos he.symm, hcd]
      omega
  unfold Grow at h
  rw [← hcd] at h
  rcases h with ⟨rfl, h2⟩ | ⟨h1, h2, h3⟩
  · refine ⟨by rw [seed_nil]; exact Nat.zero_le _, ?_, hG⟩
    refine val_inj ?_ ?_
    · rw [codeB_len, he, seed_nil]; simp
    · rw [codeB_val hi, h2, seed_nil, List.nil_append, hz]
  · have hp : 0 < 2 ^ (n - last.length) := Nat.two_pow_pos _
    have hov : val last + 1 < 2 ^ last.length := by
      have e : 2 ^ n = 2 ^ last.length * 2 ^ (n - last.length) := by rw [← Nat.pow_add]; congr 1; omega
      rw [← h3, e] at hlt
      exact Nat.lt_of_mul_lt_mul_right hlt
    rw [seed_more h1]
    refine ⟨by rw [inc_len]; exact h2, ?_, hG⟩
    refine val_inj ?_ ?_
    · rw [codeB_len, he, List.length_append, List.length_replicate, inc_len]; omega
    · rw [val_append, hz, List.length_replicate, inc_len, inc_one hov, h3, codeB_val hi]
      omega
end Go.Proofs.Ytfajffchnnalaaa

namespace Go.Proofs.Ytfajffchnnalaaa
open Go.RowKit Go.WideShapes

theorem add_bs (a b : List Bool) (ha : a.length ≤ 100000) (hb : b.length ≤ 100000) (W : World) : (Op.stringOp .add (bs a) (bs b)).run Try.prog W = .ok (.string (bs (a ++ b))) W := by
  rw [← bs_append]
  exact run_string_add W (bs a) (bs b) (by rw [bs_size]; omega) (by rw [bs_size]; omega)
theorem slice_bs (l : List Bool) (i j : Nat) (hij : i ≤ j) (hj : j ≤ l.length) (W : World) : (Instr.slice 9 (.string (bs l)) (some (.int .i64 (i : Int))) (some (.int .i64 (j : Int))) none).run Try.prog W = .ok (.string (bs ((l.drop i).take (j - i)))) W := by
  have h := run_slice_string (P := Try.prog) W 9 (bs l) .i64 .i64 (i : Int) (j : Int) Try.underlying9 (by omega) (by omega) (by rw [bs_size]; omega)
  rw [h]
  simp [bs_extract]
theorem bs_one (l : List Bool) {j : Nat} (h : j < l.length) : (bs l).extract j (j + 1) = bs [l[j]] := by
  rw [bs_extract, show j + 1 - j = 1 by omega, List.drop_eq_getElem_cons h]
  rfl

set_option maxRecDepth 100000 in
set_option maxHeartbeats 1000000 in
theorem one_any (l : List Bool) (hl : l.length ≤ 1000) (w : World) : Calls Try.prog 87 #[.string (bs l)] w fun e w' => e = .returned (.string (bs (inc l).1)) ∧ w = w' := by
  have hsz := bs_size l
  go_enter Try.func87, Try.ntmps87
  go_wp2_with fail
  have HSZ := Lib.hid hsz
  clear hsz
  go_loop [3, 4, 5] (fun s c i => ∃ (k : Nat) (i' : Int) (o : List Bool) (cy : Bool), k ≤ l.length ∧ i = .int .i64 i' ∧ s = .string (bs o) ∧ c = .bool cy ∧ -1 ≤ i' ∧ i' < l.length ∧ Hid (i' = k - 1) ∧ Hid (inc (l.drop k) = (o, cy))) (fun _ _ i => (intOf i + 1).toNat)
  case atStart => exact ⟨l.length, _, [], true, Nat.le_refl _, rfl, rfl, rfl, by omega, by omega, by show _ = _; omega, by show _ = _; rw [List.drop_length]; rfl⟩
  case round =>
    obtain ⟨k, i', o, cy, hk, rfl, rfl, rfl, h1, h2, hi, hE⟩ := hrel
    by_cases h0 : 0 ≤ i'
    · obtain ⟨j, rfl⟩ := Int.eq_ofNat_of_zero_le h0
      have hkj : k = j + 1 := by have := hi.out; omega
      subst hkj
      have hjl : j < l.length := by omega
      have hx := slice_bs l j (j + 1) (by omega) (by omega)
      rw [show (l.drop j).take (j + 1 - j) = [l[j]] by rw [show j + 1 - j = 1 by omega, List.drop_eq_getElem_cons hjl]; rfl] at hx
      simp only [Int.natCast_add, Int.natCast_one] at hx
      have hdr : l.drop j = l[j] :: l.drop (j + 1) := List.drop_eq_getElem_cons hjl
      have hol : o.length ≤ 1000 := by
        have := inc_len (l.drop (j + 1))
        rw [hE.out, List.length_drop] at this
        simp at this
        omega
      have ha0 := add_bs [false] o (by simp) (by omega)
      have ha1 := add_bs [true] o (by simp) (by omega)
      have hN : Hid (inc (l.drop j) = if cy then (if l[j] then (false :: o, true) else (true :: o, false)) else (l[j] :: o, false)) := by
        show _ = _
        rw [hdr]
        simp only [inc]
        rw [hE.out]
      generalize l[j] = b at hx hN
      clear hdr hE hi h0
      have hs0 : bs [false] = ⟨#[48]⟩ := rfl
      have hs1 : bs [true] = ⟨#[49]⟩ := rfl
      rw [hs0] at ha0
      rw [hs1] at ha1
      cases b
      · rw [hs0] at hx
        clear hs0 hs1
        cases cy
        · go_wp2_with fail
          go_round
          case rel => exact ⟨j, _, _, _, by omega, rfl, rfl, rfl, by omega, by omega, by show _ = _; rfl, hN⟩
          case measure => simp [intOf] <;> omega
        · go_wp2_with fail
          go_round
          case rel => exact ⟨j, _, _, _, by omega, rfl, rfl, rfl, by omega, by omega, by show _ = _; rfl, hN⟩
          case measure => simp [intOf] <;> omega
      · rw [hs1] at hx
        clear hs0 hs1
        cases cy
        · go_wp2_with fail
          go_round
          case rel => exact ⟨j, _, _, _, by omega, rfl, rfl, rfl, by omega, by omega, by show _ = _; rfl, hN⟩
          case measure => simp [intOf] <;> omega
        · go_wp2_with fail
          go_round
          case rel => exact ⟨j, _, _, _, by omega, rfl, rfl, rfl, by omega, by omega, by show _ = _; rfl, hN⟩
          case measure => simp [intOf] <;> omega
    · have hk0 : k = 0 := by have := hi.out; omega
      subst hk0
      have hi1 : i' = -1 := by omega
      have e : (inc l).1 = o := by have := hE.out; rw [List.drop_zero] at this; rw [this]
      clear hE hi h0 h1 h2
      subst hi1 e
      go_wp2_with fail
      go_ret
      exact ⟨rfl, rfl⟩
end Go.Proofs.Ytfajffchnnalaaa

namespace Go.Proofs.Ytfajffchnnalaaa
open Go.RowKit Go.WideShapes

theorem toBits_cons (k v : Nat) : toBits (k + 1) v = (v / 2 ^ k % 2 == 1) :: toBits k v := by
  refine val_inj (by simp [toBits_len]) ?_
  rw [toBits_val, val_cons, toBits_len, toBits_val, Nat.pow_succ, Nat.mod_mul]
  rcases Nat.mod_two_eq_zero_or_one (v / 2 ^ k) with h | h <;> simp [h] <;> omega
theorem unpack_next (l : List UInt8) {k : Nat} (h : k < l.length) : unpack (l.take (k + 1)) = unpack (l.take k) ++ byteB l[k] := by
  rw [List.take_add_one, unpack_append, List.getElem?_eq_getElem h]
  simp [unpack]

set_option maxRecDepth 100000 in
set_option maxHeartbeats 1000000 in
theorem rbits_any (A : Option Addr) (c : Nat) (l : List UInt8) (hl : l.length ≤ 12000) (w : World) (B : Nat) (hr : RdB w B A l) :
    Calls Try.prog 83 #[.slice A l.length c] w fun e w' => e = .returned (.string (bs (unpack l))) ∧ w = w' := by
  have h0 : ∀ W : World, (Instr.slice 9 (.string ⟨#[48, 49]⟩) (some (.int .u8 0)) (some (.int .u8 1)) none).run Try.prog W = .ok (.string ⟨#[48]⟩) W := fun W => by
    rw [run_slice_string W 9 ⟨#[48, 49]⟩ .u8 .u8 0 1 Try.underlying9 (by decide) (by decide) (by decide)]; rfl
  have h1 : ∀ W : World, (Instr.slice 9 (.string ⟨#[48, 49]⟩) (some (.int .u8 1)) (some (.int .u8 2)) none).run Try.prog W = .ok (.string ⟨#[49]⟩) W := fun W => by
    rw [run_slice_string W 9 ⟨#[48, 49]⟩ .u8 .u8 1 2 Try.underlying9 (by decide) (by decide) (by decide)]; rfl
  have HR := Lib.hid hr
  clear hr
  go_enter Try.func83, Try.ntmps83
  go_wp2_with fail
  go_loop [3, 10] (fun s i => ∃ (k : Nat) (y : List Bool), k ≤ l.length ∧ i = .int .i64 k ∧ s = .string (bs y) ∧ y.length = 8 * k ∧ Hid (y = unpack (l.take k))) (fun _ i => l.length - (intOf i).toNat)
  case atStart => exact ⟨0, [], Nat.zero_le _, rfl, rfl, rfl, by show _ = _; rfl⟩
  case round =>
    obtain ⟨k, y, hk, rfl, rfl, hyl, hy⟩ := hrel
    by_cases hlt : k < l.length
    · obtain ⟨g, o, rfl, _, hc⟩ := HR.out (by rintro rfl; simp at hlt)
      have hcell := hc k hlt
      have hnx := unpack_next l hlt
      rw [← hy.out] at hnx
      have HC := Lib.hid hc
      have HNX := Lib.hid hnx
      clear hc hy hnx
      obtain ⟨b, hb⟩ : ∃ b, b = l[k] := ⟨_, rfl⟩
      rw [← hb] at hcell HNX
      have Hb := Lib.hid hb
      clear hb
      have hb256 := b.toNat_lt
      go_wp2_with fail
      go_loop [5, 6, 7] (fun n p j => ∃ (j' n' : Nat) (x : List Bool), j' ≤ 8 ∧ j = .int .i64 j' ∧ n = .int .u8 n' ∧ n' < 256 ∧ p = .string (bs x) ∧ x.length = j' ∧ Hid (n' = b.toNat / 2 ^ j') ∧ Hid (x = toBits j' b.toNat)) (fun _ _ j => 8 - (intOf j).toNat)
      case atStart => exact ⟨0, b.toNat, [], by omega, rfl, rfl, by omega, rfl, rfl, by show _ = _; simp, by show _ = _; rfl⟩
      case round =>
        obtain ⟨j, n, x, hj, rfl, rfl, hn, rfl, hxl, hne, hx⟩ := hrel
        by_cases hj8 : j < 8
        · have hN2 : Hid (n / 2 = b.toNat / 2 ^ (j + 1)) := by
            show _ = _
            rw [hne.out, Nat.pow_succ, Nat.div_div_eq_div_mul]
          have hX2 : Hid ((n % 2 == 1) :: x = toBits (j + 1) b.toNat) := by
            show _ = _
            rw [toBits_cons, ← hne.out, ← hx.out]
          have hxl9 : x.length ≤ 9 := by omega
          have HXL := Lib.hid hxl
          clear hne hx hxl
          rcases Nat.mod_two_eq_zero_or_one n with h2 | h2
          · have h2i : (n : Int) % 2 = 0 := by omega
            have hadd := add_bs [false] x (by simp) (by omega)
            have hs0 : bs [false] = ⟨#[48]⟩ := rfl
            rw [hs0] at hadd
            have hX3 : Hid (false :: x = toBits (j + 1) b.toNat) := by
              have := hX2.out; rw [h2] at this; exact this
            clear hs0 h2 hX2
            go_wp2_with fail
            go_round
            case rel => exact ⟨j + 1, n / 2, false :: x, by omega, by go_num, by go_num, by omega, rfl, by simp; exact HXL.out, hN2, hX3⟩
            case measure => simp [intOf]; omega
          · have h2i : (n : Int) % 2 = 1 := by omega
            have hadd := add_bs [true] x (by simp) (by omega)
            have hs0 : bs [true] = ⟨#[49]⟩ := rfl
            rw [hs0] at hadd
            have hX3 : Hid (true :: x = toBits (j + 1) b.toNat) := by
              have := hX2.out; rw [h2] at this; exact this
            clear hs0 h2 hX2
            go_wp2_with fail
            go_round
            case rel => exact ⟨j + 1, n / 2, true :: x, by omega, by go_num, by go_num, by omega, rfl, by simp; exact HXL.out, hN2, hX3⟩
            case measure => simp [intOf]; omega
        · obtain rfl : j = 8 := by omega
          have hxe : Hid (x = byteB b) := hx.out
          have hadd := add_bs y x (by omega) (by omega)
          have hz : Hid (y ++ x = unpack (l.take (k + 1))) := by show _ = _; rw [HNX.out, hxe.out]
          have hzl : Hid ((y ++ x).length = 8 * (k + 1)) := by show _ = _; rw [List.length_append]; omega
          clear hx hxe hne hxl hyl
          generalize y ++ x = z at hadd hz hzl
          go_wp2_with fail
          go_round
          case rel => exact ⟨k + 1, z, by omega, by go_num, rfl, hzl.out, hz⟩
          case measure => simp [intOf]; omega
    · obtain rfl : k = l.length := by omega
      have hye : y = unpack l := by rw [hy.out, List.take_of_length_le (Nat.le_refl _)]
      subst hye
      clear hy
      go_wp2_with fail
      go_ret
      exact ⟨rfl, rfl⟩

/-- Do these bits begin the others, from a place on? -/
def begB (p s : List Bool) (at_ : Nat) : Bool := decide (at_ + p.length ≤ s.length ∧ (s.drop at_).take p.length = p)
theorem begB_yes {p s : List Bool} {a : Nat} (h : begB p s a = true) : ∃ r, s.drop a = p ++ r := by
  unfold begB at h
  simp only [decide_eq_true_eq] at h
  refine ⟨(s.drop a).drop p.length, ?_⟩
  conv => lhs; rw [← List.take_append_drop p.length (s.drop a), h.2]
theorem begB_no {p s : List Bool} {a : Nat} (h : begB p s a = false) (ha : a ≤ s.length) : ∀ r, s.drop a ≠ p ++ r := by
  intro r e
  unfold begB at h
  simp only [decide_eq_false_iff_not] at h
  apply h
  have hl := congrArg List.length e
  rw [List.length_drop, List.length_append] at hl
  exact ⟨by omega, by rw [e]; simp⟩

theorem begins_any (p s : List Bool) (a : Nat) (hp : p.length ≤ 1000) (hs : s.length ≤ 100000) (ha : a ≤ 100000) (w : World) :
    Calls Try.prog 84 #[.string (bs p), .string (bs s), .int .i64 a] w fun e w' => e = .returned (.bool (begB p s a)) ∧ w = w' := by
  have hsp := bs_size p
  have hss := bs_size s
  by_cases h : a + p.length ≤ s.length
  · have hx := slice_bs s a (a + p.length) (by omega) h
    have hb := bs_beq ((s.drop a).take (a + p.length - a)) p
    have hB : begB p s a = decide ((s.drop a).take (a + p.length - a) = p) := by
      unfold begB
      rw [show a + p.length - a = p.length by omega]
      simp [h]
    rw [hB]
    generalize (s.drop a).take (a + p.length - a) = y at hx hb
    simp only [Int.natCast_add] at hx
    generalize decide (y = p) = v at hb
    have hbi : (a : Int) + p.length ≤ s.length := by omega
    clear hB
    go_enter Try.func84, Try.ntmps84
    go_wp2_with fail
    go_ret
    exact ⟨rfl, rfl⟩
  · have hB : begB p s a = false := by unfold begB; simp [h]
    rw [hB]
    have hbi : decide ((a : Int) + p.length ≤ s.length) = false := by simp; omega
    clear hB h
    go_enter Try.func84, Try.ntmps84
    go_wp2_with fail
    go_ret
    exact ⟨rfl, rfl⟩
end Go.Proofs.Ytfajffchnnalaaa

namespace Go.Proofs.Ytfajffchnnalaaa
open Go.RowKit Go.WideShapes

theorem run_buildSlice_one {P : Program} {t e : TypeId} {n : Nat} {parts : Array (Nat × Value)} (ht : P.underlying t = some (.slice e)) (i : TypeInfo) (hi : P.info? e = some i) (z : Value) (hz : i.zero = some z) (hs : i.size = 1) (h0 : n ≠ 0) (hn : n ≤ 1000)
    (cells : Array Value) (hf : Instr.fill (fun j => some (j, 1)) ((Array.range n).map (z.cells[· % z.cells.size]!)) parts.toList = some cells) (w : World) :
    (Instr.buildSlice t n parts).run P w = .ok (.slice (some ⟨w.heap.size, 0, none⟩) n n) (w.alloc (.cells cells e)) := by
  have hn' : ¬ (n > 2 ^ 24) := by omega
  simp [Instr.buildSlice, Sem.run_bind, run_underlying ht, sizeOf, typeInfo, hi, hs, zeroValue, hz, h0, newRow]
  rw [if_neg (by omega)]
  simp [hf]
theorem wpList_buildSlice_is {P : Program} {ops : Array Oper} {rest : List Oper} {o : Oper} {a : Act} {w : World} {Q : Exit → Act → World → Prop} (hg : o.guard = none) (t e : TypeId) (n : Nat) (parts : Array (Nat × Operand)) (ho : o.op = .buildSlice t n parts)
    (ht : P.underlying t = some (.slice e)) (i : TypeInfo) (hi : P.info? e = some i) (z : Value) (hz : i.zero = some z) (hs : i.size = 1) (h0 : n ≠ 0) (hn : n ≤ 1000)
    (cells : Array Value) (hf : Instr.fill (fun j => some (j, 1)) ((Array.range n).map (z.cells[· % z.cells.size]!)) (parts.map fun (i, x) => (i, a.eval x)).toList = some cells)
    (h : wpList P ops Q rest (a.put o.dst (.slice (some ⟨w.heap.size, 0, none⟩) n n)) (w.alloc (.cells cells e))) : wpList P ops Q (o :: rest) a w := by
  refine wpList_plain hg fun K' hK' => ?_
  unfold Oper.wp execOp
  simp only [ho, Sem.run_bind, run_buildSlice_one ht i hi z hz hs h0 hn cells hf w, Result.andThen_ok]
  exact hK' _ _ h
end Go.Proofs.Ytfajffchnnalaaa

namespace Go.Proofs.Ytfajffchnnalaaa
open Go.RowKit Go.WideShapes

theorem i64_parts : ∃ i, Try.prog.info? 3 = some i ∧ i.zero = some (.int .i64 0) ∧ i.size = 1 := by
  cases hi : Try.prog.info? 3 with
  | none => have := i64_info; rw [hi] at this; simp at this
  | some i => have := i64_info; rw [hi] at this; simp at this; exact ⟨i, rfl, this.1, this.2.1⟩

set_option maxRecDepth 100000 in
set_option maxHeartbeats 1000000 in
theorem sizes_any (w : World) : Calls Try.prog 86 #[] w fun e w' => e = .returned (.slice (some ⟨w.heap.size, 0, none⟩) 257 257) ∧ w' = w.alloc (.cells lenC 3) := by
  obtain ⟨i0, hi0, hz0, hs0⟩ := i64_parts
  go_enter Try.func86, Try.ntmps86
  go_wp2_with (refine wpList_buildSlice_is rfl 137 3 257 _ rfl Try.underlying137 i0 hi0 _ hz0 hs0 (by omega) (by omega) lenC (by kernel_rfl) ?_)
  go_ret
  exact ⟨rfl, rfl⟩
end Go.Proofs.Ytfajffchnnalaaa

namespace Go.Proofs.Ytfajffchnnalaaa
open Go.RowKit Go.WideShapes

def strs (f : Nat → List Bool) : Array Value := rowF 257 fun j => .string (bs (f j))
theorem strs_at (f : Nat → List Bool) {j : Nat} (h : j < 257) : (strs f)[j]? = some (.string (bs (f j))) := rowF_at _ h
theorem strs_set (f : Nat → List Bool) (i : Nat) (v : List Bool) : (strs f).setIfInBounds i (.string (bs v)) = strs fun j => if j = i then v else f j := by
  unfold strs
  rw [rowF_set]
  apply rowF_congr
  intro j _
  by_cases e : j = i <;> simp [e]
theorem strs_congr {f g : Nat → List Bool} (h : ∀ j, j < 257 → f j = g j) : strs f = strs g := rowF_congr fun j hj => by rw [h j hj]
theorem str_info : (Try.prog.info? 9).map (fun i => (i.zero, i.size, i.bytes)) = some (some (.string ⟨#[]⟩), 1, 16) := by kernel_rfl
theorem made_strs : madeCells #[Value.string ⟨#[]⟩] (257 * 1) = strs fun _ => [] := by kernel_rfl
theorem make_strs (W : World) : (Instr.makeSlice 120 (.int .i64 257) (.int .i64 257)).run Try.prog W = .ok (.slice (some ⟨W.heap.size, 0, none⟩) 257 257) (W.alloc (.cells (strs fun _ => []) 9)) := by
  cases hi : Try.prog.info? 9 with
  | none => have := str_info; rw [hi] at this; simp at this
  | some i =>
    have h := str_info
    rw [hi] at h
    simp at h
    have := run_make (P := Try.prog) W 120 9 i (.string ⟨#[]⟩) Try.underlying120 hi h.1 .i64 .i64 257 257 (by omega) (by omega) (by rw [h.2.2]; omega) (by omega)
    rw [this, h.2.1]
    rw [← made_strs]
    rfl
def strLen : Value → Nat
  | .string b => b.size
  | _ => 0

/-- What the document's Codes leaves: a row of all signs' codes, as texts. -/
def RCodes (w : World) (e : Ending) (w' : World) : Prop :=
  ∃ g, e = .returned (.slice (some ⟨g, 0, none⟩) 257 257) ∧ w.heap.size ≤ g ∧ Row w' g 9 (strs codeB) ∧ Below w.heap.size w w'

/-- The texts ahead of sign i among those of n bits. -/
def upto (n i : Nat) : Array Value := strs fun j => if ln j < n ∨ (ln j = n ∧ j < i) then codeB j else []
theorem upto_start : upto 1 0 = strs fun _ => [] := strs_congr fun j hj => by
  have := ln_all j hj
  rw [if_neg (by omega)]
theorem upto_pass {n i : Nat} (h : ln i ≠ n) : upto n (i + 1) = upto n i := strs_congr fun j _ => by
  by_cases e : j = i
  · subst e
    have : (ln j < n ∨ (ln j = n ∧ j < j + 1)) = (ln j < n ∨ (ln j = n ∧ j < j)) := by apply propext; omega
    simp only [this]
  · have : (ln j < n ∨ (ln j = n ∧ j < i + 1)) = (ln j < n ∨ (ln j = n ∧ j < i)) := by apply propext; omega
    simp only [this]
theorem upto_set {n i : Nat} (h : ln i = n) : (upto n i).setIfInBounds i (.string (bs (codeB i))) = upto n (i + 1) := by
  unfold upto
  rw [strs_set]
  apply strs_congr
  intro j _
  by_cases e : j = i
  · subst e; rw [if_pos rfl, if_pos (by omega)]
  · rw [if_neg e]
    have : (ln j < n ∨ (ln j = n ∧ j < i + 1)) = (ln j < n ∨ (ln j = n ∧ j < i)) := by apply propext; omega
    simp only [this]
theorem upto_row (n : Nat) : upto n 257 = upto (n + 1) 0 := strs_congr fun j hj => by
  have : (ln j < n ∨ (ln j = n ∧ j < 257)) = (ln j < n + 1 ∨ (ln j = n + 1 ∧ j < 0)) := by apply propext; omega
  simp only [this]
theorem upto_all : upto 31 0 = strs codeB := strs_congr fun j hj => by
  have := ln_all j hj
  rw [if_pos (by omega)]

set_option maxRecDepth 100000 in
set_option maxHeartbeats 1000000 in
theorem rcodes_any (w : World) : Calls Try.prog 82 #[] w (RCodes w) := by
  have hmk := make_strs
  go_enter Try.func82, Try.ntmps82
  go_wp2_with fail
  refine (sizes_any _).mono ?_
  rintro e w1 ⟨rfl, rfl⟩
  go_wp2_with fail
  clear hmk
  have RS : Row ((w.alloc (.cells lenC 3)).alloc (.cells (strs fun _ => []) 9)) w.heap.size 3 lenC := (Row.new w _ _).alloc _
  have RC : Row ((w.alloc (.cells lenC 3)).alloc (.cells (strs fun _ => []) 9)) (w.heap.size + 1) 9 (upto 1 0) := by rw [upto_start]; exact Row.made _ _ _ (by simp)
  have RB : Below w.heap.size w ((w.alloc (.cells lenC 3)).alloc (.cells (strs fun _ => []) 9)) := ((Below.refl _ _).alloc (Nat.le_refl _) _).alloc (by simp) _
  go_loopw [3, 4] (fun s n wr => ∃ (n' : Nat) (p : List Bool), 1 ≤ n' ∧ n' ≤ 31 ∧ n = .int .i64 n' ∧ s = .string (bs p) ∧ p.length ≤ 30 ∧ Hid (Grow n' 0 p) ∧ Hid (Row wr w.heap.size 3 lenC) ∧ Hid (Row wr (w.heap.size + 1) 9 (upto n' 0)) ∧ Hid (Below w.heap.size w wr))
    (fun _ n _ => 31 - (intOf n).toNat)
  case atStart => exact ⟨1, [], by omega, by omega, rfl, rfl, by simp, grow_start, RS, RC, RB⟩
  case round =>
    clear RS RC RB
    obtain ⟨n, p, hn1, hn31, rfl, rfl, hp, hG, hS, hC, hB⟩ := hrel
    by_cases hlt : n < 31
    · have hn30 : (n : Int) ≤ 30 := by omega
      go_wp2_with fail
      go_loopw [3, 14] (fun s i wr => ∃ (i' : Nat) (p : List Bool), i' ≤ 257 ∧ i = .int .i64 i' ∧ s = .string (bs p) ∧ p.length ≤ 30 ∧ Hid (Grow n i' p) ∧ Hid (Row wr w.heap.size 3 lenC) ∧ Hid (Row wr (w.heap.size + 1) 9 (upto n i')) ∧ Hid (Below w.heap.size w wr))
        (fun _ i _ => 257 - (intOf i).toNat)
      case atStart => exact ⟨0, p, by omega, rfl, rfl, hp, hG, hS, hC, hB⟩
      case round =>
        clear hp hG hS hC hB
        obtain ⟨i, p, hi, rfl, rfl, hp, hG, hS, hC, hB⟩ := hrel
        by_cases hlt2 : i < 257
        · have hcell := hS.out.cell (lenC_at hlt2)
          by_cases hm : ln i = n
          · obtain ⟨hs1, hs2, hs3⟩ := grow_code hG.out hlt2 hm
            have hset := upto_set hm
            rw [hm] at hcell
            have hcs : ∃ v, wr.cell? ⟨w.heap.size + 1, i, none⟩ = some v := ⟨_, hC.out.cell (strs_at _ hlt2)⟩
            obtain ⟨v, hcs⟩ := hcs
            have hfr := hC.out.thawed i
            have Hs2 := Lib.hid hs2
            have Hs3 := Lib.hid hs3
            have Hset := Lib.hid hset
            have hm' := Lib.hid hm
            clear hs2 hs3 hset hG hm
            by_cases hp0 : p = []
            · subst hp0
              have hpe : (bs []).toList.isEmpty = true := by rw [bs_list]; rfl
              rw [seed_nil] at Hs2 hs1
              generalize hq : ([] : List Bool) = q at Hs2 hs1 hpe ⊢
              clear hq
              go_wp2_with fail
              go_loop [3] (fun s => ∃ (r : Nat) (x : List Bool), s = .string (bs x) ∧ x.length = q.length + r ∧ q.length + r ≤ n ∧ Hid (x = q ++ List.replicate r false)) (fun s => n - strLen s)
              case atStart => exact ⟨0, q, rfl, rfl, hs1, by show _ = _; simp⟩
              case round =>
                obtain ⟨r, x, rfl, hxl, hr, hx⟩ := hrel
                have hsz := bs_size x
                have hxl2 : x.length ≤ n := by omega
                by_cases hlt3 : x.length < n
                · have hadd := add_bs x [false] (by omega) (by simp)
                  have hs0 : bs [false] = ⟨#[48]⟩ := rfl
                  rw [hs0] at hadd
                  have hx2 : Hid (x ++ [false] = q ++ List.replicate (r + 1) false) := by
                    show _ = _
                    rw [hx.out, List.replicate_succ']; simp
                  have hx3 : Hid ((x ++ [false]).length = x.length + 1) := by show _ = _; simp
                  have HXL := Lib.hid hxl
                  clear hs0 hx hxl hr
                  generalize x ++ [false] = y at hadd hx2 hx3
                  go_wp2_with fail
                  go_round
                  case rel => exact ⟨r + 1, y, rfl, by rw [hx3.out, HXL.out]; omega, by have := HXL.out; omega, hx2⟩
                  case measure => simp only [strLen, bs_size, hx3.out]; omega
                · have hxe : Hid (x = codeB i) := by
                    show _ = _
                    rw [hx.out, ← Hs2.out]
                    congr 2
                    omega
                  have hxd : decide ((x.length : Int) < n) = false := by simp; omega
                  clear hx hxl hr
                  go_wp2_with fail
                  go_roundw
                  case rel =>
                    refine ⟨i + 1, x, by omega, by go_num, rfl, by omega, ?_, hS.out.stored' (by simp) _, ?_, hB.out.setCell (by simp) _⟩
                    · rw [hxe.out]; exact Hs3.out
                    · have := hC.out.stored i (.string (bs x))
                      rw [hxe.out, Hset.out] at this
                      rw [hxe.out]
                      exact this
                  case measure => simp [intOf]; omega
            · have hse := seed_more hp0
              rw [hse] at Hs2 hs1
              have hone := one_any p (by omega)
              generalize (inc p).1 = q at Hs2 hs1 hone
              have hpe : (bs p).toList.isEmpty = false := by
                rw [bs_list]
                cases p with
                | nil => exact absurd rfl hp0
                | cons b p => rfl
              clear hse hp0
              go_wp2_with fail
              refine (hone _).mono ?_
              rintro e w' ⟨rfl, rfl⟩
              go_wp2_with fail
              go_loop [3] (fun s => ∃ (r : Nat) (x : List Bool), s = .string (bs x) ∧ x.length = q.length + r ∧ q.length + r ≤ n ∧ Hid (x = q ++ List.replicate r false)) (fun s => n - strLen s)
              case atStart => exact ⟨0, q, rfl, rfl, hs1, by show _ = _; simp⟩
              case round =>
                obtain ⟨r, x, rfl, hxl, hr, hx⟩ := hrel
                have hsz := bs_size x
                have hxl2 : x.length ≤ n := by omega
                by_cases hlt3 : x.length < n
                · have hadd := add_bs x [false] (by omega) (by simp)
                  have hs0 : bs [false] = ⟨#[48]⟩ := rfl
                  rw [hs0] at hadd
                  have hx2 : Hid (x ++ [false] = q ++ List.replicate (r + 1) false) := by
                    show _ = _
                    rw [hx.out, List.replicate_succ']; simp
                  have hx3 : Hid ((x ++ [false]).length = x.length + 1) := by show _ = _; simp
                  have HXL := Lib.hid hxl
                  clear hs0 hx hxl hr
                  generalize x ++ [false] = y at hadd hx2 hx3
                  go_wp2_with fail
                  go_round
                  case rel => exact ⟨r + 1, y, rfl, by rw [hx3.out, HXL.out]; omega, by have := HXL.out; omega, hx2⟩
                  case measure => simp only [strLen, bs_size, hx3.out]; omega
                · have hxe : Hid (x = codeB i) := by
                    show _ = _
                    rw [hx.out, ← Hs2.out]
                    congr 2
                    omega
                  have hxd : decide ((x.length : Int) < n) = false := by simp; omega
                  clear hx hxl hr
                  go_wp2_with fail
                  go_roundw
                  case rel =>
                    refine ⟨i + 1, x, by omega, by go_num, rfl, by omega, ?_, hS.out.stored' (by simp) _, ?_, hB.out.setCell (by simp) _⟩
                    · rw [hxe.out]; exact Hs3.out
                    · have := hC.out.stored i (.string (bs x))
                      rw [hxe.out, Hset.out] at this
                      rw [hxe.out]
                      exact this
                  case measure => simp [intOf]; omega
          · have hmd : ((ln i : Int) != (n : Int)) = true := by rw [bne_iff_ne]; omega
            have hme : ((ln i : Int) == (n : Int)) = false := by rw [beq_eq_false_iff_ne]; omega
            have hG2 := Lib.hid (grow_pass hG.out hlt2 hm)
            have hC2 : Hid (Row wr (w.heap.size + 1) 9 (upto n (i + 1))) := by
              show Row _ _ _ _
              rw [upto_pass hm]; exact hC.out
            clear hm hG hC
            generalize ln i = m at hcell hmd hme
            go_wp2_with fail
            go_roundw
            case rel => exact ⟨i + 1, p, by omega, by go_num, rfl, hp, hG2, hS, hC2, hB⟩
            case measure => simp [intOf]; omega
        · obtain rfl : i = 257 := by omega
          have hG2 := Lib.hid (grow_row hG.out)
          have hC2 : Hid (Row wr (w.heap.size + 1) 9 (upto (n + 1) 0)) := by
            show Row _ _ _ _
            rw [← upto_row]; exact hC.out
          clear hG hC
          go_wp2_with fail
          go_roundw
          case rel => exact ⟨n + 1, p, by omega, by omega, by go_num, rfl, hp, hG2, hS, hC2, hB⟩
          case measure => simp [intOf]; omega
    · obtain rfl : n = 31 := by omega
      have hC2 : Hid (Row wr (w.heap.size + 1) 9 (strs codeB)) := by
        show Row _ _ _ _
        rw [← upto_all]; exact hC.out
      clear hC hG
      go_wp2_with fail
      go_ret
      exact ⟨_, rfl, by omega, hC2.out, hB.out⟩
end Go.Proofs.Ytfajffchnnalaaa

namespace Go.Proofs.Ytfajffchnnalaaa
open Go.RowKit Go.WideShapes

/-! ### plain -/
theorem run_end : ∀ (r q : List Bool) (out : List UInt8) (t : List Bool), codeB 256 = q ++ r → r ≠ [] → runB (r ++ t) (out, q) = none
  | [], _, _, _, _, h => absurd rfl h
  | b :: r, q, out, t, h, _ => by
    show (stepB (out, q) b).bind (runB (r ++ t)) = _
    have h' : codeB 256 = (q ++ [b]) ++ r := by rw [h]; simp
    cases r with
    | nil =>
      rw [List.append_nil] at h'
      rw [step_end (by rw [← h', lookB_code (by omega)])]
      rfl
    | cons c r =>
      rw [step_none (look_part (i := 256) (by omega) h' (by simp))]
      exact run_end (c :: r) (q ++ [b]) out t h' (by simp)
theorem run_nocode : ∀ (p q : List Bool) (out : List UInt8), (∀ i, i < 257 → ∀ a b, p = a ++ b → a ≠ [] → codeB i ≠ q ++ a) → runB p (out, q) = some (out, q ++ p)
  | [], q, out, _ => by rw [List.append_nil]; rfl
  | b :: p, q, out, h => by
    show (stepB (out, q) b).bind (runB p) = _
    rw [step_none (lookB_of_none fun i hi => h i hi [b] p rfl (by simp))]
    show runB p (out, q ++ [b]) = _
    rw [run_nocode p (q ++ [b]) out fun i hi a c e _ => by
      have := h i hi (b :: a) c (by rw [e]; rfl) (by simp)
      rw [List.append_assoc]; exact this]
    simp
theorem codeB_ne {i : Nat} (hi : i < 257) : codeB i ≠ [] := fun h0 => by
  have h1 := codeB_len i
  have h2 := ln_all i hi
  rw [h0] at h1
  simp at h1
  omega
/-- Which sign was found among the first ones. -/
def Found (s : List Bool) (a i : Nat) (f : Int) : Prop := (f = -1 ∧ ∀ j, j < i → begB (codeB j) s a = false) ∨ (∃ j : Nat, j < i ∧ f = (j : Int) ∧ begB (codeB j) s a = true)
theorem found_yes {s : List Bool} {a i : Nat} (h : begB (codeB i) s a = true) : Found s a (i + 1) (i : Int) := .inr ⟨i, by omega, rfl, h⟩
theorem found_no {s : List Bool} {a i : Nat} {f : Int} (hf : Found s a i f) (h : begB (codeB i) s a = false) : Found s a (i + 1) f := by
  rcases hf with ⟨h1, h2⟩ | ⟨j, h1, h2, h3⟩
  · refine .inl ⟨h1, fun j hj => ?_⟩
    by_cases e : j = i
    · subst e; exact h
    · exact h2 j (by omega)
  · exact .inr ⟨j, by omega, h2, h3⟩
theorem run_none {s : List Bool} {a : Nat} (ha : a ≤ s.length) (h : ∀ j, j < 257 → begB (codeB j) s a = false) (out : List UInt8) : runB (s.drop a) (out, []) = some (out, s.drop a) := by
  have := run_nocode (s.drop a) [] out fun i hi x y e _ hc => begB_no (h i hi) ha y (by rw [e, hc]; rfl)
  rw [this]
  rfl
theorem drop_more {s p r : List Bool} {a : Nat} (h : s.drop a = p ++ r) : s.drop (a + p.length) = r := by
  rw [← List.drop_drop, h]; simp

theorem own_lit0 (w : World) (B : Nat) (h : B ≤ w.heap.size) : OwB (w.alloc (.cells #[] 5)) B 5 (.slice (some ⟨w.heap.size, 0, none⟩) 0 0) [] := OwB.lit w 5 [] 0 rfl (by simp [maxLen]) h

set_option maxRecDepth 100000 in
set_option maxHeartbeats 2000000 in
theorem rdec_any (A : Option Addr) (c : Nat) (l : List UInt8) (hl : l.length ≤ 12000) (w : World) (hr : RdB w w.heap.size A l) :
    Calls Try.prog 77 #[.slice A l.length c] w fun e w' => DecE (decL l) e ∧ Below w.heap.size w w' := by
  obtain ⟨i0, hi0, hz0, hz1, hz2⟩ := info_parts u8_info
  obtain ⟨s, hs⟩ : ∃ s, s = unpack l := ⟨_, rfl⟩
  have hsl : s.length ≤ 96000 := by rw [hs, unpack_len]; omega
  obtain ⟨F, hF⟩ : ∃ F, F = runB s ([], []) := ⟨_, rfl⟩
  have hD : decL l = finB F := by unfold decL; rw [hF, hs]
  have HF := Lib.hid hF
  have HD := Lib.hid hD
  have HS := Lib.hid hs
  clear hF hD hs
  generalize decL l = D at HD
  have HRd := Lib.hid hr
  clear hr
  go_enter Try.func77, Try.ntmps77
  go_wp2_with fail
  refine (rcodes_any _).mono ?_
  rintro e w1 ⟨g, rfl, hg, hR, hb1⟩
  have hgl := hR.lt
  have hs1 := hb1.size
  have hbt := rbits_any A c l (by omega) w1 _ (HRd.out.below hb1)
  rw [← HS.out] at hbt
  have HR := Lib.hid (hR.alloc (.cells #[] 5))
  have HB := Lib.hid (hb1.alloc hs1 (.cells #[] 5))
  have HO := Lib.hid (own_lit0 w1 w1.heap.size (Nat.le_refl _))
  clear hR hb1
  go_wp2_with fail
  refine hbt.mono ?_
  rintro e w' ⟨rfl, rfl⟩
  clear hbt
  have hss := bs_size s
  go_wp2_with fail
  go_loopw [6, 7] (fun v a wr => ∃ (a' : Nat) (A2 : Option Addr) (c2 : Nat) (out : List UInt8), a' ≤ s.length ∧ a = .int .i64 a' ∧ v = .slice A2 out.length c2 ∧ out.length ≤ a' ∧ Hid (runB (s.drop a') (out, []) = F) ∧ Hid (OwB wr w1.heap.size 5 (.slice A2 out.length c2) out) ∧ Hid (Row wr g 9 (strs codeB)) ∧ Hid (Below w.heap.size w wr) ∧ w1.heap.size ≤ wr.heap.size)
    (fun _ a _ => s.length - (intOf a).toNat)
  case atStart => exact ⟨0, _, _, [], Nat.zero_le _, rfl, rfl, Nat.zero_le _, HF.out.symm, HO, HR, HB, by simp⟩
  case round =>
    clear HO HR HB
    obtain ⟨a, A2, c2, out, ha, rfl, rfl, hol, hE, hO, hR, hB, hz⟩ := hrel
    by_cases hlt : a < s.length
    · go_wp2_with fail
      go_loop [8, 20] (fun f i => ∃ (i' : Nat) (f' : Int), i' ≤ 257 ∧ i = .int .i64 i' ∧ f = .int .i64 f' ∧ -1 ≤ f' ∧ f' < 257 ∧ Hid (Found s a i' f')) (fun _ i => 257 - (intOf i).toNat)
      case atStart => exact ⟨0, -1, by omega, rfl, rfl, by omega, by omega, .inl ⟨rfl, fun j hj => by omega⟩⟩
      case round =>
        obtain ⟨i, f, hi, rfl, rfl, hf1, hf2, hf⟩ := hrel
        by_cases hlt2 : i < 257
        · have hcell := hR.out.cell (strs_at codeB hlt2)
          have hcl := codeB_len i
          have hln := ln_all i hlt2
          have hbg := begins_any (codeB i) s a (by omega) (by omega) (by omega)
          have hy : begB (codeB i) s a = true → Hid (Found s a (i + 1) (i : Int)) := found_yes
          have hn : begB (codeB i) s a = false → Hid (Found s a (i + 1) f) := found_no hf.out
          generalize begB (codeB i) s a = v at hbg hy hn
          generalize codeB i = q at hcell hbg
          clear hcl hln
          cases v
          · have hf3 := hn rfl
            clear hy hn hf
            go_wp2_with fail
            refine (hbg _).mono ?_
            rintro e w' ⟨rfl, rfl⟩
            clear hbg
            go_wp2_with fail
            go_round
            case rel => exact ⟨i + 1, f, by omega, by go_num, rfl, hf1, hf2, hf3⟩
            case measure => simp [intOf]; omega
          · have hf3 := hy rfl
            clear hy hn hf
            go_wp2_with fail
            refine (hbg _).mono ?_
            rintro e w' ⟨rfl, rfl⟩
            clear hbg
            go_wp2_with fail
            go_round
            case rel => exact ⟨i + 1, (i : Int), by omega, by go_num, rfl, by omega, by omega, hf3⟩
            case measure => simp [intOf]; omega
        · obtain rfl : i = 257 := by omega
          rcases hf.out with ⟨rfl, hnone⟩ | ⟨j, hj, rfl, hyes⟩
          · have hFe : F = some (out, s.drop a) := by rw [← hE.out]; exact run_none ha hnone out
            clear hnone hf hE hf1 hf2
            obtain ⟨A4, c4, e4, _, _, hrd⟩ := hO.out.shape
            injection e4 with e4 _ e5
            subst e4 e5
            by_cases h7 : 7 < s.length - a
            · have hD0 : D = none := by
                rw [HD.out, hFe]
                exact if_neg (fun h => by have := h.1; rw [List.length_drop] at this; omega)
              subst hD0
              have h7i : decide ((7 : Int) < (s.length : Int) - a) = true := by simp; omega
              clear hFe hrd
              go_wp2_with fail
              go_ret2
              exact ⟨rfl, hB.out⟩
            · have h7i : decide ((7 : Int) < (s.length : Int) - a) = false := by simp; omega
              have HFe := Lib.hid hFe
              have HRD := Lib.hid hrd
              clear hFe hrd
              go_wp2_with fail
              clear h7i
              go_loop [7] (fun b => ∃ t : Nat, a + t ≤ s.length ∧ b = .int .i64 ((a + t : Nat) : Int) ∧ Hid (∀ i, i < t → s[a + i]? = some true)) (fun b => s.length - (intOf b).toNat)
              case atStart => exact ⟨0, ha, rfl, fun i hi => by omega⟩
              case round =>
                obtain ⟨t, ht, rfl, hall⟩ := hrel
                by_cases htl : a + t < s.length
                · have hch : ∀ h : a + t < (bs s).size, (bs s)[a + t]'h = chr s[a + t] := fun h => bs_at s h
                  have hget : s[a + t]? = some s[a + t] := List.getElem?_eq_getElem htl
                  have HG := Lib.hid hget
                  clear hget
                  cases hb : s[a + t]
                  · rw [hb] at HG hch
                    clear hb
                    have hD0 : D = none := by
                      rw [HD.out, HFe.out]
                      refine if_neg (fun h => ?_)
                      have h1 : (s.drop a)[t]? = some false := by rw [List.getElem?_drop]; exact HG.out
                      rw [h.2, List.getElem?_replicate] at h1
                      split at h1 <;> simp at h1
                    subst hD0
                    simp only [show chr false = 48 from rfl] at hch
                    clear HG
                    go_wp2_with fail
                    go_ret2
                    exact ⟨rfl, hB.out⟩
                  · rw [hb] at HG hch
                    clear hb
                    have hall2 : Hid (∀ i, i < t + 1 → s[a + i]? = some true) := fun i hi => by
                      by_cases e : i = t
                      · subst e; exact HG.out
                      · exact hall.out i (by omega)
                    simp only [show chr true = 49 from rfl] at hch
                    clear HG hall
                    go_wp2_with fail
                    go_round
                    case rel => exact ⟨t + 1, by omega, by go_num, hall2⟩
                    case measure => simp [intOf]; omega
                · have hat : a + t = s.length := by omega
                  have hD1 : D = some out := by
                    rw [HD.out, HFe.out]
                    refine if_pos ⟨by rw [List.length_drop]; omega, ?_⟩
                    refine List.eq_replicate_iff.2 ⟨rfl, fun b hb => ?_⟩
                    obtain ⟨i, hi, rfl⟩ := List.getElem_of_mem hb
                    have h1 := hall.out i (by rw [List.length_drop] at hi; omega)
                    have h2 : (s.drop a)[i]? = some true := by rw [List.getElem?_drop]; exact h1
                    rw [List.getElem?_eq_getElem hi] at h2
                    exact Option.some.inj h2
                  subst hD1
                  have htx : (convert 38 9 (.slice A2 out.length c2)).run Try.prog wr = .ok (.string ⟨out.toArray⟩) wr := run_text Try.underlying38 Try.underlying5 Try.underlying9 HRD.out
                  have hatd : decide (a + t < s.length) = false := by simp; omega
                  clear hat hall htl
                  generalize a + t = b at ht hatd ⊢
                  go_wp2_with fail
                  go_ret2
                  exact ⟨rfl, hB.out⟩
          · obtain ⟨r, hdr⟩ := begB_yes hyes
            by_cases h256 : j = 256
            · subst h256
              have hF0 : F = none := by
                rw [← hE.out, hdr]
                exact run_end (codeB 256) [] out r rfl (codeB_ne (by omega))
              have hD0 : D = none := by rw [HD.out, hF0]; rfl
              subst hD0
              clear hF0 hdr hyes hf hE hj hf1 hf2
              go_wp2_with fail
              go_ret2
              exact ⟨rfl, hB.out⟩
            · have hcell := hR.out.cell (strs_at codeB hj)
              have hcl := bs_size (codeB j)
              have hE2 : Hid (runB (s.drop (a + (codeB j).length)) (out ++ [UInt8.ofNat j], []) = F) := by
                show _ = _
                rw [drop_more hdr, ← hE.out, hdr, runB_append, run_code (i := j) (by omega) out (codeB j) [] rfl (codeB_ne hj)]
                rfl
              have hle : a + (codeB j).length ≤ s.length := by
                have := congrArg List.length hdr
                rw [List.length_drop, List.length_append] at this
                omega
              have hpos : 0 < (codeB j).length := List.length_pos_iff.2 (codeB_ne hj)
              generalize codeB j = q at hcell hcl hE2 hle hpos
              have hj2 : j < 256 := by omega
              have hj3 : ((j : Int) == 256) = false := by rw [beq_eq_false_iff_ne]; omega
              have hw8 : IntKind.u8.wrap (j : Int) = (j : Int) := by rw [IntKind.wrap_u8']; omega
              clear hdr hyes hf hE h256 hj hf1 hf2
              have hRA := Lib.hid (hR.out.alloc (.cells #[.int .u8 (j : Int)] 5))
              go_wp2_with (at_builtin; go_loud (refine wpList_appB1 rfl (.tmp 36) (.tmp 39) _ rfl w1.heap.size 5 i0 Try.underlying38 hi0 hz0 hz1 hz2 _ out rfl (World.ownsRow.alloc hO.out _) wr.heap.size _ _ rfl (cell_new _ _ _ _) (by omega) (by omega) (by omega) (by simp; omega) ?_; intro A3 c3 L3 w3 hL3 ho3 hb3; have hc3 : w3.cell? ⟨g, j, none⟩ = some (.string (bs q)) := (hb3.cell (p := ⟨g, j, none⟩) hgl).trans ((World.cell?_alloc_lt wr _ _ (Nat.lt_of_lt_of_le hgl hz)).trans hcell)))
              go_roundw
              case rel =>
                have e1 : L3 = out ++ [UInt8.ofNat j] := by rw [hL3.out]; simp
                refine ⟨a + q.length, A3, c3, L3, hle, by go_num, rfl, by rw [e1]; simp; omega, ?_, ho3, hRA.out.below hb3 hgl, hB.out.trans (((Below.refl _ _).alloc (by have := hB.out.size; omega) _).trans (hb3.mono hs1)), by have := hb3.size; simp at this; omega⟩
                rw [e1]; exact hE2
              case measure => simp [intOf]; omega
    · have haeq : a = s.length := by omega
      have hFe : F = some (out, s.drop a) := by rw [← hE.out, haeq, List.drop_of_length_le (Nat.le_refl _)]; rfl
      clear hE
      have hai : decide (a < s.length) = false := by simp; omega
      clear haeq hlt
      obtain ⟨A4, c4, e4, _, _, hrd⟩ := hO.out.shape
      injection e4 with e4 _ e5
      subst e4 e5
      by_cases h7 : 7 < s.length - a
      · have hD0 : D = none := by
          rw [HD.out, hFe]
          exact if_neg (fun h => by have := h.1; rw [List.length_drop] at this; omega)
        subst hD0
        have h7i : decide ((7 : Int) < (s.length : Int) - a) = true := by simp; omega
        clear hFe hrd
        go_wp2_with fail
        go_ret2
        exact ⟨rfl, hB.out⟩
      · have h7i : decide ((7 : Int) < (s.length : Int) - a) = false := by simp; omega
        have HFe := Lib.hid hFe
        have HRD := Lib.hid hrd
        clear hFe hrd
        go_wp2_with fail
        clear h7i
        go_loop [7] (fun b => ∃ t : Nat, a + t ≤ s.length ∧ b = .int .i64 ((a + t : Nat) : Int) ∧ Hid (∀ i, i < t → s[a + i]? = some true)) (fun b => s.length - (intOf b).toNat)
        case atStart => exact ⟨0, ha, rfl, fun i hi => by omega⟩
        case round =>
          obtain ⟨t, ht, rfl, hall⟩ := hrel
          by_cases htl : a + t < s.length
          · have hch : ∀ h : a + t < (bs s).size, (bs s)[a + t]'h = chr s[a + t] := fun h => bs_at s h
            have hget : s[a + t]? = some s[a + t] := List.getElem?_eq_getElem htl
            have HG := Lib.hid hget
            clear hget
            cases hb : s[a + t]
            · rw [hb] at HG hch
              clear hb
              have hD0 : D = none := by
                rw [HD.out, HFe.out]
                refine if_neg (fun h => ?_)
                have h1 : (s.drop a)[t]? = some false := by rw [List.getElem?_drop]; exact HG.out
                rw [h.2, List.getElem?_replicate] at h1
                split at h1 <;> simp at h1
              subst hD0
              simp only [show chr false = 48 from rfl] at hch
              clear HG
              go_wp2_with fail
              go_ret2
              exact ⟨rfl, hB.out⟩
            · rw [hb] at HG hch
              clear hb
              have hall2 : Hid (∀ i, i < t + 1 → s[a + i]? = some true) := fun i hi => by
                by_cases e : i = t
                · subst e; exact HG.out
                · exact hall.out i (by omega)
              simp only [show chr true = 49 from rfl] at hch
              clear HG hall
              go_wp2_with fail
              go_round
              case rel => exact ⟨t + 1, by omega, by go_num, hall2⟩
              case measure => simp [intOf]; omega
          · have hat : a + t = s.length := by omega
            have hD1 : D = some out := by
              rw [HD.out, HFe.out]
              refine if_pos ⟨by rw [List.length_drop]; omega, ?_⟩
              refine List.eq_replicate_iff.2 ⟨rfl, fun b hb => ?_⟩
              obtain ⟨i, hi, rfl⟩ := List.getElem_of_mem hb
              have h1 := hall.out i (by rw [List.length_drop] at hi; omega)
              have h2 : (s.drop a)[i]? = some true := by rw [List.getElem?_drop]; exact h1
              rw [List.getElem?_eq_getElem hi] at h2
              exact Option.some.inj h2
            subst hD1
            have htx : (convert 38 9 (.slice A2 out.length c2)).run Try.prog wr = .ok (.string ⟨out.toArray⟩) wr := run_text Try.underlying38 Try.underlying5 Try.underlying9 HRD.out
            have hatd : decide (a + t < s.length) = false := by simp; omega
            clear hat hall htl
            generalize a + t = b at ht hatd ⊢
            go_wp2_with fail
            go_ret2
            exact ⟨rfl, hB.out⟩
end Go.Proofs.Ytfajffchnnalaaa
