/-
  HuffmanCode, by its contract: at every input it answers true; below what was there nothing has turned.
-/
import Derived.Test.YtaegdageiacdbaaRcodes
import Derived.Test.YtaegdageiacdbaaHfix
import Derived.Test.YtaegdageiacdbaaHdecp
namespace Go.Proofs.Ytaegdageiacdbaa
open Go.RowKit Go.WideShapes

set_option maxRecDepth 100000 in
set_option maxHeartbeats 1000000 in
theorem code_out (s o : Int) (h : s < 0 ∨ 256 < s) (w : World) :
    Calls Try.prog 3 #[.int .i64 s, .int .i64 o] w fun e w' => e = .returned (.bool true) ∧ Below w.heap.size w w' := by
  have hc := code_no s h
  unfold TwoN at hc
  have hs' : s < 0 ∨ (decide (s < 0) = false ∧ (256 : Int) < s) := by
    by_cases h : s < 0
    · exact .inl h
    · exact .inr ⟨by simpa using h, by omega⟩
  clear h
  rcases hs' with h | ⟨h, h'⟩
  all_goals
    go_enter Try.func3, Try.ntmps3
    go_wp2_with fail
    refine (hc _).mono ?_
    rintro e w1 ⟨rfl, hb1⟩
    have HB := Lib.hid hb1
    clear hb1
    go_wp2_with fail
    refine (fixed_any _).mono ?_
    rintro e w2 ⟨rfl, hb2⟩
    have HB2 := Lib.hid (HB.out.trans (hb2.mono HB.out.size))
    clear hb2
    go_wp2_with fail
    go_ret
    exact ⟨rfl, HB2.out⟩

set_option maxRecDepth 100000 in
set_option maxHeartbeats 2000000 in
theorem code_in (s : Nat) (hs : s < 257) (o : Int) (w : World) :
    Calls Try.prog 3 #[.int .i64 s, .int .i64 o] w fun e w' => e = .returned (.bool true) ∧ Below w.heap.size w w' := by
  have hc := code_yes s hs
  have hl := ln_all s hs
  have hpl := codeB_len s
  have hpv := codeB_val hs
  have hx := cd_bd hs
  unfold TwoN at hc
  obtain ⟨p, hp⟩ : ∃ p, p = codeB s := ⟨_, rfl⟩
  rw [← hp] at hpl hpv
  generalize cd s = x at hc hpv hx
  rw [← hpl] at hc hl
  have h1 : decide ((s : Int) < 0) = false := by simp
  have h2 : decide ((256 : Int) < s) = false := by simp; omega
  have Hp := Lib.hid hp
  have Hpv := Lib.hid hpv
  clear hp hpv hpl
  go_enter Try.func3, Try.ntmps3
  go_wp2_with fail
  refine (hc _).mono ?_
  rintro e w1 ⟨rfl, hb1⟩
  have HB := Lib.hid hb1
  clear hb1
  go_wp2_with fail
  refine (rcodes_any _).mono ?_
  rintro e w2 ⟨g, rfl, hg, hR, hb2⟩
  have HB2 := Lib.hid (HB.out.trans (hb2.mono HB.out.size))
  have HR := Lib.hid hR
  have hcell : w2.cell? ⟨g, s, none⟩ = some (.string (bs p)) := by rw [hR.cell (strs_at _ hs), Hp.out]
  have hsz := bs_size p
  clear hb2 HB hR hc
  go_wp2_with fail
  go_loop [9, 39] (fun m j => ∃ (j' m' : Nat), j' ≤ p.length ∧ j = .int .i64 j' ∧ m = .int .u32 m' ∧ m' ≤ 2147483647 ∧ Hid (m' = val (p.take j'))) (fun _ j => p.length - (intOf j).toNat)
  case atStart => exact ⟨0, 0, Nat.zero_le _, rfl, rfl, by omega, by show _ = _; rfl⟩
  case round =>
    obtain ⟨j, m, hj, rfl, rfl, hm, hme⟩ := hrel
    by_cases hlt : j < p.length
    · have hch : ∀ h : j < (bs p).size, (bs p)[j]'h = chr p[j] := fun h => bs_at p h
      have hN : val (p.take (j + 1)) = m * 2 + (p[j]).toNat := by
        rw [List.take_add_one, List.getElem?_eq_getElem hlt]
        show val (p.take j ++ [p[j]]) = _
        rw [val_append, ← hme.out]
        generalize p[j] = b
        cases b <;> simp [val]
      have hNb : val (p.take (j + 1)) < 2 ^ 30 := Nat.lt_of_lt_of_le (val_lt _) (Nat.pow_le_pow_right (by omega) (by rw [List.length_take]; omega))
      generalize p[j] = b at hch hN
      rw [hN] at hNb
      have HN : Hid (m * 2 + b.toNat = val (p.take (j + 1))) := hN.symm
      clear hN hme
      cases b
      · simp only [show chr false = 48 from rfl] at hch
        simp only [Bool.toNat_false, Nat.add_zero] at HN hNb
        have hm2 : m < 536870912 := by omega
        clear hNb
        go_wp2_with fail
        go_round
        case rel => exact ⟨j + 1, m * 2, by omega, by go_num, by go_num, by omega, HN⟩
        case measure => simp [intOf]; omega
      · simp only [show chr true = 49 from rfl] at hch
        simp only [Bool.toNat_true] at HN hNb
        have hm2 : m < 536870912 := by omega
        clear hNb
        go_wp2_with fail
        go_round
        case rel => exact ⟨j + 1, m * 2 + 1, by omega, by go_num, by go_num, by omega, HN⟩
        case measure => simp [intOf]; omega
    · obtain rfl : j = p.length := by omega
      obtain rfl : m = x := by rw [hme.out, List.take_of_length_le (Nat.le_refl _), Hpv.out]
      clear hme
      have hoth : o < 0 ∨ (decide (o < 0) = false ∧ (256 : Int) < o) ∨ (decide (o < 0) = false ∧ decide ((256 : Int) < o) = false ∧ o = s) ∨ (decide (o < 0) = false ∧ decide ((256 : Int) < o) = false ∧ (o == (s : Int)) = false ∧ 0 ≤ o ∧ o ≤ 256) := by
        by_cases h1 : o < 0
        · exact .inl h1
        · by_cases h2 : 256 < o
          · exact .inr (.inl ⟨by simpa using h1, h2⟩)
          · by_cases h3 : o = s
            · exact .inr (.inr (.inl ⟨by simpa using h1, by simpa using h2, h3⟩))
            · exact .inr (.inr (.inr ⟨by simpa using h1, by simpa using h2, by rw [beq_eq_false_iff_ne]; exact h3, by omega, by omega⟩))
      rcases hoth with h | ⟨h, h'⟩ | ⟨h, h', rfl⟩ | ⟨h, h', h3, h4, h5⟩
      · go_wp2_with fail
        refine (fixed_any _).mono ?_
        rintro e w3 ⟨rfl, hb3⟩
        have HB3 := Lib.hid (HB2.out.trans (hb3.mono HB2.out.size))
        clear hb3
        go_wp2_with fail
        go_ret
        exact ⟨rfl, HB3.out⟩
      · go_wp2_with fail
        refine (fixed_any _).mono ?_
        rintro e w3 ⟨rfl, hb3⟩
        have HB3 := Lib.hid (HB2.out.trans (hb3.mono HB2.out.size))
        clear hb3
        go_wp2_with fail
        go_ret
        exact ⟨rfl, HB3.out⟩
      · go_wp2_with fail
        refine (fixed_any _).mono ?_
        rintro e w3 ⟨rfl, hb3⟩
        have HB3 := Lib.hid (HB2.out.trans (hb3.mono HB2.out.size))
        clear hb3
        go_wp2_with fail
        go_ret
        exact ⟨rfl, HB3.out⟩
      · obtain ⟨o', rfl⟩ := Int.eq_ofNat_of_zero_le h4
        have ho : o' < 257 := by omega
        have hso : s ≠ o' := fun e => by subst e; simp at h3
        obtain ⟨q, hq⟩ : ∃ q, q = codeB o' := ⟨_, rfl⟩
        have hcell2 : w2.cell? ⟨g, o', none⟩ = some (.string (bs q)) := by rw [HR.out.cell (strs_at _ ho), hq]
        have hsz2 := bs_size q
        have hne : p.length ≤ q.length → (((bs q).extract 0 p.length).toList == (bs p).toList) = false := fun hle => by
          rw [bs_extract, bs_beq, decide_eq_false_iff_not]
          intro e
          simp only [List.drop_zero, Nat.sub_zero] at e
          have : codeB o' = codeB s ++ q.drop p.length := by
            rw [← hq, ← Hp.out]
            conv => lhs; rw [← List.take_append_drop p.length q]
            rw [e]
          exact hso (code_free hs ho this).1
        have HQ := Lib.hid hq
        clear hq hso
        by_cases hpq : p.length ≤ q.length
        · have hne' := hne hpq
          have hpd : decide ((q.length : Int) < p.length) = false := by simp; omega
          clear hne
          go_wp2_with fail
          refine (fixed_any _).mono ?_
          rintro e w3 ⟨rfl, hb3⟩
          have HB3 := Lib.hid (HB2.out.trans (hb3.mono HB2.out.size))
          clear hb3
          go_wp2_with fail
          go_ret
          exact ⟨rfl, HB3.out⟩
        · have hpd : decide ((q.length : Int) < p.length) = true := by simp; omega
          clear hne
          go_wp2_with fail
          refine (fixed_any _).mono ?_
          rintro e w3 ⟨rfl, hb3⟩
          have HB3 := Lib.hid (HB2.out.trans (hb3.mono HB2.out.size))
          clear hb3
          go_wp2_with fail
          go_ret
          exact ⟨rfl, HB3.out⟩

theorem codes_law (s o : Int) (w : World) :
    Calls Try.prog 3 #[.int .i64 s, .int .i64 o] w fun e w' => e = .returned (.bool true) ∧ Below w.heap.size w w' := by
  by_cases h : s < 0 ∨ 256 < s
  · exact code_out s o h w
  · obtain ⟨s', rfl⟩ := Int.eq_ofNat_of_zero_le (show 0 ≤ s by omega)
    exact code_in s' (by omega) o w
end Go.Proofs.Ytaegdageiacdbaa
