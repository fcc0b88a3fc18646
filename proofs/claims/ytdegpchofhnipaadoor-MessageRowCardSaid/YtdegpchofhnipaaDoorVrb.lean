/-
  The document's begins, by contract. Conditions: some bytes, at most 100.
-/
import Derived.Test.YtdegpchofhnipaaDoorVrw
import Derived.Lib.MinMax
namespace Go.Proofs.YtdegpchofhnipaaDoor
open Go.RowKit Go.WideShapes

theorem nats_lw {n : Nat} (h : n < 1114112) : nats (lwB n) = lwN n := by
  unfold nats lwB
  rw [List.map_map]
  conv => rhs; rw [← List.map_id (lwN n)]
  refine List.map_congr_left fun x hx => ?_
  have : x < 256 := by
    unfold lwN at hx
    split at hx
    · simp at hx; omega
    split at hx
    · simp at hx; omega
    split at hx
    · simp at hx; omega
    · simp at hx; omega
  simp; omega
theorem nats_inj {a b : List UInt8} (h : nats a = nats b) : a = b := (List.map_inj_right (fun _ _ h => UInt8.toNat_inj.1 h)).1 h
theorem lwB_len (n : Nat) : (lwB n).length = (lwN n).length := by simp [lwB]
theorem txb_eq (a b : List UInt8) : ((txb a).toList == (txb b).toList) = decide (a = b) := text_eq a b
theorem cand_len (lo hi : Nat) : (candN lo hi).length = 8 := rfl
/-- The cells of the candidates. -/
def cdc (lo hi : Nat) : Array Value := ((candN lo hi).map fun x : Nat => Value.int .i64 (x : Int)).toArray
theorem cdc_is (lo hi : Nat) : cdc lo hi = #[.int .i64 (lo : Int), .int .i64 (hi : Int), .int .i64 (min (hi : Int) 1114111), .int .i64 (max (lo : Int) 2048), .int .i64 (max (lo : Int) 65536), .int .i64 (max (lo : Int) 128), .int .i64 (min (hi : Int) 55295), .int .i64 (max (lo : Int) 57344)] := by
  unfold cdc candN
  have e1 : ((min hi 1114111 : Nat) : Int) = min (hi : Int) 1114111 := by omega
  have e2 : ((max lo 2048 : Nat) : Int) = max (lo : Int) 2048 := by omega
  have e3 : ((max lo 65536 : Nat) : Int) = max (lo : Int) 65536 := by omega
  have e4 : ((max lo 128 : Nat) : Int) = max (lo : Int) 128 := by omega
  have e5 : ((min hi 55295 : Nat) : Int) = min (hi : Int) 55295 := by omega
  have e6 : ((max lo 57344 : Nat) : Int) = max (lo : Int) 57344 := by omega
  simp only [List.map_cons, List.map_nil, e1, e2, e3, e4, e5, e6]
theorem cdc_at {lo hi j : Nat} (h : j < 8) : (cdc lo hi)[j]? = some (.int .i64 (((candN lo hi)[j]'(by rw [cand_len]; exact h) : Nat) : Int)) := by
  unfold cdc
  have h' : j < (candN lo hi).length := by rw [cand_len]; exact h
  simp [h']
theorem any_take_next {α : Type} (f : α → Bool) (l : List α) {j : Nat} (h : j < l.length) (h1 : (l.take j).any f = false) (h2 : f l[j] = false) : (l.take (j + 1)).any f = false := by
  rw [List.take_add_one, List.any_append, h1, List.getElem?_eq_getElem h]
  simp [h2]
theorem cand_lt {lo hi : Nat} (h1 : lo < 70000000) (h2 : hi < 70000000) : ∀ x ∈ candN lo hi, x < 70000000 := by
  intro x hx
  simp only [candN, List.mem_cons, List.not_mem_nil, or_false] at hx
  omega
theorem rng_nil (k lo hi : Nat) : rngN [] (k + 1) lo hi = rngN [] k (64 * lo) (64 * hi + 63) := rfl
theorem rng_cons (c : Nat) (r : List Nat) (k lo hi : Nat) : rngN (c :: r) (k + 1) lo hi = if c < 128 ∨ 191 < c then none else rngN r k (64 * lo + c - 128) (64 * hi + c - 128) := rfl
theorem rng_zero (r : List Nat) (lo hi : Nat) : rngN r 0 lo hi = some (lo, hi) := by cases r <;> rfl
/-- How great what is known of a letter is. -/
def Bd (i lo : Nat) : Prop := (i = 1 ∧ lo < 256) ∨ (i = 2 ∧ lo < 16448) ∨ (i = 3 ∧ lo < 1052736) ∨ (i = 4 ∧ lo < 67375168)
theorem szN_le (c : Nat) : szN c ≤ 4 := by unfold szN; (repeat' split) <;> omega
/-- What the bounds tell. -/
def endB (F : Option (Nat × Nat)) (n : Nat) (ns : List Nat) : Bool := match F with
  | none => false
  | some (lo, hi) => (candN lo hi).any (fitB lo hi n ns)
theorem rng_end {r : List UInt8} {k lo hi : Nat} (m : Nat) (h : r.length ≤ k) : rngN ((nats r).drop k) (m + 1) lo hi = rngN ((nats r).drop (k + 1)) m (64 * lo) (64 * hi + 63) := by
  rw [List.drop_of_length_le (by rw [nats_len]; exact h), List.drop_of_length_le (by rw [nats_len]; omega)]
  rfl
theorem nats_drop' {r : List UInt8} {k : Nat} (h : k < r.length) : (nats r).drop k = r[k].toNat :: (nats r).drop (k + 1) := by
  rw [List.drop_eq_getElem_cons (by rw [nats_len]; exact h)]
  simp [nats]
theorem int_eq {a b : Int} (h : a = b) : Value.int .i64 a = Value.int .i64 b := by rw [h]
set_option maxRecDepth 100000 in
set_option maxHeartbeats 2000000 in
theorem rbegins_any {x : UInt8} {r : List UInt8} (hl : r.length ≤ 100) (w : World) : Calls Tryd.prog 28 #[.string (txb (x :: r))] w fun e w' => e = .returned (.bool (begR (nats (x :: r)))) ∧ Below w.heap.size w w' := by
  have hx : ∀ W, (Instr.index 9 (.string (txb (x :: r))) (.int .i64 0)).run Tryd.prog W = .ok (.int .u8 (x.toNat : Int)) W := fun W => txb_at (x :: r) 0 (by simp) W
  have hsz := txb_size (x :: r)
  have hrs := Lib.hid (fun W => rsize_any (c := x.toNat) W)
  have hx256 := x.toNat_lt
  have hn4 := szN_le x.toNat
  have hBR : Hid (begR (nats (x :: r)) = if szN x.toNat < r.length + 1 then false else endB (rngN (nats r) (szN x.toNat - 1) (ldN x.toNat) (ldN x.toNat)) (szN x.toNat) (nats (x :: r))) := by
    show _ = _
    rw [show nats (x :: r) = x.toNat :: nats r from rfl, begR_cons, nats_len]
    rfl
  have HAT : Hid (∀ (k : Nat) (h : k < r.length) (W : World), (Instr.index 9 (.string (txb (x :: r))) (.int .i64 ((k + 1 : Nat) : Int))).run Tryd.prog W = .ok (.int .u8 (r[k].toNat : Int)) W) := fun k h W => txb_at (x :: r) (k + 1) (by simp; omega) W
  have HT : Hid (∀ (u n : Nat), u < 1114112 → (lwN u).length = n → r.length + 1 ≤ n → ((∀ W, (Instr.slice 9 (.string (txb (lwB u))) none (some (.int .i64 ((r.length + 1 : Nat) : Int))) none).run Tryd.prog W = .ok (.string (txb ((lwB u).take (r.length + 1)))) W) ∧ ((txb ((lwB u).take (r.length + 1))).toList == (txb (x :: r)).toList) = decide ((lwN u).take (r.length + 1) = nats (x :: r)))) := fun u n hu hn hle => by
    refine ⟨fun W => txb_upto (lwB u) _ (by omega) (by rw [lwB_len]; omega) W, ?_⟩
    rw [txb_eq, decide_eq_decide, ← nats_lw hu]
    constructor
    · intro h; rw [← h]; simp [nats]
    · intro h; apply nats_inj; rw [← h]; simp [nats]
  have hszl : (nats (x :: r)).length = r.length + 1 := nats_len _
  have HSZL := Lib.hid hszl
  clear hszl
  simp only [List.length_cons] at hsz
  generalize hy : txb (x :: r) = y at *
  clear hy
  have hld : ldN x.toNat = if szN x.toNat = 2 then x.toNat - 192 else if szN x.toNat = 3 then x.toNat - 224 else if szN x.toNat = 4 then x.toNat - 240 else x.toNat := rfl
  have hge : (szN x.toNat = 2 → 192 ≤ x.toNat) ∧ (szN x.toNat = 3 → 224 ≤ x.toNat) ∧ (szN x.toNat = 4 → 240 ≤ x.toNat) := by unfold szN; (repeat' split) <;> omega
  generalize hcx : x.toNat = cx at *
  clear hcx
  generalize nats (x :: r) = ns at *
  obtain ⟨n, hn⟩ : ∃ n, n = szN cx := ⟨_, rfl⟩
  rw [← hn] at hBR hrs hn4 hld hge
  clear hn
  by_cases hlt : n < r.length + 1
  · have d1 : (n : Int) < ((r.length + 1 : Nat) : Int) := by omega
    rw [hBR.out, if_pos hlt]
    clear hBR hlt hld HAT HT
    simp only [Int.natCast_add, Int.natCast_one] at d1
    go_enter Tryd.func28, Tryd.ntmps28
    go_wp2_with fail
    refine (hrs.out _).mono ?_
    rintro e w1 ⟨rfl, rfl⟩
    clear hrs
    go_wp2
    go_ret
    exact ⟨rfl, Below.refl _ _⟩
  have d1 : ¬ (n : Int) < ((r.length + 1 : Nat) : Int) := by omega
  simp only [Int.natCast_add, Int.natCast_one] at d1
  rw [if_neg hlt] at hBR
  go_enter Tryd.func28, Tryd.ntmps28
  go_wp2_with fail
  refine (hrs.out _).mono ?_
  rintro e w1 ⟨rfl, hw1⟩
  have HB1 : Hid (Below w.heap.size w w1) := by rw [hw1]; exact Below.refl _ _
  clear hrs hw1
  have hldb : ldN cx < 256 := by rw [hld]; (repeat' split) <;> omega
  generalize ldN cx = ld at *
  go_upto_block 0 with fail
  obtain ⟨F, hF⟩ : ∃ F, F = rngN (nats r) (n - 1) ld ld := ⟨_, rfl⟩
  rw [← hF] at hBR
  have HFE := Lib.hid hF
  clear hF
  go_cut [4] (fun v wx => v = .int .i64 (ld : Int) ∧ wx = w1)
  case first =>
    clear HFE hBR HAT HT HSZL HB1
    by_cases h2 : n = 2
    · subst h2
      have : ld = cx - 192 := hld
      have hw : (cx : Int) - 192 = (ld : Int) := by omega
      clear hld this hge
      go_wp2_with fail
      go_meet
      exact ⟨rfl, rfl⟩
    have d2 : ¬ (n : Int) = 2 := by omega
    by_cases h3 : n = 3
    · subst h3
      have : ld = cx - 224 := hld
      have hw : (cx : Int) - 224 = (ld : Int) := by omega
      clear hld this hge
      go_wp2_with fail
      go_meet
      exact ⟨rfl, rfl⟩
    have d3 : ¬ (n : Int) = 3 := by omega
    by_cases h4 : n = 4
    · subst h4
      have : ld = cx - 240 := hld
      have hw : (cx : Int) - 240 = (ld : Int) := by omega
      clear hld this hge
      go_wp2_with fail
      go_meet
      exact ⟨rfl, rfl⟩
    have d4 : ¬ (n : Int) = 4 := by omega
    rw [if_neg h2, if_neg h3, if_neg h4] at hld
    subst hld
    clear hge
    go_wp2_with fail
    go_meet
    exact ⟨rfl, rfl⟩
  case rest =>
    obtain ⟨rfl, rfl⟩ := hcut
    clear hld hge hx
    go_wp2_with fail
    have h1n : 1 ≤ n := by omega
    go_loopw [4, 5, 6] (fun a b i wr => ∃ (k lo hi : Nat), k + 1 ≤ n ∧ a = .int .i64 lo ∧ b = .int .i64 hi ∧ i = .int .i64 ((k : Int) + 1) ∧ Hid (Bd (k + 1) lo) ∧ Hid (Bd (k + 1) hi) ∧ Hid (Below w.heap.size w wr) ∧ Hid (F = rngN ((nats r).drop k) (n - (k + 1)) lo hi))
      (fun _ _ i _ => n - (intOf i).toNat)
    case atStart => exact ⟨0, ld, ld, h1n, rfl, rfl, rfl, .inl ⟨rfl, hldb⟩, .inl ⟨rfl, hldb⟩, HB1, HFE⟩
    case round =>
      clear HB1 HFE
      obtain ⟨k, lo, hi, hk, rfl, rfl, rfl, HLo, HHi, HB, HE⟩ := hrel
      have hlo : lo < 67375168 := by have := HLo.out; unfold Bd at this; omega
      have hhi : hi < 67375168 := by have := HHi.out; unfold Bd at this; omega
      by_cases hkn : k + 1 < n
      · have e1 : (k : Int) + 1 < n := by omega
        obtain ⟨m, hm⟩ : ∃ m, n - (k + 1) = m + 1 := ⟨n - (k + 1) - 1, by omega⟩
        have hm2 : n - (k + 1 + 1) = m := by omega
        have HM2 := Lib.hid hm2
        have HE2 : Hid (F = rngN ((nats r).drop k) (m + 1) lo hi) := by rw [← hm]; exact HE
        clear HE hm hm2
        by_cases hkr : k < r.length
        · have e2 : (k : Int) + 1 < (r.length : Int) + 1 := by omega
          have hat := HAT.out k hkr
          have HE3 : Hid (F = rngN (r[k].toNat :: (nats r).drop (k + 1)) (m + 1) lo hi) := by show _ = _; rw [← nats_drop' hkr]; exact HE2
          clear HE2
          have hb256 := r[k].toNat_lt
          generalize r[k].toNat = b at *
          simp only [Int.natCast_add, Int.natCast_one] at hat
          by_cases hbad : b < 128 ∨ 191 < b
          · have hF : F = none := by rw [HE3.out, rng_cons, if_pos hbad]
            subst hF
            have hR : begR ns = false := hBR.out
            clear HE3 hBR
            rcases Nat.lt_or_ge b 128 with h8 | h8
            · have f1 : (b : Int) < 128 := by omega
              clear hbad
              go_wp2_with fail
              go_ret
              exact ⟨by rw [hR]; rfl, HB.out⟩
            · have f1 : decide ((b : Int) < 128) = false := by simp; omega
              have f2 : decide ((191 : Int) < b) = true := by simp; omega
              clear hbad
              go_wp2_with fail
              go_ret
              exact ⟨by rw [hR]; rfl, HB.out⟩
          · have f1 : decide ((b : Int) < 128) = false := by simp; omega
            have f2 : decide ((191 : Int) < b) = false := by simp; omega
            have HE4 : Hid (F = rngN ((nats r).drop (k + 1)) m (64 * lo + b - 128) (64 * hi + b - 128)) := by show _ = _; rw [HE3.out, rng_cons, if_neg hbad]
            have hbl : 128 ≤ b ∧ b ≤ 191 := by omega
            have HBL := Lib.hid hbl
            have HLo2 : Hid (Bd (k + 1 + 1) (64 * lo + b - 128)) := by have := HLo.out; unfold Bd at *; show _ ∨ _; omega
            have HHi2 : Hid (Bd (k + 1 + 1) (64 * hi + b - 128)) := by have := HHi.out; unfold Bd at *; show _ ∨ _; omega
            clear HE3 hbad HLo HHi hbl
            go_wp2_with fail
            go_roundw
            case rel => exact ⟨k + 1, 64 * lo + b - 128, 64 * hi + b - 128, by omega, int_eq (by have := HBL.out; omega), int_eq (by have := HBL.out; omega), by go_num, HLo2, HHi2, HB, by rw [HM2.out]; exact HE4⟩
            case measure => simp [intOf] <;> omega
        · have e2 : ¬ (k : Int) + 1 < (r.length : Int) + 1 := by omega
          have HE4 : Hid (F = rngN ((nats r).drop (k + 1)) m (64 * lo) (64 * hi + 63)) := by show _ = _; rw [HE2.out, rng_end m (by omega)]
          have HLo2 : Hid (Bd (k + 1 + 1) (64 * lo)) := by have := HLo.out; unfold Bd at *; show _ ∨ _; omega
          have HHi2 : Hid (Bd (k + 1 + 1) (64 * hi + 63)) := by have := HHi.out; unfold Bd at *; show _ ∨ _; omega
          clear HE2 HLo HHi hkr
          go_wp2_with fail
          go_roundw
          case rel => exact ⟨k + 1, 64 * lo, 64 * hi + 63, by omega, int_eq (by omega), int_eq (by omega), by go_num, HLo2, HHi2, HB, by rw [HM2.out]; exact HE4⟩
          case measure => simp [intOf] <;> omega
      · have e1 : ¬ (k : Int) + 1 < n := by omega
        have hF : F = some (lo, hi) := by rw [HE.out, show n - (k + 1) = 0 by omega, rng_zero]
        have HR : Hid (begR ns = (candN lo hi).any (fitB lo hi n ns)) := by show _ = _; rw [hBR.out, hF]; rfl
        clear HE hF hBR HAT hkn HLo HHi
        have HRW : Hid (Row (wr.alloc (.cells #[.int .i64 (lo : Int), .int .i64 (hi : Int), .int .i64 (min (hi : Int) 1114111), .int .i64 (max (lo : Int) 2048), .int .i64 (max (lo : Int) 65536), .int .i64 (max (lo : Int) 128), .int .i64 (min (hi : Int) 55295), .int .i64 (max (lo : Int) 57344)] 3)) wr.heap.size 3 (cdc lo hi)) := by
          show Row _ _ _ _
          rw [cdc_is]
          exact Row.new _ _ _
        have HB2 : Hid (Below w.heap.size w (wr.alloc (.cells #[.int .i64 (lo : Int), .int .i64 (hi : Int), .int .i64 (min (hi : Int) 1114111), .int .i64 (max (lo : Int) 2048), .int .i64 (max (lo : Int) 65536), .int .i64 (max (lo : Int) 128), .int .i64 (min (hi : Int) 55295), .int .i64 (max (lo : Int) 57344)] 3))) := HB.out.alloc HB.out.size _
        have hcl := cand_lt (lo := lo) (hi := hi) (by omega) (by omega)
        have HCL := Lib.hid hcl
        clear hcl HB
        go_wp2_with fail
        generalize wr.heap.size = g at *
        go_loopw [89] (fun j wq => ∃ i : Nat, i ≤ 8 ∧ j = .int .i64 i ∧ Hid (Row wq g 3 (cdc lo hi)) ∧ Hid (Below w.heap.size w wq) ∧ Hid (((candN lo hi).take i).any (fitB lo hi n ns) = false)) (fun j _ => 8 - (intOf j).toNat)
        case atStart => exact ⟨0, by omega, rfl, HRW, HB2, rfl⟩
        case round =>
          clear HRW HB2
          obtain ⟨i, hi8, rfl, HRW, HB, HA⟩ := hrel
          by_cases hlt8 : i < 8
          · have e1 : (i : Int) < 8 := by omega
            have hcell := HRW.out.cell (cdc_at hlt8)
            have hil : i < (candN lo hi).length := by rw [cand_len]; exact hlt8
            have hu := HCL.out _ (List.getElem_mem hil)
            have HNX : Hid (fitB lo hi n ns (candN lo hi)[i] = false → ((candN lo hi).take (i + 1)).any (fitB lo hi n ns) = false) := any_take_next _ _ hil HA.out
            have HYS : Hid (fitB lo hi n ns (candN lo hi)[i] = true → (candN lo hi).any (fitB lo hi n ns) = true) := fun h => List.any_eq_true.2 ⟨_, List.getElem_mem hil, h⟩
            generalize (candN lo hi)[i] = u at *
            have HFB : Hid (fitB lo hi n ns u = decide (lo ≤ u ∧ u ≤ hi ∧ LetP u ∧ (lwN u).length = n ∧ (lwN u).take ns.length = ns)) := rfl
            have next : Hid (fitB lo hi n ns u = false → ((candN lo hi).take (i + 1)).any (fitB lo hi n ns) = false) := HNX
            clear HNX HA hil
            by_cases h1 : lo ≤ u
            case neg =>
              have HN := Lib.hid (next.out (by rw [HFB.out]; exact decide_eq_false fun h => h1 h.1))
              have f1 : decide (lo ≤ u) = false := decide_eq_false h1
              clear HFB HYS next h1
              go_wp2_with fail
              go_roundw
              case rel => exact ⟨i + 1, by omega, by go_num, HRW, HB, HN⟩
              case measure => simp [intOf] <;> omega
            case pos =>
              have f1 : decide (lo ≤ u) = true := decide_eq_true h1
              by_cases h2 : u ≤ hi
              case neg =>
                have HN := Lib.hid (next.out (by rw [HFB.out]; exact decide_eq_false fun h => h2 h.2.1))
                have f2 : decide (u ≤ hi) = false := decide_eq_false h2
                clear HFB HYS next h1 h2
                go_wp2_with fail
                go_roundw
                case rel => exact ⟨i + 1, by omega, by go_num, HRW, HB, HN⟩
                case measure => simp [intOf] <;> omega
              case pos =>
                have f2 : decide (u ≤ hi) = true := decide_eq_true h2
                by_cases h3 : u < 1114112
                case neg =>
                  have HN := Lib.hid (next.out (by rw [HFB.out]; exact decide_eq_false fun h => h3 h.2.2.1.1))
                  have f3 : decide ((u : Int) < 1114112) = false := by simp; omega
                  clear HFB HYS next h1 h2 h3
                  go_wp2_with fail
                  go_roundw
                  case rel => exact ⟨i + 1, by omega, by go_num, HRW, HB, HN⟩
                  case measure => simp [intOf] <;> omega
                case pos =>
                  have f3 : decide ((u : Int) < 1114112) = true := by simp; omega
                  have HW := Lib.hid (fun W => rwrite_any h3 W)
                  have hsw := txb_size (lwB u)
                  rw [lwB_len] at hsw
                  have hwl := wr_len u
                  by_cases h4 : u < 55296 ∨ 57343 < u
                  case neg =>
                    have HN := Lib.hid (next.out (by rw [HFB.out]; exact decide_eq_false fun h => h4 h.2.2.1.2))
                    have f4 : decide ((u : Int) < 55296) = false := by simp; omega
                    have f5 : decide ((57343 : Int) < u) = false := by simp; omega
                    clear HFB HYS next h1 h2 h3 h4 HW hsw
                    go_wp2_with fail
                    go_roundw
                    case rel => exact ⟨i + 1, by omega, by go_num, HRW, HB, HN⟩
                    case measure => simp [intOf] <;> omega
                  case pos =>
                    have f45 : (decide ((u : Int) < 55296) = true) ∨ (decide ((u : Int) < 55296) = false ∧ decide ((57343 : Int) < u) = true) := by simp; omega
                    by_cases h5 : (lwN u).length = n
                    case neg =>
                      have HN := Lib.hid (next.out (by rw [HFB.out]; exact decide_eq_false fun h => h5 h.2.2.2.1))
                      have f6 : (((lwN u).length : Int) == n) = false := by rw [beq_eq_false_iff_ne]; omega
                      generalize txb (lwB u) = yu at *
                      generalize (lwN u).length = lu at *
                      clear HFB HYS next h1 h2 h3 h4 hwl
                      rcases f45 with f4 | ⟨f4, f5⟩
                      all_goals
                        go_wp2_with fail
                        refine (HW.out _).mono ?_
                        rintro e w4 ⟨rfl, hb⟩
                        have HRW2 := Lib.hid (HRW.out.below hb HRW.out.lt)
                        have HB2 := Lib.hid (HB.out.trans (hb.mono HB.out.size))
                        clear hb HRW HB hcell
                        go_wp2_with fail
                        go_roundw
                        · exact ⟨i + 1, by omega, by go_num, HRW2, HB2, HN⟩
                        · simp [intOf] <;> omega
                    case pos =>
                      obtain ⟨hsl, heq⟩ := HT.out u n h3 h5 (by omega)
                      have hun : (lwN u).length ≤ 4 := by omega
                      have f6 : ((n : Int) == n) = true := beq_self_eq_true _
                      rw [h5] at hsw
                      have f7 : 0 ≤ ((r.length + 1 : Nat) : Int) ∧ ((r.length + 1 : Nat) : Int) ≤ n := by omega
                      have hFB2 : Hid (fitB lo hi n ns u = decide ((lwN u).take (r.length + 1) = ns)) := by
                        show _ = _
                        rw [HFB.out, decide_eq_decide, HSZL.out]
                        constructor
                        · intro h; exact h.2.2.2.2
                        · intro h; exact ⟨h1, h2, ⟨h3, h4⟩, h5, h⟩
                      rw [← hFB2.out] at heq
                      generalize txb ((lwB u).take (r.length + 1)) = yt at *
                      generalize txb (lwB u) = yu at *
                      generalize fitB lo hi n ns u = bb at *
                      clear HFB h1 h2 h3 h4 hwl hFB2 h5 hun
                      simp only [Int.natCast_add, Int.natCast_one] at hsl f7
                      cases bb with
                      | false =>
                        have HN := Lib.hid (next.out rfl)
                        clear next HYS
                        rcases f45 with f4 | ⟨f4, f5⟩
                        all_goals
                          go_wp2_with fail
                          refine (HW.out _).mono ?_
                          rintro e w4 ⟨rfl, hb⟩
                          have HRW2 := Lib.hid (HRW.out.below hb HRW.out.lt)
                          have HB2 := Lib.hid (HB.out.trans (hb.mono HB.out.size))
                          clear hb HRW HB hcell
                          go_wp2_with fail
                          refine (HW.out _).mono ?_
                          rintro e w5 ⟨rfl, hb⟩
                          have HRW3 := Lib.hid (HRW2.out.below hb HRW2.out.lt)
                          have HB3 := Lib.hid (HB2.out.trans (hb.mono HB2.out.size))
                          clear hb HRW2 HB2
                          go_wp2_with fail
                          go_roundw
                          · exact ⟨i + 1, by omega, by go_num, HRW3, HB3, HN⟩
                          · simp [intOf] <;> omega
                      | true =>
                        have hR : begR ns = true := by rw [HR.out]; exact HYS.out rfl
                        clear next HYS HR
                        rcases f45 with f4 | ⟨f4, f5⟩
                        all_goals
                          go_wp2_with fail
                          refine (HW.out _).mono ?_
                          rintro e w4 ⟨rfl, hb⟩
                          have HB2 := Lib.hid (HB.out.trans (hb.mono HB.out.size))
                          clear hb HRW HB hcell
                          go_wp2_with fail
                          refine (HW.out _).mono ?_
                          rintro e w5 ⟨rfl, hb⟩
                          have HB3 := Lib.hid (HB2.out.trans (hb.mono HB2.out.size))
                          clear hb HB2
                          go_wp2_with fail
                          go_ret
                          exact ⟨by rw [hR]; rfl, HB3.out⟩
          · obtain rfl : i = 8 := by omega
            have hR : begR ns = false := by rw [HR.out]; exact HA.out
            clear HA HR
            go_wp2_with fail
            go_ret
            exact ⟨by rw [hR]; rfl, HB.out⟩
end Go.Proofs.YtdegpchofhnipaaDoor
