/-
  The document's Decode, by its contract. Conditions: at most 300 bytes.
-/
import Derived.Test.YtaegdageiacdbaaRbits
import Derived.Test.YtaegdageiacdbaaRcodes
import Derived.Test.YtaegdageiacdbaaHdec
import Derived.Test.YtaegdageiacdbaaHdecp
namespace Go.Proofs.Ytaegdageiacdbaa
open Go.RowKit Go.WideShapes

/-! ### plain -/
theorem run_end : ∀ (r q : List Bool) (out : List UInt8) (t : List Bool), codeB 256 = q ++ r → r ≠ [] → runB (r ++ t) (out, q) = none
  | [], _, _, _, _, h => absurd rfl h
  | b :: r, q, out, t, h, _ => by
    show (stepB (out, q) b).bind (runB (r ++ t)) = _
    have h' : codeB 256 = (q ++ [b]) ++ r := by rw [h]; simp
    cases r with
    | nil =>
      rw [List.append_nil] at h'
      rw [step_end (by rw [← h', lookB_code (by omega)])]
      rfl
    | cons c r =>
      rw [step_none (look_part (i := 256) (by omega) h' (by simp))]
      exact run_end (c :: r) (q ++ [b]) out t h' (by simp)
theorem run_nocode : ∀ (p q : List Bool) (out : List UInt8), (∀ i, i < 257 → ∀ a b, p = a ++ b → a ≠ [] → codeB i ≠ q ++ a) → runB p (out, q) = some (out, q ++ p)
  | [], q, out, _ => by rw [List.append_nil]; rfl
  | b :: p, q, out, h => by
    show (stepB (out, q) b).bind (runB p) = _
    rw [step_none (lookB_of_none fun i hi => h i hi [b] p rfl (by simp))]
    show runB p (out, q ++ [b]) = _
    rw [run_nocode p (q ++ [b]) out fun i hi a c e _ => by
      have := h i hi (b :: a) c (by rw [e]; rfl) (by simp)
      rw [List.append_assoc]; exact this]
    simp
theorem codeB_ne {i : Nat} (hi : i < 257) : codeB i ≠ [] := fun h0 => by
  have h1 := codeB_len i
  have h2 := ln_all i hi
  rw [h0] at h1
  simp at h1
  omega
/-- Which sign was found among the first ones. -/
def Found (s : List Bool) (a i : Nat) (f : Int) : Prop := (f = -1 ∧ ∀ j, j < i → begB (codeB j) s a = false) ∨ (∃ j : Nat, j < i ∧ f = (j : Int) ∧ begB (codeB j) s a = true)
theorem found_yes {s : List Bool} {a i : Nat} (h : begB (codeB i) s a = true) : Found s a (i + 1) (i : Int) := .inr ⟨i, by omega, rfl, h⟩
theorem found_no {s : List Bool} {a i : Nat} {f : Int} (hf : Found s a i f) (h : begB (codeB i) s a = false) : Found s a (i + 1) f := by
  rcases hf with ⟨h1, h2⟩ | ⟨j, h1, h2, h3⟩
  · refine .inl ⟨h1, fun j hj => ?_⟩
    by_cases e : j = i
    · subst e; exact h
    · exact h2 j (by omega)
  · exact .inr ⟨j, by omega, h2, h3⟩
theorem run_none {s : List Bool} {a : Nat} (ha : a ≤ s.length) (h : ∀ j, j < 257 → begB (codeB j) s a = false) (out : List UInt8) : runB (s.drop a) (out, []) = some (out, s.drop a) := by
  have := run_nocode (s.drop a) [] out fun i hi x y e _ hc => begB_no (h i hi) ha y (by rw [e, hc]; rfl)
  rw [this]
  rfl
theorem drop_more {s p r : List Bool} {a : Nat} (h : s.drop a = p ++ r) : s.drop (a + p.length) = r := by
  rw [← List.drop_drop, h]; simp

theorem own_lit0 (w : World) (B : Nat) (h : B ≤ w.heap.size) : OwB (w.alloc (.cells #[] 5)) B 5 (.slice (some ⟨w.heap.size, 0, none⟩) 0 0) [] := OwB.lit w 5 [] 0 rfl (by simp [maxLen]) h

set_option maxRecDepth 100000 in
set_option maxHeartbeats 2000000 in
theorem rdec_any (A : Option Addr) (c : Nat) (l : List UInt8) (hl : l.length ≤ 300) (w : World) (hr : RdB w w.heap.size A l) :
    Calls Try.prog 16 #[.slice A l.length c] w fun e w' => DecE (decL l) e ∧ Below w.heap.size w w' := by
  obtain ⟨i0, hi0, hz0, hz1, hz2⟩ := info_parts u8_info
  obtain ⟨s, hs⟩ : ∃ s, s = unpack l := ⟨_, rfl⟩
  have hsl : s.length ≤ 2400 := by rw [hs, unpack_len]; omega
  obtain ⟨F, hF⟩ : ∃ F, F = runB s ([], []) := ⟨_, rfl⟩
  have hD : decL l = finB F := by unfold decL; rw [hF, hs]
  have HF := Lib.hid hF
  have HD := Lib.hid hD
  have HS := Lib.hid hs
  clear hF hD hs
  generalize decL l = D at HD
  have HRd := Lib.hid hr
  clear hr
  go_enter Try.func16, Try.ntmps16
  go_wp2_with fail
  refine (rcodes_any _).mono ?_
  rintro e w1 ⟨g, rfl, hg, hR, hb1⟩
  have hgl := hR.lt
  have hs1 := hb1.size
  have hbt := rbits_any A c l (by omega) w1 _ (HRd.out.below hb1)
  rw [← HS.out] at hbt
  have HR := Lib.hid (hR.alloc (.cells #[] 5))
  have HB := Lib.hid (hb1.alloc hs1 (.cells #[] 5))
  have HO := Lib.hid (own_lit0 w1 w1.heap.size (Nat.le_refl _))
  clear hR hb1
  go_wp2_with fail
  refine hbt.mono ?_
  rintro e w' ⟨rfl, rfl⟩
  clear hbt
  have hss := bs_size s
  go_wp2_with fail
  go_loopw [6, 7] (fun v a wr => ∃ (a' : Nat) (A2 : Option Addr) (c2 : Nat) (out : List UInt8), a' ≤ s.length ∧ a = .int .i64 a' ∧ v = .slice A2 out.length c2 ∧ out.length ≤ a' ∧ Hid (runB (s.drop a') (out, []) = F) ∧ Hid (OwB wr w1.heap.size 5 (.slice A2 out.length c2) out) ∧ Hid (Row wr g 9 (strs codeB)) ∧ Hid (Below w.heap.size w wr) ∧ w1.heap.size ≤ wr.heap.size)
    (fun _ a _ => s.length - (intOf a).toNat)
  case atStart => exact ⟨0, _, _, [], Nat.zero_le _, rfl, rfl, Nat.zero_le _, HF.out.symm, HO, HR, HB, by simp⟩
  case round =>
    clear HO HR HB
    obtain ⟨a, A2, c2, out, ha, rfl, rfl, hol, hE, hO, hR, hB, hz⟩ := hrel
    by_cases hlt : a < s.length
    · go_wp2_with fail
      go_loop [8, 20] (fun f i => ∃ (i' : Nat) (f' : Int), i' ≤ 257 ∧ i = .int .i64 i' ∧ f = .int .i64 f' ∧ -1 ≤ f' ∧ f' < 257 ∧ Hid (Found s a i' f')) (fun _ i => 257 - (intOf i).toNat)
      case atStart => exact ⟨0, -1, by omega, rfl, rfl, by omega, by omega, .inl ⟨rfl, fun j hj => by omega⟩⟩
      case round =>
        obtain ⟨i, f, hi, rfl, rfl, hf1, hf2, hf⟩ := hrel
        by_cases hlt2 : i < 257
        · have hcell := hR.out.cell (strs_at codeB hlt2)
          have hcl := codeB_len i
          have hln := ln_all i hlt2
          have hbg := begins_any (codeB i) s a (by omega) (by omega) (by omega)
          have hy : begB (codeB i) s a = true → Hid (Found s a (i + 1) (i : Int)) := found_yes
          have hn : begB (codeB i) s a = false → Hid (Found s a (i + 1) f) := found_no hf.out
          generalize begB (codeB i) s a = v at hbg hy hn
          generalize codeB i = q at hcell hbg
          clear hcl hln
          cases v
          · have hf3 := hn rfl
            clear hy hn hf
            go_wp2_with fail
            refine (hbg _).mono ?_
            rintro e w' ⟨rfl, rfl⟩
            clear hbg
            go_wp2_with fail
            go_round
            case rel => exact ⟨i + 1, f, by omega, by go_num, rfl, hf1, hf2, hf3⟩
            case measure => simp [intOf]; omega
          · have hf3 := hy rfl
            clear hy hn hf
            go_wp2_with fail
            refine (hbg _).mono ?_
            rintro e w' ⟨rfl, rfl⟩
            clear hbg
            go_wp2_with fail
            go_round
            case rel => exact ⟨i + 1, (i : Int), by omega, by go_num, rfl, by omega, by omega, hf3⟩
            case measure => simp [intOf]; omega
        · obtain rfl : i = 257 := by omega
          rcases hf.out with ⟨rfl, hnone⟩ | ⟨j, hj, rfl, hyes⟩
          · have hFe : F = some (out, s.drop a) := by rw [← hE.out]; exact run_none ha hnone out
            clear hnone hf hE hf1 hf2
            obtain ⟨A4, c4, e4, _, _, hrd⟩ := hO.out.shape
            injection e4 with e4 _ e5
            subst e4 e5
            by_cases h7 : 7 < s.length - a
            · have hD0 : D = none := by
                rw [HD.out, hFe]
                exact if_neg (fun h => by have := h.1; rw [List.length_drop] at this; omega)
              subst hD0
              have h7i : decide ((7 : Int) < (s.length : Int) - a) = true := by simp; omega
              clear hFe hrd
              go_wp2_with fail
              go_ret2
              exact ⟨rfl, hB.out⟩
            · have h7i : decide ((7 : Int) < (s.length : Int) - a) = false := by simp; omega
              have HFe := Lib.hid hFe
              have HRD := Lib.hid hrd
              clear hFe hrd
              go_wp2_with fail
              clear h7i
              go_loop [7] (fun b => ∃ t : Nat, a + t ≤ s.length ∧ b = .int .i64 ((a + t : Nat) : Int) ∧ Hid (∀ i, i < t → s[a + i]? = some true)) (fun b => s.length - (intOf b).toNat)
              case atStart => exact ⟨0, ha, rfl, fun i hi => by omega⟩
              case round =>
                obtain ⟨t, ht, rfl, hall⟩ := hrel
                by_cases htl : a + t < s.length
                · have hch : ∀ h : a + t < (bs s).size, (bs s)[a + t]'h = chr s[a + t] := fun h => bs_at s h
                  have hget : s[a + t]? = some s[a + t] := List.getElem?_eq_getElem htl
                  have HG := Lib.hid hget
                  clear hget
                  cases hb : s[a + t]
                  · rw [hb] at HG hch
                    clear hb
                    have hD0 : D = none := by
                      rw [HD.out, HFe.out]
                      refine if_neg (fun h => ?_)
                      have h1 : (s.drop a)[t]? = some false := by rw [List.getElem?_drop]; exact HG.out
                      rw [h.2, List.getElem?_replicate] at h1
                      split at h1 <;> simp at h1
                    subst hD0
                    simp only [show chr false = 48 from rfl] at hch
                    clear HG
                    go_wp2_with fail
                    go_ret2
                    exact ⟨rfl, hB.out⟩
                  · rw [hb] at HG hch
                    clear hb
                    have hall2 : Hid (∀ i, i < t + 1 → s[a + i]? = some true) := fun i hi => by
                      by_cases e : i = t
                      · subst e; exact HG.out
                      · exact hall.out i (by omega)
                    simp only [show chr true = 49 from rfl] at hch
                    clear HG hall
                    go_wp2_with fail
                    go_round
                    case rel => exact ⟨t + 1, by omega, by go_num, hall2⟩
                    case measure => simp [intOf]; omega
                · have hat : a + t = s.length := by omega
                  have hD1 : D = some out := by
                    rw [HD.out, HFe.out]
                    refine if_pos ⟨by rw [List.length_drop]; omega, ?_⟩
                    refine List.eq_replicate_iff.2 ⟨rfl, fun b hb => ?_⟩
                    obtain ⟨i, hi, rfl⟩ := List.getElem_of_mem hb
                    have h1 := hall.out i (by rw [List.length_drop] at hi; omega)
                    have h2 : (s.drop a)[i]? = some true := by rw [List.getElem?_drop]; exact h1
                    rw [List.getElem?_eq_getElem hi] at h2
                    exact Option.some.inj h2
                  subst hD1
                  have htx : (convert 31 9 (.slice A2 out.length c2)).run Try.prog wr = .ok (.string ⟨out.toArray⟩) wr := run_text Try.underlying31 Try.underlying5 Try.underlying9 HRD.out
                  have hatd : decide (a + t < s.length) = false := by simp; omega
                  clear hat hall htl
                  generalize a + t = b at ht hatd ⊢
                  go_wp2_with fail
                  go_ret2
                  exact ⟨rfl, hB.out⟩
          · obtain ⟨r, hdr⟩ := begB_yes hyes
            by_cases h256 : j = 256
            · subst h256
              have hF0 : F = none := by
                rw [← hE.out, hdr]
                exact run_end (codeB 256) [] out r rfl (codeB_ne (by omega))
              have hD0 : D = none := by rw [HD.out, hF0]; rfl
              subst hD0
              clear hF0 hdr hyes hf hE hj hf1 hf2
              go_wp2_with fail
              go_ret2
              exact ⟨rfl, hB.out⟩
            · have hcell := hR.out.cell (strs_at codeB hj)
              have hcl := bs_size (codeB j)
              have hE2 : Hid (runB (s.drop (a + (codeB j).length)) (out ++ [UInt8.ofNat j], []) = F) := by
                show _ = _
                rw [drop_more hdr, ← hE.out, hdr, runB_append, run_code (i := j) (by omega) out (codeB j) [] rfl (codeB_ne hj)]
                rfl
              have hle : a + (codeB j).length ≤ s.length := by
                have := congrArg List.length hdr
                rw [List.length_drop, List.length_append] at this
                omega
              have hpos : 0 < (codeB j).length := List.length_pos_iff.2 (codeB_ne hj)
              generalize codeB j = q at hcell hcl hE2 hle hpos
              have hj2 : j < 256 := by omega
              have hj3 : ((j : Int) == 256) = false := by rw [beq_eq_false_iff_ne]; omega
              have hw8 : IntKind.u8.wrap (j : Int) = (j : Int) := by rw [IntKind.wrap_u8']; omega
              clear hdr hyes hf hE h256 hj hf1 hf2
              have hRA := Lib.hid (hR.out.alloc (.cells #[.int .u8 (j : Int)] 5))
              go_wp2_with (at_builtin; go_loud (refine wpList_appB1 rfl (.tmp 36) (.tmp 39) _ rfl w1.heap.size 5 i0 Try.underlying31 hi0 hz0 hz1 hz2 _ out rfl (World.ownsRow.alloc hO.out _) wr.heap.size _ _ rfl (cell_new _ _ _ _) (by omega) (by omega) (by omega) (by simp; omega) ?_; intro A3 c3 L3 w3 hL3 ho3 hb3; have hc3 : w3.cell? ⟨g, j, none⟩ = some (.string (bs q)) := (hb3.cell (p := ⟨g, j, none⟩) hgl).trans ((World.cell?_alloc_lt wr _ _ (Nat.lt_of_lt_of_le hgl hz)).trans hcell)))
              go_roundw
              case rel =>
                have e1 : L3 = out ++ [UInt8.ofNat j] := by rw [hL3.out]; simp
                refine ⟨a + q.length, A3, c3, L3, hle, by go_num, rfl, by rw [e1]; simp; omega, ?_, ho3, hRA.out.below hb3 hgl, hB.out.trans (((Below.refl _ _).alloc (by have := hB.out.size; omega) _).trans (hb3.mono hs1)), by have := hb3.size; simp at this; omega⟩
                rw [e1]; exact hE2
              case measure => simp [intOf]; omega
    · have haeq : a = s.length := by omega
      have hFe : F = some (out, s.drop a) := by rw [← hE.out, haeq, List.drop_of_length_le (Nat.le_refl _)]; rfl
      clear hE
      have hai : decide (a < s.length) = false := by simp; omega
      clear haeq hlt
      obtain ⟨A4, c4, e4, _, _, hrd⟩ := hO.out.shape
      injection e4 with e4 _ e5
      subst e4 e5
      by_cases h7 : 7 < s.length - a
      · have hD0 : D = none := by
          rw [HD.out, hFe]
          exact if_neg (fun h => by have := h.1; rw [List.length_drop] at this; omega)
        subst hD0
        have h7i : decide ((7 : Int) < (s.length : Int) - a) = true := by simp; omega
        clear hFe hrd
        go_wp2_with fail
        go_ret2
        exact ⟨rfl, hB.out⟩
      · have h7i : decide ((7 : Int) < (s.length : Int) - a) = false := by simp; omega
        have HFe := Lib.hid hFe
        have HRD := Lib.hid hrd
        clear hFe hrd
        go_wp2_with fail
        clear h7i
        go_loop [7] (fun b => ∃ t : Nat, a + t ≤ s.length ∧ b = .int .i64 ((a + t : Nat) : Int) ∧ Hid (∀ i, i < t → s[a + i]? = some true)) (fun b => s.length - (intOf b).toNat)
        case atStart => exact ⟨0, ha, rfl, fun i hi => by omega⟩
        case round =>
          obtain ⟨t, ht, rfl, hall⟩ := hrel
          by_cases htl : a + t < s.length
          · have hch : ∀ h : a + t < (bs s).size, (bs s)[a + t]'h = chr s[a + t] := fun h => bs_at s h
            have hget : s[a + t]? = some s[a + t] := List.getElem?_eq_getElem htl
            have HG := Lib.hid hget
            clear hget
            cases hb : s[a + t]
            · rw [hb] at HG hch
              clear hb
              have hD0 : D = none := by
                rw [HD.out, HFe.out]
                refine if_neg (fun h => ?_)
                have h1 : (s.drop a)[t]? = some false := by rw [List.getElem?_drop]; exact HG.out
                rw [h.2, List.getElem?_replicate] at h1
                split at h1 <;> simp at h1
              subst hD0
              simp only [show chr false = 48 from rfl] at hch
              clear HG
              go_wp2_with fail
              go_ret2
              exact ⟨rfl, hB.out⟩
            · rw [hb] at HG hch
              clear hb
              have hall2 : Hid (∀ i, i < t + 1 → s[a + i]? = some true) := fun i hi => by
                by_cases e : i = t
                · subst e; exact HG.out
                · exact hall.out i (by omega)
              simp only [show chr true = 49 from rfl] at hch
              clear HG hall
              go_wp2_with fail
              go_round
              case rel => exact ⟨t + 1, by omega, by go_num, hall2⟩
              case measure => simp [intOf]; omega
          · have hat : a + t = s.length := by omega
            have hD1 : D = some out := by
              rw [HD.out, HFe.out]
              refine if_pos ⟨by rw [List.length_drop]; omega, ?_⟩
              refine List.eq_replicate_iff.2 ⟨rfl, fun b hb => ?_⟩
              obtain ⟨i, hi, rfl⟩ := List.getElem_of_mem hb
              have h1 := hall.out i (by rw [List.length_drop] at hi; omega)
              have h2 : (s.drop a)[i]? = some true := by rw [List.getElem?_drop]; exact h1
              rw [List.getElem?_eq_getElem hi] at h2
              exact Option.some.inj h2
            subst hD1
            have htx : (convert 31 9 (.slice A2 out.length c2)).run Try.prog wr = .ok (.string ⟨out.toArray⟩) wr := run_text Try.underlying31 Try.underlying5 Try.underlying9 HRD.out
            have hatd : decide (a + t < s.length) = false := by simp; omega
            clear hat hall htl
            generalize a + t = b at ht hatd ⊢
            go_wp2_with fail
            go_ret2
            exact ⟨rfl, hB.out⟩
end Go.Proofs.Ytaegdageiacdbaa
