/-
  The document's Good, by contract. Conditions: at most 100000 bytes.
-/
import Derived.Test.YtdegpchofhnipaaDoorVrb
namespace Go.Proofs.YtdegpchofhnipaaDoor
open Go.RowKit Go.WideShapes

/-- In the middle of a letter. -/
def Mid (s : List Nat) (z m : Nat) (t : Ut) : Prop := goN ut0 (s.take m) = (m, some t) ∧ ((m = 0 ∧ t = ut0) ∨ (0 < m ∧ m < z ∧ t.k = z - m))
theorem ut_sz {c : Nat} {u : Ut} (h : utN ut0 c = some u) : 1 ≤ szN c ∧ u.k = szN c - 1 ∧ (u.k = 0 → u = ut0) := by
  rcases st_first h with ⟨h1, rfl⟩ | ⟨h1, h2, rfl⟩ | ⟨rfl, rfl⟩ | ⟨rfl, rfl⟩ | ⟨h1, h2, h3, rfl⟩ | ⟨rfl, rfl⟩ | ⟨rfl, rfl⟩ | ⟨h1, h2, rfl⟩
  · have : szN c = 1 := if_pos h1
    rw [this]; exact ⟨by omega, rfl, fun _ => rfl⟩
  · rw [(sz2 ⟨h1, h2⟩).1]; exact ⟨by omega, rfl, fun h => by simp at h⟩
  · exact ⟨by decide, rfl, fun h => by simp at h⟩
  · exact ⟨by decide, rfl, fun h => by simp at h⟩
  · rw [(sz3 ⟨by omega, h2⟩).1]; exact ⟨by omega, rfl, fun h => by simp at h⟩
  · exact ⟨by decide, rfl, fun h => by simp at h⟩
  · exact ⟨by decide, rfl, fun h => by simp at h⟩
  · rw [(sz4 (c := c) ⟨by omega, by omega⟩).1]; exact ⟨by omega, rfl, fun h => by simp at h⟩
theorem ut_nx {t u : Ut} {c j : Nat} (ht : t.k = j + 1) (h : utN t c = some u) : u.k = j ∧ (u.k = 0 → u = ut0) := by
  obtain ⟨k, lo, hi⟩ := t
  obtain rfl : k = j + 1 := ht
  obtain ⟨_, _, rfl⟩ := st_next h
  by_cases hj : j = 0
  · subst hj; exact ⟨rfl, fun _ => rfl⟩
  · rw [if_neg hj]; exact ⟨rfl, fun h => absurd h hj⟩
theorem mid_step {s : List Nat} {m : Nat} {t : Ut} (hm : m < s.length) {c : Nat} {r : List Nat} (hs : s = c :: r) (h : Mid s (szN c) m t) :
    (begR (s.take (m + 1)) = false ∧ goN ut0 s = (m, none)) ∨ (begR (s.take (m + 1)) = true ∧ ((m + 1 = szN c ∧ goN ut0 (s.take (m + 1)) = (m + 1, some ut0)) ∨ (m + 1 < szN c ∧ ∃ u, u ≠ ut0 ∧ Mid s (szN c) (m + 1) u))) := by
  obtain ⟨h1, h2⟩ := h
  have ht : s.take (m + 1) = s.take m ++ [s[m]] := by rw [List.take_add_one, List.getElem?_eq_getElem hm]; rfl
  have hg : goN ut0 (s.take (m + 1)) = (m + (goN t [s[m]]).1, (goN t [s[m]]).2) := by
    rw [ht, go_app _ _ _ t (by rw [h1]), List.length_take, Nat.min_eq_left (by omega)]
  have hcons : s.take (m + 1) = c :: r.take m := by rw [hs]; rfl
  have hlen : (r.take m).length = m := by rw [List.length_take]; subst hs; simp at hm; omega
  have hb : begR (s.take (m + 1)) = (decide (m + 1 ≤ szN c) && (goN ut0 (s.take (m + 1))).2.isSome) := by
    conv => lhs; rw [hcons]
    rw [beg_is, hlen, ← hcons]
  cases hu : utN t s[m] with
  | none =>
    have hg2 : goN ut0 (s.take (m + 1)) = (m, none) := by rw [hg, go_cons_no hu]; rfl
    refine .inl ⟨by rw [hb, hg2]; simp, ?_⟩
    have h3 := go_none (s.take (m + 1)) (s.drop (m + 1)) ut0 (by rw [hg2])
    rw [List.take_append_drop] at h3
    rw [h3, hg2]
  | some u =>
    have hg2 : goN ut0 (s.take (m + 1)) = (m + 1, some u) := by rw [hg, go_cons_yes hu]; rfl
    have hk : m + 1 ≤ szN c ∧ u.k = szN c - (m + 1) ∧ (u.k = 0 → u = ut0) := by
      rcases h2 with ⟨rfl, rfl⟩ | ⟨h2, h3, h4⟩
      · have h0 : s[0] = c := by subst hs; rfl
        rw [h0] at hu
        exact ut_sz hu
      · obtain ⟨h5, h6⟩ := ut_nx (j := szN c - m - 1) (by omega) hu
        exact ⟨by omega, by omega, h6⟩
    obtain ⟨k1, k2, k3⟩ := hk
    refine .inr ⟨by rw [hb, hg2, decide_eq_true k1]; rfl, ?_⟩
    rcases Nat.lt_or_ge (m + 1) (szN c) with h6 | h6
    · refine .inr ⟨h6, u, ?_, hg2, .inr ⟨by omega, h6, k2⟩⟩
      rintro rfl
      have : (0 : Nat) = szN c - (m + 1) := k2
      omega
    · have e : u = ut0 := k3 (by omega)
      subst e
      exact .inl ⟨by omega, hg2⟩
/-- What is told of bytes, with k read already. -/
def GdI (l : List UInt8) (k : Nat) : Prop := goN ut0 (nats l) = (k + (goN ut0 (nats (l.drop k))).1, (goN ut0 (nats (l.drop k))).2)
theorem gd_next {l : List UInt8} {k m : Nat} (h : GdI l k) (hg : goN ut0 ((nats (l.drop k)).take m) = (m, some ut0)) (hm : k + m ≤ l.length) : GdI l (k + m) := by
  unfold GdI at *
  have h1 := go_app ((nats (l.drop k)).take m) ((nats (l.drop k)).drop m) ut0 ut0 (by rw [hg])
  rw [List.take_append_drop, List.length_take, nats_len, List.length_drop, Nat.min_eq_left (by omega)] at h1
  have h2 : (nats (l.drop k)).drop m = nats (l.drop (k + m)) := by unfold nats; rw [← List.map_drop, List.drop_drop]
  rw [h2] at h1
  rw [h, h1, Nat.add_assoc]
set_option maxRecDepth 100000 in
set_option maxHeartbeats 2000000 in
theorem rgood_aux {l : List UInt8} (hl : l.length ≤ 100000) {w0 w : World} (hb : Below w0.heap.size w0 w) : Calls Tryd.prog 18 #[.string (txb l)] w fun e w' => e = .returned (.tuple #[.int .i64 ((goN ut0 (nats l)).1 : Int), .bool (txtB (nats l))]) ∧ Below w0.heap.size w0 w' := by
  have hsz := txb_size l
  have HI : Hid (∀ (k : Nat) (h : k < l.length) (W : World), (Instr.index 9 (.string (txb l)) (.int .i64 (k : Int))).run Tryd.prog W = .ok (.int .u8 (l[k].toNat : Int)) W) := fun k h W => txb_at l k h W
  have HC : Hid (∀ (k m : Nat) (_ : k + m + 1 ≤ l.length) (W : World), (Instr.slice 9 (.string (txb l)) (some (.int .i64 (k : Int))) (some (.int .i64 ((k : Int) + ((m : Int) + 1)))) none).run Tryd.prog W = .ok (.string (txb ((l.drop k).take (m + 1)))) W) := fun k m h W => by
    have := txb_cut l k ((k : Int) + ((m : Int) + 1)) (by omega) (by omega) (by omega) W
    rw [this, show ((k : Int) + ((m : Int) + 1)).toNat - (k : Int).toNat = m + 1 by omega, Int.toNat_natCast]
  have HT : Hid (txtB (nats l) = decide ((goN ut0 (nats l)).2 = some ut0)) := rfl
  have HG0 : Hid (GdI l 0) := by show GdI _ _; unfold GdI; rw [List.drop_zero, Nat.zero_add]
  have HB0 := Lib.hid hb
  clear hb
  generalize txb l = y at *
  generalize hgn : goN ut0 (nats l) = R at *
  have HR := Lib.hid hgn
  clear hgn
  generalize txtB (nats l) = T at *
  go_enter Tryd.func18, Tryd.ntmps18
  go_upto_region 2 with fail
  go_loopw [4, 5] (fun a b wr => ∃ (k : Nat), k ≤ l.length ∧ a = .int .i64 k ∧ b = b ∧ Hid (GdI l k) ∧ Hid (Below w0.heap.size w0 wr))
    (fun a _ _ => l.length - (intOf a).toNat)
  case atStart => exact ⟨0, Nat.zero_le _, rfl, rfl, HG0, HB0⟩
  case round =>
    clear HG0 HB0
    obtain ⟨k, hk, rfl, _, HG, HB⟩ := hrel
    by_cases hlt : k < l.length
    · have hlt' : (k : Int) < (l.length : Int) := by omega
      have hat := HI.out k hlt
      obtain ⟨c, hc⟩ : ∃ c, c = l[k].toNat := ⟨_, rfl⟩
      rw [← hc] at hat
      have hs0 : Hid (nats (l.drop k) = c :: nats (l.drop (k + 1))) := by show _ = _; rw [nats_drop hlt, hc]
      have HSZ := Lib.hid (fun W => rsize_any (c := c) W)
      have hz4 := szN_le c
      have hds : (nats (l.drop k)).length = l.length - k := by rw [nats_len, List.length_drop]
      have HDS := Lib.hid hds
      have HCO := Lib.hid hc
      clear hc hds
      go_upto_region 4 with fail
      go_loopw [5] (fun b wr => ∃ (m : Nat) (t : Ut), k + m + 1 ≤ l.length ∧ b = .int .i64 ((m : Int) + 1) ∧ m ≤ 4 ∧ Hid (Mid (nats (l.drop k)) (szN c) m t) ∧ Hid (Below w0.heap.size w0 wr))
        (fun b _ => l.length - (intOf b).toNat)
      case atStart => exact ⟨0, ut0, by omega, rfl, by omega, ⟨rfl, .inl ⟨rfl, rfl⟩⟩, HB⟩
      case round =>
        clear HB
        obtain ⟨m, t, hm, rfl, hm4, HM, HB⟩ := hrel
        have hcut := HC.out k m hm
        have hbg := fun W => rbegins_any (x := l[k]) (r := (l.drop (k + 1)).take m) (by rw [List.length_take]; omega) W
        rw [show l[k] :: (l.drop (k + 1)).take m = (l.drop k).take (m + 1) by rw [List.drop_eq_getElem_cons hlt]; rfl, show nats ((l.drop k).take (m + 1)) = (nats (l.drop k)).take (m + 1) by simp [nats, List.map_take]] at hbg
        have HBG := Lib.hid hbg
        clear hbg
        generalize txb ((l.drop k).take (m + 1)) = yc at *
        rcases mid_step (by rw [HDS.out]; omega) hs0.out HM.out with ⟨hb1, hg⟩ | ⟨hb1, hn⟩
        · rw [hb1] at HBG
          have HGE : Hid (R = (k + m, none)) := by show _ = _; rw [← HR.out, HG.out, hg]
          clear HG hg HM hb1
          go_wp2_with fail
          refine (HBG.out _).mono ?_
          rintro e w3 ⟨rfl, hb⟩
          have HB2 := Lib.hid (HB.out.trans (hb.mono HB.out.size))
          clear hb HB HBG
          have hT : T = false := by rw [HT.out, HGE.out]; rfl
          clear HT
          subst hT
          have hR1 : R = (k + m, none) := HGE.out
          subst hR1
          have e3 : (k : Int) + ((m : Int) + 1) - 1 = ((k + m : Nat) : Int) := by omega
          go_wp2_with fail
          go_ret2
          exact ⟨rfl, HB2.out⟩
        · rw [hb1] at HBG
          clear hb1
          go_wp2_with fail
          refine (HBG.out _).mono ?_
          rintro e w3 ⟨rfl, hb⟩
          have HB2 := Lib.hid (HB.out.trans (hb.mono HB.out.size))
          clear hb HB HBG
          go_wp2_with fail
          refine (HSZ.out _).mono ?_
          rintro e w4 ⟨rfl, rfl⟩
          rcases hn with ⟨h1, h2⟩ | ⟨h1, u, hu, h2⟩
          · have HG2 : Hid (GdI l (k + (m + 1))) := gd_next HG.out h2 (by omega)
            have e1 : (m : Int) + 1 = (szN c : Int) := by omega
            clear h2 HG HM
            go_wp2_with fail
            go_roundw
            case rel => exact ⟨k + (m + 1), by omega, by go_num, trivial, HG2, HB2⟩
            case measure => simp [intOf] <;> omega
          · have e1 : ¬ (m : Int) + 1 = (szN c : Int) := by omega
            by_cases he : k + (m + 1) = l.length
            · have HGE : Hid (R = (l.length, some u)) := by
                show _ = _
                have h3 := h2.1
                rw [List.take_of_length_le (by rw [HDS.out]; omega)] at h3
                rw [← HR.out, HG.out, h3, ← he]
              have hT : T = false := by
                rw [HT.out, HGE.out]
                exact decide_eq_false fun h => hu (Option.some.inj h)
              have e2 : (k : Int) + ((m : Int) + 1) = (l.length : Int) := by omega
              have hR1 : R = (l.length, some u) := HGE.out
              clear HT HG HM h2 HGE
              subst hT hR1
              go_wp2_with fail
              go_ret2
              exact ⟨rfl, HB2.out⟩
            · have e2 : ¬ (k : Int) + ((m : Int) + 1) = (l.length : Int) := by omega
              have HM2 := Lib.hid h2
              clear h2 HG HM
              go_wp2_with fail
              go_roundw
              case rel => exact ⟨m + 1, u, by omega, by go_num, by omega, HM2, HB2⟩
              case measure => simp [intOf] <;> omega
    · obtain rfl : k = l.length := by omega
      have HGE : Hid (R = (l.length, some ut0)) := by show _ = _; rw [← HR.out, HG.out, List.drop_of_length_le (Nat.le_refl _)]; rfl
      have hT : T = true := by rw [HT.out, HGE.out]; exact decide_eq_true rfl
      have hR1 : R = (l.length, some ut0) := HGE.out
      clear HT HG HGE
      subst hT hR1
      go_wp2_with fail
      go_ret2
      exact ⟨rfl, HB.out⟩
theorem rgood_any {l : List UInt8} (hl : l.length ≤ 100000) (w : World) : Calls Tryd.prog 18 #[.string (txb l)] w fun e w' => e = .returned (.tuple #[.int .i64 ((goN ut0 (nats l)).1 : Int), .bool (txtB (nats l))]) ∧ Below w.heap.size w w' := rgood_aux hl (Below.refl _ _)
end Go.Proofs.YtdegpchofhnipaaDoor
