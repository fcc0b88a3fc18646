/-
  The program's ring: whether a stream can send, which one is next; by contract. Conditions: the ring lies in memory, few streams.
-/
import Derived.Test.YtplohgaecoobaaaUtg
import Derived.Lib.MinMax
namespace Go.Proofs.Ytplohgaecoobaaa
open Go.RowKit Go.WideShapes

attribute [local irreducible] sec rgc fd wnc can fc
section
variable {w : World} {g q : Nat} {A : Option Addr} {c : Nat} {L : List Se} {t : Nat} {W : Int}
theorem can_eq (l : Int) (x : Sn) : can l x = if x.b = [] then x.en && !x.ov else decide (0 < x.lf) && decide (0 < l) := by unfold can; rfl
set_option maxRecDepth 100000 in
set_option maxHeartbeats 1000000 in
theorem tcanS_any (h : TrL w g q A c L t W) {e : Se} (he : e ∈ L) (hb : e.x.b.length ≤ 1000000) : Calls Try.prog 50 #[.pointer (some ⟨g, 0, none⟩), .pointer (some ⟨e.sb, 0, none⟩)] w fun r w' => r = .returned (.bool (can W e.x)) ∧ Below w.heap.size w w' := by
  have hse := h.i e he
  obtain ⟨_, _, r2⟩ := rg_cells h
  obtain ⟨_, s1, s2, s3, s4⟩ := se_cells hse
  have HN := Lib.hid hse.n
  have HQ := Lib.hid h.n
  have hcan := Lib.hid (can_eq W e.x)
  clear h hse he
  by_cases hb0 : e.x.b = []
  · have hcan := hcan.out
    rw [if_pos hb0] at hcan
    rw [hb0] at s1
    have HC := Lib.hid hcan
    clear hcan r2 s4 hb0 hb
    generalize e.x.en = a at *
    generalize e.x.ov = b at *
    cases a <;> cases b
    all_goals
      go_enter Try.func50, Try.ntmps50
      go_wp2_with fail
      go_ret
      rw [HC.out]
      exact ⟨rfl, Below.refl _ _⟩
  · have hcan := hcan.out
    rw [if_neg hb0] at hcan
    have h1 : 0 < e.x.b.length := List.length_pos_iff.2 hb0
    have e0 : ((e.x.b.length : Int) == 0) = false := by rw [beq_eq_false_iff_ne]; omega
    generalize e.x.b.length = n at *
    clear s2 s3 hb0
    generalize e.x.lf = a at *
    by_cases h2 : 0 < a
    · simp only [h2, decide_true, Bool.true_and] at hcan
      have HC := Lib.hid hcan
      clear hcan
      go_enter Try.func50, Try.ntmps50
      go_wp2_with fail
      refine (left_any HN.out).mono ?_
      rintro r w3 ⟨rfl, rfl⟩
      go_wp2_with fail
      refine (left_any HQ.out).mono ?_
      rintro r w3 ⟨rfl, rfl⟩
      go_wp2_with fail
      go_ret
      rw [HC.out]
      exact ⟨rfl, Below.refl _ _⟩
    · have h1' : decide (0 < a) = false := by simp; omega
      simp only [h1', Bool.false_and] at hcan
      have HC := Lib.hid hcan
      clear hcan
      go_enter Try.func50, Try.ntmps50
      go_wp2_with fail
      refine (left_any HN.out).mono ?_
      rintro r w3 ⟨rfl, rfl⟩
      go_wp2_with fail
      go_ret
      rw [HC.out]
      exact ⟨rfl, Below.refl _ _⟩
/-- Which one is next: its place in the row; -1. -/
def nxP (W : Int) (l : List Sn) (t : Nat) : Int := if fc W (rot l t) < l.length then (((t + fc W (rot l t)) % l.length : Nat) : Int) else -1
theorem rot_mod {l : List Sn} {t k : Nat} (ht : t < l.length) (hk : k < l.length) : (rot l t)[k]? = l[(t + k) % l.length]? := by
  obtain ⟨j, hj, hr, he⟩ := rp_inv ht hk
  rw [← he, ← rot_rp ht hj, hr]
set_option maxRecDepth 100000 in
set_option maxHeartbeats 2000000 in
theorem tnextP_any {l : List Sn} (hl : l = L.map (·.x)) (h : TrL w g q A c L t W) (ht : t < L.length ∨ L.length = 0) (hL : L.length ≤ 1000) (hb : ∀ x ∈ l, x.b.length ≤ 1000000) : Calls Try.prog 38 #[.pointer (some ⟨g, 0, none⟩)] w fun r w' => r = .returned (.int .i64 (nxP W l t)) ∧ Below w.heap.size w w' := by
  have hll := map_len hl
  have H := Lib.hid h
  have HL := Lib.hid hl
  have HBL := Lib.hid hb
  have c0 := (rg_cells h).1
  clear h hl hb
  go_enter Try.func38, Try.ntmps38
  go_wp2_with fail
  clear c0
  go_loopw [12] (fun i wr => ∃ k : Nat, k ≤ L.length ∧ i = .int .i64 k ∧ Hid (k ≤ fc W (rot l t)) ∧ Hid (Below w.heap.size w wr)) (fun i _ => L.length - (intOf i).toNat)
  case atStart => exact ⟨0, Nat.zero_le _, rfl, Nat.zero_le _, Below.refl _ _⟩
  case round =>
    obtain ⟨k, hk, rfl, hF, hB⟩ := hrel
    have HR := Lib.hid (H.out.below hB.out)
    obtain ⟨c0, c1, _⟩ := rg_cells HR.out
    by_cases hlt : k < L.length
    · have htl : t < L.length := by omega
      have hM : (t + k) % L.length < L.length := Nat.mod_lt _ (by omega)
      have hmod : Int.tmod ((t : Int) + (k : Int)) (L.length : Int) = (((t + k) % L.length : Nat) : Int) := by rw [← Int.natCast_add]; rfl
      have hwr : IntKind.i64.wrap ((t : Int) + (k : Int)) = (t : Int) + (k : Int) := IntWalk.i64_in _ (by omega)
      have e0 : ((L.length : Int) == 0) = false := by rw [beq_eq_false_iff_ne]; omega
      have hrm := rot_mod (l := l) (t := t) (k := k) (by omega) (by omega)
      rw [hll] at hrm
      obtain ⟨M, hMM⟩ : ∃ M, M = (t + k) % L.length := ⟨_, rfl⟩
      rw [← hMM] at hM hmod hrm
      have hxk := List.getElem?_eq_getElem hM
      have hlx : l[M]? = some L[M].x := by rw [map_at HL.out, hxk]; rfl
      rw [hlx] at hrm
      obtain ⟨hkr, hrx⟩ := List.getElem?_eq_some_iff.1 hrm
      have hbe : L[M].x.b.length ≤ 1000000 := HBL.out _ (List.mem_of_getElem? hlx)
      have HC := Lib.hid (fun (w' : World) (h : TrL w' g q A c L t W) => tcanS_any h (List.getElem_mem hM) hbe)
      have HMM := Lib.hid hMM
      have HXK := Lib.hid hxk
      clear hMM hxk hlx hrm hbe
      obtain ⟨e, he⟩ : ∃ e, e = L[M] := ⟨_, rfl⟩
      rw [← he] at hrx HC HXK
      by_cases hc : can W e.x = true
      · simp only [hc] at HC
        have hE : Hid (nxP W l t = (M : Int)) := by
          show _ = _
          unfold nxP
          have h1 := fc_hit hkr hF.out (by rw [hrx]; exact hc)
          rw [h1, if_pos (by omega), hll, HMM.out]
        clear hF hrx hc HMM he
        obtain ⟨b, o, rfl, hcc, _, _⟩ := HR.out.at HXK.out
        have c0 := (rg_cells HR.out).1
        go_upto_region 6 with fail
        go_quiet (fail)
        go_wp2_with fail
        refine (HC.out (wr.drewN _) (TrL.keep (w' := wr.drewN _) HR.out fun _ _ => rfl)).mono ?_
        rintro r w3 ⟨rfl, hb⟩
        have HB2 := Lib.hid ((below_dN hB.out _).trans (hb.mono (below_dN hB.out _).size))
        clear hb HR HC c0 c1 hcc hB
        go_wp2_with fail
        go_ret
        rw [hE.out]
        exact ⟨rfl, HB2.out⟩
      · have hc' : can W e.x = false := by simpa using hc
        simp only [hc'] at HC
        have HF2 : Hid (k + 1 ≤ fc W (rot l t)) := fc_more hkr hF.out (by rw [hrx]; exact hc')
        clear hF hrx hc hc' HMM he
        obtain ⟨b, o, rfl, hcc, _, _⟩ := HR.out.at HXK.out
        have c0 := (rg_cells HR.out).1
        go_upto_region 6 with fail
        go_quiet (fail)
        go_wp2_with fail
        refine (HC.out (wr.drewN _) (TrL.keep (w' := wr.drewN _) HR.out fun _ _ => rfl)).mono ?_
        rintro r w3 ⟨rfl, hb⟩
        have HB2 := Lib.hid ((below_dN hB.out _).trans (hb.mono (below_dN hB.out _).size))
        clear hb HR HC c0 c1 hcc hB
        go_wp2_with fail
        go_roundw
        case rel => exact ⟨k + 1, by omega, by go_num, HF2, HB2⟩
        case measure => simp [intOf]; omega
    · obtain rfl : k = L.length := by omega
      have hE : Hid (nxP W l t = -1) := by
        show _ = _
        unfold nxP
        rw [if_neg (by have := hF.out; omega)]
      clear hF
      go_wp2_with fail
      go_ret
      rw [hE.out]
      exact ⟨rfl, hB.out⟩
end
set_option maxRecDepth 100000 in
theorem tnextP_nil (w : World) : Calls Try.prog 38 #[.pointer none] w fun r w' => r = .returned (.int .i64 (-1)) ∧ Below w.heap.size w w' := by
  go_enter Try.func38, Try.ntmps38
  go_wp2_with fail
  go_ret
  exact ⟨rfl, Below.refl _ _⟩
set_option maxRecDepth 100000 in
theorem tcan_nil (w : World) : Calls Try.prog 17 #[.pointer none] w fun r w' => r = .returned (.bool false) ∧ Below w.heap.size w w' := by
  go_enter Try.func17, Try.ntmps17
  go_wp2_with fail
  refine (tnextP_nil _).mono ?_
  rintro r w3 ⟨rfl, hb⟩
  have HB := Lib.hid hb
  clear hb
  go_wp2_with fail
  go_ret
  exact ⟨rfl, HB.out⟩
theorem fc_any (W : Int) : ∀ L : List Sn, decide (fc W L < L.length) = L.any (can W)
  | [] => rfl
  | x :: L => by
    have e := fc_any W L
    have e1 : fc W (x :: L) = if can W x = true then 0 else fc W L + 1 := by rw [fc]
    rw [e1, List.any_cons, List.length_cons]
    by_cases h : can W x = true
    · rw [if_pos h, h]; simp
    · have h' : can W x = false := by simpa using h
      rw [if_neg h, h', Bool.false_or, ← e]
      simp
theorem rot_any (f : Sn → Bool) (l : List Sn) (t : Nat) : (rot l t).any f = l.any f := by
  unfold rot
  conv => rhs; rw [← List.take_append_drop t l]
  rw [List.any_append, List.any_append, Bool.or_comm]
theorem Tr.of {w : World} {F : Nat → Prop} {g : Nat} {m : Rm} (h : Tr w F g m) (hm : m.Ok) (hs : m.Sm) : ∃ q A c L, m.l = L.map (·.x) ∧ TrL w g q A c L m.t m.w ∧ F = TF g q A c L ∧ (m.t < L.length ∨ L.length = 0) ∧ L.length ≤ 1000 := by
  obtain ⟨q, A, c, L, hl, ht, hF⟩ := h
  have h1 := map_len hl
  refine ⟨q, A, c, L, hl, ht, hF, ?_, by have := hs.few; omega⟩
  rcases hm.tn with h2 | ⟨h2, _⟩
  · exact .inl (by omega)
  · exact .inr (by rw [← h1, h2]; rfl)
set_option maxRecDepth 100000 in
set_option maxHeartbeats 1000000 in
theorem tcan_any {w : World} {F : Nat → Prop} {g : Nat} {m : Rm} (h : Tr w F g m) (hm : m.Ok) (hs : m.Sm) : Calls Try.prog 17 #[.pointer (some ⟨g, 0, none⟩)] w fun e w' => e = .returned (.bool (m.l.any (can m.w))) ∧ Below w.heap.size w w' := by
  obtain ⟨q, A, c, L, hl, ht, rfl, htl, hL⟩ := h.of hm hs
  have HC := Lib.hid (tnextP_any hl ht htl hL hs.b)
  have hE := fc_any m.w (rot m.l m.t)
  rw [rot_any, rot_len] at hE
  rw [← hE]
  unfold nxP at HC
  clear ht hl hs hm htl hE
  by_cases hc : fc m.w (rot m.l m.t) < m.l.length
  · rw [if_pos hc] at HC
    simp only [hc, decide_true]
    generalize (m.t + fc m.w (rot m.l m.t)) % m.l.length = k at *
    have e1 : ((k : Int) == -1) = false := by rw [beq_eq_false_iff_ne]; omega
    have e2 : ((k : Int) != -1) = true := by rw [bne_iff_ne]; omega
    clear hc
    go_enter Try.func17, Try.ntmps17
    go_wp2_with fail
    refine HC.out.mono ?_
    rintro r w3 ⟨rfl, hb⟩
    have HB := Lib.hid hb
    clear hb HC
    go_wp2_with fail
    go_ret
    exact ⟨rfl, HB.out⟩
  · rw [if_neg hc] at HC
    simp only [hc, decide_false]
    clear hc
    go_enter Try.func17, Try.ntmps17
    go_wp2_with fail
    refine HC.out.mono ?_
    rintro r w3 ⟨rfl, hb⟩
    have HB := Lib.hid hb
    clear hb HC
    go_wp2_with fail
    go_ret
    exact ⟨rfl, HB.out⟩
end Go.Proofs.Ytplohgaecoobaaa
