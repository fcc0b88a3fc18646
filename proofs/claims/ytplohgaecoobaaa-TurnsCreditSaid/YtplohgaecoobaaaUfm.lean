/-
  TurnsFair's rings as functions of the turns that were: streams that all can send. No program; no conditions but those that each theorem names.
-/
import Derived.Test.YtplohgaecoobaaaUfx
namespace Go.Proofs.Ytplohgaecoobaaa

theorem fd_snoc (s : Nat) : ∀ (l : List Sn) (y : Sn), (∀ x ∈ l, x.st ≠ s) → y.st = s → fd s (l ++ [y]) = l.length
  | [], y, _, h => by simp [fd, h]
  | x :: l, y, h1, h => by
    have hx : ¬ x.st = s := h1 x (List.mem_cons_self ..)
    rw [List.cons_append, fd, if_neg hx, fd_snoc s l y (fun z hz => h1 z (List.mem_cons_of_mem _ hz)) h, List.length_cons]
theorem set_snoc {α : Type} (l : List α) (y z : α) : (l ++ [y]).set l.length z = l ++ [z] := by
  rw [List.set_append_right _ _ (Nat.le_refl _), Nat.sub_self]; rfl
/-- A stream that comes, and bytes for it. -/
theorem open_put (m : Rm) (s : Nat) (lf : Int) (b : List UInt8) (en : Bool) (h0 : s ≠ 0) (hn : ∀ x ∈ m.l, x.st ≠ s) :
    rmOpen m s lf = (⟨m.l ++ [⟨s, [], false, false, btw lf⟩], m.t, m.w⟩, true) ∧ rmPut (rmOpen m s lf).1 s b en = (⟨m.l ++ [⟨s, b, en, false, btw lf⟩], m.t, m.w⟩, true) := by
  have h1 : rmOpen m s lf = (⟨m.l ++ [⟨s, [], false, false, btw lf⟩], m.t, m.w⟩, true) := by
    unfold rmOpen
    rw [if_neg]
    rintro (h | h)
    · exact h0 h
    · rw [fd_none hn] at h; omega
  refine ⟨h1, ?_⟩
  rw [h1]
  unfold rmPut
  have h2 : fd s (m.l ++ [⟨s, [], false, false, btw lf⟩]) = m.l.length := fd_snoc s m.l _ hn rfl
  dsimp only
  rw [h2, List.getElem?_append_right (Nat.le_refl _), Nat.sub_self]
  dsimp only [List.getElem?_cons_zero]
  rw [if_neg (by simp), set_snoc, List.nil_append]
/-- Stream number j behind c turns of z bytes. -/
def frS (z c j : Nat) : Sn := ⟨j + 1, List.replicate (2000 - z * c) 0, false, false, 1073741824 - ((z * c : Nat) : Int)⟩
def frC (K i j : Nat) : Nat := i / K + if j < i % K then 1 else 0
def frL (z K i : Nat) : List Sn := (List.range K).map fun j => frS z (frC K i j) j
/-- The ring of K streams behind i turns. -/
def frM (z K i : Nat) : Rm := ⟨frL z K i, i % K, 1073741824 - ((z * i : Nat) : Int)⟩
/-- .. as it is opened. -/
def opM (k : Nat) : Rm := ⟨(List.range k).map fun j => frS 0 0 j, 0, 1073741824⟩
def z2k : List UInt8 := List.replicate 2000 0
theorem opM_0 : rmNew 1073741824 = opM 0 := by unfold rmNew opM btw; simp
theorem opM_step (k : Nat) : (rmOpen (opM k) (k + 1) 1073741824).2 = true ∧ rmPut (rmOpen (opM k) (k + 1) 1073741824).1 (k + 1) z2k false = (opM (k + 1), true) := by
  obtain ⟨h1, h2⟩ := open_put (opM k) (k + 1) 1073741824 z2k false (by omega) (fun x hx => by
    obtain ⟨j, hj, rfl⟩ := List.mem_map.1 hx
    have := List.mem_range.1 hj
    show j + 1 ≠ k + 1
    omega)
  refine ⟨by rw [h1], ?_⟩
  rw [h2]
  congr 1
  unfold opM
  rw [List.range_succ, List.map_append]
  rfl
theorem opM_len (k : Nat) : (opM k).l.length = k := by simp [opM]
theorem opM_sm {k : Nat} (h : k ≤ 30) : (opM k).Sm := ⟨by rw [opM_len]; omega, fun x hx => by
  obtain ⟨j, hj, rfl⟩ := List.mem_map.1 hx
  show (List.replicate (2000 - 0 * 0) (0 : UInt8)).length ≤ _
  rw [List.length_replicate]
  omega⟩
theorem opM_ok : ∀ k, k ≤ 30 → (opM k).Ok
  | 0, _ => by rw [← opM_0]; exact rmNew_ok _
  | k + 1, h => by
    have h1 := opM_ok k (by omega)
    have h2 := rmPut_ok (rmOpen_ok h1 (k + 1) (by omega) 1073741824) (k + 1) z2k false
    rw [(opM_step k).2] at h2
    exact h2
theorem opo_sm {k : Nat} (h : k < 30) : (rmOpen (opM k) (k + 1) 1073741824).1.Sm := by
  obtain ⟨h1, _⟩ := open_put (opM k) (k + 1) 1073741824 z2k false (by omega) (fun x hx => by
    obtain ⟨j, hj, rfl⟩ := List.mem_map.1 hx
    have := List.mem_range.1 hj
    show j + 1 ≠ k + 1
    omega)
  rw [h1]
  refine ⟨by show (_ ++ _ : List Sn).length ≤ _; rw [List.length_append, opM_len]; simp; omega, fun x hx => ?_⟩
  rcases List.mem_append.1 hx with hx | hx
  · exact (opM_sm (by omega)).b x hx
  · rw [List.mem_singleton.1 hx]; simp
theorem frM_0 (z K : Nat) : frM z K 0 = opM K := by
  have h : frL z K 0 = (List.range K).map fun j => frS 0 0 j := by
    unfold frL
    refine List.map_congr_left fun j _ => ?_
    have hc : frC K 0 j = 0 := by unfold frC; rw [Nat.zero_div, Nat.zero_mod, if_neg (Nat.not_lt_zero _)]
    rw [hc]
    unfold frS
    rw [Nat.mul_zero]
  unfold frM opM
  rw [h, Nat.zero_mod, Nat.mul_zero]
  rfl
theorem frL_len (z K i : Nat) : (frL z K i).length = K := by simp [frL]
theorem frL_at (z K i j : Nat) (h : j < K) : (frL z K i)[j]? = some (frS z (frC K i j) j) := by
  unfold frL
  rw [List.getElem?_map, List.getElem?_range h]
  rfl
theorem frM_sm {z K i : Nat} (h : K ≤ 30) : (frM z K i).Sm := ⟨by show (frL z K i).length ≤ _; rw [frL_len]; omega, fun x hx => by
  obtain ⟨j, hj, rfl⟩ := List.mem_map.1 hx
  simp [frS]
  omega⟩
theorem frC_next {K i j : Nat} (hK : 0 < K) (hj : j < K) : frC K (i + 1) j = if j = i % K then frC K i j + 1 else frC K i j := by
  have hd := Nat.div_add_mod i K
  have hm := Nat.mod_lt i hK
  unfold frC
  by_cases h : i % K + 1 < K
  · have e1 : (i + 1) % K = i % K + 1 := by
      rw [Nat.add_mod, Nat.mod_eq_of_lt (by omega : 1 < K), Nat.mod_eq_of_lt h]
    have e2 : (i + 1) / K = i / K := by
      rw [Nat.div_eq_iff hK]
      constructor
      · rw [Nat.mul_comm]; omega
      · rw [Nat.mul_comm]; omega
    rw [e1, e2]
    split <;> split <;> (try split) <;> omega
  · have hk : i % K + 1 = K := by omega
    have e0 : i + 1 = K * (i / K + 1) := by rw [Nat.mul_succ]; omega
    have e1 : (i + 1) % K = 0 := by rw [e0]; exact Nat.mul_mod_right ..
    have e2 : (i + 1) / K = i / K + 1 := by rw [e0]; exact Nat.mul_div_cancel_left _ hK
    rw [e1, e2]
    split <;> split <;> (try split) <;> omega
theorem frM_next {z K i : Nat} (hz : 0 < z) (hz2 : z ≤ 100) (hK : 0 < K) (hK2 : K ≤ 30) (hi : i < 3 * K) :
    nxa (frM z K i) z = (i % K + 1, List.replicate z 0, false, true) ∧ nxM (frM z K i) z = frM z K (i + 1) := by
  have ht : i % K < K := Nat.mod_lt i hK
  have hc2 : i / K ≤ 2 := by
    have := Nat.div_lt_of_lt_mul (show i < K * 3 by omega)
    omega
  have hcz : z * (i / K) ≤ 200 := Nat.le_trans (Nat.mul_le_mul hz2 hc2) (by omega)
  have hiz : z * i ≤ 9000 := Nat.le_trans (Nat.mul_le_mul hz2 (show i ≤ 90 by omega)) (by omega)
  have hct : frC K i (i % K) = i / K := by unfold frC; rw [if_neg (by omega)]; omega
  have hx := frL_at z K i (i % K) ht
  rw [hct] at hx
  have hlen := frL_len z K i
  have hr0 : (rot (frL z K i) (i % K))[0]? = some (frS z (i / K) (i % K)) := by
    rw [rot_at _ (by rw [hlen]; omega), if_pos (by omega), Nat.add_zero]
    exact hx
  obtain ⟨h0l, h0x⟩ := List.getElem?_eq_some_iff.1 hr0
  have hbl : (frS z (i / K) (i % K)).b.length = 2000 - z * (i / K) := by simp [frS]
  have hbne : (frS z (i / K) (i % K)).b ≠ [] := fun h => by rw [h] at hbl; simp at hbl; omega
  have hcan : can (1073741824 - ((z * i : Nat) : Int)) (frS z (i / K) (i % K)) = true := by
    unfold can
    rw [if_neg hbne]
    have h1 : (0 : Int) < 1073741824 - ((z * (i / K) : Nat) : Int) := by omega
    have h2 : (0 : Int) < 1073741824 - ((z * i : Nat) : Int) := by omega
    show (decide ((0 : Int) < 1073741824 - ((z * (i / K) : Nat) : Int)) && decide ((0 : Int) < 1073741824 - ((z * i : Nat) : Int))) = true
    rw [decide_eq_true h1, decide_eq_true h2]
    rfl
  have hfc : fc (1073741824 - ((z * i : Nat) : Int)) (rot (frL z K i) (i % K)) = 0 := fc_hit h0l (Nat.zero_le _) (by rw [h0x]; exact hcan)
  have hN : snN (1073741824 - ((z * i : Nat) : Int)) z (frS z (i / K) (i % K)) = z := by
    unfold snN
    rw [if_neg hbne, hbl]
    show (min (min (min ((2000 - z * (i / K) : Nat) : Int) (max 1 (z : Int))) (1073741824 - ((z * (i / K) : Nat) : Int))) (1073741824 - ((z * i : Nat) : Int))).toNat = z
    omega
  have hnx : rmNext (frM z K i) z = some (frS z (i / K) (i % K), z, frM z K (i + 1)) := by
    unfold rmNext
    show (match (rot (frL z K i) (i % K))[fc (1073741824 - ((z * i : Nat) : Int)) (rot (frL z K i) (i % K))]? with
      | none => none
      | some x => some (x, snN (1073741824 - ((z * i : Nat) : Int)) z x, (⟨(frL z K i).set ((i % K + fc (1073741824 - ((z * i : Nat) : Int)) (rot (frL z K i) (i % K))) % (frL z K i).length) (snY (snN (1073741824 - ((z * i : Nat) : Int)) z x) x), ((i % K + fc (1073741824 - ((z * i : Nat) : Int)) (rot (frL z K i) (i % K))) % (frL z K i).length + 1) % (frL z K i).length, 1073741824 - ((z * i : Nat) : Int) - snN (1073741824 - ((z * i : Nat) : Int)) z x⟩ : Rm))) = _
    rw [hfc, hr0, hlen]
    dsimp only
    rw [hN, Nat.add_zero, Nat.mod_mod, Nat.mod_add_mod]
    congr 1
    congr 1
    congr 1
    unfold frM
    congr 1
    · apply List.ext_getElem?
      intro j
      by_cases hj : j < K
      · rw [frL_at _ _ _ _ hj, frC_next hK hj, List.getElem?_set]
        by_cases he : i % K = j
        · subst he
          rw [if_pos rfl, hlen, if_pos ht, if_pos rfl, hct]
          congr 1
          unfold snY frS
          congr 1
          · rw [List.drop_replicate, Nat.mul_succ]
            congr 1
            omega
          · show 1073741824 - ((z * (i / K) : Nat) : Int) - (z : Int) = 1073741824 - ((z * (i / K + 1) : Nat) : Int)
            rw [Nat.mul_succ]; omega
        · rw [if_neg he, if_neg (fun h => he h.symm), frL_at _ _ _ _ hj]
      · rw [List.getElem?_eq_none (by rw [List.length_set, hlen]; omega), List.getElem?_eq_none (by rw [frL_len]; omega)]
    · rw [Nat.mul_succ]; omega
  refine ⟨?_, by unfold nxM; rw [hnx]⟩
  unfold nxa
  rw [hnx]
  dsimp only
  have h1 : (frS z (i / K) (i % K)).b.take z = List.replicate z 0 := by
    unfold frS
    rw [List.take_replicate]
    congr 1
    omega
  rw [h1]
  rfl
theorem frM_ok {z K : Nat} (hz : 0 < z) (hz2 : z ≤ 100) (hK : 0 < K) (hK2 : K ≤ 30) : ∀ i, i ≤ 3 * K → (frM z K i).Ok
  | 0, _ => by rw [frM_0]; exact opM_ok K hK2
  | i + 1, h => by
    have h1 := frM_ok hz hz2 hK hK2 i (by omega)
    have h2 := nxM_ok h1 z
    rw [(frM_next hz hz2 hK hK2 (by omega)).2] at h2
    exact h2
end Go.Proofs.Ytplohgaecoobaaa
