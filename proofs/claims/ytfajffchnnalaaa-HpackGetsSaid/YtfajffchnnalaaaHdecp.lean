/-
  What is written is read; what is read was written; what is cut off: plain lists. No conditions but those that each theorem names; no program.
-/
import Derived.Test.YtfajffchnnalaaaHdecm
namespace Go.Proofs.Ytfajffchnnalaaa

theorem fst_grow (n : Nat) : ∀ d, (fst n + lens.count n) * 2 ^ (d + 1) ≤ fst (n + (d + 1))
  | 0 => by show _ ≤ (fst n + lens.count n) * 2; simp
  | d + 1 => by
    have h := fst_grow n d
    have e : fst (n + (d + 1 + 1)) = (fst (n + (d + 1)) + lens.count (n + (d + 1))) * 2 := rfl
    rw [e, Nat.pow_succ, ← Nat.mul_assoc]
    omega
theorem cd_room {i : Nat} (hi : i < 257) : cd i + 1 ≤ fst (ln i) + lens.count (ln i) := by
  have h1 := cnt_next hi (ln i)
  rw [if_pos rfl] at h1
  have h2 : (lens.take (i + 1)).count (ln i) ≤ lens.count (ln i) := (List.take_sublist _ _).count_le _
  unfold cd
  omega
/-- No code begins another one. -/
theorem code_free {i j : Nat} (hi : i < 257) (hj : j < 257) {r : List Bool} (h : codeB j = codeB i ++ r) : i = j ∧ r = [] := by
  have hl : ln j = ln i + r.length := by rw [← codeB_len, h, List.length_append, codeB_len]
  cases r with
  | nil => exact ⟨(code_inj hj hi (by rw [h, List.append_nil])).symm, rfl⟩
  | cons b r =>
    exfalso
    have hv := congrArg val h
    rw [val_append, codeB_val hi, codeB_val hj] at hv
    have hlt := val_lt (b :: r)
    have h1 := cd_room hi
    have h2 := fst_grow (ln i) r.length
    rw [show ln i + (r.length + 1) = ln j by rw [hl]; simp] at h2
    have h3 : fst (ln j) ≤ cd j := by unfold cd; omega
    rw [List.length_cons] at hv hlt
    have h4 : (cd i + 1) * 2 ^ (r.length + 1) ≤ (fst (ln i) + lens.count (ln i)) * 2 ^ (r.length + 1) := Nat.mul_le_mul_right _ h1
    rw [Nat.add_mul, Nat.one_mul] at h4
    omega
theorem look_part {i : Nat} (hi : i < 257) {q r : List Bool} (h : codeB i = q ++ r) (hr : r ≠ []) : lookB q = none :=
  lookB_of_none fun j hj e => hr (code_free hj hi (by rw [e]; exact h)).2

theorem run_code {i : Nat} (hi : i < 256) (out : List UInt8) : ∀ (r q : List Bool), codeB i = q ++ r → r ≠ [] → runB r (out, q) = some (out ++ [UInt8.ofNat i], [])
  | [], _, _, h => absurd rfl h
  | b :: r, q, h, _ => by
    show (stepB (out, q) b).bind (runB r) = _
    have h' : codeB i = (q ++ [b]) ++ r := by rw [h]; simp
    cases r with
    | nil =>
      rw [List.append_nil] at h'
      rw [step_sign (i := i) (by rw [← h', lookB_code (by omega)]) (by omega)]
      rfl
    | cons c r =>
      rw [step_none (look_part (by omega) h' (by simp))]
      exact run_code hi out (c :: r) (q ++ [b]) h' (by simp)
theorem run_enc : ∀ (s out : List UInt8), runB (encB s) (out, []) = some (out ++ s, [])
  | [], out => by show some _ = _; simp
  | b :: s, out => by
    have e : encB (b :: s) = codeB b.toNat ++ encB s := by simp [encB]
    have hb := b.toNat_lt
    have hne : codeB b.toNat ≠ [] := fun h0 => by
      have h1 := codeB_len b.toNat
      have h2 := ln_all b.toNat (by omega)
      rw [h0] at h1
      simp at h1
      omega
    rw [e, runB_append, run_code (i := b.toNat) (by omega) out (codeB b.toNat) [] rfl hne]
    show runB (encB s) _ = _
    rw [run_enc s]
    simp
theorem code_end : codeB 256 = List.replicate 30 true := by decide +kernel
theorem look_ones {k : Nat} (hk : k < 30) : lookB (List.replicate k true) = none :=
  look_part (i := 256) (by omega) (q := List.replicate k true) (r := List.replicate (30 - k) true) (by rw [code_end, List.replicate_append_replicate]; congr 1; omega) (fun h => by
    have := congrArg List.length h
    simp at this
    omega)
theorem run_ones (out : List UInt8) : ∀ (r k : Nat), k + r < 30 → runB (List.replicate r true) (out, List.replicate k true) = some (out, List.replicate (k + r) true)
  | 0, k, _ => rfl
  | r + 1, k, h => by
    rw [List.replicate_succ]
    show (stepB (out, List.replicate k true) true).bind (runB (List.replicate r true)) = _
    have e : List.replicate k true ++ [true] = List.replicate (k + 1) true := by rw [List.replicate_succ']
    rw [step_none (by rw [e]; exact look_ones (by omega)), e]
    show runB _ _ = _
    rw [run_ones out r (k + 1) (by omega), show k + 1 + r = k + (r + 1) by omega]
/-- What is written is read. -/
theorem dec_enc (s : List UInt8) : decL (encL s) = some s := by
  unfold decL
  rw [encL_bits]
  unfold pad
  rw [runB_append, run_enc s []]
  show finB (runB _ _) = _
  have h := run_ones ([] ++ s) ((8 - (encB s).length % 8) % 8) 0 (by omega)
  rw [List.replicate_zero, Nat.zero_add] at h
  rw [h]
  unfold finB
  simp only [List.length_replicate]
  rw [if_pos ⟨by omega, trivial⟩]
  rfl

theorem run_keeps : ∀ (x : List Bool) (o : List UInt8) (p : List Bool) (o' : List UInt8) (p' : List Bool), runB x (o, p) = some (o', p') → encB o' ++ p' = encB o ++ (p ++ x) ∧ o <+: o'
  | [], o, p, o', p', h => by
    have h' : (o, p) = (o', p') := Option.some.inj h
    injection h' with h1 h2
    subst h1 h2
    exact ⟨by simp, List.prefix_refl _⟩
  | b :: x, o, p, o', p', h => by
    have h0 : (stepB (o, p) b).bind (runB x) = some (o', p') := h
    cases hl : lookB (p ++ [b]) with
    | none =>
      rw [step_none hl] at h0
      obtain ⟨h1, h2⟩ := run_keeps x o (p ++ [b]) o' p' h0
      exact ⟨by rw [h1]; simp, h2⟩
    | some i =>
      by_cases h256 : i = 256
      · subst h256
        rw [step_end hl] at h0
        cases h0
      · rw [step_sign hl h256] at h0
        obtain ⟨hi, hc⟩ := lookB_some hl
        obtain ⟨h1, h2⟩ := run_keeps x _ [] o' p' h0
        refine ⟨?_, (List.prefix_append o [UInt8.ofNat i]).trans h2⟩
        rw [h1, encB_append]
        have e : encB [UInt8.ofNat i] = p ++ [b] := by
          rw [← hc]
          simp [encB]
          congr 1
          omega
        rw [e]
        simp
/-- What is read was written so. -/
theorem enc_dec {l t : List UInt8} (h : decL l = some t) : encL t = l := by
  unfold decL at h
  cases hr : runB (unpack l) ([], []) with
  | none => rw [hr] at h; cases h
  | some st =>
    obtain ⟨o, p⟩ := st
    rw [hr] at h
    have h1 := (run_keeps _ _ _ _ _ hr).1
    rw [List.nil_append] at h1
    by_cases hc : p.length < 8 ∧ p = List.replicate p.length true
    · have h2 : some o = some t := by
        have : finB (some (o, p)) = some o := if_pos hc
        rw [← this, h]
      obtain rfl := Option.some.inj h2
      refine (encL_of ?_).symm
      have h3 : encB o ++ p = unpack l := by rw [h1]; simp [encB]
      have h4 := congrArg List.length h3
      rw [List.length_append, unpack_len] at h4
      unfold pad
      rw [show (8 - (encB o).length % 8) % 8 = p.length by omega, ← hc.2, h3]
    · have : finB (some (o, p)) = none := if_neg hc
      rw [this] at h
      cases h
/-- Of a writing that is cut off, what is read begins the text. -/
theorem dec_cut {s t : List UInt8} {k : Nat} (h : decL ((encL s).take k) = some t) : t <+: s := by
  have hd := dec_enc s
  unfold decL at h hd
  have e : unpack (encL s) = unpack ((encL s).take k) ++ unpack ((encL s).drop k) := by rw [← unpack_append, List.take_append_drop]
  rw [e, runB_append] at hd
  cases hr : runB (unpack ((encL s).take k)) ([], []) with
  | none => rw [hr] at h; cases h
  | some st =>
    obtain ⟨o, p⟩ := st
    rw [hr] at h hd
    have h1 : o = t := by
      by_cases hc : p.length < 8 ∧ p = List.replicate p.length true
      · have : finB (some (o, p)) = some o := if_pos hc
        rw [this] at h
        exact Option.some.inj h
      · have : finB (some (o, p)) = none := if_neg hc
        rw [this] at h
        cases h
    subst h1
    have hd' : finB (runB (unpack ((encL s).drop k)) (o, p)) = some s := hd
    cases hr2 : runB (unpack ((encL s).drop k)) (o, p) with
    | none => rw [hr2] at hd'; cases hd'
    | some st2 =>
      obtain ⟨o2, p2⟩ := st2
      rw [hr2] at hd'
      have h2 := (run_keeps _ _ _ _ _ hr2).2
      by_cases hc : p2.length < 8 ∧ p2 = List.replicate p2.length true
      · have : finB (some (o2, p2)) = some o2 := if_pos hc
        rw [this] at hd'
        obtain rfl := Option.some.inj hd'
        exact h2
      · have : finB (some (o2, p2)) = none := if_neg hc
        rw [this] at hd'
        cases hd'
end Go.Proofs.Ytfajffchnnalaaa
