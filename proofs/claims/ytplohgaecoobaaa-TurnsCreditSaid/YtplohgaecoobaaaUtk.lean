/-
  The program's ring: take, by contract. Conditions: the ring lies in memory; the stream can send; its windows are within their bounds.
-/
import Derived.Test.YtplohgaecoobaaaUtd
import Derived.Test.YtplohgaecoobaaaTail
namespace Go.Proofs.Ytplohgaecoobaaa
open Go.RowKit Go.WideShapes

theorem bnil_yes (c : Nat) (w : World) : (binOp .eql 34 (.slice none 0 c) (.slice none 0 0)).run Try.prog w = .ok (.bool true) w := by kernel_rfl
theorem bnil_no (a : Addr) (n c : Nat) (w : World) : (binOp .eql 34 (.slice (some a) n c) (.slice none 0 0)).run Try.prog w = .ok (.bool false) w := by kernel_rfl
set_option maxRecDepth 100000 in
set_option maxHeartbeats 1000000 in
theorem bclone_any {B : Nat} {A : Option Addr} {c : Nat} {l : List UInt8} {w : World} (hr : RdB w B A l) (hB : B ≤ w.heap.size) (hl : l.length ≤ 549755813888) :
    Calls Try.prog 52 #[.slice A l.length c] w fun e w' => (∃ v, e = .returned v ∧ Bo w' w.heap.size 5 v l) ∧ Below w.heap.size w w' := by
  obtain ⟨i0, hi0, hz0, hz1, hz2⟩ := info_parts u8_info
  cases A with
  | none =>
    have hn : l = [] := by
      rcases List.eq_nil_or_concat l with h0 | ⟨x, y, h0⟩
      · exact h0
      · obtain ⟨g, o, e, _⟩ := hr (by rw [h0]; simp)
        cases e
    subst hn
    clear hr
    have hnil := bnil_yes c
    go_enter Try.func52, Try.ntmps52
    go_wp2
    go_ret
    exact ⟨⟨_, rfl, Bo.nil⟩, Below.refl _ _⟩
  | some a =>
    have hO1 : Hid (Bo (w.alloc (.cells #[] 5)) w.heap.size 5 (.slice (some ⟨w.heap.size, 0, none⟩) 0 0) []) := OwS.lit w 5 1 0 #[] (by simp) (by simp [maxLen]) (Nat.le_refl _)
    have HR := Lib.hid (hr.alloc hB (.cells #[] 5))
    clear hr
    have hnil := bnil_no a l.length c
    go_enter Try.func52, Try.ntmps52
    go_wp2_with (at_builtin; go_loud (refine wpList_appBo rfl (.tmp 5) (.tmp 6) 34 rfl w.heap.size 5 i0 Try.underlying34 hi0 hz0 hz1 hz2 (.slice (some ⟨w.heap.size, 0, none⟩) 0 0) [] rfl hO1.out B (some a) l _ _ rfl rfl HR.out (by simp; omega) (by simp) ?_; intro v2 w2 hO2 hF2 hN2))
    go_ret
    rw [List.nil_append] at hO2
    exact ⟨⟨_, rfl, hO2⟩, ((Below.refl w.heap.size w).alloc (Nat.le_refl _) _).trans (hF2.below (fun k hk _ => by have := (OwS.lt hO1.out k hk).1; omega) (by simp))⟩
/-- What take leaves. -/
def TkP (w : World) (g q : Nat) (A : Option Addr) (c : Nat) (L : List Se) (t : Nat) (W : Int) (i : Nat) (e : Se) (N : Nat) (r : Ending) (w' : World) : Prop :=
  ∃ vA vc e', r = .returned (.slice vA N vc) ∧ Bo w' w.heap.size 5 (.slice vA N vc) (e.x.b.take N) ∧ e'.x = { e.x with b := e.x.b.drop N, lf := e.x.lf - N } ∧ e'.sb = e.sb ∧
    TrL w' g q A c (L.set i e') t (W - N) ∧ Fs (TF g q A c L) w w' ∧ ∀ k, TF g q A c (L.set i e') k → TF g q A c L k
section
variable {w w' : World} {g q : Nat} {A : Option Addr} {c : Nat} {L : List Se} {t : Nat} {W : Int} {e : Se}
/-- The stream's window takes some. -/
theorem TrL.lfS (h : TrL w g q A c L t W) {i : Nat} (hi : L[i]? = some e) {l : Int} (hf : Fs (fun k => k = e.p) w w') (hr : Row w' e.p 93 (wnc l 2)) : TrL w' g q A c (L.set i (e.upLf l)) t W ∧ Fs (TF g q A c L) w w' ∧ ∀ k, TF g q A c (L.set i (e.upLf l)) k → TF g q A c L k := by
  have hem := List.mem_of_getElem? hi
  obtain ⟨h1, h2⟩ := (h.i e hem).lf hf hr
  refine ⟨h.upd hi h2 h1 rfl fun k hk => .inl hk, h2.mono fun k _ hk => TF.of_e hem hk, fun k hk => ?_⟩
  have hlt : k < w'.heap.size ∨ True := .inr trivial
  unfold TF at hk
  rw [List.length_set] at hk
  rcases hk with h3 | h3 | h3 | ⟨a, ha, h3⟩
  · exact .inl h3
  · exact .inr (.inl h3)
  · exact .inr (.inr (.inl h3))
  · rcases List.mem_or_eq_of_mem_set ha with ha | rfl
    · exact TF.of_e ha h3
    · exact TF.of_e hem h3
/-- The stream's bytes are those of another slice of the same block, or none. -/
theorem TrL.byS (h : TrL w g q A c L t W) {i : Nat} (hi : L[i]? = some e) {b : List UInt8} {A' : Option Addr} {c' : Nat} (hb : Bo w 0 5 (.slice A' b.length c') b) (hN : ∀ k, ob (.slice A' b.length c') k → ob e.v k) :
    TrL (w.setCell ⟨e.sb, 1, none⟩ (.slice A' b.length c')) g q A c (L.set i (e.upB b A' c')) t W ∧ Fs (TF g q A c L) w (w.setCell ⟨e.sb, 1, none⟩ (.slice A' b.length c')) ∧ ∀ k, TF g q A c (L.set i (e.upB b A' c')) k → TF g q A c L k := by
  have hem := List.mem_of_getElem? hi
  obtain ⟨h1, h2, h3⟩ := (h.i e hem).by_ (Fs.refl _ _) hb (fun k hk => .inl (hN k hk))
  have h4 : ∀ k, (e.upB b A' c').fp k → e.fp k := fun k hk => by
    rcases hk with h5 | h5 | h5
    · exact .inl h5
    · exact .inr (.inl h5)
    · exact .inr (.inr (hN k h5))
  refine ⟨h.upd hi h2 h1 rfl fun k hk => .inl (h4 k hk), h2.mono fun k _ hk => TF.of_e hem hk, fun k hk => ?_⟩
  unfold TF at hk
  rw [List.length_set] at hk
  rcases hk with h3 | h3 | h3 | ⟨a, ha, h3⟩
  · exact .inl h3
  · exact .inr (.inl h3)
  · exact .inr (.inr (.inl h3))
  · rcases List.mem_or_eq_of_mem_set ha with ha | rfl
    · exact TF.of_e ha h3
    · exact TF.of_e hem (h4 k h3)
end
theorem set_at {L : List Se} {i : Nat} {e e' : Se} (h : L[i]? = some e) : (L.set i e')[i]? = some e' := by
  rw [List.getElem?_set, if_pos rfl, if_pos (List.getElem?_eq_some_iff.1 h).1]
theorem set_same {L : List Se} {i : Nat} {e : Se} (h : L[i]? = some e) : L.set i e = L := by
  obtain ⟨h1, h2⟩ := List.getElem?_eq_some_iff.1 h
  conv => lhs; rw [← h2]
  exact List.set_getElem_self h1
attribute [local irreducible] sec rgc fd wnc btw can snN
section
variable {w : World} {g q : Nat} {A : Option Addr} {c : Nat} {L : List Se} {t : Nat} {W : Int}
set_option maxRecDepth 100000 in
set_option maxHeartbeats 4000000 in
theorem ttake_any (h : TrL w g q A c L t W) {i : Nat} {e : Se} (hi : L[i]? = some e) (hc : can W e.x = true) (hlf : -2147483648 ≤ e.x.lf ∧ e.x.lf ≤ 2147483647) (hW : -2147483648 ≤ W ∧ W ≤ 2147483647) (hb : e.x.b.length ≤ 1000000) (most : Int) :
    Calls Try.prog 40 #[.pointer (some ⟨g, 0, none⟩), .pointer (some ⟨e.sb, 0, none⟩), .int .i64 (max most 1)] w (TkP w g q A c L t W i e (snN W most e.x)) := by
  have hem := List.mem_of_getElem? hi
  have hse := h.i e hem
  obtain ⟨_, _, r2⟩ := rg_cells h
  obtain ⟨_, s1, _, _, s4⟩ := se_cells hse
  have hor := snN_or (most := most) hc
  have hle := snN_le (most := most) hc
  have hcan := can_eq W e.x
  rw [hc] at hcan
  generalize snN W most e.x = N at *
  rcases hor with ⟨hb0, hN0⟩ | ⟨hb0, h1, hmin⟩
  · subst hN0
    have HP : Hid (TkP w g q A c L t W i e 0 (.returned (.slice none 0 0)) w) := by
      refine ⟨none, 0, e, rfl, Bo.nil, ?_, rfl, ?_, Fs.refl _ _, ?_⟩
      · simp
      · rw [set_same hi]; simpa using h
      · rw [set_same hi]; exact fun k hk => hk
    rw [hb0] at s1
    clear h hi hem hse hcan r2 s4 hc hlf hW hb hle hb0
    go_enter Try.func40, Try.ntmps40
    go_wp2_with fail
    go_ret
    exact HP.out
  · rw [if_neg hb0] at hcan
    simp only [Eq.comm (a := true), Bool.and_eq_true, decide_eq_true_eq] at hcan
    obtain ⟨hl0, hW0⟩ := hcan
    rw [Int.max_comm 1 most] at hmin
    have e0 : ((e.x.b.length : Int) == 0) = false := by rw [beq_eq_false_iff_ne]; omega
    have hNpos : 0 < N := by omega
    have hNlf : (N : Int) ≤ e.x.lf := by omega
    have hNW : (N : Int) ≤ W := by omega
    have hm4 := fun (W' : World) (ts : Array TypeId) (t : TypeId) => run_min4 (P := Try.prog) W' ts t (e.x.b.length : Int) (max most 1) e.x.lf W
    rw [hmin] at hm4
    have HT := Lib.hid h
    have HI := Lib.hid hi
    have HN1 := Lib.hid hse.n
    have HN2 := Lib.hid h.n
    have HLF := Lib.hid hlf
    have HWB := Lib.hid hW
    have hw1 : IntKind.i64.wrap e.x.lf = e.x.lf := IntWalk.i64_in _ (by omega)
    have hw2 : IntKind.i64.wrap W = W := IntWalk.i64_in _ (by omega)
    clear h hi hse hc hlf hW hmin hl0 hW0
    go_enter Try.func40, Try.ntmps40
    go_upto_region 3 with fail
    have d1 : w.drew.cell? ⟨e.sb, 1, none⟩ = some (.slice e.A e.x.b.length e.c) := s1
    have d4 : w.drew.cell? ⟨e.sb, 4, none⟩ = some (.pointer (some ⟨e.p, 0, none⟩)) := s4
    have d2 : w.drew.cell? ⟨g, 2, none⟩ = some (.pointer (some ⟨q, 0, none⟩)) := r2
    have HM1 : Hid (Row w.drew e.p 93 (wnc e.x.lf 2)) := HN1.out
    have HM2 : Hid (Row w.drew q 93 (wnc W 1)) := HN2.out
    refine wp_region_E 17 (fun w' => w'.cell? ⟨e.sb, 1, none⟩ = some (.slice e.A e.x.b.length e.c) ∧ w'.cell? ⟨e.sb, 4, none⟩ = some (.pointer (some ⟨e.p, 0, none⟩)) ∧ w'.cell? ⟨g, 2, none⟩ = some (.pointer (some ⟨q, 0, none⟩))) (by kernel_rfl) ⟨d1, d4, d2⟩ (fun hHeld => ?_)
    refine wpAnyE_take (i := 0) (v := ?v0) rfl (by kernel_rfl) (by kernel_rfl) (by kernel_rfl) (by kernel_rfl) (fun _ _ _ h => h) (Or.inl ⟨by rfl, ?hy0⟩) (by assumption) ?rest0
    case hy0 => (intro w hSw; (try dsimp only at hSw); go_simp <;> with_reducible rfl)
    try simp only [Act.put, List.getElem_toArray, List.getElem_cons_zero, List.setIfInBounds_toArray, List.set_cons_zero, List.set_cons_succ]
    refine wpAnyE_take (i := 1) (v := ?v1) rfl (by kernel_rfl) (by kernel_rfl) (by kernel_rfl) (by kernel_rfl) (fun _ _ _ h => h) (Or.inl ⟨by rfl, ?hy1⟩) (by assumption) ?rest1
    case hy1 => (intro w hSw; (try dsimp only at hSw); go_simp <;> with_reducible rfl)
    try simp only [Act.put, List.getElem_toArray, List.getElem_cons_zero, List.getElem_cons_succ, List.setIfInBounds_toArray, List.set_cons_zero, List.set_cons_succ]
    refine wpAnyE_take (i := 2) (v := ?v2) rfl (by kernel_rfl) (by kernel_rfl) (by kernel_rfl) (by kernel_rfl) (fun _ _ _ h => h) (Or.inl ⟨by rfl, ?hy2⟩) (by assumption) ?rest2
    case hy2 => (intro w hSw; (try dsimp only at hSw); go_simp <;> with_reducible rfl)
    try simp only [Act.put, List.getElem_toArray, List.getElem_cons_zero, List.getElem_cons_succ, List.setIfInBounds_toArray, List.set_cons_zero, List.set_cons_succ]
    refine wpAnyE_take (i := 3) (v := ?v3) rfl (by kernel_rfl) (by kernel_rfl) (by kernel_rfl) (by kernel_rfl) (fun _ _ _ h => h) (Or.inl ⟨by rfl, ?hy3⟩) (by assumption) ?rest3
    case hy3 => (intro w hSw; (try dsimp only at hSw); go_simp <;> with_reducible rfl)
    try simp only [Act.put, List.getElem_toArray, List.getElem_cons_zero, List.getElem_cons_succ, List.setIfInBounds_toArray, List.set_cons_zero, List.set_cons_succ]
    refine wpAnyE_take (i := 4) (v := ?v4) rfl (by kernel_rfl) (by kernel_rfl) (by kernel_rfl) (by kernel_rfl) (fun _ _ _ h => h) (Or.inl ⟨by rfl, ?hy4⟩) (by assumption) ?rest4
    case hy4 => (intro w hSw; (try dsimp only at hSw); go_simp <;> with_reducible rfl)
    try simp only [Act.put, List.getElem_toArray, List.getElem_cons_zero, List.getElem_cons_succ, List.setIfInBounds_toArray, List.set_cons_zero, List.set_cons_succ]
    refine wpAnyE_take (i := 5) (v := ?v5) rfl (by kernel_rfl) (by kernel_rfl) (by kernel_rfl) (by kernel_rfl) (fun _ _ _ h => h) (Or.inl ⟨by rfl, ?hy5⟩) (by assumption) ?rest5
    case hy5 => (intro w hSw; (try dsimp only at hSw); go_simp <;> with_reducible rfl)
    try simp only [Act.put, List.getElem_toArray, List.getElem_cons_zero, List.getElem_cons_succ, List.setIfInBounds_toArray, List.set_cons_zero, List.set_cons_succ]
    refine wpAnyE_take (i := 6) (v := ?v6) rfl (by kernel_rfl) (by kernel_rfl) (by kernel_rfl) (by kernel_rfl) (fun _ _ _ h => h) (Or.inl ⟨by rfl, ?hy6⟩) (by assumption) ?rest6
    case hy6 => (intro w hSw; (try dsimp only at hSw); go_simp <;> with_reducible rfl)
    try simp only [Act.put, List.getElem_toArray, List.getElem_cons_zero, List.getElem_cons_succ, List.setIfInBounds_toArray, List.set_cons_zero, List.set_cons_succ]
    refine wpAnyE_take (i := 7) (v := ?v7) rfl (by kernel_rfl) (by kernel_rfl) (by kernel_rfl) (by kernel_rfl) (fun _ _ _ h => h) (Or.inl ⟨by rfl, ?hy7⟩) (by assumption) ?rest7
    case hy7 => (intro w hSw; (try dsimp only at hSw); go_simp <;> with_reducible rfl)
    try simp only [Act.put, List.getElem_toArray, List.getElem_cons_zero, List.getElem_cons_succ, List.setIfInBounds_toArray, List.set_cons_zero, List.set_cons_succ]
    refine wpAnyE_take (i := 8) (v := ?v8) rfl (by kernel_rfl) (by kernel_rfl) (by kernel_rfl) (by kernel_rfl) (fun _ _ _ h => h) (Or.inl ⟨by rfl, ?hy8⟩) (by assumption) ?rest8
    case hy8 => (intro w hSw; (try dsimp only at hSw); go_simp <;> with_reducible rfl)
    try simp only [Act.put, List.getElem_toArray, List.getElem_cons_zero, List.getElem_cons_succ, List.setIfInBounds_toArray, List.set_cons_zero, List.set_cons_succ]
    refine wpAnyE_take (i := 9) (v := ?v9) rfl (by kernel_rfl) (by kernel_rfl) (by kernel_rfl) (by kernel_rfl) (fun _ _ _ h => h) (Or.inl ⟨by rfl, ?hy9⟩) (by assumption) ?rest9
    case hy9 => (intro w hSw; (try dsimp only at hSw); go_simp <;> with_reducible rfl)
    try simp only [Act.put, List.getElem_toArray, List.getElem_cons_zero, List.getElem_cons_succ, List.setIfInBounds_toArray, List.set_cons_zero, List.set_cons_succ]
    refine wpAnyE_take (i := 11) (v := ?v11) rfl (by kernel_rfl) (by kernel_rfl) (by kernel_rfl) (by kernel_rfl) (fun _ _ _ h => h) (Or.inl ⟨by rfl, ?hy11⟩) (by assumption) ?rest11
    case hy11 => (intro w hSw; (try dsimp only at hSw); go_simp <;> with_reducible rfl)
    try simp only [Act.put, List.getElem_toArray, List.getElem_cons_zero, List.getElem_cons_succ, List.setIfInBounds_toArray, List.set_cons_zero, List.set_cons_succ]
    refine wpAnyE_take (i := 12) (v := ?v12) rfl (by kernel_rfl) (by kernel_rfl) (by kernel_rfl) (by kernel_rfl) (fun _ _ _ h => h) (Or.inl ⟨by rfl, ?hy12⟩) (by assumption) ?rest12
    case hy12 => (intro w hSw; (try dsimp only at hSw); go_simp <;> with_reducible rfl)
    try simp only [Act.put, List.getElem_toArray, List.getElem_cons_zero, List.getElem_cons_succ, List.setIfInBounds_toArray, List.set_cons_zero, List.set_cons_succ]
    refine wpAnyE_take (i := 13) (v := ?v13) rfl (by kernel_rfl) (by kernel_rfl) (by kernel_rfl) (by kernel_rfl) (fun _ _ _ h => h) (Or.inl ⟨by rfl, ?hy13⟩) (by assumption) ?rest13
    case hy13 => (intro w hSw; (try dsimp only at hSw); go_simp <;> with_reducible rfl)
    try simp only [Act.put, List.getElem_toArray, List.getElem_cons_zero, List.getElem_cons_succ, List.setIfInBounds_toArray, List.set_cons_zero, List.set_cons_succ]
    refine wpAnyE_take (i := 14) (v := ?v14) rfl (by kernel_rfl) (by kernel_rfl) (by kernel_rfl) (by kernel_rfl) (fun _ _ _ h => h) (Or.inl ⟨by rfl, ?hy14⟩) (by assumption) ?rest14
    case hy14 => (intro w hSw; (try dsimp only at hSw); go_simp <;> with_reducible rfl)
    try simp only [Act.put, List.getElem_toArray, List.getElem_cons_zero, List.getElem_cons_succ, List.setIfInBounds_toArray, List.set_cons_zero, List.set_cons_succ]
    refine wpAnyE_next (i := 10) (by kernel_rfl) rfl (fun K hK => ?_)
    go_simp
    go_at_call 37
    refine (left_any HM1.out).mono ?_
    rintro r w1 ⟨rfl, rfl⟩
    go_simp
    refine hK.out _ _ hHeld (fun hHeld => ?_)
    clear hK K
    try simp only [Act.put, List.getElem_toArray, List.getElem_cons_zero, List.getElem_cons_succ, List.setIfInBounds_toArray, List.set_cons_zero, List.set_cons_succ]
    refine wpAnyE_next (i := 15) (by kernel_rfl) rfl (fun K hK => ?_)
    go_simp
    go_at_call 37
    refine (left_any HM2.out).mono ?_
    rintro r w1 ⟨rfl, rfl⟩
    go_simp
    refine hK.out _ _ hHeld (fun hHeld => ?_)
    clear hK K
    try simp only [Act.put, List.getElem_toArray, List.getElem_cons_zero, List.getElem_cons_succ, List.setIfInBounds_toArray, List.set_cons_zero, List.set_cons_succ]
    refine wpAnyE_next (i := 16) (by kernel_rfl) rfl (fun K hK => ?_)
    go_simp
    refine hK.out _ _ hHeld (fun hHeld => ?_)
    clear hK K
    try simp only [Act.put, List.getElem_toArray, List.getElem_cons_zero, List.getElem_cons_succ, List.setIfInBounds_toArray, List.set_cons_zero, List.set_cons_succ]
    refine wpAnyE_last (by kernel_rfl) rfl (by kernel_rfl) (fun K hK => ?_)
    go_simp
    refine hK.out _ _ ?_
    clear hK K hHeld hm4 hw1 hw2
    try simp only [Act.put, List.getElem_toArray, List.getElem_cons_zero, List.getElem_cons_succ, List.setIfInBounds_toArray, List.set_cons_zero, List.set_cons_succ]
    have HT1 : Hid (TrL w.drew g q A c L t W) := HT.out.keep fun _ _ => rfl
    have HB1 : Hid (Fs (TF g q A c L) w w.drew) := ⟨rfl, rfl, rfl, Nat.le_refl _, fun _ _ _ => rfl⟩
    generalize w.drew = w1 at *
    clear r2 s1 s4 HN1 HN2 HT d2
    go_wp2_with fail
    refine (take_yesw HM1.out HLF.out (n := (N : Int)) ⟨by omega, by omega⟩).mono ?_
    rintro r w2 ⟨rfl, hr, hf⟩
    obtain ⟨hT2, hF2, hN2⟩ := HT1.out.lfS HI.out hf hr
    have HT2 := Lib.hid hT2
    have HF2 := Lib.hid (HB1.out.trans hF2 fun _ _ h => h)
    have HN2 := Lib.hid hN2
    have HI2 := Lib.hid (set_at (e' := e.upLf (e.x.lf - N)) HI.out)
    clear hr hf hT2 hF2 hN2 HT1 HB1 HM1 HM2 d1 d4 HLF
    obtain ⟨L2, hL2⟩ : ∃ L2, L2 = L.set i (e.upLf (e.x.lf - N)) := ⟨_, rfl⟩
    rw [← hL2] at HT2 HN2 HI2
    have HL2 := Lib.hid hL2
    have HQ2 := Lib.hid HT2.out.n
    have d2 := (rg_cells HT2.out).2.2
    clear hL2
    go_wp2_with fail
    refine (take_yesw HQ2.out HWB.out (n := (N : Int)) ⟨by omega, by omega⟩).mono ?_
    rintro r w3 ⟨rfl, hr, hf⟩
    have HT3 := Lib.hid (HT2.out.win hf hr)
    have HF3 := Lib.hid (HF2.out.trans (hf.mono (S' := TF g q A c L) fun k _ hk => .inr (.inl hk)) fun _ _ h => h)
    have hse3 := HT3.out.i _ (List.mem_of_getElem? HI2.out)
    have s1 : w3.cell? ⟨e.sb, 1, none⟩ = some (.slice e.A e.x.b.length e.c) := (se_cells hse3).2.1
    have hbo : Bo w3 0 5 (.slice e.A e.x.b.length e.c) e.x.b := hse3.b
    have hcap : e.x.b.length ≤ e.c := by
      obtain ⟨_, _, e9, hcap⟩ := hbo.shape
      injection e9 with _ _ e9
      rw [e9]
      exact hcap
    obtain ⟨i0, hi0, hz0, hz1, hz2⟩ := info_parts u8_info
    obtain ⟨hcut, hrd⟩ := cut_upto (P := Try.prog) (t := 34) Try.underlying34 hi0 hz1 hbo.reads hcap hle
    have hcl := bclone_any (c := e.c) hrd (Nat.le_refl _) (by rw [List.length_take]; omega)
    have hlN : (e.x.b.take N).length = N := by rw [List.length_take]; omega
    rw [hlN] at hcl
    have HCL := Lib.hid hcl
    clear hr hf HQ2 HT2 HF2 d2 HWB hrd hcl hse3 hbo
    go_wp2_with fail
    refine HCL.out.mono ?_
    rintro r w4 ⟨⟨v, rfl, hv⟩, hb⟩
    obtain ⟨vA, vc, rfl, hvc⟩ := hv.shape
    rw [hlN] at hv ⊢
    have HV := Lib.hid hv
    have HT4 := Lib.hid (HT3.out.below hb)
    have HF4 := Lib.hid (HF3.out.then_below hb)
    have hs34 := hb.size
    have hs3 := HF3.out.size
    have hse4 := HT4.out.i _ (List.mem_of_getElem? HI2.out)
    have s1 : w4.cell? ⟨e.sb, 1, none⟩ = some (.slice e.A e.x.b.length e.c) := (se_cells hse4).2.1
    have z1 : w4.frozen? ⟨e.sb, 1, none⟩ = false := hse4.s.thawed 1
    have hbo : OwS w4 0 5 1 (.slice e.A e.x.b.length e.c) e.x.b.length (byc e.x.b) := hse4.b
    obtain ⟨A', hfrom, hO5, hob5⟩ := run_tail (P := Try.prog) w4 0 34 5 i0 1 Try.underlying34 hi0 hz1 hbo N hle
    obtain ⟨bb, hbb⟩ : ∃ bb, bb = e.x.b.drop N := ⟨_, rfl⟩
    have hbl : e.x.b.length - N = bb.length := by rw [hbb, List.length_drop]
    have hbd : (byc e.x.b).drop (N * 1) = byc bb := by rw [hbb, Nat.mul_one]; simp [byc]
    rw [hbl, hbd] at hO5
    rw [hbl] at hfrom hob5
    obtain ⟨hT5, hF5, hN5⟩ := HT4.out.byS HI2.out (A' := A') (c' := e.c - N) (b := bb) hO5 (fun k hk => by
      unfold ob at *
      rw [hob5] at hk
      exact hk)
    have hsb3 : e.sb < w3.heap.size := (HT3.out.i _ (List.mem_of_getElem? HI2.out)).s.lt
    have hvl : ∀ k, ob (.slice vA N vc) k → w3.heap.size ≤ k := fun k hk => (OwS.lt hv k hk).1
    have HV5 := Lib.hid ((OwS.setCell (a := ⟨e.sb, 1, none⟩) hv (fun h => by have := hvl _ h; have h2 : (⟨e.sb, 1, none⟩ : Addr).block = e.sb := rfl; omega) (.slice A' bb.length (e.c - N))).mono (base' := w.heap.size) hs3)
    obtain ⟨e5, he5⟩ : ∃ e5, e5 = (e.upLf (e.x.lf - N)).upB bb A' (e.c - N) := ⟨_, rfl⟩
    have hs5 : e5.sb = e.sb := by rw [he5]; rfl
    have hx5 : e5.x = { e.x with b := bb, lf := e.x.lf - N } := by rw [he5]; rfl
    have HT5 : Hid (TrL (w4.setCell ⟨e.sb, 1, none⟩ (.slice A' bb.length (e.c - N))) g q A c (L.set i e5) t (W - N)) := by
      have h9 := hT5
      rw [← he5, HL2.out, List.set_set] at h9
      exact h9
    have HF5 : Hid (Fs (TF g q A c L) w (w4.setCell ⟨e.sb, 1, none⟩ (.slice A' bb.length (e.c - N)))) := HF4.out.trans hF5 fun k hk h => HN2.out k h
    have HN5 : Hid (∀ k, TF g q A c (L.set i e5) k → TF g q A c L k) := fun k hk => by
      refine HN2.out k (hN5 k ?_)
      rw [← he5, HL2.out, List.set_set]
      exact hk
    have HI5 : Hid ((L.set i e5)[i]? = some e5) := set_at HI.out
    have s15 : (w4.setCell ⟨e.sb, 1, none⟩ (.slice A' bb.length (e.c - N))).cell? ⟨e.sb, 1, none⟩ = some (.slice A' bb.length (e.c - N)) := by
      have h9 := (se_cells (HT5.out.i e5 (List.mem_of_getElem? HI5.out))).2.1
      rw [hs5] at h9
      rw [h9, he5]
      rfl
    have z15 : (w4.setCell ⟨e.sb, 1, none⟩ (.slice A' bb.length (e.c - N))).frozen? ⟨e.sb, 1, none⟩ = false := by
      have h9 := (HT5.out.i e5 (List.mem_of_getElem? HI5.out)).s.thawed 1
      rw [hs5] at h9
      exact h9
    rw [hlN] at HV5
    have HX5 := Lib.hid hx5
    have HS5 := Lib.hid hs5
    have HBB := Lib.hid hbb
    clear hcut hv hb HCL HT3 HF3 HT4 HF4 hse4 hbo hO5 hob5 hbd hT5 hF5 hN5 hbb HV hvc hcap he5 hx5 hs5
    go_upto_region 8 with fail
    clear hfrom s1 z1
    generalize w4.setCell ⟨e.sb, 1, none⟩ (.slice A' bb.length (e.c - N)) = w5 at *
    by_cases h0 : bb = []
    · have hbl0 : bb.length = 0 := by rw [h0]; rfl
      rw [hbl0] at s15
      obtain ⟨hT6, hF6, hN6⟩ := HT5.out.byS HI5.out (A' := none) (c' := 0) (b := []) Bo.nil (fun k hk => by cases hk)
      rw [HS5.out] at hT6 hF6
      have HP : Hid (TkP w g q A c L t W i e N (.returned (.slice vA N vc)) (w5.setCell ⟨e.sb, 1, none⟩ (.slice none 0 0))) := by
        refine ⟨vA, vc, e5.upB [] none 0, rfl, ?_, ?_, HS5.out, ?_, HF5.out.trans hF6 fun k _ h => HN5.out k h, fun k hk => HN5.out k (hN6 k (by rw [List.set_set]; exact hk))⟩
        · unfold Bo
          rw [hlN]
          exact OwS.setCell (a := ⟨e.sb, 1, none⟩) HV5.out (fun h => by have := hvl _ h; have h2 : (⟨e.sb, 1, none⟩ : Addr).block = e.sb := rfl; omega) _
        · show ({ e5.x with b := [] } : Sn) = _
          rw [HX5.out, ← HBB.out, h0]
        · rw [List.set_set] at hT6
          exact hT6
      clear hT6 hF6 hN6 HT5 HF5 HN5 HI5 HX5 HS5 HBB HV5 h0 hvl hsb3
      go_wp2_with fail
      go_ret
      exact HP.out
    · have e5' : ((bb.length : Int) == 0) = false := by
        have := List.length_pos_iff.2 h0
        rw [beq_eq_false_iff_ne]; omega
      have HP : Hid (TkP w g q A c L t W i e N (.returned (.slice vA N vc)) w5) :=
        ⟨vA, vc, e5, rfl, by unfold Bo; rw [hlN]; exact HV5.out, by rw [HX5.out, HBB.out], HS5.out, HT5.out, HF5.out, HN5.out⟩
      clear HT5 HF5 HN5 HI5 HX5 HS5 HBB HV5 h0 hvl hsb3
      go_wp2_with fail
      go_ret
      exact HP.out
end
end Go.Proofs.Ytplohgaecoobaaa
