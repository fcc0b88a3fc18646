/-
  The program's ring: New, Open, by contract. Conditions: the ring lies in memory, few streams.
-/
import Derived.Test.YtplohgaecoobaaaUtx
import Derived.Test.YtplohgaecoobaaaLast
namespace Go.Proofs.Ytplohgaecoobaaa
open Go.RowKit Go.WideShapes

theorem ps_info : (Try.prog.info? 81).map (fun i => (i.zero, i.size, i.bytes)) = some (some (.pointer none), 1, 8) := by kernel_rfl
/-- The row with another stream behind its last one. -/
theorem TrL.app {w w4 : World} {g q : Nat} {A A' : Option Addr} {c c' : Nat} {L : List Se} {t : Nat} {W : Int} {e : Se} (h : TrL w g q A c L t W) (hse : SeIn w e) (hnew : ∀ k, e.fp k → ¬ TF g q A c L k)
    (hO : OwS w4 0 81 1 (.slice A' (L.length + 1) c') (L.length + 1) (enl sep L ++ sep e)) (hF : Fs (ob (.slice A L.length c)) w w4)
    (hN : (Value.slice A' (L.length + 1) c').ownBlock = (Value.slice A L.length c).ownBlock ∨ (Value.slice A' (L.length + 1) c').ownBlock = some w.heap.size) :
    TrL (w4.setCell ⟨g, 0, none⟩ (.slice A' (L.length + 1) c')) g q A' c' (L ++ [e]) t W ∧ Fs (TF g q A c L) w (w4.setCell ⟨g, 0, none⟩ (.slice A' (L.length + 1) c')) ∧
    ∀ k, TF g q A' c' (L ++ [e]) k → TF g q A c L k ∨ e.fp k ∨ w.heap.size ≤ k := by
  have hlen : (L ++ [e]).length = L.length + 1 := by simp
  have hob : ∀ k, ob (.slice A' (L.length + 1) c') k → ob (.slice A L.length c) k ∨ w.heap.size ≤ k := fun k hk => by
    rcases hN with e1 | e1
    · exact .inl (by unfold ob at *; rw [← e1]; exact hk)
    · refine .inr ?_
      unfold ob at hk
      rw [e1] at hk
      injection hk with hk
      omega
  have hgl := h.r.lt
  have hog : ¬ ob (.slice A' (L.length + 1) c') g := fun hk => by
    rcases hob g hk with h1 | h1
    · exact h.s_g h1
    · omega
  have hmem : ∀ a ∈ L ++ [e], SeIn w a ∧ ∀ k, a.fp k → k ≠ g ∧ k ≠ q ∧ ¬ ob (.slice A L.length c) k := by
    intro a ha
    rcases List.mem_append.1 ha with ha | ha
    · exact ⟨h.i a ha, fun k hk => ⟨fun e1 => h.not_g ha (e1 ▸ hk), fun e1 => h.not_q ha (e1 ▸ hk), fun e1 => h.not_s ha k e1 hk⟩⟩
    · rw [List.mem_singleton.1 ha]
      exact ⟨hse, fun k hk => ⟨fun e1 => hnew k hk (.inl e1), fun e1 => hnew k hk (.inr (.inl e1)), fun e1 => hnew k hk (.inr (.inr (.inl e1)))⟩⟩
  refine ⟨⟨?_, ?_, ?_, ?_, ?_, ?_⟩, ?_, ?_⟩
  · rw [hlen]
    exact (hF.row h.s_g h.r).stored 0 _
  · exact (hF.row h.s_q h.n).stored' (a := ⟨g, 0, none⟩) (fun e1 => h.g_q e1.symm) _
  · rw [hlen, enl_append, enl_one]
    exact hO.setCell (a := ⟨g, 0, none⟩) hog _
  · intro a ha
    obtain ⟨h1, h2⟩ := hmem a ha
    exact (h1.keep fun k hk => hF.block k (h1.lt hk) (h2 k hk).2.2).keep fun k hk => Below.heap_setCell w4 ⟨g, 0, none⟩ _ k (h2 k hk).1
  · have hx : ∀ (j : Nat) (b : Se), (L ++ [e])[j]? = some b → L[j]? = some b ∨ j = L.length ∧ b = e := fun j b hj => by
      rw [List.getElem?_append] at hj
      split at hj
      · exact .inl hj
      · rw [List.getElem?_singleton] at hj
        split at hj
        · exact .inr ⟨by omega, (Option.some.inj hj).symm⟩
        · cases hj
    have hno : ∀ (j : Nat) (b : Se), L[j]? = some b → ∀ k, b.fp k → ¬ e.fp k := fun j b hj k hk h1 => hnew k h1 (TF.of_e (List.mem_of_getElem? hj) hk)
    intro j1 j2 a b ha hb k hka hkb
    rcases hx j1 a ha with h1 | ⟨h1, rfl⟩ <;> rcases hx j2 b hb with h2 | ⟨h2, rfl⟩
    · exact h.d j1 j2 a b h1 h2 k hka hkb
    · exact absurd hkb (hno j1 a h1 k hka)
    · exact absurd hka (hno j2 b h2 k hkb)
    · omega
  · intro a ha e1
    exact ((hmem a ha).2 a.p (.inr (.inl rfl))).2.1 e1
  · exact (hF.mono fun k _ hk => .inr (.inr (.inl hk))).setCell (fun _ => .inl rfl) _ _
  · intro k hk
    unfold TF at hk
    rw [hlen] at hk
    rcases hk with h1 | h1 | h1 | ⟨a, ha, h1⟩
    · exact .inl (.inl h1)
    · exact .inl (.inr (.inl h1))
    · rcases hob k h1 with h2 | h2
      · exact .inl (.inr (.inr (.inl h2)))
      · exact .inr (.inr h2)
    · rcases List.mem_append.1 ha with ha | ha
      · exact .inl (TF.of_e ha h1)
      · rw [List.mem_singleton.1 ha] at h1
        exact .inr (.inl h1)
/-- A stream that just came. -/
def seN (s : Nat) (l : Int) (sb p : Nat) : Se := ⟨⟨s, [], false, false, l⟩, sb, p, none, 0⟩
theorem seN_fp {s : Nat} {l : Int} {sb p k : Nat} (h : (seN s l sb p).fp k) : k = sb ∨ k = p := by
  rcases h with h | h | h
  · exact .inl h
  · exact .inr h
  · cases h
theorem seN_in {w : World} {s : Nat} {l : Int} {sb p : Nat} (h1 : Row w sb 84 #[.int .u32 s, .slice none 0 0, .bool false, .bool false, .pointer (some ⟨p, 0, none⟩)]) (h2 : Row w p 93 (wnc l 2)) : SeIn w (seN s l sb p) := ⟨h1, h2, Bo.nil⟩
attribute [local irreducible] sec rgc fd wnc btw
set_option maxRecDepth 100000 in
set_option maxHeartbeats 1000000 in
theorem tnew_any (left : Int) (w : World) : Calls Try.prog 10 #[.int .i64 left] w fun e w' => ∃ g F, e = .returned (.pointer (some ⟨g, 0, none⟩)) ∧ Tr w' F g (rmNew left) ∧ (∀ k, F k → w.heap.size ≤ k) ∧ Below w.heap.size w w' := by
  go_enter Try.func10, Try.ntmps10
  go_wp2_with fail
  refine (wnew_any left false w).mono ?_
  rintro e w1 ⟨p, rfl, hr, hb, hp⟩
  have hpl := hr.lt
  have hal : Below w1.heap.size w1 (w1.alloc (.cells #[.slice none 0 0, .int .i64 0, .pointer (some ⟨p, 0, none⟩)] 71)) := (Below.refl _ _).alloc (Nat.le_refl _) _
  have HB := Lib.hid (hb.trans (hal.mono hb.size))
  have hs1 := hb.size
  have HT : Hid (Tr (w1.alloc (.cells #[.slice none 0 0, .int .i64 0, .pointer (some ⟨p, 0, none⟩)] 71)) (TF w1.heap.size p none 0 []) w1.heap.size (rmNew left)) :=
    ⟨p, none, 0, [], rfl, ⟨by unfold rgc; exact Row.new w1 _ _, hr.below hal hpl, OwS.nil, fun e he => (by cases he), fun i j a b ha => (by simp at ha), fun e he => (by cases he)⟩, rfl⟩
  have HF : Hid (∀ k, TF w1.heap.size p none 0 [] k → w.heap.size ≤ k) := fun k hk => by
    rcases hk with rfl | rfl | hk | ⟨e, he, _⟩
    · exact hs1
    · exact hp
    · cases hk
    · cases he
  clear hr hb hal
  go_wp2_with fail
  go_ret
  exact ⟨_, _, rfl, HT.out, HF.out, HB.out⟩
section
variable {w : World} {F : Nat → Prop} {g : Nat} {m : Rm}
set_option maxRecDepth 100000 in
theorem topen_nil (w : World) (s lf : Int) : Calls Try.prog 21 #[.pointer none, .int .u32 s, .int .i64 lf] w fun e w' => e = .returned (.bool false) ∧ Below w.heap.size w w' := by
  go_enter Try.func21, Try.ntmps21
  go_wp2_with fail
  go_ret
  exact ⟨rfl, Below.refl _ _⟩
set_option maxRecDepth 100000 in
set_option maxHeartbeats 2000000 in
theorem topen_any (h : Tr w F g m) (hm : m.Ok) (hs : m.Sm) (s : Nat) (lf : Int) : Calls Try.prog 21 #[.pointer (some ⟨g, 0, none⟩), .int .u32 s, .int .i64 lf] w (TP w F g (rmOpen m s lf).1 (.bool (rmOpen m s lf).2)) := by
  have HSAME := fun (w' : World) (hb : Below w.heap.size w w') (v : Value) => tp_same (v := v) h hb
  obtain ⟨q, A, c, L, hl, ht, rfl, htl, hL⟩ := h.of hm hs
  have hll := map_len hl
  unfold rmOpen
  by_cases h0 : s = 0
  · rw [if_pos (.inl h0)]
    subst h0
    have HS := Lib.hid HSAME
    clear ht hl hs hm htl h HSAME
    go_enter Try.func21, Try.ntmps21
    go_wp2_with fail
    go_ret
    exact HS.out _ (Below.refl _ _) _
  have e0 : ((s : Int) == 0) = false := by rw [beq_eq_false_iff_ne]; omega
  by_cases hi : fd s m.l < m.l.length
  · rw [if_pos (.inr hi)]
    have hi' : fd s (L.map (·.x)) < L.length := by rw [← hl, ← hll]; exact hi
    have hx := List.getElem?_eq_getElem hi'
    have HC := Lib.hid (tfind_yes (s := s) ht (by omega) hx)
    have HS := Lib.hid HSAME
    clear ht hl hs hm htl h HSAME hi hx
    go_enter Try.func21, Try.ntmps21
    go_wp2_with fail
    refine HC.out.mono ?_
    rintro r w2 ⟨rfl, hb⟩
    have HP := Lib.hid (HS.out _ hb (.bool false))
    clear hb HC HS
    go_wp2_with fail
    go_ret
    exact HP.out
  · rw [if_neg (by rintro (h1 | h1); exact h0 h1; exact hi h1)]
    have HC := Lib.hid (tfind_no (s := s) ht (by omega) (by rw [← hl, ← hll]; exact hi))
    have HT := Lib.hid ht
    have HL := Lib.hid hl
    clear ht hl hs hm htl h HSAME hi h0
    go_enter Try.func21, Try.ntmps21
    go_upto_region 3 with (refine HC.out.mono ?_; rintro r w2 ⟨rfl, hb⟩)
    have HT2 := Lib.hid (HT.out.below hb)
    have HW := Lib.hid hb
    clear hb HT HC
    obtain ⟨i0, hi0, hz0, hz1, hz2⟩ := info_parts ps_info
    have d0 : w2.drew.cell? ⟨g, 0, none⟩ = some (.slice A L.length c) := (rg_cells HT2.out).1
    have hcap := HT2.out.cap
    refine wp_region_E 14 (fun w' => w'.cell? ⟨g, 0, none⟩ = some (.slice A L.length c)) (by kernel_rfl) d0 (fun hHeld => ?_)
    refine wpAnyE_take (i := 0) (v := ?v0) rfl (by kernel_rfl) (by kernel_rfl) (by kernel_rfl) (by kernel_rfl) (fun _ _ _ h => h) (Or.inl ⟨by rfl, ?hy0⟩) (by assumption) ?rest0
    case hy0 => (intro w hSw; (try dsimp only at hSw); go_simp <;> with_reducible rfl)
    try simp only [Act.put, List.getElem_toArray, List.getElem_cons_zero, List.setIfInBounds_toArray, List.set_cons_zero, List.set_cons_succ]
    refine wpAnyE_take (i := 1) (v := ?v1) rfl (by kernel_rfl) (by kernel_rfl) (by kernel_rfl) (by kernel_rfl) (fun _ _ _ h => h) (Or.inl ⟨by rfl, ?hy1⟩) (by assumption) ?rest1
    case hy1 => (intro w hSw; (try dsimp only at hSw); go_simp <;> with_reducible rfl)
    try simp only [Act.put, List.getElem_toArray, List.getElem_cons_zero, List.getElem_cons_succ, List.setIfInBounds_toArray, List.set_cons_zero, List.set_cons_succ]
    refine wpAnyE_take (i := 2) (v := ?v2) rfl (by kernel_rfl) (by kernel_rfl) (by kernel_rfl) (by kernel_rfl) (fun _ _ _ h => h) (Or.inl ⟨by rfl, ?hy2⟩) (by assumption) ?rest2
    case hy2 => (intro w hSw; (try dsimp only at hSw); go_simp <;> with_reducible rfl)
    try simp only [Act.put, List.getElem_toArray, List.getElem_cons_zero, List.getElem_cons_succ, List.setIfInBounds_toArray, List.set_cons_zero, List.set_cons_succ]
    refine wpAnyE_take (i := 3) (v := ?v3) rfl (by kernel_rfl) (by kernel_rfl) (by kernel_rfl) (by kernel_rfl) (fun _ _ _ h => h) (Or.inl ⟨by rfl, ?hy3⟩) (by assumption) ?rest3
    case hy3 => (intro w hSw; (try dsimp only at hSw); go_simp <;> with_reducible rfl)
    try simp only [Act.put, List.getElem_toArray, List.getElem_cons_zero, List.getElem_cons_succ, List.setIfInBounds_toArray, List.set_cons_zero, List.set_cons_succ]
    refine wpAnyE_take (i := 4) (v := ?v4) rfl (by kernel_rfl) (by kernel_rfl) (by kernel_rfl) (by kernel_rfl) (fun _ _ _ h => h) (Or.inl ⟨by rfl, ?hy4⟩) (by assumption) ?rest4
    case hy4 => (intro w hSw; (try dsimp only at hSw); go_simp <;> with_reducible rfl)
    try simp only [Act.put, List.getElem_toArray, List.getElem_cons_zero, List.getElem_cons_succ, List.setIfInBounds_toArray, List.set_cons_zero, List.set_cons_succ]
    refine wpAnyE_take (i := 5) (v := ?v5) rfl (by kernel_rfl) (by kernel_rfl) (by kernel_rfl) (by kernel_rfl) (fun _ _ _ h => h) (Or.inl ⟨by rfl, ?hy5⟩) (by assumption) ?rest5
    case hy5 => (intro w hSw; (try dsimp only at hSw); go_simp <;> with_reducible rfl)
    try simp only [Act.put, List.getElem_toArray, List.getElem_cons_zero, List.getElem_cons_succ, List.setIfInBounds_toArray, List.set_cons_zero, List.set_cons_succ]
    refine wpAnyE_take (i := 6) (v := ?v6) rfl (by kernel_rfl) (by kernel_rfl) (by kernel_rfl) (by kernel_rfl) (fun _ _ _ h => h) (Or.inl ⟨by rfl, ?hy6⟩) (by assumption) ?rest6
    case hy6 => (intro w hSw; (try dsimp only at hSw); go_simp <;> with_reducible rfl)
    try simp only [Act.put, List.getElem_toArray, List.getElem_cons_zero, List.getElem_cons_succ, List.setIfInBounds_toArray, List.set_cons_zero, List.set_cons_succ]
    refine wpAnyE_next (i := 7) (by kernel_rfl) rfl (fun K hK => ?_)
    go_simp
    go_at_call 27
    refine (wnew_any lf true w2.drew).mono ?_
    rintro e w3 ⟨p, rfl, hr, hb, hp⟩
    have hb3 : Below w2.heap.size w2 w3 := ⟨hb.os, hb.tape, hb.output, hb.size, hb.block⟩
    have hp2 : w2.heap.size ≤ p := hp
    have HT3 := Lib.hid (HT2.out.below hb3)
    have HB3 := Lib.hid hb3
    have HR3 := Lib.hid hr
    have d0 := (rg_cells HT3.out).1
    clear hb hr hb3 hp
    go_simp
    refine hK.out _ _ d0 (fun hHeld => ?_)
    clear hK K
    try simp only [Act.put, List.getElem_toArray, List.getElem_cons_zero, List.getElem_cons_succ, List.setIfInBounds_toArray, List.set_cons_zero, List.set_cons_succ]
    refine wpAnyE_take (i := 8) (v := ?v8q1) rfl (by kernel_rfl) (by kernel_rfl) (by kernel_rfl) (by kernel_rfl) (fun _ _ _ h => h) (Or.inl ⟨by rfl, ?hy8q1⟩) (by assumption) ?rest8q1
    case hy8q1 => (intro w hSw; (try dsimp only at hSw); go_simp <;> with_reducible rfl)
    try simp only [Act.put, List.getElem_toArray, List.getElem_cons_zero, List.getElem_cons_succ, List.setIfInBounds_toArray, List.set_cons_zero, List.set_cons_succ]
    refine wpAnyE_next (i := 9) (by kernel_rfl) rfl (fun K hK => ?_)
    go_simp
    have HN4 : Hid (Row (w3.alloc (.cells #[.int .u32 s, .slice none 0 0, .bool false, .bool false, .pointer (some ⟨p, 0, none⟩)] 84)) w3.heap.size 84 #[.int .u32 s, .slice none 0 0, .bool false, .bool false, .pointer (some ⟨p, 0, none⟩)]) := Row.new w3 _ _
    have hal : Below w3.heap.size w3 (w3.alloc (.cells #[.int .u32 s, .slice none 0 0, .bool false, .bool false, .pointer (some ⟨p, 0, none⟩)] 84)) := (Below.refl _ _).alloc (Nat.le_refl _) _
    have HT4 := Lib.hid (HT3.out.below hal)
    have HR4 := Lib.hid (HR3.out.below hal HR3.out.lt)
    have HB4 := Lib.hid (HB3.out.trans (hal.mono HB3.out.size))
    have hsb := HB3.out.size
    have d0 := (rg_cells HT4.out).1
    clear hal HT3 HR3 HB3
    refine hK.out _ _ d0 (fun hHeld => ?_)
    clear hK K
    try simp only [Act.put, List.getElem_toArray, List.getElem_cons_zero, List.getElem_cons_succ, List.setIfInBounds_toArray, List.set_cons_zero, List.set_cons_succ]
    generalize w3.alloc (.cells #[.int .u32 s, .slice none 0 0, .bool false, .bool false, .pointer (some ⟨p, 0, none⟩)] 84) = w4 at *
    generalize w3.heap.size = sb at *
    refine wpAnyE_next (i := 10) (by kernel_rfl) rfl (fun K hK => ?_)
    go_simp
    have hal : Below w4.heap.size w4 (w4.alloc (.cells #[.pointer (some ⟨sb, 0, none⟩)] 81)) := (Below.refl _ _).alloc (Nat.le_refl _) _
    have hx5 : ∀ j u, (sep (seN s (btw lf) sb p))[j]? = some u → (w4.alloc (.cells #[.pointer (some ⟨sb, 0, none⟩)] 81)).cell? ((⟨w4.heap.size, 0, none⟩ : Addr).add j) = some u := fun j u hj => by
      rw [add_plain, Nat.zero_add]
      exact (Row.new w4 81 #[.pointer (some ⟨sb, 0, none⟩)]).cell (by simpa [sep, seN] using hj)
    have HT5 := Lib.hid (HT4.out.below hal)
    have HR5 := Lib.hid (HR4.out.below hal HR4.out.lt)
    have HN5 := Lib.hid (HN4.out.below hal HN4.out.lt)
    have HB5 := Lib.hid (HB4.out.trans (hal.mono HB4.out.size))
    have d0 := (rg_cells HT5.out).1
    clear hal HT4 HR4 HB4 HN4
    refine hK.out _ _ d0 (fun hHeld => ?_)
    clear hK K
    try simp only [Act.put, List.getElem_toArray, List.getElem_cons_zero, List.getElem_cons_succ, List.setIfInBounds_toArray, List.set_cons_zero, List.set_cons_succ]
    generalize w4.alloc (.cells #[.pointer (some ⟨sb, 0, none⟩)] 81) = w5 at *
    generalize w4.heap.size = lb at *
    refine wpAnyE_next (i := 11) (by kernel_rfl) rfl (fun K hK => ?_)
    refine step_appS rfl (.tmp 23) (.tmp 29) 69 rfl 0 81 i0 _ 1 8 Try.underlying69 hi0 hz0 hz1 hz2 rfl (.slice A L.length c) L.length (enl sep L) rfl HT5.out.s ⟨lb, 0, none⟩ 1 1 (sep (seN s (btw lf) sb p)) rfl rfl hx5 (sep_one _) (by omega) (by simp only [maxLen]; omega) (by omega) (Nat.zero_le _) ?_
    intro A6 c6 w6 hO6 hg6 hb6
    have hnew : ∀ k, (seN s (btw lf) sb p).fp k → w2.heap.size ≤ k := fun k hk => by rcases seN_fp hk with rfl | rfl <;> omega
    have hse := seN_in HN5.out HR5.out
    obtain ⟨hT7, hF7, hN7⟩ := HT5.out.app hse (fun k hk h1 => by have := HT2.out.lt h1; have := hnew k hk; omega) hO6 (Fs.of_grown hg6) hb6
    have hgo : ¬ ob (.slice A L.length c) g := HT5.out.s_g
    have hr6 := (Fs.of_grown hg6).row hgo HT5.out.r
    have d0 : w6.cell? ⟨g, 0, none⟩ = some (.slice A L.length c) := hr6.cell (by unfold rgc; rfl)
    have z0 := hr6.thawed 0
    have HP : Hid (TP w (TF g q A c L) g ⟨m.l ++ [⟨s, [], false, false, btw lf⟩], m.t, m.w⟩ (.bool true) (.returned (.bool true)) (w6.setCell ⟨g, 0, none⟩ (.slice A6 (L.length + 1) c6))) := by
      refine ⟨rfl, _, ⟨q, A6, c6, L ++ [seN s (btw lf) sb p], ?_, hT7, rfl⟩, ?_, ?_⟩
      · show m.l ++ [_] = _
        rw [List.map_append, HL.out]
        rfl
      · exact (Fs.of_below (HW.out.trans (HB5.out.mono HW.out.size))).trans hF7 fun _ _ h => h
      · intro k hk
        have h1 := HW.out.size
        have h2 := HB5.out.size
        rcases hN7 k hk with h3 | h3 | h3
        · exact .inl h3
        · have := hnew k h3; exact .inr (by omega)
        · exact .inr (by omega)
    clear hnew hse hT7 hF7 hN7 hgo hr6 hO6 hg6 hb6 HT5 HR5 HN5 HB5 hx5
    refine hK.out _ _ d0 (fun hHeld => ?_)
    clear hK K
    try simp only [Act.put, List.getElem_toArray, List.getElem_cons_zero, List.getElem_cons_succ, List.setIfInBounds_toArray, List.set_cons_zero, List.set_cons_succ]
    refine wpAnyE_take (i := 12) (v := ?v12q2) rfl (by kernel_rfl) (by kernel_rfl) (by kernel_rfl) (by kernel_rfl) (fun _ _ _ h => h) (Or.inl ⟨by rfl, ?hy12q2⟩) (by assumption) ?rest12q2
    case hy12q2 => (intro w hSw; (try dsimp only at hSw); go_simp <;> with_reducible rfl)
    try simp only [Act.put, List.getElem_toArray, List.getElem_cons_zero, List.getElem_cons_succ, List.setIfInBounds_toArray, List.set_cons_zero, List.set_cons_succ]
    refine wpAnyE_take (i := 13) (v := ?v13q2) rfl (by kernel_rfl) (by kernel_rfl) (by kernel_rfl) (by kernel_rfl) (fun _ _ _ h => h) (Or.inl ⟨by rfl, ?hy13q2⟩) (by assumption) ?rest13q2
    case hy13q2 => (intro w hSw; (try dsimp only at hSw); go_simp <;> with_reducible rfl)
    try simp only [Act.put, List.getElem_toArray, List.getElem_cons_zero, List.getElem_cons_succ, List.setIfInBounds_toArray, List.set_cons_zero, List.set_cons_succ]
    refine wpAnyE_last (by kernel_rfl) rfl (by kernel_rfl) (fun K hK => ?_)
    go_simp
    refine hK.out _ _ ?_
    clear hK K
    try simp only [Act.put, List.getElem_toArray, List.getElem_cons_zero, List.getElem_cons_succ, List.setIfInBounds_toArray, List.set_cons_zero, List.set_cons_succ]
    go_wp2_with fail
    go_ret
    exact HP.out
end
end Go.Proofs.Ytplohgaecoobaaa
