/-
  The program's ring: what waits, what is left; a window that grows, windows that are shifted; all that waits; by contract. Conditions: the ring lies in memory, few streams, few bytes.
-/
import Derived.Test.YtplohgaecoobaaaUtf
import Derived.Test.YtplohgaecoobaaaUgt
namespace Go.Proofs.Ytplohgaecoobaaa
open Go.RowKit Go.WideShapes

/-- What a call on the ring leaves. -/
def TP (w : World) (F : Nat → Prop) (g : Nat) (m' : Rm) (v : Value) (e : Ending) (w' : World) : Prop :=
  e = .returned v ∧ ∃ F', Tr w' F' g m' ∧ Fs F w w' ∧ ∀ k, F' k → F k ∨ w.heap.size ≤ k
def wtN (m : Rm) (s : Nat) : Nat := match m.l[fd s m.l]? with | none => 0 | some x => x.b.length
def lfN (m : Rm) (s : Nat) : Int := if s = 0 then m.w else match m.l[fd s m.l]? with | none => 0 | some x => x.lf
def allN : List Sn → Nat
  | [] => 0
  | x :: l => x.b.length + allN l
/-- A stream of the list stands in the row. -/
theorem se_of {l : List Sn} {L : List Se} (h : l = L.map (·.x)) {k : Nat} {x : Sn} (hk : l[k]? = some x) : ∃ e, L[k]? = some e ∧ e.x = x := by
  rw [map_at h] at hk
  cases hx : L[k]? with
  | none => rw [hx] at hk; cases hk
  | some e => rw [hx] at hk; exact ⟨e, rfl, Option.some.inj hk⟩
theorem tp_same {w w' : World} {F : Nat → Prop} {g : Nat} {m : Rm} {v : Value} (h : Tr w F g m) (hb : Below w.heap.size w w') : TP w F g m v (.returned v) w' :=
  ⟨rfl, F, h.keep fun k hk => hb.block k (h.lts k hk), Fs.of_below hb, fun _ hk => .inl hk⟩
attribute [local irreducible] sec rgc fd wnc
section
variable {w : World} {F : Nat → Prop} {g : Nat} {m : Rm}
set_option maxRecDepth 100000 in
set_option maxHeartbeats 1000000 in
theorem twaits_any (h : Tr w F g m) (hs : m.Sm) (s : Nat) : Calls Try.prog 14 #[.pointer (some ⟨g, 0, none⟩), .int .u32 s] w fun e w' => e = .returned (.int .i64 (wtN m s)) ∧ Below w.heap.size w w' := by
  obtain ⟨q, A, c, L, hl, ht, rfl⟩ := h
  have hL : L.length ≤ 100000 := by rw [← map_len hl]; have := hs.few; omega
  unfold wtN
  cases hx : m.l[fd s m.l]? with
  | none =>
    have HC := Lib.hid (tfind_no (s := s) ht hL (by have h1 := none_of hx; rw [← hl, ← map_len hl]; exact h1))
    clear ht hl hs hx
    go_enter Try.func14, Try.ntmps14
    go_wp2_with fail
    refine HC.out.mono ?_
    rintro r w2 ⟨rfl, hb⟩
    have HB := Lib.hid hb
    clear hb HC
    go_wp2_with fail
    go_ret
    exact ⟨rfl, HB.out⟩
  | some x =>
    obtain ⟨e, he, rfl⟩ := se_of hl hx
    have hbl : e.x.b.length ≤ 1000000 := hs.b _ (List.mem_of_getElem? hx)
    have HC := Lib.hid (tfind_yes (s := s) ht hL (by rw [← hl]; exact he))
    have H := Lib.hid ht
    have hem := List.mem_of_getElem? he
    clear ht hl hs hx he
    go_enter Try.func14, Try.ntmps14
    go_wp2_with fail
    refine HC.out.mono ?_
    rintro r w2 ⟨rfl, hb⟩
    obtain ⟨_, c1, _, _, _⟩ := se_cells ((H.out.below hb).i e hem)
    have HB := Lib.hid hb
    clear hb HC H hem
    go_wp2_with fail
    go_ret
    exact ⟨rfl, HB.out⟩
set_option maxRecDepth 100000 in
theorem twaits_nil (w : World) (s : Int) : Calls Try.prog 14 #[.pointer none, .int .u32 s] w fun e w' => e = .returned (.int .i64 0) ∧ Below w.heap.size w w' := by
  go_enter Try.func14, Try.ntmps14
  go_wp2_with fail
  refine (tfind_nil _ _).mono ?_
  rintro r w2 ⟨rfl, hb⟩
  have HB := Lib.hid hb
  clear hb
  go_wp2_with fail
  go_ret
  exact ⟨rfl, HB.out⟩
set_option maxRecDepth 100000 in
theorem tleft_nil (w : World) (s : Int) : Calls Try.prog 15 #[.pointer none, .int .u32 s] w fun e w' => e = .returned (.int .i64 0) ∧ Below w.heap.size w w' := by
  go_enter Try.func15, Try.ntmps15
  go_wp2_with fail
  refine (twof_nil _ _).mono ?_
  rintro r w2 ⟨rfl, hb⟩
  have HB := Lib.hid hb
  clear hb
  go_wp2_with fail
  refine (left_nil _).mono ?_
  rintro r w3 ⟨rfl, rfl⟩
  go_wp2_with fail
  go_ret
  exact ⟨rfl, HB.out⟩
set_option maxRecDepth 100000 in
set_option maxHeartbeats 1000000 in
theorem tleft_any (h : Tr w F g m) (hs : m.Sm) (s : Nat) : Calls Try.prog 15 #[.pointer (some ⟨g, 0, none⟩), .int .u32 s] w fun e w' => e = .returned (.int .i64 (lfN m s)) ∧ Below w.heap.size w w' := by
  obtain ⟨q, A, c, L, hl, ht, rfl⟩ := h
  have hL : L.length ≤ 100000 := by rw [← map_len hl]; have := hs.few; omega
  unfold lfN
  by_cases h0 : s = 0
  · rw [if_pos h0]
    subst h0
    have HC := Lib.hid (twof_ring ht)
    have H := Lib.hid ht
    clear ht hl hs
    go_enter Try.func15, Try.ntmps15
    go_wp2_with fail
    refine HC.out.mono ?_
    rintro r w2 ⟨rfl, hb⟩
    have HN := Lib.hid (H.out.below hb).n
    have HB := Lib.hid hb
    clear hb HC H
    go_wp2_with fail
    refine (left_any HN.out).mono ?_
    rintro r w3 ⟨rfl, rfl⟩
    go_wp2_with fail
    go_ret
    exact ⟨rfl, HB.out⟩
  rw [if_neg h0]
  cases hx : m.l[fd s m.l]? with
  | none =>
    have HC := Lib.hid (twof_no (s := s) ht hL h0 (by have h1 := none_of hx; rw [← hl, ← map_len hl]; exact h1))
    clear ht hl hs hx
    go_enter Try.func15, Try.ntmps15
    go_wp2_with fail
    refine HC.out.mono ?_
    rintro r w2 ⟨rfl, hb⟩
    have HB := Lib.hid hb
    clear hb HC
    go_wp2_with fail
    refine (left_nil _).mono ?_
    rintro r w3 ⟨rfl, rfl⟩
    go_wp2_with fail
    go_ret
    exact ⟨rfl, HB.out⟩
  | some x =>
    obtain ⟨e, he, rfl⟩ := se_of hl hx
    have HC := Lib.hid (twof_yes (s := s) ht hL h0 (by rw [← hl]; exact he))
    have H := Lib.hid ht
    have hem := List.mem_of_getElem? he
    clear ht hl hs hx he
    go_enter Try.func15, Try.ntmps15
    go_wp2_with fail
    refine HC.out.mono ?_
    rintro r w2 ⟨rfl, hb⟩
    have HN := Lib.hid ((H.out.below hb).i e hem).n
    have HB := Lib.hid hb
    clear hb HC H hem
    go_wp2_with fail
    refine (left_any HN.out).mono ?_
    rintro r w3 ⟨rfl, rfl⟩
    go_wp2_with fail
    go_ret
    exact ⟨rfl, HB.out⟩
set_option maxRecDepth 100000 in
theorem tint_any (w : World) : Calls Try.prog 41 #[] w fun e w' => e = .returned (.agg (ftc 1 2)) ∧ Below w.heap.size w w' := by
  have HR : Hid (Row (w.alloc (.cells #[.int .u8 0, .int .u32 0] 56)) w.heap.size 56 (ftc 0 0)) := Row.new w _ _
  go_enter Try.func41, Try.ntmps41
  go_wp2_with (first | (refine wpList_build_is rfl 56 _ rfl (ftc 1 2) (by kernel_rfl) ?_) | (refine wpList_sw (cs := ftc 1 2) rfl _ _ rfl rfl rfl HR.out rfl (ft_ok _ _) ?_))
  exact bodyPost_ret (ret_ag rfl _ rfl (HR.out.setRow _) (ft_ok _ _)) rfl ⟨rfl, below_setRow ((Below.refl _ _).alloc (Nat.le_refl _) _) _ _ (Nat.le_refl _)⟩
set_option maxRecDepth 100000 in
theorem tgrow_nil (w : World) (s n : Int) : Calls Try.prog 24 #[.pointer none, .int .u32 s, .int .u32 n] w fun e w' => e = .returned (.agg (ftc 1 2)) ∧ Below w.heap.size w w' := by
  have HR := row_new0 w
  have HB := bel_new0 w
  go_enter Try.func24, Try.ntmps24
  go_upto_region 1 with fail
  generalize w.alloc (.cells #[.int .u8 0, .int .u32 0] 56) = w1 at *
  go_wp2_with fail
  refine (tint_any _).mono ?_
  rintro e w2 ⟨rfl, hb⟩
  have HR2 := Lib.hid (HR.out.below hb HR.out.lt)
  have HB2 := Lib.hid (HB.out.trans (hb.mono HB.out.size))
  clear hb HR HB
  go_wp2_with (refine wpList_sw (cs := ftc 1 2) rfl _ _ rfl rfl rfl HR2.out (ft_sz _ _ _ _) (ft_ok _ _) ?_)
  exact bodyPost_ret (ret_ag rfl _ rfl (HR2.out.setRow _) (ft_ok _ _)) rfl ⟨rfl, below_setRow HB2.out _ _ (Nat.le_refl _)⟩
set_option maxRecDepth 100000 in
theorem tshift_nil (w : World) (a b : Int) : Calls Try.prog 26 #[.pointer none, .int .u32 a, .int .u32 b] w fun e w' => e = .returned (.agg (ftc 1 2)) ∧ Below w.heap.size w w' := by
  have HR := row_new0 w
  have HB := bel_new0 w
  go_enter Try.func26, Try.ntmps26
  go_upto_region 1 with fail
  generalize w.alloc (.cells #[.int .u8 0, .int .u32 0] 56) = w1 at *
  go_wp2_with fail
  refine (tint_any _).mono ?_
  rintro e w2 ⟨rfl, hb⟩
  have HR2 := Lib.hid (HR.out.below hb HR.out.lt)
  have HB2 := Lib.hid (HB.out.trans (hb.mono HB.out.size))
  clear hb HR HB
  go_wp2_with (refine wpList_sw (cs := ftc 1 2) rfl _ _ rfl rfl rfl HR2.out (ft_sz _ _ _ _) (ft_ok _ _) ?_)
  exact bodyPost_ret (ret_ag rfl _ rfl (HR2.out.setRow _) (ft_ok _ _)) rfl ⟨rfl, below_setRow HB2.out _ _ (Nat.le_refl _)⟩
theorem allN_app (a b : List Sn) : allN (a ++ b) = allN a + allN b := by
  induction a with
  | nil => simp [allN]
  | cons x a ih => rw [List.cons_append, allN, allN, ih]; omega
theorem allN_le {n : Nat} : ∀ {l : List Sn}, (∀ x ∈ l, x.b.length ≤ n) → allN l ≤ l.length * n
  | [], _ => by simp [allN]
  | x :: l, h => by
    have h1 := allN_le fun y hy => h y (List.mem_cons_of_mem _ hy)
    have h2 := h x (List.mem_cons_self ..)
    rw [allN, List.length_cons, Nat.succ_mul]
    omega
theorem allN_take {l : List Sn} {k : Nat} (hk : k < l.length) : allN (l.take (k + 1)) = allN (l.take k) + l[k].b.length := by
  rw [List.take_succ_eq_append_getElem hk, allN_app]
  simp [allN]
set_option maxRecDepth 100000 in
theorem tall_nil (w : World) : Calls Try.prog 16 #[.pointer none] w fun e w' => e = .returned (.int .i64 0) ∧ Below w.heap.size w w' := by
  go_enter Try.func16, Try.ntmps16
  go_wp2_with fail
  go_ret
  exact ⟨rfl, Below.refl _ _⟩
set_option maxRecDepth 100000 in
set_option maxHeartbeats 1000000 in
theorem tall_any (h : Tr w F g m) (hs : m.Sm) : Calls Try.prog 16 #[.pointer (some ⟨g, 0, none⟩)] w fun e w' => e = .returned (.int .i64 (allN m.l)) ∧ Below w.heap.size w w' := by
  obtain ⟨q, A, c, L, hl, ht, rfl⟩ := h
  have hL : m.l.length ≤ 1000 := hs.few
  have hll := map_len hl
  obtain ⟨c0, _, _⟩ := rg_cells ht
  have H := Lib.hid ht
  have HS := Lib.hid hs.b
  have HL := Lib.hid hl
  have hLe : L.length ≤ 1000 := by omega
  generalize hml : m.l = l at *
  clear ht hl hml hs
  go_enter Try.func16, Try.ntmps16
  go_wp2_with fail
  go_loop [3, 13] (fun n i => ∃ k : Nat, k ≤ L.length ∧ i = .int .i64 k ∧ n = .int .i64 (allN (l.take k))) (fun _ i => L.length - (intOf i).toNat)
  case atStart => exact ⟨0, Nat.zero_le _, rfl, rfl⟩
  case round =>
    obtain ⟨k, hk, rfl, rfl⟩ := hrel
    by_cases hlt : k < L.length
    · have hlt' : k < l.length := by omega
      have hxk := List.getElem?_eq_getElem hlt
      obtain ⟨b, o, rfl, hc, hse, _⟩ := H.out.at hxk
      obtain ⟨_, c1, _, _, _⟩ := se_cells hse
      have hst : l[k] = L[k].x := by have := map_at HL.out k; rw [hxk, List.getElem?_eq_getElem hlt'] at this; exact Option.some.inj this
      have hT := allN_take hlt'
      rw [hst] at hT
      have hb1 : L[k].x.b.length ≤ 1000000 := by rw [← hst]; exact HS.out _ (List.getElem_mem _)
      have hb2 : allN (l.take k) ≤ 1000 * 1000000 := by
        have h1 := allN_le (n := 1000000) (l := l.take k) fun x hx => HS.out x (List.mem_of_mem_take hx)
        have h2 : (l.take k).length ≤ 1000 := by rw [List.length_take]; omega
        exact Nat.le_trans h1 (Nat.mul_le_mul_right _ h2)
      have hT2 : Hid (((allN (l.take k) + L[k].x.b.length : Nat) : Int) = allN (l.take (k + 1))) := by rw [hT]; rfl
      have hw : IntKind.i64.wrap ((allN (l.take k) : Int) + (L[k].x.b.length : Int)) = ((allN (l.take k) + L[k].x.b.length : Nat) : Int) := by rw [IntWalk.i64_in _ (by omega)]; omega
      clear hse hst hT hxk
      generalize L[k] = e at *
      generalize hn9 : allN (l.take k) = n9 at *
      go_wp2_with fail
      go_round
      case rel => exact ⟨k + 1, by omega, by go_num, by rw [← hT2.out]; go_num⟩
      case measure => simp [intOf]; omega
    · obtain rfl : k = L.length := by omega
      have hE : Hid (allN (l.take L.length) = allN l) := by show _ = _; rw [List.take_of_length_le (by omega)]
      generalize hn9 : allN (l.take L.length) = n9 at *
      go_wp2_with fail
      go_ret
      rw [hE.out]
      exact ⟨rfl, Below.refl _ _⟩
end
end Go.Proofs.Ytplohgaecoobaaa
