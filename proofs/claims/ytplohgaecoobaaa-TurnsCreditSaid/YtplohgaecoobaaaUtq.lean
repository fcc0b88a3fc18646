/-
  The program's ring: Grow, Shift, by contract. Conditions: the ring lies in memory, few streams; the windows are within their bounds.
-/
import Derived.Test.YtplohgaecoobaaaUtp
namespace Go.Proofs.Ytplohgaecoobaaa
open Go.RowKit Go.WideShapes

theorem tp_win {w w' : World} {F : Nat → Prop} {g q : Nat} {A : Option Addr} {c : Nat} {L : List Se} {m : Rm} {v : Value} {W' : Int} (hl : m.l = L.map (·.x)) (h : TrL w g q A c L m.t m.w) (hF : F = TF g q A c L) (hf : Fs (fun k => k = q) w w') (hr : Row w' q 93 (wnc W' 1)) :
    TP w F g ⟨m.l, m.t, W'⟩ v (.returned v) w' := by
  subst hF
  exact ⟨rfl, _, ⟨q, A, c, L, hl, h.win hf hr, rfl⟩, hf.mono fun b _ hb => .inr (.inl hb), fun k hk => .inl hk⟩
/-- What a call leaves, behind one that changed nothing. -/
theorem TP.after {w w1 w' : World} {F : Nat → Prop} {g : Nat} {m : Rm} {v : Value} {e : Ending} (hb : Below w.heap.size w w1) (h : TP w1 F g m v e w') : TP w F g m v e w' := by
  obtain ⟨h1, F', hT, hF, hN⟩ := h
  exact ⟨h1, F', hT, (Fs.of_below hb).trans hF fun _ _ h => h, fun k hk => by
    rcases hN k hk with h1 | h1
    · exact .inl h1
    · have := hb.size; exact .inr (by omega)⟩
/-- .. and ahead of one. -/
theorem TP.then {w w1 w' : World} {F : Nat → Prop} {g : Nat} {m : Rm} {v v' : Value} {e : Ending} (h : TP w F g m v e w1) (hb : Below w1.heap.size w1 w') : TP w F g m v' (.returned v') w' := by
  obtain ⟨_, F', hT, hF, hN⟩ := h
  exact ⟨rfl, F', hT.keep fun k hk => hb.block k (hT.lts k hk), hF.then_below hb, hN⟩
/-- The result's variable lies in no block of the ring. -/
theorem TP.row {w w' : World} {F : Nat → Prop} {g : Nat} {m : Rm} {v v' : Value} {e : Ending} {p : Nat} (h : TP w F g m v e w') (hp : w.heap.size ≤ p) (hF : ∀ F', Tr w' F' g m → ¬ F' p) (x : Array Value) : TP w F g m v' (.returned v') (w'.setRow p x) := by
  obtain ⟨_, F', hT, hf, hN⟩ := h
  have hno := hF F' hT
  exact ⟨rfl, F', hT.keep fun k hk => setRow_other w' p k x (fun e => hno (e ▸ hk)), hf.setRow (fun h1 => by omega) x, hN⟩
/-- A variable of another type is none of the ring's. -/
theorem Tr.no {w : World} {F : Nat → Prop} {g : Nat} {m : Rm} (h : Tr w F g m) {p : Nat} {T : TypeId} {cs : Array Value} (hr : Row w p T cs) (h1 : T ≠ 71) (h2 : T ≠ 93) (h3 : T ≠ 81) (h4 : T ≠ 84) (h5 : T ≠ 5) : ¬ F p := by
  obtain ⟨q, A, c, L, _, ht, rfl⟩ := h
  rintro (rfl | rfl | hk | ⟨e, he, hk⟩)
  · exact hr.ne_type ht.r h1 rfl
  · exact hr.ne_type ht.n h2 rfl
  · obtain ⟨cur, h6⟩ := OwS.row ht.s hk
    exact hr.ne_type h6 h3 rfl
  · exact (ht.i e he).not hr h4 (.inl h2) h5 hk
theorem SeIn.lf {w w' : World} {e : Se} {l : Int} (h : SeIn w e) (hf : Fs (fun k => k = e.p) w w') (hr : Row w' e.p 93 (wnc l 2)) : SeIn w' (e.upLf l) ∧ Fs e.fp w w' :=
  ⟨⟨hf.row h.sp h.s, hr, hf.owns h.b fun k hk e1 => h.vp (by rw [← show k = e.p from e1]; exact hk)⟩, hf.mono fun k _ hk => .inr (.inl hk)⟩
theorem tdc_0 : tdc 0 = ftc 0 0 := rfl
theorem tdc_1 : tdc 1 = ftc 1 3 := rfl
theorem tdc_2 : tdc 2 = ftc 2 3 := rfl
attribute [local irreducible] sec rgc fd wnc btw tdc ftc
section
variable {w : World} {F : Nat → Prop} {g : Nat} {m : Rm}
set_option maxRecDepth 100000 in
set_option maxHeartbeats 2000000 in
/-- Grow, where a window was found. -/
theorem tgrow_win {s : Nat} {p z : Nat} {l : Int} {n : Nat} {m' : Rm} {sc : Int} (hn : n < 4294967296) (hll : -2147483648 ≤ l ∧ l ≤ 2147483647)
    (hT : Tr w F g m) (hw : ∀ w1, Below w.heap.size w w1 → Calls Try.prog 36 #[.pointer (some ⟨g, 0, none⟩), .int .u32 s] w1 fun r w' => r = .returned (.pointer (some ⟨p, 0, none⟩)) ∧ Below w1.heap.size w1 w')
    (hr : ∀ w1, Below w.heap.size w w1 → Row w1 p 93 (wnc l z))
    (hno : 2147483647 < l + n → m' = m ∧ tdc sc = ftc z 3)
    (hyes : ¬ 2147483647 < l + n → tdc sc = ftc 0 0 ∧ ∀ w1 w2 v, Below w.heap.size w w1 → Fs (fun k => k = p) w1 w2 → Row w2 p 93 (wnc (max (l + n) (-2147483648)) z) → TP w1 F g m' v (.returned v) w2) :
    Calls Try.prog 24 #[.pointer (some ⟨g, 0, none⟩), .int .u32 s, .int .u32 n] w (TP w F g m' (.agg (tdc sc))) := by
  have HR := row_new0 w
  have HB := bel_new0 w
  have HT := Lib.hid hT
  have HW := Lib.hid hw
  have HX := Lib.hid hr
  have HNO := Lib.hid hno
  have HYES := Lib.hid hyes
  clear hT hw hr hno hyes
  go_enter Try.func24, Try.ntmps24
  go_upto_region 1 with fail
  generalize w.alloc (.cells #[.int .u8 0, .int .u32 0] 56) = w1 at *
  go_wp2_with fail
  refine (HW.out _ HB.out).mono ?_
  rintro r w2 ⟨rfl, hb⟩
  have HR2 := Lib.hid (HR.out.below hb HR.out.lt)
  have HB2 := Lib.hid (HB.out.trans (hb.mono HB.out.size))
  clear hb HR HB HW
  have hrow := HX.out w2 HB2.out
  clear HX
  by_cases hg : 2147483647 < l + n
  · obtain ⟨rfl, hd⟩ := HNO.out hg
    have HD := Lib.hid hd
    have HG := Lib.hid (grow_now hrow hll (n := (n : Int)) (by omega) hg)
    clear hrow hg HNO HYES hd
    go_wp2_with fail
    refine HG.out.mono ?_
    rintro r w3 ⟨rfl, hb⟩
    have HR3 := Lib.hid (HR2.out.below hb HR2.out.lt)
    have HB3 := Lib.hid (HB2.out.trans (hb.mono HB2.out.size))
    clear hb HR2 HB2 HG
    go_wp2_with (refine wpList_sw (cs := ftc z 3) rfl _ _ rfl rfl rfl HR3.out (ft_sz _ _ _ _) (ft_ok _ _) ?_)
    exact bodyPost_ret (ret_ag rfl _ rfl (HR3.out.setRow _) (ft_ok _ _)) rfl (by rw [HD.out]; exact tp_same HT.out (below_setRow HB3.out _ _ (Nat.le_refl _)))
  · obtain ⟨hd, hy⟩ := HYES.out (by omega)
    have HD := Lib.hid hd
    have HY := Lib.hid hy
    have HG := Lib.hid (grow_yesw hrow hll (n := (n : Int)) (by omega) hg)
    have hne : w.heap.size ≠ p := HR2.out.ne_type hrow (by decide)
    clear hrow hg HNO HYES hd hy
    go_wp2_with fail
    refine HG.out.mono ?_
    rintro r w3 ⟨rfl, hr3, hf3⟩
    have HP := Lib.hid ((HY.out w2 w3 (.agg (ftc 0 0)) HB2.out hf3 hr3).after HB2.out)
    have HR3 := Lib.hid (hf3.row hne HR2.out)
    clear hr3 hf3 HY HG HR2 HB2
    go_wp2_with (refine wpList_sw (cs := ftc 0 0) rfl _ _ rfl rfl rfl HR3.out (ft_sz _ _ _ _) (ft_ok _ _) ?_)
    exact bodyPost_ret (ret_ag rfl _ rfl (HR3.out.setRow _) (ft_ok _ _)) rfl (by rw [HD.out]; exact HP.out.row (Nat.le_refl _) (fun F' hT => hT.no HR3.out (by decide) (by decide) (by decide) (by decide) (by decide)) _)
set_option maxRecDepth 100000 in
set_option maxHeartbeats 2000000 in
theorem tgrow_any (h : Tr w F g m) (hm : m.Ok) (hs : m.Sm) (s n : Nat) (hn : n < 4294967296) : Calls Try.prog 24 #[.pointer (some ⟨g, 0, none⟩), .int .u32 s, .int .u32 n] w (TP w F g (rmGrow m s n).1 (.agg (tdc (rmGrow m s n).2))) := by
  obtain ⟨q, A, c, L, hml, ht, hF, htl, hL⟩ := h.of hm hs
  unfold rmGrow
  by_cases h0 : s = 0
  · rw [if_pos h0]
    subst h0
    refine tgrow_win (p := q) (z := 1) (l := m.w) hn hm.wn h (fun w1 hb => twof_ring (ht.below hb)) (fun w1 hb => (ht.below hb).n) (fun hg => ?_) (fun hg => ?_)
    · unfold gwN gwS
      rw [if_pos hg, if_pos hg]
      exact ⟨rfl, tdc_1⟩
    · unfold gwN gwS
      rw [if_neg hg, if_neg hg]
      exact ⟨tdc_0, fun w1 w2 v hb hf hr => tp_win hml (ht.below hb) hF hf hr⟩
  · rw [if_neg h0]
    cases hx : m.l[fd s m.l]? with
    | none =>
      have HS := Lib.hid (fun (w' : World) (hb : Below w.heap.size w w') (v : Value) => tp_same (v := v) h hb)
      have HC := Lib.hid (fun w1 (hb : Below w.heap.size w w1) => twof_no (s := s) (ht.below hb) (by omega) h0 (by have h1 := none_of hx; rw [← hml, ← map_len hml]; exact h1))
      have HR := row_new0 w
      have HB := bel_new0 w
      show Calls _ _ _ _ (TP w F g m (.agg (tdc 0)))
      rw [tdc_0]
      clear hx ht hml hs hm h h0 htl
      go_enter Try.func24, Try.ntmps24
      go_upto_region 1 with fail
      generalize w.alloc (.cells #[.int .u8 0, .int .u32 0] 56) = w1 at *
      go_wp2_with fail
      refine (HC.out _ HB.out).mono ?_
      rintro r w2 ⟨rfl, hb⟩
      have HR2 := Lib.hid (HR.out.below hb HR.out.lt)
      have HB2 := Lib.hid (HB.out.trans (hb.mono HB.out.size))
      clear hb HR HB HC
      go_wp2_with (first | (refine wpList_build_is rfl 56 _ rfl (ftc 0 0) (by kernel_rfl) ?_) | (refine wpList_sw (cs := ftc 0 0) rfl _ _ rfl rfl rfl HR2.out (ft_sz _ _ _ _) (ft_ok _ _) ?_))
      exact bodyPost_ret (ret_ag rfl _ rfl (HR2.out.setRow _) (ft_ok _ _)) rfl (HS.out _ (below_setRow HB2.out _ _ (Nat.le_refl _)) _)
    | some x =>
      obtain ⟨e, he, rfl⟩ := se_of hml hx
      have hem := List.mem_of_getElem? he
      have hlf := hm.lf e.x (List.mem_of_getElem? hx)
      have hset : ∀ w1, Below w.heap.size w w1 → SeIn w1 e := fun w1 hb => (ht.below hb).i e hem
      dsimp only
      refine tgrow_win (p := e.p) (z := 2) (l := e.x.lf) hn hlf h (fun w1 hb => twof_yes (ht.below hb) (by omega) h0 (by rw [← hml]; exact he)) (fun w1 hb => (hset w1 hb).n) (fun hg => ?_) (fun hg => ?_)
      · unfold gwN gwS
        rw [if_pos hg, if_pos hg]
        refine ⟨?_, tdc_2⟩
        have : m.l.set (fd s m.l) e.x = m.l := by
          obtain ⟨h1, h2⟩ := List.getElem?_eq_some_iff.1 hx
          conv => lhs; rw [← h2]
          exact List.set_getElem_self h1
        show (⟨m.l.set (fd s m.l) e.x, m.t, m.w⟩ : Rm) = m
        rw [this]
      · unfold gwN gwS
        rw [if_neg hg, if_neg hg]
        refine ⟨tdc_0, fun w1 w2 v hb hf hr => ?_⟩
        obtain ⟨h1, h2⟩ := (hset w1 hb).lf hf hr
        exact tp_upd hml (ht.below hb) hF he h2 h1 rfl (fun k hk => .inl hk) rfl
end
end Go.Proofs.Ytplohgaecoobaaa
