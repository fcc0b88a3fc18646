/-
  The document's answers for frames: Get, by its contract. Conditions: at most 20000000 bytes.
-/
import Derived.Test.YtnjnepploockiaaDoorRpt
namespace Go.Proofs.YtnjnepploockiaaDoor
open Go.RowKit Go.WideShapes

theorem rd_long {ty fl st : Nat} {s : List UInt8} (h : 16384 < s.length) : readN ty fl st s = (hdN ty fl st, 1, 6) := if_pos h
theorem rd_wrong {ty fl st : Nat} {s : List UInt8} (h : ¬ 16384 < s.length) (h2 : wrongB ty st = true) : readN ty fl st s = (hdN ty fl st, 1, 1) := by unfold readN; rw [if_neg h, if_pos h2]
theorem rd_pad {ty fl st c : Nat} {s : List UInt8} (h : ¬ 16384 < s.length) (h2 : wrongB ty st = false) (h3 : padN ty fl s = .error c) : readN ty fl st s = (hdN ty fl st, 1, c) := by unfold readN; rw [if_neg h, if_neg (by rw [h2]; simp), h3]
theorem rd_len {ty fl st : Nat} {s r : List UInt8} {p : Int} (h : ¬ 16384 < s.length) (h2 : wrongB ty st = false) (h3 : padN ty fl s = .ok (p, r)) (h4 : lenB ty fl r.length = false) : readN ty fl st s = (hdN ty fl st, if ty = 2 then 2 else 1, 6) := by
  unfold readN
  rw [if_neg h, if_neg (by rw [h2]; simp), h3]
  simp only
  rw [if_pos h4]
theorem rd_ok {ty fl st : Nat} {s r : List UInt8} {p : Int} (h : ¬ 16384 < s.length) (h2 : wrongB ty st = false) (h3 : padN ty fl s = .ok (p, r)) (h4 : lenB ty fl r.length = true) (h5 : growN ty st (bodyN ty fl st p r).win = 0) : readN ty fl st s = (bodyN ty fl st p r, 0, 0) := by
  unfold readN
  rw [if_neg h, if_neg (by rw [h2]; simp), h3]
  simp only
  rw [if_neg (by rw [h4]; simp), if_pos h5]
theorem rd_grow {ty fl st : Nat} {s r : List UInt8} {p : Int} (h : ¬ 16384 < s.length) (h2 : wrongB ty st = false) (h3 : padN ty fl s = .ok (p, r)) (h4 : lenB ty fl r.length = true) (h5 : growN ty st (bodyN ty fl st p r).win ≠ 0) : readN ty fl st s = (hdN ty fl st, growN ty st (bodyN ty fl st p r).win, 1) := by
  unfold readN
  rw [if_neg h, if_neg (by rw [h2]; simp), h3]
  simp only
  rw [if_neg (by rw [h4]; simp), if_neg h5]
theorem body_tfs (ty fl st : Nat) (p : Int) (s : List UInt8) : (bodyN ty fl st p s).ty = ty ∧ (bodyN ty fl st p s).fl = fl ∧ (bodyN ty fl st p s).st = st ∧ (bodyN ty fl st p s).pad = p := by
  unfold bodyN
  repeat' split
  all_goals exact ⟨rfl, rfl, rfl, rfl⟩
/-- What Get leaves. -/
def RGetPost (w : World) (r : Frm × Nat × Nat) (e : Ending) (w' : World) : Prop :=
  ∃ x : Fm, e = .returned (.agg (fxc x r.2.1 r.2.2)) ∧ FmR w' w.heap.size x r.1 ∧ Below w.heap.size w w'
theorem up3 (l : List UInt8) (h : 3 ≤ l.length) (W : World) : (Instr.slice 9 (.string (tb l)) none (some (.int .i64 3)) none).run Tryd.prog W = .ok (.string (tb (l.take 3))) W := tb_upto l 3 (by omega) (by omega) W
theorem from9 (l : List UInt8) (h : 9 ≤ l.length) (W : World) : (Instr.slice 9 (.string (tb l)) (some (.int .i64 9)) none none).run Tryd.prog W = .ok (.string (tb (l.drop 9))) W := tb_from l 9 (by omega) (by omega) W
theorem cut59 (l : List UInt8) (h : 9 ≤ l.length) (W : World) : (Instr.slice 9 (.string (tb l)) (some (.int .i64 5)) (some (.int .i64 9)) none).run Tryd.prog W = .ok (.string (tb ((l.drop 5).take 4))) W := tb_cut l 5 9 (by omega) (by omega) (by omega) W
theorem at3 (l : List UInt8) (h : 9 ≤ l.length) (W : World) : (Instr.index 9 (.string (tb l)) (.int .i64 3)).run Tryd.prog W = .ok (.int .u8 ((l.getD 3 0).toNat : Int)) W := by
  have := tb_at l 3 (by omega) W
  rwa [show l[3] = l.getD 3 0 by rw [List.getD_eq_getElem?_getD, List.getElem?_eq_getElem (by omega)]; rfl] at this
theorem at4' (l : List UInt8) (h : 9 ≤ l.length) (W : World) : (Instr.index 9 (.string (tb l)) (.int .i64 4)).run Tryd.prog W = .ok (.int .u8 ((l.getD 4 0).toNat : Int)) W := by
  have := tb_at l 4 (by omega) W
  rwa [show l[4] = l.getD 4 0 by rw [List.getD_eq_getElem?_getD, List.getElem?_eq_getElem (by omega)]; rfl] at this
theorem at0 (b : UInt8) (l : List UInt8) (W : World) : (Instr.index 9 (.string (tb (b :: l))) (.int .i64 0)).run Tryd.prog W = .ok (.int .u8 (b.toNat : Int)) W := tb_at (b :: l) 0 (by simp) W
theorem fxm1 : fxc (fm0 0 0 0 (-1)) 0 0 = #[.int .u8 0, .int .u8 0, .int .u32 0, .slice none 0 0, .int .i64 (-1), .int .u32 0, .int .u32 0, .int .u8 0, .bool false, .int .u32 0, .slice none 0 0, .int .u8 0, .int .u32 0] := by unfold fxc; rfl
theorem built7 (x : Fm) : Tryd.prog.built 47 [(0, .agg x.c)] = some (fxc x 0 0) := by unfold Fm.c fxc; kernel_rfl
attribute [local irreducible] Fm.c fxc enl
set_option maxRecDepth 100000 in
set_option maxHeartbeats 32000000 in
theorem rget_any {l : List UInt8} (hl : l.length ≤ 20000000) (w : World) : Calls Tryd.prog 18 #[.string (tb l)] w (RGetPost w (getN l)) := by
  have HS : Hid (w.heap.size + 2 ≤ ((w.alloc (.cells #[.int .u8 0, .int .u8 0, .int .u32 0, .slice none 0 0, .int .i64 0, .int .u32 0, .int .u32 0, .int .u8 0, .bool false, .int .u32 0, .slice none 0 0, .int .u8 0, .int .u32 0] 47)).alloc (.cells #[.int .u8 0, .int .u8 0, .int .u32 0, .slice none 0 0, .int .i64 0, .int .u32 0, .int .u32 0, .int .u8 0, .bool false, .int .u32 0, .slice none 0 0, .int .u8 0, .int .u32 0] 47)).heap.size) := by show _ ≤ _; simp
  have HZ : Hid (Row ((w.alloc (.cells #[.int .u8 0, .int .u8 0, .int .u32 0, .slice none 0 0, .int .i64 0, .int .u32 0, .int .u32 0, .int .u8 0, .bool false, .int .u32 0, .slice none 0 0, .int .u8 0, .int .u32 0] 47)).alloc (.cells #[.int .u8 0, .int .u8 0, .int .u32 0, .slice none 0 0, .int .i64 0, .int .u32 0, .int .u32 0, .int .u8 0, .bool false, .int .u32 0, .slice none 0 0, .int .u8 0, .int .u32 0] 47)) w.heap.size 47 (fxc (fm0 0 0 0 0) 0 0)) := by show Row _ _ _ _; rw [fxz]; exact (Row.new w _ _).alloc _
  have HN0 : Hid (Row ((w.alloc (.cells #[.int .u8 0, .int .u8 0, .int .u32 0, .slice none 0 0, .int .i64 0, .int .u32 0, .int .u32 0, .int .u8 0, .bool false, .int .u32 0, .slice none 0 0, .int .u8 0, .int .u32 0] 47)).alloc (.cells #[.int .u8 0, .int .u8 0, .int .u32 0, .slice none 0 0, .int .i64 0, .int .u32 0, .int .u32 0, .int .u8 0, .bool false, .int .u32 0, .slice none 0 0, .int .u8 0, .int .u32 0] 47)) (w.heap.size + 1) 47 (fxc (fm0 0 0 0 0) 0 0)) := by show Row _ _ _ _; rw [fxz]; exact Row.made _ _ _ (by simp)
  have HB : Hid (Below w.heap.size w ((w.alloc (.cells #[.int .u8 0, .int .u8 0, .int .u32 0, .slice none 0 0, .int .i64 0, .int .u32 0, .int .u32 0, .int .u8 0, .bool false, .int .u32 0, .slice none 0 0, .int .u8 0, .int .u32 0] 47)).alloc (.cells #[.int .u8 0, .int .u8 0, .int .u32 0, .slice none 0 0, .int .i64 0, .int .u32 0, .int .u32 0, .int .u8 0, .bool false, .int .u32 0, .slice none 0 0, .int .u8 0, .int .u32 0] 47))) := ((Below.refl _ _).alloc (Nat.le_refl _) _).alloc (by simp) _
  have hsz := tb_size l
  go_enter Tryd.func18, Tryd.ntmps18
  go_upto_region 2 with (refine wpList_sfx (x := fm0 0 0 0 (-1)) (s := 0) (c := 0) rfl _ _ rfl rfl (by rw [fxm1]; rfl) HN0.out ?_)
  have HN1 := Lib.hid (HN0.out.setRow (fxc (fm0 0 0 0 (-1)) 0 0))
  have HZ1 := Lib.hid (HZ.out.setRow' (k := w.heap.size + 1) (by omega) (fxc (fm0 0 0 0 (-1)) 0 0))
  have HB1 := Lib.hid (below_setRow HB.out (w.heap.size + 1) (fxc (fm0 0 0 0 (-1)) 0 0) (by omega))
  have HS1 : Hid (w.heap.size + 2 ≤ (((w.alloc (.cells #[.int .u8 0, .int .u8 0, .int .u32 0, .slice none 0 0, .int .i64 0, .int .u32 0, .int .u32 0, .int .u8 0, .bool false, .int .u32 0, .slice none 0 0, .int .u8 0, .int .u32 0] 47)).alloc (.cells #[.int .u8 0, .int .u8 0, .int .u32 0, .slice none 0 0, .int .i64 0, .int .u32 0, .int .u32 0, .int .u8 0, .bool false, .int .u32 0, .slice none 0 0, .int .u8 0, .int .u32 0] 47)).setRow (w.heap.size + 1) (fxc (fm0 0 0 0 (-1)) 0 0)).heap.size) := by show _ ≤ _; simp
  clear HN0 HZ HB HS
  generalize ((w.alloc (.cells #[.int .u8 0, .int .u8 0, .int .u32 0, .slice none 0 0, .int .i64 0, .int .u32 0, .int .u32 0, .int .u8 0, .bool false, .int .u32 0, .slice none 0 0, .int .u8 0, .int .u32 0] 47)).alloc (.cells #[.int .u8 0, .int .u8 0, .int .u32 0, .slice none 0 0, .int .i64 0, .int .u32 0, .int .u32 0, .int .u8 0, .bool false, .int .u32 0, .slice none 0 0, .int .u8 0, .int .u32 0] 47)).setRow (w.heap.size + 1) (fxc (fm0 0 0 0 (-1)) 0 0) = w1 at *
  by_cases h9 : l.length < 9
  · have hE : getN l = (hdN 0 0 0, 1, 6) := if_pos (.inl h9)
    have h9' : (l.length : Int) < 9 := by omega
    go_wp2_with (refine wpList_fx rfl _ rfl rfl HN1.out ?_)
    refine (rfails_any (fm0 0 0 0 (-1)) 1 6 _).mono ?_
    rintro e wf ⟨rfl, hbf⟩
    have HZf := Lib.hid (HZ1.out.below hbf HZ1.out.lt)
    have HBf := Lib.hid (HB1.out.trans (hbf.mono HB1.out.size))
    clear hbf HZ1 HB1
    go_wp2_with (refine wpList_sfx rfl _ _ rfl rfl rfl HZf.out ?_)
    refine bodyPost_ret (ret_fx rfl _ _ w.heap.size (fm0 0 0 0 (-1)) 1 6 rfl (HZf.out.setRow _)) rfl ?_
    rw [hE]
    exact ⟨_, rfl, FmR.hd _ _ 0 0 0, below_setRow HBf.out _ _ (Nat.le_refl _)⟩

  have h9' : ¬ (l.length : Int) < 9 := by omega
  have hup := up3 l (by omega)
  have hv3 := fun W => rvalue_any (l.take 3) (by rw [List.length_take]; omega) W
  have hv3b : valL (l.take 3) < 256 ^ 3 := valL_lt' (by rw [List.length_take]; omega)
  have hb1 : (valL (l.take 3) : Int) ≤ 16777216 := by omega
  have hb2 : (l.length : Int) ≤ 20000000 := by omega
  have hw3 : IntKind.i64.wrap (valL (l.take 3) : Int) = (valL (l.take 3) : Int) := IntWalk.i64_in _ (by omega)
  by_cases hn : l.length = 9 + valL (l.take 3)
  rotate_left
  · have hE : getN l = (hdN 0 0 0, 1, 6) := if_pos (.inr hn)
    have hn' : ((l.length : Int) - 9 == (valL (l.take 3) : Int)) = false := beq_eq_false_iff_ne.2 (by omega)
    generalize valL (l.take 3) = v3 at *
    generalize l.take 3 = l3 at *
    go_wp2_with fail
    refine (hv3 _).mono ?_
    rintro e w1' ⟨rfl, rfl⟩
    go_wp2_with (refine wpList_fx rfl _ rfl rfl HN1.out ?_)
    refine (rfails_any (fm0 0 0 0 (-1)) 1 6 _).mono ?_
    rintro e wf ⟨rfl, hbf⟩
    have HZf := Lib.hid (HZ1.out.below hbf HZ1.out.lt)
    have HBf := Lib.hid (HB1.out.trans (hbf.mono HB1.out.size))
    clear hbf HZ1 HB1
    go_wp2_with (refine wpList_sfx rfl _ _ rfl rfl rfl HZf.out ?_)
    refine bodyPost_ret (ret_fx rfl _ _ w.heap.size (fm0 0 0 0 (-1)) 1 6 rfl (HZf.out.setRow _)) rfl ?_
    rw [hE]
    exact ⟨_, rfl, FmR.hd _ _ 0 0 0, below_setRow HBf.out _ _ (Nat.le_refl _)⟩

  have hn' : ((l.length : Int) - 9 == (valL (l.take 3) : Int)) = true := beq_iff_eq.2 (by omega)
  obtain ⟨ty, hty⟩ : ∃ ty, ty = (l.getD 3 0).toNat := ⟨_, rfl⟩
  obtain ⟨fl, hfl⟩ : ∃ fl, fl = (l.getD 4 0).toNat := ⟨_, rfl⟩
  obtain ⟨vs, hvs⟩ : ∃ vs, vs = valL ((l.drop 5).take 4) := ⟨_, rfl⟩
  have hE : getN l = readN ty fl (vs % 2147483648) (l.drop 9) := by rw [hty, hfl, hvs]; exact if_neg (by omega)
  have HG := Lib.hid hE
  have hf : fl < 256 := by rw [hfl]; exact (l.getD 4 0).toNat_lt
  have ht256 : ty < 256 := by rw [hty]; exact (l.getD 3 0).toNat_lt
  have ha3 := at3 l (by omega)
  have ha4 := at4' l (by omega)
  rw [← hty] at ha3
  rw [← hfl] at ha4
  have hc59 := cut59 l (by omega)
  have hfr9 := from9 l (by omega)
  have hv4 := fun W => rvalue_any ((l.drop 5).take 4) (by rw [List.length_take]; omega) W
  have hv4b := head4 (l.drop 5)
  rw [← hvs] at hv4 hv4b
  have hlo := fun W => rlow_any vs hv4b W
  generalize valL (l.take 3) = v3 at *
  generalize l.take 3 = l3 at *
  generalize vs % 2147483648 = st at *
  generalize (l.drop 5).take 4 = l4 at *
  have hsl0 : (l.drop 9).length ≤ 20000000 := by rw [List.length_drop]; omega
  have h39 : (3 : Int) < (l.length : Int) ∧ (4 : Int) < (l.length : Int) := by omega
  obtain ⟨h3l, h4l⟩ := h39
  generalize l.drop 9 = s at *
  clear hty hfl hvs hE hn
  go_wp2_with fail
  refine (hv3 _).mono ?_
  rintro e w1' ⟨rfl, rfl⟩
  clear hv3 hup
  go_upto_region 4 with fail
  go_cut [4] (fun v wx => ∃ k, v = .pointer (some ⟨k, 0, none⟩) ∧ Hid (w.heap.size + 2 ≤ k) ∧ Hid (Row wx k 36 (fm0 ty fl st (-1)).c) ∧ Hid (Below w1.heap.size w1 wx))
  case first =>
    refine wp_region_held_drew (S := fun _ => True) (by kernel_rfl) trivial (fun hHeld => ?_)
    have HBd : Hid (Below w1.heap.size w1 w1.drew) := (Below.refl _ _).drew
    have HS3 : Hid (w.heap.size + 2 ≤ w1.drew.heap.size ∧ w1.heap.size ≤ w1.drew.heap.size) := ⟨HS1.out, Nat.le_refl _⟩
    clear HN1 HZ1 HB1 HS1
    generalize w1.drew = w3 at *
    refine wpAnyH_take (i := 0) (v := ?v0) rfl (by kernel_rfl) (by kernel_rfl) (by kernel_rfl) (fun _ _ _ h => h) (Or.inl ⟨by rfl, ?hy0⟩) (by assumption) ?rest0
    case hy0 => (intro w hSw; (try dsimp only at hSw); go_simp <;> with_reducible rfl)
    try simp only [Act.put, List.getElem_toArray, List.getElem_cons_zero, List.setIfInBounds_toArray, List.set_cons_zero, List.set_cons_succ]
    refine wpAnyH_take (i := 1) (v := ?v1) rfl (by kernel_rfl) (by kernel_rfl) (by kernel_rfl) (fun _ _ _ h => h) (Or.inl ⟨by rfl, ?hy1⟩) (by assumption) ?rest1
    case hy1 => (intro w hSw; (try dsimp only at hSw); go_simp <;> with_reducible rfl)
    try simp only [Act.put, List.getElem_toArray, List.getElem_cons_zero, List.getElem_cons_succ, List.setIfInBounds_toArray, List.set_cons_zero, List.set_cons_succ]
    refine wpAnyH_take (i := 2) (v := ?v2) rfl (by kernel_rfl) (by kernel_rfl) (by kernel_rfl) (fun _ _ _ h => h) (Or.inl ⟨by rfl, ?hy2⟩) (by assumption) ?rest2
    case hy2 => (intro w hSw; (try dsimp only at hSw); go_simp <;> with_reducible rfl)
    try simp only [Act.put, List.getElem_toArray, List.getElem_cons_zero, List.getElem_cons_succ, List.setIfInBounds_toArray, List.set_cons_zero, List.set_cons_succ]
    refine wpAnyH_take (i := 3) (v := ?v3) rfl (by kernel_rfl) (by kernel_rfl) (by kernel_rfl) (fun _ _ _ h => h) (Or.inl ⟨by rfl, ?hy3⟩) (by assumption) ?rest3
    case hy3 => (intro w hSw; (try dsimp only at hSw); go_simp <;> with_reducible rfl)
    try simp only [Act.put, List.getElem_toArray, List.getElem_cons_zero, List.getElem_cons_succ, List.setIfInBounds_toArray, List.set_cons_zero, List.set_cons_succ]
    refine wpAnyH_take (i := 4) (v := ?v4) rfl (by kernel_rfl) (by kernel_rfl) (by kernel_rfl) (fun _ _ _ h => h) (Or.inl ⟨by rfl, ?hy4⟩) (by assumption) ?rest4
    case hy4 => (intro w hSw; (try dsimp only at hSw); go_simp <;> with_reducible rfl)
    try simp only [Act.put, List.getElem_toArray, List.getElem_cons_zero, List.getElem_cons_succ, List.setIfInBounds_toArray, List.set_cons_zero, List.set_cons_succ]
    refine wpAnyH_take (i := 5) (v := ?v5) rfl (by kernel_rfl) (by kernel_rfl) (by kernel_rfl) (fun _ _ _ h => h) (Or.inl ⟨by rfl, ?hy5⟩) (by assumption) ?rest5
    case hy5 => (intro w hSw; (try dsimp only at hSw); go_simp <;> with_reducible rfl)
    try simp only [Act.put, List.getElem_toArray, List.getElem_cons_zero, List.getElem_cons_succ, List.setIfInBounds_toArray, List.set_cons_zero, List.set_cons_succ]
    refine wpAnyH_ready (rs := [6, 9]) (by kernel_rfl) (by simp) ?_
    refine AllReadyH.cons rfl (fun K hK => ?_) (AllReadyH.cons rfl (fun K hK => ?_) AllReadyH.nil)
    · go_simp
      go_at_call 23
      refine (hv4 _).mono ?_
      rintro e w9 ⟨rfl, rfl⟩
      refine hK.out _ _ trivial (fun hHeld => ?_)
      clear hK K
      try simp only [Act.put, List.getElem_toArray, List.getElem_cons_zero, List.getElem_cons_succ, List.setIfInBounds_toArray, List.set_cons_zero, List.set_cons_succ]
      refine wpAnyH_ready (rs := [7, 9]) (by kernel_rfl) (by simp) ?_
      refine AllReadyH.cons rfl (fun K hK => ?_) (AllReadyH.cons rfl (fun K hK => ?_) AllReadyH.nil)
      · go_simp
        go_at_call 32
        refine (hlo _).mono ?_
        rintro e w9 ⟨rfl, rfl⟩
        refine hK.out _ _ trivial (fun hHeld => ?_)
        clear hK K
        try simp only [Act.put, List.getElem_toArray, List.getElem_cons_zero, List.getElem_cons_succ, List.setIfInBounds_toArray, List.set_cons_zero, List.set_cons_succ]
        refine wpAnyH_take (i := 8) (v := ?v8q1) rfl (by kernel_rfl) (by kernel_rfl) (by kernel_rfl) (fun _ _ _ h => h) (Or.inl ⟨by rfl, ?hy8q1⟩) (by assumption) ?rest8q1
        case hy8q1 => (intro w hSw; (try dsimp only at hSw); go_simp <;> with_reducible rfl)
        try simp only [Act.put, List.getElem_toArray, List.getElem_cons_zero, List.getElem_cons_succ, List.setIfInBounds_toArray, List.set_cons_zero, List.set_cons_succ]
        refine wpAnyH_ready (rs := [9]) (by kernel_rfl) (by simp) ?_
        refine AllReadyH.cons rfl (fun K hK => ?_) AllReadyH.nil
        go_simp
        have HR4 : Hid (Row (w3.alloc (.cells #[.int .u8 0, .int .u8 0, .int .u32 0, .slice none 0 0, .int .i64 0, .int .u32 0, .int .u32 0, .int .u8 0, .bool false, .int .u32 0, .slice none 0 0] 36)) w3.heap.size 36 (fm0 0 0 0 0).c) := by show Row _ _ _ _; rw [z_c]; exact Row.made _ _ _ rfl
        have HB4 := Lib.hid (HBd.out.alloc HS3.out.2 (.cells #[.int .u8 0, .int .u8 0, .int .u32 0, .slice none 0 0, .int .i64 0, .int .u32 0, .int .u32 0, .int .u8 0, .bool false, .int .u32 0, .slice none 0 0] 36))
        refine hK.out _ _ trivial (fun hHeld => ?_)
        clear hK K
        generalize w3.alloc (.cells #[.int .u8 0, .int .u8 0, .int .u32 0, .slice none 0 0, .int .i64 0, .int .u32 0, .int .u32 0, .int .u8 0, .bool false, .int .u32 0, .slice none 0 0] 36) = w4 at *
        try simp only [Act.put, List.getElem_toArray, List.getElem_cons_zero, List.getElem_cons_succ, List.setIfInBounds_toArray, List.set_cons_zero, List.set_cons_succ]
        refine wpAnyH_ready (rs := [10]) (by kernel_rfl) (by simp) ?_
        refine AllReadyH.cons rfl (fun K hK => ?_) AllReadyH.nil
        refine step_sfm (x := fm0 ty fl st (-1)) (y := fm0 0 0 0 0) rfl (.tmp 4) (.tmp 32) rfl rfl (by rw [hd_c]; rfl) HR4.out ?_
        refine hK.out _ _ trivial (fun hHeld => ?_)
        clear hK K
        try simp only [Act.put, List.getElem_toArray, List.getElem_cons_zero, List.getElem_cons_succ]
        refine wpAnyH_done (by kernel_rfl) ?_ _
        go_wp2_with fail
        go_meet
        exact ⟨w3.heap.size, rfl, HS3.out.1, HR4.out.setRow _, below_setRow HB4.out _ _ HS3.out.2⟩
      · go_simp
        have HR4 : Hid (Row (w3.alloc (.cells #[.int .u8 0, .int .u8 0, .int .u32 0, .slice none 0 0, .int .i64 0, .int .u32 0, .int .u32 0, .int .u8 0, .bool false, .int .u32 0, .slice none 0 0] 36)) w3.heap.size 36 (fm0 0 0 0 0).c) := by show Row _ _ _ _; rw [z_c]; exact Row.made _ _ _ rfl
        have HB4 := Lib.hid (HBd.out.alloc HS3.out.2 (.cells #[.int .u8 0, .int .u8 0, .int .u32 0, .slice none 0 0, .int .i64 0, .int .u32 0, .int .u32 0, .int .u8 0, .bool false, .int .u32 0, .slice none 0 0] 36))
        refine hK.out _ _ trivial (fun hHeld => ?_)
        clear hK K
        generalize w3.alloc (.cells #[.int .u8 0, .int .u8 0, .int .u32 0, .slice none 0 0, .int .i64 0, .int .u32 0, .int .u32 0, .int .u8 0, .bool false, .int .u32 0, .slice none 0 0] 36) = w4 at *
        try simp only [Act.put, List.getElem_toArray, List.getElem_cons_zero, List.getElem_cons_succ, List.setIfInBounds_toArray, List.set_cons_zero, List.set_cons_succ]
        refine wpAnyH_ready (rs := [7]) (by kernel_rfl) (by simp) ?_
        refine AllReadyH.cons rfl (fun K hK => ?_) AllReadyH.nil
        go_simp
        go_at_call 32
        refine (hlo _).mono ?_
        rintro e w9 ⟨rfl, rfl⟩
        refine hK.out _ _ trivial (fun hHeld => ?_)
        clear hK K
        try simp only [Act.put, List.getElem_toArray, List.getElem_cons_zero, List.getElem_cons_succ, List.setIfInBounds_toArray, List.set_cons_zero, List.set_cons_succ]
        refine wpAnyH_take (i := 8) (v := ?v8q2) rfl (by kernel_rfl) (by kernel_rfl) (by kernel_rfl) (fun _ _ _ h => h) (Or.inl ⟨by rfl, ?hy8q2⟩) (by assumption) ?rest8q2
        case hy8q2 => (intro w hSw; (try dsimp only at hSw); go_simp <;> with_reducible rfl)
        try simp only [Act.put, List.getElem_toArray, List.getElem_cons_zero, List.getElem_cons_succ, List.setIfInBounds_toArray, List.set_cons_zero, List.set_cons_succ]
        refine wpAnyH_ready (rs := [10]) (by kernel_rfl) (by simp) ?_
        refine AllReadyH.cons rfl (fun K hK => ?_) AllReadyH.nil
        refine step_sfm (x := fm0 ty fl st (-1)) (y := fm0 0 0 0 0) rfl (.tmp 4) (.tmp 32) rfl rfl (by rw [hd_c]; rfl) HR4.out ?_
        refine hK.out _ _ trivial (fun hHeld => ?_)
        clear hK K
        try simp only [Act.put, List.getElem_toArray, List.getElem_cons_zero, List.getElem_cons_succ]
        refine wpAnyH_done (by kernel_rfl) ?_ _
        go_wp2_with fail
        go_meet
        exact ⟨w3.heap.size, rfl, HS3.out.1, HR4.out.setRow _, below_setRow HB4.out _ _ HS3.out.2⟩
    · go_simp
      have HR4 : Hid (Row (w3.alloc (.cells #[.int .u8 0, .int .u8 0, .int .u32 0, .slice none 0 0, .int .i64 0, .int .u32 0, .int .u32 0, .int .u8 0, .bool false, .int .u32 0, .slice none 0 0] 36)) w3.heap.size 36 (fm0 0 0 0 0).c) := by show Row _ _ _ _; rw [z_c]; exact Row.made _ _ _ rfl
      have HB4 := Lib.hid (HBd.out.alloc HS3.out.2 (.cells #[.int .u8 0, .int .u8 0, .int .u32 0, .slice none 0 0, .int .i64 0, .int .u32 0, .int .u32 0, .int .u8 0, .bool false, .int .u32 0, .slice none 0 0] 36))
      refine hK.out _ _ trivial (fun hHeld => ?_)
      clear hK K
      generalize w3.alloc (.cells #[.int .u8 0, .int .u8 0, .int .u32 0, .slice none 0 0, .int .i64 0, .int .u32 0, .int .u32 0, .int .u8 0, .bool false, .int .u32 0, .slice none 0 0] 36) = w4 at *
      try simp only [Act.put, List.getElem_toArray, List.getElem_cons_zero, List.getElem_cons_succ, List.setIfInBounds_toArray, List.set_cons_zero, List.set_cons_succ]
      refine wpAnyH_ready (rs := [6]) (by kernel_rfl) (by simp) ?_
      refine AllReadyH.cons rfl (fun K hK => ?_) AllReadyH.nil
      go_simp
      go_at_call 23
      refine (hv4 _).mono ?_
      rintro e w9 ⟨rfl, rfl⟩
      refine hK.out _ _ trivial (fun hHeld => ?_)
      clear hK K
      try simp only [Act.put, List.getElem_toArray, List.getElem_cons_zero, List.getElem_cons_succ, List.setIfInBounds_toArray, List.set_cons_zero, List.set_cons_succ]
      refine wpAnyH_ready (rs := [7]) (by kernel_rfl) (by simp) ?_
      refine AllReadyH.cons rfl (fun K hK => ?_) AllReadyH.nil
      go_simp
      go_at_call 32
      refine (hlo _).mono ?_
      rintro e w9 ⟨rfl, rfl⟩
      refine hK.out _ _ trivial (fun hHeld => ?_)
      clear hK K
      try simp only [Act.put, List.getElem_toArray, List.getElem_cons_zero, List.getElem_cons_succ, List.setIfInBounds_toArray, List.set_cons_zero, List.set_cons_succ]
      refine wpAnyH_take (i := 8) (v := ?v8q3) rfl (by kernel_rfl) (by kernel_rfl) (by kernel_rfl) (fun _ _ _ h => h) (Or.inl ⟨by rfl, ?hy8q3⟩) (by assumption) ?rest8q3
      case hy8q3 => (intro w hSw; (try dsimp only at hSw); go_simp <;> with_reducible rfl)
      try simp only [Act.put, List.getElem_toArray, List.getElem_cons_zero, List.getElem_cons_succ, List.setIfInBounds_toArray, List.set_cons_zero, List.set_cons_succ]
      refine wpAnyH_ready (rs := [10]) (by kernel_rfl) (by simp) ?_
      refine AllReadyH.cons rfl (fun K hK => ?_) AllReadyH.nil
      refine step_sfm (x := fm0 ty fl st (-1)) (y := fm0 0 0 0 0) rfl (.tmp 4) (.tmp 32) rfl rfl (by rw [hd_c]; rfl) HR4.out ?_
      refine hK.out _ _ trivial (fun hHeld => ?_)
      clear hK K
      try simp only [Act.put, List.getElem_toArray, List.getElem_cons_zero, List.getElem_cons_succ]
      refine wpAnyH_done (by kernel_rfl) ?_ _
      go_wp2_with fail
      go_meet
      exact ⟨w3.heap.size, rfl, HS3.out.1, HR4.out.setRow _, below_setRow HB4.out _ _ HS3.out.2⟩
  case rest =>
    obtain ⟨k, rfl, hk, HF2, HBc⟩ := hcut
    have HN2 := Lib.hid (HN1.out.below HBc.out HN1.out.lt)
    have HZ2 := Lib.hid (HZ1.out.below HBc.out HZ1.out.lt)
    have HB2 := Lib.hid (HB1.out.trans (HBc.out.mono HB1.out.size))
    clear HN1 HZ1 HB1 HS1 HBc hv4 hlo hc59 ha3 ha4
    generalize wc = w2 at *
    have hkk := hk.out
    go_upto_region 6 with (first | (refine wpList_fm rfl _ rfl rfl HF2.out ?_) | (refine wpList_sfh (x := fm0 ty fl st (-1)) rfl _ _ rfl rfl rfl HN2.out ?_))
    have HN3 := Lib.hid (HN2.out.setRow (fxc (fm0 ty fl st (-1)) 0 0))
    have HZ3 := Lib.hid (HZ2.out.setRow' (k := w.heap.size + 1) (by omega) (fxc (fm0 ty fl st (-1)) 0 0))
    have HF3 := Lib.hid (HF2.out.setRow' (k := w.heap.size + 1) (by omega) (fxc (fm0 ty fl st (-1)) 0 0))
    have HB3 := Lib.hid (below_setRow HB2.out (w.heap.size + 1) (fxc (fm0 ty fl st (-1)) 0 0) (by omega))
    clear HN2 HZ2 HF2 HB2
    generalize w2.setRow (w.heap.size + 1) (fxc (fm0 ty fl st (-1)) 0 0) = w3 at *
    have hsz2 := tb_size s
    by_cases hlong : 16384 < s.length
    · have hE := HG.out.trans (@rd_long ty fl st s hlong)
      have hl' : (16384 : Int) < (s.length : Int) := by omega
      go_wp2_with (refine wpList_fx rfl _ rfl rfl HN3.out ?_)
      refine (rfails_any (fm0 ty fl st (-1)) 1 6 _).mono ?_
      rintro e wf ⟨rfl, hbf⟩
      have HZf := Lib.hid (HZ3.out.below hbf HZ3.out.lt)
      have HBf := Lib.hid (HB3.out.trans (hbf.mono HB3.out.size))
      clear hbf HZ3 HB3
      go_wp2_with (refine wpList_sfx rfl _ _ rfl rfl rfl HZf.out ?_)
      refine bodyPost_ret (ret_fx rfl _ _ w.heap.size (fm0 ty fl st (-1)) 1 6 rfl (HZf.out.setRow _)) rfl ?_
      rw [hE]
      exact ⟨_, rfl, FmR.hd _ _ _ _ _, below_setRow HBf.out _ _ (Nat.le_refl _)⟩
    have hl' : ¬ (16384 : Int) < (s.length : Int) := by omega
    have hsl : s.length ≤ 100000 := by omega
    clear hsl0
    have hwr : ∀ W, Calls Tryd.prog 33 #[.agg (fm0 ty fl st (-1)).c] W fun e w' => e = .returned (.bool (wrongB ty st)) ∧ Below W.heap.size W w' := fun W => rwrong_any (fm0 ty fl st (-1)) W
    go_wp2_with (refine wpList_fm rfl _ rfl rfl HF3.out ?_)
    refine (hwr _).mono ?_
    rintro e w4 ⟨rfl, hb⟩
    have HN4 := Lib.hid (HN3.out.below hb HN3.out.lt)
    have HZ4 := Lib.hid (HZ3.out.below hb HZ3.out.lt)
    have HF4 := Lib.hid (HF3.out.below hb HF3.out.lt)
    have HB4 := Lib.hid (HB3.out.trans (hb.mono HB3.out.size))
    clear hb hwr HN3 HZ3 HF3 HB3
    by_cases hwrong : wrongB ty st = true
    · have hE := HG.out.trans (@rd_wrong ty fl st s hlong hwrong)
      rw [hwrong]
      go_wp2_with (refine wpList_fx rfl _ rfl rfl HN4.out ?_)
      refine (rfails_any (fm0 ty fl st (-1)) 1 1 _).mono ?_
      rintro e wf ⟨rfl, hbf⟩
      have HZf := Lib.hid (HZ4.out.below hbf HZ4.out.lt)
      have HBf := Lib.hid (HB4.out.trans (hbf.mono HB4.out.size))
      clear hbf HZ4 HB4
      go_wp2_with (refine wpList_sfx rfl _ _ rfl rfl rfl HZf.out ?_)
      refine bodyPost_ret (ret_fx rfl _ _ w.heap.size (fm0 ty fl st (-1)) 1 1 rfl (HZf.out.setRow _)) rfl ?_
      rw [hE]
      exact ⟨_, rfl, FmR.hd _ _ _ _ _, below_setRow HBf.out _ _ (Nat.le_refl _)⟩
    have hwrong' : wrongB ty st = false := Bool.eq_false_iff.2 hwrong
    rw [hwrong']
    have k0 : w4.cell? ⟨k, 0, none⟩ = some (.int .u8 (ty : Int)) := Fm.k0 HF4.out
    have k1 : w4.cell? ⟨k, 1, none⟩ = some (.int .u8 (fl : Int)) := Fm.k1 HF4.out
    have hpd := fun W => rpads_any ty W
    go_wp2_with fail
    refine (hpd _).mono ?_
    rintro e w4' ⟨rfl, rfl⟩
    clear hpd
    by_cases hP : PadP ty fl
    · obtain ⟨hp1, hp2⟩ := hP
      have hpB : padB ty fl = true := decide_eq_true ⟨hp1, hp2⟩
      rw [decide_eq_true hp1]
      obtain ⟨q, hq⟩ : ∃ q, q = fl / 8 := ⟨_, rfl⟩
      have hqi : (fl : Int) / 8 = (q : Int) := by omega
      have hqm : (q : Int) % 2 = 1 := by omega
      have hq32 : q < 32 := by omega
      clear hq
      cases s with
      | nil =>
        have hE := HG.out.trans (rd_pad (st := st) hlong hwrong' (padN_nil hpB))
        have heq : (tb []).toList.isEmpty = true := by unfold tb; rw [ByteArray.toList_mk]; rfl
        generalize tb [] = T at *
        go_wp2_with (refine wpList_fx rfl _ rfl rfl HN4.out ?_)
        refine (rfails_any (fm0 ty fl st (-1)) 1 6 _).mono ?_
        rintro e wf ⟨rfl, hbf⟩
        have HZf := Lib.hid (HZ4.out.below hbf HZ4.out.lt)
        have HBf := Lib.hid (HB4.out.trans (hbf.mono HB4.out.size))
        clear hbf HZ4 HB4
        go_wp2_with (refine wpList_sfx rfl _ _ rfl rfl rfl HZf.out ?_)
        refine bodyPost_ret (ret_fx rfl _ _ w.heap.size (fm0 ty fl st (-1)) 1 6 rfl (HZf.out.setRow _)) rfl ?_
        rw [hE]
        exact ⟨_, rfl, FmR.hd _ _ _ _ _, below_setRow HBf.out _ _ (Nat.le_refl _)⟩
      | cons b r =>
        obtain ⟨p, hp⟩ : ∃ p, p = b.toNat := ⟨_, rfl⟩
        have hp256 : p < 256 := by rw [hp]; exact b.toNat_lt
        have ha0 := at0 b r
        rw [← hp] at ha0
        obtain ⟨N, hN⟩ : ∃ N, N = r.length + 1 := ⟨_, rfl⟩
        have hszN : (tb (b :: r)).size = N := by rw [tb_size, hN]; rfl
        have hN1 : (N : Int) ≤ 100000 := by have := hsl; simp only [List.length_cons] at this; omega
        have hN2 : (0 : Int) < (N : Int) := by omega
        have hneq : (tb (b :: r)).toList.isEmpty = false := by unfold tb; rw [ByteArray.toList_mk]; rfl
        have hwN : IntKind.i64.wrap ((N : Int) - (p : Int)) = (N : Int) - (p : Int) := IntWalk.i64_in _ (by omega)
        by_cases hlt : r.length < p
        · have hE := HG.out.trans (rd_pad (st := st) hlong hwrong' (padN_long hpB (by omega)))
          have hlt' : (N : Int) - 1 < (p : Int) := by omega
          clear hN hp hlong hwrong hwrong' HG hsz2 hsl hl'
          generalize tb (b :: r) = T at *
          go_wp2_with (refine wpList_fx rfl _ rfl rfl HN4.out ?_)
          refine (rfails_any (fm0 ty fl st (-1)) 1 1 _).mono ?_
          rintro e wf ⟨rfl, hbf⟩
          have HZf := Lib.hid (HZ4.out.below hbf HZ4.out.lt)
          have HBf := Lib.hid (HB4.out.trans (hbf.mono HB4.out.size))
          clear hbf HZ4 HB4
          go_wp2_with (refine wpList_sfx rfl _ _ rfl rfl rfl HZf.out ?_)
          refine bodyPost_ret (ret_fx rfl _ _ w.heap.size (fm0 ty fl st (-1)) 1 1 rfl (HZf.out.setRow _)) rfl ?_
          rw [hE]
          exact ⟨_, rfl, FmR.hd _ _ _ _ _, below_setRow HBf.out _ _ (Nat.le_refl _)⟩
        · have hpad := padN_yes (ty := ty) (fl := fl) (p := b) (r := r) hpB (by omega)
          rw [← hp] at hpad
          have hlt' : ¬ (N : Int) - 1 < (p : Int) := by omega
          have hcut : ∀ W, (Instr.slice 9 (.string (tb (b :: r))) (some (.int .i64 1)) (some (.int .i64 ((N : Int) - (p : Int)))) none).run Tryd.prog W = .ok (.string (tb (r.take (r.length - p)))) W := fun W => by
            have h1 := tb_cut (b :: r) 1 ((N : Int) - (p : Int)) (by omega) (by omega) (by simp only [List.length_cons]; omega) W
            rwa [show (b :: r).drop (1 : Int).toNat = r from rfl, show ((N : Int) - (p : Int)).toNat - (1 : Int).toNat = r.length - p by have : (1 : Int).toNat = 1 := rfl; omega] at h1
          have hrl : (r.take (r.length - p)).length ≤ 100000 := by rw [List.length_take]; simp only [List.length_cons] at hsl; omega
          have HE3 := Lib.hid (And.intro (@rd_len ty fl st (b :: r) _ _ hlong hwrong' hpad) (And.intro (@rd_ok ty fl st (b :: r) _ _ hlong hwrong' hpad) (@rd_grow ty fl st (b :: r) _ _ hlong hwrong' hpad)))
          generalize r.take (r.length - p) = rr at *
          clear hN hp hlong hwrong hwrong' hsz2 hsl hl' hpad
          generalize tb (b :: r) = T at *
          go_upto_region 19 with fail
          clear ha0 hneq hcut hszN hwN hlt' hN1 hN2
          clear k0 k1
          have hszr := tb_size rr
          have hsh : ∀ W, Calls Tryd.prog 34 #[.agg (fm0 ty fl st (-1)).c, .int .i64 (rr.length : Int)] W fun e w' => e = .returned (.bool (!lenB ty fl rr.length)) ∧ Below W.heap.size W w' := fun W => rshort_any (fm0 ty fl st (-1)) hf rr.length hrl W
          go_wp2_with (refine wpList_fm rfl _ rfl rfl HF4.out ?_)
          refine (hsh _).mono ?_
          rintro e w5 ⟨rfl, hb⟩
          have HN5 := Lib.hid (HN4.out.below hb HN4.out.lt)
          have HZ5 := Lib.hid (HZ4.out.below hb HZ4.out.lt)
          have HF5 := Lib.hid (HF4.out.below hb HF4.out.lt)
          have HB5 := Lib.hid (HB4.out.trans (hb.mono HB4.out.size))
          clear hb hsh HN4 HZ4 HF4 HB4
          have k0 : w5.cell? ⟨k, 0, none⟩ = some (.int .u8 (ty : Int)) := Fm.k0 HF5.out
          by_cases hlen : lenB ty fl rr.length = false
          · have hE0 := HG.out.trans (HE3.out.1 hlen)
            rw [hlen]
            by_cases h2 : ty = 2
            · have hE : getN l = (hdN ty fl st, 2, 6) := by rw [hE0, if_pos h2]
              have e2 : ((ty : Int) == 2) = true := beq_iff_eq.2 (by omega)
              clear hE0 h2
              go_wp2_with (refine wpList_fx rfl _ rfl rfl HN5.out ?_)
              refine (rfails_any (fm0 ty fl st (-1)) 2 6 _).mono ?_
              rintro e wf ⟨rfl, hbf⟩
              have HZf := Lib.hid (HZ5.out.below hbf HZ5.out.lt)
              have HBf := Lib.hid (HB5.out.trans (hbf.mono HB5.out.size))
              clear hbf HZ5 HB5
              go_wp2_with (refine wpList_sfx rfl _ _ rfl rfl rfl HZf.out ?_)
              refine bodyPost_ret (ret_fx rfl _ _ w.heap.size (fm0 ty fl st (-1)) 2 6 rfl (HZf.out.setRow _)) rfl ?_
              rw [hE]
              exact ⟨_, rfl, FmR.hd _ _ _ _ _, below_setRow HBf.out _ _ (Nat.le_refl _)⟩
            · have hE : getN l = (hdN ty fl st, 1, 6) := by rw [hE0, if_neg h2]
              have e2 : ((ty : Int) == 2) = false := ne_int (b := 2) (by omega)
              clear hE0 h2
              go_wp2_with (refine wpList_fx rfl _ rfl rfl HN5.out ?_)
              refine (rfails_any (fm0 ty fl st (-1)) 1 6 _).mono ?_
              rintro e wf ⟨rfl, hbf⟩
              have HZf := Lib.hid (HZ5.out.below hbf HZ5.out.lt)
              have HBf := Lib.hid (HB5.out.trans (hbf.mono HB5.out.size))
              clear hbf HZ5 HB5
              go_wp2_with (refine wpList_sfx rfl _ _ rfl rfl rfl HZf.out ?_)
              refine bodyPost_ret (ret_fx rfl _ _ w.heap.size (fm0 ty fl st (-1)) 1 6 rfl (HZf.out.setRow _)) rfl ?_
              rw [hE]
              exact ⟨_, rfl, FmR.hd _ _ _ _ _, below_setRow HBf.out _ _ (Nat.le_refl _)⟩
          have hlen' : lenB ty fl rr.length = true := by cases h : lenB ty fl rr.length with
            | true => rfl
            | false => exact absurd h hlen
          have HE4 := Lib.hid (And.intro (HE3.out.2.1 hlen') (HE3.out.2.2 hlen'))
          have hpt := fun W => rparts_any (ty := ty) (fl := fl) (st := st) (pad := (p : Int)) hf (s := rr) hrl (of_decide_eq_true hlen') W
          rw [hlen']
          have htfs := body_tfs ty fl st (p : Int) rr
          clear hlen hlen' HE3
          obtain ⟨F, hFe⟩ : ∃ F, F = bodyN ty fl st (p : Int) rr := ⟨_, rfl⟩
          rw [← hFe] at hpt HE4 htfs
          clear hFe
          have k4 := Fm.k4 HF5.out
          have z4 := HF5.out.thawed 4
          go_upto_region 24 with fail
          have HF6 : Hid (Row (w5.setCell ⟨k, 4, none⟩ (.int .i64 (p : Int))) k 36 (fm0 ty fl st (p : Int)).c) := Fm.st4 HF5.out _
          have HN6 : Hid (Row (w5.setCell ⟨k, 4, none⟩ (.int .i64 (p : Int))) (w.heap.size + 1) 47 (fxc (fm0 ty fl st (-1)) 0 0)) := (Below.heap_setCell w5 ⟨k, 4, none⟩ _ _ (by show w.heap.size + 1 ≠ k; omega)).trans HN5.out
          have HZ6 : Hid (Row (w5.setCell ⟨k, 4, none⟩ (.int .i64 (p : Int))) w.heap.size 47 (fxc (fm0 0 0 0 0) 0 0)) := (Below.heap_setCell w5 ⟨k, 4, none⟩ _ _ (by show w.heap.size ≠ k; omega)).trans HZ5.out
          have HB6 := Lib.hid (HB5.out.setCell (p := ⟨k, 4, none⟩) (by show w.heap.size ≤ k; omega) (.int .i64 (p : Int)))
          clear k0 k4 z4 HF5 HN5 HZ5 HB5
          generalize w5.setCell ⟨k, 4, none⟩ (.int .i64 (p : Int)) = w6 at *
          go_wp2_with (refine wpList_fm rfl _ rfl rfl HF6.out ?_)
          refine (hpt _).mono ?_
          rintro e w7 ⟨x7, rfl, hR7, hb⟩
          have hk6 := HF6.out.lt
          have HN7 := Lib.hid (HN6.out.below hb HN6.out.lt)
          have HZ7 := Lib.hid (HZ6.out.below hb HZ6.out.lt)
          have HF7 := Lib.hid (HF6.out.below hb HF6.out.lt)
          have HB7 := Lib.hid (HB6.out.trans (hb.mono HB6.out.size))
          have HR7 := Lib.hid hR7
          have hb6 : w.heap.size ≤ w6.heap.size := HB6.out.size
          clear hb hpt hR7 HN6 HZ6 HF6 HB6
          go_upto_region 25 with (refine wpList_sfm (x := x7) rfl _ _ rfl rfl rfl HF7.out ?_)
          have HN8 := Lib.hid (HN7.out.setRow' (k := k) (by omega) x7.c)
          have HZ8 := Lib.hid (HZ7.out.setRow' (k := k) (by omega) x7.c)
          have HF8 := Lib.hid (HF7.out.setRow x7.c)
          have HB8 := Lib.hid (below_setRow HB7.out k x7.c (by omega))
          have HR8 := Lib.hid (HR7.out.setRow hk6 x7.c)
          clear HN7 HZ7 HF7 HB7 HR7
          generalize w7.setRow k x7.c = w8 at *
          have k0 : w8.cell? ⟨k, 0, none⟩ = some (.int .u8 (ty : Int)) := by have h1 := Fm.k0 HF8.out; rwa [show x7.ty = ty by rw [HR8.out.eq]; exact htfs.1] at h1
          have k2 : w8.cell? ⟨k, 2, none⟩ = some (.int .u32 (st : Int)) := by have h1 := Fm.k2 HF8.out; rwa [show x7.st = st by rw [HR8.out.eq]; exact htfs.2.2.1] at h1
          have k9 : w8.cell? ⟨k, 9, none⟩ = some (.int .u32 (F.win : Int)) := by have h1 := Fm.k9 HF8.out; rwa [show x7.win = F.win by rw [HR8.out.eq]; rfl] at h1
          by_cases hgr : ty = 8 ∧ F.win = 0
          · obtain ⟨g8, gw⟩ := hgr
            have e8 : ((ty : Int) == 8) = true := beq_iff_eq.2 (by omega)
            rw [gw] at k9
            by_cases hst0 : st = 0
            · have hgn : growN ty st F.win = 1 := by unfold growN; rw [if_pos ⟨g8, gw⟩, if_pos hst0]
              have hE := HG.out.trans (HE4.out.2 (by rw [hgn]; omega))
              rw [hgn] at hE
              have es : ((st : Int) == 0) = true := beq_iff_eq.2 (by omega)
              clear hgn g8 gw hst0
              go_wp2_with (refine wpList_fx rfl _ rfl rfl HN8.out ?_)
              refine (rfails_any (fm0 ty fl st (-1)) 1 1 _).mono ?_
              rintro e wf ⟨rfl, hbf⟩
              have HZf := Lib.hid (HZ8.out.below hbf HZ8.out.lt)
              have HBf := Lib.hid (HB8.out.trans (hbf.mono HB8.out.size))
              clear hbf HZ8 HB8
              go_wp2_with (refine wpList_sfx rfl _ _ rfl rfl rfl HZf.out ?_)
              refine bodyPost_ret (ret_fx rfl _ _ w.heap.size (fm0 ty fl st (-1)) 1 1 rfl (HZf.out.setRow _)) rfl ?_
              rw [hE]
              exact ⟨_, rfl, FmR.hd _ _ _ _ _, below_setRow HBf.out _ _ (Nat.le_refl _)⟩
            · have hgn : growN ty st F.win = 2 := by unfold growN; rw [if_pos ⟨g8, gw⟩, if_neg hst0]
              have hE := HG.out.trans (HE4.out.2 (by rw [hgn]; omega))
              rw [hgn] at hE
              have es : ((st : Int) == 0) = false := ne_int (b := 0) (by omega)
              clear hgn g8 gw hst0
              go_wp2_with (refine wpList_fx rfl _ rfl rfl HN8.out ?_)
              refine (rfails_any (fm0 ty fl st (-1)) 2 1 _).mono ?_
              rintro e wf ⟨rfl, hbf⟩
              have HZf := Lib.hid (HZ8.out.below hbf HZ8.out.lt)
              have HBf := Lib.hid (HB8.out.trans (hbf.mono HB8.out.size))
              clear hbf HZ8 HB8
              go_wp2_with (refine wpList_sfx rfl _ _ rfl rfl rfl HZf.out ?_)
              refine bodyPost_ret (ret_fx rfl _ _ w.heap.size (fm0 ty fl st (-1)) 2 1 rfl (HZf.out.setRow _)) rfl ?_
              rw [hE]
              exact ⟨_, rfl, FmR.hd _ _ _ _ _, below_setRow HBf.out _ _ (Nat.le_refl _)⟩
          have hE := HG.out.trans (HE4.out.1 (by unfold growN; exact if_neg hgr))
          have HE := Lib.hid hE
          clear hE HE4 HG k2
          by_cases h8 : ty = 8
          · have hw0 : F.win ≠ 0 := fun e1 => hgr ⟨h8, e1⟩
            have e8 : ((ty : Int) == 8) = true := beq_iff_eq.2 (by omega)
            have e9 : ((F.win : Int) == 0) = false := ne_int (b := 0) (by omega)
            clear hgr h8
            have hxc : Hid (x7.c = #[.int .u8 x7.ty, .int .u8 x7.fl, .int .u32 x7.st, .slice x7.dA x7.dn x7.dc, .int .i64 x7.pad, .int .u32 x7.code, .int .u32 x7.oth, .int .u8 x7.wt, .bool x7.al, .int .u32 x7.win, .slice x7.sA x7.sn x7.sc]) := by show _ = _; unfold Fm.c; rfl
            have hxf : Hid (fxc x7 0 0 = #[.int .u8 x7.ty, .int .u8 x7.fl, .int .u32 x7.st, .slice x7.dA x7.dn x7.dc, .int .i64 x7.pad, .int .u32 x7.code, .int .u32 x7.oth, .int .u8 x7.wt, .bool x7.al, .int .u32 x7.win, .slice x7.sA x7.sn x7.sc, .int .u8 0, .int .u32 0]) := by show _ = _; unfold fxc; rfl
            go_wp2_with (first | (refine wpList_fm rfl _ rfl rfl HF8.out ?_; rw [hxc.out]) | (refine wpList_sfx (x := x7) (s := 0) (c := 0) rfl _ _ rfl rfl (by rw [hxf.out]; rfl) HZ8.out ?_))
            refine bodyPost_ret (ret_fx rfl _ _ w.heap.size x7 0 0 rfl (HZ8.out.setRow _)) rfl ?_
            rw [HE.out]
            exact ⟨_, rfl, (HR8.out.setRow (by omega) _).mono hb6, below_setRow HB8.out _ _ (Nat.le_refl _)⟩
          have e8 : ((ty : Int) == 8) = false := ne_int (b := 8) (by omega)
          clear hgr h8
          have hxc : Hid (x7.c = #[.int .u8 x7.ty, .int .u8 x7.fl, .int .u32 x7.st, .slice x7.dA x7.dn x7.dc, .int .i64 x7.pad, .int .u32 x7.code, .int .u32 x7.oth, .int .u8 x7.wt, .bool x7.al, .int .u32 x7.win, .slice x7.sA x7.sn x7.sc]) := by show _ = _; unfold Fm.c; rfl
          have hxf : Hid (fxc x7 0 0 = #[.int .u8 x7.ty, .int .u8 x7.fl, .int .u32 x7.st, .slice x7.dA x7.dn x7.dc, .int .i64 x7.pad, .int .u32 x7.code, .int .u32 x7.oth, .int .u8 x7.wt, .bool x7.al, .int .u32 x7.win, .slice x7.sA x7.sn x7.sc, .int .u8 0, .int .u32 0]) := by show _ = _; unfold fxc; rfl
          go_wp2_with (first | (refine wpList_fm rfl _ rfl rfl HF8.out ?_; rw [hxc.out]) | (refine wpList_sfx (x := x7) (s := 0) (c := 0) rfl _ _ rfl rfl (by rw [hxf.out]; rfl) HZ8.out ?_))
          refine bodyPost_ret (ret_fx rfl _ _ w.heap.size x7 0 0 rfl (HZ8.out.setRow _)) rfl ?_
          rw [HE.out]
          exact ⟨_, rfl, (HR8.out.setRow (by omega) _).mono hb6, below_setRow HB8.out _ _ (Nat.le_refl _)⟩
    · have hpB : padB ty fl = false := decide_eq_false hP
      have hpad := padN_no (s := s) hpB
      have HE3 := Lib.hid (And.intro (@rd_len ty fl st s _ _ hlong hwrong' hpad) (And.intro (@rd_ok ty fl st s _ _ hlong hwrong' hpad) (@rd_grow ty fl st s _ _ hlong hwrong' hpad)))
      have hrl := hsl
      clear hlong hwrong hwrong' hl' hpad hpB
      by_cases hp1 : ty = 0 ∨ ty = 1 ∨ ty = 5
      · rw [decide_eq_true hp1]
        obtain ⟨q, hq⟩ : ∃ q, q = fl / 8 := ⟨_, rfl⟩
        have hqi : (fl : Int) / 8 = (q : Int) := by omega
        have hq2 : fl / 8 % 2 ≠ 1 := fun h => hP ⟨hp1, h⟩
        have hqm : (q : Int) % 2 = 0 := by omega
        have hq32 : q < 32 := by omega
        clear hq hq2 hP hp1
        go_upto_region 19 with fail
        clear k0 k1
        have hszr := tb_size s
        have hsh : ∀ W, Calls Tryd.prog 34 #[.agg (fm0 ty fl st (-1)).c, .int .i64 (s.length : Int)] W fun e w' => e = .returned (.bool (!lenB ty fl s.length)) ∧ Below W.heap.size W w' := fun W => rshort_any (fm0 ty fl st (-1)) hf s.length hrl W
        go_wp2_with (refine wpList_fm rfl _ rfl rfl HF4.out ?_)
        refine (hsh _).mono ?_
        rintro e w5 ⟨rfl, hb⟩
        have HN5 := Lib.hid (HN4.out.below hb HN4.out.lt)
        have HZ5 := Lib.hid (HZ4.out.below hb HZ4.out.lt)
        have HF5 := Lib.hid (HF4.out.below hb HF4.out.lt)
        have HB5 := Lib.hid (HB4.out.trans (hb.mono HB4.out.size))
        clear hb hsh HN4 HZ4 HF4 HB4
        have k0 : w5.cell? ⟨k, 0, none⟩ = some (.int .u8 (ty : Int)) := Fm.k0 HF5.out
        by_cases hlen : lenB ty fl s.length = false
        · have hE0 := HG.out.trans (HE3.out.1 hlen)
          rw [hlen]
          by_cases h2 : ty = 2
          · have hE : getN l = (hdN ty fl st, 2, 6) := by rw [hE0, if_pos h2]
            have e2 : ((ty : Int) == 2) = true := beq_iff_eq.2 (by omega)
            clear hE0 h2
            go_wp2_with (refine wpList_fx rfl _ rfl rfl HN5.out ?_)
            refine (rfails_any (fm0 ty fl st (-1)) 2 6 _).mono ?_
            rintro e wf ⟨rfl, hbf⟩
            have HZf := Lib.hid (HZ5.out.below hbf HZ5.out.lt)
            have HBf := Lib.hid (HB5.out.trans (hbf.mono HB5.out.size))
            clear hbf HZ5 HB5
            go_wp2_with (refine wpList_sfx rfl _ _ rfl rfl rfl HZf.out ?_)
            refine bodyPost_ret (ret_fx rfl _ _ w.heap.size (fm0 ty fl st (-1)) 2 6 rfl (HZf.out.setRow _)) rfl ?_
            rw [hE]
            exact ⟨_, rfl, FmR.hd _ _ _ _ _, below_setRow HBf.out _ _ (Nat.le_refl _)⟩
          · have hE : getN l = (hdN ty fl st, 1, 6) := by rw [hE0, if_neg h2]
            have e2 : ((ty : Int) == 2) = false := ne_int (b := 2) (by omega)
            clear hE0 h2
            go_wp2_with (refine wpList_fx rfl _ rfl rfl HN5.out ?_)
            refine (rfails_any (fm0 ty fl st (-1)) 1 6 _).mono ?_
            rintro e wf ⟨rfl, hbf⟩
            have HZf := Lib.hid (HZ5.out.below hbf HZ5.out.lt)
            have HBf := Lib.hid (HB5.out.trans (hbf.mono HB5.out.size))
            clear hbf HZ5 HB5
            go_wp2_with (refine wpList_sfx rfl _ _ rfl rfl rfl HZf.out ?_)
            refine bodyPost_ret (ret_fx rfl _ _ w.heap.size (fm0 ty fl st (-1)) 1 6 rfl (HZf.out.setRow _)) rfl ?_
            rw [hE]
            exact ⟨_, rfl, FmR.hd _ _ _ _ _, below_setRow HBf.out _ _ (Nat.le_refl _)⟩
        have hlen' : lenB ty fl s.length = true := by cases h : lenB ty fl s.length with
          | true => rfl
          | false => exact absurd h hlen
        have HE4 := Lib.hid (And.intro (HE3.out.2.1 hlen') (HE3.out.2.2 hlen'))
        have hpt := fun W => rparts_any (ty := ty) (fl := fl) (st := st) (pad := (-1)) hf (s := s) hrl (of_decide_eq_true hlen') W
        rw [hlen']
        have htfs := body_tfs ty fl st (-1) s
        clear hlen hlen' HE3
        obtain ⟨F, hFe⟩ : ∃ F, F = bodyN ty fl st (-1) s := ⟨_, rfl⟩
        rw [← hFe] at hpt HE4 htfs
        clear hFe
        have k4 := Fm.k4 HF5.out
        have z4 := HF5.out.thawed 4
        go_upto_region 24 with fail
        have HF6 : Hid (Row (w5.setCell ⟨k, 4, none⟩ (.int .i64 (-1))) k 36 (fm0 ty fl st (-1)).c) := Fm.st4 HF5.out _
        have HN6 : Hid (Row (w5.setCell ⟨k, 4, none⟩ (.int .i64 (-1))) (w.heap.size + 1) 47 (fxc (fm0 ty fl st (-1)) 0 0)) := (Below.heap_setCell w5 ⟨k, 4, none⟩ _ _ (by show w.heap.size + 1 ≠ k; omega)).trans HN5.out
        have HZ6 : Hid (Row (w5.setCell ⟨k, 4, none⟩ (.int .i64 (-1))) w.heap.size 47 (fxc (fm0 0 0 0 0) 0 0)) := (Below.heap_setCell w5 ⟨k, 4, none⟩ _ _ (by show w.heap.size ≠ k; omega)).trans HZ5.out
        have HB6 := Lib.hid (HB5.out.setCell (p := ⟨k, 4, none⟩) (by show w.heap.size ≤ k; omega) (.int .i64 (-1)))
        clear k0 k4 z4 HF5 HN5 HZ5 HB5
        generalize w5.setCell ⟨k, 4, none⟩ (.int .i64 (-1)) = w6 at *
        go_wp2_with (refine wpList_fm rfl _ rfl rfl HF6.out ?_)
        refine (hpt _).mono ?_
        rintro e w7 ⟨x7, rfl, hR7, hb⟩
        have hk6 := HF6.out.lt
        have HN7 := Lib.hid (HN6.out.below hb HN6.out.lt)
        have HZ7 := Lib.hid (HZ6.out.below hb HZ6.out.lt)
        have HF7 := Lib.hid (HF6.out.below hb HF6.out.lt)
        have HB7 := Lib.hid (HB6.out.trans (hb.mono HB6.out.size))
        have HR7 := Lib.hid hR7
        have hb6 : w.heap.size ≤ w6.heap.size := HB6.out.size
        clear hb hpt hR7 HN6 HZ6 HF6 HB6
        go_upto_region 25 with (refine wpList_sfm (x := x7) rfl _ _ rfl rfl rfl HF7.out ?_)
        have HN8 := Lib.hid (HN7.out.setRow' (k := k) (by omega) x7.c)
        have HZ8 := Lib.hid (HZ7.out.setRow' (k := k) (by omega) x7.c)
        have HF8 := Lib.hid (HF7.out.setRow x7.c)
        have HB8 := Lib.hid (below_setRow HB7.out k x7.c (by omega))
        have HR8 := Lib.hid (HR7.out.setRow hk6 x7.c)
        clear HN7 HZ7 HF7 HB7 HR7
        generalize w7.setRow k x7.c = w8 at *
        have k0 : w8.cell? ⟨k, 0, none⟩ = some (.int .u8 (ty : Int)) := by have h1 := Fm.k0 HF8.out; rwa [show x7.ty = ty by rw [HR8.out.eq]; exact htfs.1] at h1
        have k2 : w8.cell? ⟨k, 2, none⟩ = some (.int .u32 (st : Int)) := by have h1 := Fm.k2 HF8.out; rwa [show x7.st = st by rw [HR8.out.eq]; exact htfs.2.2.1] at h1
        have k9 : w8.cell? ⟨k, 9, none⟩ = some (.int .u32 (F.win : Int)) := by have h1 := Fm.k9 HF8.out; rwa [show x7.win = F.win by rw [HR8.out.eq]; rfl] at h1
        by_cases hgr : ty = 8 ∧ F.win = 0
        · obtain ⟨g8, gw⟩ := hgr
          have e8 : ((ty : Int) == 8) = true := beq_iff_eq.2 (by omega)
          rw [gw] at k9
          by_cases hst0 : st = 0
          · have hgn : growN ty st F.win = 1 := by unfold growN; rw [if_pos ⟨g8, gw⟩, if_pos hst0]
            have hE := HG.out.trans (HE4.out.2 (by rw [hgn]; omega))
            rw [hgn] at hE
            have es : ((st : Int) == 0) = true := beq_iff_eq.2 (by omega)
            clear hgn g8 gw hst0
            go_wp2_with (refine wpList_fx rfl _ rfl rfl HN8.out ?_)
            refine (rfails_any (fm0 ty fl st (-1)) 1 1 _).mono ?_
            rintro e wf ⟨rfl, hbf⟩
            have HZf := Lib.hid (HZ8.out.below hbf HZ8.out.lt)
            have HBf := Lib.hid (HB8.out.trans (hbf.mono HB8.out.size))
            clear hbf HZ8 HB8
            go_wp2_with (refine wpList_sfx rfl _ _ rfl rfl rfl HZf.out ?_)
            refine bodyPost_ret (ret_fx rfl _ _ w.heap.size (fm0 ty fl st (-1)) 1 1 rfl (HZf.out.setRow _)) rfl ?_
            rw [hE]
            exact ⟨_, rfl, FmR.hd _ _ _ _ _, below_setRow HBf.out _ _ (Nat.le_refl _)⟩
          · have hgn : growN ty st F.win = 2 := by unfold growN; rw [if_pos ⟨g8, gw⟩, if_neg hst0]
            have hE := HG.out.trans (HE4.out.2 (by rw [hgn]; omega))
            rw [hgn] at hE
            have es : ((st : Int) == 0) = false := ne_int (b := 0) (by omega)
            clear hgn g8 gw hst0
            go_wp2_with (refine wpList_fx rfl _ rfl rfl HN8.out ?_)
            refine (rfails_any (fm0 ty fl st (-1)) 2 1 _).mono ?_
            rintro e wf ⟨rfl, hbf⟩
            have HZf := Lib.hid (HZ8.out.below hbf HZ8.out.lt)
            have HBf := Lib.hid (HB8.out.trans (hbf.mono HB8.out.size))
            clear hbf HZ8 HB8
            go_wp2_with (refine wpList_sfx rfl _ _ rfl rfl rfl HZf.out ?_)
            refine bodyPost_ret (ret_fx rfl _ _ w.heap.size (fm0 ty fl st (-1)) 2 1 rfl (HZf.out.setRow _)) rfl ?_
            rw [hE]
            exact ⟨_, rfl, FmR.hd _ _ _ _ _, below_setRow HBf.out _ _ (Nat.le_refl _)⟩
        have hE := HG.out.trans (HE4.out.1 (by unfold growN; exact if_neg hgr))
        have HE := Lib.hid hE
        clear hE HE4 HG k2
        by_cases h8 : ty = 8
        · have hw0 : F.win ≠ 0 := fun e1 => hgr ⟨h8, e1⟩
          have e8 : ((ty : Int) == 8) = true := beq_iff_eq.2 (by omega)
          have e9 : ((F.win : Int) == 0) = false := ne_int (b := 0) (by omega)
          clear hgr h8
          have hxc : Hid (x7.c = #[.int .u8 x7.ty, .int .u8 x7.fl, .int .u32 x7.st, .slice x7.dA x7.dn x7.dc, .int .i64 x7.pad, .int .u32 x7.code, .int .u32 x7.oth, .int .u8 x7.wt, .bool x7.al, .int .u32 x7.win, .slice x7.sA x7.sn x7.sc]) := by show _ = _; unfold Fm.c; rfl
          have hxf : Hid (fxc x7 0 0 = #[.int .u8 x7.ty, .int .u8 x7.fl, .int .u32 x7.st, .slice x7.dA x7.dn x7.dc, .int .i64 x7.pad, .int .u32 x7.code, .int .u32 x7.oth, .int .u8 x7.wt, .bool x7.al, .int .u32 x7.win, .slice x7.sA x7.sn x7.sc, .int .u8 0, .int .u32 0]) := by show _ = _; unfold fxc; rfl
          go_wp2_with (first | (refine wpList_fm rfl _ rfl rfl HF8.out ?_; rw [hxc.out]) | (refine wpList_sfx (x := x7) (s := 0) (c := 0) rfl _ _ rfl rfl (by rw [hxf.out]; rfl) HZ8.out ?_))
          refine bodyPost_ret (ret_fx rfl _ _ w.heap.size x7 0 0 rfl (HZ8.out.setRow _)) rfl ?_
          rw [HE.out]
          exact ⟨_, rfl, (HR8.out.setRow (by omega) _).mono hb6, below_setRow HB8.out _ _ (Nat.le_refl _)⟩
        have e8 : ((ty : Int) == 8) = false := ne_int (b := 8) (by omega)
        clear hgr h8
        have hxc : Hid (x7.c = #[.int .u8 x7.ty, .int .u8 x7.fl, .int .u32 x7.st, .slice x7.dA x7.dn x7.dc, .int .i64 x7.pad, .int .u32 x7.code, .int .u32 x7.oth, .int .u8 x7.wt, .bool x7.al, .int .u32 x7.win, .slice x7.sA x7.sn x7.sc]) := by show _ = _; unfold Fm.c; rfl
        have hxf : Hid (fxc x7 0 0 = #[.int .u8 x7.ty, .int .u8 x7.fl, .int .u32 x7.st, .slice x7.dA x7.dn x7.dc, .int .i64 x7.pad, .int .u32 x7.code, .int .u32 x7.oth, .int .u8 x7.wt, .bool x7.al, .int .u32 x7.win, .slice x7.sA x7.sn x7.sc, .int .u8 0, .int .u32 0]) := by show _ = _; unfold fxc; rfl
        go_wp2_with (first | (refine wpList_fm rfl _ rfl rfl HF8.out ?_; rw [hxc.out]) | (refine wpList_sfx (x := x7) (s := 0) (c := 0) rfl _ _ rfl rfl (by rw [hxf.out]; rfl) HZ8.out ?_))
        refine bodyPost_ret (ret_fx rfl _ _ w.heap.size x7 0 0 rfl (HZ8.out.setRow _)) rfl ?_
        rw [HE.out]
        exact ⟨_, rfl, (HR8.out.setRow (by omega) _).mono hb6, below_setRow HB8.out _ _ (Nat.le_refl _)⟩
      · rw [decide_eq_false hp1]
        clear hP hp1
        go_upto_region 19 with fail
        clear k0 k1
        have hszr := tb_size s
        have hsh : ∀ W, Calls Tryd.prog 34 #[.agg (fm0 ty fl st (-1)).c, .int .i64 (s.length : Int)] W fun e w' => e = .returned (.bool (!lenB ty fl s.length)) ∧ Below W.heap.size W w' := fun W => rshort_any (fm0 ty fl st (-1)) hf s.length hrl W
        go_wp2_with (refine wpList_fm rfl _ rfl rfl HF4.out ?_)
        refine (hsh _).mono ?_
        rintro e w5 ⟨rfl, hb⟩
        have HN5 := Lib.hid (HN4.out.below hb HN4.out.lt)
        have HZ5 := Lib.hid (HZ4.out.below hb HZ4.out.lt)
        have HF5 := Lib.hid (HF4.out.below hb HF4.out.lt)
        have HB5 := Lib.hid (HB4.out.trans (hb.mono HB4.out.size))
        clear hb hsh HN4 HZ4 HF4 HB4
        have k0 : w5.cell? ⟨k, 0, none⟩ = some (.int .u8 (ty : Int)) := Fm.k0 HF5.out
        by_cases hlen : lenB ty fl s.length = false
        · have hE0 := HG.out.trans (HE3.out.1 hlen)
          rw [hlen]
          by_cases h2 : ty = 2
          · have hE : getN l = (hdN ty fl st, 2, 6) := by rw [hE0, if_pos h2]
            have e2 : ((ty : Int) == 2) = true := beq_iff_eq.2 (by omega)
            clear hE0 h2
            go_wp2_with (refine wpList_fx rfl _ rfl rfl HN5.out ?_)
            refine (rfails_any (fm0 ty fl st (-1)) 2 6 _).mono ?_
            rintro e wf ⟨rfl, hbf⟩
            have HZf := Lib.hid (HZ5.out.below hbf HZ5.out.lt)
            have HBf := Lib.hid (HB5.out.trans (hbf.mono HB5.out.size))
            clear hbf HZ5 HB5
            go_wp2_with (refine wpList_sfx rfl _ _ rfl rfl rfl HZf.out ?_)
            refine bodyPost_ret (ret_fx rfl _ _ w.heap.size (fm0 ty fl st (-1)) 2 6 rfl (HZf.out.setRow _)) rfl ?_
            rw [hE]
            exact ⟨_, rfl, FmR.hd _ _ _ _ _, below_setRow HBf.out _ _ (Nat.le_refl _)⟩
          · have hE : getN l = (hdN ty fl st, 1, 6) := by rw [hE0, if_neg h2]
            have e2 : ((ty : Int) == 2) = false := ne_int (b := 2) (by omega)
            clear hE0 h2
            go_wp2_with (refine wpList_fx rfl _ rfl rfl HN5.out ?_)
            refine (rfails_any (fm0 ty fl st (-1)) 1 6 _).mono ?_
            rintro e wf ⟨rfl, hbf⟩
            have HZf := Lib.hid (HZ5.out.below hbf HZ5.out.lt)
            have HBf := Lib.hid (HB5.out.trans (hbf.mono HB5.out.size))
            clear hbf HZ5 HB5
            go_wp2_with (refine wpList_sfx rfl _ _ rfl rfl rfl HZf.out ?_)
            refine bodyPost_ret (ret_fx rfl _ _ w.heap.size (fm0 ty fl st (-1)) 1 6 rfl (HZf.out.setRow _)) rfl ?_
            rw [hE]
            exact ⟨_, rfl, FmR.hd _ _ _ _ _, below_setRow HBf.out _ _ (Nat.le_refl _)⟩
        have hlen' : lenB ty fl s.length = true := by cases h : lenB ty fl s.length with
          | true => rfl
          | false => exact absurd h hlen
        have HE4 := Lib.hid (And.intro (HE3.out.2.1 hlen') (HE3.out.2.2 hlen'))
        have hpt := fun W => rparts_any (ty := ty) (fl := fl) (st := st) (pad := (-1)) hf (s := s) hrl (of_decide_eq_true hlen') W
        rw [hlen']
        have htfs := body_tfs ty fl st (-1) s
        clear hlen hlen' HE3
        obtain ⟨F, hFe⟩ : ∃ F, F = bodyN ty fl st (-1) s := ⟨_, rfl⟩
        rw [← hFe] at hpt HE4 htfs
        clear hFe
        have k4 := Fm.k4 HF5.out
        have z4 := HF5.out.thawed 4
        go_upto_region 24 with fail
        have HF6 : Hid (Row (w5.setCell ⟨k, 4, none⟩ (.int .i64 (-1))) k 36 (fm0 ty fl st (-1)).c) := Fm.st4 HF5.out _
        have HN6 : Hid (Row (w5.setCell ⟨k, 4, none⟩ (.int .i64 (-1))) (w.heap.size + 1) 47 (fxc (fm0 ty fl st (-1)) 0 0)) := (Below.heap_setCell w5 ⟨k, 4, none⟩ _ _ (by show w.heap.size + 1 ≠ k; omega)).trans HN5.out
        have HZ6 : Hid (Row (w5.setCell ⟨k, 4, none⟩ (.int .i64 (-1))) w.heap.size 47 (fxc (fm0 0 0 0 0) 0 0)) := (Below.heap_setCell w5 ⟨k, 4, none⟩ _ _ (by show w.heap.size ≠ k; omega)).trans HZ5.out
        have HB6 := Lib.hid (HB5.out.setCell (p := ⟨k, 4, none⟩) (by show w.heap.size ≤ k; omega) (.int .i64 (-1)))
        clear k0 k4 z4 HF5 HN5 HZ5 HB5
        generalize w5.setCell ⟨k, 4, none⟩ (.int .i64 (-1)) = w6 at *
        go_wp2_with (refine wpList_fm rfl _ rfl rfl HF6.out ?_)
        refine (hpt _).mono ?_
        rintro e w7 ⟨x7, rfl, hR7, hb⟩
        have hk6 := HF6.out.lt
        have HN7 := Lib.hid (HN6.out.below hb HN6.out.lt)
        have HZ7 := Lib.hid (HZ6.out.below hb HZ6.out.lt)
        have HF7 := Lib.hid (HF6.out.below hb HF6.out.lt)
        have HB7 := Lib.hid (HB6.out.trans (hb.mono HB6.out.size))
        have HR7 := Lib.hid hR7
        have hb6 : w.heap.size ≤ w6.heap.size := HB6.out.size
        clear hb hpt hR7 HN6 HZ6 HF6 HB6
        go_upto_region 25 with (refine wpList_sfm (x := x7) rfl _ _ rfl rfl rfl HF7.out ?_)
        have HN8 := Lib.hid (HN7.out.setRow' (k := k) (by omega) x7.c)
        have HZ8 := Lib.hid (HZ7.out.setRow' (k := k) (by omega) x7.c)
        have HF8 := Lib.hid (HF7.out.setRow x7.c)
        have HB8 := Lib.hid (below_setRow HB7.out k x7.c (by omega))
        have HR8 := Lib.hid (HR7.out.setRow hk6 x7.c)
        clear HN7 HZ7 HF7 HB7 HR7
        generalize w7.setRow k x7.c = w8 at *
        have k0 : w8.cell? ⟨k, 0, none⟩ = some (.int .u8 (ty : Int)) := by have h1 := Fm.k0 HF8.out; rwa [show x7.ty = ty by rw [HR8.out.eq]; exact htfs.1] at h1
        have k2 : w8.cell? ⟨k, 2, none⟩ = some (.int .u32 (st : Int)) := by have h1 := Fm.k2 HF8.out; rwa [show x7.st = st by rw [HR8.out.eq]; exact htfs.2.2.1] at h1
        have k9 : w8.cell? ⟨k, 9, none⟩ = some (.int .u32 (F.win : Int)) := by have h1 := Fm.k9 HF8.out; rwa [show x7.win = F.win by rw [HR8.out.eq]; rfl] at h1
        by_cases hgr : ty = 8 ∧ F.win = 0
        · obtain ⟨g8, gw⟩ := hgr
          have e8 : ((ty : Int) == 8) = true := beq_iff_eq.2 (by omega)
          rw [gw] at k9
          by_cases hst0 : st = 0
          · have hgn : growN ty st F.win = 1 := by unfold growN; rw [if_pos ⟨g8, gw⟩, if_pos hst0]
            have hE := HG.out.trans (HE4.out.2 (by rw [hgn]; omega))
            rw [hgn] at hE
            have es : ((st : Int) == 0) = true := beq_iff_eq.2 (by omega)
            clear hgn g8 gw hst0
            go_wp2_with (refine wpList_fx rfl _ rfl rfl HN8.out ?_)
            refine (rfails_any (fm0 ty fl st (-1)) 1 1 _).mono ?_
            rintro e wf ⟨rfl, hbf⟩
            have HZf := Lib.hid (HZ8.out.below hbf HZ8.out.lt)
            have HBf := Lib.hid (HB8.out.trans (hbf.mono HB8.out.size))
            clear hbf HZ8 HB8
            go_wp2_with (refine wpList_sfx rfl _ _ rfl rfl rfl HZf.out ?_)
            refine bodyPost_ret (ret_fx rfl _ _ w.heap.size (fm0 ty fl st (-1)) 1 1 rfl (HZf.out.setRow _)) rfl ?_
            rw [hE]
            exact ⟨_, rfl, FmR.hd _ _ _ _ _, below_setRow HBf.out _ _ (Nat.le_refl _)⟩
          · have hgn : growN ty st F.win = 2 := by unfold growN; rw [if_pos ⟨g8, gw⟩, if_neg hst0]
            have hE := HG.out.trans (HE4.out.2 (by rw [hgn]; omega))
            rw [hgn] at hE
            have es : ((st : Int) == 0) = false := ne_int (b := 0) (by omega)
            clear hgn g8 gw hst0
            go_wp2_with (refine wpList_fx rfl _ rfl rfl HN8.out ?_)
            refine (rfails_any (fm0 ty fl st (-1)) 2 1 _).mono ?_
            rintro e wf ⟨rfl, hbf⟩
            have HZf := Lib.hid (HZ8.out.below hbf HZ8.out.lt)
            have HBf := Lib.hid (HB8.out.trans (hbf.mono HB8.out.size))
            clear hbf HZ8 HB8
            go_wp2_with (refine wpList_sfx rfl _ _ rfl rfl rfl HZf.out ?_)
            refine bodyPost_ret (ret_fx rfl _ _ w.heap.size (fm0 ty fl st (-1)) 2 1 rfl (HZf.out.setRow _)) rfl ?_
            rw [hE]
            exact ⟨_, rfl, FmR.hd _ _ _ _ _, below_setRow HBf.out _ _ (Nat.le_refl _)⟩
        have hE := HG.out.trans (HE4.out.1 (by unfold growN; exact if_neg hgr))
        have HE := Lib.hid hE
        clear hE HE4 HG k2
        by_cases h8 : ty = 8
        · have hw0 : F.win ≠ 0 := fun e1 => hgr ⟨h8, e1⟩
          have e8 : ((ty : Int) == 8) = true := beq_iff_eq.2 (by omega)
          have e9 : ((F.win : Int) == 0) = false := ne_int (b := 0) (by omega)
          clear hgr h8
          have hxc : Hid (x7.c = #[.int .u8 x7.ty, .int .u8 x7.fl, .int .u32 x7.st, .slice x7.dA x7.dn x7.dc, .int .i64 x7.pad, .int .u32 x7.code, .int .u32 x7.oth, .int .u8 x7.wt, .bool x7.al, .int .u32 x7.win, .slice x7.sA x7.sn x7.sc]) := by show _ = _; unfold Fm.c; rfl
          have hxf : Hid (fxc x7 0 0 = #[.int .u8 x7.ty, .int .u8 x7.fl, .int .u32 x7.st, .slice x7.dA x7.dn x7.dc, .int .i64 x7.pad, .int .u32 x7.code, .int .u32 x7.oth, .int .u8 x7.wt, .bool x7.al, .int .u32 x7.win, .slice x7.sA x7.sn x7.sc, .int .u8 0, .int .u32 0]) := by show _ = _; unfold fxc; rfl
          go_wp2_with (first | (refine wpList_fm rfl _ rfl rfl HF8.out ?_; rw [hxc.out]) | (refine wpList_sfx (x := x7) (s := 0) (c := 0) rfl _ _ rfl rfl (by rw [hxf.out]; rfl) HZ8.out ?_))
          refine bodyPost_ret (ret_fx rfl _ _ w.heap.size x7 0 0 rfl (HZ8.out.setRow _)) rfl ?_
          rw [HE.out]
          exact ⟨_, rfl, (HR8.out.setRow (by omega) _).mono hb6, below_setRow HB8.out _ _ (Nat.le_refl _)⟩
        have e8 : ((ty : Int) == 8) = false := ne_int (b := 8) (by omega)
        clear hgr h8
        have hxc : Hid (x7.c = #[.int .u8 x7.ty, .int .u8 x7.fl, .int .u32 x7.st, .slice x7.dA x7.dn x7.dc, .int .i64 x7.pad, .int .u32 x7.code, .int .u32 x7.oth, .int .u8 x7.wt, .bool x7.al, .int .u32 x7.win, .slice x7.sA x7.sn x7.sc]) := by show _ = _; unfold Fm.c; rfl
        have hxf : Hid (fxc x7 0 0 = #[.int .u8 x7.ty, .int .u8 x7.fl, .int .u32 x7.st, .slice x7.dA x7.dn x7.dc, .int .i64 x7.pad, .int .u32 x7.code, .int .u32 x7.oth, .int .u8 x7.wt, .bool x7.al, .int .u32 x7.win, .slice x7.sA x7.sn x7.sc, .int .u8 0, .int .u32 0]) := by show _ = _; unfold fxc; rfl
        go_wp2_with (first | (refine wpList_fm rfl _ rfl rfl HF8.out ?_; rw [hxc.out]) | (refine wpList_sfx (x := x7) (s := 0) (c := 0) rfl _ _ rfl rfl (by rw [hxf.out]; rfl) HZ8.out ?_))
        refine bodyPost_ret (ret_fx rfl _ _ w.heap.size x7 0 0 rfl (HZ8.out.setRow _)) rfl ?_
        rw [HE.out]
        exact ⟨_, rfl, (HR8.out.setRow (by omega) _).mono hb6, below_setRow HB8.out _ _ (Nat.le_refl _)⟩
end Go.Proofs.YtnjnepploockiaaDoor
