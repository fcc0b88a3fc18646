/-
  frame's read, by its contract. Conditions: a frame of which type, flags and stream alone are told; the payload is read.
-/
import Derived.Test.YtooaajnkiokpnaaGreatDoorFgetf
namespace Go.Proofs.YtooaajnkiokpnaaGreatDoor
open Go.RowKit Go.WideShapes

theorem Fm.one (x : Fm) : x.c.all (·.oneCell') = true := by unfold Fm.c; kernel_rfl
section
variable {w : World} {g : Nat} {x y : Fm}
/-- A whole frame, stored. -/
theorem wpList_sfm {ops : Array Oper} {rest : List Oper} {o : Oper} {a : Act} {w : World} {Q : Exit → Act → World → Prop} (hgd : o.guard = none) (p q : Operand) (ho : o.op = .store 66 p q) {g : Nat} (hp : a.eval p = .pointer (some ⟨g, 0, none⟩)) {x y : Fm} (hq : a.eval q = .agg x.c) (h : Row w g 66 y.c)
    (hk : wpList Tryz.prog ops Q rest (a.put o.dst undef) (w.setRow g x.c)) : wpList Tryz.prog ops Q (o :: rest) a w :=
  wpList_store_row hgd 66 p q ho g x.c hp hq 66 y.c h (Fm.size x) rfl (Fm.one x) hk
theorem step_sfm {ops : Array Oper} {o : Oper} {a : Act} {w : World} {K : Act → World → Prop} {Q : Exit → Act → World → Prop} {E : Prop} (hgd : o.guard = none) (p q : Operand) (ho : o.op = .store 66 p q) {g : Nat} (hp : a.eval p = .pointer (some ⟨g, 0, none⟩)) {x y : Fm} (hq : a.eval q = .agg x.c) (h : Row w g 66 y.c)
    (hk : K (a.put o.dst undef) (w.setRow g x.c)) : if Region.wanted o (yielded ops a.tmps) = true then Oper.wp Tryz.prog o a w K Q else E := by
  have hw : Region.wanted o (yielded ops a.tmps) = true := by simp [Region.wanted, hgd]
  rw [if_pos hw]
  exact wp_store_row 66 p q ho g x.c hp hq 66 y.c h (Fm.size x) rfl (Fm.one x) hk
theorem ret_fe {fn : Func} {p q : Tmp} (h : fn.results = #[.cell p 66, .tmp q]) (tmps : Array Value) (w : World) (g : Nat) (x : Fm) (v : Value) (hp : tmps.getD p undef = .pointer (some ⟨g, 0, none⟩)) (hR : Row w g 66 x.c) (hq : tmps.getD q undef = v) :
    (results fn tmps).run Tryz.prog w = .ok (.tuple #[.agg x.c, v]) w := by
  have hl := run_loadVar_row (P := Tryz.prog) w g 66 66 x.c (0, 0) _ hR Tryz.underlying66 rfl (Fm.size x)
  have hp' : tmps[p]?.getD undef = .pointer (some ⟨g, 0, none⟩) := by simpa using hp
  have hq' : tmps[q]?.getD undef = v := by simpa using hq
  simp only [results, h]
  simp [hp', hq', asAddr, hl]
end
theorem FmIs.mono {w : World} {base base' : Nat} {x : Fm} {F : Frm} (h : FmIs w base x F) (hb : base' ≤ base) : FmIs w base' x F := ⟨h.eq, OwS.mono h.dat hb, OwS.mono h.sets hb⟩
theorem FmIs.below {w w' : World} {base : Nat} {x : Fm} {F : Frm} (h : FmIs w base x F) (hb : Below w.heap.size w w') : FmIs w' base x F := ⟨h.eq, OwS.below h.dat hb, OwS.below h.sets hb⟩
theorem FmIs.setRow {w : World} {base g : Nat} {x : Fm} {F : Frm} (h : FmIs w base x F) (hg : g < base) (c : Array Value) : FmIs (w.setRow g c) base x F :=
  ⟨h.eq, OwS.setRow h.dat (fun e => by have := (OwS.lt h.dat g e).1; omega) c, OwS.setRow h.sets (fun e => by have := (OwS.lt h.sets g e).1; omega) c⟩
theorem FmIs.keep {w w' : World} {base : Nat} {x : Fm} {F : Frm} (h : FmIs w base x F) (hk : ∀ k, base ≤ k → k < w.heap.size → w'.heap[k]? = w.heap[k]?) : FmIs w' base x F :=
  ⟨h.eq, OwS.keep h.dat fun k hk' => hk k (OwS.lt h.dat k hk').1 (OwS.lt h.dat k hk').2, OwS.keep h.sets fun k hk' => hk k (OwS.lt h.sets k hk').1 (OwS.lt h.sets k hk').2⟩

/-- What read leaves. -/
def ReadPost (w : World) (r : Frm × Nat × Nat) (e : Ending) (w' : World) : Prop :=
  ∃ (x : Fm) (v : Value), e = .returned (.tuple #[.agg x.c, v]) ∧ EV w' v r.2.1 r.2.2 ∧ (r.2.1 = 0 → FmIs w' w.heap.size x r.1) ∧ Below w.heap.size w w'
theorem EV.keep {w w' : World} {v : Value} {s c : Nat} (h : EV w v s c) (hk : ∀ k, v = .iface 172 (.pointer (some ⟨k, 0, none⟩)) → w'.heap[k]? = w.heap[k]?) : EV w' v s c := by
  rcases h with h | ⟨h1, g, rfl, h2⟩
  · exact .inl h
  · exact .inr ⟨h1, g, rfl, (hk g rfl).trans h2⟩

theorem EV.keep' {w : World} {v : Value} {s c g : Nat} (h : EV w v s c) {x y : Fm} (hR : Row w g 66 y.c) : EV (w.setRow g x.c) v s c := by
  rcases h with h | ⟨h1, ge, rfl, h2⟩
  · exact .inl h
  · refine .inr ⟨h1, ge, rfl, h2.setRow' (fun e1 => ?_) _⟩
    rw [e1] at h2
    have h3 := (show w.heap[g]? = _ from h2).symm.trans (show w.heap[g]? = _ from hR)
    simp at h3
theorem padN_len {ty fl : Nat} {s r : List UInt8} {p : Int} (h : padN ty fl s = .ok (p, r)) : r.length ≤ s.length := by
  unfold padN at h
  split at h
  · cases s with
    | nil => cases h
    | cons a t =>
      simp only at h
      split at h
      · cases h
      · injection h with h
        injection h with h1 h2
        rw [← h2, List.length_take, List.length_cons]
        omega
  · injection h with h
    injection h with h1 h2
    rw [h2]
    exact Nat.le_refl _
attribute [local irreducible] Fm.c
set_option maxRecDepth 100000 in
set_option maxHeartbeats 4000000 in
theorem read_any {ty fl st : Nat} (hf : fl < 256) {A : Option Addr} {c : Nat} {s : List UInt8} {w : World} (hr : RdB w w.heap.size A s) (hc : s.length ≤ c) (hs : s.length ≤ 100000) :
    Calls Tryz.prog 163 #[.agg (fm0 ty fl st (-1)).c, .slice A s.length c] w (ReadPost w (readN ty fl st s)) := by
  have hzc : (fm0 0 0 0 0).c = #[.int .u8 0, .int .u8 0, .int .u32 0, .slice none 0 0, .int .i64 0, .int .u32 0, .int .u32 0, .int .u8 0, .bool false, .int .u32 0, .slice none 0 0] := by unfold Fm.c; rfl
  have HX : Hid (Row ((w.alloc (.cells (fm0 ty fl st (-1)).c 66)).alloc (.cells #[.int .u8 0, .int .u8 0, .int .u32 0, .slice none 0 0, .int .i64 0, .int .u32 0, .int .u32 0, .int .u8 0, .bool false, .int .u32 0, .slice none 0 0] 66)) w.heap.size 66 (fm0 ty fl st (-1)).c) := (Row.new w _ _).alloc _
  have HZ : Hid (Row ((w.alloc (.cells (fm0 ty fl st (-1)).c 66)).alloc (.cells #[.int .u8 0, .int .u8 0, .int .u32 0, .slice none 0 0, .int .i64 0, .int .u32 0, .int .u32 0, .int .u8 0, .bool false, .int .u32 0, .slice none 0 0] 66)) (w.heap.size + 1) 66 (fm0 0 0 0 0).c) := by show Row _ _ _ _; rw [hzc]; exact Row.made _ _ _ (by simp)
  have HB : Hid (Below w.heap.size w ((w.alloc (.cells (fm0 ty fl st (-1)).c 66)).alloc (.cells #[.int .u8 0, .int .u8 0, .int .u32 0, .slice none 0 0, .int .i64 0, .int .u32 0, .int .u32 0, .int .u8 0, .bool false, .int .u32 0, .slice none 0 0] 66))) := ((Below.refl _ _).alloc (Nat.le_refl _) _).alloc (by simp) _
  have HRd := Lib.hid hr
  have hms := mayStream_any (fm0 ty fl st (-1))
  clear hr hzc
  by_cases h1 : 16384 < s.length
  · have hE : readN ty fl st s = (hdN ty fl st, 1, 6) := by unfold readN; rw [if_pos h1]
    rw [hE]
    have h1' : (16384 : Int) < (s.length : Int) := by omega
    clear hE hms
    go_enter Tryz.func163, Tryz.ntmps163
    go_wp2_with fail
    generalize ((w.alloc (.cells (fm0 ty fl st (-1)).c 66)).alloc (.cells #[.int .u8 0, .int .u8 0, .int .u32 0, .slice none 0 0, .int .i64 0, .int .u32 0, .int .u32 0, .int .u8 0, .bool false, .int .u32 0, .slice none 0 0] 66)) = w0 at *
    refine wp_region_held_drew (S := fun w' => Row w' w.heap.size 66 (fm0 ty fl st (-1)).c ∧ True) (by kernel_rfl) ⟨HX.out, trivial⟩ (fun hHeld => ?_)
    refine wpAnyH_take (i := 0) (v := _) rfl (by kernel_rfl) (by kernel_rfl) (by kernel_rfl) (fun _ _ _ h => h) (yields_fm (by rfl) _ rfl rfl (fun _ hSw => hSw.1)) (by assumption) ?rest0
    try simp only [Act.put, List.getElem_toArray, List.getElem_cons_zero, List.getElem_cons_succ, List.setIfInBounds_toArray, List.set_cons_zero, List.set_cons_succ]
    refine wpAnyH_ready (rs := [1]) (by kernel_rfl) (by simp) ?_
    refine AllReadyH.cons rfl (fun K hK => ?_) AllReadyH.nil
    go_simp
    go_at_call 102
    refine (conn_any _ _).mono ?_
    rintro e w5 ⟨ge, rfl, hE5, hb5⟩
    have HX5 := Lib.hid ((show Row w0.drew _ _ _ from HX.out).below hb5 HX.out.lt)
    have HZ5 := Lib.hid ((show Row w0.drew _ _ _ from HZ.out).below hb5 HZ.out.lt)
    have HB5 := Lib.hid ((HB.out.drew).trans (hb5.mono HB.out.size))
    have hge : ge ≠ w.heap.size + 1 := fun e1 => by
      have h1 := hE5
      rw [e1] at h1
      have h2 := (show w5.heap[w.heap.size + 1]? = _ from h1).symm.trans (show w5.heap[w.heap.size + 1]? = _ from HZ5.out)
      simp at h2
    have HE5 := Lib.hid hE5
    refine hK.out _ _ ⟨HX5.out, trivial⟩ (fun hHeld => ?_)
    clear hK K hb5 hE5 hHeld
    try simp only [Act.put, List.getElem_toArray, List.getElem_cons_zero, List.getElem_cons_succ, List.setIfInBounds_toArray, List.set_cons_zero, List.set_cons_succ]
    refine wpAnyH_ready (rs := [2]) (by kernel_rfl) (by simp) ?_
    refine AllReadyH.cons rfl (fun K hK => ?_) AllReadyH.nil
    refine step_sfm rfl (.tmp 4) (.tmp 10) rfl rfl rfl HZ5.out ?_
    have HX6 := Lib.hid (HX5.out.setRow' (k := w.heap.size + 1) (by omega) (fm0 ty fl st (-1)).c)
    have HZ6 := Lib.hid (HZ5.out.setRow (fm0 ty fl st (-1)).c)
    have HE6 := Lib.hid (HE5.out.setRow' (k := w.heap.size + 1) hge (fm0 ty fl st (-1)).c)
    have HB6 := Lib.hid (below_setRow HB5.out (w.heap.size + 1) (fm0 ty fl st (-1)).c (by omega))
    refine hK.out _ _ ⟨HX6.out, trivial⟩ (fun hHeld => ?_)
    clear hK K hHeld HX5 HZ5 HE5 HB5
    generalize w5.setRow (w.heap.size + 1) (fm0 ty fl st (-1)).c = w6 at *
    have hHeld : Row w6 w.heap.size 66 (fm0 ty fl st (-1)).c ∧ True := ⟨HX6.out, trivial⟩
    try simp only [Act.put, List.getElem_toArray, List.getElem_cons_zero, List.getElem_cons_succ, List.setIfInBounds_toArray, List.set_cons_zero, List.set_cons_succ]
    refine wpAnyH_take (i := 3) (v := ?v3q1) rfl (by kernel_rfl) (by kernel_rfl) (by kernel_rfl) (fun _ _ _ h => h) (Or.inl ⟨by rfl, ?hy3q1⟩) (by assumption) ?rest3q1
    case hy3q1 => (intro w hSw; (try dsimp only at hSw); go_simp <;> with_reducible rfl)
    try simp only [Act.put, List.getElem_toArray, List.getElem_cons_zero, List.getElem_cons_succ, List.setIfInBounds_toArray, List.set_cons_zero, List.set_cons_succ]
    refine wpAnyH_done (by kernel_rfl) ?_ _
    go_wp2_with fail
    exact bodyPost_ret (ret_fe rfl _ _ (w.heap.size + 1) _ _ rfl HZ6.out rfl) rfl ⟨_, _, rfl, .inr ⟨by simp, ge, rfl, HE6.out⟩, fun h => by simp at h, HB6.out⟩
  have h1' : decide ((16384 : Int) < (s.length : Int)) = false := by simp; omega
  by_cases h2 : wrongB ty st = true
  · have hE : readN ty fl st s = (hdN ty fl st, 1, 1) := by unfold readN; rw [if_neg h1, if_pos h2]
    rw [hE]
    rw [show mayStreamB (fm0 ty fl st (-1)).ty (fm0 ty fl st (-1)).st = false by show (!wrongB ty st) = false; rw [h2]; rfl] at hms
    clear hE h2
    go_enter Tryz.func163, Tryz.ntmps163
    go_wp2_with (refine wpList_fm rfl _ rfl rfl HX.out ?_)
    generalize ((w.alloc (.cells (fm0 ty fl st (-1)).c 66)).alloc (.cells #[.int .u8 0, .int .u8 0, .int .u32 0, .slice none 0 0, .int .i64 0, .int .u32 0, .int .u32 0, .int .u8 0, .bool false, .int .u32 0, .slice none 0 0] 66)) = w0 at *
    refine (hms _).mono ?_
    rintro e w1 ⟨rfl, hb1⟩
    have HX1 := Lib.hid (HX.out.below hb1 HX.out.lt)
    have HZ1 := Lib.hid (HZ.out.below hb1 HZ.out.lt)
    have HB1 := Lib.hid (HB.out.trans (hb1.mono HB.out.size))
    clear hb1 hms HX HZ HB
    go_wp2_with fail
    refine wp_region_held_drew (S := fun w' => Row w' w.heap.size 66 (fm0 ty fl st (-1)).c ∧ True) (by kernel_rfl) ⟨HX1.out, trivial⟩ (fun hHeld => ?_)
    refine wpAnyH_take (i := 0) (v := _) rfl (by kernel_rfl) (by kernel_rfl) (by kernel_rfl) (fun _ _ _ h => h) (yields_fm (by rfl) _ rfl rfl (fun _ hSw => hSw.1)) (by assumption) ?rest0q2
    try simp only [Act.put, List.getElem_toArray, List.getElem_cons_zero, List.getElem_cons_succ, List.setIfInBounds_toArray, List.set_cons_zero, List.set_cons_succ]
    refine wpAnyH_ready (rs := [1]) (by kernel_rfl) (by simp) ?_
    refine AllReadyH.cons rfl (fun K hK => ?_) AllReadyH.nil
    go_simp
    go_at_call 102
    refine (conn_any _ _).mono ?_
    rintro e w5 ⟨ge, rfl, hE5, hb5⟩
    have HX5 := Lib.hid ((show Row w1.drew _ _ _ from HX1.out).below hb5 HX1.out.lt)
    have HZ5 := Lib.hid ((show Row w1.drew _ _ _ from HZ1.out).below hb5 HZ1.out.lt)
    have HB5 := Lib.hid ((HB1.out.drew).trans (hb5.mono HB1.out.size))
    have hge : ge ≠ w.heap.size + 1 := fun e1 => by
      have h1 := hE5
      rw [e1] at h1
      have h2 := (show w5.heap[w.heap.size + 1]? = _ from h1).symm.trans (show w5.heap[w.heap.size + 1]? = _ from HZ5.out)
      simp at h2
    have HE5 := Lib.hid hE5
    refine hK.out _ _ ⟨HX5.out, trivial⟩ (fun hHeld => ?_)
    clear hK K hb5 hE5 hHeld
    try simp only [Act.put, List.getElem_toArray, List.getElem_cons_zero, List.getElem_cons_succ, List.setIfInBounds_toArray, List.set_cons_zero, List.set_cons_succ]
    refine wpAnyH_ready (rs := [2]) (by kernel_rfl) (by simp) ?_
    refine AllReadyH.cons rfl (fun K hK => ?_) AllReadyH.nil
    refine step_sfm rfl (.tmp 4) (.tmp 15) rfl rfl rfl HZ5.out ?_
    have HX6 := Lib.hid (HX5.out.setRow' (k := w.heap.size + 1) (by omega) (fm0 ty fl st (-1)).c)
    have HZ6 := Lib.hid (HZ5.out.setRow (fm0 ty fl st (-1)).c)
    have HE6 := Lib.hid (HE5.out.setRow' (k := w.heap.size + 1) hge (fm0 ty fl st (-1)).c)
    have HB6 := Lib.hid (below_setRow HB5.out (w.heap.size + 1) (fm0 ty fl st (-1)).c (by omega))
    refine hK.out _ _ ⟨HX6.out, trivial⟩ (fun hHeld => ?_)
    clear hK K hHeld HX5 HZ5 HE5 HB5
    generalize w5.setRow (w.heap.size + 1) (fm0 ty fl st (-1)).c = w6 at *
    have hHeld : Row w6 w.heap.size 66 (fm0 ty fl st (-1)).c ∧ True := ⟨HX6.out, trivial⟩
    try simp only [Act.put, List.getElem_toArray, List.getElem_cons_zero, List.getElem_cons_succ, List.setIfInBounds_toArray, List.set_cons_zero, List.set_cons_succ]
    refine wpAnyH_take (i := 3) (v := ?v3q3) rfl (by kernel_rfl) (by kernel_rfl) (by kernel_rfl) (fun _ _ _ h => h) (Or.inl ⟨by rfl, ?hy3q3⟩) (by assumption) ?rest3q3
    case hy3q3 => (intro w hSw; (try dsimp only at hSw); go_simp <;> with_reducible rfl)
    try simp only [Act.put, List.getElem_toArray, List.getElem_cons_zero, List.getElem_cons_succ, List.setIfInBounds_toArray, List.set_cons_zero, List.set_cons_succ]
    refine wpAnyH_done (by kernel_rfl) ?_ _
    go_wp2_with fail
    exact bodyPost_ret (ret_fe rfl _ _ (w.heap.size + 1) _ _ rfl HZ6.out rfl) rfl ⟨_, _, rfl, .inr ⟨by simp, ge, rfl, HE6.out⟩, fun h => by simp at h, HB6.out⟩
  rw [show mayStreamB (fm0 ty fl st (-1)).ty (fm0 ty fl st (-1)).st = true by show (!wrongB ty st) = true; rw [Bool.eq_false_iff.2 h2]; rfl] at hms
  cases hpd : padN ty fl s with
  | error cd =>
    have hE : readN ty fl st s = (hdN ty fl st, 1, cd) := by unfold readN; rw [if_neg h1, if_neg h2, hpd]
    rw [hE]
    have hgp := fun (W : World) (h3 : Row W w.heap.size 66 (fm0 ty fl st (-1)).c) (h4 : RdB W w.heap.size A s) (h5 : w.heap.size ≤ W.heap.size) => getPadding_any (x := fm0 ty fl st (-1)) h3 hf rfl h4 h5 (Nat.le_refl _) hc (by omega)
    unfold PadPost at hgp
    rw [show padN (fm0 ty fl st (-1)).ty (fm0 ty fl st (-1)).fl s = .error cd from hpd] at hgp
    simp only at hgp
    clear hE h2 hpd h1
    go_enter Tryz.func163, Tryz.ntmps163
    go_wp2_with (refine wpList_fm rfl _ rfl rfl HX.out ?_)
    generalize ((w.alloc (.cells (fm0 ty fl st (-1)).c 66)).alloc (.cells #[.int .u8 0, .int .u8 0, .int .u32 0, .slice none 0 0, .int .i64 0, .int .u32 0, .int .u32 0, .int .u8 0, .bool false, .int .u32 0, .slice none 0 0] 66)) = w0 at *
    refine (hms _).mono ?_
    rintro e w1 ⟨rfl, hb1⟩
    have HX1 := Lib.hid (HX.out.below hb1 HX.out.lt)
    have HZ1 := Lib.hid (HZ.out.below hb1 HZ.out.lt)
    have HB1 := Lib.hid (HB.out.trans (hb1.mono HB.out.size))
    clear hb1 hms HX HZ HB
    go_wp2_with fail
    refine (hgp w1 HX1.out (HRd.out.below HB1.out) HB1.out.size).mono ?_
    rintro e w2 ⟨⟨ge, rfl, hE2⟩, hR2, hF2⟩
    have HX2 := Lib.hid hR2
    have HZ2 := Lib.hid (hF2.row (by omega) HZ1.out)
    have HB2 := Lib.hid (HB1.out.trans (hF2.below (fun k hk _ => by omega) HB1.out.size))
    have HE2 := Lib.hid hE2
    have hge : ge ≠ w.heap.size + 1 := fun e1 => by
      have h1 := hE2
      rw [e1] at h1
      have h2 := (show w2.heap[w.heap.size + 1]? = _ from h1).symm.trans (show w2.heap[w.heap.size + 1]? = _ from HZ2.out)
      simp at h2
    clear hE2 hR2 hF2 hgp HX1 HZ1 HB1
    go_wp2_with (first | (refine wpList_fm rfl _ rfl rfl HX2.out ?_) | (refine wpList_sfm rfl _ _ rfl rfl rfl HZ2.out ?_))
    exact bodyPost_ret (ret_fe rfl _ _ (w.heap.size + 1) (fm0 ty fl st (-1)) _ rfl (HZ2.out.setRow _) rfl) rfl ⟨_, _, rfl, .inr ⟨by simp, ge, rfl, HE2.out.setRow' hge _⟩, fun h => by simp at h, below_setRow HB2.out _ _ (by omega)⟩
  | ok pr =>
    obtain ⟨pad, r⟩ := pr
    have hgp := fun (W : World) (h3 : Row W w.heap.size 66 (fm0 ty fl st (-1)).c) (h4 : RdB W w.heap.size A s) (h5 : w.heap.size ≤ W.heap.size) => getPadding_any (x := fm0 ty fl st (-1)) h3 hf rfl h4 h5 (Nat.le_refl _) hc (by omega)
    unfold PadPost at hgp
    rw [show padN (fm0 ty fl st (-1)).ty (fm0 ty fl st (-1)).fl s = .ok (pad, r) from hpd] at hgp
    simp only at hgp
    rw [show ({ fm0 ty fl st (-1) with pad := pad } : Fm) = fm0 ty fl st pad from rfl] at hgp
    have hrl : r.length ≤ s.length := padN_len hpd
    have hcl := checkLength_any (fm0 ty fl st pad) hf r.length (by omega)
    cases hlb : lenB ty fl r.length with
    | false =>
      have hE : readN ty fl st s = (hdN ty fl st, if ty = 2 then 2 else 1, 6) := by unfold readN; rw [if_neg h1, if_neg h2, hpd]; simp only; rw [if_pos hlb]
      rw [hE]
      rw [show lenF (fm0 ty fl st pad).ty (fm0 ty fl st pad).fl r.length = (if ty = 2 then 2 else 1) by unfold lenF; rw [if_neg (by rw [show (fm0 ty fl st pad).ty = ty from rfl, show (fm0 ty fl st pad).fl = fl from rfl, hlb]; simp)]; rfl] at hcl
      obtain ⟨sc, hsc⟩ : ∃ sc : Nat, sc = if ty = 2 then 2 else 1 := ⟨_, rfl⟩
      have hsc0 : sc ≠ 0 := by rw [hsc]; split <;> omega
      rw [← hsc] at hcl ⊢
      clear hE h2 hpd h1 hlb hsc
      go_enter Tryz.func163, Tryz.ntmps163
      go_wp2_with (refine wpList_fm rfl _ rfl rfl HX.out ?_)
      generalize ((w.alloc (.cells (fm0 ty fl st (-1)).c 66)).alloc (.cells #[.int .u8 0, .int .u8 0, .int .u32 0, .slice none 0 0, .int .i64 0, .int .u32 0, .int .u32 0, .int .u8 0, .bool false, .int .u32 0, .slice none 0 0] 66)) = w0 at *
      refine (hms _).mono ?_
      rintro e w1 ⟨rfl, hb1⟩
      have HX1 := Lib.hid (HX.out.below hb1 HX.out.lt)
      have HZ1 := Lib.hid (HZ.out.below hb1 HZ.out.lt)
      have HB1 := Lib.hid (HB.out.trans (hb1.mono HB.out.size))
      clear hb1 hms HX HZ HB
      go_wp2_with fail
      refine (hgp w1 HX1.out (HRd.out.below HB1.out) HB1.out.size).mono ?_
      rintro e w2 ⟨⟨A2, c2, rfl, hc2, hRd2⟩, hR2, hF2⟩
      have HX2 := Lib.hid hR2
      have HZ2 := Lib.hid (hF2.row (by omega) HZ1.out)
      have HB2 := Lib.hid (HB1.out.trans (hF2.below (fun k hk _ => by omega) HB1.out.size))
      clear hR2 hF2 hgp HX1 HZ1 HB1 hRd2
      go_wp2_with (refine wpList_fm rfl _ rfl rfl HX2.out ?_)
      refine (hcl _).mono ?_
      rintro e w3 ⟨⟨v3, rfl, hv3⟩, hb3⟩
      rcases hv3 with ⟨_, h0⟩ | ⟨_, ge, rfl, hE3⟩
      · exact absurd h0 hsc0
      · have HX3 := Lib.hid (HX2.out.below hb3 HX2.out.lt)
        have HZ3 := Lib.hid (HZ2.out.below hb3 HZ2.out.lt)
        have HB3 := Lib.hid (HB2.out.trans (hb3.mono HB2.out.size))
        have HE3 := Lib.hid hE3
        have hge : ge ≠ w.heap.size + 1 := fun e1 => by
          have h1 := hE3
          rw [e1] at h1
          have h2 := (show w3.heap[w.heap.size + 1]? = _ from h1).symm.trans (show w3.heap[w.heap.size + 1]? = _ from HZ3.out)
          simp at h2
        clear hb3 hE3 hcl HX2 HZ2 HB2
        go_wp2_with (first | (refine wpList_fm rfl _ rfl rfl HX3.out ?_) | (refine wpList_sfm rfl _ _ rfl rfl rfl HZ3.out ?_))
        exact bodyPost_ret (ret_fe rfl _ _ (w.heap.size + 1) (fm0 ty fl st pad) _ rfl (HZ3.out.setRow _) rfl) rfl ⟨_, _, rfl, .inr ⟨hsc0, ge, rfl, HE3.out.setRow' hge _⟩, fun h => absurd h hsc0, below_setRow HB3.out _ _ (by omega)⟩
    | true =>
      have hL : LenP ty fl r.length := of_decide_eq_true hlb
      rw [show lenF (fm0 ty fl st pad).ty (fm0 ty fl st pad).fl r.length = 0 from if_pos hlb] at hcl
      have hgf := fun (W : World) (A2 : Option Addr) (c2 : Nat) (h3 : Row W w.heap.size 66 (fm0 ty fl st pad).c) (h4 : RdB W w.heap.size A2 r) (h5 : w.heap.size ≤ W.heap.size) (h6 : r.length ≤ c2) => getFields_any (pad := pad) h3 hf h4 h5 (Nat.le_refl _) h6 (by omega) hL
      have hhd := bodyN_head ty fl st pad r
      have hRd : ∃ G s0 c0, readN ty fl st s = (G, s0, c0) ∧ s0 = growN ty st (bodyN ty fl st pad r).win ∧ (s0 = 0 → G = bodyN ty fl st pad r ∧ c0 = 0) ∧ (s0 ≠ 0 → c0 = 1) := by
        by_cases hg : growN ty st (bodyN ty fl st pad r).win = 0
        · exact ⟨_, _, _, by unfold readN; rw [if_neg h1, if_neg h2, hpd]; simp only; rw [if_neg (by rw [hlb]; simp), if_pos hg], hg.symm, fun _ => ⟨rfl, rfl⟩, fun h => absurd rfl h⟩
        · exact ⟨_, _, _, by unfold readN; rw [if_neg h1, if_neg h2, hpd]; simp only; rw [if_neg (by rw [hlb]; simp), if_neg hg], rfl, fun h => absurd h hg, fun _ => rfl⟩
      obtain ⟨G, s0, c0, hE, hs0, hG0, hG1⟩ := hRd
      rw [hE]
      obtain ⟨F, hF⟩ : ∃ F, F = bodyN ty fl st pad r := ⟨_, rfl⟩
      rw [← hF] at hgf hhd hs0 hG0
      obtain ⟨hF1, hF2, hF3, hF4⟩ := hhd
      have HS0 := Lib.hid hs0
      have HG0 := Lib.hid hG0
      have HG1 := Lib.hid hG1
      have HF1 := Lib.hid hF1
      have HF3 := Lib.hid hF3
      clear hE h2 hpd h1 hlb hL hs0 hG0 hG1 hF1 hF2 hF3 hF4 hF
      go_enter Tryz.func163, Tryz.ntmps163
      go_wp2_with (refine wpList_fm rfl _ rfl rfl HX.out ?_)
      generalize ((w.alloc (.cells (fm0 ty fl st (-1)).c 66)).alloc (.cells #[.int .u8 0, .int .u8 0, .int .u32 0, .slice none 0 0, .int .i64 0, .int .u32 0, .int .u32 0, .int .u8 0, .bool false, .int .u32 0, .slice none 0 0] 66)) = w0 at *
      refine (hms _).mono ?_
      rintro e w1 ⟨rfl, hb1⟩
      have HX1 := Lib.hid (HX.out.below hb1 HX.out.lt)
      have HZ1 := Lib.hid (HZ.out.below hb1 HZ.out.lt)
      have HB1 := Lib.hid (HB.out.trans (hb1.mono HB.out.size))
      clear hb1 hms HX HZ HB
      go_wp2_with fail
      refine (hgp w1 HX1.out (HRd.out.below HB1.out) HB1.out.size).mono ?_
      rintro e w2 ⟨⟨A2, c2, rfl, hc2, hRd2⟩, hR2, hF2⟩
      have HX2 := Lib.hid hR2
      have HZ2 := Lib.hid (hF2.row (by omega) HZ1.out)
      have HB2 := Lib.hid (HB1.out.trans (hF2.below (fun k hk _ => by omega) HB1.out.size))
      have HRd2 := Lib.hid hRd2
      clear hR2 hF2 hgp HX1 HZ1 HB1 hRd2
      go_wp2_with (refine wpList_fm rfl _ rfl rfl HX2.out ?_)
      refine (hcl _).mono ?_
      rintro e w3 ⟨⟨v3, rfl, hv3⟩, hb3⟩
      rcases hv3 with ⟨rfl, _⟩ | ⟨h0, _⟩
      · have HX3 := Lib.hid (HX2.out.below hb3 HX2.out.lt)
        have HZ3 := Lib.hid (HZ2.out.below hb3 HZ2.out.lt)
        have HB3 := Lib.hid (HB2.out.trans (hb3.mono HB2.out.size))
        have HRd3 := Lib.hid (HRd2.out.below (hb3.mono HB2.out.size))
        clear hb3 hcl HX2 HZ2 HB2 HRd2
        go_wp2_with fail
        refine (hgf w3 A2 c2 HX3.out HRd3.out HB3.out.size hc2).mono ?_
        rintro e w4 ⟨rfl, x4, hR4, hM4, hF4⟩
        have hz3 : w.heap.size + 1 < w3.heap.size := HZ3.out.lt
        have HX4 := Lib.hid hR4
        have HZ4 := Lib.hid (hF4.row (by omega) HZ3.out)
        have HB4 := Lib.hid (HB3.out.trans (hF4.below (fun k hk _ => by omega) HB3.out.size))
        have HM4 := Lib.hid (FmIs.mono hM4 (show w.heap.size + 2 ≤ w3.heap.size by omega))
        have hcg := checkGrowth_any x4
        have hx : x4.ty = ty ∧ x4.st = st ∧ x4.win = F.win := by rw [hM4.eq]; exact ⟨HF1.out, HF3.out, rfl⟩
        rw [hx.1, hx.2.1, hx.2.2, ← HS0.out] at hcg
        clear hR4 hM4 hF4 hgf HX3 HZ3 HB3 HRd3 hz3 hx
        go_wp2_with fail
        refine wp_region_held_drew (S := fun w' => Row w' w.heap.size 66 x4.c ∧ True) (by kernel_rfl) ⟨HX4.out, trivial⟩ (fun hHeld => ?_)
        refine wpAnyH_take (i := 0) (v := _) rfl (by kernel_rfl) (by kernel_rfl) (by kernel_rfl) (fun _ _ _ h => h) (yields_fm (by rfl) _ rfl rfl (fun _ hSw => hSw.1)) (by assumption) ?rest0q4
        try simp only [Act.put, List.getElem_toArray, List.getElem_cons_zero, List.getElem_cons_succ, List.setIfInBounds_toArray, List.set_cons_zero, List.set_cons_succ]
        refine wpAnyH_take (i := 1) (v := _) rfl (by kernel_rfl) (by kernel_rfl) (by kernel_rfl) (fun _ _ _ h => h) (yields_fm (by rfl) _ rfl rfl (fun _ hSw => hSw.1)) (by assumption) ?rest1q4
        try simp only [Act.put, List.getElem_toArray, List.getElem_cons_zero, List.getElem_cons_succ, List.setIfInBounds_toArray, List.set_cons_zero, List.set_cons_succ]
        refine wpAnyH_ready (rs := [2]) (by kernel_rfl) (by simp) ?_
        refine AllReadyH.cons rfl (fun K hK => ?_) AllReadyH.nil
        go_simp
        go_at_call 194
        refine (hcg _).mono ?_
        rintro e w5 ⟨⟨v5, rfl, hv5⟩, hb5⟩
        have HX5 := Lib.hid ((show Row w4.drew _ _ _ from HX4.out).below hb5 HX4.out.lt)
        have HZ5 := Lib.hid ((show Row w4.drew _ _ _ from HZ4.out).below hb5 HZ4.out.lt)
        have HB5 := Lib.hid ((HB4.out.drew).trans (hb5.mono HB4.out.size))
        have HM5 := Lib.hid (HM4.out.below (w' := w5) ((Below.refl _ w4).drew.trans hb5))
        have HV5 := Lib.hid hv5
        refine hK.out _ _ ⟨HX5.out, trivial⟩ (fun hHeld => ?_)
        clear hK K hb5 hHeld hcg HX4 HZ4 HB4 HM4 hv5
        try simp only [Act.put, List.getElem_toArray, List.getElem_cons_zero, List.getElem_cons_succ, List.setIfInBounds_toArray, List.set_cons_zero, List.set_cons_succ]
        refine wpAnyH_ready (rs := [3]) (by kernel_rfl) (by simp) ?_
        refine AllReadyH.cons rfl (fun K hK => ?_) AllReadyH.nil
        refine step_sfm rfl (.tmp 4) (.tmp 36) rfl rfl rfl HZ5.out ?_
        have HX6 := Lib.hid (HX5.out.setRow' (k := w.heap.size + 1) (by omega) x4.c)
        have HZ6 := Lib.hid (HZ5.out.setRow x4.c)
        have HV6 : Hid (EV (w5.setRow (w.heap.size + 1) x4.c) v5 s0 1) := HV5.out.keep' HZ5.out
        have HM6 := Lib.hid (HM5.out.setRow (g := w.heap.size + 1) (by omega) x4.c)
        have HB6 := Lib.hid (below_setRow HB5.out (w.heap.size + 1) x4.c (by omega))
        refine hK.out _ _ ⟨HX6.out, trivial⟩ (fun hHeld => ?_)
        clear hK K hHeld HX5 HZ5 HV5 HB5 HM5
        generalize w5.setRow (w.heap.size + 1) x4.c = w6 at *
        have hHeld : Row w6 w.heap.size 66 x4.c ∧ True := ⟨HX6.out, trivial⟩
        try simp only [Act.put, List.getElem_toArray, List.getElem_cons_zero, List.getElem_cons_succ, List.setIfInBounds_toArray, List.set_cons_zero, List.set_cons_succ]
        refine wpAnyH_take (i := 4) (v := ?v4q5) rfl (by kernel_rfl) (by kernel_rfl) (by kernel_rfl) (fun _ _ _ h => h) (Or.inl ⟨by rfl, ?hy4q5⟩) (by assumption) ?rest4q5
        case hy4q5 => (intro w hSw; (try dsimp only at hSw); go_simp <;> with_reducible rfl)
        try simp only [Act.put, List.getElem_toArray, List.getElem_cons_zero, List.getElem_cons_succ, List.setIfInBounds_toArray, List.set_cons_zero, List.set_cons_succ]
        refine wpAnyH_done (by kernel_rfl) ?_ _
        go_wp2_with fail
        refine bodyPost_ret (ret_fe rfl _ _ (w.heap.size + 1) _ _ rfl HZ6.out rfl) rfl ⟨x4, v5, rfl, ?_, fun h => ?_, HB6.out⟩
        · by_cases hs : s0 = 0
          · have := HV6.out
            rcases this with h | ⟨h, _⟩
            · exact .inl h
            · exact absurd hs h
          · rw [show (G, s0, c0).2.2 = 1 from HG1.out hs]
            exact HV6.out
        · rw [show (G, s0, c0).1 = F from (HG0.out h).1]
          exact HM6.out.mono (by omega)
      · exact absurd rfl h0
end Go.Proofs.YtooaajnkiokpnaaGreatDoor
