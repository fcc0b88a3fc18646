/-
  Take, by its contract. Conditions: errors.errorType as the program's text lays it; a frame's data is read where the frame has to do with a block.
-/
import Derived.Test.YtcbepicdnmnfaaaDoorYtm
namespace Go.Proofs.YtcbepicdnmnfaaaDoor
open Go.RowKit Go.WideShapes

theorem of_z (w : World) : Calls Tryd.prog 14 #[.nilIface] w fun e w' => e = .returned (.agg (ftc 0 0)) ∧ Below w.heap.size w w' := of_nil w
theorem of_r {g : Nat} {s c : Int} {w : World} (hR : Row w g 61 #[.int .u8 s, .int .u32 c]) (hG : GlobE w) : Calls Tryd.prog 14 #[.iface 58 (.pointer (some ⟨g, 0, none⟩))] w fun e w' => e = .returned (.agg (ftc s c)) ∧ Below w.heap.size w w' := of_row hR hG
theorem GlobE.fs {S : Nat → Prop} {w w' : World} (h : GlobE w) (hf : Fs S w w') (hS : ¬ S 0) : GlobE w' := (World.cell?_of_block (a := ⟨0, 0, none⟩) (hf.block _ (blk_lt h) hS)).trans h
/-- A fault by its code: none, or the connection's. -/
def ftb (n : Nat) : Array Value := ftc (if n = 0 then 0 else 1) n
/-- What Take leaves. -/
def TakeP (w : World) (base g : Nat) (v : Value) (r : Gm × Bool × Gm) (e : Ending) (w' : World) : Prop :=
  ∃ (A' : Option Addr) (c' : Nat), e = .returned (.tuple #[.agg (whc r.2.2.st A' r.2.2.blk.length c' r.2.2.en), .bool r.2.1, .agg (ftb r.1.bad)]) ∧ Fs (gvS g v) w w' ∧
    Bo w' base 5 (.slice A' r.2.2.blk.length c') r.2.2.blk ∧ Nx w v (.slice A' r.2.2.blk.length c') ∧ (r.2.1 = false → A' = none ∧ c' = 0) ∧ ∃ A2 c2 o2, Ga w' base g r.1 A2 c2 o2 ∧ Nx w v (.slice A2 r.1.blk.length c2)
/-- Handed back out of two variables, and a value. -/
theorem ret_ava {P : Program} {T T' : TypeId} {fn : Func} {p q r : Tmp} {v : Value} {w : World} {g g' : Nat} {cs cs' : Array Value} (h : fn.results = #[.cell p T, .tmp q, .cell r T']) (tmps : Array Value) (hp : tmps.getD p undef = .pointer (some ⟨g, 0, none⟩)) (hR : Row w g T cs) (hk : AgOk P T cs)
    (hq : tmps.getD q undef = v) (hr : tmps.getD r undef = .pointer (some ⟨g', 0, none⟩)) (hR' : Row w g' T' cs') (hk' : AgOk P T' cs') : (results fn tmps).run P w = .ok (.tuple #[.agg cs, v, .agg cs']) w := by
  have hl := run_ld hk hR
  have hl' := run_ld hk' hR'
  have hp' : tmps[p]?.getD undef = .pointer (some ⟨g, 0, none⟩) := by simpa using hp
  have hq' : tmps[q]?.getD undef = v := by simpa using hq
  have hr' : tmps[r]?.getD undef = .pointer (some ⟨g', 0, none⟩) := by simpa using hr
  simp only [results, h]
  simp [hp', hq', hr', asAddr, hl, hl']
theorem tk_vars (w : World) (x : Fm) : ∃ w', ((w.alloc (.cells x.c 32)).alloc (.cells #[.int .u32 0, .slice none 0 0, .bool false] 34)).alloc (.cells #[.int .u8 0, .int .u32 0] 36) = w' ∧ Row w' w.heap.size 32 x.c ∧ Row w' (w.heap.size + 1) 34 (whc 0 none 0 0 false) ∧ Row w' (w.heap.size + 2) 36 (ftc 0 0) ∧ Below w.heap.size w w' ∧ w'.heap.size = w.heap.size + 3 :=
  ⟨_, rfl, ((Row.new w _ _).alloc _).alloc _, by rw [wh_zero]; exact (Row.made _ _ _ (by simp)).alloc _, by rw [ftz]; exact Row.made _ _ _ (by simp), (((Below.refl _ _).alloc (Nat.le_refl _) _).alloc (by simp) _).alloc (by simp; omega) _, by simp⟩
theorem Ga.fault_far {w : World} {base g : Nat} {m : Gm} {A : Option Addr} {c : Nat} {o : Option Nat} (h : Ga w base g m A c o) {k : Nat} {cs : Array Value} (hk : Row w k 36 cs) (x : Array Value) : Ga (w.setRow k x) base g m A c o := by
  refine h.keep (setRow_other w k g x (Row.ne h.row hk (by decide))) (fun j hj => setRow_other w k j x (fun e => ?_)) (fun p hp => setRow_other w k p x ?_)
  · subst e
    exact h.own.ne hk (by decide) hj
  · rcases h.err with ⟨h0, _⟩ | ⟨p', h0, _, hr⟩
    · rw [h0] at hp; cases hp
    · rw [h0] at hp
      obtain rfl := Option.some.inj hp
      exact Row.ne hr hk (by decide)
attribute [local irreducible] Fm.c gac whc ftc
set_option maxRecDepth 100000 in
set_option maxHeartbeats 4000000 in
theorem tk_nil (x : Fm) {w : World} (hG : GlobE w) : Calls Tryd.prog 8 #[.pointer none, .agg x.c] w fun e w' => e = .returned (.tuple #[.agg (whc 0 none 0 0 false), .bool false, .agg (ftc 1 2)]) ∧ Below w.heap.size w w' := by
  obtain ⟨w1, hw1, t1, t2, t3, t4, t5⟩ := tk_vars w x
  have T7 := Lib.hid hw1
  have TW := Lib.hid t2
  have TF := Lib.hid t3
  have HB := Lib.hid t4
  have HG := Lib.hid (hG.below t4)
  have HS : Hid (w.heap.size ≤ w1.heap.size) := t4.size
  clear hw1 t1 t2 t3 t4 t5 hG
  go_enter Tryd.func8, Tryd.ntmps8
  go_upto_region 1 with fail
  rw [T7.out]
  clear T7
  go_wp2_with (refine wpList_build_is rfl 34 _ rfl (whc 0 none 0 0 false) (by kernel_rfl) ?_)
  refine (conn_any 2 _).mono ?_
  rintro e w2 ⟨p, rfl, hr, hb2⟩
  have TW2 : Hid (Row w2 (w.heap.size + 1) 34 (whc 0 none 0 0 false)) := TW.out.below hb2 TW.out.lt
  have TF2 : Hid (Row w2 (w.heap.size + 2) 36 (ftc 0 0)) := TF.out.below hb2 TF.out.lt
  have HB2 := Lib.hid (HB.out.trans (hb2.mono HS.out))
  have HG2 := Lib.hid (HG.out.below hb2)
  have HP : Hid (Row w2 p 61 #[.int .u8 1, .int .u32 2]) := hr
  clear TW TF HB HG HS hr hb2
  go_wp2_with fail
  refine (of_r HP.out HG2.out).mono ?_
  rintro e w3 ⟨rfl, hb3⟩
  have TW3 : Hid (Row w3 (w.heap.size + 1) 34 (whc 0 none 0 0 false)) := TW2.out.below hb3 TW2.out.lt
  have TF3 : Hid (Row w3 (w.heap.size + 2) 36 (ftc 0 0)) := TF2.out.below hb3 TF2.out.lt
  have HB3 := Lib.hid (HB2.out.trans (hb3.mono HB2.out.size))
  clear TW2 TF2 HB2 HG2 HP hb3
  go_wp2_with (first | (refine wpList_sw (cs := whc 0 none 0 0 false) rfl _ _ rfl rfl rfl TW3.out (wh_sz _ _ _ _ _ _ _ _ _ _) (wh_ok _ _ _ _ _) ?_) | (refine wpList_sw (cs := ftc 1 2) rfl _ _ rfl rfl rfl (TF3.out.row_far (Row.ne TF3.out TW3.out (by decide)) _) (ft_sz _ _ _ _) (ft_ok _ _) ?_))
  refine bodyPost_ret (ret_ava rfl _ rfl ((TW3.out.setRow _).row_far (Row.ne TW3.out TF3.out (by decide)) _) (wh_ok _ _ _ _ _) rfl rfl ((TF3.out.row_far (Row.ne TF3.out TW3.out (by decide)) _).setRow _) (ft_ok _ _)) rfl ⟨rfl, ?_⟩
  exact below_setRow (below_setRow HB3.out _ _ (by omega)) _ _ (by omega)
set_option maxRecDepth 100000 in
set_option maxHeartbeats 4000000 in
theorem tk_any {w : World} {base g : Nat} {m : Gm} {A : Option Addr} {c : Nat} {o : Option Nat} (h : Ga w base g m A c o) (hG : GlobE w) (x : Fm) (d : List UInt8) (hfl : x.fl < 256) (hx : x.ty = 1 ∨ x.ty = 9 → x.dn = d.length ∧ d.length ≤ 1000000000 ∧ RdS w (· ≠ g) x.dA (byc d)) :
    Calls Tryd.prog 8 #[.pointer (some ⟨g, 0, none⟩), .agg x.c] w (TakeP w base g (.slice A m.blk.length c) (gtk m x.ty x.fl x.st d)) := by
  obtain ⟨w1, hw1, t1, t2, t3, t4, t5⟩ := tk_vars w x
  have T7 := Lib.hid hw1
  have TX := Lib.hid t1
  have TW := Lib.hid t2
  have TF := Lib.hid t3
  have HF : Hid (Fs (gvS g (.slice A m.blk.length c)) w w1) := Fs.of_below t4
  have HG := Lib.hid (hG.below t4)
  have HS : Hid (w1.heap.size = w.heap.size + 3) := t5
  have H := Lib.hid (h.below t4)
  have HNE : Hid (¬ gvS g (.slice A m.blk.length c) 0) := fun e => by
    have h1 := h.lo
    rcases e with e | e
    · omega
    · have := (OwS.lt h.own _ e).1; omega
  have HTK : Hid (Calls Tryd.prog 16 #[.pointer (some ⟨g, 0, none⟩), .agg x.c] w1 (TkP w1 base g (.slice A m.blk.length c) (gtk m x.ty x.fl x.st d))) := take_any (h.below t4) x d hfl (fun e => by
    obtain ⟨q1, q2, q3⟩ := hx e
    exact ⟨q1, q2, ((q3.imp (fun k hk hl => (⟨hk, hl⟩ : k ≠ g ∧ k < w.heap.size))).keep fun k hk => t4.block k hk.2).imp fun k hk _ => hk.1⟩)
  have HLT : Hid (g < w.heap.size) := h.lts.1
  have HLO := Lib.hid h.lo
  generalize gtk m x.ty x.fl x.st d = R at *
  obtain ⟨M, ok, W⟩ := R
  clear hw1 t1 t2 t3 t4 t5 hG h hfl hx
  go_enter Tryd.func8, Tryd.ntmps8
  go_upto_region 1 with fail
  rw [T7.out]
  clear T7
  go_wp2_with (refine wpList_fm rfl _ rfl rfl TX.out ?_)
  refine HTK.out.mono ?_
  rintro e w2 ⟨A', c', o', rfl, hf, hbo, hnx, hnil, hst⟩
  have TW2 : Hid (Row w2 (w.heap.size + 1) 34 (whc 0 none 0 0 false)) := hf.row (fun e => by
    rcases e with e | e
    · exact Row.ne TW.out H.out.row (by decide) e
    · exact H.out.own.ne TW.out (by decide) e) TW.out
  have TF2 : Hid (Row w2 (w.heap.size + 2) 36 (ftc 0 0)) := hf.row (fun e => by
    rcases e with e | e
    · exact Row.ne TF.out H.out.row (by decide) e
    · exact H.out.own.ne TF.out (by decide) e) TF.out
  have HF2 : Hid (Fs (gvS g (.slice A m.blk.length c)) w w2) := HF.out.trans hf (fun _ _ e => e)
  have HG2 := Lib.hid (HG.out.fs hf HNE.out)
  have HS2 : Hid (w.heap.size + 3 ≤ w2.heap.size) := by have := hf.size; show _ ≤ _; rw [← HS.out]; exact this
  have HBO : Hid (Bo w2 base 5 (.slice A' W.blk.length c') W.blk) := hbo
  have HNX : Hid (Nx w (.slice A m.blk.length c) (.slice A' W.blk.length c')) := hnx.from HF.out.size
  have HNL : Hid (ok = false → A' = none ∧ c' = 0) := hnil
  have HW1 : Hid (w.heap.size ≤ w1.heap.size) := HF.out.size
  obtain ⟨w3, hw3, s1, s2, s3⟩ := one_wh w2 W.st A' W.blk.length c' W.en
  have S7 := Lib.hid hw3
  have S1 := Lib.hid s1
  have S2 := Lib.hid s2
  have TW3 : Hid (Row w3 (w.heap.size + 1) 34 (whc 0 none 0 0 false)) := TW2.out.below s3 TW2.out.lt
  have TF3 : Hid (Row w3 (w.heap.size + 2) 36 (ftc 0 0)) := TF2.out.below s3 TF2.out.lt
  have HF3 := Lib.hid (HF2.out.then_below s3)
  have HG3 := Lib.hid (HG2.out.below s3)
  have HBO3 : Hid (Bo w3 base 5 (.slice A' W.blk.length c') W.blk) := OwS.below HBO.out s3
  have HPW : Hid (w2.heap.size ≠ w.heap.size + 1) := by have := HS2.out; show _ ≠ _; omega
  have HB3 := Lib.hid s3
  clear hf hbo hnx hnil hw3 s1 s2 s3 TW TF HF HG HBO TX HTK HF2 HG2 H TW2 TF2
  go_upto_region 4 with (refine wpList_sw rfl _ _ rfl rfl rfl S1.out (wh_sz _ _ _ _ _ _ _ _ _ _) (wh_ok _ _ _ _ _) ?_)
  rw [S7.out]
  clear S7 S1
  have HST : Hid ((M.bad = 0 ∧ o' = none ∧ ∃ A2 c2, Ga w3 base g M A2 c2 none ∧ Nx w (.slice A m.blk.length c) (.slice A2 M.blk.length c2)) ∨ (M.bad ≠ 0 ∧ M.Ok ∧ ∃ p old, o' = some p ∧ Row w3 p 61 #[.int .u8 1, .int .u32 M.bad] ∧ Row w3 g 51 old ∧ old.size = 6)) := by
    rcases hst with ⟨q1, q2, A2, c2, q3, q4⟩ | ⟨q1, q2, p, old, q3, q4, q5, q6⟩
    · exact .inl ⟨q1, q2, A2, c2, Ga.below q3 HB3.out, q4.from HW1.out⟩
    · exact .inr ⟨q1, q2, p, old, q3, Row.below q4 HB3.out (Row.lt q4), Row.below q5 HB3.out (Row.lt q5), q6⟩
  clear hst HB3 HW1
  generalize w2.heap.size = pt at *
  rcases HST.out with ⟨hb0, rfl, A2, c2, hga, hn2⟩ | ⟨hb0, hok, p, old, rfl, hp, hrg, hsz⟩
  · have HGAq := Lib.hid hga
    have HN2 := Lib.hid hn2
    have HB0 := Lib.hid hb0
    have HOFq : Hid (Calls Tryd.prog 14 #[.nilIface] w3.drew fun e w' => e = .returned (.agg (ftc 0 0)) ∧ Below w3.drew.heap.size w3.drew w') := of_z _
    have TWq := TW3
    have TFq := TF3
    have Sq := S2
    have HFq := HF3
    have HBOq := HBO3
    clear HST hga hn2 hb0 TW3 TF3 S2 HF3 HBO3 HG3 HNE
    rw [erv_none]
    go_wp2_with fail
    have TW4 : Hid (Row w3.drew (w.heap.size + 1) 34 (whc 0 none 0 0 false)) := TWq.out
    have TF4 : Hid (Row w3.drew (w.heap.size + 2) 36 (ftc 0 0)) := TFq.out
    have S4 : Hid (Row w3.drew pt 34 (whc W.st A' W.blk.length c' W.en)) := Sq.out
    have HF4 : Hid (Fs (gvS g (.slice A m.blk.length c)) w w3.drew) := HFq.out.drewN 1
    have HBO4 : Hid (Bo w3.drew base 5 (.slice A' W.blk.length c') W.blk) := HBOq.out
    have HGA4 : Hid (Ga w3.drew base g M A2 c2 none) := HGAq.out.keep rfl (fun _ _ => rfl) (fun _ _ => rfl)
    have HOF4 : Hid (Calls Tryd.prog 14 #[.nilIface] w3.drew fun e w' => e = .returned (.agg (ftc 0 0)) ∧ Below w3.drew.heap.size w3.drew w') := HOFq.out
    refine wp_region_held_drew (S := fun w' => Row w' pt 34 (whc W.st A' W.blk.length c' W.en)) (by kernel_rfl) S4.out (fun hHeld => ?_)
    clear TWq TFq Sq HFq HBOq HGAq HOFq
    generalize w3.drew = w4 at *
    clear hHeld
    have hHeld : Row w4 pt 34 (whc W.st A' W.blk.length c' W.en) := S4.out
    refine wpAnyH_take (i := 0) (v := _) rfl (by kernel_rfl) (by kernel_rfl) (by kernel_rfl) (fun _ _ _ h => h) (yields_ld (by rfl) _ rfl rfl (wh_ok _ _ _ _ _) (fun _ hSw => hSw)) (by assumption) ?rest0w1
    try simp only [Act.put, List.getElem_toArray, List.getElem_cons_zero, List.setIfInBounds_toArray, List.set_cons_zero, List.set_cons_succ]
    refine wpAnyH_take (i := 1) (v := ?v1) rfl (by kernel_rfl) (by kernel_rfl) (by kernel_rfl) (fun _ _ _ h => h) (Or.inl ⟨by rfl, ?hy1⟩) (by assumption) ?rest1
    case hy1 => (intro w hSw; (try dsimp only at hSw); go_simp <;> with_reducible rfl)
    try simp only [Act.put, List.getElem_toArray, List.getElem_cons_zero, List.getElem_cons_succ, List.setIfInBounds_toArray, List.set_cons_zero, List.set_cons_succ]
    refine wpAnyH_take (i := 2) (v := ?v2) rfl (by kernel_rfl) (by kernel_rfl) (by kernel_rfl) (fun _ _ _ h => h) (Or.inl ⟨by rfl, ?hy2⟩) (by assumption) ?rest2
    case hy2 => (intro w hSw; (try dsimp only at hSw); go_simp <;> with_reducible rfl)
    try simp only [Act.put, List.getElem_toArray, List.getElem_cons_zero, List.getElem_cons_succ, List.setIfInBounds_toArray, List.set_cons_zero, List.set_cons_succ]
    refine wpAnyH_ready (rs := [3]) (by kernel_rfl) (by simp) ?_
    refine AllReadyH.cons rfl (fun K hK => ?_) AllReadyH.nil
    go_simp
    go_at_call 14
    refine HOF4.out.mono ?_
    rintro e w5 ⟨rfl, hb5⟩
    have TW5 : Hid (Row w5 (w.heap.size + 1) 34 (whc 0 none 0 0 false)) := TW4.out.below hb5 TW4.out.lt
    have TF5 : Hid (Row w5 (w.heap.size + 2) 36 (ftc 0 0)) := TF4.out.below hb5 TF4.out.lt
    have S5 : Hid (Row w5 pt 34 (whc W.st A' W.blk.length c' W.en)) := S4.out.below hb5 S4.out.lt
    have HF5 := Lib.hid (HF4.out.then_below hb5)
    have HBO5 : Hid (Bo w5 base 5 (.slice A' W.blk.length c') W.blk) := OwS.below HBO4.out hb5
    have HGA5 := Lib.hid (HGA4.out.below hb5)
    clear TW4 TF4 S4 HF4 HBO4 HGA4 HOF4 hb5 hHeld
    refine hK.out _ _ S5.out (fun hHeld => ?_)
    clear hK K
    try simp only [Act.put, List.getElem_toArray, List.getElem_cons_zero, List.getElem_cons_succ, List.setIfInBounds_toArray, List.set_cons_zero, List.set_cons_succ]
    refine wpAnyH_ready (rs := [4]) (by kernel_rfl) (by simp) ?_
    refine AllReadyH.cons rfl (fun K hK => ?_) AllReadyH.nil
    refine step_sw (cs := whc W.st A' W.blk.length c' W.en) rfl _ _ rfl rfl rfl TW5.out (wh_sz _ _ _ _ _ _ _ _ _ _) (wh_ok _ _ _ _ _) ?_
    have S6 := Lib.hid (S5.out.row_far HPW.out (whc W.st A' W.blk.length c' W.en))
    have TW6 := Lib.hid (TW5.out.setRow (whc W.st A' W.blk.length c' W.en))
    have TF6 := Lib.hid (TF5.out.row_far (Row.ne TF5.out TW5.out (by decide)) (whc W.st A' W.blk.length c' W.en))
    have HF6 := Lib.hid (HF5.out.setRow (g := w.heap.size + 1) (fun h => absurd h (by omega)) (whc W.st A' W.blk.length c' W.en))
    have HBO6 := Lib.hid (HBO5.out.row_far (HBO5.out.ne TW5.out (by decide)) (whc W.st A' W.blk.length c' W.en))
    have HGA6 := Lib.hid (HGA5.out.row_far TW5.out (whc W.st A' W.blk.length c' W.en))
    clear TW5 TF5 S5 HF5 HBO5 HGA5 hHeld
    refine hK.out _ _ S6.out (fun hHeld => ?_)
    clear hK K
    generalize w5.setRow (w.heap.size + 1) (whc W.st A' W.blk.length c' W.en) = w6 at *
    try simp only [Act.put, List.getElem_toArray, List.getElem_cons_zero, List.getElem_cons_succ]
    refine wpAnyH_take (i := 5) (v := ?v5q3) rfl (by kernel_rfl) (by kernel_rfl) (by kernel_rfl) (fun _ _ _ h => h) (Or.inl ⟨by rfl, ?hy5q3⟩) (by assumption) ?rest5q3
    case hy5q3 => (intro w hSw; (try dsimp only at hSw); go_simp <;> with_reducible rfl)
    try simp only [Act.put, List.getElem_toArray, List.getElem_cons_zero, List.getElem_cons_succ, List.setIfInBounds_toArray, List.set_cons_zero, List.set_cons_succ]
    refine wpAnyH_ready (rs := [6]) (by kernel_rfl) (by simp) ?_
    refine AllReadyH.cons rfl (fun K hK => ?_) AllReadyH.nil
    refine step_sw (cs := (ftc 0 0)) rfl _ _ rfl rfl rfl TF6.out (ft_sz _ _ _ _) (ft_ok _ _) ?_
    refine hK.out _ _ (S6.out.row_far (Row.ne S6.out TF6.out (by decide)) _) (fun hHeld => ?_)
    clear hK K hHeld
    try simp only [Act.put, List.getElem_toArray, List.getElem_cons_zero, List.getElem_cons_succ]
    refine wpAnyH_done (by kernel_rfl) ?_ _
    go_wp2_with fail
    refine bodyPost_ret (ret_ava rfl _ rfl (TW6.out.row_far (Row.ne TW6.out TF6.out (by decide)) _) (wh_ok _ _ _ _ _) rfl rfl (TF6.out.setRow _) (ft_ok _ _)) rfl ?_
    refine ⟨A', c', by unfold ftb; rw [HB0.out]; rfl, HF6.out.setRow (g := w.heap.size + 2) (fun h => absurd h (by omega)) _, HBO6.out.row_far (HBO6.out.ne TF6.out (by decide)) _, HNX.out, HNL.out, A2, c2, none, HGA6.out.fault_far TF6.out _, HN2.out⟩
  · obtain ⟨b, rfl⟩ : ∃ b, M = gmF b := ⟨M.bad, hok.idle (by
      cases hbz : M.busy
      · rfl
      · exact absurd (hok.good hbz) hb0)⟩
    have hpr : Row w3 p 61 #[.int .u8 1, .int .u32 b] := hp
    have HB0 : Hid (b ≠ 0) := hb0
    have HOG := Lib.hid hrg
    have HSZ : Hid (old.size = 6) := hsz
    have HBD : Hid (b ≤ 11) := hok.bd
    have HGAq : Hid (Ga (w3.setRow g (gac 0 none 0 0 false false 0 (some p))) base g (gmF b) none 0 (some p)) :=
      ⟨HOG.out.setRow _, Bo.nil, fun _ => ⟨rfl, rfl⟩, .inr ⟨p, rfl, HB0.out, hpr.row_far (Row.ne hpr HOG.out (by decide)) _⟩, gmF_ok HBD.out, HLO.out⟩
    have TWq := Lib.hid (TW3.out.row_far (Row.ne TW3.out HOG.out (by decide)) (gac 0 none 0 0 false false 0 (some p)))
    have TFq := Lib.hid (TF3.out.row_far (Row.ne TF3.out HOG.out (by decide)) (gac 0 none 0 0 false false 0 (some p)))
    have Sq := Lib.hid (S2.out.row_far (Row.ne S2.out HOG.out (by decide)) (gac 0 none 0 0 false false 0 (some p)))
    have HFq := Lib.hid (HF3.out.setRow (g := g) (fun _ => .inl rfl) (gac 0 none 0 0 false false 0 (some p)))
    have HBOq := Lib.hid (HBO3.out.row_far (HBO3.out.ne HOG.out (by decide)) (gac 0 none 0 0 false false 0 (some p)))
    have HGq : Hid (GlobE (w3.setRow g (gac 0 none 0 0 false false 0 (some p))).drew) := GlobE.fs (w := w3) HG3.out ((Fs.refl (gvS g (.slice A m.blk.length c)) w3).setRow (g := g) (fun _ => .inl rfl) _ |>.drewN 1) HNE.out
    have HPq : Hid (Row (w3.setRow g (gac 0 none 0 0 false false 0 (some p))).drew p 61 #[.int .u8 1, .int .u32 b]) := hpr.row_far (Row.ne hpr HOG.out (by decide)) _
    have HOFq : Hid (Calls Tryd.prog 14 #[.iface 58 (.pointer (some ⟨p, 0, none⟩))] (w3.setRow g (gac 0 none 0 0 false false 0 (some p))).drew fun e w' => e = .returned (.agg (ftc 1 b)) ∧ Below (w3.setRow g (gac 0 none 0 0 false false 0 (some p))).drew.heap.size (w3.setRow g (gac 0 none 0 0 false false 0 (some p))).drew w') := of_r HPq.out HGq.out
    clear HST hp hrg hsz hb0 hok hpr HGq HPq TW3 TF3 S2 HF3 HBO3 HG3 HNE
    rw [erv_some]
    go_wp2_with (first | (refine wpList_build_is rfl 51 _ rfl (gac 0 none 0 0 false false 0 (some p)) (by kernel_rfl) ?_) | (refine wpList_sw (cs := gac 0 none 0 0 false false 0 (some p)) rfl _ _ rfl rfl rfl HOG.out (by rw [ga_six]; exact HSZ.out) (ga_ok _ _ _ _ _ _ _ _) ?_))
    clear HOG HSZ
    generalize w3.setRow g (gac 0 none 0 0 false false 0 (some p)) = w3' at *
    have TW4 : Hid (Row w3'.drew (w.heap.size + 1) 34 (whc 0 none 0 0 false)) := TWq.out
    have TF4 : Hid (Row w3'.drew (w.heap.size + 2) 36 (ftc 0 0)) := TFq.out
    have S4 : Hid (Row w3'.drew pt 34 (whc W.st A' W.blk.length c' W.en)) := Sq.out
    have HF4 : Hid (Fs (gvS g (.slice A m.blk.length c)) w w3'.drew) := HFq.out.drewN 1
    have HBO4 : Hid (Bo w3'.drew base 5 (.slice A' W.blk.length c') W.blk) := HBOq.out
    have HGA4 : Hid (Ga w3'.drew base g (gmF b) none 0 (some p)) := HGAq.out.keep rfl (fun _ _ => rfl) (fun _ _ => rfl)
    have HOF4 : Hid (Calls Tryd.prog 14 #[.iface 58 (.pointer (some ⟨p, 0, none⟩))] w3'.drew fun e w' => e = .returned (.agg (ftc 1 b)) ∧ Below w3'.drew.heap.size w3'.drew w') := HOFq.out
    refine wp_region_held_drew (S := fun w' => Row w' pt 34 (whc W.st A' W.blk.length c' W.en)) (by kernel_rfl) S4.out (fun hHeld => ?_)
    clear TWq TFq Sq HFq HBOq HGAq HOFq
    generalize w3'.drew = w4 at *
    clear hHeld
    have hHeld : Row w4 pt 34 (whc W.st A' W.blk.length c' W.en) := S4.out
    refine wpAnyH_take (i := 0) (v := _) rfl (by kernel_rfl) (by kernel_rfl) (by kernel_rfl) (fun _ _ _ h => h) (yields_ld (by rfl) _ rfl rfl (wh_ok _ _ _ _ _) (fun _ hSw => hSw)) (by assumption) ?rest0w2
    try simp only [Act.put, List.getElem_toArray, List.getElem_cons_zero, List.setIfInBounds_toArray, List.set_cons_zero, List.set_cons_succ]
    refine wpAnyH_take (i := 1) (v := ?v1q4) rfl (by kernel_rfl) (by kernel_rfl) (by kernel_rfl) (fun _ _ _ h => h) (Or.inl ⟨by rfl, ?hy1q4⟩) (by assumption) ?rest1q4
    case hy1q4 => (intro w hSw; (try dsimp only at hSw); go_simp <;> with_reducible rfl)
    try simp only [Act.put, List.getElem_toArray, List.getElem_cons_zero, List.getElem_cons_succ, List.setIfInBounds_toArray, List.set_cons_zero, List.set_cons_succ]
    refine wpAnyH_take (i := 2) (v := ?v2q4) rfl (by kernel_rfl) (by kernel_rfl) (by kernel_rfl) (fun _ _ _ h => h) (Or.inl ⟨by rfl, ?hy2q4⟩) (by assumption) ?rest2q4
    case hy2q4 => (intro w hSw; (try dsimp only at hSw); go_simp <;> with_reducible rfl)
    try simp only [Act.put, List.getElem_toArray, List.getElem_cons_zero, List.getElem_cons_succ, List.setIfInBounds_toArray, List.set_cons_zero, List.set_cons_succ]
    refine wpAnyH_ready (rs := [3]) (by kernel_rfl) (by simp) ?_
    refine AllReadyH.cons rfl (fun K hK => ?_) AllReadyH.nil
    go_simp
    go_at_call 14
    refine HOF4.out.mono ?_
    rintro e w5 ⟨rfl, hb5⟩
    have TW5 : Hid (Row w5 (w.heap.size + 1) 34 (whc 0 none 0 0 false)) := TW4.out.below hb5 TW4.out.lt
    have TF5 : Hid (Row w5 (w.heap.size + 2) 36 (ftc 0 0)) := TF4.out.below hb5 TF4.out.lt
    have S5 : Hid (Row w5 pt 34 (whc W.st A' W.blk.length c' W.en)) := S4.out.below hb5 S4.out.lt
    have HF5 := Lib.hid (HF4.out.then_below hb5)
    have HBO5 : Hid (Bo w5 base 5 (.slice A' W.blk.length c') W.blk) := OwS.below HBO4.out hb5
    have HGA5 := Lib.hid (HGA4.out.below hb5)
    clear TW4 TF4 S4 HF4 HBO4 HGA4 HOF4 hb5 hHeld
    refine hK.out _ _ S5.out (fun hHeld => ?_)
    clear hK K
    try simp only [Act.put, List.getElem_toArray, List.getElem_cons_zero, List.getElem_cons_succ, List.setIfInBounds_toArray, List.set_cons_zero, List.set_cons_succ]
    refine wpAnyH_ready (rs := [4]) (by kernel_rfl) (by simp) ?_
    refine AllReadyH.cons rfl (fun K hK => ?_) AllReadyH.nil
    refine step_sw (cs := whc W.st A' W.blk.length c' W.en) rfl _ _ rfl rfl rfl TW5.out (wh_sz _ _ _ _ _ _ _ _ _ _) (wh_ok _ _ _ _ _) ?_
    have S6 := Lib.hid (S5.out.row_far HPW.out (whc W.st A' W.blk.length c' W.en))
    have TW6 := Lib.hid (TW5.out.setRow (whc W.st A' W.blk.length c' W.en))
    have TF6 := Lib.hid (TF5.out.row_far (Row.ne TF5.out TW5.out (by decide)) (whc W.st A' W.blk.length c' W.en))
    have HF6 := Lib.hid (HF5.out.setRow (g := w.heap.size + 1) (fun h => absurd h (by omega)) (whc W.st A' W.blk.length c' W.en))
    have HBO6 := Lib.hid (HBO5.out.row_far (HBO5.out.ne TW5.out (by decide)) (whc W.st A' W.blk.length c' W.en))
    have HGA6 := Lib.hid (HGA5.out.row_far TW5.out (whc W.st A' W.blk.length c' W.en))
    clear TW5 TF5 S5 HF5 HBO5 HGA5 hHeld
    refine hK.out _ _ S6.out (fun hHeld => ?_)
    clear hK K
    generalize w5.setRow (w.heap.size + 1) (whc W.st A' W.blk.length c' W.en) = w6 at *
    try simp only [Act.put, List.getElem_toArray, List.getElem_cons_zero, List.getElem_cons_succ]
    refine wpAnyH_take (i := 5) (v := ?v5q5) rfl (by kernel_rfl) (by kernel_rfl) (by kernel_rfl) (fun _ _ _ h => h) (Or.inl ⟨by rfl, ?hy5q5⟩) (by assumption) ?rest5q5
    case hy5q5 => (intro w hSw; (try dsimp only at hSw); go_simp <;> with_reducible rfl)
    try simp only [Act.put, List.getElem_toArray, List.getElem_cons_zero, List.getElem_cons_succ, List.setIfInBounds_toArray, List.set_cons_zero, List.set_cons_succ]
    refine wpAnyH_ready (rs := [6]) (by kernel_rfl) (by simp) ?_
    refine AllReadyH.cons rfl (fun K hK => ?_) AllReadyH.nil
    refine step_sw (cs := (ftc 1 b)) rfl _ _ rfl rfl rfl TF6.out (ft_sz _ _ _ _) (ft_ok _ _) ?_
    refine hK.out _ _ (S6.out.row_far (Row.ne S6.out TF6.out (by decide)) _) (fun hHeld => ?_)
    clear hK K hHeld
    try simp only [Act.put, List.getElem_toArray, List.getElem_cons_zero, List.getElem_cons_succ]
    refine wpAnyH_done (by kernel_rfl) ?_ _
    go_wp2_with fail
    refine bodyPost_ret (ret_ava rfl _ rfl (TW6.out.row_far (Row.ne TW6.out TF6.out (by decide)) _) (wh_ok _ _ _ _ _) rfl rfl (TF6.out.setRow _) (ft_ok _ _)) rfl ?_
    refine ⟨A', c', by unfold ftb; rw [if_neg (by exact HB0.out)]; rfl, HF6.out.setRow (g := w.heap.size + 2) (fun h => absurd h (by omega)) _, HBO6.out.row_far (HBO6.out.ne TF6.out (by decide)) _, HNX.out, HNL.out, none, 0, some p, HGA6.out.fault_far TF6.out _, Nx.none _ _⟩
end Go.Proofs.YtcbepicdnmnfaaaDoor
