/-
  take, by its contract, way by way. Conditions: the gatherer lies behind the package's variables; a frame's data is read where the frame has to do with a block.
-/
import Derived.Test.YtcbepicdnmnfaaaDoorYad
import Derived.Deep.QuietTactic
import Derived.BigQuiet
namespace Go.Proofs.YtcbepicdnmnfaaaDoor
open Go.RowKit Go.WideShapes

theorem Ga.row_far {w : World} {base g : Nat} {m : Gm} {A : Option Addr} {c : Nat} {o : Option Nat} (h : Ga w base g m A c o) {k : Nat} {cs : Array Value} (hk : Row w k 34 cs) (x : Array Value) : Ga (w.setRow k x) base g m A c o := by
  refine h.keep (setRow_other w k g x (Row.ne h.row hk (by decide))) (fun j hj => setRow_other w k j x (fun e => ?_)) (fun p hp => setRow_other w k p x ?_)
  · subst e
    exact h.own.ne hk (by decide) hj
  · rcases h.err with ⟨h0, _⟩ | ⟨p', h0, _, hr⟩
    · rw [h0] at hp; cases hp
    · rw [h0] at hp
      obtain rfl := Option.some.inj hp
      exact Row.ne hr hk (by decide)
section
variable {w wk w' : World} {base g : Nat} {v : Value} {r : Gm × Bool × Gm} {e : Ending}
theorem Nx.from {u : Value} (h : Nx wk v u) (hs : w.heap.size ≤ wk.heap.size) : Nx w v u := by
  rcases h with h | h
  · exact .inl h
  · exact .inr fun k hk => Nat.le_trans hs (h k hk)
theorem TkP.from (h : TkP wk base g v r e w') (hf : Fs (gvS g v) w wk) : TkP w base g v r e w' := by
  obtain ⟨A', c', o, h1, h2, h3, h4, h5, h6⟩ := h
  refine ⟨A', c', o, h1, hf.trans h2 (fun _ _ h => h), h3, h4.from hf.size, h5, ?_⟩
  rcases h6 with ⟨q1, q2, A2, c2, q3, q4⟩ | h6
  · exact .inl ⟨q1, q2, A2, c2, q3, q4.from hf.size⟩
  · exact .inr h6
/-- .. behind a store into a whole block's variable. -/
theorem TkP.stored {k : Nat} {cs : Array Value} (h : TkP w base g v r e w') (hk : Row w' k 34 cs) (hge : w.heap.size ≤ k) (x : Array Value) : TkP w base g v r e (w'.setRow k x) := by
  obtain ⟨A', c', o, h1, h2, h3, h4, h5, h6⟩ := h
  refine ⟨A', c', o, h1, h2.setRow (g := k) (fun h => absurd h (by omega)) x, h3.row_far (h3.ne hk (by decide)) x, h4, h5, ?_⟩
  rcases h6 with ⟨q1, q2, A2, c2, q3, q4⟩ | ⟨q1, q2, p, old, q3, q4, q5, q6⟩
  · exact .inl ⟨q1, q2, A2, c2, q3.row_far hk x, q4⟩
  · exact .inr ⟨q1, q2, p, old, q3, q4.row_far (Row.ne q4 hk (by decide)) x, q5.row_far (Row.ne q5 hk (by decide)) x, q6⟩
end
section
variable {m : Gm} {ty fl st : Nat} {d : List UInt8}
theorem gtk_bad (h : m.bad ≠ 0) : gtk m ty fl st d = (m, false, gm0) := by unfold gtk; rw [if_pos h]
theorem gtk_more (h : m.bad = 0) (hb : m.busy = true) (ht : ty = 9 ∧ st = m.st) : gtk m ty fl st d = gfin (gadd m d) fl := by unfold gtk; rw [if_neg (by simp [h]), if_neg (by simp [hb]), if_pos ht]
theorem gtk_else (h : m.bad = 0) (hb : m.busy = true) (ht : ¬ (ty = 9 ∧ st = m.st)) : gtk m ty fl st d = (gmF 1, false, gm0) := by unfold gtk; rw [if_neg (by simp [h]), if_neg (by simp [hb]), if_neg ht]
theorem gtk_head (h : m.bad = 0) (hb : m.busy = false) (ht : ty = 1) : gtk m ty fl st d = gfin (gbeg fl st d) fl := by subst ht; unfold gtk; rw [if_neg (by simp [h]), if_pos hb, if_neg (by decide), if_pos rfl]
theorem gtk_lone (h : m.bad = 0) (hb : m.busy = false) (ht : ty = 9) : gtk m ty fl st d = (gmF 1, false, gm0) := by unfold gtk; rw [if_neg (by simp [h]), if_pos hb, if_pos ht]
theorem gtk_pass (h : m.bad = 0) (hb : m.busy = false) (h1 : ty ≠ 1) (h9 : ty ≠ 9) : gtk m ty fl st d = (m, false, gm0) := by unfold gtk; rw [if_neg (by simp [h]), if_pos hb, if_neg h9, if_neg h1]
end
theorem TkP.bad {w w' : World} {base g : Nat} {m : Gm} {A : Option Addr} {c p : Nat} {v : Value} (h : Ga w' base g m A c (some p)) (hb : m.bad ≠ 0) (hf : Fs (gvS g v) w w') :
    TkP w base g v (m, false, gm0) (.returned (.tuple #[.agg (whc 0 none 0 0 false), .bool false, erv (some p)])) w' := by
  refine ⟨none, 0, some p, rfl, hf, Bo.nil, Nx.none w v, fun _ => ⟨rfl, rfl⟩, .inr ⟨hb, h.ok, p, _, rfl, ?_, h.row, ga_six _ _ _ _ _ _ _ _⟩⟩
  rcases h.err with ⟨h0, _⟩ | ⟨p', h0, _, hr⟩
  · cases h0
  · obtain rfl := Option.some.inj h0
    exact hr
/-- A struct, stored into the middle of a block. -/
theorem wpList_swm {P : Program} {w : World} {T : TypeId} {cs : Array Value} {ops : Array Oper} {rest : List Oper} {o : Oper} {a : Act} {Q : Exit → Act → World → Prop} (hgd : o.guard = none) (p q : Operand) (ho : o.op = .store T p q) {b i : Nat} (hp : a.eval p = .pointer (some ⟨b, i, none⟩)) (hv : a.eval q = .agg cs) (ht : w.there b i cs.size) (hk : AgOk P T cs)
    (hq : wpList P ops Q rest (a.put o.dst undef) (w.setCells b i cs.toList)) : wpList P ops Q (o :: rest) a w :=
  wpList_store_mid hgd T p q ho b i cs hp hv ht hk.s hk.o hq
/-- Cells of a row, stored anew one by one. -/
def setL (cs : Array Value) : Nat → List Value → Array Value
  | _, [] => cs
  | o, v :: r => setL (cs.setIfInBounds o v) (o + 1) r
theorem row_cells {g : Nat} {t : TypeId} : ∀ (vs : List Value) (o : Nat) (w : World) (cs : Array Value), Row w g t cs → Row (w.setCells g o vs) g t (setL cs o vs)
  | [], _, _, _, h => h
  | v :: r, o, _, _, h => row_cells r (o + 1) _ _ (h.stored o v)
theorem cells_other (x : List Value) : ∀ (w : World) (g k o : Nat), k ≠ g → (w.setCells g o x).heap[k]? = w.heap[k]? := by
  induction x with
  | nil => intros; rfl
  | cons v r ih => intro w g k o hk; rw [World.setCells, ih _ _ _ _ hk]; exact Below.heap_setCell w _ v k hk
theorem cells_size (x : List Value) : ∀ (w : World) (g o : Nat), (w.setCells g o x).heap.size = w.heap.size := by
  induction x with
  | nil => intros; rfl
  | cons v r ih => intro w g o; rw [World.setCells, ih]; simp [World.setCell]
theorem cells_fs {S : Nat → Prop} {w w' : World} (h : Fs S w w') {g : Nat} (hg : g < w.heap.size → S g) : ∀ (x : List Value) (o : Nat), Fs S w (w'.setCells g o x) := by
  intro x
  induction x generalizing w' with
  | nil => intro o; exact h
  | cons v r ih => intro o; rw [World.setCells]; exact ih (h.setCell hg o v) _
theorem ga_begin {w : World} {g st : Nat} {A : Option Addr} {n c : Nat} {en busy : Bool} {more : Nat} {o : Option Nat} (h : Row w g 51 (gac st A n c en busy more o)) (st' : Nat) (A' : Option Addr) (n' c' : Nat) (en' : Bool) : Row (w.setCells g 0 (whc st' A' n' c' en').toList) g 51 (gac st' A' n' c' en' busy more o) := by
  have e : setL (gac st A n c en busy more o) 0 (whc st' A' n' c' en').toList = gac st' A' n' c' en' busy more o := by kernel_rfl
  have h1 := row_cells (whc st' A' n' c' en').toList 0 w _ h
  rw [e] at h1
  exact h1
theorem ga_there {w : World} {g st : Nat} {A : Option Addr} {n c : Nat} {en busy : Bool} {more : Nat} {o : Option Nat} (h : Row w g 51 (gac st A n c en busy more o)) (cs : Array Value) (hcs : cs.size = 3) : w.there g 0 cs.size := fun j hj => by
  rw [Nat.zero_add]
  rw [hcs] at hj
  refine ⟨?_, h.thawed j⟩
  rw [h.cell (v := (gac st A n c en busy more o)[j]'(by rw [ga_six]; omega)) (Array.getElem?_eq_getElem _)]
  rfl
theorem gac_busy (st : Nat) (A : Option Addr) (n c : Nat) (en busy : Bool) (more : Nat) (o : Option Nat) (b : Bool) : (gac st A n c en busy more o).setIfInBounds 3 (.bool b) = gac st A n c en b more o := rfl
theorem gac_more (st : Nat) (A : Option Addr) (n c : Nat) (en busy : Bool) (more : Nat) (o : Option Nat) (k : Nat) : (gac st A n c en busy more o).setIfInBounds 4 (.int .i64 k) = gac st A n c en busy k o := rfl
theorem erv_some (p : Nat) : erv (some p) = .iface 58 (.pointer (some ⟨p, 0, none⟩)) := rfl
theorem erv_none : erv none = .nilIface := rfl
attribute [local irreducible] Fm.c gac
set_option maxRecDepth 100000 in
set_option maxHeartbeats 4000000 in
theorem take_bad {w : World} {base g : Nat} {m : Gm} {A : Option Addr} {c p : Nat} (h : Ga w base g m A c (some p)) (hb : m.bad ≠ 0) (x : Fm) (d : List UInt8) :
    Calls Tryd.prog 16 #[.pointer (some ⟨g, 0, none⟩), .agg x.c] w (TkP w base g (.slice A m.blk.length c) (gtk m x.ty x.fl x.st d)) := by
  rw [gtk_bad hb]
  obtain ⟨w1, hw1, t1, t2, t3, t4⟩ := fr_wh w x
  have T7 := Lib.hid hw1
  have TW := Lib.hid t2
  have H := Lib.hid (h.below t3)
  have HB := Lib.hid hb
  have HF : Hid (Fs (gvS g (.slice A m.blk.length c)) w w1) := Fs.of_below t3
  have f5 := (ga_cells H.out.row).2.2.2.2.2
  rw [erv_some] at f5
  clear hw1 t1 t2 t3 t4 h hb
  go_enter Tryd.func16, Tryd.ntmps16
  go_upto_region 1 with fail
  rw [T7.out]
  clear T7
  go_wp2_with fail
  have TW2 : Hid (Row w1.drew (w.heap.size + 1) 34 (whc 0 none 0 0 false)) := TW.out
  have H2 : Hid (Ga w1.drew base g m A c (some p)) := H.out.keep rfl (fun _ _ => rfl) (fun _ _ => rfl)
  have HF2 : Hid (Fs (gvS g (.slice A m.blk.length c)) w w1.drew) := HF.out.drewN 1
  refine wp_region_held_drew (S := fun w' => w'.cell? ⟨g, 5, none⟩ = some (.iface 58 (.pointer (some ⟨p, 0, none⟩)))) (by kernel_rfl) f5 (fun hHeld => ?_)
  clear TW H HF
  refine wpAnyH_take (i := 0) (v := ?v0) rfl (by kernel_rfl) (by kernel_rfl) (by kernel_rfl) (fun _ _ _ h => h) (Or.inl ⟨by rfl, ?hy0⟩) (by assumption) ?rest0
  case hy0 => (intro w hSw; (try dsimp only at hSw); go_simp <;> with_reducible rfl)
  try simp only [Act.put, List.getElem_toArray, List.getElem_cons_zero, List.setIfInBounds_toArray, List.set_cons_zero, List.set_cons_succ]
  refine wpAnyH_take (i := 1) (v := ?v1) rfl (by kernel_rfl) (by kernel_rfl) (by kernel_rfl) (fun _ _ _ h => h) (Or.inl ⟨by rfl, ?hy1⟩) (by assumption) ?rest1
  case hy1 => (intro w hSw; (try dsimp only at hSw); go_simp <;> with_reducible rfl)
  try simp only [Act.put, List.getElem_toArray, List.getElem_cons_zero, List.getElem_cons_succ, List.setIfInBounds_toArray, List.set_cons_zero, List.set_cons_succ]
  refine wpAnyH_take (i := 2) (v := ?v2) rfl (by kernel_rfl) (by kernel_rfl) (by kernel_rfl) (fun _ _ _ h => h) (Or.inl ⟨by rfl, ?hy2⟩) (by assumption) ?rest2
  case hy2 => (intro w hSw; (try dsimp only at hSw); go_simp <;> with_reducible rfl)
  try simp only [Act.put, List.getElem_toArray, List.getElem_cons_zero, List.getElem_cons_succ, List.setIfInBounds_toArray, List.set_cons_zero, List.set_cons_succ]
  refine wpAnyH_take (i := 3) (v := ?v3) rfl (by kernel_rfl) (by kernel_rfl) (by kernel_rfl) (fun _ _ _ h => h) (Or.inl ⟨by rfl, ?hy3⟩) (by assumption) ?rest3
  case hy3 => (intro w hSw; (try dsimp only at hSw); go_simp <;> with_reducible rfl)
  try simp only [Act.put, List.getElem_toArray, List.getElem_cons_zero, List.getElem_cons_succ, List.setIfInBounds_toArray, List.set_cons_zero, List.set_cons_succ]
  refine wpAnyH_take (i := 4) (v := ?v4) rfl (by kernel_rfl) (by kernel_rfl) (by kernel_rfl) (fun _ _ _ h => h) (Or.inl ⟨by rfl, ?hy4⟩) (by assumption) ?rest4
  case hy4 => (intro w hSw; (try dsimp only at hSw); go_simp <;> with_reducible rfl)
  try simp only [Act.put, List.getElem_toArray, List.getElem_cons_zero, List.getElem_cons_succ, List.setIfInBounds_toArray, List.set_cons_zero, List.set_cons_succ]
  generalize w1.drew = w2 at *
  refine wpAnyH_ready (rs := [5]) (by kernel_rfl) (by simp) ?_
  refine AllReadyH.cons rfl (fun K hK => ?_) AllReadyH.nil
  refine step_sw (cs := whc 0 none 0 0 false) rfl _ _ rfl rfl rfl TW2.out (wh_sz _ _ _ _ _ _ _ _ _ _) (wh_ok _ _ _ _ _) ?_
  refine hK.out _ _ ?_ (fun hHeld => ?_)
  · exact (World.cell?_of_block (a := ⟨g, 5, none⟩) (setRow_other w2 _ g _ (Row.ne H2.out.row TW2.out (by decide)))).trans hHeld
  clear hK K
  try simp only [Act.put, List.getElem_toArray, List.getElem_cons_zero, List.getElem_cons_succ]
  refine wpAnyH_take (i := 6) (v := ?v6q1) rfl (by kernel_rfl) (by kernel_rfl) (by kernel_rfl) (fun _ _ _ h => h) (Or.inl ⟨by rfl, ?hy6q1⟩) (by assumption) ?rest6q1
  case hy6q1 => (intro w hSw; (try dsimp only at hSw); go_simp <;> with_reducible rfl)
  try simp only [Act.put, List.getElem_toArray, List.getElem_cons_zero, List.getElem_cons_succ, List.setIfInBounds_toArray, List.set_cons_zero, List.set_cons_succ]
  refine wpAnyH_take (i := 7) (v := ?v7q1) rfl (by kernel_rfl) (by kernel_rfl) (by kernel_rfl) (fun _ _ _ h => h) (Or.inl ⟨by rfl, ?hy7q1⟩) (by assumption) ?rest7q1
  case hy7q1 => (intro w hSw; (try dsimp only at hSw); go_simp <;> with_reducible rfl)
  try simp only [Act.put, List.getElem_toArray, List.getElem_cons_zero, List.getElem_cons_succ, List.setIfInBounds_toArray, List.set_cons_zero, List.set_cons_succ]
  refine wpAnyH_done (by kernel_rfl) ?_ _
  go_wp2_with fail
  refine bodyPost_ret (v := .tuple #[.agg (whc 0 none 0 0 false), .bool false, erv (some p)]) (ret_avv rfl _ rfl (TW2.out.setRow _) (wh_ok _ _ _ _ _) rfl rfl) rfl ?_
  exact (TkP.bad H2.out HB.out HF2.out).stored TW2.out (by omega) _
attribute [local irreducible] whc
set_option maxRecDepth 100000 in
set_option maxHeartbeats 4000000 in
theorem take_lone {w : World} {base g : Nat} {m : Gm} {A : Option Addr} {c : Nat} (h : Ga w base g m A c none) (hb : m.bad = 0) (hi : m.busy = false) (x : Fm) (d : List UInt8) (ht : x.ty = 9) :
    Calls Tryd.prog 16 #[.pointer (some ⟨g, 0, none⟩), .agg x.c] w (TkP w base g (.slice A m.blk.length c) (gtk m x.ty x.fl x.st d)) := by
  rw [gtk_lone hb hi ht]
  obtain ⟨w1, hw1, t1, t2, t3, t4⟩ := fr_wh w x
  have T7 := Lib.hid hw1
  have TX := Lib.hid t1
  have TW := Lib.hid t2
  have H := Lib.hid (h.below t3)
  have HF : Hid (Fs (gvS g (.slice A m.blk.length c)) w w1) := Fs.of_below t3
  have HSZ : Hid (w1.heap.size = w.heap.size + 2) := t4
  obtain ⟨f0, f1, f2, f3, f4, f5⟩ := ga_cells H.out.row
  obtain ⟨c0, c1, c2, _⟩ := fm_cells TX.out
  rw [erv_none] at f5
  clear hw1 t1 t2 t3 t4 h
  rw [hi] at f3
  have e1 : ((x.ty : Int) == 1) = false := by rw [ht]; rfl
  have e9 : ((x.ty : Int) == 9) = true := by rw [ht]; rfl
  clear hb hi ht TX f0 f1 f2 f4 c1 c2 HSZ
  go_enter Tryd.func16, Tryd.ntmps16
  go_upto_region 1 with fail
  rw [T7.out]
  clear T7
  go_wp2_with (refine wpList_build_is rfl 34 _ rfl (whc 0 none 0 0 false) (by kernel_rfl) ?_)
  refine (conn_any 1 _).mono ?_
  rintro e w3 ⟨p, rfl, hr, hb3⟩
  have HR3 := Lib.hid (H.out.row.below hb3 H.out.row.lt)
  have TW3 : Hid (Row w3 (w.heap.size + 1) 34 (whc 0 none 0 0 false)) := TW.out.below hb3 TW.out.lt
  have HF3 : Hid (Fs (gvS g (.slice A m.blk.length c)) w w3) := HF.out.then_below hb3
  have HP : Hid (Row w3 p 61 #[.int .u8 1, .int .u32 1]) := hr
  clear H TW HF hr hb3
  go_wp2_with (refine wpList_sw (cs := whc 0 none 0 0 false) rfl _ _ rfl rfl rfl TW3.out (wh_sz _ _ _ _ _ _ _ _ _ _) (wh_ok _ _ _ _ _) ?_)
  refine bodyPost_ret (v := .tuple #[.agg (whc 0 none 0 0 false), .bool false, erv (some p)]) (ret_avv rfl _ rfl (TW3.out.setRow _) (wh_ok _ _ _ _ _) rfl rfl) rfl ?_
  exact (TkP.fail (c := 1) (by omega) HF3.out HP.out HR3.out (ga_six _ _ _ _ _ _ _ _)).stored TW3.out (by omega) _
set_option maxRecDepth 100000 in
set_option maxHeartbeats 4000000 in
theorem take_pass {w : World} {base g : Nat} {m : Gm} {A : Option Addr} {c : Nat} (h : Ga w base g m A c none) (hb : m.bad = 0) (hi : m.busy = false) (x : Fm) (d : List UInt8) (h1 : x.ty ≠ 1) (h9 : x.ty ≠ 9) :
    Calls Tryd.prog 16 #[.pointer (some ⟨g, 0, none⟩), .agg x.c] w (TkP w base g (.slice A m.blk.length c) (gtk m x.ty x.fl x.st d)) := by
  rw [gtk_pass hb hi h1 h9]
  obtain ⟨w1, hw1, t1, t2, t3, t4⟩ := fr_wh w x
  have T7 := Lib.hid hw1
  have TX := Lib.hid t1
  have TW := Lib.hid t2
  have H := Lib.hid (h.below t3)
  have HF : Hid (Fs (gvS g (.slice A m.blk.length c)) w w1) := Fs.of_below t3
  have HSZ : Hid (w1.heap.size = w.heap.size + 2) := t4
  obtain ⟨f0, f1, f2, f3, f4, f5⟩ := ga_cells H.out.row
  obtain ⟨c0, c1, c2, _⟩ := fm_cells TX.out
  rw [erv_none] at f5
  clear hw1 t1 t2 t3 t4 h
  rw [hi] at f3
  have e1 : ((x.ty : Int) == 1) = false := ne_f (by omega)
  have e9 : ((x.ty : Int) == 9) = false := ne_f (by omega)
  have HB := Lib.hid hb
  clear hb hi h1 h9 TX f0 f1 f2 f4 c1 c2 HSZ
  go_enter Tryd.func16, Tryd.ntmps16
  go_upto_region 1 with fail
  rw [T7.out]
  clear T7
  go_wp2_with (first | (refine wpList_build_is rfl 34 _ rfl (whc 0 none 0 0 false) (by kernel_rfl) ?_) | (refine wpList_sw (cs := whc 0 none 0 0 false) rfl _ _ rfl rfl rfl TW.out (wh_sz _ _ _ _ _ _ _ _ _ _) (wh_ok _ _ _ _ _) ?_))
  refine bodyPost_ret (v := .tuple #[.agg (whc 0 none 0 0 false), .bool false, .nilIface]) (ret_avv rfl _ rfl (TW.out.setRow _) (wh_ok _ _ _ _ _) rfl rfl) rfl ?_
  exact (TkP.on HB.out HF.out H.out (.inl rfl)).stored TW.out (by omega) _
set_option maxRecDepth 100000 in
set_option maxHeartbeats 4000000 in
theorem take_else_ty {w : World} {base g : Nat} {m : Gm} {A : Option Addr} {c : Nat} (h : Ga w base g m A c none) (hb : m.bad = 0) (hi : m.busy = true) (x : Fm) (d : List UInt8) (ht : x.ty ≠ 9) :
    Calls Tryd.prog 16 #[.pointer (some ⟨g, 0, none⟩), .agg x.c] w (TkP w base g (.slice A m.blk.length c) (gtk m x.ty x.fl x.st d)) := by
  rw [gtk_else hb hi (fun e => ht e.1)]
  obtain ⟨w1, hw1, t1, t2, t3, t4⟩ := fr_wh w x
  have T7 := Lib.hid hw1
  have TX := Lib.hid t1
  have TW := Lib.hid t2
  have H := Lib.hid (h.below t3)
  have HF : Hid (Fs (gvS g (.slice A m.blk.length c)) w w1) := Fs.of_below t3
  have HSZ : Hid (w1.heap.size = w.heap.size + 2) := t4
  obtain ⟨f0, f1, f2, f3, f4, f5⟩ := ga_cells H.out.row
  obtain ⟨c0, c1, c2, _⟩ := fm_cells TX.out
  rw [erv_none] at f5
  clear hw1 t1 t2 t3 t4 h
  rw [hi] at f3
  have e9 : ((x.ty : Int) != 9) = true := bne_iff_ne.2 (by omega)
  clear hb hi ht f1 f2 f4 c1 HSZ
  go_enter Tryd.func16, Tryd.ntmps16
  go_upto_region 1 with fail
  rw [T7.out]
  clear T7
  go_wp2_with fail
  go_quiet (fail)
  have H2 : Hid (Ga (w1.drewN nq) base g m A c none) := H.out.keep rfl (fun _ _ => rfl) (fun _ _ => rfl)
  have TW2 : Hid (Row (w1.drewN nq) (w.heap.size + 1) 34 (whc 0 none 0 0 false)) := TW.out
  have HF2 : Hid (Fs (gvS g (.slice A m.blk.length c)) w (w1.drewN nq)) := HF.out.drewN nq
  clear H TX TW HF f0 f3 f5 c0 c2
  generalize w1.drewN nq = w2 at *
  go_wp2_with (refine wpList_build_is rfl 34 _ rfl (whc 0 none 0 0 false) (by kernel_rfl) ?_)
  refine (conn_any 1 _).mono ?_
  rintro e w3 ⟨p, rfl, hr, hb3⟩
  have HR3 := Lib.hid (H2.out.row.below hb3 H2.out.row.lt)
  have TW3 : Hid (Row w3 (w.heap.size + 1) 34 (whc 0 none 0 0 false)) := TW2.out.below hb3 TW2.out.lt
  have HF3 : Hid (Fs (gvS g (.slice A m.blk.length c)) w w3) := HF2.out.then_below hb3
  have HP : Hid (Row w3 p 61 #[.int .u8 1, .int .u32 1]) := hr
  clear H2 TW2 HF2 hr hb3
  go_wp2_with (refine wpList_sw (cs := whc 0 none 0 0 false) rfl _ _ rfl rfl rfl TW3.out (wh_sz _ _ _ _ _ _ _ _ _ _) (wh_ok _ _ _ _ _) ?_)
  refine bodyPost_ret (v := .tuple #[.agg (whc 0 none 0 0 false), .bool false, erv (some p)]) (ret_avv rfl _ rfl (TW3.out.setRow _) (wh_ok _ _ _ _ _) rfl rfl) rfl ?_
  exact (TkP.fail (c := 1) (by omega) HF3.out HP.out HR3.out (ga_six _ _ _ _ _ _ _ _)).stored TW3.out (by omega) _
set_option maxRecDepth 100000 in
set_option maxHeartbeats 4000000 in
theorem take_else_st {w : World} {base g : Nat} {m : Gm} {A : Option Addr} {c : Nat} (h : Ga w base g m A c none) (hb : m.bad = 0) (hi : m.busy = true) (x : Fm) (d : List UInt8) (ht : x.ty = 9) (hs : x.st ≠ m.st) :
    Calls Tryd.prog 16 #[.pointer (some ⟨g, 0, none⟩), .agg x.c] w (TkP w base g (.slice A m.blk.length c) (gtk m x.ty x.fl x.st d)) := by
  rw [gtk_else hb hi (fun e => hs e.2)]
  obtain ⟨w1, hw1, t1, t2, t3, t4⟩ := fr_wh w x
  have T7 := Lib.hid hw1
  have TX := Lib.hid t1
  have TW := Lib.hid t2
  have H := Lib.hid (h.below t3)
  have HF : Hid (Fs (gvS g (.slice A m.blk.length c)) w w1) := Fs.of_below t3
  have HSZ : Hid (w1.heap.size = w.heap.size + 2) := t4
  obtain ⟨f0, f1, f2, f3, f4, f5⟩ := ga_cells H.out.row
  obtain ⟨c0, c1, c2, _⟩ := fm_cells TX.out
  rw [erv_none] at f5
  clear hw1 t1 t2 t3 t4 h
  rw [hi] at f3
  have e9 : ((x.ty : Int) != 9) = false := by rw [ht]; rfl
  have es : ((x.st : Int) != (m.st : Int)) = true := bne_iff_ne.2 (by omega)
  clear hb hi ht hs f1 f2 f4 c1 HSZ
  go_enter Tryd.func16, Tryd.ntmps16
  go_upto_region 1 with fail
  rw [T7.out]
  clear T7
  go_wp2_with fail
  go_quiet (fail)
  have H2 : Hid (Ga (w1.drewN nq) base g m A c none) := H.out.keep rfl (fun _ _ => rfl) (fun _ _ => rfl)
  have TW2 : Hid (Row (w1.drewN nq) (w.heap.size + 1) 34 (whc 0 none 0 0 false)) := TW.out
  have HF2 : Hid (Fs (gvS g (.slice A m.blk.length c)) w (w1.drewN nq)) := HF.out.drewN nq
  clear H TX TW HF f0 f3 f5 c0 c2
  generalize w1.drewN nq = w2 at *
  go_wp2_with (refine wpList_build_is rfl 34 _ rfl (whc 0 none 0 0 false) (by kernel_rfl) ?_)
  refine (conn_any 1 _).mono ?_
  rintro e w3 ⟨p, rfl, hr, hb3⟩
  have HR3 := Lib.hid (H2.out.row.below hb3 H2.out.row.lt)
  have TW3 : Hid (Row w3 (w.heap.size + 1) 34 (whc 0 none 0 0 false)) := TW2.out.below hb3 TW2.out.lt
  have HF3 : Hid (Fs (gvS g (.slice A m.blk.length c)) w w3) := HF2.out.then_below hb3
  have HP : Hid (Row w3 p 61 #[.int .u8 1, .int .u32 1]) := hr
  clear H2 TW2 HF2 hr hb3
  go_wp2_with (refine wpList_sw (cs := whc 0 none 0 0 false) rfl _ _ rfl rfl rfl TW3.out (wh_sz _ _ _ _ _ _ _ _ _ _) (wh_ok _ _ _ _ _) ?_)
  refine bodyPost_ret (v := .tuple #[.agg (whc 0 none 0 0 false), .bool false, erv (some p)]) (ret_avv rfl _ rfl (TW3.out.setRow _) (wh_ok _ _ _ _ _) rfl rfl) rfl ?_
  exact (TkP.fail (c := 1) (by omega) HF3.out HP.out HR3.out (ga_six _ _ _ _ _ _ _ _)).stored TW3.out (by omega) _
end Go.Proofs.YtcbepicdnmnfaaaDoor
