/-
  wasOpened, State, by their contracts. No conditions but those that each theorem names.
  A side's send: a frame's bytes behind the row; by its contract. Conditions: the frame may be, unpadded; its slices are read; the row is the side's own.
  A side's tell: an event behind those that wait; by its contract. Conditions: those are the side's own, and few.
  What waits at a side, to be sent and to be told: in memory; send and tell upon it; sendAway, fail. Conditions: errors.errorType holds what the program's text lays (fail); few bytes and events.
  A server's sendSettings, by its contract. Conditions: few bytes wait.
-/
import Derived.Test.YtooaajnkiokpnaaGreatDoorMC1
import Derived.Test.YtooaajnkiokpnaaGreatDoorFputw
import Derived.Test.YtooaajnkiokpnaaGreatDoorLast
import Derived.Deep.RegionHeld3
import Derived.Deep.Cut
import Derived.Test.YtooaajnkiokpnaaGreatDoorTail
import Derived.Test.YtooaajnkiokpnaaGreatDoorFerr

namespace Go.Proofs.YtooaajnkiokpnaaGreatDoor
open Go.RowKit Go.WideShapes

theorem cc_nt {w : World} {g k : Nat} {T U : TypeId} {cs ds : Array Value} (h : Row w g T cs) (h2 : Row w k U ds) (hn : T ≠ U) : g ≠ k := by
  rintro rfl
  unfold Row at h h2
  rw [h] at h2
  injection h2 with h2
  injection h2 with _ h2
  exact hn h2
theorem own_row {w : World} {base : Nat} {e : TypeId} {k n : Nat} {v : Value} {cs : List Value} (h : OwS w base e k v n cs) {g : Nat} (hg : ob v g) : ∃ cur, Row w g e cur := by
  unfold ob at hg
  rcases h.2 with ⟨rfl, _⟩ | ⟨g', o, c, cur, rfl, _, hr, _⟩
  · simp [Value.ownBlock] at hg
  · simp [Value.ownBlock] at hg
    subst hg
    exact ⟨cur, hr⟩
/-- A row of bytes isn't where the side is. -/
theorem row_ne {w : World} {c : Nat} {cs : Array Value} {base : Nat} {v : Value} {l : List UInt8} (h : Row w c 86 cs) (hb : Bo w base 5 v l) : ¬ ob v c := fun hk => by
  obtain ⟨cur, h4⟩ := own_row hb hk
  exact cc_nt h h4 (by decide) rfl
theorem fm_unpad {w : World} {g : Nat} {X : Fm} {q : Int} (h : Row w g 66 ({ X with pad := q } : Fm).c) (hp : X.pad = -1) : Row (w.setCell ⟨g, 4, none⟩ (.int .i64 (-1))) g 66 X.c := by
  rw [← hp]
  exact h.stored 4 (.int .i64 X.pad)
/-- What is left of a call that only makes the row grow: the row's bytes then. -/
def SentP (w : World) (c : Nat) (x : Cc) (l : List UInt8) (w' : World) : Prop :=
  ∃ v, Row w' c 86 ({ x with row := v } : Cc).c ∧ Bo w' 0 5 v l ∧ Fs (fun k => k = c ∨ ob x.row k) w w' ∧ Nx w x.row v
attribute [local irreducible] Cc.c Fm.c

set_option maxRecDepth 100000 in
set_option maxHeartbeats 2000000 in
theorem send_anyC {w : World} {c : Nat} {x : Cc} (h : Row w c 86 x.c) {L : List UInt8} (hr : Bo w 0 5 x.row L) (hl : L.length ≤ 100000000000) (f : Frm) (hk : f.Ok) (hm : f.May) (hp : f.pad = -1) {dA sA : Option Addr} {dc sc : Nat} {q : Int}
    (hD : RdB w w.heap.size dA f.dat) (hS : RdS w (· < w.heap.size) sA (enl sgc f.sets)) :
    Calls Tryz.prog 74 #[.pointer (some ⟨c, 0, none⟩), .agg ({ f.fm dA dc sA sc with pad := q } : Fm).c] w fun e w' => e = .returned (.tuple #[]) ∧ SentP w c x (L ++ putL7 f) w' := by
  obtain ⟨i0, hi0, hz0, hz1, hz2⟩ := info_parts u8_info
  have hlen := pay_small f hm
  have HL7 : Hid ((putL7 f).length ≤ 16393) := by
    show _ ≤ _
    unfold putL7
    rw [List.length_append, headL_length]
    omega
  have hb0 : Below w.heap.size w (w.alloc (.cells ({ f.fm dA dc sA sc with pad := q } : Fm).c 66)) := (Below.refl _ _).alloc (Nat.le_refl _) _
  have hX0 : Row (w.alloc (.cells ({ f.fm dA dc sA sc with pad := q } : Fm).c 66)) w.heap.size 66 ({ f.fm dA dc sA sc with pad := q } : Fm).c := Row.new w _ _
  have hX1 := fm_unpad hX0 (show (f.fm dA dc sA sc).pad = -1 from hp)
  have f4 := (fm_cells hX0).2.2.2.2.1
  have z4 := hX0.thawed 4
  have hb1 : Below w.heap.size w ((w.alloc (.cells ({ f.fm dA dc sA sc with pad := q } : Fm).c 66)).setCell ⟨w.heap.size, 4, none⟩ (.int .i64 (-1))) := hb0.setCell (p := ⟨w.heap.size, 4, none⟩) (Nat.le_refl _) _
  have HX := Lib.hid hX1
  have HB := Lib.hid hb1
  have hsz : w.heap.size < (w.alloc (.cells ({ f.fm dA dc sA sc with pad := q } : Fm).c 66)).heap.size := hX0.lt
  have H := Lib.hid (h.below hb1 h.lt)
  have HO := Lib.hid (hr.below hb1)
  have HD := Lib.hid (hD.below hb1)
  have HS := Lib.hid (hS.up hb1)
  have HC := Lib.hid h
  have HR0 := Lib.hid hr
  clear h hr hX0 hX1 hb0 hb1 hD hS hlen hp
  go_enter Tryz.func74, Tryz.ntmps74
  go_upto_region 1 with fail
  generalize w.alloc (.cells ({ f.fm dA dc sA sc with pad := q } : Fm).c 66) = w1 at *
  have hw0 : w.heap.size ≤ w.heap.size := Nat.le_refl _
  obtain ⟨p, hpp⟩ : ∃ p, w.heap.size = p := ⟨_, rfl⟩
  rw [hpp] at f4 z4 hsz HX HD HS HB H HO ⊢
  have HP := Lib.hid hpp
  clear hpp hw0
  go_upto_region 2 with fail
  generalize w1.setCell ⟨p, 4, none⟩ (.int .i64 (-1)) = w2 at *
  have c16 := cc16 H.out
  have hc2 : c < w2.heap.size := H.out.lt
  have hp2 : p < w2.heap.size := HX.out.lt
  have hput := fput_yes f hk hm (dA := dA) (sA := sA) (dc := dc) (sc := sc) w2.drew (HD.out.more (by show p ≤ w2.heap.size; omega)) (HS.out.imp fun k _ hk => hk)
  go_wp2_with fail
  refine wp_region_E 10 (fun w' => Row w' p 66 (f.fm dA dc sA sc).c ∧ w'.cell? ⟨c, 16, none⟩ = some x.row) (by kernel_rfl) ⟨HX.out, c16⟩ (fun hHeld => ?_)
  refine wpAnyE_take (i := 0) (v := ?v0) rfl (by kernel_rfl) (by kernel_rfl) (by kernel_rfl) (by kernel_rfl) (fun _ _ _ h => h) (Or.inl ⟨by rfl, ?hy0⟩) (by assumption) ?rest0
  case hy0 => (intro w hSw; (try dsimp only at hSw); go_simp <;> with_reducible rfl)
  try simp only [Act.put, List.getElem_toArray, List.getElem_cons_zero, List.getElem_cons_succ, List.setIfInBounds_toArray, List.set_cons_zero, List.set_cons_succ]
  refine wpAnyE_take (i := 1) (v := ?v1) rfl (by kernel_rfl) (by kernel_rfl) (by kernel_rfl) (by kernel_rfl) (fun _ _ _ h => h) (Or.inl ⟨by rfl, ?hy1⟩) (by assumption) ?rest1
  case hy1 => (intro w hSw; (try dsimp only at hSw); go_simp <;> with_reducible rfl)
  try simp only [Act.put, List.getElem_toArray, List.getElem_cons_zero, List.getElem_cons_succ, List.setIfInBounds_toArray, List.set_cons_zero, List.set_cons_succ]
  refine wpAnyE_take (i := 2) (v := ?v2) rfl (by kernel_rfl) (by kernel_rfl) (by kernel_rfl) (by kernel_rfl) (fun _ _ _ h => h) (Or.inl ⟨by rfl, ?hy2⟩) (by assumption) ?rest2
  case hy2 => (intro w hSw; (try dsimp only at hSw); go_simp <;> with_reducible rfl)
  try simp only [Act.put, List.getElem_toArray, List.getElem_cons_zero, List.getElem_cons_succ, List.setIfInBounds_toArray, List.set_cons_zero, List.set_cons_succ]
  refine wpAnyE_take (i := 3) (v := ?v3) rfl (by kernel_rfl) (by kernel_rfl) (by kernel_rfl) (by kernel_rfl) (fun _ _ _ h => h) (Or.inl ⟨by rfl, ?hy3⟩) (by assumption) ?rest3
  case hy3 => (intro w hSw; (try dsimp only at hSw); go_simp <;> with_reducible rfl)
  try simp only [Act.put, List.getElem_toArray, List.getElem_cons_zero, List.getElem_cons_succ, List.setIfInBounds_toArray, List.set_cons_zero, List.set_cons_succ]
  refine wpAnyE_take (i := 4) (v := ?v4) rfl (by kernel_rfl) (by kernel_rfl) (by kernel_rfl) (by kernel_rfl) (fun _ _ _ h => h) (Or.inl ⟨by rfl, ?hy4⟩) (by assumption) ?rest4
  case hy4 => (intro w hSw; (try dsimp only at hSw); go_simp <;> with_reducible rfl)
  try simp only [Act.put, List.getElem_toArray, List.getElem_cons_zero, List.getElem_cons_succ, List.setIfInBounds_toArray, List.set_cons_zero, List.set_cons_succ]
  refine wpAnyE_take (i := 5) (v := _) rfl (by kernel_rfl) (by kernel_rfl) (by kernel_rfl) (by kernel_rfl) (fun _ _ _ h => h) (yields_fm (by rfl) _ rfl rfl (fun _ hSw => hSw.1)) (by assumption) ?rest5q1
  try simp only [Act.put, List.getElem_toArray, List.getElem_cons_zero, List.getElem_cons_succ, List.setIfInBounds_toArray, List.set_cons_zero, List.set_cons_succ]
  refine wpAnyE_next (i := 6) (by kernel_rfl) rfl (fun K hK => ?_)
  go_simp
  go_at_call 116
  refine hput.mono ?_
  rintro e w3 ⟨A, cp, rfl, hO3, hb3⟩
  have hb3' : Below w2.heap.size w2 w3 := ⟨hb3.os, hb3.tape, hb3.output, hb3.size, hb3.block⟩
  have hX3 := HX.out.below hb3' hp2
  have H3 := Lib.hid (H.out.below hb3' hc2)
  have HO3 := Lib.hid (HO.out.below hb3')
  have HN3 : Hid (Bo w3 w2.heap.size 5 (.slice A (putL7 f).length cp) (putL7 f)) := hO3
  have HB3 := Lib.hid (HB.out.trans (hb3'.mono (by omega)))
  have k16 := cc16 H3.out
  clear hO3 hb3 hb3' hput HX H HO HB HD HS c16 hHeld
  go_simp
  refine hK.out _ _ ⟨hX3, k16⟩ (fun hHeld => ?_)
  clear hK K
  try simp only [Act.put, List.getElem_toArray, List.getElem_cons_zero, List.getElem_cons_succ, List.setIfInBounds_toArray, List.set_cons_zero, List.set_cons_succ]
  refine wpAnyE_next (i := 7) (by kernel_rfl) rfl (fun K hK => ?_)
  refine step_appBo rfl (.tmp 9) (.tmp 11) 22 rfl 0 5 i0 Tryz.underlying22 hi0 hz0 hz1 hz2 x.row L rfl HO3.out w3.heap.size A (putL7 f) _ _ rfl rfl (Bo.reads HN3.out) (by have := HL7.out; omega) (Nat.zero_le _) (fun v4 w4 hO4 hF4 hN4 => ?_)
  obtain ⟨A4, c4, rfl, _⟩ := hO4.shape
  have hrn := row_ne H3.out HO3.out
  have hpn : ¬ ob x.row p := fun hk => by
    obtain ⟨cur, h4⟩ := own_row HO3.out hk
    exact cc_nt hX3 h4 (by decide) rfl
  have hX4 := hF4.row hpn hX3
  have h4 := hF4.row hrn H3.out
  have q16 := cc16 h4
  have z16 := h4.thawed 16
  have HFIN : Hid (SentP w c x (L ++ putL7 f) (w4.setCell ⟨c, 16, none⟩ (.slice A4 (L ++ putL7 f).length c4))) :=
    ⟨_, cc_row h4 _, OwS.setCell (a := ⟨c, 16, none⟩) hO4 (row_ne h4 hO4) _, ((Fs.of_below (by rw [HP.out]; exact HB3.out)).trans hF4 (fun k _ h => .inr h)).setCell (fun _ => .inl rfl) 16 _, (Nx.refl w x.row).trans hN4 (by have := HB3.out.size; omega)⟩
  clear hO4 hF4 hN4 hrn hpn h4 hX3 k16 H3 HO3 HN3 HB3 HC HR0
  refine hK.out _ _ ⟨hX4, q16⟩ (fun hHeld => ?_)
  clear hK K
  try simp only [Act.put, List.getElem_toArray, List.getElem_cons_zero, List.getElem_cons_succ, List.setIfInBounds_toArray, List.set_cons_zero, List.set_cons_succ]
  refine wpAnyE_take (i := 8) (v := ?v8q2) rfl (by kernel_rfl) (by kernel_rfl) (by kernel_rfl) (by kernel_rfl) (fun _ _ _ h => h) (Or.inl ⟨by rfl, ?hy8q2⟩) (by assumption) ?rest8q2
  case hy8q2 => (intro w hSw; (try dsimp only at hSw); go_simp <;> with_reducible rfl)
  try simp only [Act.put, List.getElem_toArray, List.getElem_cons_zero, List.getElem_cons_succ, List.setIfInBounds_toArray, List.set_cons_zero, List.set_cons_succ]
  refine wpAnyE_take (i := 9) (v := ?v9q2) rfl (by kernel_rfl) (by kernel_rfl) (by kernel_rfl) (by kernel_rfl) (fun _ _ _ h => h) (Or.inl ⟨by rfl, ?hy9q2⟩) (by assumption) ?rest9q2
  case hy9q2 => (intro w hSw; (try dsimp only at hSw); go_simp <;> with_reducible rfl)
  try simp only [Act.put, List.getElem_toArray, List.getElem_cons_zero, List.getElem_cons_succ, List.setIfInBounds_toArray, List.set_cons_zero, List.set_cons_succ]
  refine wpAnyE_last (by kernel_rfl) rfl (by kernel_rfl) (fun K hK => ?_)
  go_simp
  refine hK.out _ _ ?_
  clear hK K
  try simp only [Act.put, List.getElem_toArray, List.getElem_cons_zero, List.getElem_cons_succ, List.setIfInBounds_toArray, List.set_cons_zero, List.set_cons_succ]
  go_wp2_with fail
  go_end0
  exact ⟨rfl, by rw [← List.length_append]; exact HFIN.out⟩
end Go.Proofs.YtooaajnkiokpnaaGreatDoor

namespace Go.Proofs.YtooaajnkiokpnaaGreatDoor
open Go.RowKit Go.WideShapes

theorem bs_ev (x : Ev) (w : World) : (Instr.buildSlice 81 1 #[(0, .agg (evc x))]).run Tryz.prog w = .ok (.slice (some ⟨w.heap.size, 0, none⟩) 1 1) (w.alloc (.cells (evc x) 31)) := by unfold evc; kernel_rfl
theorem evl_c (x : Ev) : evl x = (evc x).toList := rfl
/-- Events that wait, told by their cells. -/
def EvL (w : World) (v : Value) (L : List Ev) : Prop := OwS w 0 31 8 v L.length (enl evl L)
theorem EvL.below {w w' : World} {v : Value} {L : List Ev} (h : EvL w v L) (hb : Below w.heap.size w w') : EvL w' v L := OwS.below h hb
theorem EvL.nil (w : World) : EvL w (.slice none 0 0) [] := OwS.nil
theorem EvL.fs {w w' : World} {v : Value} {L : List Ev} {S : Nat → Prop} (h : EvL w v L) (hf : Fs S w w') (hS : ∀ k, ob v k → ¬ S k) : EvL w' v L := OwS.keep h fun k hk => hf.block k (OwS.lt h k hk).2 (hS k hk)
theorem ev_ne {w : World} {c : Nat} {cs : Array Value} {v : Value} {L : List Ev} (h : Row w c 86 cs) (hb : EvL w v L) : ¬ ob v c := fun hk => by
  obtain ⟨cur, h4⟩ := own_row hb hk
  exact cc_nt h h4 (by decide) rfl
/-- What is left of a call that only tells: the events then. -/
def TeldP (w : World) (c : Nat) (x : Cc) (L : List Ev) (w' : World) : Prop :=
  ∃ v, Row w' c 86 ({ x with ev := v } : Cc).c ∧ EvL w' v L ∧ Fs (fun k => k = c ∨ ob x.ev k) w w' ∧ Nx w x.ev v
attribute [local irreducible] Cc.c evc

set_option maxRecDepth 100000 in
set_option maxHeartbeats 2000000 in
theorem tell_anyC {w : World} {c : Nat} {x : Cc} (h : Row w c 86 x.c) {L : List Ev} {A1 : Option Addr} {c1 : Nat} (hv : x.ev = .slice A1 L.length c1) (hr : EvL w x.ev L) (hl : L.length ≤ 100000) (y : Ev) :
    Calls Tryz.prog 112 #[.pointer (some ⟨c, 0, none⟩), .agg (evc y)] w fun e w' => e = .returned (.tuple #[]) ∧ TeldP w c x (L ++ [y]) w' := by
  have hb1 : Below w.heap.size w (w.alloc (.cells (evc y) 31)) := (Below.refl _ _).alloc (Nat.le_refl _) _
  have HX : Hid (Row (w.alloc (.cells (evc y) 31)) w.heap.size 31 (evc y)) := Row.new w _ _
  have HB := Lib.hid hb1
  have H := Lib.hid (h.below hb1 h.lt)
  have HO := Lib.hid (hr.below hb1)
  have HV := Lib.hid hv
  have HLT : Hid (∀ k, ob x.ev k → k < w.heap.size) := fun k hk => (OwS.lt hr k hk).2
  clear h hr hb1 hv
  go_enter Tryz.func112, Tryz.ntmps112
  go_upto_region 1 with fail
  generalize w.alloc (.cells (evc y) 31) = w1 at *
  obtain ⟨p, hpp⟩ : ∃ p, w.heap.size = p := ⟨_, rfl⟩
  rw [hpp] at HX HB ⊢
  have HP := Lib.hid hpp
  clear hpp
  have c13 := cc13 H.out
  rw [HV.out] at c13
  go_wp2_with fail
  refine wp_region_E 10 (fun w' => w'.cell? ⟨c, 13, none⟩ = some (.slice A1 L.length c1) ∧ Row w' p 31 (evc y)) (by kernel_rfl) ⟨c13, HX.out⟩ (fun hHeld => ?_)
  refine wpAnyE_take (i := 0) (v := ?v0) rfl (by kernel_rfl) (by kernel_rfl) (by kernel_rfl) (by kernel_rfl) (fun _ _ _ h => h) (Or.inl ⟨by rfl, ?hy0⟩) (by assumption) ?rest0
  case hy0 => (intro w hSw; (try dsimp only at hSw); go_simp <;> with_reducible rfl)
  try simp only [Act.put, List.getElem_toArray, List.getElem_cons_zero, List.getElem_cons_succ, List.setIfInBounds_toArray, List.set_cons_zero, List.set_cons_succ]
  refine wpAnyE_take (i := 1) (v := ?v1) rfl (by kernel_rfl) (by kernel_rfl) (by kernel_rfl) (by kernel_rfl) (fun _ _ _ h => h) (Or.inl ⟨by rfl, ?hy1⟩) (by assumption) ?rest1
  case hy1 => (intro w hSw; (try dsimp only at hSw); go_simp <;> with_reducible rfl)
  try simp only [Act.put, List.getElem_toArray, List.getElem_cons_zero, List.getElem_cons_succ, List.setIfInBounds_toArray, List.set_cons_zero, List.set_cons_succ]
  refine wpAnyE_take (i := 2) (v := ?v2) rfl (by kernel_rfl) (by kernel_rfl) (by kernel_rfl) (by kernel_rfl) (fun _ _ _ h => h) (Or.inl ⟨by rfl, ?hy2⟩) (by assumption) ?rest2
  case hy2 => (intro w hSw; (try dsimp only at hSw); go_simp <;> with_reducible rfl)
  try simp only [Act.put, List.getElem_toArray, List.getElem_cons_zero, List.getElem_cons_succ, List.setIfInBounds_toArray, List.set_cons_zero, List.set_cons_succ]
  refine wpAnyE_take (i := 3) (v := ?v3) rfl (by kernel_rfl) (by kernel_rfl) (by kernel_rfl) (by kernel_rfl) (fun _ _ _ h => h) (Or.inl ⟨by rfl, ?hy3⟩) (by assumption) ?rest3
  case hy3 => (intro w hSw; (try dsimp only at hSw); go_simp <;> with_reducible rfl)
  try simp only [Act.put, List.getElem_toArray, List.getElem_cons_zero, List.getElem_cons_succ, List.setIfInBounds_toArray, List.set_cons_zero, List.set_cons_succ]
  refine wpAnyE_take (i := 4) (v := ?v4) rfl (by kernel_rfl) (by kernel_rfl) (by kernel_rfl) (by kernel_rfl) (fun _ _ _ h => h) (Or.inl ⟨by rfl, ?hy4⟩) (by assumption) ?rest4
  case hy4 => (intro w hSw; (try dsimp only at hSw); go_simp <;> with_reducible rfl)
  try simp only [Act.put, List.getElem_toArray, List.getElem_cons_zero, List.getElem_cons_succ, List.setIfInBounds_toArray, List.set_cons_zero, List.set_cons_succ]
  refine wpAnyE_take (i := 5) (v := _) rfl (by kernel_rfl) (by kernel_rfl) (by kernel_rfl) (by kernel_rfl) (fun _ _ _ h => h) (yields_ld (by rfl) _ rfl rfl (ev_ok _) (fun _ hSw => hSw.2)) (by assumption) ?rest5w1
  try simp only [Act.put, List.getElem_toArray, List.getElem_cons_zero, List.getElem_cons_succ, List.setIfInBounds_toArray, List.set_cons_zero, List.set_cons_succ]
  refine wpAnyE_next (i := 6) (by kernel_rfl) rfl (fun K hK => ?_)
  refine step_bs1 (bs_ev y) rfl (.tmp 9) rfl rfl ?_
  have hal : Below w1.heap.size w1 (w1.drew.alloc (.cells (evc y) 31)) := ((Below.refl _ _).drew).alloc (Nat.le_refl _) _
  have H2 := Lib.hid (H.out.below hal H.out.lt)
  have HO2 := Lib.hid (HO.out.below hal)
  have HB2 := Lib.hid (HB.out.trans (hal.mono (by have := HX.out.lt; omega)))
  have m0 := cc13 H2.out
  rw [HV.out] at m0
  have m1 : Row (w1.drew.alloc (.cells (evc y) 31)) p 31 (evc y) := HX.out.below hal HX.out.lt
  have HN2 := Lib.hid (Row.new w1.drew 31 (evc y))
  have hq : w1.drew.heap.size = w1.heap.size := rfl
  rw [hq] at HN2 ⊢
  have hpl : p < w1.heap.size := HX.out.lt
  have hq2 : w1.heap.size + 1 ≤ (w1.drew.alloc (.cells (evc y) 31)).heap.size := by simp
  clear hal hq H HO HB HX c13 hHeld
  refine hK.out _ _ ⟨m0, m1⟩ (fun hHeld => ?_)
  clear hK K hHeld
  try simp only [Act.put, List.getElem_toArray, List.getElem_cons_zero, List.getElem_cons_succ, List.setIfInBounds_toArray, List.set_cons_zero, List.set_cons_succ]
  generalize w1.drew.alloc (.cells (evc y) 31) = w5 at *
  generalize w1.heap.size = q at *
  have hHeld : w5.cell? ⟨c, 13, none⟩ = some (.slice A1 L.length c1) ∧ Row w5 p 31 (evc y) := ⟨m0, m1⟩
  obtain ⟨i0, hi0, hz0, hz1, hz2⟩ := info_parts ev_full
  have hO2 : OwS w5 0 31 8 (.slice A1 L.length c1) L.length (enl evl L) := by rw [← HV.out]; exact HO2.out
  refine wpAnyE_next (i := 7) (by kernel_rfl) rfl (fun K hK => ?_)
  refine step_appS rfl (.tmp 8) (.tmp 10) 81 rfl 0 31 i0 _ 8 72 Tryz.underlying81 hi0 hz0 hz1 hz2 rfl (.slice A1 L.length c1) L.length (enl evl L) rfl hO2 ⟨q, 0, none⟩ 1 1 (evl y) rfl (evl_len y) (fun j u hj => by rw [add_plain, Nat.zero_add]; exact HN2.out.cell (by rw [evl_c] at hj; simpa using hj)) (evl_one y) (by omega) (by simp only [maxLen]; omega) (by omega) (Nat.zero_le _) ?_
  intro A6 c6 w6 hO6 hg6 hb6
  have hrn := ev_ne H2.out (show EvL w5 (.slice A1 L.length c1) L from hO2)
  have hpn : ¬ ob (.slice A1 L.length c1) p := fun hk => by
    have h1 := HLT.out p (by rw [HV.out]; exact hk)
    have := HP.out
    omega
  have hF6 : Fs (ob (.slice A1 L.length c1)) w5 w6 := Fs.of_grown hg6
  have hN6 : Nx w5 (.slice A1 L.length c1) (.slice A6 (L.length + 1) c6) := Nx.of_new hb6
  have hX6 := hF6.row hpn m1
  have h6 := hF6.row hrn H2.out
  have q13 := cc13 h6
  rw [HV.out] at q13
  have z13 := h6.thawed 13
  have hO6' : EvL w6 (.slice A6 (L.length + 1) c6) (L ++ [y]) := by
    show OwS _ _ _ _ _ _ _
    rw [List.length_append, enl_append, enl_one]
    exact hO6
  have HFIN : Hid (TeldP w c x (L ++ [y]) (w6.setCell ⟨c, 13, none⟩ (.slice A6 (L.length + 1) c6))) := by
    refine ⟨_, cc_ev h6 _, OwS.setCell (a := ⟨c, 13, none⟩) hO6' (ev_ne h6 hO6') _, ?_, ?_⟩
    · rw [HV.out]
      exact ((Fs.of_below (by rw [HP.out]; exact HB2.out)).trans hF6 (fun k _ h => .inr h)).setCell (fun _ => .inl rfl) 13 _
    · rw [HV.out]
      exact (Nx.refl w _).trans hN6 (by have := HB2.out.size; have := HP.out; omega)
  clear hO6 hO6' hg6 hb6 hF6 hN6 hrn hpn h6 hO2 H2 HO2 HB2 HN2 hi0 hz0 hz1 hz2 HLT m0 m1
  refine hK.out _ _ ⟨q13, hX6⟩ (fun hHeld => ?_)
  clear hK K
  try simp only [Act.put, List.getElem_toArray, List.getElem_cons_zero, List.getElem_cons_succ, List.setIfInBounds_toArray, List.set_cons_zero, List.set_cons_succ]
  refine wpAnyE_take (i := 8) (v := ?v8q2) rfl (by kernel_rfl) (by kernel_rfl) (by kernel_rfl) (by kernel_rfl) (fun _ _ _ h => h) (Or.inl ⟨by rfl, ?hy8q2⟩) (by assumption) ?rest8q2
  case hy8q2 => (intro w hSw; (try dsimp only at hSw); go_simp <;> with_reducible rfl)
  try simp only [Act.put, List.getElem_toArray, List.getElem_cons_zero, List.getElem_cons_succ, List.setIfInBounds_toArray, List.set_cons_zero, List.set_cons_succ]
  refine wpAnyE_take (i := 9) (v := ?v9q2) rfl (by kernel_rfl) (by kernel_rfl) (by kernel_rfl) (by kernel_rfl) (fun _ _ _ h => h) (Or.inl ⟨by rfl, ?hy9q2⟩) (by assumption) ?rest9q2
  case hy9q2 => (intro w hSw; (try dsimp only at hSw); go_simp <;> with_reducible rfl)
  try simp only [Act.put, List.getElem_toArray, List.getElem_cons_zero, List.getElem_cons_succ, List.setIfInBounds_toArray, List.set_cons_zero, List.set_cons_succ]
  refine wpAnyE_last (by kernel_rfl) rfl (by kernel_rfl) (fun K hK => ?_)
  go_simp
  refine hK.out _ _ ?_
  clear hK K hHeld
  try simp only [Act.put, List.getElem_toArray, List.getElem_cons_zero, List.getElem_cons_succ, List.setIfInBounds_toArray, List.set_cons_zero, List.set_cons_succ]
  go_wp2_with fail
  go_end0
  exact ⟨rfl, HFIN.out⟩
end Go.Proofs.YtooaajnkiokpnaaGreatDoor

namespace Go.Proofs.YtooaajnkiokpnaaGreatDoor
open Go.RowKit Go.WideShapes

/-- A side, the bytes of its row, the events that wait. -/
structure Hot (w : World) (c : Nat) (x : Cc) (R : List UInt8) (L : List Ev) : Prop where
  row : Row w c 86 x.c
  bo : Bo w 0 5 x.row R
  ev : EvL w x.ev L
def HotF (c : Nat) (x : Cc) (k : Nat) : Prop := k = c ∨ ob x.row k ∨ ob x.ev k
/-- What a call leaves that turns a side alone, with its row and its events. -/
structure HP (w : World) (c : Nat) (x x' : Cc) (R : List UInt8) (L : List Ev) (w' : World) : Prop where
  hot : Hot w' c x' R L
  fs : Fs (HotF c x) w w'
  new : ∀ k, HotF c x' k → HotF c x k ∨ w.heap.size ≤ k
section
variable {w w' w2 : World} {c : Nat} {x x' x2 : Cc} {R R' R2 : List UInt8} {L L' L2 : List Ev}
theorem Hot.keep (h : Hot w c x R L) (hk : ∀ k, HotF c x k → w'.heap[k]? = w.heap[k]?) : Hot w' c x R L :=
  ⟨(hk c (.inl rfl)).trans h.row, OwS.keep h.bo fun k h1 => hk k (.inr (.inl h1)), OwS.keep h.ev fun k h1 => hk k (.inr (.inr h1))⟩
theorem Hot.lt (h : Hot w c x R L) {k : Nat} (hk : HotF c x k) : k < w.heap.size := by
  rcases hk with rfl | hk | hk
  · exact h.row.lt
  · exact (OwS.lt h.bo k hk).2
  · exact (OwS.lt h.ev k hk).2
theorem Hot.below (h : Hot w c x R L) (hb : Below w.heap.size w w') : Hot w' c x R L := h.keep fun k hk => hb.block k (h.lt hk)
theorem Hot.of_fs {S : Nat → Prop} (h : Hot w c x R L) (hf : Fs S w w') (hS : ∀ k, HotF c x k → ¬ S k) : Hot w' c x R L := h.keep fun k hk => hf.block k (h.lt hk) (hS k hk)
theorem Hot.shape (h : Hot w c x R L) : ∃ A c1, x.ev = .slice A L.length c1 := by
  obtain ⟨A, c1, h1, _⟩ := OwS.shape h.ev
  exact ⟨A, c1, h1⟩
theorem HP.refl (h : Hot w c x R L) : HP w c x x R L w := ⟨h, Fs.refl _ _, fun _ h => .inl h⟩
theorem HP.trans (h : HP w c x x' R' L' w') (h2 : HP w' c x' x2 R2 L2 w2) : HP w c x x2 R2 L2 w2 :=
  ⟨h2.hot, h.fs.trans h2.fs fun k hk h1 => (h.new k h1).elim id fun h3 => absurd hk (by omega), fun k hk => by
    rcases h2.new k hk with h3 | h3
    · exact h.new k h3
    · exact .inr (Nat.le_trans h.fs.size h3)⟩
theorem HP.then_below (h : HP w c x x' R L w') (hb : Below w'.heap.size w' w2) : HP w c x x' R L w2 := ⟨h.hot.below hb, h.fs.then_below hb, h.new⟩
theorem HP.of_below (h : Hot w c x R L) (hb : Below w.heap.size w w') : HP w c x x R L w' := (HP.refl h).then_below hb
/-- The side's own cells stored anew. -/
theorem HP.set (h : Hot w c x R L) (j : Nat) (v : Value) (hr : Row (w.setCell ⟨c, j, none⟩ v) c 86 x'.c) (h1 : x'.row = x.row) (h2 : x'.ev = x.ev) : HP w c x x' R L (w.setCell ⟨c, j, none⟩ v) := by
  refine ⟨⟨hr, ?_, ?_⟩, (Fs.refl _ _).setCell (fun _ => .inl rfl) _ _, fun k hk => .inl ?_⟩
  · rw [h1]; exact OwS.setCell (a := ⟨c, j, none⟩) h.bo (row_ne h.row h.bo) _
  · rw [h2]; exact OwS.setCell (a := ⟨c, j, none⟩) h.ev (ev_ne h.row h.ev) _
  · unfold HotF at hk ⊢; rwa [h1, h2] at hk
theorem Hot.apart (h : Hot w c x R L) {k : Nat} (h1 : ob x.row k) (h2 : ob x.ev k) : False := by
  obtain ⟨cur, h3⟩ := own_row h.bo h1
  obtain ⟨cur', h4⟩ := own_row h.ev h2
  exact cc_nt h3 h4 (by decide) rfl
theorem HP.of_sent (h : Hot w c x R L) (hs : SentP w c x R' w') : ∃ v, HP w c x { x with row := v } R' L w' := by
  obtain ⟨v, h1, h2, h3, h4⟩ := hs
  refine ⟨v, ⟨h1, h2, ?_⟩, h3.mono fun k _ hk => hk.elim .inl fun h => .inr (.inl h), fun k hk => ?_⟩
  · exact EvL.fs h.ev h3 fun k hk h5 => by
      rcases h5 with rfl | h5
      · exact ev_ne h.row h.ev hk
      · exact h.apart h5 hk
  · rcases hk with hk | hk | hk
    · exact .inl (.inl hk)
    · exact (h4.own hk).elim (fun h => .inl (.inr (.inl h))) .inr
    · exact .inl (.inr (.inr hk))
theorem HP.of_teld (h : Hot w c x R L) (hs : TeldP w c x L' w') : ∃ v, HP w c x { x with ev := v } R L' w' := by
  obtain ⟨v, h1, h2, h3, h4⟩ := hs
  refine ⟨v, ⟨h1, ?_, h2⟩, h3.mono fun k _ hk => hk.elim .inl fun h => .inr (.inr h), fun k hk => ?_⟩
  · exact OwS.keep h.bo fun k hk => h3.block k (OwS.lt h.bo k hk).2 fun h5 => by
      rcases h5 with rfl | h5
      · exact row_ne h.row h.bo hk
      · exact h.apart hk h5
  · rcases hk with hk | hk | hk
    · exact .inl (.inl hk)
    · exact .inl (.inr (.inl hk))
    · exact (h4.own hk).elim (fun h => .inl (.inr (.inr h))) .inr
end
/-- What a call leaves that hands nothing back. -/
def DoneP (P : World → Prop) (e : Ending) (w' : World) : Prop := e = .returned (.tuple #[]) ∧ P w'
theorem hot_send {w : World} {c : Nat} {x : Cc} {R : List UInt8} {L : List Ev} (h : Hot w c x R L) (hl : R.length ≤ 100000000000) (f : Frm) (hk : f.Ok) (hm : f.May) (hp : f.pad = -1) {dA sA : Option Addr} {dc sc : Nat} {q : Int}
    (hD : RdB w w.heap.size dA f.dat) (hS : RdS w (· < w.heap.size) sA (enl sgc f.sets)) :
    Calls Tryz.prog 74 #[.pointer (some ⟨c, 0, none⟩), .agg ({ f.fm dA dc sA sc with pad := q } : Fm).c] w (DoneP fun w' => ∃ v, HP w c x { x with row := v } (R ++ putL7 f) L w') :=
  (send_anyC h.row h.bo hl f hk hm hp hD hS).mono fun _ _ ⟨h1, h2⟩ => ⟨h1, HP.of_sent h h2⟩
theorem hot_tell {w : World} {c : Nat} {x : Cc} {R : List UInt8} {L : List Ev} (h : Hot w c x R L) (hl : L.length ≤ 100000) (y : Ev) :
    Calls Tryz.prog 112 #[.pointer (some ⟨c, 0, none⟩), .agg (evc y)] w (DoneP fun w' => ∃ v, HP w c x { x with ev := v } R (L ++ [y]) w') := by
  obtain ⟨A, c1, hv⟩ := h.shape
  exact (tell_anyC h.row hv h.ev hl y).mono fun _ _ ⟨h1, h2⟩ => ⟨h1, HP.of_teld h h2⟩
/-- GOAWAY. -/
def awF (code oth : Nat) : Frm := ⟨7, 0, 0, [], -1, code, oth, 0, false, 0, []⟩
theorem aw_ok {code oth : Nat} (h : code < 4294967296) : (awF code oth).Ok := ⟨(by decide : 7 < 256), (by decide : 0 < 256), h, (by decide : 0 < 256), fun s hs => by cases hs⟩
theorem aw_may {code oth : Nat} (h2 : oth ≤ 2147483647) : (awF code oth).May :=
  ⟨⟨Nat.zero_le _, h2, Nat.zero_le _⟩, fun h => absurd h (by show ¬ 7 = 6; decide), (by decide : PadOk 7 0 (-1)), ⟨fun h => absurd rfl h, (fun h => by cases h), fun _ => .inr (.inr rfl), fun _ => .inr rfl, fun h => absurd rfl h, fun h => absurd rfl h, fun h => absurd rfl h⟩, (by decide +kernel : sizeZ 7 0 0 (-1) 0 ≤ 16384)⟩
theorem aw_fm (code oth : Nat) (q : Int) : ({ (awF code oth).fm none 0 none 0 with pad := q } : Fm).c = #[.int .u8 7, .int .u8 0, .int .u32 0, .slice none 0 0, .int .i64 q, .int .u32 code, .int .u32 oth, .int .u8 0, .bool false, .int .u32 0, .slice none 0 0] := by unfold Fm.c; rfl
theorem aw_set {w : World} {p code : Nat} (h : Row w p 66 ({ (awF code 0).fm none 0 none 0 with pad := 0 } : Fm).c) (o : Nat) : Row (w.setCell ⟨p, 6, none⟩ (.int .u32 o)) p 66 ({ (awF code o).fm none 0 none 0 with pad := 0 } : Fm).c := h.stored 6 _
attribute [local irreducible] Cc.c evc Fm.c

theorem cc_ag (code oth : Nat) : AgOk Tryz.prog 66 (({ (awF code oth).fm none 0 none 0 with pad := 0 } : Fm).c) := by
  rw [aw_fm]
  exact ⟨⟨_, Tryz.underlying66⟩, frame_info, by kernel_rfl⟩
/-- The greatest number that GOAWAY tells. -/
def awO (x : Cc) : Nat := if x.srv = true then x.la else 0
set_option maxRecDepth 100000 in
set_option maxHeartbeats 2000000 in
theorem hot_away {w : World} {c : Nat} {x : Cc} {R : List UInt8} {L : List Ev} (h : Hot w c x R L) (hl : R.length ≤ 100000000000) {code : Nat} (hc : code < 4294967296) (hla : x.la ≤ 2147483647) :
    Calls Tryz.prog 38 #[.pointer (some ⟨c, 0, none⟩), .int .u32 code] w (DoneP fun w' => ∃ v, HP w c x { x with row := v } (R ++ putL7 (awF code (awO x))) L w') := by
  have hA := fun o => aw_fm code o 0
  have HAG := Lib.hid (cc_ag code)
  have hX : Row (w.alloc (.cells #[.int .u8 7, .int .u8 0, .int .u32 0, .slice none 0 0, .int .i64 0, .int .u32 code, .int .u32 0, .int .u8 0, .bool false, .int .u32 0, .slice none 0 0] 66)) w.heap.size 66 (({ (awF code 0).fm none 0 none 0 with pad := 0 } : Fm).c) := by rw [hA]; exact Row.new w _ _
  have hb : Below w.heap.size w (w.alloc (.cells #[.int .u8 7, .int .u8 0, .int .u32 0, .slice none 0 0, .int .i64 0, .int .u32 code, .int .u32 0, .int .u8 0, .bool false, .int .u32 0, .slice none 0 0] 66)) := (Below.refl _ _).alloc (Nat.le_refl _) _
  have HX := Lib.hid hX
  have HB := Lib.hid hb
  have H := Lib.hid h
  have H1 := Lib.hid (h.below hb)
  have HA := Lib.hid hA
  clear hA hX hb h
  go_enter Tryz.func38, Tryz.ntmps38
  go_upto_region 1 with fail
  generalize w.alloc (.cells #[.int .u8 7, .int .u8 0, .int .u32 0, .slice none 0 0, .int .i64 0, .int .u32 code, .int .u32 0, .int .u8 0, .bool false, .int .u32 0, .slice none 0 0] 66) = w1 at *
  obtain ⟨p, hpp⟩ : ∃ p, w.heap.size = p := ⟨_, rfl⟩
  rw [hpp] at HX HB ⊢
  have HPQ := Lib.hid hpp
  clear hpp
  have c0 := cc0 H1.out.row
  have c22 := cc22 H1.out.row
  have f6 := (fm_cells HX.out).2.2.2.2.2.2.1
  have z6 := HX.out.thawed 6
  cases hsv : x.srv with
  | true =>
    have HO : Hid (awO x = x.la) := by show _ = _; unfold awO; rw [hsv]; rfl
    rw [hsv] at c0
    have hb2 : Below p w (w1.setCell ⟨p, 6, none⟩ (.int .u32 x.la)) := HB.out.setCell (p := ⟨p, 6, none⟩) (Nat.le_refl _) _
    have HX2 := Lib.hid (aw_set HX.out x.la)
    have H2 := Lib.hid (H.out.below (by rw [HPQ.out]; exact hb2))
    have HB2 := Lib.hid hb2
    clear hb2 HX H1 HB hsv
    go_upto_region 3 with fail
    generalize w1.setCell ⟨p, 6, none⟩ (.int .u32 x.la) = w2 at *
    clear c0 c22 f6 z6
    go_wp2_with (refine wpList_fm rfl _ rfl rfl HX2.out ?_)
    refine (hot_send H2.out hl (awF code x.la) (aw_ok hc) (aw_may hla) rfl RdB.nil RdS.nil).mono ?_
    rintro e w3 ⟨rfl, v, h3⟩
    have H3 := Lib.hid h3
    clear h3
    go_wp2_with fail
    go_end0
    rw [HO.out]
    exact ⟨rfl, v, (HP.of_below H.out (by rw [HPQ.out]; exact HB2.out)).trans H3.out⟩
  | false =>
    have HO : Hid (awO x = 0) := by show _ = _; unfold awO; rw [hsv]; rfl
    rw [hsv] at c0
    clear hsv
    go_wp2_with (refine wpList_fm rfl _ rfl rfl HX.out ?_)
    refine (hot_send H1.out hl (awF code 0) (aw_ok hc) (aw_may (Nat.zero_le _)) rfl RdB.nil RdS.nil).mono ?_
    rintro e w3 ⟨rfl, v, h3⟩
    have H3 := Lib.hid h3
    clear h3
    go_wp2_with fail
    go_end0
    rw [HO.out]
    exact ⟨rfl, v, (HP.of_below H.out (by rw [HPQ.out]; exact HB.out)).trans H3.out⟩
end Go.Proofs.YtooaajnkiokpnaaGreatDoor

namespace Go.Proofs.YtooaajnkiokpnaaGreatDoor
open Go.RowKit Go.WideShapes

/-- What a server tells ahead. -/
def srvL : List (Nat × Nat) := [(3, 16), (6, 4096), (8, 1)]
def stF (l : List (Nat × Nat)) : Frm := ⟨4, 0, 0, [], -1, 0, 0, 0, false, 0, l⟩
theorem srv_ok : (stF srvL).Ok := ⟨(by decide : 4 < 256), (by decide : 0 < 256), (by decide : 0 < 4294967296), (by decide : 0 < 256), by decide⟩
theorem srv_may : (stF srvL).May := by unfold Frm.May; decide +kernel
theorem set_fm (A : Option Addr) (n : Nat) (l : List (Nat × Nat)) (q : Int) : ({ (stF l).fm none 0 A n with pad := q } : Fm).c = #[.int .u8 4, .int .u8 0, .int .u32 0, .slice none 0 0, .int .i64 q, .int .u32 0, .int .u32 0, .int .u8 0, .bool false, .int .u32 0, .slice A l.length n] := by unfold Fm.c; rfl
theorem bs_srv (w : World) : (Instr.buildSlice 64 3 #[(0, .agg #[.int .u16 3, .int .u32 16]), (1, .agg #[.int .u16 6, .int .u32 4096]), (2, .agg #[.int .u16 8, .int .u32 1])]).run Tryz.prog w = .ok (.slice (some ⟨w.heap.size, 0, none⟩) 3 3) (w.alloc (.cells #[.int .u16 3, .int .u32 16, .int .u16 6, .int .u32 4096, .int .u16 8, .int .u32 1] 164)) := by kernel_rfl
theorem bs_cli (n : Int) (w : World) : (Instr.buildSlice 64 3 #[(0, .agg #[.int .u16 2, .int .u32 0]), (1, .agg #[.int .u16 4, .int .u32 n]), (2, .agg #[.int .u16 6, .int .u32 4096])]).run Tryz.prog w = .ok (.slice (some ⟨w.heap.size, 0, none⟩) 3 3) (w.alloc (.cells #[.int .u16 2, .int .u32 0, .int .u16 4, .int .u32 n, .int .u16 6, .int .u32 4096] 164)) := by kernel_rfl
theorem srv_reads {w : World} {b : Nat} (h : Row w b 164 #[.int .u16 3, .int .u32 16, .int .u16 6, .int .u32 4096, .int .u16 8, .int .u32 1]) : RdS w (· < w.heap.size) (some ⟨b, 0, none⟩) (enl sgc srvL) := fun _ => ⟨b, 0, rfl, h.lt, fun j u hj => by
  rw [Nat.zero_add]
  exact h.cell (by simpa [enl, srvL, sgc] using hj)⟩
attribute [local irreducible] Cc.c evc Fm.c

set_option maxRecDepth 100000 in
set_option maxHeartbeats 4000000 in
theorem setts_srv {w : World} {c g base : Nat} {x : Cc} {R : List UInt8} {L : List Ev} {n : St} {v : Value} (h : Hot w c x R L) (hl : R.length ≤ 100000000000) (hsv : x.srv = true) (how : x.ow = .pointer (some ⟨g, 0, none⟩)) (hS : Sd w base g n v []) (hbase : base ≤ w.heap.size) (hap : ∀ k, HotF c x k → ¬ sb g v k) :
    Calls Tryz.prog 58 #[.pointer (some ⟨c, 0, none⟩)] w (DoneP fun w' => ∃ v', Hot w' c { x with row := v' } (R ++ putL7 (stF srvL)) L ∧ Fs (fun k => HotF c x k ∨ sb g v k) w w' ∧ ∀ k, HotF c { x with row := v' } k → HotF c x k ∨ w.heap.size ≤ k) := by
  have c0 := cc0 h.row
  rw [hsv] at c0
  have c15 := cc15 h.row
  have hlt := h.row.lt
  have hbs := bs_srv
  have hbc := bs_cli (x.wn : Int)
  have H := Lib.hid h
  have HOW := Lib.hid how
  have HS := Lib.hid hS
  have HAP := Lib.hid hap
  clear h hsv how hS hap
  go_enter Tryz.func58, Tryz.ntmps58
  go_upto_region 3 with fail
  obtain ⟨w1, hw1⟩ : ∃ w1, (w.alloc (.cells #[.int .u16 2, .int .u32 0, .int .u16 4, .int .u32 x.wn, .int .u16 6, .int .u32 4096] 164)).alloc (.cells #[.int .u16 3, .int .u32 16, .int .u16 6, .int .u32 4096, .int .u16 8, .int .u32 1] 164) = w1 := ⟨_, rfl⟩
  have hb1 : Below w.heap.size w w1 := by rw [← hw1]; exact ((Below.refl _ _).alloc (Nat.le_refl _) _).alloc (by simp) _
  have hX1 : Row w1 (w.heap.size + 1) 164 #[.int .u16 3, .int .u32 16, .int .u16 6, .int .u32 4096, .int .u16 8, .int .u32 1] := by rw [← hw1]; exact Row.made _ _ _ (by simp)
  rw [hw1]
  clear hw1 hbs hbc c0 c15
  have HB := Lib.hid hb1
  have HX := Lib.hid hX1
  have H1 := Lib.hid (H.out.below hb1)
  have hS1 := HS.out.below hb1
  have hsnd := send_any hS1 (by have := hb1.size; omega) (by simp) (A := some ⟨w.heap.size + 1, 0, none⟩) (c := 3) (l := srvL) (srv_reads hX1) (by decide)
  have c5 := cc5 H1.out.row
  rw [HOW.out] at c5
  have HLS : Hid (∀ k, sb g v k → k < w.heap.size) := fun k hk => (HS.out.lts k hk).2
  clear hb1 hX1 hS1 HS HOW
  generalize hp : w.heap.size = p at *
  have HP0 := Lib.hid hp
  clear hp
  go_wp2_with fail
  refine hsnd.mono ?_
  rintro e w2 ⟨rfl, v2, _, hf2, _⟩
  have H2 : Hid (Hot w2 c x R L) := H1.out.of_fs hf2 HAP.out
  have hX2 : Row w2 (p + 1) 164 #[.int .u16 3, .int .u32 16, .int .u16 6, .int .u32 4096, .int .u16 8, .int .u32 1] := hf2.row (fun hk => by have := HLS.out _ hk; have := HP0.out; omega) HX.out
  have hsd := hot_send H2.out hl (stF srvL) srv_ok srv_may rfl (dA := none) (dc := 0) (sA := some ⟨p + 1, 0, none⟩) (sc := 3) (q := 0) RdB.nil (srv_reads hX2)
  rw [set_fm] at hsd
  have HF2 : Hid (Fs (fun k => HotF c x k ∨ sb g v k) w w2) := (Fs.of_below (by rw [HP0.out]; exact HB.out)).trans hf2 fun k _ hk => .inr hk
  clear hf2 hX2 hsnd c5 HB HX H1
  go_wp2_with fail
  refine hsd.mono ?_
  rintro e w3 ⟨rfl, v3, h3⟩
  have HH := Lib.hid h3
  clear h3 hsd
  go_wp2_with fail
  go_end0
  refine ⟨rfl, v3, HH.out.hot, HF2.out.trans HH.out.fs fun k _ hk => .inl hk, fun k hk => (HH.out.new k hk).imp id fun h4 => ?_⟩
  have := HF2.out.size
  omega
end Go.Proofs.YtooaajnkiokpnaaGreatDoor

namespace Go.Proofs.YtooaajnkiokpnaaGreatDoor
open Go.RowKit Go.WideShapes

/-- A known stream. -/
structure Kn where
  nu : Nat
  st : Nat
  mt : Value
  en : Bool
  sh : Bool
  gh : Bool
def knc (x : Kn) : Array Value := #[.int .u32 x.nu, .int .u8 x.st, x.mt, .bool x.en, .bool x.sh, .bool x.gh]
section
variable {w : World} {k : Nat} {y : Kn}
theorem kn0 (h : Row w k 95 (knc y)) : w.cell? ⟨k, 0, none⟩ = some (.int .u32 y.nu) := h.cell (by unfold knc; rfl)
theorem kn1 (h : Row w k 95 (knc y)) : w.cell? ⟨k, 1, none⟩ = some (.int .u8 y.st) := h.cell (by unfold knc; rfl)
theorem kn2 (h : Row w k 95 (knc y)) : w.cell? ⟨k, 2, none⟩ = some y.mt := h.cell (by unfold knc; rfl)
theorem kn3 (h : Row w k 95 (knc y)) : w.cell? ⟨k, 3, none⟩ = some (.bool y.en) := h.cell (by unfold knc; rfl)
theorem kn4 (h : Row w k 95 (knc y)) : w.cell? ⟨k, 4, none⟩ = some (.bool y.sh) := h.cell (by unfold knc; rfl)
theorem kn5 (h : Row w k 95 (knc y)) : w.cell? ⟨k, 5, none⟩ = some (.bool y.gh) := h.cell (by unfold knc; rfl)
end
/-- Was it opened, or passed over? -/
def wasB (la n : Nat) : Bool := decide (n % 2 = 1 ∧ n ≤ la)
attribute [local irreducible] Cc.c evc Fm.c knc

set_option maxRecDepth 100000 in
set_option maxHeartbeats 1000000 in
theorem was_any {w : World} {c : Nat} {x : Cc} (h : Row w c 86 x.c) (n : Nat) : Calls Tryz.prog 47 #[.pointer (some ⟨c, 0, none⟩), .int .u32 n] w fun e w' => e = .returned (.bool (wasB x.la n)) ∧ w' = w := by
  have c22 := cc22 h
  have h0 : (0 : Int) ≤ (n : Int) := Int.natCast_nonneg _
  clear h
  by_cases h1 : n % 2 = 1
  · have h1' : (n : Int) % 2 = 1 := by omega
    by_cases h2 : n ≤ x.la
    · have hb : wasB x.la n = true := decide_eq_true ⟨h1, h2⟩
      rw [hb]
      have h2' : decide (n ≤ x.la) = true := decide_eq_true h2
      clear hb h1 h2
      go_enter Tryz.func47, Tryz.ntmps47
      go_wp2_with fail
      go_ret
      exact ⟨rfl, rfl⟩
    · have hb : wasB x.la n = false := decide_eq_false fun h => h2 h.2
      rw [hb]
      have h2' : decide (n ≤ x.la) = false := decide_eq_false h2
      clear hb h1 h2
      go_enter Tryz.func47, Tryz.ntmps47
      go_wp2_with fail
      go_ret
      exact ⟨rfl, rfl⟩
  · have h1' : ¬ (n : Int) % 2 = 1 := by omega
    have hb : wasB x.la n = false := decide_eq_false fun h => h1 h.1
    rw [hb]
    clear hb h1
    go_enter Tryz.func47, Tryz.ntmps47
    go_wp2_with fail
    go_ret
    exact ⟨rfl, rfl⟩
set_option maxRecDepth 100000 in
set_option maxHeartbeats 1000000 in
theorem state_yes {w : World} {c g n i k : Nat} {x : Cc} {S : List (Nat × Nat)} {y : Kn} (h : Row w c 86 x.c) (hsm : x.sm = .map (some g)) (hM : MapM w g S) (hn : atM S n 0 = some (i, k)) (hy : Row w k 95 (knc y)) :
    Calls Tryz.prog 18 #[.pointer (some ⟨c, 0, none⟩), .int .u32 n] w fun e w' => e = .returned (.int .u8 y.st) ∧ w' = w := by
  have c19 := cc19 h
  rw [hsm] at c19
  have hlk := look_yes hM hn
  have k1 := kn1 hy
  clear h hsm hM hn hy
  go_enter Tryz.func18, Tryz.ntmps18
  go_wp2_with fail
  go_ret
  exact ⟨rfl, rfl⟩
set_option maxRecDepth 100000 in
set_option maxHeartbeats 1000000 in
theorem state_no {w : World} {c g n : Nat} {x : Cc} {S : List (Nat × Nat)} (h : Row w c 86 x.c) (hsm : x.sm = .map (some g)) (hM : MapM w g S) (hn : atM S n 0 = none) :
    Calls Tryz.prog 18 #[.pointer (some ⟨c, 0, none⟩), .int .u32 n] w fun e w' => e = .returned (.int .u8 (if wasB x.la n = true then 5 else 0)) ∧ w' = w := by
  have c19 := cc19 h
  rw [hsm] at c19
  have hlk := look_no hM hn
  have hw := was_any h n
  clear h hsm hM hn
  cases hb : wasB x.la n with
  | true =>
    rw [hb] at hw
    clear hb
    go_enter Tryz.func18, Tryz.ntmps18
    go_wp2_with fail
    refine hw.mono ?_
    rintro e w' ⟨rfl, rfl⟩
    go_wp2_with fail
    go_ret
    exact ⟨rfl, rfl⟩
  | false =>
    rw [hb] at hw
    clear hb
    go_enter Tryz.func18, Tryz.ntmps18
    go_wp2_with fail
    refine hw.mono ?_
    rintro e w' ⟨rfl, rfl⟩
    go_wp2_with fail
    go_ret
    exact ⟨rfl, rfl⟩
end Go.Proofs.YtooaajnkiokpnaaGreatDoor
