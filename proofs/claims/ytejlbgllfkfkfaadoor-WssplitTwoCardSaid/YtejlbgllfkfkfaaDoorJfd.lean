/-
  Feed of a socket's splitter, by its contract. Conditions: the splitter lies behind the package's variables; the bytes are read.
-/
import Derived.Test.YtejlbgllfkfkfaaDoorJst
import Derived.Lib.MinMax
namespace Go.Proofs.YtejlbgllfkfkfaaDoor
open Go.RowKit Go.WideShapes

/-- What Feed leaves: how many bytes it took; what is held then. -/
def JFed (w : World) (base g : Nat) (v : Value) (m : Bool) (l : List UInt8) (bad : Bool) (n : Nat) (e : Ending) (w' : World) : Prop :=
  e = .returned (.int .i64 (n : Int)) ∧ ∃ v', Sj w' base g v' m l bad ∧ Fs (jvS g v) w w' ∧ Nx w v v'
set_option maxRecDepth 100000 in
set_option maxHeartbeats 2000000 in
theorem jfeed_good {w : World} {base g c : Nat} {A : Option Addr} {m : Bool} {l x : List UInt8} {Ax : Option Addr} {B cx : Nat} (h : JG w base g (.slice A l.length c) m l) (hx : RdB w B Ax x) (hxc : x.length ≤ cx) :
    Calls Tryd.prog 11 #[.pointer (some ⟨g, 0, none⟩), .slice Ax x.length cx] w (JFed w base g (.slice A l.length c) m (l ++ x.take (4110 - l.length)) false (min x.length (4110 - l.length))) := by
  have hb := jbad_cell (g := g) (x := false) (w := w) (h.row.cell rfl)
  obtain ⟨i0, hi0, hz0, hz1, hz2⟩ := infoI infoI8
  obtain ⟨n, hn⟩ : ∃ n, n = min x.length (4110 - l.length) := ⟨_, rfl⟩
  have hll := h.len
  have hmin : min (x.length : Int) ((4110 - l.length : Nat) : Int) = (n : Int) := by omega
  have hw0 : IntKind.i64.wrap (4110 - (l.length : Int)) = ((4110 - l.length : Nat) : Int) := by rw [IntWalk.i64_in _ (by omega)]; omega
  have htk : x.take (4110 - l.length) = x.take n := by
    rcases Nat.lt_or_ge x.length (4110 - l.length) with h1 | h1
    · rw [show n = x.length by omega, List.take_length, List.take_of_length_le (by omega)]
    · rw [show n = 4110 - l.length by omega]
  have hln : (x.take n).length = n := by rw [List.length_take]; omega
  have hsum : l.length + n ≤ 4110 := by omega
  obtain ⟨hcut, hrx⟩ := cut_upto (P := Tryd.prog) Tryd.underlying22 hi0 hz1 hx hxc (k := n) (by omega)
  rw [htk, ← hn]
  obtain ⟨y, hy⟩ : ∃ y, y = l ++ x.take n := ⟨_, rfl⟩
  have HY := Lib.hid hy
  have HYL : Hid (y.length ≤ 4110) := by show _ ≤ _; rw [hy, List.length_append, hln]; exact hsum
  rw [← hy]
  have d0 : w.cell? ⟨g, 0, none⟩ = some (.slice A l.length c) := h.row.cell rfl
  have ht := h.row.thawed 0
  have HR : Hid (RdB w.drew B Ax (x.take n)) := hrx
  have H : Hid (JG w.drew base g (.slice A l.length c) m l) := h.keep rfl fun _ _ => rfl
  have HF : Hid (Fs (jvS g (.slice A l.length c)) w w.drew) := (Fs.refl _ w).drewN 1
  have HLN := Lib.hid hln
  have HSM := Lib.hid hsum
  have HBL : Hid (base ≤ w.drew.heap.size) := by have := h.lts.1; have := h.lo; show _ ≤ w.heap.size; omega
  clear h hx hn htk hln hrx hy
  generalize 4110 - l.length = r at *
  go_enter Tryd.func11, Tryd.ntmps11
  go_wp2_with fail
  refine hb.mono ?_
  rintro e w0 ⟨rfl, rfl⟩
  clear hb
  go_wp2_with fail
  have d0' : w0.drew.cell? ⟨g, 0, none⟩ = some (.slice A l.length c) := d0
  clear d0 ht
  refine wp_region_E 11 (fun w' => w'.cell? ⟨g, 0, none⟩ = some (.slice A l.length c)) (by kernel_rfl) d0' (fun hHeld => ?_)
  clear d0'
  generalize w0.drew = w2 at *
  refine wpAnyE_take (i := 0) (v := ?v0) rfl (by kernel_rfl) (by kernel_rfl) (by kernel_rfl) (by kernel_rfl) (fun _ _ _ h => h) (Or.inl ⟨by rfl, ?hy0⟩) (by assumption) ?rest0
  case hy0 => (intro w hSw; (try dsimp only at hSw); go_simp <;> with_reducible rfl)
  try simp only [Act.put, List.getElem_toArray, List.getElem_cons_zero, List.setIfInBounds_toArray, List.set_cons_zero, List.set_cons_succ]
  refine wpAnyE_take (i := 1) (v := ?v1) rfl (by kernel_rfl) (by kernel_rfl) (by kernel_rfl) (by kernel_rfl) (fun _ _ _ h => h) (Or.inl ⟨by rfl, ?hy1⟩) (by assumption) ?rest1
  case hy1 => (intro w hSw; (try dsimp only at hSw); go_simp <;> with_reducible rfl)
  try simp only [Act.put, List.getElem_toArray, List.getElem_cons_zero, List.getElem_cons_succ, List.setIfInBounds_toArray, List.set_cons_zero, List.set_cons_succ]
  refine wpAnyE_take (i := 2) (v := ?v2) rfl (by kernel_rfl) (by kernel_rfl) (by kernel_rfl) (by kernel_rfl) (fun _ _ _ h => h) (Or.inl ⟨by rfl, ?hy2⟩) (by assumption) ?rest2
  case hy2 => (intro w hSw; (try dsimp only at hSw); go_simp <;> with_reducible rfl)
  try simp only [Act.put, List.getElem_toArray, List.getElem_cons_zero, List.getElem_cons_succ, List.setIfInBounds_toArray, List.set_cons_zero, List.set_cons_succ]
  refine wpAnyE_take (i := 3) (v := ?v3) rfl (by kernel_rfl) (by kernel_rfl) (by kernel_rfl) (by kernel_rfl) (fun _ _ _ h => h) (Or.inl ⟨by rfl, ?hy3⟩) (by assumption) ?rest3
  case hy3 => (intro w hSw; (try dsimp only at hSw); go_simp <;> with_reducible rfl)
  try simp only [Act.put, List.getElem_toArray, List.getElem_cons_zero, List.getElem_cons_succ, List.setIfInBounds_toArray, List.set_cons_zero, List.set_cons_succ]
  refine wpAnyE_take (i := 4) (v := ?v4) rfl (by kernel_rfl) (by kernel_rfl) (by kernel_rfl) (by kernel_rfl) (fun _ _ _ h => h) (Or.inl ⟨by rfl, ?hy4⟩) (by assumption) ?rest4
  case hy4 => (intro w hSw; (try dsimp only at hSw); go_simp <;> with_reducible rfl)
  try simp only [Act.put, List.getElem_toArray, List.getElem_cons_zero, List.getElem_cons_succ, List.setIfInBounds_toArray, List.set_cons_zero, List.set_cons_succ]
  refine wpAnyE_take (i := 5) (v := ?v5) rfl (by kernel_rfl) (by kernel_rfl) (by kernel_rfl) (by kernel_rfl) (fun _ _ _ h => h) (Or.inl ⟨by rfl, ?hy5⟩) (by assumption) ?rest5
  case hy5 => (intro w hSw; (try dsimp only at hSw); go_simp <;> with_reducible rfl)
  try simp only [Act.put, List.getElem_toArray, List.getElem_cons_zero, List.getElem_cons_succ, List.setIfInBounds_toArray, List.set_cons_zero, List.set_cons_succ]
  refine wpAnyE_take (i := 6) (v := ?v6) rfl (by kernel_rfl) (by kernel_rfl) (by kernel_rfl) (by kernel_rfl) (fun _ _ _ h => h) (Or.inl ⟨by rfl, ?hy6⟩) (by assumption) ?rest6
  case hy6 => (intro w hSw; (try dsimp only at hSw); go_simp <;> with_reducible rfl)
  try simp only [Act.put, List.getElem_toArray, List.getElem_cons_zero, List.getElem_cons_succ, List.setIfInBounds_toArray, List.set_cons_zero, List.set_cons_succ]
  refine wpAnyE_take (i := 7) (v := ?v7) rfl (by kernel_rfl) (by kernel_rfl) (by kernel_rfl) (by kernel_rfl) (fun _ _ _ h => h) (Or.inl ⟨by rfl, ?hy7⟩) (by assumption) ?rest7
  case hy7 => (intro w hSw; (try dsimp only at hSw); go_simp <;> with_reducible rfl)
  try simp only [Act.put, List.getElem_toArray, List.getElem_cons_zero, List.getElem_cons_succ, List.setIfInBounds_toArray, List.set_cons_zero, List.set_cons_succ]
  refine wpAnyE_next (i := 8) (by kernel_rfl) rfl (fun K hK => ?_)
  refine step_appBo rfl (.tmp 21) (.tmp 24) 22 rfl base 5 i0 Tryd.underlying22 hi0 hz0 hz1 hz2 (.slice A l.length c) l rfl H.out.own B Ax (x.take n) n cx rfl HLN.out.symm HR.out (by rw [HLN.out]; have := HSM.out; omega) HBL.out (fun v4 w4 hO4 hF4 hN4 => ?_)
  rw [← HY.out] at hO4
  have hR4 : Row w4 g 47 (jsp (.slice A l.length c) m false) := hF4.row H.out.far H.out.row
  have c4 : w4.cell? ⟨g, 0, none⟩ = some (.slice A l.length c) := hR4.cell rfl
  have ht := hR4.thawed 0
  have hnf : ¬ ob v4 g := hO4.neJ hR4 (by decide)
  have HR5 : Hid (JG (w4.setCell ⟨g, 0, none⟩ v4) base g v4 m y) := ⟨hR4.stored 0 v4, OwS.setCell hO4 (a := ⟨g, 0, none⟩) hnf v4, HYL.out, H.out.lo⟩
  have HF5 : Hid (Fs (jvS g (.slice A l.length c)) w0 (w4.setCell ⟨g, 0, none⟩ v4)) := (HF.out.trans hF4 (fun k _ hk => .inr hk)).setCell (g := g) (fun _ => .inl rfl) 0 v4
  have HN5 : Hid (Nx w0 (.slice A l.length c) v4) := Nx.trans (Nx.refl w0 _) hN4 HF.out.size
  obtain ⟨A', c', rfl, _⟩ := hO4.shape
  clear hO4 hF4 hN4 hR4 hnf H HF HR HLN HSM HBL
  refine hK.out _ _ c4 (fun hHeld => ?_)
  clear hK K
  try simp only [Act.put, List.getElem_toArray, List.getElem_cons_zero, List.getElem_cons_succ, List.setIfInBounds_toArray, List.set_cons_zero, List.set_cons_succ]
  refine wpAnyE_take (i := 9) (v := ?v9q1) rfl (by kernel_rfl) (by kernel_rfl) (by kernel_rfl) (by kernel_rfl) (fun _ _ _ h => h) (Or.inl ⟨by rfl, ?hy9q1⟩) (by assumption) ?rest9q1
  case hy9q1 => (intro w hSw; (try dsimp only at hSw); go_simp <;> with_reducible rfl)
  try simp only [Act.put, List.getElem_toArray, List.getElem_cons_zero, List.getElem_cons_succ, List.setIfInBounds_toArray, List.set_cons_zero, List.set_cons_succ]
  refine wpAnyE_take (i := 10) (v := ?v10q1) rfl (by kernel_rfl) (by kernel_rfl) (by kernel_rfl) (by kernel_rfl) (fun _ _ _ h => h) (Or.inl ⟨by rfl, ?hy10q1⟩) (by assumption) ?rest10q1
  case hy10q1 => (intro w hSw; (try dsimp only at hSw); go_simp <;> with_reducible rfl)
  try simp only [Act.put, List.getElem_toArray, List.getElem_cons_zero, List.getElem_cons_succ, List.setIfInBounds_toArray, List.set_cons_zero, List.set_cons_succ]
  refine wpAnyE_last (by kernel_rfl) rfl (by kernel_rfl) (fun K hK => ?_)
  go_simp
  refine hK.out _ _ ?_
  clear hK K
  try simp only [Act.put, List.getElem_toArray, List.getElem_cons_zero, List.getElem_cons_succ, List.setIfInBounds_toArray, List.set_cons_zero, List.set_cons_succ]
  go_wp2_with fail
  go_ret
  exact ⟨rfl, _, .inl ⟨rfl, HR5.out⟩, HF5.out, HN5.out⟩
set_option maxRecDepth 100000 in
set_option maxHeartbeats 1000000 in
theorem jfeed_nil (v : Value) (w : World) : Calls Tryd.prog 11 #[.pointer none, v] w fun e w' => e = .returned (.int .i64 0) ∧ w' = w := by
  go_enter Tryd.func11, Tryd.ntmps11
  go_wp2_with fail
  refine (jbad_nil _).mono ?_
  rintro e w1 ⟨rfl, rfl⟩
  go_wp2_with fail
  go_ret
  exact ⟨rfl, rfl⟩
set_option maxRecDepth 100000 in
set_option maxHeartbeats 1000000 in
theorem jfeed_bad (v : Value) {w : World} {g : Nat} (h : w.cell? ⟨g, 2, none⟩ = some (.bool true)) : Calls Tryd.prog 11 #[.pointer (some ⟨g, 0, none⟩), v] w fun e w' => e = .returned (.int .i64 0) ∧ w' = w := by
  have hb := jbad_cell h
  clear h
  go_enter Tryd.func11, Tryd.ntmps11
  go_wp2_with fail
  refine hb.mono ?_
  rintro e w1 ⟨rfl, rfl⟩
  go_wp2_with fail
  go_ret
  exact ⟨rfl, rfl⟩
def fedJ (l : List UInt8) (bad : Bool) (x : List UInt8) : List UInt8 := if bad = true then [] else l ++ x.take (4110 - l.length)
def fedJn (l : List UInt8) (bad : Bool) (x : List UInt8) : Nat := if bad = true then 0 else min x.length (4110 - l.length)
theorem jfeed_any {w : World} {base g : Nat} {v : Value} {m bad : Bool} {l x : List UInt8} {Ax : Option Addr} {B cx : Nat} (h : Sj w base g v m l bad) (hx : RdB w B Ax x) (hxc : x.length ≤ cx) :
    Calls Tryd.prog 11 #[.pointer (some ⟨g, 0, none⟩), .slice Ax x.length cx] w (JFed w base g v m (fedJ l bad x) bad (fedJn l bad x)) := by
  rcases h with ⟨rfl, h⟩ | ⟨rfl, h⟩
  · obtain ⟨A, c, rfl, _⟩ := Bo.shape h.own
    exact jfeed_good h hx hxc
  · refine (jfeed_bad _ (h.row.cell rfl)).mono ?_
    rintro e w1 ⟨rfl, rfl⟩
    obtain ⟨rfl, rfl⟩ := h.nul
    exact ⟨rfl, _, .inr ⟨rfl, h⟩, Fs.refl _ _, Nx.refl _ _⟩
end Go.Proofs.YtejlbgllfkfkfaaDoor
