/-
  A checker in memory; its functions below Feed, by contract. Conditions: those that each theorem names.
-/
import Derived.Test.YtdegpchofhnipaaDoorProg
import Derived.Test.YtdegpchofhnipaaDoorVm
import Derived.Test.YtdegpchofhnipaaDoorFs
import Derived.Deep.CutBlock
import Derived.Deep.DeepCutAuto
namespace Go.Proofs.YtdegpchofhnipaaDoor
open Go.RowKit Go.WideShapes

/-- The cells of a checker. -/
def ckc (k lo hi : Nat) (b : Bool) : Array Value := #[.int .i64 (k : Int), .int .u8 (lo : Int), .int .u8 (hi : Int), .bool b]
/-- These are a state's. -/
def CkS (k lo hi : Nat) (s : Ut) : Prop := k = s.k ∧ (k ≠ 0 → lo = s.lo ∧ hi = s.hi) ∧ (k = 0 → s = ut0) ∧ k ≤ 3 ∧ lo < 256 ∧ hi < 256
/-- A checker in memory: good, in this state, or bad. -/
def Ck (w : World) (g : Nat) : Option Ut → Prop
  | none => ∃ k lo hi, Row w g 93 (ckc k lo hi true)
  | some s => ∃ k lo hi, Row w g 93 (ckc k lo hi false) ∧ CkS k lo hi s
/-- The bounds of the byte behind a first one. -/
def loV (c : Nat) : Nat := if c = 224 then 160 else if c = 237 then 128 else if c = 240 then 144 else 128
def hiV (c : Nat) : Nat := if c = 237 then 159 else if c = 244 then 143 else 191
def nV (c : Nat) : Nat := if 240 ≤ c then 3 else if 224 ≤ c then 2 else 1
section
variable {w w' : World} {g : Nat}
theorem Ck.lt {o : Option Ut} (h : Ck w g o) : g < w.heap.size := by
  cases o with
  | none => obtain ⟨_, _, _, h⟩ := h; exact h.lt
  | some s => obtain ⟨_, _, _, h, _⟩ := h; exact h.lt
theorem Ck.keep {o : Option Ut} (h : Ck w g o) (hk : w'.heap[g]? = w.heap[g]?) : Ck w' g o := by
  cases o with
  | none => obtain ⟨k, lo, hi, h⟩ := h; exact ⟨k, lo, hi, hk.trans h⟩
  | some s => obtain ⟨k, lo, hi, h, h2⟩ := h; exact ⟨k, lo, hi, hk.trans h, h2⟩
theorem Ck.below {o : Option Ut} (h : Ck w g o) (hb : Below w.heap.size w w') : Ck w' g o := h.keep (hb.block g h.lt)
theorem ck_cells {k lo hi : Nat} {b : Bool} (h : Row w g 93 (ckc k lo hi b)) : w.cell? ⟨g, 0, none⟩ = some (.int .i64 (k : Int)) ∧ w.cell? ⟨g, 1, none⟩ = some (.int .u8 (lo : Int)) ∧ w.cell? ⟨g, 2, none⟩ = some (.int .u8 (hi : Int)) ∧ w.cell? ⟨g, 3, none⟩ = some (.bool b) := ⟨h.cell rfl, h.cell rfl, h.cell rfl, h.cell rfl⟩
theorem ck_k {k lo hi : Nat} {b : Bool} (h : Row w g 93 (ckc k lo hi b)) (k' : Nat) : Row (w.setCell ⟨g, 0, none⟩ (.int .i64 (k' : Int))) g 93 (ckc k' lo hi b) := h.stored 0 _
theorem ck_lo {k lo hi : Nat} {b : Bool} (h : Row w g 93 (ckc k lo hi b)) (l' : Nat) : Row (w.setCell ⟨g, 1, none⟩ (.int .u8 (l' : Int))) g 93 (ckc k l' hi b) := h.stored 1 _
theorem ck_hi {k lo hi : Nat} {b : Bool} (h : Row w g 93 (ckc k lo hi b)) (l' : Nat) : Row (w.setCell ⟨g, 2, none⟩ (.int .u8 (l' : Int))) g 93 (ckc k lo l' b) := h.stored 2 _
theorem ckr_bad {k lo hi : Nat} {b : Bool} (h : Row w g 93 (ckc k lo hi b)) (b' : Bool) : Row (w.setCell ⟨g, 3, none⟩ (.bool b')) g 93 (ckc k lo hi b') := h.stored 3 _
theorem fs_one (w : World) (g o : Nat) (x : Value) : Fs (fun k => k = g) w (w.setCell ⟨g, o, none⟩ x) := (Fs.refl (fun k => k = g) w).setCell (fun _ => rfl) _ _
end
set_option maxRecDepth 100000 in
theorem vnew_any (w : World) : Calls Tryd.prog 40 #[] w fun e w' => ∃ g, e = .returned (.pointer (some ⟨g, 0, none⟩)) ∧ Ck w' g (some ut0) ∧ Below w.heap.size w w' ∧ w.heap.size ≤ g := by
  have h1 : Hid (Row (w.alloc (.cells #[.int .i64 0, .int .u8 0, .int .u8 0, .bool false] 93)) w.heap.size 93 (ckc 0 0 0 false)) := Row.new w _ _
  go_enter Tryd.func40, Tryd.ntmps40
  go_wp2
  go_ret
  exact ⟨_, rfl, ⟨0, 0, 0, h1.out, rfl, fun h => absurd rfl h, fun _ => rfl, by omega, by omega, by omega⟩, (Below.refl _ _).alloc (Nat.le_refl _) _, Nat.le_refl _⟩
set_option maxRecDepth 100000 in
theorem vbad_nil (w : World) : Calls Tryd.prog 47 #[.pointer none] w fun e w' => e = .returned (.bool true) ∧ w' = w := by
  go_enter Tryd.func47, Tryd.ntmps47
  go_wp2
  go_ret
  exact ⟨rfl, rfl⟩
set_option maxRecDepth 100000 in
theorem vbad_row {w : World} {g k lo hi : Nat} {b : Bool} (h : Row w g 93 (ckc k lo hi b)) : Calls Tryd.prog 47 #[.pointer (some ⟨g, 0, none⟩)] w fun e w' => e = .returned (.bool b) ∧ w' = w := by
  obtain ⟨c0, c1, c2, c3⟩ := ck_cells h
  clear h
  go_enter Tryd.func47, Tryd.ntmps47
  go_wp2
  go_ret
  exact ⟨rfl, rfl⟩
theorem vbad_any {w : World} {g : Nat} {o : Option Ut} (h : Ck w g o) : Calls Tryd.prog 47 #[.pointer (some ⟨g, 0, none⟩)] w fun e w' => e = .returned (.bool o.isNone) ∧ w' = w := by
  cases o with
  | none => obtain ⟨_, _, _, h⟩ := h; exact vbad_row h
  | some s => obtain ⟨_, _, _, h, _⟩ := h; exact vbad_row h
/-- Whether all is a text. -/
def whV (o : Option Ut) : Bool := decide (o = some ut0)
set_option maxRecDepth 100000 in
theorem vwhole_nil (w : World) : Calls Tryd.prog 45 #[.pointer none] w fun e w' => e = .returned (.bool false) ∧ w' = w := by
  go_enter Tryd.func45, Tryd.ntmps45
  go_wp2_with fail
  refine (vbad_nil _).mono ?_
  rintro e w1 ⟨rfl, rfl⟩
  go_wp2
  go_ret
  exact ⟨rfl, rfl⟩
set_option maxRecDepth 100000 in
theorem vwhole_any {w : World} {g : Nat} {o : Option Ut} (h : Ck w g o) : Calls Tryd.prog 45 #[.pointer (some ⟨g, 0, none⟩)] w fun e w' => e = .returned (.bool (whV o)) ∧ w' = w := by
  have hb := Lib.hid (vbad_any h)
  cases o with
  | none =>
    clear h
    go_enter Tryd.func45, Tryd.ntmps45
    go_wp2_with fail
    refine hb.out.mono ?_
    rintro e w1 ⟨rfl, rfl⟩
    go_wp2
    go_ret
    exact ⟨rfl, rfl⟩
  | some s =>
    obtain ⟨k, lo, hi, h, h1, h2, h3, h4⟩ := h
    have c0 := (ck_cells h).1
    have hw : whV (some s) = decide (k = 0) := by
      unfold whV
      rw [decide_eq_decide]
      constructor
      · intro e; injection e with e; subst e; exact h1
      · intro e; rw [h3 e]
    rw [hw]
    have he : ((k : Int) == 0) = decide (k = 0) := by
      by_cases h0 : k = 0
      · subst h0; rfl
      · rw [decide_eq_false h0, beq_eq_false_iff_ne]; omega
    clear h h1 h2 h3 h4 hw
    generalize decide (k = 0) = q at *
    go_enter Tryd.func45, Tryd.ntmps45
    go_wp2_with fail
    refine hb.out.mono ?_
    rintro e w1 ⟨rfl, rfl⟩
    go_wp2
    go_ret
    exact ⟨rfl, rfl⟩
set_option maxRecDepth 100000 in
theorem second_any {c : Nat} (w : World) : Calls Tryd.prog 57 #[.int .u8 (c : Int)] w fun e w' => e = .returned (.tuple #[.int .u8 (loV c : Int), .int .u8 (hiV c : Int)]) ∧ w' = w := by
  by_cases h1 : c = 224
  · subst h1
    go_enter Tryd.func57, Tryd.ntmps57
    go_wp2
    go_ret2
    exact ⟨rfl, rfl⟩
  have d1 : ¬ (c : Int) = 224 := by omega
  by_cases h2 : c = 237
  · subst h2
    go_enter Tryd.func57, Tryd.ntmps57
    go_wp2
    go_ret2
    exact ⟨rfl, rfl⟩
  have d2 : ¬ (c : Int) = 237 := by omega
  by_cases h3 : c = 240
  · subst h3
    go_enter Tryd.func57, Tryd.ntmps57
    go_wp2
    go_ret2
    exact ⟨rfl, rfl⟩
  have d3 : ¬ (c : Int) = 240 := by omega
  by_cases h4 : c = 244
  · subst h4
    go_enter Tryd.func57, Tryd.ntmps57
    go_wp2
    go_ret2
    exact ⟨rfl, rfl⟩
  have d4 : ¬ (c : Int) = 244 := by omega
  have e1 : loV c = 128 := by unfold loV; rw [if_neg h1, if_neg h2, if_neg h3]
  have e2 : hiV c = 191 := by unfold hiV; rw [if_neg h2, if_neg h4]
  rw [e1, e2]
  clear h1 h2 h3 h4 e1 e2
  go_enter Tryd.func57, Tryd.ntmps57
  go_wp2
  go_ret2
  exact ⟨rfl, rfl⟩
set_option maxRecDepth 100000 in
theorem begin_no {w : World} {g c : Nat} (h : 128 ≤ c ∧ (c < 194 ∨ 244 < c)) : Calls Tryd.prog 56 #[.pointer (some ⟨g, 0, none⟩), .int .u8 (c : Int)] w fun e w' => e = .returned (.bool false) ∧ w' = w := by
  have d1 : ¬ (c : Int) < 128 := by omega
  rcases h.2 with h2 | h2
  · have d2 : (c : Int) < 194 := by omega
    clear h h2
    go_enter Tryd.func56, Tryd.ntmps56
    go_wp2
    go_ret
    exact ⟨rfl, rfl⟩
  · have d2 : decide ((c : Int) < 194) = false := by simp; omega
    have d3 : decide ((244 : Int) < c) = true := by simp; omega
    clear h h2
    go_enter Tryd.func56, Tryd.ntmps56
    go_wp2
    go_ret
    exact ⟨rfl, rfl⟩
set_option maxRecDepth 100000 in
theorem begin_one {w : World} {g c : Nat} (h : c < 128) : Calls Tryd.prog 56 #[.pointer (some ⟨g, 0, none⟩), .int .u8 (c : Int)] w fun e w' => e = .returned (.bool true) ∧ w' = w := by
  have d1 : (c : Int) < 128 := by omega
  clear h
  go_enter Tryd.func56, Tryd.ntmps56
  go_wp2
  go_ret
  exact ⟨rfl, rfl⟩
set_option maxRecDepth 100000 in
set_option maxHeartbeats 1000000 in
theorem begin_more {w : World} {g c lo hi : Nat} (hr : Row w g 93 (ckc 0 lo hi false)) (h : 194 ≤ c ∧ c ≤ 244) : Calls Tryd.prog 56 #[.pointer (some ⟨g, 0, none⟩), .int .u8 (c : Int)] w fun e w' => e = .returned (.bool true) ∧ Row w' g 93 (ckc (nV c) (loV c) (hiV c) false) ∧ Fs (fun k => k = g) w w' := by
  have d1 : ¬ (c : Int) < 128 := by omega
  have d2 : decide ((c : Int) < 194) = false := by simp; omega
  have d3 : decide ((244 : Int) < c) = false := by simp; omega
  obtain ⟨c0, c1, c2, _⟩ := ck_cells hr
  have hth := fun j => hr.thawed j
  have HS := Lib.hid (second_any (c := c))
  by_cases h3 : 240 ≤ c
  · have d4 : (240 : Int) ≤ c := by omega
    have hn : nV c = 3 := if_pos h3
    rw [hn]
    have HR : Hid (∀ l u : Nat, Row (((((w.setCell ⟨g, 0, none⟩ (.int .i64 1)).setCell ⟨g, 0, none⟩ (.int .i64 2)).setCell ⟨g, 0, none⟩ (.int .i64 3)).setCell ⟨g, 1, none⟩ (.int .u8 (l : Int))).setCell ⟨g, 2, none⟩ (.int .u8 (u : Int))) g 93 (ckc 3 l u false)) := fun l u => ck_hi (ck_lo (ck_k (ck_k (ck_k hr 1) 2) 3) l) u
    have HF : Hid (∀ x y z p q, Fs (fun k => k = g) w (((((w.setCell ⟨g, 0, none⟩ x).setCell ⟨g, 0, none⟩ y).setCell ⟨g, 0, none⟩ z).setCell ⟨g, 1, none⟩ p).setCell ⟨g, 2, none⟩ q)) := fun x y z p q => (((((Fs.refl (fun k => k = g) w).setCell (fun _ => rfl) _ _).setCell (fun _ => rfl) _ _).setCell (fun _ => rfl) _ _).setCell (fun _ => rfl) _ _).setCell (fun _ => rfl) _ _
    generalize loV c = l at *
    generalize hiV c = u at *
    clear hr h h3 hn
    go_enter Tryd.func56, Tryd.ntmps56
    go_wp2_with fail
    refine (HS.out _).mono ?_
    rintro e w1 ⟨rfl, rfl⟩
    go_wp2
    go_ret
    exact ⟨rfl, HR.out _ _, HF.out _ _ _ _ _⟩
  have d4 : ¬ (240 : Int) ≤ c := by omega
  by_cases h4 : 224 ≤ c
  · have d5 : (224 : Int) ≤ c := by omega
    have hn : nV c = 2 := by unfold nV; rw [if_neg h3, if_pos h4]
    rw [hn]
    have HR : Hid (∀ l u : Nat, Row ((((w.setCell ⟨g, 0, none⟩ (.int .i64 1)).setCell ⟨g, 0, none⟩ (.int .i64 2)).setCell ⟨g, 1, none⟩ (.int .u8 (l : Int))).setCell ⟨g, 2, none⟩ (.int .u8 (u : Int))) g 93 (ckc 2 l u false)) := fun l u => ck_hi (ck_lo (ck_k (ck_k hr 1) 2) l) u
    have HF : Hid (∀ x y p q, Fs (fun k => k = g) w ((((w.setCell ⟨g, 0, none⟩ x).setCell ⟨g, 0, none⟩ y).setCell ⟨g, 1, none⟩ p).setCell ⟨g, 2, none⟩ q)) := fun x y p q => ((((Fs.refl (fun k => k = g) w).setCell (fun _ => rfl) _ _).setCell (fun _ => rfl) _ _).setCell (fun _ => rfl) _ _).setCell (fun _ => rfl) _ _
    generalize loV c = l at *
    generalize hiV c = u at *
    clear hr h h3 hn h4
    go_enter Tryd.func56, Tryd.ntmps56
    go_wp2_with fail
    refine (HS.out _).mono ?_
    rintro e w1 ⟨rfl, rfl⟩
    go_wp2
    go_ret
    exact ⟨rfl, HR.out _ _, HF.out _ _ _ _⟩
  have d5 : ¬ (224 : Int) ≤ c := by omega
  have hn : nV c = 1 := by unfold nV; rw [if_neg h3, if_neg h4]
  rw [hn]
  have HR : Hid (∀ l u : Nat, Row (((w.setCell ⟨g, 0, none⟩ (.int .i64 1)).setCell ⟨g, 1, none⟩ (.int .u8 (l : Int))).setCell ⟨g, 2, none⟩ (.int .u8 (u : Int))) g 93 (ckc 1 l u false)) := fun l u => ck_hi (ck_lo (ck_k hr 1) l) u
  have HF : Hid (∀ x p q, Fs (fun k => k = g) w (((w.setCell ⟨g, 0, none⟩ x).setCell ⟨g, 1, none⟩ p).setCell ⟨g, 2, none⟩ q)) := fun x p q => (((Fs.refl (fun k => k = g) w).setCell (fun _ => rfl) _ _).setCell (fun _ => rfl) _ _).setCell (fun _ => rfl) _ _
  generalize loV c = l at *
  generalize hiV c = u at *
  clear hr h h3 hn h4
  go_enter Tryd.func56, Tryd.ntmps56
  go_wp2_with fail
  refine (HS.out _).mono ?_
  rintro e w1 ⟨rfl, rfl⟩
  go_wp2
  go_ret
  exact ⟨rfl, HR.out _ _, HF.out _ _ _⟩
theorem ut_first {c : Nat} (h : 194 ≤ c ∧ c ≤ 244) : utN ut0 c = some ⟨nV c, loV c, hiV c⟩ := by
  unfold utN nV loV hiV
  rw [if_pos (show ut0.k = 0 from rfl), if_neg (by omega)]
  by_cases h1 : c < 224
  · rw [if_pos (by omega)]; congr 2 <;> (repeat' split) <;> omega
  rw [if_neg (by omega)]
  by_cases h2 : c = 224
  · subst h2; rfl
  rw [if_neg h2]
  by_cases h3 : c = 237
  · subst h3; rfl
  rw [if_neg h3]
  by_cases h4 : c < 240
  · rw [if_pos (by omega), if_neg (by omega), if_pos (by omega), if_neg h2, if_neg h3, if_neg (by omega), if_neg h3, if_neg (by omega)]
  rw [if_neg (by omega)]
  by_cases h5 : c = 240
  · subst h5; rfl
  rw [if_neg h5]
  by_cases h6 : c = 244
  · subst h6; rfl
  rw [if_neg h6, if_pos (by omega), if_pos (by omega), if_neg h2, if_neg h3, if_neg h5, if_neg h3, if_neg h6]
theorem ut_one {c : Nat} (h : c < 128) : utN ut0 c = some ut0 := by unfold utN; rw [if_pos (show ut0.k = 0 from rfl), if_pos h]
theorem ut_no {c : Nat} (h : 128 ≤ c ∧ (c < 194 ∨ 244 < c)) : utN ut0 c = none := by
  unfold utN
  rw [if_pos (show ut0.k = 0 from rfl), if_neg (by omega), if_neg (by omega), if_neg (by omega), if_neg (by omega), if_neg (by omega), if_neg (by omega), if_neg (by omega), if_neg (by omega)]
/-- What take leaves. -/
def TakeP (w w' : World) (g : Nat) (e : Ending) : Option Ut → Prop
  | none => e = .returned (.bool false) ∧ w' = w
  | some u => e = .returned (.bool true) ∧ Ck w' g (some u) ∧ Fs (fun k => k = g) w w'
theorem loV_lt (c : Nat) : loV c < 256 := by unfold loV; (repeat' split) <;> omega
theorem hiV_lt (c : Nat) : hiV c < 256 := by unfold hiV; (repeat' split) <;> omega
theorem nV_in (c : Nat) : 1 ≤ nV c ∧ nV c ≤ 3 := by unfold nV; (repeat' split) <;> omega
set_option maxRecDepth 100000 in
set_option maxHeartbeats 1000000 in
theorem take_any {w : World} {g c : Nat} {s : Ut} (h : Ck w g (some s)) : Calls Tryd.prog 52 #[.pointer (some ⟨g, 0, none⟩), .int .u8 (c : Int)] w fun e w' => TakeP w w' g e (utN s c) := by
  obtain ⟨k, lo, hi, hr, h1, h2, h3, h4, h5, h6⟩ := h
  obtain ⟨c0, c1, c2, _⟩ := ck_cells hr
  by_cases h0 : k = 0
  · subst h0
    obtain rfl := h3 rfl
    rcases Nat.lt_or_ge c 128 with hc | hc
    · rw [ut_one hc]
      have HC : Hid (Ck w g (some ut0)) := ⟨0, lo, hi, hr, h1, h2, h3, h4, h5, h6⟩
      have HB := Lib.hid (begin_one (w := w) (g := g) hc)
      clear h1 h2 h3 h4 h5 h6 hc hr
      go_enter Tryd.func52, Tryd.ntmps52
      go_wp2_with fail
      refine HB.out.mono ?_
      rintro e w1 ⟨rfl, rfl⟩
      go_wp2
      go_ret
      exact ⟨rfl, HC.out, Fs.refl _ _⟩
    · by_cases hn : c < 194 ∨ 244 < c
      · rw [ut_no ⟨hc, hn⟩]
        have HB := Lib.hid (begin_no (w := w) (g := g) ⟨hc, hn⟩)
        clear h1 h2 h3 h4 h5 h6 hc hr hn
        go_enter Tryd.func52, Tryd.ntmps52
        go_wp2_with fail
        refine HB.out.mono ?_
        rintro e w1 ⟨rfl, rfl⟩
        go_wp2
        go_ret
        exact ⟨rfl, rfl⟩
      · have hc2 : 194 ≤ c ∧ c ≤ 244 := by omega
        rw [ut_first hc2]
        have HB := Lib.hid (begin_more hr hc2)
        clear h1 h2 h3 h4 h5 h6 hc hr hn hc2
        go_enter Tryd.func52, Tryd.ntmps52
        go_wp2_with fail
        refine HB.out.mono ?_
        rintro e w1 ⟨rfl, hr, hf⟩
        have HR := Lib.hid hr
        have HF := Lib.hid hf
        clear hr hf
        go_wp2
        go_ret
        exact ⟨rfl, ⟨nV c, loV c, hiV c, HR.out, rfl, fun _ => ⟨rfl, rfl⟩, fun h => absurd h (by have := nV_in c; omega), (nV_in c).2, loV_lt c, hiV_lt c⟩, HF.out⟩
  · obtain ⟨h7, h8⟩ := h2 h0
    have d0 : ((k : Int) == 0) = false := by rw [beq_eq_false_iff_ne]; omega
    by_cases hb : lo ≤ c ∧ c ≤ hi
    · have hu : utN s c = some (if k = 1 then ut0 else ⟨k - 1, 128, 191⟩) := by
        unfold utN
        rw [← h1, if_neg h0, ← h7, ← h8, if_pos hb]
        split <;> rfl
      rw [hu]
      obtain ⟨m, rfl⟩ : ∃ m, k = m + 1 := ⟨k - 1, by omega⟩
      have d1 : decide (c < lo) = false := by simp; omega
      have d2 : decide (hi < c) = false := by simp; omega
      have hth := fun j => hr.thawed j
      have HR : Hid (Row (((w.setCell ⟨g, 0, none⟩ (.int .i64 (m : Int))).setCell ⟨g, 1, none⟩ (.int .u8 128)).setCell ⟨g, 2, none⟩ (.int .u8 191)) g 93 (ckc m 128 191 false)) := ck_hi (ck_lo (ck_k hr m) 128) 191
      have HF : Hid (∀ x p q, Fs (fun k => k = g) w (((w.setCell ⟨g, 0, none⟩ x).setCell ⟨g, 1, none⟩ p).setCell ⟨g, 2, none⟩ q)) := fun x p q => (((Fs.refl (fun k => k = g) w).setCell (fun _ => rfl) _ _).setCell (fun _ => rfl) _ _).setCell (fun _ => rfl) _ _
      have HM : Hid (CkS m 128 191 (if m + 1 = 1 then ut0 else ⟨m + 1 - 1, 128, 191⟩)) := by
        show CkS _ _ _ _
        by_cases hm : m = 0
        · subst hm; exact ⟨rfl, fun h => absurd rfl h, fun _ => rfl, by omega, by omega, by omega⟩
        · rw [if_neg (by omega)]; exact ⟨rfl, fun _ => ⟨rfl, rfl⟩, fun h => absurd h hm, by omega, by omega, by omega⟩
      have hm2 : m ≤ 2 := by omega
      clear hu h0 h1 h2 h3 h4 h5 h6 h7 h8 hb hr
      generalize (if m + 1 = 1 then ut0 else (⟨m + 1 - 1, 128, 191⟩ : Ut)) = u at *
      simp only [Int.natCast_add, Int.natCast_one] at d0 c0
      go_enter Tryd.func52, Tryd.ntmps52
      go_wp2
      go_ret
      exact ⟨rfl, ⟨m, 128, 191, HR.out, HM.out⟩, HF.out _ _ _⟩
    · have hu : utN s c = none := by
        unfold utN
        rw [← h1, if_neg h0, ← h7, ← h8, if_neg hb]
      rw [hu]
      by_cases hl : c < lo
      · have d1 : c < lo := hl
        clear hu h0 h1 h2 h3 h4 h5 h6 h7 h8 hb hr hl
        go_enter Tryd.func52, Tryd.ntmps52
        go_wp2
        go_ret
        exact ⟨rfl, rfl⟩
      · have d1 : decide (c < lo) = false := by simp; omega
        have d2 : decide (hi < c) = true := by simp; omega
        clear hu h0 h1 h2 h3 h4 h5 h6 h7 h8 hb hr hl
        go_enter Tryd.func52, Tryd.ntmps52
        go_wp2
        go_ret
        exact ⟨rfl, rfl⟩
/-! ### Feed -/
/-- Bytes as numbers. -/
def nats (l : List UInt8) : List Nat := l.map (·.toNat)
theorem nats_len (l : List UInt8) : (nats l).length = l.length := by simp [nats]
/-- A slice with this address reads as these bytes, in another block than g. -/
def RdN (w : World) (g : Nat) (A : Option Addr) (l : List UInt8) : Prop :=
  l ≠ [] → ∃ b o, A = some ⟨b, o, none⟩ ∧ b ≠ g ∧ ∀ j, (h : j < l.length) → w.cell? ⟨b, o + j, none⟩ = some (.int .u8 (l[j].toNat : Int))
theorem RdB.toN {w : World} {B g : Nat} {A : Option Addr} {l : List UInt8} (h : RdB w B A l) (hg : B ≤ g) : RdN w g A l := fun hl => by
  obtain ⟨b, o, e, hb, hc⟩ := h hl
  exact ⟨b, o, e, by omega, hc⟩
theorem RdN.keep {w w' : World} {g : Nat} {A : Option Addr} {l : List UInt8} (h : RdN w g A l) (hf : Fs (fun k => k = g) w w') : RdN w' g A l := fun hl => by
  obtain ⟨b, o, e, hb, hc⟩ := h hl
  refine ⟨b, o, e, hb, fun j hj => ?_⟩
  have h1 := hc j hj
  have hlt := World.block_lt_of_cell? w _ h1
  rw [← h1]
  unfold World.cell?
  rw [show w'.heap[(⟨b, o + j, none⟩ : Addr).block]? = w.heap[(⟨b, o + j, none⟩ : Addr).block]? from hf.block b hlt hb]
theorem bad_row {w : World} {g : Nat} {o : Option Ut} (h : Ck w g o) : Ck (w.setCell ⟨g, 3, none⟩ (.bool true)) g none := by
  cases o with
  | none => obtain ⟨k, lo, hi, h⟩ := h; exact ⟨k, lo, hi, ckr_bad h true⟩
  | some s => obtain ⟨k, lo, hi, h, _⟩ := h; exact ⟨k, lo, hi, ckr_bad h true⟩
theorem go_cons_no {s : Ut} {c : Nat} {r : List Nat} (h : utN s c = none) : goN s (c :: r) = (0, none) := by simp only [goN]; rw [h]
theorem go_cons_yes {s u : Ut} {c : Nat} {r : List Nat} (h : utN s c = some u) : goN s (c :: r) = ((goN u r).1 + 1, (goN u r).2) := by simp only [goN]; rw [h]
theorem nats_drop {l : List UInt8} {k : Nat} (h : k < l.length) : nats (l.drop k) = l[k].toNat :: nats (l.drop (k + 1)) := by rw [List.drop_eq_getElem_cons h]; rfl
set_option maxRecDepth 100000 in
theorem feed_nil (v : Value) (w : World) : Calls Tryd.prog 44 #[.pointer none, v] w fun e w' => e = .returned (.int .i64 0) ∧ w' = w := by
  go_enter Tryd.func44, Tryd.ntmps44
  go_wp2_with fail
  refine (vbad_nil _).mono ?_
  rintro e w1 ⟨rfl, rfl⟩
  go_wp2
  go_ret
  exact ⟨rfl, rfl⟩
set_option maxRecDepth 100000 in
theorem feed_bad {w : World} {g : Nat} (h : Ck w g none) (v : Value) : Calls Tryd.prog 44 #[.pointer (some ⟨g, 0, none⟩), v] w fun e w' => e = .returned (.int .i64 0) ∧ w' = w := by
  have hb := Lib.hid (vbad_any h)
  clear h
  go_enter Tryd.func44, Tryd.ntmps44
  go_wp2_with fail
  refine hb.out.mono ?_
  rintro e w1 ⟨rfl, rfl⟩
  go_wp2
  go_ret
  exact ⟨rfl, rfl⟩
set_option maxRecDepth 100000 in
set_option maxHeartbeats 1000000 in
theorem feed_good {w : World} {g : Nat} {s : Ut} (h : Ck w g (some s)) {A : Option Addr} {l : List UInt8} {c : Nat} (hr : RdN w g A l) (hl : l.length ≤ 1000000) : Calls Tryd.prog 44 #[.pointer (some ⟨g, 0, none⟩), .slice A l.length c] w fun e w' => e = .returned (.int .i64 ((goN s (nats l)).1 : Int)) ∧ Ck w' g (goN s (nats l)).2 ∧ Fs (fun k => k = g) w w' := by
  have hb := Lib.hid (vbad_any h)
  have HC := Lib.hid h
  have HR := Lib.hid hr
  clear h hr
  go_enter Tryd.func44, Tryd.ntmps44
  go_wp2_with fail
  refine hb.out.mono ?_
  rintro e w1 ⟨rfl, h1⟩
  have HC1 : Hid (Ck w1 g (some s)) := by rw [h1]; exact HC
  have HF1 : Hid (Fs (fun k => k = g) w w1) := by rw [h1]; exact Fs.refl _ _
  clear hb HC h1
  go_wp2_with fail
  go_loopw [11] (fun i wr => ∃ (k : Nat) (t : Ut), k ≤ l.length ∧ i = .int .i64 k ∧ Hid (Ck wr g (some t)) ∧ Hid (Fs (fun k => k = g) w wr) ∧ Hid (goN s (nats l) = (k + (goN t (nats (l.drop k))).1, (goN t (nats (l.drop k))).2)))
    (fun i _ => l.length - (intOf i).toNat)
  case atStart => exact ⟨0, s, Nat.zero_le _, rfl, HC1, HF1, by show _ = _; rw [List.drop_zero, Nat.zero_add]⟩
  case round =>
    obtain ⟨k, t, hk, rfl, HC2, HF, HG⟩ := hrel
    by_cases hlt : k < l.length
    · obtain ⟨b, o, rfl, hb, hc⟩ := (HR.out.keep HF.out) (by rintro rfl; simp at hlt)
      have hcell := hc k hlt
      have hd := nats_drop hlt
      have HD := Lib.hid hd
      have HT := Lib.hid (fun W (hW : Ck W g (some t)) => take_any (c := l[k].toNat) hW)
      clear hc hd hb
      generalize l[k].toNat = x at *
      cases hu : utN t x with
      | none =>
        have HU := Lib.hid hu
        have HE : Hid (goN s (nats l) = (k, none)) := by
          show _ = _
          rw [HG.out, HD.out, go_cons_no hu]
          rfl
        clear hu
        go_wp2_with fail
        refine (HT.out _ HC2.out).mono ?_
        rw [HU.out]
        rintro e w2 ⟨rfl, rfl⟩
        have HB := Lib.hid (bad_row HC2.out)
        have HF2 := Lib.hid (HF.out.setCell (g := g) (fun _ => rfl) 3 (.bool true))
        obtain ⟨c3, t3⟩ : (∃ v, w2.cell? ⟨g, 3, none⟩ = some v) ∧ w2.frozen? ⟨g, 3, none⟩ = false := by
          obtain ⟨_, _, _, h, _⟩ := HC2.out
          exact ⟨⟨_, (ck_cells h).2.2.2⟩, h.thawed 3⟩
        obtain ⟨v3, c3⟩ := c3
        clear HG HD HT HC2
        go_wp2
        go_ret
        rw [HE.out]
        exact ⟨rfl, HB.out, HF2.out⟩
      | some u =>
        have HU := Lib.hid hu
        have HE : Hid (goN s (nats l) = (k + 1 + (goN u (nats (l.drop (k + 1)))).1, (goN u (nats (l.drop (k + 1)))).2)) := by
          show _ = _
          rw [HG.out, HD.out, go_cons_yes hu]
          simp only [Prod.mk.injEq, and_true]
          omega
        clear hu
        go_wp2_with fail
        refine (HT.out _ HC2.out).mono ?_
        rw [HU.out]
        rintro e w2 ⟨rfl, hc2, hf2⟩
        have HC3 := Lib.hid hc2
        have HF3 := Lib.hid (HF.out.trans hf2 fun _ _ h => h)
        clear HG HD HT HC2 hc2 hf2 HU HF hcell
        go_wp2_with fail
        go_roundw
        case rel => exact ⟨k + 1, u, by omega, by go_num, HC3, HF3, HE⟩
        case measure => simp [intOf]; omega
    · obtain rfl : k = l.length := by omega
      have HE : Hid (goN s (nats l) = (l.length, some t)) := by
        show _ = _
        rw [HG.out, List.drop_of_length_le (Nat.le_refl _)]
        rfl
      clear HG
      go_wp2_with fail
      go_ret
      rw [HE.out]
      exact ⟨rfl, HC2.out, HF.out⟩
theorem feed_any {w : World} {g : Nat} {q : Option Ut} (h : Ck w g q) {A : Option Addr} {l : List UInt8} {c : Nat} (hr : RdN w g A l) (hl : l.length ≤ 1000000) : Calls Tryd.prog 44 #[.pointer (some ⟨g, 0, none⟩), .slice A l.length c] w fun e w' => e = .returned (.int .i64 ((ckN q (nats l)).1 : Int)) ∧ Ck w' g (ckN q (nats l)).2 ∧ Fs (fun k => k = g) w w' := by
  cases q with
  | none => exact (feed_bad h _).mono fun e w' ⟨h1, h2⟩ => ⟨h1, by rw [h2]; exact h, by rw [h2]; exact Fs.refl _ _⟩
  | some s => exact feed_good h hr hl
set_option maxRecDepth 100000 in
theorem valid_any {w : World} {A : Option Addr} {l : List UInt8} {c : Nat} (hr : RdB w w.heap.size A l) (hl : l.length ≤ 1000000) : Calls Tryd.prog 38 #[.slice A l.length c] w fun e w' => e = .returned (.bool (txtB (nats l))) ∧ Below w.heap.size w w' := by
  have HR := Lib.hid hr
  clear hr
  go_enter Tryd.func38, Tryd.ntmps38
  go_wp2_with fail
  refine (vnew_any _).mono ?_
  rintro e w1 ⟨g, rfl, hc, hb, hg⟩
  have HF := Lib.hid (feed_any (c := c) hc ((HR.out.below hb).toN hg) hl)
  have HB := Lib.hid hb
  have HG := Lib.hid hg
  clear hc hb hg HR
  go_wp2_with fail
  refine HF.out.mono ?_
  rintro e w2 ⟨rfl, hc, hf⟩
  have HW := Lib.hid (vwhole_any hc)
  have HB2 := Lib.hid (HB.out.trans (hf.below (fun k hk _ => by subst hk; exact HG.out) HB.out.size))
  have HT : Hid (whV (ckN (some ut0) (nats l)).2 = txtB (nats l)) := rfl
  clear hc hf HF
  go_wp2_with fail
  refine HW.out.mono ?_
  rw [HT.out]
  rintro e w3 ⟨rfl, rfl⟩
  go_wp2
  go_ret
  exact ⟨rfl, HB2.out⟩
end Go.Proofs.YtdegpchofhnipaaDoor
