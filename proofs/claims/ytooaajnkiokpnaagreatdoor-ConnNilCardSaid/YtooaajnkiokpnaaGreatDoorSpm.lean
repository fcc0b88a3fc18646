/-
  Splitting bytes into frames, in plain mathematics: what is told next of bytes that are held, all frames of bytes; pieces play no part. No program is spoken of.
-/
import Derived.Test.YtooaajnkiokpnaaGreatDoorFbm
namespace Go.Proofs.YtooaajnkiokpnaaGreatDoor

def greetL : List UInt8 := [80, 82, 73, 32, 42, 32, 72, 84, 84, 80, 47, 50, 46, 48, 13, 10, 13, 10, 83, 77, 13, 10, 13, 10]
theorem greetL_length : greetL.length = 24 := rfl
/-- What is told of a frame: it, its fault's scope and code. -/
abbrev Rd := Frm × Nat × Nat
def wholeN (l : List UInt8) : Nat := 9 + valL (l.take 3)
def greatN (l : List UInt8) : Rd := (hdN (l.getD 3 0).toNat (l.getD 4 0).toNat (valL ((l.drop 5).take 4) % 2147483648), 1, 6)
/-- What is told next where no preface is waited for, and what is held then. -/
def nfN (l : List UInt8) : Option Rd × List UInt8 :=
  if l.length < 9 then (none, l)
  else if 16393 < wholeN l then (some (greatN l), l)
  else if l.length < wholeN l then (none, l)
  else (some (getN (l.take (wholeN l))), l.drop (wholeN l))
/-- Are they a beginning of the preface, or does one begin with it? -/
def GreetP (l : List UInt8) : Prop := l.take (min l.length 24) = greetL.take (min l.length 24)
instance (l : List UInt8) : Decidable (GreetP l) := inferInstanceAs (Decidable (_ = _))
def noGreet : Rd := (hdN 0 0 0, 1, 1)
def nxN (l : List UInt8) (w : Bool) : Option Rd × List UInt8 × Bool :=
  if w = true then
    if ¬ GreetP l then (some noGreet, l, true)
    else if l.length < 24 then (none, l, true)
    else ((nfN (l.drop 24)).1, (nfN (l.drop 24)).2, false)
  else ((nfN l).1, (nfN l).2, false)
/-- .. of a splitter that may be bad. -/
def nsN (l : List UInt8) (w bad : Bool) : Option Rd × List UInt8 × Bool × Bool :=
  if bad = true then (none, [], false, true)
  else match nxN l w with
    | (some x, r, w') => if x.2.1 = 1 then (some x, [], false, true) else (some x, r, w', false)
    | (none, r, w') => (none, r, w', false)
theorem nsN_none {l r : List UInt8} {w w' : Bool} (h : nxN l w = (none, r, w')) : nsN l w false = (none, r, w', false) := by unfold nsN; rw [if_neg (by simp), h]
theorem nsN_fault {l r : List UInt8} {w w' : Bool} {x : Rd} (h : nxN l w = (some x, r, w')) (hx : x.2.1 = 1) : nsN l w false = (some x, [], false, true) := by unfold nsN; rw [if_neg (by simp), h]; exact if_pos hx
theorem nsN_go {l r : List UInt8} {w w' : Bool} {x : Rd} (h : nxN l w = (some x, r, w')) (hx : x.2.1 ≠ 1) : nsN l w false = (some x, r, w', false) := by unfold nsN; rw [if_neg (by simp), h]; exact if_neg hx
/-- All frames of bytes, up to the first fault of the connection; how many bytes are left; whether there was such a fault. -/
inductive AllR : List UInt8 → Bool → List Rd → Nat → Bool → Prop
  | stop {l : List UInt8} {w : Bool} {r : List UInt8} {w' : Bool} : nxN l w = (none, r, w') → AllR l w [] r.length false
  | fault {l : List UInt8} {w : Bool} {x : Rd} {r : List UInt8} {w' : Bool} : nxN l w = (some x, r, w') → x.2.1 = 1 → AllR l w [x] 0 true
  | go {l : List UInt8} {w : Bool} {x : Rd} {r : List UInt8} {w' : Bool} {out : List Rd} {n : Nat} {b : Bool} : nxN l w = (some x, r, w') → x.2.1 ≠ 1 → AllR r w' out n b → AllR l w (x :: out) n b
theorem AllR.det {l : List UInt8} {w : Bool} {out : List Rd} {n : Nat} {b : Bool} (h : AllR l w out n b) : ∀ {out' : List Rd} {n' : Nat} {b' : Bool}, AllR l w out' n' b' → out' = out ∧ n' = n ∧ b' = b := by
  induction h with
  | stop e =>
    intro out' n' b' h'
    cases h' with
    | stop e' => rw [e] at e'; cases e'; exact ⟨rfl, rfl, rfl⟩
    | fault e' _ => rw [e] at e'; cases e'
    | go e' _ _ => rw [e] at e'; cases e'
  | fault e hx =>
    intro out' n' b' h'
    cases h' with
    | stop e' => rw [e] at e'; cases e'
    | fault e' _ => rw [e] at e'; cases e'; exact ⟨rfl, rfl, rfl⟩
    | go e' hx' _ => rw [e] at e'; cases e'; exact absurd hx hx'
  | go e hx _ ih =>
    intro out' n' b' h'
    cases h' with
    | stop e' => rw [e] at e'; cases e'
    | fault e' hx' => rw [e] at e'; cases e'; exact absurd hx' hx
    | go e' _ h2 =>
      rw [e] at e'; cases e'
      obtain ⟨rfl, rfl, rfl⟩ := ih h2
      exact ⟨rfl, rfl, rfl⟩
theorem AllR.same {l l' : List UInt8} {w w' : Bool} {out : List Rd} {n : Nat} {b : Bool} (e : nxN l w = nxN l' w') (h : AllR l' w' out n b) : AllR l w out n b := by
  cases h with
  | stop h1 => exact .stop (e.trans h1)
  | fault h1 h2 => exact .fault (e.trans h1) h2
  | go h1 h2 h3 => exact .go (e.trans h1) h2 h3

theorem whole_app {l m : List UInt8} (h : 9 ≤ l.length) : wholeN (l ++ m) = wholeN l := by unfold wholeN; rw [List.take_append_of_le_length (by omega)]
theorem great_app {l m : List UInt8} (h : 9 ≤ l.length) : greatN (l ++ m) = greatN l := by
  unfold greatN
  have e3 : (l ++ m).getD 3 0 = l.getD 3 0 := by simp only [List.getD_eq_getElem?_getD]; rw [List.getElem?_append_left (by omega)]
  have e4 : (l ++ m).getD 4 0 = l.getD 4 0 := by simp only [List.getD_eq_getElem?_getD]; rw [List.getElem?_append_left (by omega)]
  have e5 : ((l ++ m).drop 5).take 4 = (l.drop 5).take 4 := by rw [List.drop_append_of_le_length (by omega), List.take_append_of_le_length (by simp; omega)]
  rw [e3, e4, e5]
theorem nf_none {l r : List UInt8} (h : nfN l = (none, r)) : r = l ∧ l.length < 16393 := by
  unfold nfN at h
  split at h
  · cases h; exact ⟨rfl, by omega⟩
  · split at h
    · cases h
    · split at h
      · cases h; exact ⟨rfl, by omega⟩
      · cases h
theorem nf_some {l r : List UInt8} {x : Rd} (h : nfN l = (some x, r)) : 9 ≤ l.length ∧ (x.2.1 ≠ 1 → r.length < l.length) := by
  unfold nfN at h
  split at h
  · cases h
  · split at h
    · cases h; exact ⟨by omega, fun h1 => absurd rfl h1⟩
    · split at h
      · cases h
      · cases h
        have : 9 ≤ wholeN l := by unfold wholeN; omega
        refine ⟨by omega, fun _ => ?_⟩
        rw [List.length_drop]
        omega
theorem nf_more {l r : List UInt8} {x : Rd} (h : nfN l = (some x, r)) (m : List UInt8) : ∃ r', nfN (l ++ m) = (some x, r') ∧ (x.2.1 ≠ 1 → r' = r ++ m) := by
  unfold nfN at h
  split at h
  · cases h
  · rename_i h9
    have hw := whole_app (m := m) (show 9 ≤ l.length by omega)
    have hlen : ¬ (l ++ m).length < 9 := by simp; omega
    split at h
    · rename_i h1
      cases h
      refine ⟨l ++ m, ?_, fun h2 => absurd rfl h2⟩
      unfold nfN
      rw [if_neg hlen, hw, if_pos h1, great_app (by omega)]
    · rename_i h1
      split at h
      · cases h
      · rename_i h2
        cases h
        refine ⟨l.drop (wholeN l) ++ m, ?_, fun _ => rfl⟩
        unfold nfN
        rw [if_neg hlen, hw, if_neg h1, if_neg (by simp; omega), List.take_append_of_le_length (by omega), List.drop_append_of_le_length (by omega)]
theorem greet_app {l m : List UInt8} (h : GreetP (l ++ m)) : GreetP l := by
  unfold GreetP at *
  have h1 := congrArg (List.take (min l.length 24)) h
  rw [List.take_take, List.take_take, show min (min l.length 24) (min (l ++ m).length 24) = min l.length 24 by simp; omega] at h1
  rw [List.take_append_of_le_length (by omega)] at h1
  exact h1
theorem greet_long {l m : List UInt8} (h : GreetP l) (hl : 24 ≤ l.length) : GreetP (l ++ m) := by
  unfold GreetP at *
  rw [show min l.length 24 = 24 by omega] at h
  rw [show min (l ++ m).length 24 = 24 by simp; omega, List.take_append_of_le_length hl, h]
theorem nx_more {l r : List UInt8} {w w' : Bool} {x : Rd} (h : nxN l w = (some x, r, w')) (m : List UInt8) : ∃ r', nxN (l ++ m) w = (some x, r', w') ∧ (x.2.1 ≠ 1 → r' = r ++ m) := by
  unfold nxN at h
  split at h
  · rename_i hw
    split at h
    · rename_i hg
      cases h
      refine ⟨l ++ m, ?_, fun h2 => absurd rfl h2⟩
      unfold nxN
      rw [if_pos hw, if_pos fun h1 => hg (greet_app h1)]
    · rename_i hg
      split at h
      · cases h
      · rename_i h24
        have hg' : GreetP l := Classical.not_not.1 hg
        obtain ⟨r', h1, h2⟩ := nf_more (l := l.drop 24) (r := r) (x := x) (by injection h with e1 e2; injection e2 with e2 e3; exact Prod.ext e1 e2) m
        injection h with e1 e2
        injection e2 with e2 e3
        refine ⟨r', ?_, h2⟩
        unfold nxN
        rw [if_pos hw, if_neg fun h3 => h3 (greet_long hg' (by omega)), if_neg (by simp; omega), List.drop_append_of_le_length (by omega), h1, ← e3]
  · rename_i hw
    obtain ⟨r', h1, h2⟩ := nf_more (l := l) (r := r) (x := x) (by injection h with e1 e2; injection e2 with e2 e3; exact Prod.ext e1 e2) m
    injection h with e1 e2
    injection e2 with e2 e3
    refine ⟨r', ?_, h2⟩
    unfold nxN
    rw [if_neg hw, h1, ← e3]
/-- Where nothing is told: what is held then says the same, whatever comes behind. -/
theorem nx_wait {l r : List UInt8} {w w' : Bool} (h : nxN l w = (none, r, w')) (m : List UInt8) : nxN (l ++ m) w = nxN (r ++ m) w' := by
  unfold nxN at h
  split at h
  · rename_i hw
    split at h
    · cases h
    · rename_i hg
      split at h
      · cases h; rw [hw]
      · rename_i h24
        injection h with e1 e2
        injection e2 with e2 e3
        have hg' : GreetP l := Classical.not_not.1 hg
        have hr := (nf_none (l := l.drop 24) (r := r) (Prod.ext e1 e2)).1
        subst hr e3
        unfold nxN
        rw [if_pos hw, if_neg fun h3 => h3 (greet_long hg' (by omega)), if_neg (by simp; omega), List.drop_append_of_le_length (by omega), if_neg (by simp)]
  · rename_i hw
    injection h with e1 e2
    injection e2 with e2 e3
    have hr := (nf_none (l := l) (r := r) (Prod.ext e1 e2)).1
    subst hr e3
    have : w = false := by simpa using hw
    rw [this]
theorem nx_none {l r : List UInt8} {w w' : Bool} (h : nxN l w = (none, r, w')) : r.length < 16393 ∧ nxN r w' = (none, r, w') ∧ r.length ≤ l.length := by
  have h2 := nx_wait h []
  rw [List.append_nil, List.append_nil, h] at h2
  refine ⟨?_, h2.symm, ?_⟩
  · unfold nxN at h
    split at h
    · split at h
      · cases h
      · split at h
        · cases h; omega
        · injection h with e1 e2
          injection e2 with e2 e3
          have hr := nf_none (l := l.drop 24) (r := r) (Prod.ext e1 e2)
          rw [hr.1]; exact hr.2
    · injection h with e1 e2
      injection e2 with e2 e3
      have hr := nf_none (l := l) (r := r) (Prod.ext e1 e2)
      rw [hr.1]; exact hr.2
  · unfold nxN at h
    split at h
    · split at h
      · cases h
      · split at h
        · cases h; omega
        · injection h with e1 e2
          injection e2 with e2 e3
          have hr := nf_none (l := l.drop 24) (r := r) (Prod.ext e1 e2)
          rw [hr.1, List.length_drop]; omega
    · injection h with e1 e2
      injection e2 with e2 e3
      have hr := nf_none (l := l) (r := r) (Prod.ext e1 e2)
      rw [hr.1]; omega
theorem nx_some {l r : List UInt8} {w w' : Bool} {x : Rd} (h : nxN l w = (some x, r, w')) : 0 < l.length ∧ (x.2.1 ≠ 1 → r.length < l.length) := by
  unfold nxN at h
  split at h
  · split at h
    · rename_i hg
      cases h
      refine ⟨?_, fun h2 => absurd rfl h2⟩
      rcases Nat.eq_zero_or_pos l.length with h0 | h0
      · refine absurd ?_ hg
        rw [List.eq_nil_of_length_eq_zero h0]
        rfl
      · exact h0
    · split at h
      · cases h
      · injection h with e1 e2
        injection e2 with e2 e3
        have := nf_some (l := l.drop 24) (r := r) (x := x) (Prod.ext e1 e2)
        rw [List.length_drop] at this
        exact ⟨by omega, fun h2 => by have := this.2 h2; omega⟩
  · injection h with e1 e2
    injection e2 with e2 e3
    have := nf_some (l := l) (r := r) (x := x) (Prod.ext e1 e2)
    exact ⟨by omega, this.2⟩
theorem nx_nil (w : Bool) : nxN [] w = (none, [], w) := by
  cases w
  · rfl
  · unfold nxN
    rw [if_pos rfl, if_neg (by exact fun h => h rfl), if_pos (by decide)]

/-- All frames of a splitter's bytes. -/
def AllB (l : List UInt8) (w bad : Bool) (out : List Rd) (n : Nat) (b : Bool) : Prop := if bad = true then out = [] ∧ n = 0 ∧ b = true else AllR l w out n b
/-- One frame is told: what comes behind is as it was. -/
theorem ns_step {l r : List UInt8} {w bad w' bad' : Bool} {x : Rd} (h : nsN l w bad = (some x, r, w', bad')) {m : List UInt8} {out : List Rd} {n : Nat} {b : Bool} (ha : AllB (r ++ m) w' bad' out n b) : AllB (l ++ m) w bad (x :: out) n b := by
  unfold nsN at h
  split at h
  · cases h
  · rename_i hb
    have hb : bad = false := by simpa using hb
    split at h
    · rename_i y r1 w1 he
      obtain ⟨r2, h1, h2⟩ := nx_more he m
      split at h
      · rename_i h3
        cases h
        unfold AllB at ha ⊢
        rw [if_pos rfl] at ha
        obtain ⟨rfl, rfl, rfl⟩ := ha
        rw [if_neg (by rw [hb]; simp)]
        exact .fault h1 h3
      · rename_i h3
        cases h
        unfold AllB at ha ⊢
        rw [if_neg (by simp)] at ha
        rw [if_neg (by rw [hb]; simp)]
        rw [h2 h3] at h1
        exact .go h1 h3 ha
    · cases h
theorem ns_wait {l r : List UInt8} {w bad w' bad' : Bool} (h : nsN l w bad = (none, r, w', bad')) {m : List UInt8} {out : List Rd} {n : Nat} {b : Bool} (ha : AllB (r ++ m) w' bad' out n b) : AllB (l ++ m) w bad out n b := by
  unfold nsN at h
  split at h
  · rename_i hb
    cases h
    subst hb
    exact ha
  · rename_i hb
    have hb : bad = false := by simpa using hb
    split at h
    · split at h
      · cases h
      · cases h
    · rename_i r1 w1 he
      cases h
      unfold AllB at ha ⊢
      rw [if_neg (by simp)] at ha
      rw [if_neg (by rw [hb]; simp)]
      exact ha.same (nx_wait he m)
theorem ns_none {l r : List UInt8} {w bad w' bad' : Bool} (h : nsN l w bad = (none, r, w', bad')) : r.length < 16393 ∧ nsN r w' bad' = (none, r, w', bad') ∧ AllB r w' bad' [] r.length bad' := by
  unfold nsN at h
  split at h
  · cases h
    exact ⟨by decide, rfl, by unfold AllB; rw [if_pos rfl]; exact ⟨rfl, rfl, rfl⟩⟩
  · split at h
    · split at h
      · cases h
      · cases h
    · rename_i r1 w1 he
      cases h
      have h1 := nx_none he
      refine ⟨h1.1, ?_, ?_⟩
      · unfold nsN
        rw [if_neg (by simp), h1.2.1]
      · unfold AllB
        rw [if_neg (by simp)]
        exact .stop h1.2.1
theorem ns_some {l r : List UInt8} {w bad w' bad' : Bool} {x : Rd} (h : nsN l w bad = (some x, r, w', bad')) : r.length < l.length ∧ bad = false := by
  unfold nsN at h
  split at h
  · cases h
  · rename_i hb
    refine ⟨?_, by simpa using hb⟩
    split at h
    · rename_i he
      have h1 := nx_some he
      split at h
      · cases h; exact h1.1
      · rename_i h2
        cases h; exact h1.2 h2
    · cases h

/-! ### A frame that is too great -/
theorem read_long {l : List UInt8} {k : Nat} {z : List UInt8} (h : 9 ≤ l.length) (hk : 16384 < k) (hz : z.length = k) (hv : valL (l.take 3) = k) : getN (l.take 9 ++ z) = greatN l := by
  have h9 : (l.take 9).length = 9 := by simp; omega
  unfold getN
  have e3 : (l.take 9 ++ z).take 3 = l.take 3 := by rw [List.take_append_of_le_length (by omega), List.take_take]; congr 1
  rw [if_neg (by rw [e3, hv, List.length_append, h9, hz]; omega)]
  have ed : (l.take 9 ++ z).drop 9 = z := by rw [List.drop_append_of_le_length (by omega), List.drop_of_length_le (by omega)]; rfl
  have g : ∀ j, j < 9 → (l.take 9 ++ z).getD j 0 = l.getD j 0 := fun j hj => by
    simp only [List.getD_eq_getElem?_getD]
    rw [List.getElem?_append_left (by omega), List.getElem?_take_of_lt hj]
  have e5 : ((l.take 9 ++ z).drop 5).take 4 = (l.drop 5).take 4 := by
    rw [List.drop_append_of_le_length (by omega), List.take_append_of_le_length (by rw [List.length_drop]; omega), List.drop_take, List.take_take]; rfl
  rw [ed, e5, g 3 (by omega), g 4 (by omega)]
  unfold readN greatN
  rw [if_pos (by omega)]
/-- The program's bytes of one that is too great. -/
def tooL (l : List UInt8) : List UInt8 := 0 :: 64 :: 1 :: ((l.drop 3).take 6 ++ List.replicate 16385 0)
theorem get_too {l : List UInt8} (h : 9 ≤ l.length) : getN (tooL l) = greatN l := by
  have h6 : ((l.drop 3).take 6).length = 6 := by simp; omega
  have e : tooL l = (0 :: 64 :: 1 :: (l.drop 3).take 6).take 9 ++ List.replicate 16385 0 := by
    have h7 : (0 :: 64 :: 1 :: (l.drop 3).take 6).take 9 = 0 :: 64 :: 1 :: (l.drop 3).take 6 := List.take_of_length_le (by simp only [List.length_cons, h6]; omega)
    rw [h7]
    rfl
  rw [e, read_long (l := 0 :: 64 :: 1 :: (l.drop 3).take 6) (k := 16385) (by simp only [List.length_cons, h6]; omega) (by omega) (List.length_replicate) (by rfl)]
  unfold greatN
  obtain ⟨a0, a1, a2, a3, a4, a5, a6, a7, a8, r, rfl⟩ : ∃ a0 a1 a2 a3 a4 a5 a6 a7 a8 r, l = a0 :: a1 :: a2 :: a3 :: a4 :: a5 :: a6 :: a7 :: a8 :: r := by
    match l, h with
    | a0 :: a1 :: a2 :: a3 :: a4 :: a5 :: a6 :: a7 :: a8 :: r, _ => exact ⟨_, _, _, _, _, _, _, _, _, _, rfl⟩
  rfl
theorem tooL_length {l : List UInt8} (h : 9 ≤ l.length) : (tooL l).length = 16394 := by
  unfold tooL
  simp only [List.length_cons, List.length_append, List.length_replicate, List.length_take, List.length_drop]
  omega

/-! ### Frames that were put -/
theorem nf_put {F : Frm} (hm : F.May) (hg : getN (putL7 F) = (F, 0, 0)) (m : List UInt8) : nfN (putL7 F ++ m) = (some (F, 0, 0), m) := by
  have hs := pay_small F hm
  have h9 : (headL (payL F).length F.ty F.fl F.st).length = 9 := headL_length ..
  have hlen : (putL7 F).length = 9 + (payL F).length := by unfold putL7; rw [List.length_append, h9]
  have hw : wholeN (putL7 F ++ m) = 9 + (payL F).length := by
    rw [whole_app (by omega)]
    unfold wholeN putL7
    rw [List.take_append_of_le_length (by omega)]
    unfold headL
    rw [List.append_assoc, take_app (be_length 3 _), valL_be 3 _ (by omega)]
  unfold nfN
  rw [if_neg (by rw [List.length_append]; omega), hw, if_neg (by omega), if_neg (by rw [List.length_append]; omega), ← hlen, take_app rfl, drop_app rfl, hg]
def putsL (l : List Frm) : List UInt8 := l.flatMap putL7
theorem all_puts : ∀ (l : List Frm), (∀ F ∈ l, F.May ∧ getN (putL7 F) = (F, 0, 0)) → AllR (putsL l) false (l.map fun F => (F, 0, 0)) 0 false
  | [], _ => AllR.stop (nx_nil false)
  | F :: l, h => by
    have h1 := h F (by simp)
    have h2 := nf_put h1.1 h1.2 (putsL l)
    refine AllR.go (r := putsL l) (w' := false) ?_ (by show (0 : Nat) ≠ 1; decide) (all_puts l fun G hG => h G (by simp [hG]))
    show nxN (putL7 F ++ putsL l) false = _
    unfold nxN
    rw [if_neg (by simp), h2]
theorem all_greet {l : List Frm} (h : ∀ F ∈ l, F.May ∧ getN (putL7 F) = (F, 0, 0)) : AllR (greetL ++ putsL l) true (l.map fun F => (F, 0, 0)) 0 false := by
  refine (all_puts l h).same ?_
  unfold nxN
  have hg : GreetP (greetL ++ putsL l) := greet_long (by exact rfl) (by decide)
  rw [if_pos rfl, if_neg fun h3 => h3 hg, if_neg (by rw [List.length_append, greetL_length]; omega), if_neg (by simp), show (greetL ++ putsL l).drop 24 = putsL l from drop_app rfl]
end Go.Proofs.YtooaajnkiokpnaaGreatDoor
