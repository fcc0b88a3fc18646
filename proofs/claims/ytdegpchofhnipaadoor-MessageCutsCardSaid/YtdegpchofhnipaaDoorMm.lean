/-
  Messages of several frames, in plain mathematics: what a frame tells, a close, a message that is cut. No program is spoken of.
-/
import Derived.Test.YtdegpchofhnipaaDoorVst
import Derived.Test.YtdegpchofhnipaaDoorInum
namespace Go.Proofs.YtdegpchofhnipaaDoor

/-- What is told. -/
structure Nt where
  kind : Nat
  text : Bool
  code : Nat
  dat : List UInt8
/-- A gatherer: the bytes of the message that is begun; whether one is; whether it is a text; whether nothing is told any more. -/
structure Gg where
  b : List UInt8
  busy : Bool
  text : Bool
  over : Bool
def gg0 : Gg := ⟨[], false, false, false⟩
def ggX : Gg := ⟨[], false, false, true⟩
def ToldM (c : Nat) : Prop := 1000 ≤ c ∧ c < 5000 ∧ c ≠ 1004 ∧ c ≠ 1005 ∧ c ≠ 1006 ∧ (c < 1015 ∨ 3000 ≤ c)
instance (c : Nat) : Decidable (ToldM c) := inferInstanceAs (Decidable (_ ∧ _))
/-- What is wrong. -/
def badM (c : Nat) : Gg × Option Nt := (ggX, some ⟨5, false, c, []⟩)
def codeM (s : List UInt8) : Nat := match s with
  | a :: b :: _ => 256 * a.toNat + b.toNat
  | _ => 0
/-- A close. -/
def closeM (s : List UInt8) : Gg × Option Nt :=
  if s = [] then (ggX, some ⟨4, false, 1005, []⟩)
  else if s.length = 1 then badM 1002
  else if ¬ ToldM (codeM s) then badM 1002
  else if txtB (nats (s.drop 2)) = false then badM 1007
  else (ggX, some ⟨4, false, codeM s, s.drop 2⟩)
/-- The message goes on with these bytes. -/
def moreM (t : Bool) (B : List UInt8) (fin : Bool) : Gg × Option Nt :=
  if 4096 < B.length then badM 1009
  else if t = true ∧ ((goN ut0 (nats B)).1 < B.length ∨ (fin = true ∧ txtB (nats B) = false)) then badM 1007
  else if fin = true then (gg0, some ⟨1, t, 0, B⟩)
  else (⟨B, true, t, false⟩, none)
/-- A frame comes by. -/
def takeM (g : Gg) (op : Nat) (fin : Bool) (d : List UInt8) : Gg × Option Nt :=
  if g.over = true then (g, none)
  else if op = 9 then (g, some ⟨2, false, 0, d⟩)
  else if op = 10 then (g, some ⟨3, false, 0, d⟩)
  else if op = 8 then closeM d
  else if 2 < op then badM 1002
  else if (op = 0 ∧ g.busy = false) ∨ (op ≠ 0 ∧ g.busy = true) then badM 1002
  else if op = 0 then moreM g.text (g.b ++ d) fin
  else moreM (decide (op = 1)) d fin

/-! ### Texts -/
theorem txt_some {l : List Nat} (h : txtB l = true) : (goN ut0 l).2 = some ut0 := by unfold txtB at h; exact of_decide_eq_true h
/-- The beginning of a text isn't bad. -/
theorem txt_pre {a b : List UInt8} (h : txtB (nats (a ++ b)) = true) : (goN ut0 (nats a)).1 = a.length := by
  have h1 := txt_some h
  have h2 : nats a <+: nats (a ++ b) := ⟨nats b, by simp [nats]⟩
  have h3 := go_pre (s := ut0) h2 (by rw [h1]; rfl)
  obtain ⟨t, ht⟩ := Option.isSome_iff_exists.1 h3
  have := go_some_len _ _ _ ht
  rw [this, nats_len]
/-- A message that may be. -/
def RightM (t : Bool) (b : List UInt8) : Prop := b.length ≤ 4096 ∧ (t = true → txtB (nats b) = true)
theorem more_on {t : Bool} {a z : List UInt8} (h : RightM t (a ++ z)) : moreM t a false = (⟨a, true, t, false⟩, none) := by
  have h1 := h.1
  rw [List.length_append] at h1
  unfold moreM
  rw [if_neg (by omega), if_neg, if_neg (by simp)]
  rintro ⟨ht, h2 | h2⟩
  · have := txt_pre (h.2 ht)
    omega
  · cases h2.1
theorem more_end {t : Bool} {b : List UInt8} (h : RightM t b) : moreM t b true = (gg0, some ⟨1, t, 0, b⟩) := by
  unfold moreM
  rw [if_neg (by have := h.1; omega), if_neg, if_pos rfl]
  rintro ⟨ht, h2 | h2⟩
  · have h3 := h.2 ht
    have := txt_pre (a := b) (b := []) (by rw [List.append_nil]; exact h3)
    omega
  · rw [h.2 ht] at h2
    cases h2.2

/-! ### A message that is cut -/
def sizeM (most : Int) : Nat := if most < 1 then 1 else if 4096 < most then 4096 else most.toNat
theorem sizeM_in (most : Int) : 1 ≤ sizeM most ∧ sizeM most ≤ 4096 := by unfold sizeM; split <;> (try split) <;> omega
def opcM (t : Bool) : Nat := if t = true then 1 else 2
/-- Its frames: opcode, whether it is the last one, its bytes. -/
inductive CutM (n : Nat) : Nat → List UInt8 → List (Nat × Bool × List UInt8) → Prop
  | last {op : Nat} {b : List UInt8} : b.length ≤ n → CutM n op b [(op, true, b)]
  | more {op : Nat} {b : List UInt8} {l : List (Nat × Bool × List UInt8)} : n < b.length → CutM n 0 (b.drop n) l → CutM n op b ((op, false, b.take n) :: l)
def catM (l : List (Nat × Bool × List UInt8)) : List UInt8 := l.flatMap (·.2.2)
theorem catM_snoc (l : List (Nat × Bool × List UInt8)) {i : Nat} (h : i < l.length) : catM (l.take (i + 1)) = catM (l.take i) ++ l[i].2.2 := by
  unfold catM
  rw [List.take_succ_eq_append_getElem h, List.flatMap_append]
  simp
theorem catM_split (l : List (Nat × Bool × List UInt8)) (i : Nat) : catM (l.take i) ++ catM (l.drop i) = catM l := by
  unfold catM
  rw [← List.flatMap_append, List.take_append_drop]
theorem CutM.cat {n op : Nat} {b : List UInt8} {l : List (Nat × Bool × List UInt8)} (h : CutM n op b l) : catM l = b ∧ 0 < l.length := by
  induction h with
  | last _ => exact ⟨by simp [catM], by simp⟩
  | @more op b l h1 _ ih =>
    refine ⟨?_, by simp⟩
    unfold catM
    rw [List.flatMap_cons]
    have := ih.1
    unfold catM at this
    rw [this]
    exact List.take_append_drop n b
theorem CutM.count {n op : Nat} {b : List UInt8} {l : List (Nat × Bool × List UInt8)} (h : CutM n op b l) (hn : 1 ≤ n) : l.length ≤ b.length + 1 := by
  induction h with
  | last _ => simp
  | @more op b l h1 _ ih =>
    rw [List.length_drop] at ih
    rw [List.length_cons]
    omega
theorem CutM.get {n op : Nat} {b : List UInt8} {l : List (Nat × Bool × List UInt8)} (h : CutM n op b l) : ∀ i (hi : i < l.length), l[i].1 = (if i = 0 then op else 0) ∧ l[i].2.1 = decide (i + 1 = l.length) ∧ l[i].2.2.length ≤ n ∧ (i + 1 < l.length → l[i].2.2.length = n) ∧ (i + 1 = l.length → 0 < i → l[i].2.2 ≠ []) := by
  induction h with
  | @last op b h1 =>
    intro i hi
    obtain rfl : i = 0 := by simp at hi; omega
    exact ⟨rfl, rfl, h1, fun h => by simp at h, fun _ h => by omega⟩
  | @more op b l h1 h2 ih =>
    intro i hi
    cases i with
    | zero =>
      have h3 := h2.cat.2
      refine ⟨rfl, ?_, ?_, ?_, fun _ h => by omega⟩
      · symm
        apply decide_eq_false
        rw [List.length_cons]
        omega
      · show (b.take n).length ≤ n
        rw [List.length_take]; omega
      · intro _
        show (b.take n).length = n
        rw [List.length_take]; omega
    | succ i =>
      have hi' : i < l.length := by simp at hi; omega
      obtain ⟨e1, e2, e3, e4, e5⟩ := ih i hi'
      have eg : ((op, false, b.take n) :: l)[i + 1] = l[i] := rfl
      rw [eg]
      refine ⟨by rw [e1]; simp, by rw [e2]; simp, e3, fun h => e4 (by simpa using h), fun h _ => ?_⟩
      rcases Nat.eq_zero_or_pos i with h0 | h0
      · subst h0
        have hl1 : l.length = 1 := by simp at h; omega
        intro e
        have hc := h2.cat.1
        obtain ⟨x, rfl⟩ := List.length_eq_one_iff.1 hl1
        have e' : x.2.2 = [] := e
        simp only [catM, List.flatMap_cons, List.flatMap_nil, List.append_nil] at hc
        rw [e'] at hc
        have := congrArg List.length hc
        rw [List.length_drop] at this
        simp at this
        omega
      · exact e5 (by simpa using h) h0
theorem take_first {g : Gg} (hg : g.over = false ∧ g.busy = false) (t fin : Bool) (d : List UInt8) : takeM g (opcM t) fin d = moreM t d fin := by
  unfold takeM opcM
  rw [if_neg (by rw [hg.1]; simp)]
  cases t <;> simp [hg.2]
theorem take_nextM {B : List UInt8} (t fin : Bool) (d : List UInt8) : takeM ⟨B, true, t, false⟩ 0 fin d = moreM t (B ++ d) fin := by
  unfold takeM
  simp
/-- A message that may be is gathered as it was. -/
theorem CutM.step {t : Bool} {n : Nat} {b : List UInt8} {l : List (Nat × Bool × List UInt8)} (h : CutM n (opcM t) b l) (hr : RightM t b) {g : Gg} (hg : g.over = false ∧ g.busy = false) {i : Nat} (hi : i < l.length) :
    takeM (if i = 0 then g else ⟨catM (l.take i), true, t, false⟩) l[i].1 l[i].2.1 l[i].2.2 = if i + 1 = l.length then (gg0, some ⟨1, t, 0, b⟩) else (⟨catM (l.take (i + 1)), true, t, false⟩, none) := by
  obtain ⟨e1, e2, _⟩ := h.get i hi
  have hs := catM_snoc l hi
  have hm : takeM (if i = 0 then g else ⟨catM (l.take i), true, t, false⟩) l[i].1 l[i].2.1 l[i].2.2 = moreM t (catM (l.take (i + 1))) l[i].2.1 := by
    rw [e1]
    by_cases h0 : i = 0
    · subst h0
      rw [if_pos rfl, if_pos rfl, take_first hg, hs]
      simp [catM]
    · rw [if_neg h0, if_neg h0, take_nextM, hs]
  rw [hm, e2]
  by_cases hl : i + 1 = l.length
  · rw [if_pos hl, decide_eq_true hl, hl, List.take_length, h.cat.1]
    exact more_end hr
  · rw [if_neg hl, decide_eq_false hl]
    exact more_on (z := catM (l.drop (i + 1))) (by rw [catM_split, h.cat.1]; exact hr)
theorem take_over {g : Gg} (hg : g.over = true) (op : Nat) (fin : Bool) (d : List UInt8) : takeM g op fin d = (g, none) := if_pos hg

/-! ### A close that is made -/
/-- The greatest beginning of at most n bytes that is a text. -/
def cutR (s : List UInt8) : Nat → List UInt8
  | 0 => []
  | n + 1 => if txtB (nats (s.take (n + 1))) = true then s.take (n + 1) else cutR s n
/-- What has room of a reason. -/
def reasonM (s : List UInt8) : List UInt8 := if txtB (nats s) = true then cutR s (min s.length 123) else []
theorem cutR_in (s : List UInt8) : ∀ n, txtB (nats (cutR s n)) = true ∧ (cutR s n).length ≤ n := by
  intro n
  induction n with
  | zero => exact ⟨rfl, Nat.le_refl _⟩
  | succ n ih =>
    unfold cutR
    split
    · rename_i h
      exact ⟨h, by rw [List.length_take]; omega⟩
    · exact ⟨ih.1, by omega⟩
theorem reasonM_in (s : List UInt8) : txtB (nats (reasonM s)) = true ∧ (reasonM s).length ≤ 123 := by
  unfold reasonM
  split
  · have h := cutR_in s (min s.length 123)
    exact ⟨h.1, by omega⟩
  · exact ⟨rfl, by simp⟩
def closeB (code : Nat) (s : List UInt8) : List UInt8 := if ToldM code then UInt8.ofNat (code / 256) :: UInt8.ofNat (code % 256) :: reasonM s else []
theorem closeB_len (code : Nat) (s : List UInt8) : (closeB code s).length ≤ 125 := by
  unfold closeB
  split
  · have := (reasonM_in s).2
    simp only [List.length_cons]
    omega
  · simp
theorem close_made (code : Nat) (s : List UInt8) : closeM (closeB code s) = if ToldM code then (ggX, some ⟨4, false, code, reasonM s⟩) else (ggX, some ⟨4, false, 1005, []⟩) := by
  unfold closeB
  by_cases h : ToldM code
  · rw [if_pos h, if_pos h]
    have h5 : code < 5000 := h.2.1
    have hc : codeM (UInt8.ofNat (code / 256) :: UInt8.ofNat (code % 256) :: reasonM s) = code := by
      unfold codeM
      simp only [UInt8.toNat_ofNat']
      omega
    unfold closeM
    rw [if_neg (by simp), if_neg (by simp), hc, if_neg (fun h1 => h1 h)]
    have hd : (UInt8.ofNat (code / 256) :: UInt8.ofNat (code % 256) :: reasonM s).drop 2 = reasonM s := rfl
    rw [hd, (reasonM_in s).1, if_neg (by simp)]
  · rw [if_neg h, if_neg h]
    rfl
end Go.Proofs.YtdegpchofhnipaaDoor
