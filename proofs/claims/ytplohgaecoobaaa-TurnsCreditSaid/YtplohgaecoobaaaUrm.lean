/-
  A ring's operations as functions of a model; the document's Open, Put, Drop, Grow by contracts in its terms. Conditions: those that each theorem names.
-/
import Derived.Test.YtplohgaecoobaaaUmo
import Derived.Test.YtplohgaecoobaaaUnx
import Derived.Test.YtplohgaecoobaaaUdr
import Derived.Test.YtplohgaecoobaaaUsh
namespace Go.Proofs.Ytplohgaecoobaaa
open Go.RowKit Go.WideShapes

/-- A ring: its streams in its order, its turn, its window. -/
structure Rm where
  l : List Sn
  t : Nat
  w : Int
structure Rm.Ok (m : Rm) : Prop where
  uq : Uniq m.l
  tn : m.t < m.l.length ∨ m.l = [] ∧ m.t = 0
  lf : LfOk m.l
  wn : -2147483648 ≤ m.w ∧ m.w ≤ 2147483647
  st : ∀ x ∈ m.l, 0 < x.st ∧ x.st < 4294967296
theorem Rm.Ok.le {m : Rm} (h : m.Ok) : m.t ≤ m.l.length := by
  rcases h.tn with h | ⟨h1, h2⟩
  · omega
  · omega
theorem Rm.Ok.lt {m : Rm} (h : m.Ok) (h0 : 0 < m.l.length) : m.t < m.l.length := by
  rcases h.tn with h | ⟨h1, h2⟩
  · exact h
  · rw [h1] at h0; simp at h0
def rmNew (l : Int) : Rm := ⟨[], 0, btw l⟩
def rmOpen (m : Rm) (s : Nat) (lf : Int) : Rm × Bool := if s = 0 ∨ fd s m.l < m.l.length then (m, false) else (⟨m.l ++ [⟨s, [], false, false, btw lf⟩], m.t, m.w⟩, true)
def rmPut (m : Rm) (s : Nat) (b : List UInt8) (en : Bool) : Rm × Bool :=
  match m.l[fd s m.l]? with
  | none => (m, false)
  | some x => if x.en then (m, false) else (⟨m.l.set (fd s m.l) { x with b := x.b ++ b, en := en }, m.t, m.w⟩, true)
def rmGrow (m : Rm) (s : Nat) (n : Nat) : Rm × Int :=
  if s = 0 then (⟨m.l, m.t, gwN m.w n⟩, gwS m.w n false false)
  else match m.l[fd s m.l]? with
    | none => (m, 0)
    | some x => (⟨m.l.set (fd s m.l) { x with lf := gwN x.lf n }, m.t, m.w⟩, gwS x.lf n true false)
/-- The turn behind a drop of place k. -/
def drT (n t k : Nat) : Nat := if k < t then t - 1 else if t + 1 = n then 0 else t
def rmDrop (m : Rm) (s : Nat) : Rm := if fd s m.l < m.l.length then ⟨m.l.take (fd s m.l) ++ m.l.drop (fd s m.l + 1), drT m.l.length m.t (fd s m.l), m.w⟩ else m
theorem rot_snoc (l : List Sn) {t : Nat} (ht : t ≤ l.length) (y : Sn) : (rot l t).take (l.length - t) ++ [y] ++ (rot l t).drop (l.length - t) = rot (l ++ [y]) t := by
  unfold rot
  have h1 : (l.drop t).length = l.length - t := by simp
  rw [← h1, List.take_left, List.drop_left, List.drop_append_of_le_length ht, List.take_append_of_le_length ht]
theorem rot_drop {l : List Sn} {t k : Nat} (ht : t < l.length) (hk : k < l.length) : (rot l t).take (rp l.length t k) ++ (rot l t).drop (rp l.length t k + 1) = rot (l.take k ++ l.drop (k + 1)) (drT l.length t k) := by
  have h1 : (l.drop t).length = l.length - t := by simp
  have h2 : (l.take k).length = k := by simp; omega
  have h3 : (l.take t).length = t := by simp; omega
  unfold rot rp drT
  by_cases h : t ≤ k
  · rw [if_pos h, if_neg (by omega), List.take_append_of_le_length (by omega), List.drop_append_of_le_length (by omega), List.drop_drop]
    by_cases hl : t + 1 = l.length
    · rw [if_pos hl, List.drop_zero, List.take_zero, List.append_nil]
      obtain rfl : k = t := by omega
      rw [Nat.sub_self, List.take_zero, List.nil_append, List.drop_of_length_le (by omega : l.length ≤ k + (0 + 1))]
      simp
    · rw [if_neg hl, List.drop_append_of_le_length (by omega), List.take_append_of_le_length (by omega), List.drop_take, List.take_take, Nat.min_eq_left h, List.append_assoc]
      have e : t + (k - t + 1) = k + 1 := by omega
      rw [e]
  · rw [if_neg h, if_pos (by omega)]
    have a1 : (l.drop t ++ l.take t).take (l.length - t + k) = l.drop t ++ l.take k := by
      rw [List.take_append, h1, List.take_of_length_le (by omega : (l.drop t).length ≤ l.length - t + k), show l.length - t + k - (l.length - t) = k by omega, List.take_take, Nat.min_eq_left (by omega)]
    have a2 : (l.drop t ++ l.take t).drop (l.length - t + k + 1) = (l.take t).drop (k + 1) := by
      rw [List.drop_append, h1, List.drop_of_length_le (by omega : (l.drop t).length ≤ l.length - t + k + 1), List.nil_append, show l.length - t + k + 1 - (l.length - t) = k + 1 by omega]
    have b1 : (l.take k ++ l.drop (k + 1)).drop (t - 1) = l.drop t := by
      rw [List.drop_append, h2, List.drop_of_length_le (by omega : (l.take k).length ≤ t - 1), List.nil_append, List.drop_drop, show k + 1 + (t - 1 - k) = t by omega]
    have b2 : (l.take k ++ l.drop (k + 1)).take (t - 1) = l.take k ++ (l.drop (k + 1)).take (t - 1 - k) := by
      rw [List.take_append, h2, List.take_of_length_le (by omega : (l.take k).length ≤ t - 1)]
    rw [a1, a2, b1, b2, List.drop_take, List.append_assoc, show t - (k + 1) = t - 1 - k by omega]
/-- A ring that is read, its streams within blocks of S. -/
structure RgS (w : World) (S : Nat → Prop) (A : Option Addr) (c : Nat) (L : List Sn) : Prop where
  rd : RdS w (fun b => S b ∧ b < w.heap.size) A (enl snl L)
  len : L.length ≤ c
  bd : L.length ≤ 1000000
theorem RgS.rg {w : World} {S : Nat → Prop} {A : Option Addr} {c : Nat} {L : List Sn} (h : RgS w S A c L) : Rg w A c L := ⟨h.rd.imp fun _ hg _ => hg.2, h.len, h.bd⟩
theorem RgS.up {w w' : World} {S S' : Nat → Prop} {A : Option Addr} {c : Nat} {L : List Sn} (h : RgS w S A c L) (hb : Below w.heap.size w w') : RgS w' (fun b => S b ∨ S' b) A c L :=
  ⟨(h.rd.keep fun g hg => hb.block g hg.2).imp fun _ hg _ => ⟨.inl hg.1, Nat.lt_of_lt_of_le hg.2 hb.size⟩, h.len, h.bd⟩
theorem RgS.ofN {w : World} {S : Nat → Prop} {B : Nat} {A : Option Addr} {c : Nat} {L : List Sn} (h : Rn w B A c L) : RgS w (fun b => S b ∨ B ≤ b) A c L :=
  ⟨h.rd.imp fun _ hg _ => ⟨.inr hg.1, hg.2⟩, h.len, h.bd⟩
/-- What the document's call leaves, in the model's terms. -/
def RP1 (w : World) (S : Nat → Prop) (m : Rm) (e : Ending) (w' : World) : Prop := ∃ A c, e = .returned (.agg (rrc A m.l.length c m.t m.w)) ∧ RgS w' (fun b => S b ∨ w.heap.size ≤ b) A c (rot m.l m.t) ∧ Below w.heap.size w w'
def RP2 (w : World) (S : Nat → Prop) (m : Rm) (v : Value) (e : Ending) (w' : World) : Prop := ∃ A c, e = .returned (.tuple #[.agg (rrc A m.l.length c m.t m.w), v]) ∧ RgS w' (fun b => S b ∨ w.heap.size ≤ b) A c (rot m.l m.t) ∧ Below w.heap.size w w'
attribute [local irreducible] snc rrc
theorem at_of {l : List Sn} {s : Nat} {x : Sn} (h : l[fd s l]? = some x) : ∃ h1 : fd s l < l.length, l[fd s l] = x := List.getElem?_eq_some_iff.1 h
theorem none_of {l : List Sn} {s : Nat} (h : l[fd s l]? = none) : ¬ fd s l < l.length := fun h1 => by rw [List.getElem?_eq_getElem h1] at h; cases h
theorem rmNew_ok (l : Int) : (rmNew l).Ok := ⟨fun i j x y h => by simp [rmNew] at h, .inr ⟨rfl, rfl⟩, fun x hx => by simp [rmNew] at hx, btw_in l, fun x hx => by simp [rmNew] at hx⟩
theorem openM {w : World} {S : Nat → Prop} {A : Option Addr} {c : Nat} {m : Rm} (hm : m.Ok) (h : RgS w S A c (rot m.l m.t)) (s : Nat) (lf : Int) (hL : m.l.length ≤ 100000) :
    Calls Try.prog 28 #[.agg (rrc A m.l.length c m.t m.w), .int .u32 s, .int .i64 lf] w (RP2 w S (rmOpen m s lf).1 (.bool (rmOpen m s lf).2)) := by
  have hle := hm.le
  unfold rmOpen
  by_cases hno : s = 0 ∨ fd s m.l < m.l.length
  · rw [if_pos hno]
    have h1 : s = 0 ∨ fd s (rot m.l m.t) < (rot m.l m.t).length := by
      rcases hno with h0 | h0
      · exact .inl h0
      · right
        rw [rot_len, fd_rot hm.uq (hm.lt (by omega)) h0]
        exact rp_lt (hm.lt (by omega)) h0
    have h2 := ropen_no (f := m.t) (l := m.w) h.rg s lf h1
    rw [rot_len] at h2
    exact h2.mono fun e w' ⟨h3, h4⟩ => ⟨A, c, h3, h.up h4, h4⟩
  · rw [if_neg hno]
    have h2 := ropen_yes (f := m.t) (l := m.w) h.rg s lf (fun e => hno (.inl e)) (fd_rot_no fun e => hno (.inr e)) (by rw [rot_len]; exact hle) (by rw [rot_len]; exact hL)
    rw [rot_len, rot_snoc _ hle] at h2
    refine h2.mono fun e w' ⟨A', c', h3, h4, h5⟩ => ⟨A', c', ?_, RgS.ofN h4, h5⟩
    rw [h3, rot_len]
theorem putM {w : World} {S : Nat → Prop} {A : Option Addr} {c : Nat} {m : Rm} (hm : m.Ok) (h : RgS w S A c (rot m.l m.t)) (s : Nat) (b : List UInt8) (en : Bool) (hb : ∀ x ∈ m.l, x.b.length ≤ 1000000) (hb1 : b.length ≤ 1000000) :
    Calls Try.prog 29 #[.agg (rrc A m.l.length c m.t m.w), .int .u32 s, .string (tb b), .bool en] w (RP2 w S (rmPut m s b en).1 (.bool (rmPut m s b en).2)) := by
  unfold rmPut
  cases hx : m.l[fd s m.l]? with
  | none =>
    have h1 := fd_rot_no (t := m.t) (none_of hx)
    have h2 := rput_no (f := m.t) (l := m.w) h.rg s b en (fun hi => absurd hi h1)
    rw [rot_len] at h2
    exact h2.mono fun e w' ⟨h3, h4⟩ => ⟨A, c, h3, h.up h4, h4⟩
  | some x =>
    obtain ⟨hi, hxe⟩ := at_of hx
    have ht := hm.lt (by omega)
    have hf := fd_rot hm.uq ht hi
    have hri : fd s (rot m.l m.t) < (rot m.l m.t).length := by rw [rot_len, hf]; exact rp_lt ht hi
    have hrx : (rot m.l m.t)[fd s (rot m.l m.t)] = x := by
      have h1 := rot_rp ht hi
      rw [← hf, hx, List.getElem?_eq_getElem hri] at h1
      exact Option.some.inj h1
    by_cases hen : x.en = true
    · simp only [hen, if_true]
      have h2 := rput_no (f := m.t) (l := m.w) h.rg s b en (fun _ => by rw [hrx]; exact hen)
      rw [rot_len] at h2
      exact h2.mono fun e w' ⟨h3, h4⟩ => ⟨A, c, h3, h.up h4, h4⟩
    · simp only [hen, Bool.false_eq_true, if_false]
      have hen' : x.en = false := by simpa using hen
      have hbx : x.b.length ≤ 1000000 := hb x (by rw [← hxe]; exact List.getElem_mem hi)
      have h2 := rput_yes (f := m.t) (l := m.w) h.rg s b en hri hrx hen' hbx hb1
      rw [hf, rot_set ht hi, rot_len] at h2
      refine h2.mono fun e w' ⟨A', c', h3, h4, h5⟩ => ⟨A', c', ?_, RgS.ofN h4, h5⟩
      rw [h3, rot_len]
theorem dropM {w : World} {S : Nat → Prop} {A : Option Addr} {c : Nat} {m : Rm} (hm : m.Ok) (h : RgS w S A c (rot m.l m.t)) (s : Nat) :
    Calls Try.prog 34 #[.agg (rrc A m.l.length c m.t m.w), .int .u32 s] w (RP1 w S (rmDrop m s)) := by
  unfold rmDrop
  by_cases hi : fd s m.l < m.l.length
  · rw [if_pos hi]
    have ht := hm.lt (by omega)
    have hf := fd_rot hm.uq ht hi
    have hri : fd s (rot m.l m.t) < (rot m.l m.t).length := by rw [rot_len, hf]; exact rp_lt ht hi
    have hlen : (m.l.take (fd s m.l) ++ m.l.drop (fd s m.l + 1)).length = (rot m.l m.t).length - 1 := by
      rw [rot_len]
      simp only [List.length_append, List.length_take, List.length_drop]
      omega
    have fin : ∀ (F : Nat), F = drT m.l.length m.t (fd s m.l) → Calls Try.prog 34 #[.agg (rrc A (rot m.l m.t).length c m.t m.w), .int .u32 s] w (MadeR w ((rot m.l m.t).take (fd s (rot m.l m.t)) ++ (rot m.l m.t).drop (fd s (rot m.l m.t) + 1)) F m.w) →
        Calls Try.prog 34 #[.agg (rrc A m.l.length c m.t m.w), .int .u32 s] w (RP1 w S ⟨m.l.take (fd s m.l) ++ m.l.drop (fd s m.l + 1), drT m.l.length m.t (fd s m.l), m.w⟩) := by
      intro F hF h2
      subst hF
      rw [hf, rot_drop ht hi, rot_len] at h2
      refine h2.mono fun e w' ⟨A', c', h3, h4, h5⟩ => ⟨A', c', ?_, RgS.ofN h4, h5⟩
      rw [h3, rot_len]
    by_cases hk : m.t ≤ fd s m.l
    · refine fin _ rfl (rdrop_lo (f := m.t) (l := m.w) (D := m.l.length - m.t) (G := m.t) h.rg s hri (by rw [rot_len]; omega) rfl ?_ ?_)
      · rw [hf]; unfold rp; rw [if_pos hk]; omega
      · unfold drT
        rw [rot_len, if_neg (by omega)]
        constructor
        · intro e; rw [if_pos (by omega)]
        · intro e; rw [if_neg (by omega)]
    · refine fin _ rfl (rdrop_hi (f := m.t) (l := m.w) (D := m.l.length - m.t) (G := m.t - 1) h.rg s hri (by rw [rot_len]; omega) (by omega) ?_ ?_)
      · rw [hf]; unfold rp; rw [if_neg hk]; omega
      · unfold drT
        rw [rot_len, if_pos (by omega)]
        constructor
        · intro e; omega
        · intro e; rfl
  · rw [if_neg hi]
    have h2 := rdrop_no (f := m.t) (l := m.w) h.rg s (fd_rot_no hi)
    rw [rot_len] at h2
    exact h2.mono fun e w' ⟨h3, h4⟩ => ⟨A, c, h3, h.up h4, h4⟩
theorem growM {w : World} {S : Nat → Prop} {A : Option Addr} {c : Nat} {m : Rm} (hm : m.Ok) (h : RgS w S A c (rot m.l m.t)) (s n : Nat) (hn : n < 4294967296) :
    Calls Try.prog 31 #[.agg (rrc A m.l.length c m.t m.w), .int .u32 s, .int .u32 n] w (RP2 w S (rmGrow m s n).1 (.int .i64 (rmGrow m s n).2)) := by
  unfold rmGrow
  by_cases h0 : s = 0
  · rw [if_pos h0]
    subst h0
    have h2 := rgrow_ring (w := w) (A := A) (c := c) (f := m.t) m.l.length n hm.wn hn
    exact h2.mono fun e w' ⟨h3, h4⟩ => ⟨A, c, h3, h.up h4, h4⟩
  · rw [if_neg h0]
    cases hx : m.l[fd s m.l]? with
    | none =>
      have h2 := rgrow_none (f := m.t) (l := m.w) h.rg s n h0 (fd_rot_no (none_of hx))
      rw [rot_len] at h2
      exact h2.mono fun e w' ⟨h3, h4⟩ => ⟨A, c, h3, h.up h4, h4⟩
    | some x =>
      obtain ⟨hi, hxe⟩ := at_of hx
      have ht := hm.lt (by omega)
      have hf := fd_rot hm.uq ht hi
      have hri : fd s (rot m.l m.t) < (rot m.l m.t).length := by rw [rot_len, hf]; exact rp_lt ht hi
      have hrx : (rot m.l m.t)[fd s (rot m.l m.t)] = x := by
        have h1 := rot_rp ht hi
        rw [← hf, hx, List.getElem?_eq_getElem hri] at h1
        exact Option.some.inj h1
      have h2 := rgrow_some (f := m.t) (l := m.w) h.rg s n h0 hri hrx (hm.lf x (by rw [← hxe]; exact List.getElem_mem hi)) hn
      rw [hf, rot_set ht hi, rot_len] at h2
      refine h2.mono fun e w' ⟨A', c', h3, h4, h5⟩ => ⟨A', c', ?_, RgS.ofN h4, h5⟩
      rw [h3, rot_len]
/-- All windows shifted, in the ring's order. -/
def shL (d : Int) : List Sn → List Sn × Int
  | [] => ([], 0)
  | x :: r => if 2147483647 < x.lf + d then (x :: r, 1) else ({ x with lf := gwN x.lf d } :: (shL d r).1, (shL d r).2)
theorem shL_len (d : Int) : ∀ l : List Sn, (shL d l).1.length = l.length
  | [] => rfl
  | x :: r => by
    unfold shL
    split
    · rfl
    · simp only [List.length_cons, shL_len d r]
def rmShift (m : Rm) (d : Int) : Rm × Int := (⟨(shL d m.l).1, m.t, m.w⟩, (shL d m.l).2)
theorem rp_mod {n t k : Nat} (ht : t < n) (hk : k < n) : (n - t + k) % n = rp n t k := by
  unfold rp
  split
  · rw [Nat.mod_eq_sub_mod (by omega), Nat.mod_eq_of_lt (by omega)]
    omega
  · rw [Nat.mod_eq_of_lt (by omega)]
theorem shR_rot (d : Int) {n t : Nat} (ht : t < n) : ∀ (k : Nat) (l : List Sn), l.length = n → k ≤ n →
    shR d (n - t) n (n - k) k (rot l t) = (rot (l.take k ++ (shL d (l.drop k)).1) t, (shL d (l.drop k)).2) := by
  intro k l hl hk
  obtain ⟨j, hj⟩ : ∃ j, j = n - k := ⟨_, rfl⟩
  induction j generalizing k l with
  | zero =>
    obtain rfl : k = n := by omega
    rw [Nat.sub_self, List.drop_of_length_le (by omega), List.take_of_length_le (by omega)]
    unfold shR shL
    rw [List.append_nil]
  | succ j ih =>
    have hkl : k < l.length := by omega
    have hx : (rot l t)[(n - t + k) % n]? = some l[k] := by
      rw [rp_mod ht (by omega), ← hl, rot_rp (by omega) hkl]
      exact List.getElem?_eq_getElem hkl
    have hd : l.drop k = l[k] :: l.drop (k + 1) := List.drop_eq_getElem_cons hkl
    have hnk : n - k = (n - (k + 1)) + 1 := by omega
    by_cases hg : 2147483647 < l[k].lf + d
    · rw [hnk, shR_stop hx hg, hd]
      have e : shL d (l[k] :: l.drop (k + 1)) = (l[k] :: l.drop (k + 1), 1) := by rw [shL, if_pos hg]
      rw [e, ← hd, List.take_append_drop]
    · have hs := ih (k + 1) (l.set k { l[k] with lf := gwN l[k].lf d }) (by rw [List.length_set]; exact hl) (by omega) (by omega)
      rw [hnk, shR_more hx hg, rp_mod ht (by omega)]
      have hset : (rot l t).set (rp n t k) { l[k] with lf := gwN l[k].lf d } = rot (l.set k { l[k] with lf := gwN l[k].lf d }) t := by
        rw [← hl]
        exact rot_set (by omega) hkl _
      rw [hset, hs, hd]
      have e : shL d (l[k] :: l.drop (k + 1)) = ({ l[k] with lf := gwN l[k].lf d } :: (shL d (l.drop (k + 1))).1, (shL d (l.drop (k + 1))).2) := by rw [shL, if_neg hg]
      have e2 : (l.set k { l[k] with lf := gwN l[k].lf d }).drop (k + 1) = l.drop (k + 1) := by rw [List.drop_set_of_lt (by omega)]
      have e3 : (l.set k { l[k] with lf := gwN l[k].lf d }).take (k + 1) = l.take k ++ [{ l[k] with lf := gwN l[k].lf d }] := by
        rw [List.take_set, List.take_succ_eq_append_getElem hkl, List.set_append_right _ _ (by simp; omega)]
        simp [Nat.min_eq_left (Nat.le_of_lt hkl)]
      rw [e, e2, e3, List.append_assoc, List.singleton_append]
theorem shiftM {w : World} {S : Nat → Prop} {A : Option Addr} {c : Nat} {m : Rm} (hm : m.Ok) (h : RgS w S A c (rot m.l m.t)) (a b : Nat) (ha : a < 4294967296) (hb : b < 4294967296) :
    Calls Try.prog 33 #[.agg (rrc A m.l.length c m.t m.w), .int .u32 a, .int .u32 b] w (RP2 w S (rmShift m ((b : Int) - a)).1 (.int .i64 (rmShift m ((b : Int) - a)).2)) := by
  have hle := hm.le
  have hlf : LfOk (rot m.l m.t) := fun x hx => hm.lf x (rot_mem.1 hx)
  have h2 := rshift_any (f := m.t) (l := m.w) h.rg a b (m.l.length - m.t) ha hb (by rw [rot_len]; omega) hlf
  rw [rot_len] at h2
  have e : shR ((b : Int) - a) (m.l.length - m.t) m.l.length m.l.length 0 (rot m.l m.t) = (rot (shL ((b : Int) - a) m.l).1 m.t, (shL ((b : Int) - a) m.l).2) := by
    rcases hm.tn with ht | ⟨h1, h3⟩
    · have h4 := shR_rot ((b : Int) - a) ht 0 m.l rfl (Nat.zero_le _)
      rw [Nat.sub_zero] at h4
      rw [h4, List.drop_zero, List.take_zero, List.nil_append]
    · rw [h1, h3]
      rfl
  rw [e] at h2
  refine h2.mono fun e w' ⟨A', c', h3, h4, h5, h6⟩ => ?_
  have hlen : (shL ((b : Int) - a) m.l).1.length = m.l.length := shL_len _ _
  unfold rmShift
  refine ⟨A', c', ?_, ?_, h6⟩
  · rw [h3]
    show _ = Ending.returned (.tuple #[.agg (rrc A' (shL ((b : Int) - a) m.l).1.length c' m.t m.w), _])
    rw [rot_len, hlen]
  · rcases h4 with ⟨rfl, rfl, h7⟩ | h7
    · show RgS w' (fun b => S b ∨ w.heap.size ≤ b) A' c' (rot (shL ((b : Int) - a) m.l).1 m.t)
      have h8 : rot (shL ((b : Int) - a) m.l).1 m.t = rot m.l m.t := h7
      rw [h8]
      exact h.up h6
    · exact RgS.ofN h7
/-- What is sent next: the stream, how many bytes of it, the ring behind that. -/
def rmNext (m : Rm) (most : Int) : Option (Sn × Nat × Rm) :=
  match (rot m.l m.t)[fc m.w (rot m.l m.t)]? with
  | none => none
  | some x => some (x, snN m.w most x, ⟨m.l.set ((m.t + fc m.w (rot m.l m.t)) % m.l.length) (snY (snN m.w most x) x), ((m.t + fc m.w (rot m.l m.t)) % m.l.length + 1) % m.l.length, m.w - snN m.w most x⟩)
/-- What the document's Next leaves, in the model's terms. -/
def RPN (w : World) (S : Nat → Prop) (m : Rm) (r : Option (Sn × Nat × Rm)) (e : Ending) (w' : World) : Prop :=
  match r with
  | none => ∃ A c, e = .returned (.tuple #[.agg (rrc A m.l.length c m.t m.w), .int .u32 0, .string (tb []), .bool false, .bool false]) ∧ RgS w' (fun b => S b ∨ w.heap.size ≤ b) A c (rot m.l m.t) ∧ Below w.heap.size w w'
  | some (x, N, m') => ∃ A c, e = .returned (.tuple #[.agg (rrc A m'.l.length c m'.t m'.w), .int .u32 x.st, .string (tb (x.b.take N)), .bool (snY N x).ov, .bool true]) ∧ RgS w' (fun b => S b ∨ w.heap.size ≤ b) A c (rot m'.l m'.t) ∧ Below w.heap.size w w'
theorem nextM {w : World} {S : Nat → Prop} {A : Option Addr} {c : Nat} {m : Rm} (hm : m.Ok) (h : RgS w S A c (rot m.l m.t)) (most : Int) (hb : ∀ x ∈ m.l, x.b.length ≤ 1000000) :
    Calls Try.prog 30 #[.agg (rrc A m.l.length c m.t m.w), .int .i64 most] w (RPN w S m (rmNext m most)) := by
  have hle := hm.le
  have h2 := rnext_any (f := m.t) (l := m.w) h.rg most (by rw [rot_len]; exact hle) hm.wn (fun x hx => ⟨hm.lf x (rot_mem.1 hx), hb x (rot_mem.1 hx)⟩)
  rw [rot_len] at h2
  refine h2.mono fun e w' hp => ?_
  unfold rmNext
  cases hx : (rot m.l m.t)[fc m.w (rot m.l m.t)]? with
  | none =>
    have h3 : fc m.w (rot m.l m.t) = (rot m.l m.t).length := by
      have h4 := fc_le m.w (rot m.l m.t)
      have h5 : ¬ fc m.w (rot m.l m.t) < (rot m.l m.t).length := fun h1 => by rw [List.getElem?_eq_getElem h1] at hx; cases hx
      omega
    obtain ⟨h4, h5⟩ := hp.1 h3
    rw [rot_len] at h4
    exact ⟨A, c, h4, h.up h5, h5⟩
  | some x =>
    obtain ⟨A', c', h3, h4, h5⟩ := hp.2 _ x hx rfl
    have hi : fc m.w (rot m.l m.t) < m.l.length := by rw [← rot_len m.l m.t]; exact (List.getElem?_eq_some_iff.1 hx).1
    have ht := hm.lt (by omega)
    obtain ⟨k, hk, hrk, hke⟩ := rp_inv ht hi
    rw [← hke]
    refine ⟨A', c', ?_, ?_, h5⟩
    · rw [h3, rot_len]
      show Ending.returned (.tuple #[.agg (rrc A' m.l.length c' _ _), _, _, _, _]) = .returned (.tuple #[.agg (rrc A' (m.l.set k _).length c' _ _), _, _, _, _])
      rw [List.length_set]
      have e1 : (m.t + (fc m.w (rot m.l m.t) + 1) % m.l.length) % m.l.length = (k + 1) % m.l.length := by
        rw [hke, Nat.add_mod_mod, Nat.mod_add_mod, Nat.add_assoc]
      rw [e1]
    · show RgS w' (fun b => S b ∨ w.heap.size ≤ b) A' c' (rot (m.l.set k _) ((k + 1) % m.l.length))
      have e1 : (m.t + (fc m.w (rot m.l m.t) + 1) % m.l.length) % m.l.length = (k + 1) % m.l.length := by
        rw [hke, Nat.add_mod_mod, Nat.mod_add_mod, Nat.add_assoc]
      have hs : (rot m.l m.t).set (fc m.w (rot m.l m.t)) (snY (snN m.w most x) x) = rot (m.l.set k (snY (snN m.w most x) x)) m.t := by
        rw [← hrk]; exact rot_set ht hk _
      have hr := rot_rot (m.l.set k (snY (snN m.w most x) x)) (t := m.t) (M := (fc m.w (rot m.l m.t) + 1) % m.l.length) (by rw [List.length_set]; exact ht) (by rw [List.length_set]; exact Nat.mod_lt _ (by omega))
      rw [List.length_set, e1] at hr
      rw [rot_len, hs, hr] at h4
      exact RgS.ofN h4
end Go.Proofs.Ytplohgaecoobaaa
