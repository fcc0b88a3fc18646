/-
  Streams that send, in a list: where one stands, which can send. No program; no conditions but those that each theorem names.
-/
import Derived.Test.YtplohgaecoobaaaBytes
namespace Go.Proofs.Ytplohgaecoobaaa

/-- A stream: its number, the bytes that wait, whether its end is told, whether it was sent, its window. -/
structure Sn where
  st : Nat
  b : List UInt8
  en : Bool
  ov : Bool
  lf : Int
/-- What the program's numbers let a stream be. -/
structure Sn.Ok (x : Sn) : Prop where
  st : x.st < 4294967296
  lf : -2147483648 ≤ x.lf ∧ x.lf ≤ 2147483647
/-- The place of the first one of that number; the list's length, if there is none. -/
def fd (s : Nat) : List Sn → Nat
  | [] => 0
  | x :: L => if x.st = s then 0 else fd s L + 1
def fdI (s : Nat) (L : List Sn) : Int := if fd s L < L.length then (fd s L : Int) else -1
theorem fd_le (s : Nat) : ∀ L : List Sn, fd s L ≤ L.length
  | [] => Nat.le_refl _
  | x :: L => by
    unfold fd
    split
    · omega
    · have := fd_le s L
      simp only [List.length_cons]; omega
theorem fd_hit {s : Nat} : ∀ {L : List Sn} {k : Nat} (hk : k < L.length), k ≤ fd s L → L[k].st = s → fd s L = k
  | x :: L, 0, _, _, h => by
    have h' : x.st = s := h
    unfold fd; rw [if_pos h']
  | x :: L, k + 1, hk, hle, h => by
    unfold fd at hle ⊢
    split at hle
    · omega
    · rename_i hx
      rw [if_neg hx, fd_hit (L := L) (k := k) (by simpa using hk) (by omega) h]
theorem fd_more {s : Nat} : ∀ {L : List Sn} {k : Nat} (hk : k < L.length), k ≤ fd s L → L[k].st ≠ s → k + 1 ≤ fd s L
  | x :: L, 0, _, _, h => by
    have h' : ¬ x.st = s := h
    unfold fd; rw [if_neg h']; omega
  | x :: L, k + 1, hk, hle, h => by
    unfold fd at hle ⊢
    split at hle
    · omega
    · rename_i hx
      rw [if_neg hx]
      have := fd_more (L := L) (k := k) (by simpa using hk) (by omega) h
      omega
theorem fd_at {s : Nat} : ∀ {L : List Sn} (h : fd s L < L.length), L[fd s L].st = s
  | x :: L, h => by
    by_cases hx : x.st = s
    · have e : fd s (x :: L) = 0 := by rw [fd, if_pos hx]
      simp only [e]; exact hx
    · have e : fd s (x :: L) = fd s L + 1 := by rw [fd, if_neg hx]
      simp only [e] at h ⊢
      exact fd_at (by simpa using h)
/-- May a stream send, as far as the ring's window lets? -/
def can (l : Int) (x : Sn) : Bool := if x.b = [] then x.en && !x.ov else decide (0 < x.lf) && decide (0 < l)
end Go.Proofs.Ytplohgaecoobaaa
