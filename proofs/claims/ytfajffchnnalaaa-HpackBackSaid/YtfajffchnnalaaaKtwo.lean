/-
  Two encoders side by side; how long a block is at most. No conditions but those that each theorem names.
-/
import Derived.Test.YtfajffchnnalaaaKfix
namespace Go.Proofs.Ytfajffchnnalaaa
open Go.RowKit Go.WideShapes

/-- An encoder's blocks. -/
def EB (ge g : Nat) (v : Value) (k : Nat) : Prop := k = ge ∨ k = g ∨ ob v k
def Dis (S T : Nat → Prop) : Prop := ∀ k, S k → ¬ T k
section
variable {w w' : World} {B ge g : Nat} {v v' : Value} {L : List Fd} {M : Nat} {lim : Bool} {low : Nat} {S T : Nat → Prop}
theorem Dis.symm (h : Dis S T) : Dis T S := fun k h1 h2 => h k h2 h1
theorem En.eb (h : En w B ge g v L M lim low) {k : Nat} (hk : EB ge g v k) : B ≤ k ∧ k < w.heap.size := by
  rcases hk with rfl | rfl | hk
  · exact ⟨h.lo, h.lt⟩
  · exact ⟨h.t.low, h.t.lt⟩
  · exact h.vlt hk
theorem EB.next (hN : Nx w v v') {k : Nat} (hk : EB ge g v' k) : EB ge g v k ∨ w.heap.size ≤ k := by
  rcases hk with rfl | rfl | hk
  · exact .inl (.inl rfl)
  · exact .inl (.inr (.inl rfl))
  · rcases hN.own hk with h | h
    · exact .inl (.inr (.inr h))
    · exact .inr h
theorem En.dis (h : En w B ge g v L M lim low) (hF : Fs S w w') (hd : Dis (EB ge g v) S) : En w' B ge g v L M lim low :=
  h.apart hF (hd _ (.inl rfl)) (hd _ (.inr (.inl rfl))) fun k hk => hd k (.inr (.inr hk))
theorem Dis.next (h : Dis (EB ge g v) T) (hN : Nx w v v') (hT : ∀ k, T k → k < w.heap.size) : Dis (EB ge g v') T := fun k hk ht => by
  rcases EB.next hN hk with h1 | h1
  · exact h k h1 ht
  · have := hT k ht; omega
end

theorem num_len3 {k n : Nat} (hn : n ≤ 1000) : (numL k n).length ≤ 3 := by
  unfold numL
  rw [putL_size]
  unfold sizeN tlen
  repeat (first | omega | split)
theorem text_len3 {a n : Nat} (hn : n ≤ 9000) : (putL 7 a n).length ≤ 3 := by
  rw [putL_size]
  unfold sizeN tlen
  have : 2 ^ 7 - 1 = 127 := rfl
  repeat (first | omega | split)
theorem txt_len3 {s : List UInt8} (hs : s.length ≤ 9000) : (txtL s).length ≤ s.length + 3 := by
  unfold txtL
  split
  · have := text_len3 (a := 128) (n := encN s) (by omega)
    rw [List.length_append, encL_len]
    unfold encN at *
    omega
  · have := text_len3 (a := 0) hs
    rw [List.length_append]
    omega
theorem lit_len3 {k n : Nat} {f : Fd} (hn : n ≤ 1000) (h1 : f.nm.length ≤ 9000) (h2 : f.vl.length ≤ 9000) : (litL k n f).length ≤ f.nm.length + f.vl.length + 9 := by
  unfold litL
  have e1 := num_len3 (k := k) hn
  have e2 := txt_len3 h2
  have e3 := txt_len3 h1
  simp only [List.length_append]
  split
  · omega
  · simp; omega
theorem putF_len3 {L : List Fd} {f : Fd} (hL : L.length ≤ 900) (h1 : f.nm.length ≤ 9000) (h2 : f.vl.length ≤ 9000) : (putF L f).length ≤ f.nm.length + f.vl.length + 10 := by
  have hn := @nOf_le L f
  unfold putF
  split
  · have := lit_len3 (k := 16) (n := nOf L f) (by omega) h1 h2; omega
  · split
    · have := num_len3 (k := 128) (n := nOf L f) (by omega); omega
    · have := lit_len3 (k := 64) (n := nOf L f) (by omega) h1 h2; omega
/-- What the law adds up. -/
def sumK : List Fd → Nat
  | [] => 10
  | f :: r => f.nm.length + f.vl.length + 10 + sumK r
theorem sumK_snoc (f : Fd) : ∀ r : List Fd, sumK (r ++ [f]) = sumK r + (f.nm.length + f.vl.length + 10)
  | [] => by simp [sumK]; omega
  | a :: r => by simp only [List.cons_append, sumK, sumK_snoc f r]; omega
theorem sumK_take {F : List Fd} {k : Nat} (hk : k < F.length) : sumK (F.take (k + 1)) = sumK (F.take k) + (F[k].nm.length + F[k].vl.length + 10) := by
  rw [List.take_succ_eq_append_getElem hk, sumK_snoc]
theorem sumK_le {F : List Fd} (h : ∀ f ∈ F, sz f ≤ 9032) : sumK F ≤ 10 + F.length * 9010 := by
  induction F with
  | nil => simp [sumK]
  | cons f F ih =>
    have h1 := h f (by simp)
    have h2 := ih fun x hx => h x (by simp [hx])
    unfold sz at h1
    simp only [sumK, List.length_cons]
    omega
theorem putA_sum {M : Nat} (hM : M ≤ 4096) : ∀ {F L : List Fd}, tot L ≤ M → (∀ f ∈ F, f.nm.length ≤ 9000 ∧ f.vl.length ≤ 9000) → (putA M L F).length + 10 ≤ sumK F
  | [], _, _, _ => by simp [putA, sumK]
  | f :: F, L, hL, h => by
    have hlen : L.length ≤ 128 := by have := tot_len L; omega
    have h0 := h f (by simp)
    have h1 := putF_len3 (L := L) (f := f) (by omega) h0.1 h0.2
    have h2 := putA_sum hM (F := F) (L := tabF M L f) (tabF_le hL) fun x hx => h x (by simp [hx])
    simp only [putA, sumK, List.length_append]
    omega
end Go.Proofs.Ytfajffchnnalaaa
