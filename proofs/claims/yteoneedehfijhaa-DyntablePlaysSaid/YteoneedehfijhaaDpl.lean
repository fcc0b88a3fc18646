/-
  The table and the document's, side by side: in memory, and what a step of either leaves of both; the field of any number, the number of any field, by both.
-/
import Derived.Test.YteoneedehfijhaaDrf
import Derived.Test.YteoneedehfijhaaDadd
namespace Go.Proofs.Yteoneedehfijhaa
open Go.RowKit Go.WideShapes

/-- The table (block g, slice v) has L; the document's (block gm) has R, the newest first; they share no memory. -/
structure Pl (w : World) (base g gm : Nat) (v : Value) (A : Option Addr) (c Mt Mm : Nat) (L R : List Fd) : Prop where
  t : Tb w base g v L Mt
  m : Row w gm 30 #[.slice A R.length c, .int .i64 (Mm : Int)]
  r : RdS w (fun b => b < w.heap.size ∧ b ≠ g ∧ v.ownBlock ≠ some b ∧ b ≠ gm) A (enl fdc R)
  hc : R.length ≤ c
  gg : gm ≠ g
  go : v.ownBlock ≠ some gm
  low : base ≤ gm

section
variable {w w' : World} {base g gm c c' Mt Mt' Mm Mm' : Nat} {v v' : Value} {A A' : Option Addr} {L L' R R' : List Fd}
theorem Pl.below (h : Pl w base g gm v A c Mt Mm L R) (hb : Below w.heap.size w w') : Pl w' base g gm v A c Mt Mm L R :=
  ⟨h.t.below hb, h.m.below hb h.m.lt, (h.r.keep fun b hb' => hb.block b hb'.1).imp fun _ hb' _ => ⟨Nat.lt_of_lt_of_le hb'.1 hb.size, hb'.2⟩, h.hc, h.gg, h.go, h.low⟩
theorem Pl.alloc (h : Pl w base g gm v A c Mt Mm L R) (o : Obj) : Pl (w.alloc o) base g gm v A c Mt Mm L R := h.below ((Below.refl _ _).alloc (Nat.le_refl _) _)
theorem Pl.drewN (h : Pl w base g gm v A c Mt Mm L R) (n : Nat) : Pl (w.drewN n) base g gm v A c Mt Mm L R := h.below (below_dN (Below.refl _ _) n)
theorem Pl.stepT (h : Pl w base g gm v A c Mt Mm L R) (ht : Tb w' base g v' L' Mt') (hF : Fr g v.ownBlock w w') (hN : Nx w v v') : Pl w' base g gm v' A c Mt' Mm L' R := by
  have hv : ∀ b, b < w.heap.size → v.ownBlock ≠ some b → v'.ownBlock ≠ some b := fun b hb h1 => by
    rcases hN with e | e
    · rw [e]; exact h1
    · intro h2
      have := e b h2
      omega
  exact ⟨ht, hF.row h.gg (fun e => h.go e.symm) h.m, (h.r.keep fun b hb => hF.block b hb.1 hb.2.1 (fun e => hb.2.2.1 e.symm)).imp fun b hb _ => ⟨Nat.lt_of_lt_of_le hb.1 hF.size, hb.2.1, hv b hb.1 hb.2.2.1, hb.2.2.2⟩, h.hc, h.gg, hv gm h.m.lt h.go, h.low⟩
theorem Pl.reads (h : Pl w base g gm v A c Mt Mm L R) : RdS w (· < w.heap.size) A (enl fdc R) := h.r.imp fun _ hb _ => hb.1
/-- The document's answer is stored. -/
theorem Pl.stepM (h : Pl w base g gm v A c Mt Mm L R) (hb : Below w.heap.size w w') (hr : RdS w' (fun b => w.heap.size ≤ b ∧ b < w'.heap.size) A' (enl fdc R')) (hc : R'.length ≤ c') :
    Pl ((w'.setCell ⟨gm, 0, none⟩ (.slice A' R'.length c')).setCell ⟨gm, 1, none⟩ (.int .i64 (Mm' : Int))) base g gm v A' c' Mt Mm' L R' := by
  have h' := h.below hb
  have hs : ((w'.setCell ⟨gm, 0, none⟩ (.slice A' R'.length c')).setCell ⟨gm, 1, none⟩ (.int .i64 (Mm' : Int))).heap.size = w'.heap.size := by simp [World.setCell]
  have hk : ∀ b, b ≠ gm → ((w'.setCell ⟨gm, 0, none⟩ (.slice A' R'.length c')).setCell ⟨gm, 1, none⟩ (.int .i64 (Mm' : Int))).heap[b]? = w'.heap[b]? := fun b hb => (Below.heap_setCell _ _ _ b hb).trans (Below.heap_setCell _ _ _ b hb)
  refine ⟨h'.t.keep (hk g fun e => h.gg e.symm) (fun k hk' => hk k fun e => h.go (by rw [hk', e])), (h'.m.stored 0 _).stored 1 _, ?_, hc, h.gg, h.go, h.low⟩
  have hgm := h.m.lt
  refine (hr.keep fun b hb => hk b (by omega)).imp fun b hb _ => ⟨by rw [hs]; exact hb.2, by have := h.t.lt; omega, fun e => by have := (h.t.row.lt b e).2; omega, by omega⟩
end

/-- The field of any number, by both. -/
def AtRes (x y : List UInt8) (z tb : Bool) (w : World) (e : Ending) (w' : World) : Prop := e = .returned (.tuple #[.agg #[.string ⟨x.toArray⟩, .string ⟨y.toArray⟩, .bool z], .bool tb]) ∧ Below w.heap.size w w'
theorem at_pair {w : World} {base g gm c Mt Mm : Nat} {v : Value} {A : Option Addr} {L R : List Fd} (h : Pl w base g gm v A c Mt Mm L R) (he : R = L.reverse) (hL : L.length ≤ 2147483648) (n : Int) (hn : n ≤ 9223372036854775807) :
    ∃ (x y : List UInt8) (z tb : Bool), Calls Try.prog 14 #[.pointer (some ⟨g, 0, none⟩), .int .i64 n] w (AtRes x y z tb w) ∧
      ∀ W : World, RdS W (· < W.heap.size) A (enl fdc R) → Calls Try.prog 15 #[.agg #[.slice A R.length c, .int .i64 (Mm : Int)], .int .i64 n] W (AtRes x y z tb W) := by
  have hl : R.length = L.length := by rw [he, List.length_reverse]
  by_cases h1 : n < 1
  · exact ⟨[], [], false, false, tat_low _ n h1 w, fun W _ => rtat_low n h1⟩
  · by_cases h2 : n ≤ 61
    · obtain ⟨k, hk⟩ := Int.eq_ofNat_of_zero_le (show 0 ≤ n - 1 by omega)
      obtain rfl : n = (k : Int) + 1 := by omega
      exact ⟨nmL k, vlL k, false, true, tat_known _ k (by omega) w, fun W _ => rtat_known k (by omega)⟩
    · by_cases h3 : n < 62 + (L.length : Int)
      · obtain ⟨i, hi⟩ := Int.eq_ofNat_of_zero_le (show 0 ≤ n - 62 by omega)
        obtain rfl : n = 62 + (i : Int) := by omega
        have hiL : i < L.length := by omega
        have hR : R[i]'(by omega) = L[L.length - 1 - i]'(by omega) := by subst he; rw [List.getElem_reverse]
        have ht := tat_dyn h.t i hiL hL
        rw [← hR] at ht
        exact ⟨(R[i]'(by omega)).nm, (R[i]'(by omega)).vl, (R[i]'(by omega)).nv, true, ht, fun W hW => rtat_dyn hW i (by omega) (by omega)⟩
      · exact ⟨[], [], false, false, tat_far h.t n (by omega) hn, fun W _ => rtat_far n (by omega) hn⟩
/-- The number of any field, by both. -/
def FindRes (m : Nat) (t : Bool) (w : World) (e : Ending) (w' : World) : Prop := e = .returned (.tuple #[.int .i64 (m : Int), .bool t]) ∧ Below w.heap.size w w'
theorem find_pair {w : World} {base g gm c Mt Mm : Nat} {v : Value} {A : Option Addr} {L R : List Fd} (h : Pl w base g gm v A c Mt Mm L R) (he : R = L.reverse) (hL : L.length ≤ 2147483648) (a b : List UInt8) :
    ∃ (m : Nat) (t : Bool), Calls Try.prog 16 #[.pointer (some ⟨g, 0, none⟩), .string ⟨a.toArray⟩, .string ⟨b.toArray⟩] w (FindRes m t w) ∧
      ∀ W : World, RdS W (· < W.heap.size) A (enl fdc R) → Calls Try.prog 17 #[.agg #[.slice A R.length c, .int .i64 (Mm : Int)], .string ⟨a.toArray⟩, .string ⟨b.toArray⟩] W (FindRes m t W) := by
  have hl : R.length = L.length := by rw [he, List.length_reverse]
  refine ⟨numT a b R, hasT a b R, ?_, fun W hW => rtfind_any a b hW (by omega)⟩
  have := tfind_any a b h.t hL
  rw [← he] at this
  exact this
end Go.Proofs.Yteoneedehfijhaa
