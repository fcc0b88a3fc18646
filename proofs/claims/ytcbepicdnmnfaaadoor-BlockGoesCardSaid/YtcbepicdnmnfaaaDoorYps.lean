/-
  What the laws over rows of frames have in common: variables made and stored into; clear of bytes that the call owns. No conditions but those that each theorem names.
-/
import Derived.Test.YtcbepicdnmnfaaaDoorYfx
import Derived.Test.YtcbepicdnmnfaaaDoorYfr
import Derived.Test.YtcbepicdnmnfaaaDoorTail
namespace Go.Proofs.YtcbepicdnmnfaaaDoor
open Go.RowKit Go.WideShapes

def fmz : Fm := ⟨0, 0, 0, none, 0, 0, 0, 0, 0, 0, false, 0, none, 0, 0⟩
theorem fm_zero : #[Value.int .u8 0, .int .u8 0, .int .u32 0, .slice none 0 0, .int .i64 0, .int .u32 0, .int .u32 0, .int .u8 0, .bool false, .int .u32 0, .slice none 0 0] = fmz.c := by unfold Fm.c; rfl
theorem fm_sz (x y : Fm) : x.c.size = y.c.size := by unfold Fm.c; rfl
/-- A frame's variable, made and stored into. -/
theorem one_fm (w : World) (x : Fm) : ∃ w', (w.alloc (.cells #[.int .u8 0, .int .u8 0, .int .u32 0, .slice none 0 0, .int .i64 0, .int .u32 0, .int .u32 0, .int .u8 0, .bool false, .int .u32 0, .slice none 0 0] 32)).setRow w.heap.size x.c = w' ∧
    Row (w.alloc (.cells #[.int .u8 0, .int .u8 0, .int .u32 0, .slice none 0 0, .int .i64 0, .int .u32 0, .int .u32 0, .int .u8 0, .bool false, .int .u32 0, .slice none 0 0] 32)) w.heap.size 32 fmz.c ∧ Row w' w.heap.size 32 x.c ∧ Below w.heap.size w w' ∧ w'.heap.size = w.heap.size + 1 := by
  have h1 : Row (w.alloc (.cells #[.int .u8 0, .int .u8 0, .int .u32 0, .slice none 0 0, .int .i64 0, .int .u32 0, .int .u32 0, .int .u8 0, .bool false, .int .u32 0, .slice none 0 0] 32)) w.heap.size 32 fmz.c := by rw [fm_zero]; exact Row.new w _ _
  exact ⟨_, rfl, h1, h1.setRow _, below_setRow ((Below.refl _ _).alloc (Nat.le_refl _) _) _ _ (by omega), by simp⟩
/-- A frame with other data. -/
def Fm.own (x : Fm) (A : Option Addr) (n c : Nat) : Fm := { x with dA := A, dn := n, dc := c }
theorem fm_own (x : Fm) (A : Option Addr) (n c : Nat) : x.c.setIfInBounds 3 (.slice A n c) = (x.own A n c).c := by unfold Fm.c; rfl
/-- Two gatherers of the document's, made and stored into. -/
theorem rg_two (w : World) (a b : Gm) : ∃ w', (((w.alloc (.cells #[.bool false, .int .u32 0, .string ⟨#[]⟩, .bool false, .int .i64 0, .int .i64 0] 28)).alloc (.cells #[.bool false, .int .u32 0, .string ⟨#[]⟩, .bool false, .int .i64 0, .int .i64 0] 28)).setRow w.heap.size (rgc a)).setRow (w.heap.size + 1) (rgc b) = w' ∧
    Row ((w.alloc (.cells #[.bool false, .int .u32 0, .string ⟨#[]⟩, .bool false, .int .i64 0, .int .i64 0] 28)).alloc (.cells #[.bool false, .int .u32 0, .string ⟨#[]⟩, .bool false, .int .i64 0, .int .i64 0] 28)) w.heap.size 28 (rgc gm0) ∧
    Row (((w.alloc (.cells #[.bool false, .int .u32 0, .string ⟨#[]⟩, .bool false, .int .i64 0, .int .i64 0] 28)).alloc (.cells #[.bool false, .int .u32 0, .string ⟨#[]⟩, .bool false, .int .i64 0, .int .i64 0] 28)).setRow w.heap.size (rgc a)) (w.heap.size + 1) 28 (rgc gm0) ∧
    Row w' w.heap.size 28 (rgc a) ∧ Row w' (w.heap.size + 1) 28 (rgc b) ∧ Below w.heap.size w w' ∧ w'.heap.size = w.heap.size + 2 := by
  have h1 : Row ((w.alloc (.cells #[.bool false, .int .u32 0, .string ⟨#[]⟩, .bool false, .int .i64 0, .int .i64 0] 28)).alloc (.cells #[.bool false, .int .u32 0, .string ⟨#[]⟩, .bool false, .int .i64 0, .int .i64 0] 28)) w.heap.size 28 (rgc gm0) := by rw [rg_zero]; exact (Row.new w _ _).alloc _
  have h2 : Row ((w.alloc (.cells #[.bool false, .int .u32 0, .string ⟨#[]⟩, .bool false, .int .i64 0, .int .i64 0] 28)).alloc (.cells #[.bool false, .int .u32 0, .string ⟨#[]⟩, .bool false, .int .i64 0, .int .i64 0] 28)) (w.heap.size + 1) 28 (rgc gm0) := by rw [rg_zero]; exact Row.made _ _ _ (by simp)
  have h3 := h2.row_far (b := w.heap.size + 1) (k := w.heap.size) (by omega) (rgc a)
  exact ⟨_, rfl, h1, h3, (h1.setRow _).row_far (by omega) _, h3.setRow _, below_setRow (below_setRow (((Below.refl _ _).alloc (Nat.le_refl _) _).alloc (by simp) _) _ _ (by omega)) _ _ (by omega), by simp⟩
/-- 'clear' of bytes that the call owns. -/
theorem clear_own {w : World} {base : Nat} {A : Option Addr} {c : Nat} {l : List UInt8} (h : Bo w base 5 (.slice A l.length c) l) :
    ∃ w', (∀ ty, (Builtin.clear_ #[29] ty #[.slice A l.length c]).run Tryd.prog w = .ok (.tuple #[]) w') ∧ Fs (ob (.slice A l.length c)) w w' := by
  obtain ⟨i0, hi0, hz0, hz1, hz2⟩ := info_parts u8_info
  obtain ⟨_, w', _, h1, h2, _⟩ := run_shed (P := Tryd.prog) w base 29 5 i0 (.int .u8 0) 1 Tryd.underlying29 hi0 hz0 hz1 rfl (fun u hu => by simp [Value.cells] at hu; subst hu; rfl) h l.length (Nat.le_refl _)
  exact ⟨w', h1, Fs.of_grown h2⟩
/-- A gatherer, behind a step that turns bytes which aren't its own. -/
theorem Ga.cleared {w w' : World} {base g b2 : Nat} {m : Gm} {A : Option Addr} {c : Nat} {o : Option Nat} {v : Value} {l : List UInt8} (h : Ga w base g m A c o) (hv : Bo w b2 5 v l) (hf : Fs (ob v) w w') (hd : ∀ k, ob (.slice A m.blk.length c) k → ¬ ob v k) : Ga w' base g m A c o := by
  refine h.fs hf (hv.ne h.row (by decide)) hd (fun p hp => ?_)
  rcases h.err with ⟨h0, _⟩ | ⟨p', h0, _, hr⟩
  · rw [h0] at hp; cases hp
  · rw [h0] at hp
    obtain rfl := Option.some.inj hp
    exact hv.ne hr (by decide)
/-- What Take may turn isn't a row of another type. -/
theorem Ga.gv_ne {w : World} {base g : Nat} {m : Gm} {A : Option Addr} {c : Nat} {o : Option Nat} (h : Ga w base g m A c o) {k : Nat} {t : TypeId} {cs : Array Value} (hr : Row w k t cs) (h1 : t ≠ 51) (h2 : t ≠ 5) : ¬ gvS g (.slice A m.blk.length c) k := fun e => by
  rcases e with e | e
  · exact Row.ne hr h.row h1 e
  · exact h.own.ne hr h2 e
theorem Ga.gath_far {w : World} {base g : Nat} {m : Gm} {A : Option Addr} {c : Nat} {o : Option Nat} (h : Ga w base g m A c o) {k : Nat} {cs : Array Value} (hk : Row w k 28 cs) (x : Array Value) : Ga (w.setRow k x) base g m A c o := by
  refine h.keep (setRow_other w k g x (Row.ne h.row hk (by decide))) (fun j hj => setRow_other w k j x (fun e => ?_)) (fun p hp => setRow_other w k p x ?_)
  · subst e
    exact h.own.ne hk (by decide) hj
  · rcases h.err with ⟨h0, _⟩ | ⟨p', h0, _, hr⟩
    · rw [h0] at hp; cases hp
    · rw [h0] at hp
      obtain rfl := Option.some.inj hp
      exact Row.ne hr hk (by decide)
theorem gtk_whole {m : Gm} {ty fl st : Nat} {d : List UInt8} (h : (gtk m ty fl st d).2.1 = true) : (gtk m ty fl st d).1 = gm0 := by
  revert h
  unfold gtk gfin
  repeat' split
  all_goals simp
end Go.Proofs.YtcbepicdnmnfaaaDoor
