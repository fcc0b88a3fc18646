/-
  A gatherer in memory, a whole block by value, the document's gatherer by value: their cells. No conditions but those that each theorem names.
-/
import Derived.Test.YtcbepicdnmnfaaaDoorYm
import Derived.Test.YtcbepicdnmnfaaaDoorYft
import Derived.Test.YtcbepicdnmnfaaaDoorFm
import Derived.Test.YtcbepicdnmnfaaaDoorFerr
namespace Go.Proofs.YtcbepicdnmnfaaaDoor
open Go.RowKit Go.WideShapes

def tb (l : List UInt8) : ByteArray := ⟨l.toArray⟩
/-- The cells of a whole block. -/
def whc (st : Nat) (A : Option Addr) (n c : Nat) (en : Bool) : Array Value := #[.int .u32 st, .slice A n c, .bool en]
/-- An error: none, or the failure that lies there. -/
def erv : Option Nat → Value
  | none => .nilIface
  | some p => .iface 58 (.pointer (some ⟨p, 0, none⟩))
/-- The cells of a gatherer. -/
def gac (st : Nat) (A : Option Addr) (n c : Nat) (en busy : Bool) (more : Nat) (o : Option Nat) : Array Value := #[.int .u32 st, .slice A n c, .bool en, .bool busy, .int .i64 more, erv o]
/-- The cells of the document's gatherer. -/
def rgc (m : Gm) : Array Value := #[.bool m.busy, .int .u32 m.st, .string (tb m.blk), .bool m.en, .int .i64 m.more, .int .i64 m.bad]
theorem wh_sz (st : Nat) (A : Option Addr) (n c : Nat) (en : Bool) (st' : Nat) (A' : Option Addr) (n' c' : Nat) (en' : Bool) : (whc st A n c en).size = (whc st' A' n' c' en').size := rfl
theorem rg_sz (m m' : Gm) : (rgc m).size = (rgc m').size := rfl
theorem wh_info : (Tryd.prog.info? 34).map (·.size) = some 3 := by kernel_rfl
theorem ga_info : (Tryd.prog.info? 51).map (·.size) = some 6 := by kernel_rfl
theorem rg_info : (Tryd.prog.info? 28).map (·.size) = some 6 := by kernel_rfl
theorem wh_ok (st : Nat) (A : Option Addr) (n c : Nat) (en : Bool) : AgOk Tryd.prog 34 (whc st A n c en) := ⟨⟨_, Tryd.underlying34⟩, wh_info, by unfold whc; kernel_rfl⟩
theorem ga_ok (st : Nat) (A : Option Addr) (n c : Nat) (en busy : Bool) (more : Nat) (o : Option Nat) : AgOk Tryd.prog 51 (gac st A n c en busy more o) := ⟨⟨_, Tryd.underlying51⟩, ga_info, by unfold gac erv; cases o <;> kernel_rfl⟩
theorem rg_ok (m : Gm) : AgOk Tryd.prog 28 (rgc m) := ⟨⟨_, Tryd.underlying28⟩, rg_info, by unfold rgc; kernel_rfl⟩
theorem fm_ok (x : Fm) : AgOk Tryd.prog 32 x.c := ⟨⟨_, Tryd.underlying32⟩, Fm.size x, by unfold Fm.c; kernel_rfl⟩
theorem u8_info : (Tryd.prog.info? 5).map (fun i => (i.zero, i.size, i.bytes)) = some (some (.int .u8 0), 1, 1) := by kernel_rfl
theorem info_parts {P : Program} {t : TypeId} {z : Value} {n b : Nat} (h : (P.info? t).map (fun i => (i.zero, i.size, i.bytes)) = some (some z, n, b)) : ∃ i, P.info? t = some i ∧ i.zero = some z ∧ i.size = n ∧ i.bytes = b := by
  cases hi : P.info? t with
  | none => rw [hi] at h; simp at h
  | some i => rw [hi] at h; simp at h; exact ⟨i, rfl, h.1, h.2.1, h.2.2⟩
/-- Rows of two types are two. -/
theorem Row.ne {w : World} {a b : Nat} {t u : TypeId} {cs ds : Array Value} (h : Row w a t cs) (h' : Row w b u ds) (ht : t ≠ u) : a ≠ b := fun e => by
  subst e
  have h1 : w.heap[a]? = some (.cells cs t) := h
  have h2 : w.heap[a]? = some (.cells ds u) := h'
  rw [h1] at h2
  injection h2 with h2
  injection h2 with h2 h3
  exact ht h3
/-- The block of bytes isn't a row of another type. -/
theorem Bo.ne {w : World} {base : Nat} {e : TypeId} {v : Value} {l : List UInt8} (h : Bo w base e v l) {k : Nat} {t : TypeId} {cs : Array Value} (hr : Row w k t cs) (ht : t ≠ e) : ¬ ob v k := fun hk => by
  rcases h.2 with ⟨rfl, _⟩ | ⟨g, o, cap, cur, rfl, _, hg, _⟩
  · simp [ob, Value.ownBlock] at hk
  · have : g = k := by simpa [ob, Value.ownBlock] using hk
    subst this
    have h1 : w.heap[g]? = some (.cells cs t) := hr
    rw [hg] at h1
    injection h1 with h1
    injection h1 with h1 h2
    exact ht h2.symm

/-- A gatherer in memory, behind block base; v: its block's bytes. -/
structure Ga (w : World) (base g : Nat) (m : Gm) (A : Option Addr) (c : Nat) (o : Option Nat) : Prop where
  row : Row w g 51 (gac m.st A m.blk.length c m.en m.busy m.more o)
  own : Bo w base 5 (.slice A m.blk.length c) m.blk
  idle : m.busy = false → A = none ∧ c = 0
  err : (o = none ∧ m.bad = 0) ∨ ∃ p, o = some p ∧ m.bad ≠ 0 ∧ Row w p 61 #[.int .u8 1, .int .u32 m.bad]
  ok : m.Ok
  lo : 0 < base ∧ base ≤ g
section
variable {w w' : World} {base g : Nat} {m : Gm} {A : Option Addr} {c : Nat} {o : Option Nat}
theorem Ga.keep (h : Ga w base g m A c o) (h1 : w'.heap[g]? = w.heap[g]?) (h2 : ∀ k, ob (.slice A m.blk.length c) k → w'.heap[k]? = w.heap[k]?) (h3 : ∀ p, o = some p → w'.heap[p]? = w.heap[p]?) : Ga w' base g m A c o :=
  ⟨h1.trans h.row, OwS.keep h.own h2, h.idle, by
    rcases h.err with h0 | ⟨p, rfl, hb, hr⟩
    · exact .inl h0
    · exact .inr ⟨p, rfl, hb, (h3 p rfl).trans hr⟩, h.ok, h.lo⟩
theorem Ga.lts (h : Ga w base g m A c o) : g < w.heap.size ∧ (∀ k, ob (.slice A m.blk.length c) k → base ≤ k ∧ k < w.heap.size) ∧ ∀ p, o = some p → p < w.heap.size := by
  refine ⟨h.row.lt, fun k hk => OwS.lt h.own k hk, fun p hp => ?_⟩
  rcases h.err with ⟨h0, _⟩ | ⟨p', h0, _, hr⟩
  · rw [h0] at hp; cases hp
  · rw [h0] at hp
    obtain rfl := Option.some.inj hp
    exact hr.lt
theorem Ga.fs {S : Nat → Prop} (h : Ga w base g m A c o) (hf : Fs S w w') (h1 : ¬ S g) (h2 : ∀ k, ob (.slice A m.blk.length c) k → ¬ S k) (h3 : ∀ p, o = some p → ¬ S p) : Ga w' base g m A c o :=
  h.keep (hf.block g h.lts.1 h1) (fun k hk => hf.block k (h.lts.2.1 k hk).2 (h2 k hk)) (fun p hp => hf.block p (h.lts.2.2 p hp) (h3 p hp))
theorem Ga.below (h : Ga w base g m A c o) (hb : Below w.heap.size w w') : Ga w' base g m A c o :=
  h.keep (hb.block g h.lts.1) (fun k hk => hb.block k (h.lts.2.1 k hk).2) (fun p hp => hb.block p (h.lts.2.2 p hp))
theorem Ga.err_ne (h : Ga w base g m A c o) : ∀ p, o = some p → p ≠ g := fun p hp => by
  rcases h.err with ⟨h0, _⟩ | ⟨p', h0, _, hr⟩
  · rw [h0] at hp; cases hp
  · rw [h0] at hp
    obtain rfl := Option.some.inj hp
    exact Row.ne hr h.row (by decide)
theorem Ga.far (h : Ga w base g m A c o) : ¬ ob (.slice A m.blk.length c) g := h.own.ne h.row (by decide)
theorem Ga.cells (h : Ga w base g m A c o) : w.cell? ⟨g, 0, none⟩ = some (.int .u32 m.st) ∧ w.cell? ⟨g, 1, none⟩ = some (.slice A m.blk.length c) ∧ w.cell? ⟨g, 2, none⟩ = some (.bool m.en) ∧ w.cell? ⟨g, 3, none⟩ = some (.bool m.busy) ∧ w.cell? ⟨g, 4, none⟩ = some (.int .i64 m.more) ∧ w.cell? ⟨g, 5, none⟩ = some (erv o) :=
  ⟨h.row.cell rfl, h.row.cell rfl, h.row.cell rfl, h.row.cell rfl, h.row.cell rfl, h.row.cell rfl⟩
theorem Ga.idle_nil (h : Ga w base g m A c o) (hb : m.busy = false) : A = none ∧ c = 0 ∧ m = gmF m.bad := ⟨(h.idle hb).1, (h.idle hb).2, h.ok.idle hb⟩
end
end Go.Proofs.YtcbepicdnmnfaaaDoor
