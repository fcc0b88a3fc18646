/-
  A gatherer of messages in memory; New, Held, Over, by their contracts. Conditions: the gatherer lies behind the package's variables.
-/
import Derived.Test.YtdegpchofhnipaaDoorMm
import Derived.Test.YtdegpchofhnipaaDoorIpl
import Derived.Test.YtdegpchofhnipaaDoorIhd
import Derived.Test.YtdegpchofhnipaaDoorFs
import Derived.Test.YtdegpchofhnipaaDoorTail
import Derived.Test.YtdegpchofhnipaaDoorLast
namespace Go.Proofs.YtdegpchofhnipaaDoor
open Go.RowKit Go.WideShapes

/-- A pointer to a checker, or none. -/
def tpM : Option Nat → Value
  | none => .pointer none
  | some k => .pointer (some ⟨k, 0, none⟩)
/-- A gatherer's cells. -/
def mgc (v : Value) (busy : Bool) (t : Value) (over : Bool) : Array Value := #[v, .bool busy, t, .bool over]
theorem mg_info : (Tryd.prog.info? 56).map (·.size) = some 4 := by kernel_rfl
theorem mg_nil (over : Bool) : AgOk Tryd.prog 56 (mgc (.slice none 0 0) false (.pointer none) over) := ⟨⟨_, Tryd.underlying56⟩, mg_info, by unfold mgc; kernel_rfl⟩
/-- The checker of the message that is begun. -/
def ChkM (w : World) (base : Nat) (t : Option Nat) (x : Gg) : Prop := match t with
  | none => x.text = false
  | some k => x.text = true ∧ base ≤ k ∧ ∃ s, Ck w k (some s) ∧ (goN ut0 (nats x.b)).2 = some s
/-- A gatherer: the bytes that it holds, from block base on, and its checker. -/
structure Mg (w : World) (base g : Nat) (v : Value) (t : Option Nat) (x : Gg) : Prop where
  row : Row w g 56 (mgc v x.busy (tpM t) x.over)
  own : Bo w base 5 v x.b
  chk : ChkM w base t x
  len : x.b.length ≤ 4096
  lo : 0 < base ∧ base ≤ g
  idle : x.busy = false → x.b = [] ∧ x.text = false
  ov : x.over = true → x.busy = false
/-- Its blocks. -/
def mgS (g : Nat) (v : Value) (t : Option Nat) : Nat → Prop := fun k => k = g ∨ ob v k ∨ t = some k
section
variable {w w' : World} {base g : Nat} {v : Value} {t : Option Nat} {x : Gg}
theorem ChkM.keep (h : ChkM w base t x) (hk : ∀ k, t = some k → w'.heap[k]? = w.heap[k]?) : ChkM w' base t x := by
  cases t with
  | none => exact h
  | some k =>
    obtain ⟨h1, h2, s, h3, h4⟩ := h
    exact ⟨h1, h2, s, h3.keep (hk k rfl), h4⟩
theorem ChkM.lt (h : ChkM w base t x) {k : Nat} (hk : t = some k) : base ≤ k ∧ k < w.heap.size := by
  subst hk
  obtain ⟨_, h2, s, h3, _⟩ := h
  exact ⟨h2, h3.lt⟩
theorem Ck.row {o : Option Ut} {k : Nat} (h : Ck w k o) : ∃ cs, Row w k 93 cs := by
  cases o with
  | none => obtain ⟨_, _, _, h⟩ := h; exact ⟨_, h⟩
  | some s => obtain ⟨_, _, _, h, _⟩ := h; exact ⟨_, h⟩
theorem Mg.keep (h : Mg w base g v t x) (hk : ∀ k, mgS g v t k → w'.heap[k]? = w.heap[k]?) : Mg w' base g v t x :=
  ⟨(hk g (.inl rfl)).trans h.row, OwS.keep h.own fun k hk' => hk k (.inr (.inl hk')), h.chk.keep fun k hk' => hk k (.inr (.inr hk')), h.len, h.lo, h.idle, h.ov⟩
theorem Mg.lts (h : Mg w base g v t x) {k : Nat} (hk : mgS g v t k) : base ≤ k ∧ k < w.heap.size := by
  rcases hk with rfl | hk | hk
  · exact ⟨h.lo.2, h.row.lt⟩
  · exact OwS.lt h.own k hk
  · exact h.chk.lt hk
theorem Mg.fs {S : Nat → Prop} (h : Mg w base g v t x) (hf : Fs S w w') (h1 : ∀ k, mgS g v t k → ¬ S k) : Mg w' base g v t x := h.keep fun k hk => hf.block k (h.lts hk).2 (h1 k hk)
theorem Mg.below (h : Mg w base g v t x) (hb : Below w.heap.size w w') : Mg w' base g v t x := h.keep fun k hk => hb.block k (h.lts hk).2
/-- Its blocks are no row of another type. -/
theorem Mg.odd (h : Mg w base g v t x) {k : Nat} {T : TypeId} {cs : Array Value} (hr : Row w k T cs) (h1 : T ≠ 56) (h2 : T ≠ 5) (h3 : T ≠ 93) : ¬ mgS g v t k := by
  rintro (rfl | hk | hk)
  · exact Row.neJ hr h.row h1 rfl
  · exact h.own.neJ hr h2 hk
  · have hc := h.chk
    subst hk
    obtain ⟨_, _, s, hc, _⟩ := hc
    obtain ⟨cs', hc⟩ := hc.row
    exact Row.neJ hr hc h3 rfl
theorem Mg.far (h : Mg w base g v t x) : ¬ ob v g := h.own.neJ h.row (by decide)
theorem Mg.chk_far (h : Mg w base g v t x) {k : Nat} (hk : t = some k) : k ≠ g ∧ ¬ ob v k := by
  have hc := h.chk
  subst hk
  obtain ⟨_, _, s, hc, _⟩ := hc
  obtain ⟨cs', hc⟩ := hc.row
  exact ⟨Row.neJ hc h.row (by decide), h.own.neJ hc (by decide)⟩
theorem Mg.base_fs (h : Mg w base g v t x) (hf : Fs (mgS g v t) w w') {B : Nat} (hB : B ≤ base) (hs : B ≤ w.heap.size) : Below B w w' := hf.below (fun _ hk _ => Nat.le_trans hB (h.lts hk).1) hs
theorem GlobE.fsM {S : Nat → Prop} (h : GlobE w) (hf : Fs S w w') (hS : ¬ S 0) : GlobE w' := (World.cell?_of_block (a := ⟨0, 0, none⟩) (hf.block _ (blk_lt h) hS)).trans h
theorem Mg.glob (h : Mg w base g v t x) (hf : Fs (mgS g v t) w w') (hG : GlobE w) : GlobE w' := hG.fsM hf fun hk => by
  have := (h.lts hk).1
  have := h.lo.1
  omega
theorem Mg.cells (h : Mg w base g v t x) : w.cell? ⟨g, 0, none⟩ = some v ∧ w.cell? ⟨g, 1, none⟩ = some (.bool x.busy) ∧ w.cell? ⟨g, 2, none⟩ = some (tpM t) ∧ w.cell? ⟨g, 3, none⟩ = some (.bool x.over) := ⟨h.row.cell rfl, h.row.cell rfl, h.row.cell rfl, h.row.cell rfl⟩
theorem Mg.form (h : Mg w base g v t x) : ∃ A c, v = .slice A x.b.length c ∧ x.b.length ≤ c := Bo.shape h.own
theorem Mg.made (hR : Row w g 56 (mgc (.slice none 0 0) false (.pointer none) x.over)) (hx : x = gg0 ∨ x = ggX) (hlo : 0 < base ∧ base ≤ g) : Mg w base g (.slice none 0 0) none x := by
  rcases hx with rfl | rfl
  · exact ⟨hR, Bo.nil, rfl, by simp [gg0], hlo, fun _ => ⟨rfl, rfl⟩, fun h => (by cases h)⟩
  · exact ⟨hR, Bo.nil, rfl, by simp [ggX], hlo, fun _ => ⟨rfl, rfl⟩, fun _ => rfl⟩
end

set_option maxRecDepth 100000 in
set_option maxHeartbeats 1000000 in
theorem mnew_any (w : World) (hG : GlobE w) : Calls Tryd.prog 11 #[] w fun e w' => e = .returned (.pointer (some ⟨w.heap.size, 0, none⟩)) ∧ Mg w' w.heap.size w.heap.size (.slice none 0 0) none gg0 ∧ Below w.heap.size w w' := by
  have hlt : 0 < w.heap.size := blk_lt hG
  have HS : Hid (Mg (w.alloc (.cells (mgc (.slice none 0 0) false (.pointer none) false) 56)) w.heap.size w.heap.size (.slice none 0 0) none gg0) := Mg.made (Row.new w _ _) (.inl rfl) ⟨hlt, Nat.le_refl _⟩
  go_enter Tryd.func11, Tryd.ntmps11
  go_wp2_with fail
  go_ret
  exact ⟨rfl, HS.out, (Below.refl _ _).alloc (Nat.le_refl _) _⟩
set_option maxRecDepth 100000 in
set_option maxHeartbeats 1000000 in
theorem mover_nil (w : World) : Calls Tryd.prog 16 #[.pointer none] w fun e w' => e = .returned (.bool true) ∧ w' = w := by
  go_enter Tryd.func16, Tryd.ntmps16
  go_wp2_with fail
  go_ret
  exact ⟨rfl, rfl⟩
set_option maxRecDepth 100000 in
set_option maxHeartbeats 1000000 in
theorem mover_cell {w : World} {g : Nat} {b : Bool} (h : w.cell? ⟨g, 3, none⟩ = some (.bool b)) : Calls Tryd.prog 16 #[.pointer (some ⟨g, 0, none⟩)] w fun e w' => e = .returned (.bool b) ∧ w' = w := by
  go_enter Tryd.func16, Tryd.ntmps16
  go_wp2_with fail
  go_ret
  exact ⟨by cases b <;> rfl, rfl⟩
theorem mover_any {w : World} {base g : Nat} {v : Value} {t : Option Nat} {x : Gg} (h : Mg w base g v t x) : Calls Tryd.prog 16 #[.pointer (some ⟨g, 0, none⟩)] w fun e w' => e = .returned (.bool x.over) ∧ w' = w := mover_cell h.cells.2.2.2
set_option maxRecDepth 100000 in
set_option maxHeartbeats 1000000 in
theorem mheld_nil (w : World) : Calls Tryd.prog 15 #[.pointer none] w fun e w' => e = .returned (.int .i64 0) ∧ w' = w := by
  go_enter Tryd.func15, Tryd.ntmps15
  go_wp2_with fail
  go_ret
  exact ⟨rfl, rfl⟩
set_option maxRecDepth 100000 in
set_option maxHeartbeats 1000000 in
theorem mheld_any {w : World} {base g : Nat} {v : Value} {t : Option Nat} {x : Gg} (h : Mg w base g v t x) : Calls Tryd.prog 15 #[.pointer (some ⟨g, 0, none⟩)] w fun e w' => e = .returned (.int .i64 (x.b.length : Int)) ∧ w' = w := by
  have hc := h.cells.1
  obtain ⟨A, c, rfl, _⟩ := h.form
  clear h
  go_enter Tryd.func15, Tryd.ntmps15
  go_wp2_with fail
  go_ret
  exact ⟨rfl, rfl⟩
end Go.Proofs.YtdegpchofhnipaaDoor
