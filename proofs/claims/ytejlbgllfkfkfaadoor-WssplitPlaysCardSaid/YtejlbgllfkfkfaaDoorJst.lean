/-
  A socket's splitter in memory; New, Bad, Held, Feed, by their contracts. Conditions: the splitter lies behind the package's variables.
-/
import Derived.Test.YtejlbgllfkfkfaaDoorJm
import Derived.Test.YtejlbgllfkfkfaaDoorIge
import Derived.Test.YtejlbgllfkfkfaaDoorFs
import Derived.Test.YtejlbgllfkfkfaaDoorTail
import Derived.Test.YtejlbgllfkfkfaaDoorLast
namespace Go.Proofs.YtejlbgllfkfkfaaDoor
open Go.RowKit Go.WideShapes

/-- A splitter's cells. -/
def jsp (v : Value) (m bad : Bool) : Array Value := #[v, .bool m, .bool bad]
theorem jsp_info : (Tryd.prog.info? 47).map (·.size) = some 3 := by kernel_rfl
theorem jsp_ok {A : Option Addr} {n c : Nat} (m bad : Bool) : AgOk Tryd.prog 47 (jsp (.slice A n c) m bad) := ⟨⟨_, Tryd.underlying47⟩, jsp_info, by unfold jsp; kernel_rfl⟩
theorem jsp_sz (v v' : Value) (m bad m' bad' : Bool) : (jsp v m bad).size = (jsp v' m' bad').size := rfl
/-- The block of bytes isn't a row of another type. -/
theorem Bo.neJ {w : World} {base : Nat} {e : TypeId} {v : Value} {l : List UInt8} (h : Bo w base e v l) {k : Nat} {t : TypeId} {cs : Array Value} (hr : Row w k t cs) (ht : t ≠ e) : ¬ ob v k := fun hk => by
  rcases h.2 with ⟨rfl, _⟩ | ⟨g, o, cap, cur, rfl, _, hg, _⟩
  · simp [ob, Value.ownBlock] at hk
  · have : g = k := by simpa [ob, Value.ownBlock] using hk
    subst this
    have h1 : w.heap[g]? = some (.cells cs t) := hr
    rw [hg] at h1
    injection h1 with h1
    injection h1 with h1 h2
    exact ht h2.symm
/-- A good splitter: the bytes that it holds, from block base on. -/
structure JG (w : World) (base g : Nat) (v : Value) (m : Bool) (l : List UInt8) : Prop where
  row : Row w g 47 (jsp v m false)
  own : Bo w base 5 v l
  len : l.length ≤ 4110
  lo : 0 < base ∧ base ≤ g
/-- A bad one. -/
structure JX (w : World) (base g : Nat) (v : Value) (l : List UInt8) : Prop where
  row : Row w g 47 (jsp v false true)
  nul : v = .slice none 0 0 ∧ l = []
  lo : 0 < base ∧ base ≤ g
def jvS (g : Nat) (v : Value) : Nat → Prop := fun k => k = g ∨ ob v k
/-- A splitter, by what it holds; whether it is bad. -/
def Sj (w : World) (base g : Nat) (v : Value) (m : Bool) (l : List UInt8) (bad : Bool) : Prop := (bad = false ∧ JG w base g v m l) ∨ (bad = true ∧ JX w base g v l)
section
variable {w w' : World} {base g : Nat} {v : Value} {m bad : Bool} {l : List UInt8}
theorem JG.far (h : JG w base g v m l) : ¬ ob v g := h.own.neJ h.row (by decide)
theorem JG.keep (h : JG w base g v m l) (h1 : w'.heap[g]? = w.heap[g]?) (h2 : ∀ k, ob v k → w'.heap[k]? = w.heap[k]?) : JG w' base g v m l := ⟨h1.trans h.row, OwS.keep h.own h2, h.len, h.lo⟩
theorem JX.keep (h : JX w base g v l) (h1 : w'.heap[g]? = w.heap[g]?) : JX w' base g v l := ⟨h1.trans h.row, h.nul, h.lo⟩
theorem JG.lts (h : JG w base g v m l) : g < w.heap.size ∧ ∀ k, ob v k → base ≤ k ∧ k < w.heap.size := ⟨h.row.lt, fun k hk => OwS.lt h.own k hk⟩
theorem Sj.keep (h : Sj w base g v m l bad) (h1 : w'.heap[g]? = w.heap[g]?) (h2 : ∀ k, ob v k → w'.heap[k]? = w.heap[k]?) : Sj w' base g v m l bad := by
  rcases h with ⟨h0, h⟩ | ⟨h0, h⟩
  · exact .inl ⟨h0, h.keep h1 h2⟩
  · exact .inr ⟨h0, h.keep h1⟩
theorem Sj.lts (h : Sj w base g v m l bad) : g < w.heap.size ∧ (∀ k, ob v k → base ≤ k ∧ k < w.heap.size) ∧ 0 < base ∧ base ≤ g := by
  rcases h with ⟨_, h⟩ | ⟨_, h⟩
  · exact ⟨h.lts.1, h.lts.2, h.lo⟩
  · refine ⟨h.row.lt, fun k hk => ?_, h.lo⟩
    rw [h.nul.1] at hk
    cases hk
theorem Sj.fs {S : Nat → Prop} (h : Sj w base g v m l bad) (hf : Fs S w w') (h1 : ¬ S g) (h2 : ∀ k, ob v k → ¬ S k) : Sj w' base g v m l bad := h.keep (hf.block g h.lts.1 h1) fun k hk => hf.block k (h.lts.2.1 k hk).2 (h2 k hk)
theorem Sj.below (h : Sj w base g v m l bad) (hb : Below w.heap.size w w') : Sj w' base g v m l bad := h.keep (hb.block g h.lts.1) fun k hk => hb.block k (h.lts.2.1 k hk).2
theorem Sj.bad_cell (h : Sj w base g v m l bad) : w.cell? ⟨g, 2, none⟩ = some (.bool bad) := by
  rcases h with ⟨rfl, h⟩ | ⟨rfl, h⟩
  · exact h.row.cell rfl
  · exact h.row.cell rfl
theorem Sj.form (h : Sj w base g v m l bad) : ∃ A c, v = .slice A l.length c ∧ l.length ≤ c ∧ w.cell? ⟨g, 0, none⟩ = some (.slice A l.length c) := by
  rcases h with ⟨rfl, h⟩ | ⟨rfl, h⟩
  · obtain ⟨A, c, rfl, hc⟩ := Bo.shape h.own
    exact ⟨A, c, rfl, hc, h.row.cell rfl⟩
  · obtain ⟨rfl, rfl⟩ := h.nul
    exact ⟨none, 0, rfl, Nat.le_refl _, h.row.cell rfl⟩
theorem Sj.len (h : Sj w base g v m l bad) : l.length ≤ 4110 := by
  rcases h with ⟨_, h⟩ | ⟨_, h⟩
  · exact h.len
  · rw [h.nul.2]; simp
/-- What a call on it turns lies behind base. -/
theorem Sj.base_fs (h : Sj w base g v m l bad) (hf : Fs (jvS g v) w w') {B : Nat} (hB : B ≤ base) (hs : B ≤ w.heap.size) : Below B w w' := hf.below (fun k hk _ => by
  rcases hk with rfl | hk
  · exact Nat.le_trans hB h.lts.2.2.2
  · exact Nat.le_trans hB (h.lts.2.1 k hk).1) hs
theorem GlobE.fsJ {S : Nat → Prop} (h : GlobE w) (hf : Fs S w w') (hS : ¬ S 0) : GlobE w' := (World.cell?_of_block (a := ⟨0, 0, none⟩) (hf.block _ (blk_lt h) hS)).trans h
theorem Sj.glob (h : Sj w base g v m l bad) (hf : Fs (jvS g v) w w') (hG : GlobE w) : GlobE w' := hG.fsJ hf fun hk => by
  have h1 := h.lts.2.2
  rcases hk with hk | hk
  · omega
  · have := (h.lts.2.1 _ hk).1
    omega
end

set_option maxRecDepth 100000 in
set_option maxHeartbeats 1000000 in
theorem jnew_any (w : World) (m : Bool) (hG : GlobE w) : Calls Tryd.prog 8 #[.bool m] w fun e w' => e = .returned (.pointer (some ⟨w.heap.size, 0, none⟩)) ∧ Sj w' w.heap.size w.heap.size (.slice none 0 0) m [] false ∧ Below w.heap.size w w' := by
  have hlt : 0 < w.heap.size := blk_lt hG
  have HS : Hid (Sj (w.alloc (.cells (jsp (.slice none 0 0) m false) 47)) w.heap.size w.heap.size (.slice none 0 0) m [] false) := .inl ⟨rfl, Row.new w _ _, Bo.nil, by simp, hlt, Nat.le_refl _⟩
  go_enter Tryd.func8, Tryd.ntmps8
  go_wp2_with fail
  go_ret
  exact ⟨rfl, HS.out, (Below.refl _ _).alloc (Nat.le_refl _) _⟩
set_option maxRecDepth 100000 in
set_option maxHeartbeats 1000000 in
theorem jbad_nil (w : World) : Calls Tryd.prog 9 #[.pointer none] w fun e w' => e = .returned (.bool true) ∧ w' = w := by
  go_enter Tryd.func9, Tryd.ntmps9
  go_wp2_with fail
  go_ret
  exact ⟨rfl, rfl⟩
set_option maxRecDepth 100000 in
set_option maxHeartbeats 1000000 in
theorem jbad_cell {w : World} {g : Nat} {x : Bool} (h : w.cell? ⟨g, 2, none⟩ = some (.bool x)) : Calls Tryd.prog 9 #[.pointer (some ⟨g, 0, none⟩)] w fun e w' => e = .returned (.bool x) ∧ w' = w := by
  go_enter Tryd.func9, Tryd.ntmps9
  go_wp2_with fail
  go_ret
  exact ⟨by cases x <;> rfl, rfl⟩
theorem jbad_any {w : World} {base g : Nat} {v : Value} {m bad : Bool} {l : List UInt8} (h : Sj w base g v m l bad) : Calls Tryd.prog 9 #[.pointer (some ⟨g, 0, none⟩)] w fun e w' => e = .returned (.bool bad) ∧ w' = w := jbad_cell h.bad_cell
set_option maxRecDepth 100000 in
set_option maxHeartbeats 1000000 in
theorem jhld_nil (w : World) : Calls Tryd.prog 10 #[.pointer none] w fun e w' => e = .returned (.int .i64 0) ∧ w' = w := by
  go_enter Tryd.func10, Tryd.ntmps10
  go_wp2_with fail
  go_ret
  exact ⟨rfl, rfl⟩
set_option maxRecDepth 100000 in
set_option maxHeartbeats 1000000 in
theorem jhld_any {w : World} {base g : Nat} {v : Value} {m bad : Bool} {l : List UInt8} (h : Sj w base g v m l bad) : Calls Tryd.prog 10 #[.pointer (some ⟨g, 0, none⟩)] w fun e w' => e = .returned (.int .i64 (l.length : Int)) ∧ w' = w := by
  obtain ⟨A, c, _, _, hc⟩ := h.form
  clear h
  go_enter Tryd.func10, Tryd.ntmps10
  go_wp2_with fail
  go_ret
  exact ⟨rfl, rfl⟩
end Go.Proofs.YtejlbgllfkfkfaaDoor
