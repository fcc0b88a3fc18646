/-
  bytes.Clone, by its contract; frames in a slice, an append of one; a block that is cut, as frames. Conditions: those that each theorem names.
-/
import Derived.Test.YtcbepicdnmnfaaaDoorYps
namespace Go.Proofs.YtcbepicdnmnfaaaDoor
open Go.RowKit Go.WideShapes

theorem nil_yes (c : Nat) (w : World) : (binOp .eql 29 (.slice none 0 c) (.slice none 0 0)).run Tryd.prog w = .ok (.bool true) w := by kernel_rfl
theorem nil_no (a : Addr) (n c : Nat) (w : World) : (binOp .eql 29 (.slice (some a) n c) (.slice none 0 0)).run Tryd.prog w = .ok (.bool false) w := by kernel_rfl
set_option maxRecDepth 100000 in
set_option maxHeartbeats 1000000 in
theorem bclone_any {B : Nat} {A : Option Addr} {c : Nat} {l : List UInt8} {w : World} (hr : RdB w B A l) (hB : B ≤ w.heap.size) (hl : l.length ≤ 549755813888) :
    Calls Tryd.prog 18 #[.slice A l.length c] w fun e w' => (∃ v, e = .returned v ∧ Bo w' w.heap.size 5 v l) ∧ Below w.heap.size w w' := by
  obtain ⟨i0, hi0, hz0, hz1, hz2⟩ := info_parts u8_info
  cases A with
  | none =>
    have hn : l = [] := by
      rcases List.eq_nil_or_concat l with h0 | ⟨x, y, h0⟩
      · exact h0
      · obtain ⟨g, o, e, _⟩ := hr (by rw [h0]; simp)
        cases e
    subst hn
    clear hr
    have hnil := nil_yes c
    go_enter Tryd.func18, Tryd.ntmps18
    go_wp2
    go_ret
    exact ⟨⟨_, rfl, Bo.nil⟩, Below.refl _ _⟩
  | some a =>
    have hO1 : Hid (Bo (w.alloc (.cells #[] 5)) w.heap.size 5 (.slice (some ⟨w.heap.size, 0, none⟩) 0 0) []) := OwS.lit w 5 1 0 #[] (by simp) (by simp [maxLen]) (Nat.le_refl _)
    have HR := Lib.hid (hr.alloc hB (.cells #[] 5))
    clear hr
    have hnil := nil_no a l.length c
    go_enter Tryd.func18, Tryd.ntmps18
    go_wp2_with (at_builtin; go_loud (refine wpList_appBo rfl (.tmp 5) (.tmp 6) 29 rfl w.heap.size 5 i0 Tryd.underlying29 hi0 hz0 hz1 hz2 (.slice (some ⟨w.heap.size, 0, none⟩) 0 0) [] rfl hO1.out B (some a) l _ _ rfl rfl HR.out (by simp; omega) (by simp) ?_; intro v2 w2 hO2 hF2 hN2))
    go_ret
    rw [List.nil_append] at hO2
    exact ⟨⟨_, rfl, hO2⟩, ((Below.refl w.heap.size w).alloc (Nat.le_refl _) _).trans (hF2.below (fun k hk _ => by have := (OwS.lt hO1.out k hk).1; omega) (by simp))⟩

/-- The slice v has these frames; it is the call's own, and shares no block with their data. -/
structure FrL (w : World) (base : Nat) (v : Value) (E : List Be) : Prop where
  own : OwS w base 32 11 v E.length (enl bec E)
  ins : ∀ e ∈ E, RdS w (fun k => base ≤ k ∧ k < w.heap.size ∧ ¬ ob v k) e.x.dA (byc e.d)
section
variable {w w' : World} {base : Nat} {v : Value} {E : List Be}
theorem FrL.nil (w : World) (base : Nat) : FrL w base (.slice none 0 0) [] := ⟨OwS.nil, fun e he => (by cases he)⟩
theorem FrL.keep (h : FrL w base v E) (_hs : w.heap.size ≤ w'.heap.size) (hk : ∀ k, base ≤ k → k < w.heap.size → w'.heap[k]? = w.heap[k]?) : FrL w' base v E :=
  ⟨OwS.keep h.own fun k hk' => hk k (OwS.lt h.own k hk').1 (OwS.lt h.own k hk').2, fun e he => ((h.ins e he).keep fun k hk' => hk k hk'.1 hk'.2.1).imp fun _ hk' hl => ⟨hk'.1, hl, hk'.2.2⟩⟩
theorem FrL.mono {base' : Nat} (h : FrL w base v E) (hb : base' ≤ base) : FrL w base' v E := ⟨OwS.mono h.own hb, fun e he => (h.ins e he).imp fun _ hk _ => ⟨Nat.le_trans hb hk.1, hk.2⟩⟩
theorem FrL.below (h : FrL w base v E) (hb : Below w.heap.size w w') : FrL w' base v E := h.keep hb.size fun k _ hk => hb.block k hk
theorem FrL.set_far (h : FrL w base v E) {k : Nat} (hk : k < base) (j : Nat) (x : Value) : FrL (w.setCell ⟨k, j, none⟩ x) base v E := h.keep (by simp [World.setCell]) fun i hi _ => Below.heap_setCell w _ x i (by show i ≠ k; omega)
theorem FrL.row_far (h : FrL w base v E) {k : Nat} (hk : k < base) (x : Array Value) : FrL (w.setRow k x) base v E := h.keep (by simp) fun i hi _ => setRow_other w k i x (by omega)
end
theorem fr_info : (Tryd.prog.info? 32).map (fun i => (i.zero, i.size, i.bytes)) = some (some (.agg #[.int .u8 0, .int .u8 0, .int .u32 0, .slice none 0 0, .int .i64 0, .int .u32 0, .int .u32 0, .int .u8 0, .bool false, .int .u32 0, .slice none 0 0]), 11, 80) := by kernel_rfl
theorem bs_fr (x : Fm) (w : World) : (Instr.buildSlice 22 1 #[(0, .agg x.c)]).run Tryd.prog w = .ok (.slice (some ⟨w.heap.size, 0, none⟩) 1 1) (w.alloc (.cells x.c 32)) := by unfold Fm.c; kernel_rfl
theorem bec_one (e : Be) : ∀ u ∈ bec e, u.oneCell' = true := by
  intro u hu
  have h := (fm_ok e.x).o
  rw [Array.all_eq_true_iff_forall_mem] at h
  exact h u (by simpa [bec] using hu)
/-- An append of one frame that was just laid in a block of its own. -/
theorem wpList_appF {ops : Array Oper} {rest : List Oper} {o : Oper} {a : Act} {w : World} {Q : Exit → Act → World → Prop} (hgd : o.guard = none) (s x : Operand) (ho : o.op = .call { callee := .builtin .append, args := #[s, x], argTypes := #[22, 22] })
    {base : Nat} {v : Value} {E : List Be} (hs : a.eval s = v) (h : FrL w base v E) (e : Be) (q : Nat) (hx : a.eval x = .slice (some ⟨q, 0, none⟩) 1 1) (hq : Row w q 32 e.x.c)
    (he : RdS w (fun k => base ≤ k ∧ k < w.heap.size ∧ ¬ ob v k) e.x.dA (byc e.d)) (hL : E.length ≤ 1000000) (hbase : base ≤ w.heap.size)
    (hk : ∀ v' w', FrL w' base v' (E ++ [e]) → Fs (ob v) w w' → Nx w v v' → wpList Tryd.prog ops Q rest (a.put o.dst v') w') : wpList Tryd.prog ops Q (o :: rest) a w := by
  obtain ⟨i0, hi0, hz0, hz1, hz2⟩ := info_parts fr_info
  refine wpList_appS hgd s x 22 ho base 32 i0 _ 11 80 Tryd.underlying22 hi0 hz0 hz1 hz2 rfl v E.length (enl bec E) hs h.own ⟨q, 0, none⟩ 1 1 (bec e) hx (by rw [bec_len]) (fun j u hj => by
    rw [add_plain, Nat.zero_add]
    exact hq.cell (by simpa [bec] using hj)) (bec_one e) (by omega) (by simp only [maxLen]; omega) (by omega) hbase (fun A' c' w' ho' hg' hn' => ?_)
  have hf := Fs.of_grown hg'
  have hn := Nx.of_new hn'
  refine hk _ w' ⟨?_, fun e' he' => ?_⟩ hf hn
  · rw [List.length_append, enl_append, enl_one]
    exact ho'
  · have hin : RdS w (fun k => base ≤ k ∧ k < w.heap.size ∧ ¬ ob v k) e'.x.dA (byc e'.d) := by
      rcases List.mem_append.1 he' with h1 | h1
      · exact h.ins e' h1
      · rw [List.mem_singleton.1 h1]; exact he
    exact (hin.keep fun g hg => hf.block g hg.2.1 hg.2.2).imp fun g hg hl => ⟨hg.1, hl, fun h1 => by
      rcases hn.own h1 with h2 | h2
      · exact hg.2.2 h2
      · omega⟩
/-- A frame's numbers and data. -/
def Be.key (e : Be) : Nat × Nat × Nat × List UInt8 := (e.x.ty, e.x.fl, e.x.st, e.d)
/-- Frame number j of a block that is cut, but for the last one. -/
def cuG (n : Nat) (b : List UInt8) (st : Nat) (en : Bool) (j : Nat) : Nat × Nat × Nat × List UInt8 := (if j = 0 then 1 else 9, if j = 0 ∧ en = true then 1 else 0, st, (b.drop (j * n)).take n)
/-- .. of K and one more. -/
def cuF (n : Nat) (b : List UInt8) (st : Nat) (en : Bool) (K j : Nat) : Nat × Nat × Nat × List UInt8 :=
  if j = K then (if j = 0 then 1 else 9, (if j = 0 ∧ en = true then 1 else 0) + 4, st, b.drop (j * n)) else cuG n b st en j
/-- These frames are the block's. -/
def CutP (n : Nat) (b : List UInt8) (st : Nat) (en : Bool) (E : List Be) : Prop :=
  ∃ K, E.length = K + 1 ∧ K * n ≤ b.length ∧ b.length ≤ (K + 1) * n ∧ ∀ j (h : j < E.length), E[j].key = cuF n b st en K j
theorem cut_step {n : Nat} {b : List UInt8} {st : Nat} {en : Bool} {E : List Be} {e : Be} {k : Nat} (hl : E.length = k) (h : ∀ j (h : j < E.length), E[j].key = cuG n b st en j) (he : e.key = cuG n b st en k) : ∀ j (h : j < (E ++ [e]).length), (E ++ [e])[j].key = cuG n b st en j := by
  intro j hj
  by_cases hjk : j < E.length
  · rw [List.getElem_append_left hjk]; exact h j hjk
  · have : j = k := by rw [List.length_append] at hj; simp at hj; omega
    subst this
    rw [List.getElem_append_right (by omega)]
    simpa [hl] using he
theorem cut_last {n : Nat} {b : List UInt8} {st : Nat} {en : Bool} {E : List Be} {e : Be} {k : Nat} (hl : E.length = k) (h : ∀ j (h : j < E.length), E[j].key = cuG n b st en j) (he : e.key = cuF n b st en k k) (h1 : k * n ≤ b.length) (h2 : b.length ≤ (k + 1) * n) : CutP n b st en (E ++ [e]) := by
  refine ⟨k, by rw [List.length_append]; simp [hl], h1, h2, fun j hj => ?_⟩
  by_cases hjk : j < E.length
  · rw [List.getElem_append_left hjk, h j hjk]
    unfold cuF
    rw [if_neg (by omega)]
  · have : j = k := by rw [List.length_append] at hj; simp at hj; omega
    subst this
    rw [List.getElem_append_right (by omega)]
    simpa [hl] using he
end Go.Proofs.YtcbepicdnmnfaaaDoor
