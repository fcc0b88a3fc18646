/-
  Frames of a socket in memory, as they are handed about: one, and a slice of them; what they read, an append of one; blocks of other types are other blocks. No conditions but those that each theorem names.
-/
import Derived.Test.YtdegpchofhnipaaDoorIma
import Derived.Test.YtdegpchofhnipaaDoorFs
namespace Go.Proofs.YtdegpchofhnipaaDoor
open Go.RowKit Go.WideShapes

/-- The block of bytes isn't a row of another type. -/
theorem Bo.neJ {w : World} {base : Nat} {e : TypeId} {v : Value} {l : List UInt8} (h : Bo w base e v l) {k : Nat} {t : TypeId} {cs : Array Value} (hr : Row w k t cs) (ht : t ≠ e) : ¬ ob v k := fun hk => by
  rcases h.2 with ⟨rfl, _⟩ | ⟨g, o, cap, cur, rfl, _, hg, _⟩
  · simp [ob, Value.ownBlock] at hk
  · have : g = k := by simpa [ob, Value.ownBlock] using hk
    subst this
    have h1 : w.heap[g]? = some (.cells cs t) := hr
    rw [hg] at h1
    injection h1 with h1
    injection h1 with h1 h2
    exact ht h2.symm
theorem Row.neJ {w : World} {a b : Nat} {t u : TypeId} {cs ds : Array Value} (h : Row w a t cs) (h' : Row w b u ds) (ht : t ≠ u) : a ≠ b := fun e => by
  subst e
  have h1 : w.heap[a]? = some (.cells cs t) := h
  have h2 : w.heap[a]? = some (.cells ds u) := h'
  rw [h1] at h2
  injection h2 with h2
  injection h2 with h2 h3
  exact ht h3
/-- What is handed back out of two variables and a slot. -/
theorem retJ3 {fn : Func} {p q b : Tmp} {g g' : Nat} {y : Value} {T T' : TypeId} {cs cs' : Array Value} {w : World} (h : fn.results = #[.cell p T, .cell q T', .tmp b]) (tmps : Array Value) (hp : tmps.getD p undef = .pointer (some ⟨g, 0, none⟩)) (hR : Row w g T cs) (hk : AgOk Tryd.prog T cs)
    (hq : tmps.getD q undef = .pointer (some ⟨g', 0, none⟩)) (hR' : Row w g' T' cs') (hk' : AgOk Tryd.prog T' cs') (hb : tmps.getD b undef = y) :
    (results fn tmps).run Tryd.prog w = .ok (.tuple #[.agg cs, .agg cs', y]) w := by
  have hl := run_ld hk hR
  have hl' := run_ld hk' hR'
  have hp' : tmps[p]?.getD undef = .pointer (some ⟨g, 0, none⟩) := by simpa using hp
  have hq' : tmps[q]?.getD undef = .pointer (some ⟨g', 0, none⟩) := by simpa using hq
  have hb' : tmps[b]?.getD undef = y := by simpa using hb
  simp only [results, h]
  simp [hp', hq', hb', asAddr, hl, hl']
def zpJ : Array Value := pcC false 0 false 0 none 0 0
def pcA (p : Pc) (A : Option Addr) (c : Nat) : Array Value := pcC p.fin p.op p.mask p.key A p.dat.length c
/-- A frame that was told, and where its data lie. -/
structure Pe where
  p : Pc
  A : Option Addr
  c : Nat
def Pe.cs (e : Pe) : List Value := (pcA e.p e.A e.c).toList
theorem pe_len (e : Pe) : (Pe.cs e).length = 5 := rfl
theorem pe_one (e : Pe) : ∀ u ∈ Pe.cs e, u.oneCell' = true := by
  intro u hu
  simp [Pe.cs, pcA, pcC] at hu
  rcases hu with rfl | rfl | rfl | rfl | rfl <;> rfl
theorem pcA_ok (p : Pc) (A : Option Addr) (c : Nat) : AgOk Tryd.prog 32 (pcA p A c) := pc_ok _ _ _ _ _ _ _
/-- The slice v has these elements; it is the call's own, and shares no block with what they read nor with X. -/
structure PL (w : World) (base : Nat) (X : Nat → Prop) (v : Value) (L : List Pe) : Prop where
  own : OwS w base 32 5 v L.length (enl Pe.cs L)
  ins : ∀ e ∈ L, RdS w (fun k => k < w.heap.size ∧ ¬ ob v k ∧ ¬ X k) e.A (byc e.p.dat)
  far : ∀ k, ob v k → ¬ X k
/-- Its block isn't a row of another type. -/
theorem OwS.neJ {w : World} {base k n : Nat} {e : TypeId} {v : Value} {cs : List Value} (h : OwS w base e k v n cs) {g : Nat} {t : TypeId} {ds : Array Value} (hr : Row w g t ds) (ht : t ≠ e) : ¬ ob v g := fun hk => by
  rcases h.2 with ⟨rfl, _⟩ | ⟨g', o, cap, cur, rfl, _, hg, _⟩
  · simp [ob, Value.ownBlock] at hk
  · have : g' = g := by simpa [ob, Value.ownBlock] using hk
    subst this
    have h1 : w.heap[g']? = some (.cells ds t) := hr
    rw [hg] at h1
    injection h1 with h1
    injection h1 with h1 h2
    exact ht h2.symm
def noXJ : Nat → Prop := fun _ => False
section
variable {w w' : World} {base : Nat} {X X' : Nat → Prop} {v : Value} {L : List Pe}
/-- Behind a step that turns X alone: X may move to new blocks. -/
theorem PL.move (h : PL w base X v L) (hf : Fs X w w') (hX : ∀ k, X' k → X k ∨ w.heap.size ≤ k) : PL w' base X' v L :=
  ⟨hf.owns h.own h.far, fun e he => ((h.ins e he).keep fun g hg => hf.block g hg.1 hg.2.2).imp fun k hg hl => ⟨hl, hg.2.1, fun h1 => (hX k h1).elim hg.2.2 fun h2 => by omega⟩, fun k hk h1 => (hX k h1).elim (h.far k hk) fun h2 => by
    have := (OwS.lt h.own k hk).2
    omega⟩
theorem PL.fs (h : PL w base X v L) (hf : Fs X w w') : PL w' base X v L := h.move hf fun _ h => .inl h
theorem PL.below (h : PL w base X v L) (hb : Below w.heap.size w w') : PL w' base X v L := h.fs (Fs.of_below hb)
theorem PL.nil (w : World) (base : Nat) (X : Nat → Prop) : PL w base X (.slice none 0 0) [] := ⟨OwS.nil, fun e he => (by cases he), fun k hk => (by cases hk)⟩
theorem PL.made (w : World) (X : Nat → Prop) (hb : base ≤ w.heap.size) (hX : ∀ k, X k → k < w.heap.size) : PL (w.alloc (.cells #[] 32)) base X (.slice (some ⟨w.heap.size, 0, none⟩) 0 0) [] :=
  ⟨OwS.lit w 32 5 0 #[] (by simp) (by simp [maxLen]) hb, fun e he => (by cases he), fun k hk hx => by
    have : w.heap.size = k := by simpa [ob, Value.ownBlock] using hk
    have := hX k hx
    omega⟩
/-- The slice read: each element below the world's size. -/
theorem PL.reads {A : Option Addr} {n c : Nat} (h : PL w base X (.slice A n c) L) : RdS w (· < w.heap.size) A (enl Pe.cs L) ∧ ∀ e ∈ L, RdS w (· < w.heap.size) e.A (byc e.p.dat) :=
  ⟨(OwS.up h.own).imp fun _ hg _ => hg.2, fun e he => (h.ins e he).imp fun _ hg _ => hg.1⟩
theorem PL.shape (h : PL w base X v L) : ∃ A c, v = .slice A L.length c ∧ L.length ≤ c := by
  obtain ⟨A, c, h1, h2, _⟩ := OwS.shape h.own
  exact ⟨A, c, h1, h2⟩
end
theorem pe_info : (Tryd.prog.info? 32).map (fun i => (i.zero, i.size, i.bytes)) = some (some (.agg #[.bool false, .int .u8 0, .bool false, .int .u32 0, .slice none 0 0]), 5, 32) := by kernel_rfl
theorem pe_parts : ∃ i, Tryd.prog.info? 32 = some i ∧ i.zero = some (.agg #[.bool false, .int .u8 0, .bool false, .int .u32 0, .slice none 0 0]) ∧ i.size = 5 ∧ i.bytes = 32 := by
  have h := pe_info
  cases hi : Tryd.prog.info? 32 with
  | none => rw [hi] at h; simp at h
  | some i => rw [hi] at h; simp at h; exact ⟨i, rfl, h.1, h.2.1, h.2.2⟩
theorem run_bsP (p : Pc) (A : Option Addr) (c : Nat) (w : World) : (Instr.buildSlice 22 1 #[(0, .agg (pcA p A c))]).run Tryd.prog w = .ok (.slice (some ⟨w.heap.size, 0, none⟩) 1 1) (w.alloc (.cells (pcA p A c) 32)) := by unfold pcA pcC; kernel_rfl
theorem wpList_bsP {ops : Array Oper} {rest : List Oper} {o : Oper} {a : Act} {w : World} {Q : Exit → Act → World → Prop} (hg : o.guard = none) (y : Operand) (ho : o.op = .buildSlice 22 1 #[(0, y)]) {p : Pc} {A : Option Addr} {c : Nat} (hy : a.eval y = .agg (pcA p A c))
    (h : wpList Tryd.prog ops Q rest (a.put o.dst (.slice (some ⟨w.heap.size, 0, none⟩) 1 1)) (w.alloc (.cells (pcA p A c) 32))) : wpList Tryd.prog ops Q (o :: rest) a w := by
  refine wpList_plain hg fun K' hK' => ?_
  unfold Oper.wp execOp
  simp only [ho, Sem.run_bind, List.map_toArray, List.map_cons, List.map_nil, hy, run_bsP, Result.andThen_ok]
  exact hK' _ _ h
/-- An append of one element that was just laid in a block of its own (q, the newest). -/
theorem wpList_appP {ops : Array Oper} {rest : List Oper} {o : Oper} {a : Act} {w : World} {Q : Exit → Act → World → Prop} (hgd : o.guard = none) (s x : Operand) (ho : o.op = .call { callee := .builtin .append, args := #[s, x], argTypes := #[22, 22] })
    {base : Nat} {X : Nat → Prop} {v : Value} {L : List Pe} (hs : a.eval s = v) (h : PL w base X v L) (e : Pe) (q : Nat) (hx : a.eval x = .slice (some ⟨q, 0, none⟩) 1 1) (hq : Row w q 32 (pcA e.p e.A e.c))
    (he : RdS w (fun k => k < w.heap.size ∧ ¬ ob v k ∧ ¬ X k) e.A (byc e.p.dat)) (hL : L.length ≤ 1000000) (hbase : base ≤ w.heap.size) (hX : ∀ k, X k → k < w.heap.size)
    (hk : ∀ v' w', PL w' base X v' (L ++ [e]) → Fs (ob v) w w' → Nx w v v' → wpList Tryd.prog ops Q rest (a.put o.dst v') w') : wpList Tryd.prog ops Q (o :: rest) a w := by
  obtain ⟨i0, hi0, hz0, hz1, hz2⟩ := pe_parts
  refine wpList_appS hgd s x 22 ho base 32 i0 _ 5 32 Tryd.underlying22 hi0 hz0 hz1 hz2 rfl v L.length (enl Pe.cs L) hs h.own ⟨q, 0, none⟩ 1 1 (Pe.cs e) hx (by rw [pe_len]) (fun j u hj => by
    rw [add_plain, Nat.zero_add]
    exact hq.cell (by simpa [Pe.cs] using hj)) (pe_one e) (by omega) (by simp only [maxLen]; omega) (by omega) hbase (fun A' c' w' ho' hg' hn' => ?_)
  have hf := Fs.of_grown hg'
  have hn := Nx.of_new hn'
  have hown : ∀ k, ob (.slice A' (L.length + 1) c') k → ob v k ∨ w.heap.size ≤ k := fun k hk => hn.own hk
  refine hk _ w' ⟨?_, fun e' he' => ?_, fun k hk hx => ?_⟩ hf hn
  · rw [List.length_append, enl_append, enl_one]
    exact ho'
  · have hin : RdS w (fun k => k < w.heap.size ∧ ¬ ob v k ∧ ¬ X k) e'.A (byc e'.p.dat) := by
      rcases List.mem_append.1 he' with h1 | h1
      · exact h.ins e' h1
      · rw [List.mem_singleton.1 h1]; exact he
    exact (hin.keep fun g hg => hf.block g hg.1 hg.2.1).imp fun g hg hl => ⟨hl, fun h1 => by
      rcases hown g h1 with h2 | h2
      · exact hg.2.1 h2
      · omega, hg.2.2⟩
  · rcases hown k hk with h2 | h2
    · exact h.far k h2 hx
    · have := hX k hx; omega
/-- Element number k of a slice, in memory. -/
theorem pe_at {w : World} {R : Nat → Prop} {A : Option Addr} {L : List Pe} (h : RdS w R A (enl Pe.cs L)) {k : Nat} (hk : k < L.length) : ∃ g p, A = some ⟨g, p, none⟩ ∧ R g ∧ w.rangeAt g (p + k * 5) (pcA L[k].p L[k].A L[k].c).toList := by
  have hl := enl_length pe_len L
  obtain ⟨g, p, e, hg, hc⟩ := h (by intro e; rw [e] at hl; simp at hl; omega)
  refine ⟨g, p, e, hg, fun j v hv => ?_⟩
  have hj : j < 5 := (List.getElem?_eq_some_iff.1 hv).1
  have := hc (k * 5 + j) v (by rw [enl_at pe_len hk hj]; exact hv)
  rwa [show p + (k * 5 + j) = p + k * 5 + j by omega] at this
end Go.Proofs.YtdegpchofhnipaaDoor
