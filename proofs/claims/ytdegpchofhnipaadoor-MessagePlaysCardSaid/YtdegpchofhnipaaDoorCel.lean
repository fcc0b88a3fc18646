/-
  Slices of elements of several cells each, over whatever program: what one reads as, one that the call made (from whatever place of its block on), an append onto it, a part of it, what 'clear' makes of it. No conditions but those that each theorem names.
-/
import Derived.Test.YtdegpchofhnipaaDoorArr
import Derived.Deep.Onto
namespace Go.Proofs.YtdegpchofhnipaaDoor
open Go.RowKit Go.WideShapes

/-- The cells of a list. -/
def enl {α : Type} (enc : α → List Value) (L : List α) : List Value := L.flatMap enc
section
variable {α : Type} {enc : α → List Value} {k : Nat}
theorem enl_nil : enl enc [] = [] := rfl
theorem enl_cons (x : α) (L : List α) : enl enc (x :: L) = enc x ++ enl enc L := rfl
theorem enl_one (x : α) : enl enc [x] = enc x := by simp [enl]
theorem enl_append (A B : List α) : enl enc (A ++ B) = enl enc A ++ enl enc B := by simp [enl]
theorem enl_length (hk : ∀ x, (enc x).length = k) (L : List α) : (enl enc L).length = L.length * k := by
  induction L with
  | nil => simp [enl]
  | cons x L ih => rw [enl_cons, List.length_append, hk, ih, List.length_cons, Nat.succ_mul, Nat.add_comm]
theorem enl_drop (hk : ∀ x, (enc x).length = k) (L : List α) (n : Nat) : (enl enc L).drop (n * k) = enl enc (L.drop n) := by
  induction n generalizing L with
  | zero => simp
  | succ n ih =>
    cases L with
    | nil => simp [enl]
    | cons x L =>
      rw [enl_cons, List.drop_succ_cons, ← ih L, Nat.succ_mul, Nat.add_comm, ← List.drop_drop]
      congr 1
      rw [← hk x, List.drop_left]
theorem enl_at (hk : ∀ x, (enc x).length = k) {L : List α} {i j : Nat} (hi : i < L.length) (hj : j < k) : (enl enc L)[i * k + j]? = (enc L[i])[j]? := by
  rw [← List.getElem?_drop, enl_drop hk, List.drop_eq_getElem_cons hi, enl_cons, List.getElem?_append_left (by rw [hk]; exact hj)]
theorem enl_oneCell (h : ∀ x, ∀ u ∈ enc x, u.oneCell' = true) (L : List α) : ∀ u ∈ enl enc L, u.oneCell' = true := by
  intro u hu
  obtain ⟨x, _, hx⟩ := List.mem_flatMap.1 hu
  exact h x u hx
end

/-- A slice with this address reads as these cells; its block is one of S. -/
def RdS (w : World) (S : Nat → Prop) (A : Option Addr) (cs : List Value) : Prop :=
  cs ≠ [] → ∃ g o, A = some ⟨g, o, none⟩ ∧ S g ∧ ∀ j u, cs[j]? = some u → w.cell? ⟨g, o + j, none⟩ = some u
/-- A slice of n elements of k cells that the call made (from block base on) owns these cells, and its room. -/
def OwS (w : World) (base : Nat) (e : TypeId) (k : Nat) (v : Value) (n : Nat) (cs : List Value) : Prop :=
  cs.length = n * k ∧ ((v = .slice none 0 0 ∧ n = 0) ∨
    ∃ g o c cur, v = .slice (some ⟨g, o, none⟩) n c ∧ base ≤ g ∧ Row w g e cur ∧ n ≤ c ∧ c ≤ maxLen ∧ o + c * k ≤ cur.size ∧ (cur.toList.drop o).take (n * k) = cs)

section
variable {w w' : World} {S S' : Nat → Prop} {A : Option Addr} {cs ds : List Value} {base : Nat} {e : TypeId} {k n : Nat} {v : Value}
theorem RdS.nil : RdS w S A [] := fun h => absurd rfl h
theorem RdS.keep (h : RdS w S A cs) (hk : ∀ g, S g → w'.heap[g]? = w.heap[g]?) : RdS w' S A cs := fun hl => by
  obtain ⟨g, o, e, hg, hc⟩ := h hl
  exact ⟨g, o, e, hg, fun j u hj => (World.cell?_of_block (a := ⟨g, o + j, none⟩) (hk g hg)).trans (hc j u hj)⟩
theorem RdS.imp (h : RdS w S A cs) (hS : ∀ g, S g → g < w.heap.size → S' g) : RdS w S' A cs := fun hl => by
  obtain ⟨g, o, e, hg, hc⟩ := h hl
  have h0 : 0 < cs.length := List.length_pos_iff.2 hl
  exact ⟨g, o, e, hS g hg (World.block_lt_of_cell? w _ (hc 0 _ (List.getElem?_eq_getElem h0))), hc⟩
theorem RdS.below {B : Nat} (h : RdS w (· < B) A cs) (hb : Below B w w') : RdS w' (· < B) A cs := h.keep fun g hg => hb.block g hg

theorem OwS.len (h : OwS w base e k v n cs) : cs.length = n * k := h.1
theorem OwS.nil : OwS w base e k (.slice none 0 0) 0 [] := ⟨by simp, .inl ⟨rfl, rfl⟩⟩
theorem OwS.shape (h : OwS w base e k v n cs) : ∃ A c, v = .slice A n c ∧ n ≤ c ∧ c ≤ maxLen := by
  rcases h.2 with ⟨rfl, rfl⟩ | ⟨g, o, c, cur, rfl, _, _, h1, h2, _⟩
  · exact ⟨none, 0, rfl, Nat.le_refl _, by simp [maxLen]⟩
  · exact ⟨_, c, rfl, h1, h2⟩
theorem OwS.lt (h : OwS w base e k v n cs) : ∀ g, v.ownBlock = some g → base ≤ g ∧ g < w.heap.size := by
  intro g hg
  rcases h.2 with ⟨rfl, _⟩ | ⟨g', o, c, cur, rfl, hb, hr, _⟩
  · simp [Value.ownBlock] at hg
  · simp [Value.ownBlock] at hg
    subst hg
    exact ⟨hb, hr.lt⟩
theorem OwS.reads {A : Option Addr} {m c : Nat} (h : OwS w base e k (.slice A m c) n cs) : RdS w (fun g => (Value.slice A m c).ownBlock = some g) A cs := fun hl => by
  rcases h.2 with ⟨e1, rfl⟩ | ⟨g, o, c', cur, e1, hb, hr, h1, h2, h3, h4⟩
  · exact absurd (List.eq_nil_of_length_eq_zero (by rw [h.1]; simp)) hl
  · injection e1 with e1 e2 e3
    subst e1 e2 e3
    refine ⟨g, o, rfl, rfl, fun j u hu => ?_⟩
    rw [← h4, List.getElem?_take] at hu
    split at hu
    · rw [List.getElem?_drop] at hu
      exact hr.cell (by simpa using hu)
    · cases hu
theorem OwS.keep (h : OwS w base e k v n cs) (hk : ∀ g, v.ownBlock = some g → w'.heap[g]? = w.heap[g]?) : OwS w' base e k v n cs := by
  refine ⟨h.1, ?_⟩
  rcases h.2 with hn | ⟨g, o, c, cur, rfl, hb, hr, rest⟩
  · exact .inl hn
  · exact .inr ⟨g, o, c, cur, rfl, hb, (hk g rfl).trans hr, rest⟩
theorem OwS.below (h : OwS w base e k v n cs) (hb : Below w.heap.size w w') : OwS w' base e k v n cs := h.keep fun g hg => hb.block g (h.lt g hg).2
theorem OwS.alloc (h : OwS w base e k v n cs) (o : Obj) : OwS (w.alloc o) base e k v n cs := h.keep fun g hg => Below.heap_alloc w o g (h.lt g hg).2
theorem OwS.setCell (h : OwS w base e k v n cs) {a : Addr} (hne : v.ownBlock ≠ some a.block) (x : Value) : OwS (w.setCell a x) base e k v n cs := h.keep fun g hg => Below.heap_setCell w a x g (fun e1 => hne (by rw [hg, e1]))
theorem OwS.setRow (h : OwS w base e k v n cs) {g : Nat} (hne : v.ownBlock ≠ some g) (x : Array Value) : OwS (w.setRow g x) base e k v n cs := h.keep fun g' hg => setRow_other w g g' x (fun e1 => hne (by rw [hg, e1]))
theorem OwS.mono {base' : Nat} (h : OwS w base e k v n cs) (hb : base' ≤ base) : OwS w base' e k v n cs := by
  refine ⟨h.1, ?_⟩
  rcases h.2 with hn | ⟨g, o, c, cur, rfl, h1, rest⟩
  · exact .inl hn
  · exact .inr ⟨g, o, c, cur, rfl, by omega, rest⟩
theorem OwS.of_row (h : w.ownsRow base e k v n cs) : OwS w base e k v n cs := by
  refine ⟨h.1, ?_⟩
  rcases h.2 with hn | ⟨g, c, cur, rfl, h1, h2, h3, h4, h5, h6⟩
  · exact .inl hn
  · exact .inr ⟨g, 0, c, cur, rfl, h1, h2, h3, h4, by omega, by rw [List.drop_zero]; exact h6⟩
theorem RdS.up (h : RdS w (· < w.heap.size) A cs) (hb : Below w.heap.size w w') : RdS w' (· < w'.heap.size) A cs :=
  (h.below hb).imp fun _ hg _ => Nat.lt_of_lt_of_le hg hb.size
theorem OwS.up {m c : Nat} (h : OwS w base e k (.slice A m c) n cs) : RdS w (fun b => base ≤ b ∧ b < w.heap.size) A cs :=
  h.reads.imp fun g hg hl => ⟨(h.lt g hg).1, hl⟩
/-- One that was just laid, with no room to spare. -/
theorem OwS.lit (w : World) (e : TypeId) (k n : Nat) (cs : Array Value) (hn : cs.size = n * k) (hm : n ≤ maxLen) (hb : base ≤ w.heap.size) : OwS (w.alloc (.cells cs e)) base e k (.slice (Option.some ⟨w.heap.size, 0, none⟩) n n) n cs.toList := by
  refine ⟨by simpa using hn, .inr ⟨w.heap.size, 0, n, cs, rfl, hb, Row.new w e cs, Nat.le_refl _, hm, by omega, ?_⟩⟩
  rw [List.drop_zero, List.take_of_length_le (by simp [hn])]
end

section
variable {P : Program}

theorem run_appS_room (w : World) (t ty e : TypeId) (i : TypeInfo) (ht : P.underlying t = some (.slice e)) (hi : P.info? e = some i)
    (g o n c : Nat) (cur : Array Value) (hg : Row w g e cur)
    (a : Addr) (m c' : Nat) (news : List Value) (hl : news.length = m * i.size) (hnews : ∀ j u, news[j]? = some u → w.cell? (a.add j) = some u) (h1 : ∀ u ∈ news, u.oneCell' = true)
    (hroom : n + m ≤ c) (hfit : o + c * i.size ≤ cur.size) :
    (Builtin.append_ #[t, t] ty #[.slice (some ⟨g, o, none⟩) n c, .slice (some a) m c']).run P w =
      .ok (.slice (some ⟨g, o, none⟩) (n + m) c) (w.setRow g (cur.toList.take (o + n * i.size) ++ news ++ cur.toList.drop (o + n * i.size + news.length)).toArray) := by
  have hf := run_firstCells_some (P := P) w i.size m a m c' news hl hnews
  have hle : (n + m) * i.size ≤ c * i.size := Nat.mul_le_mul_right _ hroom
  rw [Nat.add_mul] at hle
  have hst := run_storeCells_at P g (o + n * i.size) e news 0 cur w hg (by rw [hl]; omega) h1
  simp only [Nat.add_zero] at hst
  have hadd : (⟨g, o, none⟩ : Addr).add (n * i.size) = ⟨g, o + n * i.size, none⟩ := add_plain ..
  simp [Builtin.append_, run_underlying ht, sizeOf, typeInfo, hi, Builtin.lenOf, hroom, hf, hadd, hst]

/-- An append onto a slice that the call made. -/
theorem run_appS (w : World) (base : Nat) (t ty e : TypeId) (i : TypeInfo) (z : Value) (k bytes : Nat) (ht : P.underlying t = some (.slice e)) (hi : P.info? e = some i) (hz : i.zero = some z) (hsize : i.size = k) (hby : i.bytes = bytes) (hzs : z.cells.size = k)
    {v : Value} {n : Nat} {cs : List Value} (hown : OwS w base e k v n cs)
    (a : Addr) (m c : Nat) (news : List Value) (hl : news.length = m * k) (hnews : ∀ j u, news[j]? = some u → w.cell? (a.add j) = some u) (h1 : ∀ u ∈ news, u.oneCell' = true)
    (hm : 0 < m) (h63 : n + m ≤ maxLen) (hbytes : (n + m) * bytes ≤ 140737488355328) (hbase : base ≤ w.heap.size) :
    ∃ A' c' w', (Builtin.append_ #[t, t] ty #[v, .slice (some a) m c]).run P w = .ok (.slice A' (n + m) c') w' ∧ OwS w' base e k (.slice A' (n + m) c') (n + m) (cs ++ news) ∧ w.grownBy w' v.ownBlock ∧
      ((Value.slice A' (n + m) c').ownBlock = v.ownBlock ∨ (Value.slice A' (n + m) c').ownBlock = some w.heap.size) := by
  subst hsize
  subst hby
  have hlen : (cs ++ news).length = (n + m) * i.size := by rw [List.length_append, hown.1, hl, Nat.add_mul]
  have hsmall : n + m ≤ 9223372036854775807 := by simp only [maxLen] at h63; omega
  have grown : ∀ (old : Nat), old < n + m → ∀ row : Option Nat,
      OwS (w.drew.alloc (.cells (cs.toArray ++ news.toArray ++ Builtin.zeroCells z.cells (grownCap w (n + m) old e - (n + m))) e)) base e i.size (.slice (some ⟨w.heap.size, 0, none⟩) (n + m) (grownCap w (n + m) old e)) (n + m) (cs ++ news) ∧
      w.grownBy (w.drew.alloc (.cells (cs.toArray ++ news.toArray ++ Builtin.zeroCells z.cells (grownCap w (n + m) old e - (n + m))) e)) row := by
    intro old _ row
    have hge := grownCap_ge w (n + m) old e
    have hcm : grownCap w (n + m) old e ≤ maxLen := grownCap_le_maxLen w (n + m) old e h63
    refine ⟨⟨hlen, .inr ⟨w.heap.size, 0, _, _, rfl, hbase, heap_alloc_new w.drew _, hge, hcm, ?_, ?_⟩⟩, ⟨rfl, rfl, rfl, by simp, fun k hk _ => Below.heap_alloc w.drew _ k hk⟩⟩
    · simp only [Array.size_append, List.size_toArray, size_zeroCells, hzs, hown.1, hl, ← Nat.add_mul]
      rw [Nat.zero_add]
      exact Nat.mul_le_mul_right _ (by omega)
    · simp only [List.drop_zero, Array.toList_append, List.append_assoc]
      rw [← List.append_assoc, ← hlen]
      exact List.take_left
  rcases hown.2 with ⟨rfl, rfl⟩ | ⟨g, o, cap, cur, rfl, hbg, hg, hnc, hcm, hcs, htake⟩
  · have hx : cs = [] := List.eq_nil_of_length_eq_zero (by simpa using hown.1)
    subst hx
    have hr := run_append_nil (P := P) w t ty e i z ht hi hz a m c news hl hnews (by omega) (by omega) (by have hb := hbytes; simp only [Nat.zero_add] at hb; omega)
    have hgr := grown 0 (by omega) (Value.ownBlock (.slice none 0 0))
    simp only [Nat.zero_add, List.nil_append, Array.empty_append] at hgr ⊢
    exact ⟨_, _, _, hr, hgr.1, hgr.2, Or.inr rfl⟩
  · by_cases hroom : n + m ≤ cap
    · have hr := run_appS_room (P := P) w t ty e i ht hi g o n cap cur hg a m c news hl hnews h1 hroom hcs
      have hle : (n + m) * i.size ≤ cap * i.size := Nat.mul_le_mul_right _ hroom
      have hle' := hle
      rw [Nat.add_mul] at hle'
      refine ⟨_, _, _, hr, ⟨hlen, .inr ⟨g, o, cap, _, rfl, hbg, hg.setRow _, hroom, hcm, ?_, ?_⟩⟩, ⟨rfl, rfl, rfl, by simp, fun k _ hk => setRow_other w g k _ (fun e1 => hk (by simp [Value.ownBlock, e1]))⟩, Or.inl rfl⟩
      · simp only [List.size_toArray, List.length_append, List.length_take, List.length_drop, Array.length_toList, hl]
        omega
      · have e1 : (cur.toList.take (o + n * i.size) ++ news ++ cur.toList.drop (o + n * i.size + news.length)).drop o = (cur.toList.drop o).take (n * i.size) ++ news ++ cur.toList.drop (o + n * i.size + news.length) := by
          rw [List.append_assoc, List.drop_append_of_le_length (by simp; omega), List.drop_take, Nat.add_sub_cancel_left, List.append_assoc]
        show ((cur.toList.take (o + n * i.size) ++ news ++ cur.toList.drop (o + n * i.size + news.length)).drop o).take ((n + m) * i.size) = cs ++ news
        rw [e1, htake, ← hlen]
        exact List.take_left
    · have holds : ∀ j u, cs[j]? = some u → w.cell? ((⟨g, o, none⟩ : Addr).add j) = some u := by
        intro j u hu
        rw [add_plain]
        have hne : cs ≠ [] := by rintro rfl; simp at hu
        obtain ⟨g', o', e1, _, hc⟩ := hown.reads hne
        injection e1 with e1
        injection e1 with e1 e2
        subst e1 e2
        exact hc j u hu
      have hr := run_append_grow (P := P) w t ty e i z ht hi hz ⟨g, o, none⟩ n cap cs hown.1 holds a m c news hl hnews (by omega) (by omega) (growslice_fits (by omega) hbytes)
      have hgr := grown cap (by omega) (Value.ownBlock (.slice (some ⟨g, o, none⟩) n cap))
      exact ⟨_, _, _, hr, hgr.1, hgr.2, Or.inr rfl⟩

/-- An append onto a slice that the call made, from any slice, an empty one too. -/
theorem run_appS_any (w : World) (base : Nat) (t ty e : TypeId) (i : TypeInfo) (z : Value) (k bytes : Nat) (ht : P.underlying t = some (.slice e)) (hi : P.info? e = some i) (hz : i.zero = some z) (hsize : i.size = k) (hby : i.bytes = bytes) (hzs : z.cells.size = k) (hk : 0 < k)
    {v : Value} {n : Nat} {cs : List Value} (hown : OwS w base e k v n cs)
    {S : Nat → Prop} {A : Option Addr} (m c : Nat) {news : List Value} (hl : news.length = m * k) (hr : RdS w S A news) (h1 : ∀ u ∈ news, u.oneCell' = true)
    (h63 : n + m ≤ maxLen) (hbytes : (n + m) * bytes ≤ 140737488355328) (hbase : base ≤ w.heap.size) :
    ∃ A' c' w', (Builtin.append_ #[t, t] ty #[v, .slice A m c]).run P w = .ok (.slice A' (n + m) c') w' ∧ OwS w' base e k (.slice A' (n + m) c') (n + m) (cs ++ news) ∧ w.grownBy w' v.ownBlock ∧
      ((Value.slice A' (n + m) c').ownBlock = v.ownBlock ∨ (Value.slice A' (n + m) c').ownBlock = some w.heap.size) := by
  by_cases hm : m = 0
  · subst hm
    have hn : news = [] := List.eq_nil_of_length_eq_zero (by simpa using hl)
    subst hn
    obtain ⟨A', c', rfl, hle, _⟩ := hown.shape
    have hrun : (Builtin.append_ #[t, t] ty #[.slice A' n c', .slice A 0 c]).run P w = .ok (.slice A' n c') w := by
      cases A <;> cases A' <;> simp [Builtin.append_, run_underlying ht, sizeOf, typeInfo, hi, Builtin.lenOf, Builtin.firstCells, loadCells, loadCellsFrom, hle, storeCells]
    exact ⟨A', c', w, hrun, by simpa using hown, ⟨rfl, rfl, rfl, Nat.le_refl _, fun _ _ _ => rfl⟩, .inl rfl⟩
  · have hne : news ≠ [] := by
      intro e0
      have h0 := Nat.mul_pos (Nat.pos_of_ne_zero hm) hk
      rw [← hl, e0] at h0
      simp at h0
    obtain ⟨g, o, rfl, _, hc⟩ := hr hne
    exact run_appS (P := P) w base t ty e i z k bytes ht hi hz hsize hby hzs hown ⟨g, o, none⟩ m c news hl (fun j u hj => by rw [add_plain]; exact hc j u hj) h1 (by omega) h63 hbytes hbase
theorem wpList_appS_any {ops : Array Oper} {rest : List Oper} {o : Oper} {a : Act} {w : World} {Q : Exit → Act → World → Prop} (hgd : o.guard = none) (s x : Operand) (t : TypeId)
    (ho : o.op = .call { callee := .builtin .append, args := #[s, x], argTypes := #[t, t] })
    (base : Nat) (e : TypeId) (i : TypeInfo) (z : Value) (k bytes : Nat) (ht : P.underlying t = some (.slice e)) (hi : P.info? e = some i) (hz : i.zero = some z) (hsize : i.size = k) (hby : i.bytes = bytes) (hzs : z.cells.size = k) (hk : 0 < k)
    (v : Value) (n : Nat) (cs : List Value) (hs : a.eval s = v) (hown : OwS w base e k v n cs) (S : Nat → Prop) (A : Option Addr) (m c : Nat) (news : List Value) (hx : a.eval x = .slice A m c) (hl : news.length = m * k) (hr : RdS w S A news) (h1 : ∀ u ∈ news, u.oneCell' = true)
    (h63 : n + m ≤ maxLen) (hbytes : (n + m) * bytes ≤ 140737488355328) (hbase : base ≤ w.heap.size)
    (h : ∀ A' c' w', OwS w' base e k (.slice A' (n + m) c') (n + m) (cs ++ news) → w.grownBy w' v.ownBlock →
      ((Value.slice A' (n + m) c').ownBlock = v.ownBlock ∨ (Value.slice A' (n + m) c').ownBlock = some w.heap.size) → wpList P ops Q rest (a.put o.dst (.slice A' (n + m) c')) w') : wpList P ops Q (o :: rest) a w := by
  refine wpList_plain hgd fun K hK => ?_
  obtain ⟨A', c', w', hrun, h2, h3, h4⟩ := run_appS_any (P := P) w base t o.type e i z k bytes ht hi hz hsize hby hzs hk hown m c hl hr h1 h63 hbytes hbase
  unfold Oper.wp execOp
  simp only [ho, resolve, invoke, builtin, Sem.run_bind, Sem.run_pure, Result.andThen_ok, List.map_toArray, List.map_cons, List.map_nil, hs, hx, hrun]
  exact hK _ _ (h A' c' w' h2 h3 h4)

/-- The same, at a step of a region that draws its order. -/
theorem step_appS {ops : Array Oper} {o : Oper} {a : Act} {w : World} {K : Act → World → Prop} {Q : Exit → Act → World → Prop} {E : Prop} (hgd : o.guard = none) (s x : Operand) (t : TypeId)
    (ho : o.op = .call { callee := .builtin .append, args := #[s, x], argTypes := #[t, t] })
    (base : Nat) (e : TypeId) (i : TypeInfo) (z : Value) (k bytes : Nat) (ht : P.underlying t = some (.slice e)) (hi : P.info? e = some i) (hz : i.zero = some z) (hsize : i.size = k) (hby : i.bytes = bytes) (hzs : z.cells.size = k)
    (v : Value) (n : Nat) (cs : List Value) (hs : a.eval s = v) (hown : OwS w base e k v n cs) (ad : Addr) (m c : Nat) (news : List Value) (hx : a.eval x = .slice (some ad) m c) (hl : news.length = m * k) (hnews : ∀ j u, news[j]? = some u → w.cell? (ad.add j) = some u) (h1 : ∀ u ∈ news, u.oneCell' = true)
    (hm : 0 < m) (h63 : n + m ≤ maxLen) (hbytes : (n + m) * bytes ≤ 140737488355328) (hbase : base ≤ w.heap.size)
    (h : ∀ A' c' w', OwS w' base e k (.slice A' (n + m) c') (n + m) (cs ++ news) → w.grownBy w' v.ownBlock →
      ((Value.slice A' (n + m) c').ownBlock = v.ownBlock ∨ (Value.slice A' (n + m) c').ownBlock = some w.heap.size) → K (a.put o.dst (.slice A' (n + m) c')) w') :
    if Region.wanted o (yielded ops a.tmps) = true then Oper.wp P o a w K Q else E := by
  have hw : Region.wanted o (yielded ops a.tmps) = true := by simp [Region.wanted, hgd]
  rw [if_pos hw]
  obtain ⟨A', c', w', hrun, h2, h3, h4⟩ := run_appS (P := P) w base t o.type e i z k bytes ht hi hz hsize hby hzs hown ad m c news hl hnews h1 hm h63 hbytes hbase
  unfold Oper.wp execOp
  simp only [ho, resolve, invoke, builtin, Sem.run_bind, Sem.run_pure, Result.andThen_ok, List.map_toArray, List.map_cons, List.map_nil, hs, hx, hrun]
  exact h A' c' w' h2 h3 h4
/-- The same, in a region whose order is fixed. -/
theorem wpList_appS {ops : Array Oper} {rest : List Oper} {o : Oper} {a : Act} {w : World} {Q : Exit → Act → World → Prop} (hgd : o.guard = none) (s x : Operand) (t : TypeId)
    (ho : o.op = .call { callee := .builtin .append, args := #[s, x], argTypes := #[t, t] })
    (base : Nat) (e : TypeId) (i : TypeInfo) (z : Value) (k bytes : Nat) (ht : P.underlying t = some (.slice e)) (hi : P.info? e = some i) (hz : i.zero = some z) (hsize : i.size = k) (hby : i.bytes = bytes) (hzs : z.cells.size = k)
    (v : Value) (n : Nat) (cs : List Value) (hs : a.eval s = v) (hown : OwS w base e k v n cs) (ad : Addr) (m c : Nat) (news : List Value) (hx : a.eval x = .slice (some ad) m c) (hl : news.length = m * k) (hnews : ∀ j u, news[j]? = some u → w.cell? (ad.add j) = some u) (h1 : ∀ u ∈ news, u.oneCell' = true)
    (hm : 0 < m) (h63 : n + m ≤ maxLen) (hbytes : (n + m) * bytes ≤ 140737488355328) (hbase : base ≤ w.heap.size)
    (h : ∀ A' c' w', OwS w' base e k (.slice A' (n + m) c') (n + m) (cs ++ news) → w.grownBy w' v.ownBlock →
      ((Value.slice A' (n + m) c').ownBlock = v.ownBlock ∨ (Value.slice A' (n + m) c').ownBlock = some w.heap.size) → wpList P ops Q rest (a.put o.dst (.slice A' (n + m) c')) w') : wpList P ops Q (o :: rest) a w := by
  refine wpList_plain hgd fun K hK => ?_
  obtain ⟨A', c', w', hrun, h2, h3, h4⟩ := run_appS (P := P) w base t o.type e i z k bytes ht hi hz hsize hby hzs hown ad m c news hl hnews h1 hm h63 hbytes hbase
  unfold Oper.wp execOp
  simp only [ho, resolve, invoke, builtin, Sem.run_bind, Sem.run_pure, Result.andThen_ok, List.map_toArray, List.map_cons, List.map_nil, hs, hx, hrun]
  exact hK _ _ (h A' c' w' h2 h3 h4)

/-- 's[k:]' of a slice that the call made, behind 'clear(s[:k])'. -/
theorem run_shed (w : World) (base : Nat) (t e : TypeId) (i : TypeInfo) (z : Value) (k : Nat) (ht : P.underlying t = some (.slice e)) (hi : P.info? e = some i) (hz : i.zero = some z) (hsize : i.size = k) (hzs : z.cells.size = k) (hz1 : ∀ u ∈ z.cells.toList, u.oneCell' = true)
    {A : Option Addr} {n c : Nat} {cs : List Value} (hown : OwS w base e k (.slice A n c) n cs) (m : Nat) (hmn : m ≤ n) :
    ∃ A' w', (∀ W, (Instr.slice t (.slice A n c) none (some (.int .i64 (m : Int))) none).run P W = .ok (.slice A m c) W) ∧
      (∀ ty, (Builtin.clear_ #[t] ty #[.slice A m c]).run P w = .ok (.tuple #[]) w') ∧ w.grownBy w' (Value.slice A n c).ownBlock ∧
      (∀ W, (Instr.slice t (.slice A n c) (some (.int .i64 (m : Int))) none none).run P W = .ok (.slice A' (n - m) (c - m)) W) ∧
      OwS w' base e k (.slice A' (n - m) (c - m)) (n - m) (cs.drop (m * k)) ∧ (Value.slice A' (n - m) (c - m)).ownBlock = (Value.slice A n c).ownBlock := by
  subst hsize
  have ht' : P.underlying t = some (.slice (P.elem t)) := by simp [Program.elem, ht]
  have he : P.elem t = e := by simp [Program.elem, ht]
  obtain ⟨_, _, e0, hnc, _⟩ := hown.shape
  injection e0 with _ _ e0
  subst e0
  have hA : ∀ A : Option Addr, A.map (fun x => x.add 0) = A := fun A => by
    cases A with
    | none => rfl
    | some a => simp [Addr.add]
  have hup : ∀ W, (Instr.slice t (.slice A n c) none (some (.int .i64 (m : Int))) none).run P W = .ok (.slice A m c) W := fun W => by
    rw [run_slice_h W t A n c ht' .i64 m (by omega) (by omega), he]
    simp [sizeOf, typeInfo, hi, sliced, Result.andThen, hA]
  have hfrom : ∀ W, (Instr.slice t (.slice A n c) (some (.int .i64 (m : Int))) none none).run P W = .ok (.slice (if c = m then A else A.map (·.add (m * i.size))) (n - m) (c - m)) W := fun W => by
    rw [run_slice_l W t A n c ht' .i64 m (by omega) (by omega), he]
    simp [sizeOf, typeInfo, hi, sliced, Result.andThen]
  rcases hown.2 with ⟨e1, rfl⟩ | ⟨g, o, c', cur, e1, hbg, hg, _, hcm, hfit, htake⟩
  · injection e1 with e1 e2 e3
    subst e1 e3
    obtain rfl : m = 0 := by omega
    have hx : cs = [] := List.eq_nil_of_length_eq_zero (by simpa using hown.1)
    subst hx
    refine ⟨none, w, hup, fun ty => ?_, ⟨rfl, rfl, rfl, Nat.le_refl _, fun _ _ _ => rfl⟩, fun W => ?_, by simpa using OwS.nil, rfl⟩
    · simp [Builtin.clear_, run_underlying ht]
    · rw [hfrom]; simp
  · injection e1 with e1 e2 e3
    subst e1 e3
    have hle : m * i.size ≤ n * i.size := Nat.mul_le_mul_right _ hmn
    have hle2 : n * i.size ≤ c * i.size := Nat.mul_le_mul_right _ hnc
    have hzl : (Builtin.zeroCells z.cells m).toList.length = m * i.size := by rw [Array.length_toList, size_zeroCells, hzs]
    have hst := run_storeCells_at P g o e (Builtin.zeroCells z.cells m).toList 0 cur w hg (by rw [hzl]; omega) (by
      intro u hu
      simp only [Builtin.zeroCells, Array.toList_map, List.mem_map, Array.toList_range] at hu
      obtain ⟨j, hj, rfl⟩ := hu
      have hpos : 0 < z.cells.size := by
        rcases Nat.eq_zero_or_pos z.cells.size with h0 | h0
        · rw [h0] at hj; simp at hj
        · exact h0
      have hlt := Nat.mod_lt j hpos
      exact hz1 _ (by rw [getElem!_pos z.cells (j % z.cells.size) hlt]; exact Array.getElem_mem_toList ..))
    simp only [Nat.add_zero] at hst
    have hblk : (Value.slice (if c = m then some ⟨g, o, none⟩ else (some (⟨g, o, none⟩ : Addr)).map (·.add (m * i.size))) (n - m) (c - m)).ownBlock = some g := by
      split <;> simp [Value.ownBlock, add_plain]
    have hdrop : ∀ cur' : Array Value, cur'.size = cur.size → cur'.toList.drop (o + m * i.size) = cur.toList.drop (o + m * i.size) → ∀ w', Row w' g e cur' →
        OwS w' base e i.size (.slice (if c = m then some ⟨g, o, none⟩ else (some (⟨g, o, none⟩ : Addr)).map (·.add (m * i.size))) (n - m) (c - m)) (n - m) (cs.drop (m * i.size)) := by
      intro cur' hs' hd w' hR
      have hm1 : (c - m) * i.size = c * i.size - m * i.size := Nat.sub_mul ..
      have hm2 : (n - m) * i.size = n * i.size - m * i.size := Nat.sub_mul ..
      refine ⟨by rw [List.length_drop, hown.1, hm2], ?_⟩
      by_cases hcm' : c = m
      · subst hcm'
        obtain rfl : n = c := by omega
        rw [if_pos rfl]
        refine .inr ⟨g, o, n - n, cur', rfl, hbg, hR, by omega, by omega, by rw [hm1]; omega, ?_⟩
        rw [Nat.sub_self, Nat.zero_mul, List.take_zero, List.drop_of_length_le (by rw [hown.1]; omega)]
      · rw [if_neg hcm']
        refine .inr ⟨g, o + m * i.size, c - m, cur', by rw [Option.map_some, add_plain], hbg, hR, by omega, by omega, by rw [hm1, hs']; omega, ?_⟩
        rw [hd, ← htake, List.drop_take, List.drop_drop, hm2]
    cases m with
    | zero =>
      refine ⟨_, w, hup, fun ty => ?_, ⟨rfl, rfl, rfl, Nat.le_refl _, fun _ _ _ => rfl⟩, hfrom, hdrop cur rfl rfl w hg, hblk⟩
      simp [Builtin.clear_, run_underlying ht]
    | succ m =>
      obtain ⟨cur', hcur⟩ : ∃ cur' : Array Value, cur' = (cur.toList.take o ++ (Builtin.zeroCells z.cells (m + 1)).toList ++ cur.toList.drop (o + (Builtin.zeroCells z.cells (m + 1)).toList.length)).toArray := ⟨_, rfl⟩
      rw [← hcur] at hst
      have h1 : cur'.size = cur.size := by
        rw [hcur]
        simp only [List.size_toArray, List.length_append, List.length_take, List.length_drop, hzl]
        rw [Array.length_toList]
        omega
      have h2 : cur'.toList.drop (o + (m + 1) * i.size) = cur.toList.drop (o + (m + 1) * i.size) := by
        have hl : (cur.toList.take o ++ (Builtin.zeroCells z.cells (m + 1)).toList).length = o + (m + 1) * i.size := by
          rw [List.length_append, hzl, List.length_take, Array.length_toList]
          omega
        rw [hcur, List.toList_toArray, hzl, ← hl, List.drop_left]
      refine ⟨_, w.setRow g cur', hup, fun ty => ?_, ⟨rfl, rfl, rfl, by simp, fun k _ hk => setRow_other w g k _ (fun e1 => hk (by simp [Value.ownBlock, e1]))⟩, hfrom, hdrop cur' h1 h2 _ (hg.setRow _), hblk⟩
      simp [Builtin.clear_, run_underlying ht, zeroValue, typeInfo, hi, hz, hst]
end
end Go.Proofs.YtdegpchofhnipaaDoor
