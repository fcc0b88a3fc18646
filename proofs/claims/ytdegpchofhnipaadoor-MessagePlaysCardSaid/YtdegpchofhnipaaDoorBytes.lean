/-
  Slices of bytes in memory, over whatever program: what one reads as, what becomes of it behind other writes, its text, an append onto one that the call itself made. No conditions but those that each theorem names.
-/
import Derived.WalkKit
import Derived.Below
import Derived.Laws.OwnMore
import Derived.Laws.BytesArg
import Derived.Deep.AppendLies
import Derived.Deep.Draws
import Derived.Maps.AppendAt
import Derived.WideShapes
import Derived.Lib.Hide
namespace Go.Proofs.YtdegpchofhnipaaDoor
open Go.RowKit Go.WideShapes

/-- The cells of bytes. -/
def byc (l : List UInt8) : List Value := l.map fun b => Value.int .u8 (b.toNat : Int)
theorem byc_length (l : List UInt8) : (byc l).length = l.length := by simp [byc]
theorem byc_append (l m : List UInt8) : byc (l ++ m) = byc l ++ byc m := by simp [byc]
theorem byc_one (l : List UInt8) : ∀ u ∈ byc l, u.oneCell' = true := by
  intro u hu
  obtain ⟨b, _, rfl⟩ := List.mem_map.1 hu
  rfl
theorem byc_at {l : List UInt8} {j : Nat} (h : j < l.length) : (byc l)[j]? = some (.int .u8 (l[j].toNat : Int)) := by simp [byc, h]
theorem byc_get {l : List UInt8} {j : Nat} {u : Value} (h : (byc l)[j]? = some u) : ∃ hj : j < l.length, u = .int .u8 (l[j].toNat : Int) := by
  have hj : j < l.length := by
    rcases Nat.lt_or_ge j l.length with h1 | h1
    · exact h1
    · rw [List.getElem?_eq_none (by rw [byc_length]; exact h1)] at h; cases h
  rw [byc_at hj] at h
  exact ⟨hj, (Option.some.inj h).symm⟩

/-- A slice with this address reads as these bytes; it lies below block B. -/
def RdB (w : World) (B : Nat) (A : Option Addr) (l : List UInt8) : Prop :=
  l ≠ [] → ∃ g o, A = some ⟨g, o, none⟩ ∧ g < B ∧ ∀ j, (h : j < l.length) → w.cell? ⟨g, o + j, none⟩ = some (.int .u8 (l[j].toNat : Int))
/-- A slice that the call made (from block base on) owns these bytes. -/
def OwB (w : World) (base : Nat) (e : TypeId) (v : Value) (l : List UInt8) : Prop := w.ownsRow base e 1 v l.length (byc l)

section
variable {w w' : World} {B B' base : Nat} {A : Option Addr} {l m : List UInt8} {e : TypeId} {v : Value}
theorem RdB.nil : RdB w B A [] := fun h => absurd rfl h
theorem RdB.keep (h : RdB w B A l) (hk : ∀ p : Addr, p.block < B → w'.cell? p = w.cell? p) : RdB w' B A l := fun hl => by
  obtain ⟨g, o, e, hg, hc⟩ := h hl
  exact ⟨g, o, e, hg, fun j hj => (hk _ hg).trans (hc j hj)⟩
theorem RdB.more (h : RdB w B A l) (hB : B ≤ B') : RdB w B' A l := fun hl => by
  obtain ⟨g, o, e, hg, hc⟩ := h hl
  exact ⟨g, o, e, by omega, hc⟩
theorem RdB.below (h : RdB w B A l) (hb : Below B w w') : RdB w' B A l := h.keep fun _ hp => hb.cell hp
theorem RdB.lt (h : RdB w B A l) (hl : l ≠ []) : ∃ g o, A = some ⟨g, o, none⟩ ∧ g < B ∧ g < w.heap.size := by
  obtain ⟨g, o, e, hg, hc⟩ := h hl
  have h0 : 0 < l.length := List.length_pos_iff.2 hl
  exact ⟨g, o, e, hg, World.block_lt_of_cell? w _ (hc 0 h0)⟩
theorem RdB.alloc (h : RdB w B A l) (hB : B ≤ w.heap.size) (o : Obj) : RdB (w.alloc o) B A l := h.keep fun p hp => World.cell?_alloc_lt w o p (by omega)
theorem RdB.upto (h : RdB w B A (l ++ m)) : RdB w B A l := fun hl => by
  obtain ⟨g, o, e, hg, hc⟩ := h (by simp [hl])
  exact ⟨g, o, e, hg, fun j hj => by
    have := hc j (by simp; omega)
    rwa [List.getElem_append_left hj] at this⟩
theorem RdB.tail (h : RdB w B A (l ++ m)) (hm : m ≠ []) : ∃ g o, A = some ⟨g, o, none⟩ ∧ RdB w B (some ⟨g, o + l.length, none⟩) m := by
  obtain ⟨g, o, e, hg, hc⟩ := h (by simp [hm])
  refine ⟨g, o, e, fun _ => ⟨g, o + l.length, rfl, hg, fun j hj => ?_⟩⟩
  have := hc (l.length + j) (by simp; omega)
  rw [List.getElem_append_right (by omega)] at this
  simpa [Nat.add_assoc] using this
theorem RdB.adds {g o : Nat} (h : RdB w B (some ⟨g, o, none⟩) l) : ∀ j u, (byc l)[j]? = some u → w.cell? ((⟨g, o, none⟩ : Addr).add j) = some u := by
  intro j u hu
  obtain ⟨hj, rfl⟩ := byc_get hu
  have hne : l ≠ [] := by rintro rfl; simp at hj
  obtain ⟨g', o', e, _, hc⟩ := h hne
  injection e with e
  injection e with e1 e2
  subst e1 e2
  rw [add_plain]
  exact hc j hj

theorem OwB.nil : OwB w base e (.slice none 0 0) [] := World.ownsRow_nil _ _ _ _
theorem OwB.shape (h : OwB w base e v l) : ∃ A c, v = .slice A l.length c ∧ l.length ≤ c ∧ c ≤ maxLen ∧ RdB w w.heap.size A l := by
  rcases h.2 with ⟨rfl, hn⟩ | ⟨g, cap, cur, rfl, hb, hg, hle, hm, hs, htake⟩
  · have : l = [] := List.eq_nil_of_length_eq_zero hn
    subst this
    exact ⟨none, 0, rfl, Nat.le_refl _, by simp [maxLen], RdB.nil⟩
  · refine ⟨some ⟨g, 0, none⟩, cap, rfl, hle, hm, fun _ => ⟨g, 0, rfl, (Array.getElem?_eq_some_iff.1 hg).1, fun j hj => ?_⟩⟩
    have := World.ownsRow.cells (w := w) (v := .slice (some ⟨g, 0, none⟩) l.length cap) h (g := g) rfl j _ (byc_at hj)
    rwa [add_plain] at this
theorem OwB.below (h : OwB w base e v l) (hb : Below w.heap.size w w') : OwB w' base e v l :=
  World.ownsRow.kept (row := none) h ⟨hb.os, hb.tape, hb.output, hb.size, fun k hk _ => hb.block k hk⟩ (by cases v.ownBlock <;> simp)
theorem OwB.mono {base' : Nat} (h : OwB w base e v l) (hb : base' ≤ base) : OwB w base' e v l := by
  refine ⟨h.1, ?_⟩
  rcases h.2 with hn | ⟨g, cap, cur, e1, e2, rest⟩
  · exact .inl hn
  · exact .inr ⟨g, cap, cur, e1, by omega, rest⟩
theorem OwB.fresh (w : World) (e : TypeId) (cs : Array Value) (c : Nat) (hc : cs.size = c) (hm : c ≤ maxLen) (hb : base ≤ w.heap.size) : OwB (w.alloc (.cells cs e)) base e (.slice (some ⟨w.heap.size, 0, none⟩) 0 c) [] :=
  World.ownsRow_made w cs c hb hm (by simp [hc])
/-- A literal of bytes. -/
theorem OwB.lit (w : World) (e : TypeId) (l : List UInt8) (n : Nat) (hn : n = l.length) (hm : n ≤ maxLen) (hb : base ≤ w.heap.size) : OwB (w.alloc (.cells (byc l).toArray e)) base e (.slice (some ⟨w.heap.size, 0, none⟩) n n) l := by
  subst hn
  have := World.ownsRow_lit (base := base) (e := e) (size := 1) w (byc l).toArray l.length hb hm (by simp [byc_length])
  simpa [OwB] using this
end

theorem byc_set (l : List UInt8) (j : Nat) (b : UInt8) : byc (l.set j b) = (byc l).set j (.int .u8 (b.toNat : Int)) := by simp [byc, List.map_set]
section
variable {w : World} {base : Nat} {l : List UInt8} {e : TypeId} {v : Value}
theorem OwB.form (h : OwB w base e v l) (hl : l ≠ []) : ∃ g c, v = .slice (some ⟨g, 0, none⟩) l.length c ∧ base ≤ g ∧ g < w.heap.size := World.ownsRow.form h (List.length_pos_iff.2 hl)
theorem OwB.at_ {g n c j : Nat} (h : OwB w base e (.slice (some ⟨g, 0, none⟩) n c) l) (hj : j < l.length) : w.cell? ⟨g, j, none⟩ = some (.int .u8 (l[j].toNat : Int)) := by
  have hn : n = l.length := by
    obtain ⟨A, c', e1, _⟩ := h.shape
    injection e1
  subst hn
  rw [World.ownsRow.cellAt h j (by omega)]
  exact byc_at hj
theorem OwB.thawed {g n c : Nat} (h : OwB w base e (.slice (some ⟨g, 0, none⟩) n c) l) (j : Nat) : w.frozen? ⟨g, j, none⟩ = false := by
  have hn : n = l.length := by
    obtain ⟨A, c', e1, _⟩ := h.shape
    injection e1
  subst hn
  exact World.ownsRow.frozenAt h j
theorem OwB.stored {g n c : Nat} (h : OwB w base e (.slice (some ⟨g, 0, none⟩) n c) l) (j : Nat) (b : UInt8) : OwB (w.setCell ⟨g, j, none⟩ (.int .u8 (b.toNat : Int))) base e (.slice (some ⟨g, 0, none⟩) n c) (l.set j b) := by
  have hn : n = l.length := by
    obtain ⟨A, c', e1, _⟩ := h.shape
    injection e1
  subst hn
  have := (World.ownsRow.stored h j (.int .u8 (b.toNat : Int))).1
  unfold OwB
  rw [byc_set, List.length_set]
  exact this
end

theorem byte_back {n : Int} (h0 : 0 ≤ n) (h1 : n < 256) : ((UInt8.ofNat n.toNat).toNat : Int) = n := by
  obtain ⟨k, rfl⟩ := Int.eq_ofNat_of_zero_le h0
  simp
  omega
theorem byte_nat {n : Nat} (h1 : n < 256) : (UInt8.ofNat n).toNat = n := by simp; omega

section
variable {P : Program}

theorem run_text {w : World} {B : Nat} {A : Option Addr} {l : List UInt8} {c : Nat} {src e dst : TypeId} (hs : P.underlying src = some (.slice e)) (he : P.underlying e = some (.int .u8)) (hd : P.underlying dst = some .string) (h : RdB w B A l) :
    (convert src dst (.slice A l.length c)).run P w = .ok (.string ⟨l.toArray⟩) w := by
  cases l with
  | nil =>
    cases A with
    | none => rw [run_convert_bytes_nil w src e hs he _ _ dst hd]; rfl
    | some a =>
      rw [run_convert_bytes_string w src dst e _ _ c hs he hd, run_bytesToString w _ _ c [] (by simpa using run_loadCells_list (P := P) w a [] (fun j v hj => by simp at hj))]
      rfl
  | cons b l =>
    obtain ⟨g, o, rfl, _, hc⟩ := h (by simp)
    rw [run_convert_bytes_arg w src e hs he g o (b :: l).length c ((b :: l).map fun x => (x.toNat : Int)) (by simp) (fun i hi => by rw [hc i hi, List.getD_eq_getElem?_getD, List.getElem?_map, List.getElem?_eq_getElem hi]; rfl) dst hd]
    congr 2
    apply ByteArray.ext
    apply Array.toList_inj.1
    rw [strOfNums_data, List.map_map]
    show _ = b :: l
    conv => rhs; rw [← List.map_id (b :: l)]
    apply List.map_congr_left
    intro x _
    simp

/-- 's[k:]', where it reads as bytes. -/
theorem cut_from {w : World} {B : Nat} {A : Option Addr} {l : List UInt8} {c k : Nat} {t e : TypeId} {i : TypeInfo} (ht : P.underlying t = some (.slice e)) (hi : P.info? e = some i) (hs : i.size = 1) (h : RdB w B A l) (hc : l.length ≤ c) (hk : k ≤ l.length) :
    ∃ A', (∀ W, (Instr.slice t (.slice A l.length c) (some (.int .i64 (k : Int))) none none).run P W = .ok (.slice A' (l.length - k) (c - k)) W) ∧ RdB w B A' (l.drop k) := by
  have ht' : P.underlying t = some (.slice (P.elem t)) := by simp [Program.elem, ht]
  have he : P.elem t = e := by simp [Program.elem, ht]
  refine ⟨if c = k then A else A.map (·.add k), fun W => ?_, fun hne => ?_⟩
  · rw [run_slice_l W t A l.length c ht' .i64 k (by omega) (by omega), he]
    simp [sizeOf, typeInfo, hi, hs, sliced, Result.andThen]
  · have hlt : k < l.length := by
      rcases Nat.lt_or_ge k l.length with h1 | h1
      · exact h1
      · exact absurd (List.drop_of_length_le h1) hne
    obtain ⟨g, o, rfl, hg, hcell⟩ := h (by rintro rfl; simp at hlt)
    refine ⟨g, o + k, by rw [if_neg (by omega)]; simp [add_plain], hg, fun j hj => ?_⟩
    rw [List.getElem_drop]
    have := hcell (k + j) (by simp at hj; omega)
    simpa [Nat.add_assoc] using this
/-- 's[:k]', where it reads as bytes. -/
theorem cut_upto {w : World} {B : Nat} {A : Option Addr} {l : List UInt8} {c k : Nat} {t e : TypeId} {i : TypeInfo} (ht : P.underlying t = some (.slice e)) (hi : P.info? e = some i) (hs : i.size = 1) (h : RdB w B A l) (hc : l.length ≤ c) (hk : k ≤ l.length) :
    (∀ W, (Instr.slice t (.slice A l.length c) none (some (.int .i64 (k : Int))) none).run P W = .ok (.slice A k c) W) ∧ RdB w B A (l.take k) := by
  have ht' : P.underlying t = some (.slice (P.elem t)) := by simp [Program.elem, ht]
  have he : P.elem t = e := by simp [Program.elem, ht]
  have hA : ∀ A : Option Addr, A.map (fun x => x.add 0) = A := fun A => by
    cases A with
    | none => rfl
    | some a => simp [Addr.add]
  refine ⟨fun W => ?_, fun hne => ?_⟩
  · rw [run_slice_h W t A l.length c ht' .i64 k (by omega) (by omega), he]
    simp [sizeOf, typeInfo, hi, hs, sliced, Result.andThen, hA]
  · obtain ⟨g, o, rfl, hg, hcell⟩ := h (by rintro rfl; simp at hne)
    refine ⟨g, o, rfl, hg, fun j hj => ?_⟩
    rw [List.getElem_take]
    exact hcell j (by simp at hj; omega)

/-- An append onto a slice that the call made, from any slice. -/
theorem run_appB (w : World) (base : Nat) (t ty e : TypeId) (i : TypeInfo) (ht : P.underlying t = some (.slice e)) (hi : P.info? e = some i) (hz : i.zero = some (.int .u8 0)) (hsize : i.size = 1) (hby : i.bytes = 1)
    {v : Value} {l : List UInt8} (hown : OwB w base e v l) {B : Nat} {A : Option Addr} {m : List UInt8} {c : Nat} (hr : RdB w B A m) (h63 : l.length + m.length ≤ 1099511627776) (hbase : base ≤ w.heap.size) :
    ∃ A' c' w', (Builtin.append_ #[t, t] ty #[v, .slice A m.length c]).run P w = .ok (.slice A' (l ++ m).length c') w' ∧ OwB w' base e (.slice A' (l ++ m).length c') (l ++ m) ∧ Below base w w' := by
  rcases A with _ | a
  · have hm : m = [] := by
      rcases List.eq_nil_or_concat m with h0 | ⟨x, y, h0⟩
      · exact h0
      · obtain ⟨g, o, e, _⟩ := hr (by rw [h0]; simp)
        cases e
    subst hm
    obtain ⟨A', c', rfl, _, _, _⟩ := hown.shape
    refine ⟨A', c', w, ?_, by simpa using hown, Below.refl _ _⟩
    rcases hown.2 with ⟨e1, e2⟩ | ⟨g, cap, cur, e1, _, _, hnc, _⟩
    · injection e1 with e1 e2' e3
      subst e1 e3
      simp [Builtin.append_, run_underlying ht, sizeOf, typeInfo, hi, Builtin.lenOf, Builtin.firstCells, e2]
    · injection e1 with e1 e2 e3
      subst e1 e3
      simp [Builtin.append_, run_underlying ht, sizeOf, typeInfo, hi, Builtin.lenOf, Builtin.firstCells, hnc, storeCells]
  · have hcells : ∀ j u, (byc m)[j]? = some u → w.cell? (a.add j) = some u := by
      intro j u hu
      obtain ⟨hj, _⟩ := byc_get hu
      have hne : m ≠ [] := by rintro rfl; simp at hj
      obtain ⟨g, o, e, _, _⟩ := hr hne
      injection e with e
      subst e
      exact hr.adds j u hu
    obtain ⟨v', w', hrun, h2, h3, _, h5⟩ := run_append_own_at (P := P) w base t ty e i (.int .u8 0) 1 1 ht hi hz hsize hby rfl (by omega) v l.length (byc l) hown a m.length c (byc m) (by simp [byc_length]) hcells (byc_one m) (by simp only [maxLen]; omega) (by omega) hbase
    have h2' : OwB w' base e v' (l ++ m) := by
      unfold OwB
      rw [byc_append, List.length_append]
      exact h2
    obtain ⟨A', c', rfl, _, _, _⟩ := h2'.shape
    refine ⟨A', c', w', hrun, h2', (Below.refl _ _).grown h3 hbase (fun k hk => (World.ownsRow.lt hown k hk).1)⟩

theorem wpList_appB {ops : Array Oper} {rest : List Oper} {o : Oper} {a : Act} {w : World} {Q : Exit → Act → World → Prop} (hgd : o.guard = none) (s x : Operand) (t : TypeId)
    (ho : o.op = .call { callee := .builtin .append, args := #[s, x], argTypes := #[t, t] })
    (base : Nat) (e : TypeId) (i : TypeInfo) (ht : P.underlying t = some (.slice e)) (hi : P.info? e = some i) (hz : i.zero = some (.int .u8 0)) (hsize : i.size = 1) (hby : i.bytes = 1)
    (v : Value) (l : List UInt8) (hs : a.eval s = v) (hown : OwB w base e v l) (B : Nat) (A : Option Addr) (m : List UInt8) (n c : Nat) (hx : a.eval x = .slice A n c) (hn : n = m.length) (hr : RdB w B A m)
    (h63 : l.length + m.length ≤ 1099511627776) (hbase : base ≤ w.heap.size)
    (h : ∀ A' c' L w', Hid (L = l ++ m) → OwB w' base e (.slice A' L.length c') L → Below base w w' → wpList P ops Q rest (a.put o.dst (.slice A' L.length c')) w') : wpList P ops Q (o :: rest) a w := by
  subst hn
  refine wpList_plain hgd fun K hK => ?_
  obtain ⟨A', c', w', hrun, h2, h3⟩ := run_appB (P := P) w base t o.type e i ht hi hz hsize hby hown (c := c) hr h63 hbase
  unfold Oper.wp execOp
  simp only [ho, resolve, invoke, builtin, Sem.run_bind, Sem.run_pure, Result.andThen_ok, List.map_toArray, List.map_cons, List.map_nil, hs, hx, hrun]
  exact hK _ _ (h A' c' _ w' rfl h2 h3)

/-- An append of one byte that was just laid in a block of its own. -/
theorem wpList_appB1 {ops : Array Oper} {rest : List Oper} {o : Oper} {a : Act} {w : World} {Q : Exit → Act → World → Prop} (hgd : o.guard = none) (s x : Operand) (t : TypeId)
    (ho : o.op = .call { callee := .builtin .append, args := #[s, x], argTypes := #[t, t] })
    (base : Nat) (e : TypeId) (i : TypeInfo) (ht : P.underlying t = some (.slice e)) (hi : P.info? e = some i) (hz : i.zero = some (.int .u8 0)) (hsize : i.size = 1) (hby : i.bytes = 1)
    (v : Value) (l : List UInt8) (hs : a.eval s = v) (hown : OwB w base e v l) (g c : Nat) (n : Int) (hx : a.eval x = .slice (some ⟨g, 0, none⟩) 1 c) (hr : w.cell? ⟨g, 0, none⟩ = some (.int .u8 n)) (h0 : 0 ≤ n) (h1 : n < 256)
    (h63 : l.length < 1099511627775) (hbase : base ≤ w.heap.size)
    (h : ∀ A' c' L w', Hid (L = l ++ [UInt8.ofNat n.toNat]) → OwB w' base e (.slice A' L.length c') L → Below base w w' → wpList P ops Q rest (a.put o.dst (.slice A' L.length c')) w') : wpList P ops Q (o :: rest) a w :=
  wpList_appB hgd s x t ho base e i ht hi hz hsize hby v l hs hown w.heap.size (some ⟨g, 0, none⟩) [UInt8.ofNat n.toNat] 1 c hx rfl
    (fun _ => ⟨g, 0, rfl, World.block_lt_of_cell? w _ hr, fun j hj => by
      have hj0 : j = 0 := by simpa using hj
      subst hj0
      rw [Nat.add_zero, hr]
      simp only [List.getElem_cons_zero]
      rw [byte_back h0 h1]⟩) (by simp; omega) hbase h
end

theorem text_eq (l m : List UInt8) : ((ByteArray.mk l.toArray).toList == (ByteArray.mk m.toArray).toList) = decide (l = m) := by
  rw [ByteArray.toList_mk, ByteArray.toList_mk, Bool.eq_iff_iff]; simp
end Go.Proofs.YtdegpchofhnipaaDoor
