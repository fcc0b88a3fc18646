/-
  What a step leaves alone: all blocks but those of a set; bytes that the call owns, an append onto them that tells which block turned. Over whatever program. No conditions but those that each theorem names.
-/
import Derived.Test.YtdegpchofhnipaaDoorCel
import Derived.Lib.AppendStr
namespace Go.Proofs.YtdegpchofhnipaaDoor
open Go.RowKit Go.WideShapes

/-- The slice's block is the one that it was, or a new one. -/
def Nx (w : World) (v v' : Value) : Prop := v'.ownBlock = v.ownBlock ∨ ∀ k, v'.ownBlock = some k → w.heap.size ≤ k
/-- A step leaves all blocks alone but those of S. -/
structure Fs (S : Nat → Prop) (w w' : World) : Prop where
  os : w'.os = w.os
  tape : w'.tape = w.tape
  output : w'.output = w.output
  size : w.heap.size ≤ w'.heap.size
  block : ∀ k, k < w.heap.size → ¬ S k → w'.heap[k]? = w.heap[k]?
/-- The block of a slice. -/
def ob (v : Value) (k : Nat) : Prop := v.ownBlock = some k

section
variable {S S' : Nat → Prop} {w w' w'' : World} {v v' v'' : Value}
theorem Fs.refl (S : Nat → Prop) (w : World) : Fs S w w := ⟨rfl, rfl, rfl, Nat.le_refl _, fun _ _ _ => rfl⟩
theorem Fs.of_below (h : Below w.heap.size w w') : Fs S w w' := ⟨h.os, h.tape, h.output, h.size, fun k hk _ => h.block k hk⟩
theorem Fs.of_grown (h : w.grownBy w' v.ownBlock) : Fs (ob v) w w' := ⟨h.os, h.tape, h.output, h.size, fun k hk hn => h.block k hk fun e => hn e.symm⟩
theorem Fs.mono (h : Fs S w w') (hS : ∀ k, k < w.heap.size → S k → S' k) : Fs S' w w' := ⟨h.os, h.tape, h.output, h.size, fun k hk hn => h.block k hk fun hs => hn (hS k hk hs)⟩
theorem Fs.trans (h : Fs S w w') (h2 : Fs S' w' w'') (hS : ∀ k, k < w.heap.size → S' k → S k) : Fs S w w'' :=
  ⟨h2.os.trans h.os, h2.tape.trans h.tape, h2.output.trans h.output, Nat.le_trans h.size h2.size, fun k hk hn => (h2.block k (Nat.lt_of_lt_of_le hk h.size) fun hs => hn (hS k hk hs)).trans (h.block k hk hn)⟩
theorem Fs.then_below (h : Fs S w w') (h2 : Below w'.heap.size w' w'') : Fs S w w'' := h.trans (S' := S) (Fs.of_below h2) fun _ _ h => h
theorem Fs.alloc (h : Fs S w w') (x : Obj) : Fs S w (w'.alloc x) := h.then_below ((Below.refl _ _).alloc (Nat.le_refl _) _)
theorem Fs.setCell (h : Fs S w w') {g : Nat} (hg : g < w.heap.size → S g) (j : Nat) (x : Value) : Fs S w (w'.setCell ⟨g, j, none⟩ x) :=
  h.trans (S' := fun k => k = g) ⟨rfl, rfl, rfl, by simp [World.setCell], fun k _ hn => Below.heap_setCell w' _ x k hn⟩ fun k hk e => by subst e; exact hg hk
theorem Fs.setRow (h : Fs S w w') {g : Nat} (hg : g < w.heap.size → S g) (x : Array Value) : Fs S w (w'.setRow g x) :=
  h.trans (S' := fun k => k = g) ⟨rfl, rfl, rfl, by simp, fun k _ hn => setRow_other w' g k x hn⟩ fun k hk e => by subst e; exact hg hk
theorem Fs.drewN (h : Fs S w w') (n : Nat) : Fs S w (w'.drewN n) := ⟨h.os, h.tape, h.output, h.size, h.block⟩
theorem Fs.row (h : Fs S w w') {b : Nat} (hb : ¬ S b) {t : TypeId} {cs : Array Value} (hr : Row w b t cs) : Row w' b t cs := (h.block b hr.lt hb).trans hr
theorem Fs.below (h : Fs S w w') {B : Nat} (hS : ∀ k, S k → k < w.heap.size → B ≤ k) (hB : B ≤ w.heap.size) : Below B w w' :=
  ⟨h.os, h.tape, h.output, h.size, fun k hk => h.block k (by omega) fun hs => by have := hS k hs (by omega); omega⟩
theorem Fs.reads (h : Fs S w w') {R : Nat → Prop} {A : Option Addr} {cs : List Value} (hr : RdS w R A cs) (hR : ∀ k, R k → k < w.heap.size ∧ ¬ S k) : RdS w' R A cs :=
  hr.keep fun g hg => h.block g (hR g hg).1 (hR g hg).2
theorem Fs.owns (h : Fs S w w') {base : Nat} {e : TypeId} {k n : Nat} {cs : List Value} (ho : OwS w base e k v n cs) (hv : ∀ k, ob v k → ¬ S k) : OwS w' base e k v n cs :=
  ho.keep fun g hg => h.block g (ho.lt g hg).2 (hv g hg)

theorem Nx.refl (w : World) (v : Value) : Nx w v v := .inl rfl
theorem Nx.trans (h : Nx w v v') (h2 : Nx w' v' v'') (hw : w.heap.size ≤ w'.heap.size) : Nx w v v'' := by
  rcases h2 with h2 | h2
  · rcases h with h | h
    · exact .inl (h2.trans h)
    · exact .inr fun k hk => h k (by rw [← h2]; exact hk)
  · exact .inr fun k hk => Nat.le_trans hw (h2 k hk)
/-- Its block is one of the old ones, or new. -/
theorem Nx.own (h : Nx w v v') {k : Nat} (hk : ob v' k) : ob v k ∨ w.heap.size ≤ k := by
  rcases h with h | h
  · exact .inl (by unfold ob at *; rw [← h]; exact hk)
  · exact .inr (h k hk)
theorem Nx.of_new (h : v'.ownBlock = v.ownBlock ∨ v'.ownBlock = some w.heap.size) : Nx w v v' := by
  rcases h with h | h
  · exact .inl h
  · refine .inr fun k hk => ?_
    rw [h] at hk
    injection hk with hk
    omega
theorem Fs.next (h : Fs (ob v) w w') (hn : Nx w v v') (h2 : Fs (ob v') w' w'') : Fs (ob v) w w'' := h.trans h2 fun k hk h3 => by
  rcases hn.own h3 with h4 | h4
  · exact h4
  · omega
end

/-- Bytes that the call owns, from block base on. -/
def Bo (w : World) (base : Nat) (e : TypeId) (v : Value) (l : List UInt8) : Prop := OwS w base e 1 v l.length (byc l)
theorem Bo.below {w w' : World} {base : Nat} {e : TypeId} {v : Value} {l : List UInt8} (h : Bo w base e v l) (hb : Below w.heap.size w w') : Bo w' base e v l := OwS.below h hb

section
variable {P : Program} {w : World} {base : Nat} {e : TypeId} {v : Value} {l m : List UInt8}
theorem Bo.nil : Bo w base e (.slice none 0 0) [] := OwS.nil
theorem Bo.shape (h : Bo w base e v l) : ∃ A c, v = .slice A l.length c ∧ l.length ≤ c := by
  obtain ⟨A, c, h1, h2, _⟩ := OwS.shape h
  exact ⟨A, c, h1, h2⟩
theorem Bo.reads {A : Option Addr} {n c : Nat} (h : Bo w base e (.slice A n c) l) : RdB w w.heap.size A l := fun hl => by
  obtain ⟨g, o, h1, h2, h3⟩ := OwS.reads h (by intro e0; exact hl (List.eq_nil_of_length_eq_zero (by rw [← byc_length, e0]; rfl)))
  exact ⟨g, o, h1, (OwS.lt h g h2).2, fun j hj => h3 j _ (byc_at hj)⟩
theorem Bo.low {A : Option Addr} {n c : Nat} (h : Bo w base e (.slice A n c) l) : RdS w (fun b => base ≤ b ∧ b < w.heap.size) A (byc l) := OwS.up h
theorem RdB.toS {B : Nat} {A : Option Addr} (h : RdB w B A l) : RdS w (· < B) A (byc l) := fun hl => by
  obtain ⟨g, o, e1, e2, hc⟩ := h (by rintro rfl; exact hl rfl)
  refine ⟨g, o, e1, e2, fun j u hu => ?_⟩
  obtain ⟨hj, rfl⟩ := byc_get hu
  exact hc j hj
theorem RdB.ofS {B : Nat} {S : Nat → Prop} {A : Option Addr} (h : RdS w S A (byc l)) (hS : ∀ g, S g → g < w.heap.size → g < B) : RdB w B A l := fun hl => by
  obtain ⟨g, o, h1, h2, h3⟩ := h (by intro e0; exact hl (List.eq_nil_of_length_eq_zero (by rw [← byc_length, e0]; rfl)))
  have h0 : 0 < l.length := List.length_pos_iff.2 hl
  exact ⟨g, o, h1, hS g h2 (World.block_lt_of_cell? w _ (h3 0 _ (byc_at h0))), fun j hj => h3 j _ (byc_at hj)⟩
theorem OwB.toBo (h : OwB w base e v l) : Bo w base e v l := OwS.of_row h

/-- The law of an append of bytes. -/
theorem wpList_appBo {ops : Array Oper} {rest : List Oper} {o : Oper} {a : Act} {Q : Exit → Act → World → Prop} (hgd : o.guard = none) (s x : Operand) (t : TypeId)
    (ho : o.op = .call { callee := .builtin .append, args := #[s, x], argTypes := #[t, t] })
    (base : Nat) (e : TypeId) (i : TypeInfo) (ht : P.underlying t = some (.slice e)) (hi : P.info? e = some i) (hz : i.zero = some (.int .u8 0)) (hsize : i.size = 1) (hby : i.bytes = 1)
    (v : Value) (l : List UInt8) (hs : a.eval s = v) (hown : Bo w base e v l) (B : Nat) (A : Option Addr) (m : List UInt8) (n c : Nat) (hx : a.eval x = .slice A n c) (hn : n = m.length) (hr : RdB w B A m)
    (h63 : l.length + m.length ≤ 1099511627776) (hbase : base ≤ w.heap.size)
    (h : ∀ v' w', Bo w' base e v' (l ++ m) → Fs (ob v) w w' → Nx w v v' → wpList P ops Q rest (a.put o.dst v') w') : wpList P ops Q (o :: rest) a w := by
  subst hn
  refine wpList_appS_any hgd s x t ho base e i _ 1 1 ht hi hz hsize hby rfl (by omega) v l.length (byc l) hs hown (· < B) A m.length c (byc m) hx (by simp [byc_length]) hr.toS (byc_one m) (by simp only [maxLen]; omega) (by omega) hbase fun A' c' w' h1 h2 h3 => ?_
  refine h _ w' ?_ (Fs.of_grown h2) (Nx.of_new h3)
  unfold Bo
  rw [byc_append, List.length_append]
  exact h1

/-- The same, at a step of a region that draws its order. -/
theorem step_appBo {ops : Array Oper} {o : Oper} {a : Act} {K : Act → World → Prop} {Q : Exit → Act → World → Prop} {E : Prop} (hgd : o.guard = none) (s x : Operand) (t : TypeId)
    (ho : o.op = .call { callee := .builtin .append, args := #[s, x], argTypes := #[t, t] })
    (base : Nat) (e : TypeId) (i : TypeInfo) (ht : P.underlying t = some (.slice e)) (hi : P.info? e = some i) (hz : i.zero = some (.int .u8 0)) (hsize : i.size = 1) (hby : i.bytes = 1)
    (v : Value) (l : List UInt8) (hs : a.eval s = v) (hown : Bo w base e v l) (B : Nat) (A : Option Addr) (m : List UInt8) (n c : Nat) (hx : a.eval x = .slice A n c) (hn : n = m.length) (hr : RdB w B A m)
    (h63 : l.length + m.length ≤ 1099511627776) (hbase : base ≤ w.heap.size)
    (h : ∀ v' w', Bo w' base e v' (l ++ m) → Fs (ob v) w w' → Nx w v v' → K (a.put o.dst v') w') : if Region.wanted o (yielded ops a.tmps) = true then Oper.wp P o a w K Q else E := by
  subst hn
  have hw : Region.wanted o (yielded ops a.tmps) = true := by simp [Region.wanted, hgd]
  rw [if_pos hw]
  obtain ⟨A', c', w', hrun, h2, h3, h4⟩ := run_appS_any (P := P) w base t o.type e i _ 1 1 ht hi hz hsize hby rfl (by omega) hown (S := (· < B)) (A := A) m.length c (news := byc m) (by simp [byc_length]) hr.toS (byc_one m) (by simp only [maxLen]; omega) (by omega) hbase
  unfold Oper.wp execOp
  simp only [ho, resolve, invoke, builtin, Sem.run_bind, Sem.run_pure, Result.andThen_ok, List.map_toArray, List.map_cons, List.map_nil, hs, hx, hrun]
  refine h _ w' ?_ (Fs.of_grown h3) (Nx.of_new h4)
  unfold Bo
  rw [byc_append, List.length_append]
  exact h2

theorem strCells_byc (l : List UInt8) : Lib.strCells ⟨l.toArray⟩ = byc l := by simp [Lib.strCells, byc]
theorem str_size (l : List UInt8) : (ByteArray.mk l.toArray).size = l.length := by simp [ByteArray.size]

/-- An append of a string onto bytes that the call owns. -/
theorem run_appStr (w : World) (base : Nat) (t u ty e : TypeId) (i : TypeInfo) (ht : P.underlying t = some (.slice e)) (hu : P.underlying u = some .string) (hi : P.info? e = some i) (hz : i.zero = some (.int .u8 0)) (hsize : i.size = 1) (hby : i.bytes = 1)
    {v : Value} {n : Nat} {cs : List Value} (hown : OwS w base e 1 v n cs) (s : ByteArray)
    (h63 : n + s.size ≤ 1099511627776) (hbase : base ≤ w.heap.size) :
    ∃ A' c' w', (Builtin.append_ #[t, u] ty #[v, .string s]).run P w = .ok (.slice A' (n + s.size) c') w' ∧ OwS w' base e 1 (.slice A' (n + s.size) c') (n + s.size) (cs ++ Lib.strCells s) ∧ w.grownBy w' v.ownBlock ∧
      ((Value.slice A' (n + s.size) c').ownBlock = v.ownBlock ∨ (Value.slice A' (n + s.size) c').ownBlock = some w.heap.size) := by
  have hsl := Lib.strCells_length s
  have hcl : cs.length = n := by simpa using hown.1
  have hmx : n + s.size ≤ maxLen := by simp only [maxLen]; omega
  have hlen : (cs ++ Lib.strCells s).length = (n + s.size) * 1 := by rw [List.length_append, hcl, hsl, Nat.mul_one]
  have hz1 : (Value.int IntKind.u8 0).cells.size = 1 := rfl
  have grown : ∀ (old : Nat), old < n + s.size → ∀ row : Option Nat,
      OwS (w.drew.alloc (.cells (cs.toArray ++ (Lib.strCells s).toArray ++ Builtin.zeroCells (Value.int .u8 0).cells (grownCap w (n + s.size) old e - (n + s.size))) e)) base e 1 (.slice (some ⟨w.heap.size, 0, none⟩) (n + s.size) (grownCap w (n + s.size) old e)) (n + s.size) (cs ++ Lib.strCells s) ∧
      w.grownBy (w.drew.alloc (.cells (cs.toArray ++ (Lib.strCells s).toArray ++ Builtin.zeroCells (Value.int .u8 0).cells (grownCap w (n + s.size) old e - (n + s.size))) e)) row := by
    intro old _ row
    have hge := grownCap_ge w (n + s.size) old e
    have hcm : grownCap w (n + s.size) old e ≤ maxLen := grownCap_le_maxLen w (n + s.size) old e hmx
    refine ⟨⟨hlen, .inr ⟨w.heap.size, 0, _, _, rfl, hbase, heap_alloc_new w.drew _, hge, hcm, ?_, ?_⟩⟩, ⟨rfl, rfl, rfl, by simp, fun k hk _ => Below.heap_alloc w.drew _ k hk⟩⟩
    · simp only [Array.size_append, List.size_toArray, size_zeroCells, hz1, hcl, hsl]
      omega
    · simp only [List.drop_zero, Array.toList_append, List.append_assoc]
      rw [← List.append_assoc, ← hlen]
      exact List.take_left
  rcases hown.2 with ⟨rfl, rfl⟩ | ⟨g, o, cap, cur, rfl, hbg, hg, hnc, hcm, hcs, htake⟩
  · have hx : cs = [] := List.eq_nil_of_length_eq_zero hcl
    subst hx
    by_cases hm : s.size = 0
    · have hn : Lib.strCells s = [] := List.eq_nil_of_length_eq_zero (by rw [hsl]; exact hm)
      have hf := Lib.run_firstCells_string (P := P) w 1 s
      rw [hm] at hf
      refine ⟨none, 0, w, ?_, by rw [hm, hn]; exact OwS.nil, ⟨rfl, rfl, rfl, Nat.le_refl _, fun _ _ _ => rfl⟩, .inl rfl⟩
      rw [hm]
      simp [Builtin.append_, run_underlying ht, run_underlying hu, sizeOf, typeInfo, hi, hsize, Builtin.lenOf, hm, hf]
    · have hr := run_append_nil_string (P := P) w t u ty e i (.int .u8 0) ht hu hi hz s (by omega) (by omega) (by rw [hby]; omega)
      have hgr := grown 0 (by omega) (Value.ownBlock (.slice none 0 0))
      simp only [Nat.zero_add, List.nil_append, Array.empty_append] at hgr ⊢
      have e1 : (s.data.map fun b => Value.int .u8 b.toNat) = (Lib.strCells s).toArray := by
        apply Array.ext'
        simp [Lib.strCells]
      rw [e1] at hr
      exact ⟨_, _, _, hr, hgr.1, hgr.2, .inr rfl⟩
  · by_cases hroom : n + s.size ≤ cap
    · have hf := Lib.run_firstCells_string (P := P) w 1 s
      have hst := run_storeCells_at P g (o + n) e (Lib.strCells s) 0 cur w hg (by rw [hsl]; omega) (Lib.strCells_oneCell s)
      simp only [Nat.add_zero] at hst
      have hadd : (⟨g, o, none⟩ : Addr).add n = ⟨g, o + n, none⟩ := add_plain ..
      have hr : (Builtin.append_ #[t, u] ty #[.slice (some ⟨g, o, none⟩) n cap, .string s]).run P w =
          .ok (.slice (some ⟨g, o, none⟩) (n + s.size) cap) (w.setRow g (cur.toList.take (o + n) ++ Lib.strCells s ++ cur.toList.drop (o + n + (Lib.strCells s).length)).toArray) := by
        simp [Builtin.append_, run_underlying ht, run_underlying hu, sizeOf, typeInfo, hi, hsize, Builtin.lenOf, hroom, hf, hadd, hst]
      refine ⟨_, _, _, hr, ⟨hlen, .inr ⟨g, o, cap, _, rfl, hbg, hg.setRow _, hroom, hcm, ?_, ?_⟩⟩, ⟨rfl, rfl, rfl, by simp, fun k _ hk => setRow_other w g k _ (fun e1 => hk (by simp [Value.ownBlock, e1]))⟩, Or.inl rfl⟩
      · simp only [List.size_toArray, List.length_append, List.length_take, List.length_drop, Array.length_toList, hsl]
        omega
      · have e1 : (cur.toList.take (o + n) ++ Lib.strCells s ++ cur.toList.drop (o + n + (Lib.strCells s).length)).drop o = (cur.toList.drop o).take (n * 1) ++ Lib.strCells s ++ cur.toList.drop (o + n + (Lib.strCells s).length) := by
          rw [List.append_assoc, List.drop_append_of_le_length (by simp; omega), List.drop_take, Nat.add_sub_cancel_left, List.append_assoc, Nat.mul_one]
        show ((cur.toList.take (o + n) ++ Lib.strCells s ++ cur.toList.drop (o + n + (Lib.strCells s).length)).drop o).take ((n + s.size) * 1) = cs ++ Lib.strCells s
        rw [e1, htake, ← hlen]
        exact List.take_left
    · have holds : ∀ j u, cs[j]? = some u → w.cell? ((⟨g, o, none⟩ : Addr).add j) = some u := by
        intro j u hu
        rw [add_plain]
        have hne : cs ≠ [] := by rintro rfl; simp at hu
        obtain ⟨g', o', e1, _, hc⟩ := hown.reads hne
        injection e1 with e1
        injection e1 with e1 e2
        subst e1 e2
        exact hc j u hu
      have hr := Lib.run_append_grow_string (P := P) w t u ty e i (.int .u8 0) ht hu hi hz ⟨g, o, none⟩ n cap cs (by rw [hsize]; simpa using hcl) holds s (by omega) (by omega) (by rw [hby]; exact growslice_fits (by omega) (by omega))
      have hgr := grown cap (by omega) (Value.ownBlock (.slice (some ⟨g, o, none⟩) n cap))
      exact ⟨_, _, _, hr, hgr.1, hgr.2, Or.inr rfl⟩

theorem wpList_appStr {ops : Array Oper} {rest : List Oper} {o : Oper} {a : Act} {Q : Exit → Act → World → Prop} (hgd : o.guard = none) (s x : Operand) (t u : TypeId)
    (ho : o.op = .call { callee := .builtin .append, args := #[s, x], argTypes := #[t, u] })
    (base : Nat) (e : TypeId) (i : TypeInfo) (ht : P.underlying t = some (.slice e)) (hu : P.underlying u = some .string) (hi : P.info? e = some i) (hz : i.zero = some (.int .u8 0)) (hsize : i.size = 1) (hby : i.bytes = 1)
    (v : Value) (l : List UInt8) (hs : a.eval s = v) (hown : Bo w base e v l) (m : List UInt8) (hx : a.eval x = .string ⟨m.toArray⟩)
    (h63 : l.length + m.length ≤ 1099511627776) (hbase : base ≤ w.heap.size)
    (h : ∀ v' w', Bo w' base e v' (l ++ m) → Fs (ob v) w w' → Nx w v v' → wpList P ops Q rest (a.put o.dst v') w') : wpList P ops Q (o :: rest) a w := by
  have hsz := str_size m
  refine wpList_plain hgd fun K hK => ?_
  obtain ⟨A', c', w', hrun, h2, h3, h4⟩ := run_appStr (P := P) w base t u o.type e i ht hu hi hz hsize hby hown ⟨m.toArray⟩ (by rw [hsz]; exact h63) hbase
  unfold Oper.wp execOp
  simp only [ho, resolve, invoke, builtin, Sem.run_bind, Sem.run_pure, Result.andThen_ok, List.map_toArray, List.map_cons, List.map_nil, hs, hx, hrun]
  refine hK _ _ (h _ w' ?_ (Fs.of_grown h3) (Nx.of_new h4))
  unfold Bo
  rw [byc_append, List.length_append, ← strCells_byc m, ← hsz]
  exact h2
end
end Go.Proofs.YtdegpchofhnipaaDoor
