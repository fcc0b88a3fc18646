/-
  Slices of elements of several cells each, over whatever program: 's[m:]' and 's[:m]' of one that is read; an element of one that the call made, stored anew. No conditions but those that each theorem names.
-/
import Derived.Test.YtplohgaecoobaaaTail
import Derived.Test.YtplohgaecoobaaaFs
namespace Go.Proofs.Ytplohgaecoobaaa
open Go.RowKit Go.WideShapes

section
variable {P : Program} {α : Type} {enc : α → List Value} {k : Nat}
theorem enl_take (hk : ∀ x, (enc x).length = k) (L : List α) (n : Nat) : (enl enc L).take (n * k) = enl enc (L.take n) := by
  by_cases hn : n ≤ L.length
  · have e : enl enc L = enl enc (L.take n) ++ enl enc (L.drop n) := by rw [← enl_append, List.take_append_drop]
    have hl : (enl enc (L.take n)).length = n * k := by rw [enl_length hk, List.length_take, Nat.min_eq_left hn]
    rw [e, ← hl, List.take_left]
  · rw [List.take_of_length_le, List.take_of_length_le (by omega)]
    rw [enl_length hk]
    exact Nat.mul_le_mul_right _ (by omega)
theorem enl_set (i : Nat) (x : α) (L : List α) (hi : i < L.length) : enl enc (L.set i x) = enl enc (L.take i) ++ enc x ++ enl enc (L.drop (i + 1)) := by
  rw [List.set_eq_take_append_cons_drop, if_pos hi, enl_append, enl_cons, List.append_assoc]
theorem enl_ne (hk : ∀ x, (enc x).length = k) (hk0 : 0 < k) {L : List α} (h : 0 < L.length) : enl enc L ≠ [] := fun e => by
  have h1 := enl_length hk L
  rw [e] at h1
  have := Nat.mul_pos h hk0
  simp at h1
  omega
/-- 's[m:]'. -/
theorem cut_fromE (hk : ∀ x, (enc x).length = k) (hk0 : 0 < k) {w : World} {S : Nat → Prop} {A : Option Addr} {L : List α} {c m : Nat} {t e : TypeId} {i : TypeInfo} (ht : P.underlying t = some (.slice e)) (hi : P.info? e = some i) (hs : i.size = k) (h : RdS w S A (enl enc L)) (hc : L.length ≤ c) (hm : m ≤ L.length) :
    ∃ A', (∀ W, (Instr.slice t (.slice A L.length c) (some (.int .i64 (m : Int))) none none).run P W = .ok (.slice A' (L.length - m) (c - m)) W) ∧ RdS w S A' (enl enc (L.drop m)) := by
  subst hs
  have ht' : P.underlying t = some (.slice (P.elem t)) := by simp [Program.elem, ht]
  have he : P.elem t = e := by simp [Program.elem, ht]
  refine ⟨if c = m then A else A.map (·.add (m * i.size)), fun W => ?_, fun hne => ?_⟩
  · rw [run_slice_l W t A L.length c ht' .i64 m (by omega) (by omega), he]
    simp [sizeOf, typeInfo, hi, sliced, Result.andThen]
  · have hlt : m < L.length := by
      rcases Nat.lt_or_ge m L.length with h1 | h1
      · exact h1
      · exact absurd (by rw [List.drop_of_length_le h1]; rfl) hne
    obtain ⟨g, o, rfl, hg, hcell⟩ := h (enl_ne hk hk0 (by omega))
    refine ⟨g, o + m * i.size, by rw [if_neg (by omega)]; simp [add_plain], hg, fun j u hj => ?_⟩
    rw [← enl_drop hk, List.getElem?_drop] at hj
    have := hcell _ u hj
    rwa [Nat.add_assoc]
/-- 's[:m]'. -/
theorem cut_uptoE (hk : ∀ x, (enc x).length = k) (hk0 : 0 < k) {w : World} {S : Nat → Prop} {A : Option Addr} {L : List α} {c m : Nat} {t e : TypeId} {i : TypeInfo} (ht : P.underlying t = some (.slice e)) (hi : P.info? e = some i) (_ : i.size = k) (h : RdS w S A (enl enc L)) (hc : L.length ≤ c) (hm : m ≤ L.length) :
    (∀ W, (Instr.slice t (.slice A L.length c) none (some (.int .i64 (m : Int))) none).run P W = .ok (.slice A m c) W) ∧ RdS w S A (enl enc (L.take m)) := by
  have ht' : P.underlying t = some (.slice (P.elem t)) := by simp [Program.elem, ht]
  have he : P.elem t = e := by simp [Program.elem, ht]
  have hA : ∀ A : Option Addr, A.map (fun x => x.add 0) = A := fun A => by
    cases A with
    | none => rfl
    | some a => simp [Addr.add]
  refine ⟨fun W => ?_, fun hne => ?_⟩
  · rw [run_slice_h W t A L.length c ht' .i64 m (by omega) (by omega), he]
    simp [sizeOf, typeInfo, hi, sliced, Result.andThen, hA]
  · have hlt : 0 < L.length := by
      rcases Nat.eq_zero_or_pos L.length with h1 | h1
      · exact absurd (by rw [List.eq_nil_of_length_eq_zero h1, List.take_nil]; rfl) hne
      · exact h1
    obtain ⟨g, o, rfl, hg, hcell⟩ := h (enl_ne hk hk0 hlt)
    refine ⟨g, o, rfl, hg, fun j u hj => hcell j u ?_⟩
    rw [← enl_take hk, List.getElem?_take] at hj
    split at hj
    · exact hj
    · cases hj
/-- Cells of a row, stored anew one by one. -/
def setL (cs : Array Value) : Nat → List Value → Array Value
  | _, [] => cs
  | o, v :: r => setL (cs.setIfInBounds o v) (o + 1) r
theorem row_cells {g : Nat} {t : TypeId} : ∀ (vs : List Value) (o : Nat) (w : World) (cs : Array Value), Row w g t cs → Row (w.setCells g o vs) g t (setL cs o vs)
  | [], _, _, _, h => h
  | v :: r, o, _, _, h => row_cells r (o + 1) _ _ (h.stored o v)
theorem setL_size : ∀ (vs : List Value) (o : Nat) (cs : Array Value), (setL cs o vs).size = cs.size
  | [], _, _ => rfl
  | v :: r, o, cs => by rw [setL, setL_size r]; simp
theorem setL_list : ∀ (vs : List Value) (o : Nat) (cs : Array Value), o + vs.length ≤ cs.size → (setL cs o vs).toList = cs.toList.take o ++ vs ++ cs.toList.drop (o + vs.length)
  | [], o, cs, _ => by simp [setL]
  | v :: r, o, cs, h => by
    have hlt : o < cs.toList.length := by simp at h ⊢; omega
    rw [setL, setL_list r (o + 1) _ (by simp at h ⊢; omega), Array.toList_setIfInBounds, List.take_set, List.drop_set_of_lt (by omega)]
    have e1 : (cs.toList.take (o + 1)).set o v = cs.toList.take o ++ [v] := by
      rw [List.take_succ_eq_append_getElem hlt, List.set_append_right _ _ (by simp; omega)]
      simp [Nat.min_eq_left (Nat.le_of_lt (by simpa using hlt))]
    rw [e1]
    simp [Nat.add_assoc, Nat.add_comm 1]
theorem cells_other (x : List Value) : ∀ (w : World) (g k o : Nat), k ≠ g → (w.setCells g o x).heap[k]? = w.heap[k]? := by
  induction x with
  | nil => intros; rfl
  | cons v r ih => intro w g k o hk; rw [World.setCells, ih _ _ _ _ hk]; exact Below.heap_setCell w _ v k hk
theorem cells_fs {S : Nat → Prop} {w w' : World} (h : Fs S w w') {g : Nat} (hg : g < w.heap.size → S g) : ∀ (x : List Value) (o : Nat), Fs S w (w'.setCells g o x) := by
  intro x
  induction x generalizing w' with
  | nil => intro o; exact h
  | cons v r ih => intro o; rw [World.setCells]; exact ih (h.setCell hg o v) _
/-- Element number i of a slice that the call made, stored anew. -/
theorem OwS.put (hk : ∀ x, (enc x).length = k) (hk0 : 0 < k) {w : World} {base : Nat} {e : TypeId} {A : Option Addr} {n c : Nat} {L : List α} (h : OwS w base e k (.slice A n c) n (enl enc L)) (hn : n = L.length) {i : Nat} (hi : i < n) (x : α) :
    ∃ g o, A = some ⟨g, o, none⟩ ∧ base ≤ g ∧ g < w.heap.size ∧ (Value.slice A n c).ownBlock = some g ∧ w.there g (o + i * k) k ∧ OwS (w.setCells g (o + i * k) (enc x)) base e k (.slice A n c) n (enl enc (L.set i x)) ∧ Fs (fun b => b = g) w (w.setCells g (o + i * k) (enc x)) := by
  subst hn
  rcases h.2 with ⟨e1, h0⟩ | ⟨g, o, c', cur, e1, hb, hr, h1, h2, h3, h4⟩
  · omega
  · injection e1 with e1 e2 e3
    subst e1 e3
    have hi1 : i * k + k ≤ L.length * k := by rw [← Nat.succ_mul]; exact Nat.mul_le_mul_right _ hi
    have hc1 : L.length * k ≤ c * k := Nat.mul_le_mul_right _ h1
    have hin : o + i * k + (enc x).length ≤ cur.size := by rw [hk]; omega
    refine ⟨g, o, rfl, hb, hr.lt, rfl, fun j hj => ⟨?_, hr.thawed _⟩, ⟨?_, .inr ⟨g, o, c, setL cur (o + i * k) (enc x), rfl, hb, row_cells _ _ _ _ hr, h1, h2, by rw [setL_size]; exact h3, ?_⟩⟩, cells_fs (Fs.refl (fun b => b = g) w) (fun _ => rfl) _ _⟩
    · have : o + i * k + j < cur.size := by omega
      rw [hr.cell (j := o + i * k + j) (Array.getElem?_eq_getElem this)]
      rfl
    · rw [enl_length hk, List.length_set]
    · have hcur : o + i * k ≤ cur.toList.length := by rw [Array.length_toList]; omega
      have hA : (cur.toList.drop o).take (i * k) = enl enc (L.take i) := by
        rw [← enl_take hk, ← h4, List.take_take, Nat.min_eq_left (by omega)]
      have hB : (cur.toList.drop (o + i * k + k)).take (L.length * k - (i * k + k)) = enl enc (L.drop (i + 1)) := by
        rw [← enl_drop hk, ← h4, List.drop_take, List.drop_drop, Nat.succ_mul]
        congr 1
        congr 1
        omega
      have hla : ((cur.toList.drop o).take (i * k)).length = i * k := by rw [hA, enl_length hk, List.length_take, Nat.min_eq_left (by omega)]
      rw [setL_list _ _ _ hin, hk, enl_set i x L hi, List.append_assoc, List.drop_append_of_le_length (by rw [List.length_take]; omega), List.drop_take, Nat.add_sub_cancel_left, List.take_append, hla, List.take_append, hk, List.take_of_length_le (by omega : ((cur.toList.drop o).take (i * k)).length ≤ L.length * k), hA,
        List.take_of_length_le (by rw [hk]; omega : (enc x).length ≤ L.length * k - i * k), Nat.sub_sub, hB, List.append_assoc]
end
end Go.Proofs.Ytplohgaecoobaaa
