/-
  The builtin copy over rows of bytes, over whatever program: into a row that is known, from bytes that are read (before anything is written: they may be the row's own). No conditions but those that each theorem names.
-/
import Derived.Test.YtdegpchofhnipaaDoorFs
import Derived.Laws.CopyOwn
namespace Go.Proofs.YtdegpchofhnipaaDoor
open Go.RowKit Go.WideShapes

/-- L with these bytes from place off on. -/
def splB (L : List UInt8) (off : Nat) (m : List UInt8) : List UInt8 := L.take off ++ (m ++ L.drop (off + m.length))
theorem splB_length {L m : List UInt8} {off : Nat} (h : off + m.length ≤ L.length) : (splB L off m).length = L.length := by
  unfold splB
  simp only [List.length_append, List.length_take, List.length_drop]
  omega
theorem splB_take {L m : List UInt8} {off : Nat} (h : off ≤ L.length) : (splB L off m).take (off + m.length) = L.take off ++ m := by
  unfold splB
  rw [← List.append_assoc]
  exact take_len (by simp; omega)
  where take_len {α : Type} {a b : List α} {k : Nat} (h : a.length = k) : (a ++ b).take k = a := by subst h; simp
theorem splB_nil (L : List UInt8) (off : Nat) : splB L off [] = L := by simp [splB]
theorem byc_spl (L m : List UInt8) (off : Nat) : byc (splB L off m) = (byc L).take off ++ (byc m ++ (byc L).drop (off + (byc m).length)) := by
  unfold splB byc
  simp only [List.map_append, List.map_take, List.map_drop, List.length_map]

section
variable {P : Program}
theorem run_copyB {w : World} {dT elem : TypeId} (hu : P.underlying dT = some (.slice elem)) (hsz : (P.info? elem).map (·.size) = some 1) {b off dLen dCap : Nat} {dp : Option Addr} {A : Option Addr} {m : List UInt8} {sCap : Nat} {L : List UInt8} {t : TypeId}
    (hdp : 0 < dLen → dp = some ⟨b, off, none⟩) {B : Nat} (hr : RdB w B A m) (hb : Row w b t (byc L).toArray) (hfit : off + dLen ≤ L.length) :
    ∃ w', (∀ ty, (Builtin.copy_ #[dT, dT] ty #[.slice dp dLen dCap, .slice A m.length sCap]).run P w = .ok (.int .i64 ((min m.length dLen : Nat) : Int)) w') ∧ Row w' b t (byc (splB L off (m.take dLen))).toArray ∧ Fs (fun k => k = b) w w' := by
  rcases Nat.eq_zero_or_pos (min m.length dLen) with h0 | h0
  · refine ⟨w, fun ty => ?_, ?_, Fs.refl _ _⟩
    · rw [h0]
      exact run_copy_none w dT dT ty elem dp A dLen dCap m.length sCap hu hsz h0
    · have : m.take dLen = [] := List.eq_nil_of_length_eq_zero (by rw [List.length_take]; omega)
      rw [this, splB_nil]
      exact hb
  · have hdp := hdp (by omega)
    subst hdp
    obtain ⟨g, o, rfl, _, hc⟩ := hr (by intro e; rw [e] at h0; simp at h0)
    have hl : (byc (m.take dLen)).length = Nat.min m.length dLen := by rw [byc_length, List.length_take, Nat.min_comm]
    have hL : (byc L).toArray.size = L.length := by simp [byc_length]
    refine ⟨w.setRow b (byc (splB L off (m.take dLen))).toArray, fun ty => ?_, hb.setRow _, ⟨rfl, rfl, rfl, by simp, fun k _ hn => setRow_other w b k _ hn⟩⟩
    have := run_copy_row (P := P) w dT dT ty elem b off dLen dCap ⟨g, o, none⟩ m.length sCap (byc L).toArray t (byc (m.take dLen)) hu hsz hb hl (fun j v hj => ?_) (by rw [hl, hL]; have : Nat.min m.length dLen ≤ dLen := Nat.min_le_right _ _; omega) (byc_one _)
    · rw [this, hl, byc_spl, hl, List.append_assoc]
      rfl
    · obtain ⟨hj', rfl⟩ := byc_get hj
      rw [List.getElem_take, add_plain]
      exact hc j (by rw [List.length_take] at hj'; omega)
theorem wpList_copyB {ops : Array Oper} {rest : List Oper} {o : Oper} {a : Act} {w : World} {Q : Exit → Act → World → Prop} (hgd : o.guard = none) (d s : Operand) (dT : TypeId)
    (ho : o.op = .call { callee := .builtin .copy, args := #[d, s], argTypes := #[dT, dT] }) (elem : TypeId) (hu : P.underlying dT = some (.slice elem)) (hsz : (P.info? elem).map (·.size) = some 1)
    (b off dLen dCap : Nat) (dp A : Option Addr) (m : List UInt8) (sCap : Nat) (L : List UInt8) (t : TypeId) (hd : a.eval d = .slice dp dLen dCap) (hs : a.eval s = .slice A m.length sCap) (hdp : 0 < dLen → dp = some ⟨b, off, none⟩) (B : Nat) (hr : RdB w B A m) (hb : Row w b t (byc L).toArray) (hfit : off + dLen ≤ L.length)
    (h : ∀ w', Row w' b t (byc (splB L off (m.take dLen))).toArray → Fs (fun k => k = b) w w' → wpList P ops Q rest (a.put o.dst (.int .i64 ((min m.length dLen : Nat) : Int))) w') : wpList P ops Q (o :: rest) a w := by
  refine wpList_plain hgd fun K hK => ?_
  obtain ⟨w', hrun, h1, h2⟩ := run_copyB (P := P) (w := w) hu hsz (dCap := dCap) (sCap := sCap) hdp hr hb hfit
  unfold Oper.wp execOp
  simp only [ho, resolve, invoke, builtin, Sem.run_bind, Sem.run_pure, Result.andThen_ok, List.map_toArray, List.map_cons, List.map_nil, hd, hs, hrun]
  exact hK _ _ (h w' h1 h2)
theorem step_copyB {ops : Array Oper} {o : Oper} {a : Act} {w : World} {K : Act → World → Prop} {Q : Exit → Act → World → Prop} {E : Prop} (hgd : o.guard = none) (d s : Operand) (dT : TypeId)
    (ho : o.op = .call { callee := .builtin .copy, args := #[d, s], argTypes := #[dT, dT] }) (elem : TypeId) (hu : P.underlying dT = some (.slice elem)) (hsz : (P.info? elem).map (·.size) = some 1)
    (b off dLen dCap : Nat) (dp A : Option Addr) (m : List UInt8) (sCap : Nat) (L : List UInt8) (t : TypeId) (hd : a.eval d = .slice dp dLen dCap) (hs : a.eval s = .slice A m.length sCap) (hdp : 0 < dLen → dp = some ⟨b, off, none⟩) (B : Nat) (hr : RdB w B A m) (hb : Row w b t (byc L).toArray) (hfit : off + dLen ≤ L.length)
    (h : ∀ w', Row w' b t (byc (splB L off (m.take dLen))).toArray → Fs (fun k => k = b) w w' → K (a.put o.dst (.int .i64 ((min m.length dLen : Nat) : Int))) w') : if Region.wanted o (yielded ops a.tmps) = true then Oper.wp P o a w K Q else E := by
  have hw : Region.wanted o (yielded ops a.tmps) = true := by simp [Region.wanted, hgd]
  rw [if_pos hw]
  obtain ⟨w', hrun, h1, h2⟩ := run_copyB (P := P) (w := w) hu hsz (dCap := dCap) (sCap := sCap) hdp hr hb hfit
  unfold Oper.wp execOp
  simp only [ho, resolve, invoke, builtin, Sem.run_bind, Sem.run_pure, Result.andThen_ok, List.map_toArray, List.map_cons, List.map_nil, hd, hs, hrun]
  exact h w' h1 h2
/-- 's[k:]', its address. -/
theorem cut_addr {A : Option Addr} {n c k : Nat} {t e : TypeId} {ti : TypeInfo} (ht : P.underlying t = some (.slice e)) (hi : P.info? e = some ti) (hs : ti.size = 1) (_hc : n ≤ c) (hk : k ≤ n) :
    ∃ A', (∀ W, (Instr.slice t (.slice A n c) (some (.int .i64 (k : Int))) none none).run P W = .ok (.slice A' (n - k) (c - k)) W) ∧ (k < c → A' = A.map (·.add k)) := by
  have ht' : P.underlying t = some (.slice (P.elem t)) := by simp [Program.elem, ht]
  have he : P.elem t = e := by simp [Program.elem, ht]
  refine ⟨if c = k then A else A.map (·.add k), fun W => ?_, fun h => by rw [if_neg (by omega)]⟩
  rw [run_slice_l W t A n c ht' .i64 k (by omega) (by omega), he]
  simp [sizeOf, typeInfo, hi, hs, sliced, Result.andThen]
/-- 's[i:j]', where it reads as bytes. -/
theorem cut_both {w : World} {B : Nat} {A : Option Addr} {l : List UInt8} {c i j : Nat} {t e : TypeId} {ti : TypeInfo} (ht : P.underlying t = some (.slice e)) (hi : P.info? e = some ti) (hs : ti.size = 1) (h : RdB w B A l) (hc : l.length ≤ c) (hij : i ≤ j) (hj : j ≤ l.length) :
    ∃ A', (∀ W, (Instr.slice t (.slice A l.length c) (some (.int .i64 (i : Int))) (some (.int .i64 (j : Int))) none).run P W = .ok (.slice A' (j - i) (c - i)) W) ∧ RdB w B A' ((l.drop i).take (j - i)) ∧ (i < c → A' = A.map (·.add i)) := by
  have ht' : P.underlying t = some (.slice (P.elem t)) := by simp [Program.elem, ht]
  have he : P.elem t = e := by simp [Program.elem, ht]
  refine ⟨if c = i then A else A.map (·.add i), fun W => ?_, fun hne => ?_, fun h => by rw [if_neg (by omega)]⟩
  · rw [run_slice_lh W t A l.length c ht' .i64 .i64 i j (by omega) (by omega) (by omega), he]
    simp [sizeOf, typeInfo, hi, hs, sliced, Result.andThen]
  · have hlt : i < j := by
      rcases Nat.lt_or_ge i j with h1 | h1
      · exact h1
      · exact absurd (by rw [show j - i = 0 by omega]; rfl) hne
    obtain ⟨g, o, rfl, hg, hcell⟩ := h (by rintro rfl; simp at hj; omega)
    refine ⟨g, o + i, by rw [if_neg (by omega)]; simp [add_plain], hg, fun k hk => ?_⟩
    rw [List.getElem_take, List.getElem_drop]
    have := hcell (i + k) (by simp at hk; omega)
    simpa [Nat.add_assoc] using this
/-- 's[k:]' and 's[:k]', where the blocks that are read are told. -/
theorem cut_fromS {w : World} {S : Nat → Prop} {A : Option Addr} {l : List UInt8} {c k : Nat} {t e : TypeId} {i : TypeInfo} (ht : P.underlying t = some (.slice e)) (hi : P.info? e = some i) (hs : i.size = 1) (h : RdS w S A (byc l)) (hc : l.length ≤ c) (hk : k ≤ l.length) :
    ∃ A', (∀ W, (Instr.slice t (.slice A l.length c) (some (.int .i64 (k : Int))) none none).run P W = .ok (.slice A' (l.length - k) (c - k)) W) ∧ RdS w S A' (byc (l.drop k)) := by
  have ht' : P.underlying t = some (.slice (P.elem t)) := by simp [Program.elem, ht]
  have he : P.elem t = e := by simp [Program.elem, ht]
  refine ⟨if c = k then A else A.map (·.add k), fun W => ?_, fun hne => ?_⟩
  · rw [run_slice_l W t A l.length c ht' .i64 k (by omega) (by omega), he]
    simp [sizeOf, typeInfo, hi, hs, sliced, Result.andThen]
  · have hlt : k < l.length := by
      rcases Nat.lt_or_ge k l.length with h1 | h1
      · exact h1
      · exact absurd (by rw [List.drop_of_length_le h1]; rfl) hne
    obtain ⟨g, o, rfl, hg, hcell⟩ := h (by intro e; have := congrArg List.length e; rw [byc_length] at this; simp at this; rw [this] at hlt; simp at hlt)
    refine ⟨g, o + k, by rw [if_neg (by omega)]; simp [add_plain], hg, fun j u hj => ?_⟩
    obtain ⟨hj', rfl⟩ := byc_get hj
    rw [List.getElem_drop]
    have := hcell (k + j) _ (byc_at (by simp at hj'; omega))
    simpa [Nat.add_assoc] using this
theorem cut_uptoS {w : World} {S : Nat → Prop} {A : Option Addr} {l : List UInt8} {c k : Nat} {t e : TypeId} {i : TypeInfo} (ht : P.underlying t = some (.slice e)) (hi : P.info? e = some i) (hs : i.size = 1) (h : RdS w S A (byc l)) (hc : l.length ≤ c) (hk : k ≤ l.length) :
    (∀ W, (Instr.slice t (.slice A l.length c) none (some (.int .i64 (k : Int))) none).run P W = .ok (.slice A k c) W) ∧ RdS w S A (byc (l.take k)) := by
  refine ⟨(cut_upto (P := P) (B := w.heap.size) ht hi hs (RdB.ofS (h.imp (S' := fun _ => True) fun _ _ _ => trivial) fun _ _ h => h) hc hk).1, fun hne => ?_⟩
  obtain ⟨g, o, rfl, hg, hcell⟩ := h (by intro e; have := congrArg List.length e; rw [byc_length] at this; simp at this; rw [this] at hne; exact hne (by simp [byc]))
  refine ⟨g, o, rfl, hg, fun j u hj => ?_⟩
  obtain ⟨hj', rfl⟩ := byc_get hj
  rw [List.getElem_take]
  exact hcell j _ (byc_at (by simp at hj'; omega))
end
end Go.Proofs.YtdegpchofhnipaaDoor
