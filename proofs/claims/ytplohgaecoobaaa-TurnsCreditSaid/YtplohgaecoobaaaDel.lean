/-
  slices.Delete of one element of one cell, over whatever program: what its operations come to on a slice that the call made. No conditions but those that each theorem names.
-/
import Derived.Test.YtplohgaecoobaaaCel
import Derived.Test.YtplohgaecoobaaaFs
namespace Go.Proofs.Ytplohgaecoobaaa
open Go.RowKit Go.WideShapes

section
variable {P : Program}
theorem del_list {cur : List Value} {o n k : Nat} {cs : List Value} {z : Value} (hfit : o + n ≤ cur.length) (hk : k < n) (hcs : (cur.drop o).take n = cs) :
    let cur1 := cur.take (o + k) ++ cs.drop (k + 1) ++ cur.drop (o + k + (cs.drop (k + 1)).length)
    cur1.length = cur.length ∧ ((cur1.take (o + (n - 1)) ++ [z] ++ cur1.drop (o + (n - 1) + 1)).drop o).take (n - 1) = cs.take k ++ cs.drop (k + 1) ∧ (cur1.take (o + (n - 1)) ++ [z] ++ cur1.drop (o + (n - 1) + 1)).length = cur.length := by
  intro cur1
  have hcl : cs.length = n := by rw [← hcs, List.length_take, List.length_drop]; omega
  have hnl : (cs.drop (k + 1)).length = n - (k + 1) := by rw [List.length_drop, hcl]
  have h1 : cur1.length = cur.length := by
    show (cur.take (o + k) ++ cs.drop (k + 1) ++ cur.drop (o + k + (cs.drop (k + 1)).length)).length = _
    rw [List.length_append, List.length_append, hnl, List.length_take, List.length_drop]
    omega
  refine ⟨h1, ?_, ?_⟩
  · have e1 : (cur1.take (o + (n - 1)) ++ [z] ++ cur1.drop (o + (n - 1) + 1)).drop o = (cur1.drop o).take (n - 1) ++ [z] ++ cur1.drop (o + (n - 1) + 1) := by
      rw [List.append_assoc, List.drop_append_of_le_length (by rw [List.length_take]; omega), List.drop_take, Nat.add_sub_cancel_left, List.append_assoc]
    have e2 : ((cur1.drop o).take (n - 1)).length = n - 1 := by rw [List.length_take, List.length_drop]; omega
    rw [e1, List.append_assoc, List.take_append_of_le_length (by omega), List.take_of_length_le (by omega)]
    have e3 : cur1.drop o = (cur.drop o).take k ++ cs.drop (k + 1) ++ cur.drop (o + k + (cs.drop (k + 1)).length) := by
      show (cur.take (o + k) ++ cs.drop (k + 1) ++ cur.drop (o + k + (cs.drop (k + 1)).length)).drop o = _
      rw [List.append_assoc, List.drop_append_of_le_length (by rw [List.length_take]; omega), List.drop_take, Nat.add_sub_cancel_left, List.append_assoc]
    have e4 : (cur.drop o).take k = cs.take k := by rw [← hcs, List.take_take, Nat.min_eq_left (by omega)]
    rw [e3, e4]
    have e5 : (cs.take k ++ cs.drop (k + 1)).length = n - 1 := by rw [List.length_append, hnl, List.length_take, hcl]; omega
    rw [List.take_append_of_le_length (by omega), List.take_of_length_le (by omega)]
  · rw [List.length_append, List.length_append, List.length_take, List.length_drop, h1]
    simp
    omega
/-- The operations of slices.Delete(s, k, k+1), one by one. -/
theorem del_runs {w : World} {t e : TypeId} {i : TypeInfo} {z : Value} (ht : P.underlying t = some (.slice e)) (hi : P.info? e = some i) (hz : i.zero = some z) (hsize : i.size = 1) (hzc : z.cells = #[z]) (hz1 : z.oneCell' = true)
    {A : Option Addr} {n c : Nat} {cs : List Value} {base : Nat} (hown : OwS w base e 1 (.slice A n c) n cs) (h1 : ∀ u ∈ cs, u.oneCell' = true) {k : Nat} (hk : k < n) :
    ∃ A0 A1 A2 w1 w2,
      (∀ W, (Instr.slice t (.slice A n c) (some (.int .i64 (k : Int))) (some (.int .i64 ((k : Int) + 1))) (some (.int .i64 (n : Int)))).run P W = .ok (.slice A0 1 (n - k)) W) ∧
      (∀ W, (Instr.slice t (.slice A n c) none (some (.int .i64 (k : Int))) none).run P W = .ok (.slice A k c) W) ∧
      (∀ W, (Instr.slice t (.slice A n c) (some (.int .i64 ((k : Int) + 1))) none none).run P W = .ok (.slice A1 (n - (k + 1)) (c - (k + 1))) W) ∧
      (∀ ty, (Builtin.append_ #[t, t] ty #[.slice A k c, .slice A1 (n - (k + 1)) (c - (k + 1))]).run P w = .ok (.slice A (n - 1) c) w1) ∧
      (∀ W, (Instr.slice t (.slice A (n - 1) c) (some (.int .i64 ((n : Int) - 1))) (some (.int .i64 (n : Int))) none).run P W = .ok (.slice A2 1 (c - (n - 1))) W) ∧
      (∀ ty, (Builtin.clear_ #[t] ty #[.slice A2 1 (c - (n - 1))]).run P w1 = .ok (.tuple #[]) w2) ∧
      OwS w2 base e 1 (.slice A (n - 1) c) (n - 1) (cs.take k ++ cs.drop (k + 1)) ∧ Fs (ob (.slice A n c)) w w2 := by
  have ht' : P.underlying t = some (.slice (P.elem t)) := by simp [Program.elem, ht]
  have he : P.elem t = e := by simp [Program.elem, ht]
  have hso : ∀ W, (sizeOf (P.elem t)).run P W = .ok 1 W := fun W => by rw [he]; simp [sizeOf, typeInfo, hi, hsize]
  rcases hown.2 with ⟨e1, h0⟩ | ⟨g, o, c', cur, e1, hbg, hg, hnc, hcm, hfit, htake⟩
  · omega
  injection e1 with e1 e2 e3
  subst e1 e3
  rw [Nat.mul_one] at hfit htake
  have hcl : cs.length = n := by have h := hown.1; rw [Nat.mul_one] at h; exact h
  have hA : ∀ A : Option Addr, A.map (fun x => x.add 0) = A := fun A => by
    cases A with
    | none => rfl
    | some a => simp [Addr.add]
  obtain ⟨d1, d2, d3⟩ := del_list (z := z) (cur := cur.toList) (o := o) (n := n) (k := k) (cs := cs) (by rw [Array.length_toList]; omega) hk htake
  have hnl : (cs.drop (k + 1)).length = n - (k + 1) := by rw [List.length_drop, hcl]
  obtain ⟨cur1, hc1⟩ : ∃ cur1 : List Value, cur1 = cur.toList.take (o + k) ++ cs.drop (k + 1) ++ cur.toList.drop (o + k + (cs.drop (k + 1)).length) := ⟨_, rfl⟩
  simp only [← hc1] at d1 d2 d3
  rw [show cur.toList.length = cur.size from Array.length_toList] at d1 d3
  have hadd : (if c = k + 1 then (some ⟨g, o, none⟩ : Option Addr) else (some (⟨g, o, none⟩ : Addr)).map (·.add ((k + 1) * 1))) = some (if c = k + 1 then ⟨g, o, none⟩ else ⟨g, o + (k + 1), none⟩) := by
    split
    · rfl
    · simp [add_plain]
  have hrow1 : Row (w.setRow g cur1.toArray) g e cur1.toArray := hg.setRow _
  have happ : ∀ ty, (Builtin.append_ #[t, t] ty #[.slice (some ⟨g, o, none⟩) k c, .slice (some (if c = k + 1 then ⟨g, o, none⟩ else ⟨g, o + (k + 1), none⟩)) (n - (k + 1)) (c - (k + 1))]).run P w = .ok (.slice (some ⟨g, o, none⟩) (n - 1) c) (w.setRow g cur1.toArray) := fun ty => by
    have hr := run_appS_room (P := P) w t ty e i ht hi g o k c cur hg (if c = k + 1 then ⟨g, o, none⟩ else ⟨g, o + (k + 1), none⟩) (n - (k + 1)) (c - (k + 1)) (cs.drop (k + 1)) (by rw [hnl, hsize, Nat.mul_one]) (fun j u hj => by
        have hjl := (List.getElem?_eq_some_iff.1 hj).1
        rw [hnl] at hjl
        rw [if_neg (by omega), add_plain]
        rw [List.getElem?_drop, ← htake, List.getElem?_take, if_pos (by omega), List.getElem?_drop] at hj
        exact hg.cell (j := o + (k + 1) + j) (by rw [← hj, Nat.add_assoc]; simp)) (fun u hu => h1 u (List.mem_of_mem_drop hu)) (by omega) (by rw [hsize]; omega)
    rw [hsize, Nat.mul_one, ← hc1, show k + (n - (k + 1)) = n - 1 by omega] at hr
    exact hr
  have hz9 : (Builtin.zeroCells z.cells 1).toList = [z] := by rw [hzc]; simp [Builtin.zeroCells]
  have hst := run_storeCells_at P g (o + (n - 1)) e (Builtin.zeroCells z.cells 1).toList 0 cur1.toArray (w.setRow g cur1.toArray) hrow1 (by rw [hz9, List.size_toArray, d1]; show _ + 1 ≤ _; omega) (by
    intro u hu
    rw [hz9, List.mem_singleton] at hu
    rw [hu]; exact hz1)
  rw [hz9] at hst
  simp only [Nat.add_zero, List.length_singleton] at hst
  refine ⟨some ⟨g, o + k, none⟩, some (if c = k + 1 then ⟨g, o, none⟩ else ⟨g, o + (k + 1), none⟩), some ⟨g, o + (n - 1), none⟩, w.setRow g cur1.toArray, (w.setRow g cur1.toArray).setRow g (cur1.take (o + (n - 1)) ++ [z] ++ cur1.drop (o + (n - 1) + 1)).toArray, fun W => ?_, fun W => ?_, fun W => ?_, happ, fun W => ?_, fun ty => ?_, ?_, ?_⟩
  ·
    rw [run_slice_lhm (P := P) W t (some ⟨g, o, none⟩) n c ht' .i64 .i64 .i64 (k : Int) ((k : Int) + 1) (n : Int) (by omega) (by omega) (by omega) (by omega), hso]
    simp only [Result.andThen_ok, sliced]
    rw [show (((k : Int) + 1).toNat - (k : Int).toNat) = 1 by omega, show ((n : Int).toNat - (k : Int).toNat) = n - k by omega, if_neg (by omega), show (k : Int).toNat = k by omega]
    simp [add_plain]
  ·
    rw [run_slice_h W t _ n c ht' .i64 (k : Int) (by omega) (by omega), hso]
    simp [sliced, hA]
  ·
    rw [run_slice_l W t _ n c ht' .i64 ((k : Int) + 1) (by omega) (by omega), hso]
    simp only [Result.andThen_ok, sliced]
    rw [show ((k : Int) + 1).toNat = k + 1 by omega, hadd]
  ·
    rw [run_slice_lh W t _ (n - 1) c ht' .i64 .i64 ((n : Int) - 1) (n : Int) (by omega) (by omega) (by omega), hso]
    simp only [Result.andThen_ok, sliced]
    rw [show ((n : Int) - 1).toNat = n - 1 by omega, if_neg (by omega), show ((n : Int).toNat - (n - 1)) = 1 by omega]
    simp [add_plain]
  ·
    simp [Builtin.clear_, run_underlying ht, zeroValue, typeInfo, hi, hz, hz9, hst]
  · refine ⟨by rw [List.length_append, hnl, List.length_take, hcl]; omega, .inr ⟨g, o, c, _, rfl, hbg, hrow1.setRow _, by omega, hcm, ?_, ?_⟩⟩
    · rw [List.size_toArray, Nat.mul_one]
      rw [← d3] at hfit
      exact hfit
    · rw [Nat.mul_one]
      exact d2
  · exact ((Fs.refl (ob (.slice (some ⟨g, o, none⟩) n c)) w).setRow (g := g) (fun _ => rfl) _).setRow (fun _ => rfl) _
/-- An append that is known to come to this, at a step of a region that draws its order. -/
theorem step_app_run {ops : Array Oper} {o : Oper} {a : Act} {w w' : World} {K : Act → World → Prop} {Q : Exit → Act → World → Prop} {E : Prop} (hgd : o.guard = none) (s x : Operand) (t : TypeId)
    (ho : o.op = .call { callee := .builtin .append, args := #[s, x], argTypes := #[t, t] }) {v1 v2 v : Value} (hs : a.eval s = v1) (hx : a.eval x = v2) (hrun : (Builtin.append_ #[t, t] o.type #[v1, v2]).run P w = .ok v w') (h : K (a.put o.dst v) w') :
    if Region.wanted o (yielded ops a.tmps) = true then Oper.wp P o a w K Q else E := by
  have hw : Region.wanted o (yielded ops a.tmps) = true := by simp [Region.wanted, hgd]
  rw [if_pos hw]
  unfold Oper.wp execOp
  simp only [ho, resolve, invoke, builtin, Sem.run_bind, Sem.run_pure, Result.andThen_ok, List.map_toArray, List.map_cons, List.map_nil, hs, hx, hrun]
  exact h
end
end Go.Proofs.Ytplohgaecoobaaa
