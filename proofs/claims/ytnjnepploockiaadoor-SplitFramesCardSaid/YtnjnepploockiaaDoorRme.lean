/-
  may_eq alone.
-/
import Derived.Test.YtnjnepploockiaaDoorFback
namespace Go.Proofs.YtnjnepploockiaaDoor
instance (F : Frm) : Decidable F.May := inferInstanceAs (Decidable (MayP _ _ _ _ _ _ _ _ _ _ _))
theorem pad_le {F : Frm} {pp p0 p255 pm : Bool} (h : ((pp && (p0 || p255)) || (!pp && !pm)) = false) (h1 : padB F.ty F.fl = pp) (h2 : decide (255 < F.pad) = p255) (h3 : (F.pad == -1) = pm) : F.pad ≤ 255 := by
  cases pp with
  | true =>
    have h4 : p255 = false := by revert h; cases p0 <;> cases p255 <;> simp
    rw [h4] at h2
    have := of_decide_eq_false h2
    omega
  | false =>
    have h4 : pm = true := by revert h; cases pm <;> simp
    rw [h4] at h3
    have := beq_iff_eq.1 h3
    omega
theorem size_ge {ty fl dn : Nat} {pad : Int} {sn : Nat} (h : PadOk ty fl pad) : 6 * (sn : Int) + dn ≤ sizeZ ty fl dn pad sn := by
  unfold sizeZ
  by_cases hb : padB ty fl = true
  · rw [if_pos hb]
    have := (h.1 (of_decide_eq_true hb)).1
    omega
  · rw [if_neg hb]
    omega
/-- Whether a frame may be, as the document's text asks it. -/
theorem may_eq (F : Frm) (hf : F.sets.length ≤ 1000000) {pp p0 p255 pm s1 o1 w1 wz al le oz cz vz sn dn t2 t3 t4 t5 t6 t7 t8 d8 dl sl pl : Bool} (hpp : padB F.ty F.fl = pp) (hp0 : decide (F.pad < 0) = p0) (hp255 : decide (255 < F.pad) = p255) (hpm : (F.pad == -1) = pm) (hs1 : decide ((2147483647 : Int) < (F.st : Int)) = s1) (ho1 : decide ((2147483647 : Int) < (F.oth : Int)) = o1) (hw1 : decide ((2147483647 : Int) < (F.win : Int)) = w1) (hwz : ((F.wt : Int) == 0) = wz) (hal : F.al = al) (hle : leanB F.ty F.fl = le) (hoz : ((F.oth : Int) == 0) = oz) (hcz : ((F.code : Int) == 0) = cz) (hvz : ((F.win : Int) == 0) = vz) (hsn : decide ((0 : Int) < (F.sets.length : Int)) = sn) (hdn : decide ((0 : Int) < (F.dat.length : Int)) = dn) (ht2 : ((F.ty : Int) == 2) = t2) (ht3 : ((F.ty : Int) == 3) = t3) (ht4 : ((F.ty : Int) == 4) = t4) (ht5 : ((F.ty : Int) == 5) = t5) (ht6 : ((F.ty : Int) == 6) = t6) (ht7 : ((F.ty : Int) == 7) = t7) (ht8 : ((F.ty : Int) == 8) = t8) (hd8 : ((F.dat.length : Int) == 8) = d8) (hdl : decide ((F.dat.length : Int) ≤ 16384) = dl) (hsl : decide ((F.sets.length : Int) ≤ 3000) = sl) (hpl : decide (((payL F).length : Int) ≤ 16384) = pl) :
    decide F.May = (((((!(((pp && (p0 || p255)) || (!pp && !pm))) && !(((s1 || o1) || w1))) && !((((!wz || al) && !le) || (((!oz && !le) && !t5) && !t7)))) && !(((((!cz && !t3) && !t7) || (!vz && !t8)) || (sn && !t4)))) && !(((dn && (((t2 || t3) || t4) || t8)) || (t6 && !d8)))) && ((dl && sl) && pl)) := by
  subst hpp hp0 hp255 hpm hs1 ho1 hw1 hwz hal hle hoz hcz hvz hsn hdn ht2 ht3 ht4 ht5 ht6 ht7 ht8 hd8 hdl hsl hpl
  have hq : (F.sets.length ≠ 0 → F.ty = 4) → PadOk F.ty F.fl F.pad → ((payL F).length : Int) = sizeZ F.ty F.fl F.dat.length F.pad F.sets.length := fun h1 h2 => payL_length F h1 h2
  have hz : PadOk F.ty F.fl F.pad → 6 * (F.sets.length : Int) + F.dat.length ≤ sizeZ F.ty F.fl F.dat.length F.pad F.sets.length := fun h => size_ge h
  have hpp : padB F.ty F.fl = decide (PadP F.ty F.fl) := rfl
  have hll : leanB F.ty F.fl = decide (LeanP F.ty F.fl) := rfl
  rw [Bool.eq_iff_iff, decide_eq_true_iff, hpp, hll]
  unfold Frm.May MayP OwnP
  unfold PadOk at *
  generalize (payL F).length = q at *
  generalize sizeZ F.ty F.fl F.dat.length F.pad F.sets.length = z at *
  generalize F.al = al at *
  clear hpp hll
  by_cases hP : PadP F.ty F.fl <;> by_cases hL : LeanP F.ty F.fl <;> cases al <;>
  simp only [hP, hL, decide_true, decide_false, Bool.true_and, Bool.false_and, Bool.and_true, Bool.and_false, Bool.or_false, Bool.false_or, Bool.or_true, Bool.true_or, Bool.not_true, Bool.not_false, not_true, not_false_eq_true, imp_false, Classical.not_not, false_and, and_false, forall_const, false_implies, implies_true, reduceCtorEq, true_and, and_true, true_or, false_or, Bool.and_eq_true, Bool.not_eq_true', Bool.or_eq_false_iff, Bool.and_eq_false_iff, Bool.not_eq_false', decide_eq_true_iff, decide_eq_false_iff_not, beq_iff_eq, beq_eq_false_iff_ne, ne_eq] at hq hz ⊢ <;> omega
end Go.Proofs.YtnjnepploockiaaDoor
