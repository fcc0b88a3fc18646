/-
  What the laws over frames have in common: how long what is read is; a frame within one that is read, loaded behind a guard; clear of bytes. No conditions but those that each theorem names.
-/
import Derived.Test.YtooaajnkiokpnaaGreatDoorRpt
import Derived.Test.YtooaajnkiokpnaaGreatDoorFbm
namespace Go.Proofs.YtooaajnkiokpnaaGreatDoor
open Go.RowKit Go.WideShapes

theorem setsN_le : ∀ (n : Nat) (l : List UInt8), l.length ≤ n → (setsN l).length ≤ l.length
  | 0, l, h => by
    have : l = [] := List.eq_nil_of_length_eq_zero (by omega)
    subst this
    exact Nat.le_refl _
  | n + 1, l, h => by
    by_cases h6 : 6 ≤ l.length
    · rw [setsN_six l h6, List.length_cons]
      have := setsN_le n (l.drop 6) (by rw [List.length_drop]; omega)
      rw [List.length_drop] at this
      omega
    · have : setsN l = [] := by
        match l, h6 with
        | [], _ => rfl
        | [_], _ => rfl
        | [_, _], _ => rfl
        | [_, _, _], _ => rfl
        | [_, _, _, _], _ => rfl
        | [_, _, _, _, _], _ => rfl
        | _ :: _ :: _ :: _ :: _ :: _ :: _, h6 => simp at h6
      rw [this]
      exact Nat.zero_le _
theorem bodyN_le (ty fl st : Nat) (p : Int) (s : List UInt8) : (bodyN ty fl st p s).dat.length ≤ s.length ∧ (bodyN ty fl st p s).sets.length ≤ s.length := by
  have h := setsN_le s.length s (Nat.le_refl _)
  unfold bodyN
  repeat' split
  all_goals simp only [List.length_nil, List.length_drop]; omega
theorem getN_le (b : List UInt8) : (getN b).1.dat.length ≤ b.length ∧ (getN b).1.sets.length ≤ b.length := by
  unfold getN
  split
  · exact ⟨Nat.zero_le _, Nat.zero_le _⟩
  · generalize (b.getD 3 0).toNat = ty
    generalize (b.getD 4 0).toNat = fl
    rcases readN_ways ty fl (valL ((b.drop 5).take 4) % 2147483648) (b.drop 9) with ⟨h, _⟩ | ⟨pad, r, hp, _, h⟩
    · rw [h]; exact ⟨Nat.zero_le _, Nat.zero_le _⟩
    · have h1 := padN_len hp
      have h2 := bodyN_le ty fl (valL ((b.drop 5).take 4) % 2147483648) pad r
      rw [List.length_drop] at h1
      rw [h]
      exact ⟨by have := h2.1; simp only; omega, by have := h2.2; simp only; omega⟩

section
variable {w : World} {g : Nat} {x : Fm} {s c : Nat}
theorem fx_head (x : Fm) (s c : Nat) : fxc x s c = x.c ++ #[.int .u8 s, .int .u32 c] := by unfold fxc Fm.c; rfl
theorem fx_range (h : Row w g 68 (fxc x s c)) : w.rangeAt g 0 x.c.toList := fun j v hv => by
  rw [Nat.zero_add]
  refine h.cell ?_
  have hj : x.c[j]? = some v := by simpa using hv
  have hl : j < x.c.size := (Array.getElem?_eq_some_iff.1 hj).1
  rw [fx_head, Array.getElem?_append_left hl]
  exact hj
theorem fx_11 (h : Row w g 68 (fxc x s c)) : w.cell? ⟨g, 11, none⟩ = some (.int .u8 (s : Int)) := h.cell (by unfold fxc; rfl)
theorem fx_12 (h : Row w g 68 (fxc x s c)) : w.cell? ⟨g, 12, none⟩ = some (.int .u32 (c : Int)) := h.cell (by unfold fxc; rfl)
end
/-- A whole frame within one that is read, loaded behind a guard. -/
theorem wpList_lfxg {ops : Array Oper} {rest : List Oper} {o : Oper} {a : Act} {w : World} {Q : Exit → Act → World → Prop} (hw : Region.wanted o (yielded ops a.tmps) = true) (y : Operand) (ho : o.op = .load 66 y) {g : Nat} (hy : a.eval y = .pointer (some ⟨g, 0, none⟩)) {x : Fm} {s c : Nat} (h : Row w g 68 (fxc x s c))
    (hk : wpList Tryz.prog ops Q rest (a.put o.dst (.agg x.c)) w) : wpList Tryz.prog ops Q (o :: rest) a w :=
  BigFrame.wpList_want hw fun _ hK => wp_load_mid 66 y ho g 0 hy x.c.toList _ (fx_range h) Tryz.underlying66 rfl (by rw [Fm.size x]; simp) (hK _ _ (by simpa using hk))
/-- 'clear' of bytes that the call owns. -/
theorem clear_own {w : World} {base : Nat} {A : Option Addr} {c : Nat} {l : List UInt8} (h : Bo w base 5 (.slice A l.length c) l) :
    ∃ w', (∀ ty, (Builtin.clear_ #[22] ty #[.slice A l.length c]).run Tryz.prog w = .ok (.tuple #[]) w') ∧ Fs (ob (.slice A l.length c)) w w' := by
  obtain ⟨i0, hi0, hz0, hz1, hz2⟩ := info_parts u8_info
  obtain ⟨_, w', _, h1, h2, _⟩ := run_shed (P := Tryz.prog) w base 22 5 i0 (.int .u8 0) 1 Tryz.underlying22 hi0 hz0 hz1 rfl (fun u hu => by simp [Value.cells] at hu; subst hu; rfl) h l.length (Nat.le_refl _)
  exact ⟨w', h1, Fs.of_grown h2⟩
theorem FmIs.far {w w' : World} {base : Nat} {x : Fm} {F : Frm} {S : Nat → Prop} (h : FmIs w base x F) (hf : Fs S w w') (hS : ∀ k, base ≤ k → ¬ S k) : FmIs w' base x F := h.keep fun k h1 h2 => hf.block k h2 (hS k h1)
end Go.Proofs.YtooaajnkiokpnaaGreatDoor
