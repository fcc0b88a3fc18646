/-
  wsframe's size: how many bytes a frame has by its head, or the fault's error, by its contract. Conditions: the bytes are read.
-/
import Derived.Test.YtdegpchofhnipaaDoorIgn
import Derived.Test.YtdegpchofhnipaaDoorCpy
namespace Go.Proofs.YtdegpchofhnipaaDoor
open Go.RowKit Go.WideShapes

/-- No error; or the error that has this code of a socket's fault. -/
def ErrI (code : Nat) (er : Value) (w : World) : Prop := (code = 0 ∧ er = .nilIface) ∨ (code ≠ 0 ∧ ∃ g, er = .iface 77 (.pointer (some ⟨g, 0, none⟩)) ∧ Row w g 80 #[.int .u8 3, .int .u32 code])
/-- What size leaves. -/
def SizeP (h : Hd) (w : World) (e : Ending) (w' : World) : Prop := ∃ er, e = .returned (.tuple #[.int .i64 ((h.front + h.size : Nat) : Int), er]) ∧ ErrI h.code er w' ∧ Below w.heap.size w w'
theorem SizeP.bad {c g : Nat} {w w' : World} (hc : c ≠ 0) (hR : Row w' g 80 #[.int .u8 3, .int .u32 c]) (hb : Below w.heap.size w w') : SizeP (hBad c) w (.returned (.tuple #[.int .i64 0, .iface 77 (.pointer (some ⟨g, 0, none⟩))])) w' :=
  ⟨_, rfl, .inr ⟨hc, g, rfl, hR⟩, hb⟩
theorem SizeP.none (w : World) : SizeP hShort w (.returned (.tuple #[.int .i64 0, .nilIface])) w := ⟨_, rfl, .inl ⟨rfl, rfl⟩, Below.refl _ _⟩

theorem SizeP.whole' {f s : Nat} {n : Int} (h : n = ((f + s : Nat) : Int)) (w : World) : SizeP ⟨f, s, 0, false⟩ w (.returned (.tuple #[.int .i64 n, .nilIface])) w := ⟨_, by rw [h], .inl ⟨rfl, rfl⟩, Below.refl _ _⟩
theorem lenH_eq (m : Bool) (k : Nat) (r : List UInt8) (hk : k < 128) : lenH m k r =
    if r.length < behindN k then hShort
    else if formN (lenN k (r.take (behindN k))) ≠ k ∨ 9223372036854775808 ≤ lenN k (r.take (behindN k)) then hBad 1002
    else if 4096 < lenN k (r.take (behindN k)) then hBad 1009
    else ⟨2 + behindN k + four4 m, lenN k (r.take (behindN k)), 0, false⟩ := by
  unfold lenH
  by_cases h1 : k = 126
  · subst h1
    have hb : behindN 126 = 2 := rfl
    rw [if_pos rfl, hb]
    by_cases hr : r.length < 2
    · rw [if_pos hr, if_pos hr]
    rw [if_neg hr, if_neg hr]
    have hl : (r.take 2).length = 2 := by rw [List.length_take]; omega
    have hv : lenN 126 (r.take 2) = valL (r.take 2) := by unfold lenN; rw [if_neg (by omega)]
    have hlt : valL (r.take 2) < 65536 := valL_lt' hl
    rw [hv]
    unfold formN
    by_cases h2 : valL (r.take 2) < 126
    · rw [if_pos h2, if_pos (.inl (by rw [if_neg (by omega), if_neg (by omega)]; omega))]
    · have hx : ¬ ((if 65536 ≤ valL (r.take 2) then 127 else if 126 ≤ valL (r.take 2) then 126 else valL (r.take 2)) ≠ 126 ∨ 9223372036854775808 ≤ valL (r.take 2)) := by
        rw [if_neg (by omega), if_pos (by omega)]
        omega
      rw [if_neg h2, if_neg hx, show 2 + 2 + four4 m = 4 + four4 m by omega]
  rw [if_neg h1]
  by_cases h7 : k = 127
  · subst h7
    have hb : behindN 127 = 8 := rfl
    rw [if_pos rfl, hb]
    by_cases hr : r.length < 8
    · rw [if_pos hr, if_pos hr]
    rw [if_neg hr, if_neg hr]
    have hl : (r.take 8).length = 8 := by rw [List.length_take]; omega
    have hv : lenN 127 (r.take 8) = valL (r.take 8) := by unfold lenN; rw [if_neg (by omega)]
    rw [hv]
    unfold formN
    by_cases h2 : valL (r.take 8) < 65536 ∨ 9223372036854775808 ≤ valL (r.take 8)
    · rw [if_pos h2, if_pos]
      rcases h2 with h2 | h2
      · left
        rw [if_neg (by omega)]
        split <;> omega
      · exact .inr h2
    · rw [if_neg h2, if_neg (by rw [if_pos (by omega)]; omega), if_pos (by omega)]
  rw [if_neg h7]
  have hb : behindN k = 0 := by unfold behindN; rw [if_neg h7, if_neg h1]
  have hv : lenN k (r.take (behindN k)) = k := by rw [hb]; rfl
  rw [hv, hb, if_neg (by omega), if_neg (by unfold formN; rw [if_neg (by omega), if_neg (by omega)]; omega), if_neg (by omega)]

end Go.Proofs.YtdegpchofhnipaaDoor
