/-
  frame's May, by its contract. Conditions: the numbers are what they may be in memory; at most 10^6 bytes and settings.
-/
import Derived.Test.YtooaajnkiokpnaaGreatDoorFown
import Derived.Test.YtooaajnkiokpnaaGreatDoorFsz
namespace Go.Proofs.YtooaajnkiokpnaaGreatDoor
open Go.RowKit Go.WideShapes
attribute [local irreducible] Fm.c

def Fm.may (x : Fm) : Bool := decide (MayP x.ty x.fl x.st x.dn x.pad x.code x.oth x.wt x.al x.win x.sn)

set_option maxRecDepth 100000 in
set_option maxHeartbeats 2000000 in
theorem may_any (x : Fm) (hk : x.Ok) (hd : x.dn ≤ 1000000) (hs : x.sn ≤ 1000000) (w : World) : Calls Tryz.prog 147 #[.agg x.c] w fun e w' => e = .returned (.bool x.may) ∧ Below w.heap.size w w' := by
  have HR := Lib.hid (Row.new w 66 x.c)
  have hB : Below w.heap.size w (w.alloc (.cells x.c 66)) := (Below.refl _ _).alloc (Nat.le_refl _) _
  have HB := Lib.hid hB
  obtain ⟨c0, _, c2, c3, _, _, c6, _, _, c9, _⟩ := fm_cells HR.out
  clear hB
  by_cases h1 : 2147483647 < x.st
  · have hE : x.may = false := decide_eq_false fun h => by have := h.1.1; omega
    have h1' : (2147483647 : Int) < (x.st : Int) := by omega
    rw [hE]
    clear hE h1
    go_enter Tryz.func147, Tryz.ntmps147
    go_wp2
    go_ret
    exact ⟨rfl, HB.out⟩
  have n1 : decide ((2147483647 : Int) < (x.st : Int)) = false := by simp; omega
  by_cases h2 : 2147483647 < x.oth
  · have hE : x.may = false := decide_eq_false fun h => by have := h.1.2.1; omega
    have h2' : (2147483647 : Int) < (x.oth : Int) := by omega
    rw [hE]
    clear hE h1 h2
    go_enter Tryz.func147, Tryz.ntmps147
    go_wp2
    go_ret
    exact ⟨rfl, HB.out⟩
  have n2 : decide ((2147483647 : Int) < (x.oth : Int)) = false := by simp; omega
  by_cases h3 : 2147483647 < x.win
  · have hE : x.may = false := decide_eq_false fun h => by have := h.1.2.2; omega
    have h3' : (2147483647 : Int) < (x.win : Int) := by omega
    rw [hE]
    clear hE h1 h2 h3
    go_enter Tryz.func147, Tryz.ntmps147
    go_wp2
    go_ret
    exact ⟨rfl, HB.out⟩
  have n3 : decide ((2147483647 : Int) < (x.win : Int)) = false := by simp; omega
  by_cases h4 : x.ty = 6 ∧ x.dn ≠ 8
  · have hE : x.may = false := decide_eq_false fun h => h4.2 (h.2.1 h4.1)
    have e8 : ((x.dn : Int) != 8) = true := by rw [bne, show ((x.dn : Int) == 8) = false from ne_int (b := 8) h4.2]; rfl
    rw [hE]
    rw [h4.1] at c0
    clear hE h1 h2 h3 h4
    go_enter Tryz.func147, Tryz.ntmps147
    go_wp2
    go_ret
    exact ⟨rfl, HB.out⟩
  have h123 : x.st ≤ 2147483647 ∧ x.oth ≤ 2147483647 ∧ x.win ≤ 2147483647 := by omega
  have h6 : x.ty = 6 → x.dn = 8 := by omega
  have hmp := mayPad_any x hk.fl
  have how := own_any x hk
  have hsz := size_any7 x hk.fl hd hs
  clear h1 h2 h3
  -- the last test, in both cases
  have key : ∀ {r : Bool}, x.may = r → (mayPadB x.ty x.fl x.pad = false ∧ r = false ∨ mayPadB x.ty x.fl x.pad = true ∧ x.own = false ∧ r = false ∨ mayPadB x.ty x.fl x.pad = true ∧ x.own = true ∧ (-1 ≤ x.pad ∧ x.pad ≤ 255) ∧ r = decide (sizeZ x.ty x.fl x.dn x.pad x.sn ≤ 16384)) := by
    intro r hr
    subst hr
    cases hm : mayPadB x.ty x.fl x.pad with
    | false => exact .inl ⟨rfl, decide_eq_false fun h => (of_decide_eq_false hm) h.2.2.1⟩
    | true =>
      have hm' : PadOk x.ty x.fl x.pad := of_decide_eq_true hm
      cases ho : x.own with
      | false => exact .inr (.inl ⟨rfl, rfl, decide_eq_false fun h => (of_decide_eq_false ho) h.2.2.2.1⟩)
      | true =>
        have ho' : OwnP x.ty x.fl x.dn x.code x.oth x.wt x.al x.win x.sn := of_decide_eq_true ho
        refine .inr (.inr ⟨rfl, rfl, ?_, ?_⟩)
        · by_cases hp : PadP x.ty x.fl
          · have := hm'.1 hp; omega
          · have := hm'.2 hp; omega
        · by_cases hz : sizeZ x.ty x.fl x.dn x.pad x.sn ≤ 16384
          · rw [decide_eq_true hz]; exact decide_eq_true ⟨h123, h6, hm', ho', hz⟩
          · rw [decide_eq_false hz]; exact decide_eq_false fun h => hz h.2.2.2.2
  obtain ⟨r, hr⟩ : ∃ r, x.may = r := ⟨_, rfl⟩
  have hc := key hr
  rw [hr]
  clear key hr h123
  have hty : (x.ty = 6 ∧ x.dn = 8) ∨ ((x.ty : Int) == 6) = false := by
    by_cases h : x.ty = 6
    · exact .inl ⟨h, h6 h⟩
    · exact .inr (ne_int (b := 6) h)
  clear h4 h6
  generalize mayPadB x.ty x.fl x.pad = mp at *
  generalize x.own = ow at *
  rcases hty with ⟨ht, hdn⟩ | ht
  · rw [ht] at c0
    have e8 : ((x.dn : Int) != 8) = false := by rw [hdn]; rfl
    rcases hc with ⟨rfl, rfl⟩ | ⟨rfl, rfl, rfl⟩ | ⟨rfl, rfl, hp, rfl⟩
    · clear ht hdn how hsz
      go_enter Tryz.func147, Tryz.ntmps147
      go_wp2_with (refine wpList_fm rfl _ rfl rfl HR.out ?_)
      refine (hmp _).mono ?_
      rintro e w1 ⟨rfl, hb1⟩
      have HB1 := Lib.hid (HB.out.trans (hb1.mono HB.out.size))
      clear hb1 hmp c0 c2 c3 c6 c9
      go_wp2
      go_ret
      exact ⟨rfl, HB1.out⟩
    · clear ht hdn hsz
      go_enter Tryz.func147, Tryz.ntmps147
      go_wp2_with (refine wpList_fm rfl _ rfl rfl HR.out ?_)
      refine (hmp _).mono ?_
      rintro e w1 ⟨rfl, hb1⟩
      have HB1 := Lib.hid (HB.out.trans (hb1.mono HB.out.size))
      have HR1 := Lib.hid (HR.out.below hb1 HR.out.lt)
      clear hb1 hmp c0 c2 c3 c6 c9
      go_wp2_with (refine wpList_fmg (by rfl) _ rfl rfl HR1.out ?_)
      refine (how _).mono ?_
      rintro e w2 ⟨rfl, hb2⟩
      have HB2 := Lib.hid (HB1.out.trans (hb2.mono HB1.out.size))
      clear hb2 how
      go_wp2
      go_ret
      exact ⟨rfl, HB2.out⟩
    · have hsz := hsz (by omega) (by omega)
      generalize sizeZ x.ty x.fl x.dn x.pad x.sn = Z at *
      clear ht hdn hp
      go_enter Tryz.func147, Tryz.ntmps147
      go_wp2_with (refine wpList_fm rfl _ rfl rfl HR.out ?_)
      refine (hmp _).mono ?_
      rintro e w1 ⟨rfl, hb1⟩
      have HB1 := Lib.hid (HB.out.trans (hb1.mono HB.out.size))
      have HR1 := Lib.hid (HR.out.below hb1 HR.out.lt)
      clear hb1 hmp c0 c2 c3 c6 c9
      go_wp2_with (refine wpList_fmg (by rfl) _ rfl rfl HR1.out ?_)
      refine (how _).mono ?_
      rintro e w2 ⟨rfl, hb2⟩
      have HB2 := Lib.hid (HB1.out.trans (hb2.mono HB1.out.size))
      have HR2 := Lib.hid (HR1.out.below hb2 HR1.out.lt)
      clear hb2 how
      go_wp2_with (refine wpList_fmg (by rfl) _ rfl rfl HR2.out ?_)
      refine (hsz _).mono ?_
      rintro e w3 ⟨rfl, hb3⟩
      have HB3 := Lib.hid (HB2.out.trans (hb3.mono HB2.out.size))
      clear hb3 hsz
      go_wp2
      go_ret
      exact ⟨rfl, HB3.out⟩
  · have hdn := True.intro
    rcases hc with ⟨rfl, rfl⟩ | ⟨rfl, rfl, rfl⟩ | ⟨rfl, rfl, hp, rfl⟩
    · clear hdn how hsz
      go_enter Tryz.func147, Tryz.ntmps147
      go_wp2_with (refine wpList_fm rfl _ rfl rfl HR.out ?_)
      refine (hmp _).mono ?_
      rintro e w1 ⟨rfl, hb1⟩
      have HB1 := Lib.hid (HB.out.trans (hb1.mono HB.out.size))
      clear hb1 hmp c0 c2 c3 c6 c9
      go_wp2
      go_ret
      exact ⟨rfl, HB1.out⟩
    · clear hdn hsz
      go_enter Tryz.func147, Tryz.ntmps147
      go_wp2_with (refine wpList_fm rfl _ rfl rfl HR.out ?_)
      refine (hmp _).mono ?_
      rintro e w1 ⟨rfl, hb1⟩
      have HB1 := Lib.hid (HB.out.trans (hb1.mono HB.out.size))
      have HR1 := Lib.hid (HR.out.below hb1 HR.out.lt)
      clear hb1 hmp c0 c2 c3 c6 c9
      go_wp2_with (refine wpList_fmg (by rfl) _ rfl rfl HR1.out ?_)
      refine (how _).mono ?_
      rintro e w2 ⟨rfl, hb2⟩
      have HB2 := Lib.hid (HB1.out.trans (hb2.mono HB1.out.size))
      clear hb2 how
      go_wp2
      go_ret
      exact ⟨rfl, HB2.out⟩
    · have hsz := hsz (by omega) (by omega)
      generalize sizeZ x.ty x.fl x.dn x.pad x.sn = Z at *
      clear hdn hp
      go_enter Tryz.func147, Tryz.ntmps147
      go_wp2_with (refine wpList_fm rfl _ rfl rfl HR.out ?_)
      refine (hmp _).mono ?_
      rintro e w1 ⟨rfl, hb1⟩
      have HB1 := Lib.hid (HB.out.trans (hb1.mono HB.out.size))
      have HR1 := Lib.hid (HR.out.below hb1 HR.out.lt)
      clear hb1 hmp c0 c2 c3 c6 c9
      go_wp2_with (refine wpList_fmg (by rfl) _ rfl rfl HR1.out ?_)
      refine (how _).mono ?_
      rintro e w2 ⟨rfl, hb2⟩
      have HB2 := Lib.hid (HB1.out.trans (hb2.mono HB1.out.size))
      have HR2 := Lib.hid (HR1.out.below hb2 HR1.out.lt)
      clear hb2 how
      go_wp2_with (refine wpList_fmg (by rfl) _ rfl rfl HR2.out ?_)
      refine (hsz _).mono ?_
      rintro e w3 ⟨rfl, hb3⟩
      have HB3 := Lib.hid (HB2.out.trans (hb3.mono HB2.out.size))
      clear hb3 hsz
      go_wp2
      go_ret
      exact ⟨rfl, HB3.out⟩
end Go.Proofs.YtooaajnkiokpnaaGreatDoor
