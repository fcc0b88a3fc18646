/-
  DyntableSame, by its contract: at every input it answers true; below what was there nothing has turned. Conditions: mosts below 2^32, as many fields as an int counts.
-/
import Derived.Test.YteoneedehfijhaaDfix
import Derived.Test.YteoneedehfijhaaDgr
import Derived.Test.YteoneedehfijhaaDfind
namespace Go.Proofs.Yteoneedehfijhaa
open Go.RowKit Go.WideShapes

/-- Two tables share no memory. -/
def Apart (g : Nat) (v : Value) (g' : Nat) (v' : Value) : Prop := g ≠ g' ∧ v.ownBlock ≠ some g' ∧ v'.ownBlock ≠ some g ∧ ∀ j, v.ownBlock = some j → v'.ownBlock ≠ some j
theorem Apart.symm {g g' : Nat} {v v' : Value} (h : Apart g v g' v') : Apart g' v' g v := ⟨fun e => h.1 e.symm, h.2.2.1, h.2.1, fun j hj e => h.2.2.2 j e hj⟩
theorem Tb.other {w w' : World} {base g g2 m2 : Nat} {v v2 : Value} {L2 : List Fd} (h2 : Tb w base g2 v2 L2 m2) (ha : Apart g v g2 v2) (hF : Fr g v.ownBlock w w') : Tb w' base g2 v2 L2 m2 :=
  h2.keep (hF.block g2 h2.lt (fun e => ha.1 e.symm) (fun e => ha.2.1 e.symm)) fun k hk => hF.block k (h2.row.lt k hk).2 (fun e => ha.2.2.1 (by rw [hk, e])) (fun e => ha.2.2.2 k e.symm hk)
theorem Apart.next {w : World} {base g g2 m2 : Nat} {v v' v2 : Value} {L2 : List Fd} (ha : Apart g v g2 v2) (h2 : Tb w base g2 v2 L2 m2) (hN : Nx w v v') : Apart g v' g2 v2 := by
  rcases hN with e | e
  · exact ⟨ha.1, by rw [e]; exact ha.2.1, ha.2.2.1, by rw [e]; exact ha.2.2.2⟩
  · refine ⟨ha.1, fun h => ?_, ha.2.2.1, fun j hj h => ?_⟩
    · have := e _ h
      have := h2.lt
      omega
    · have := e _ hj
      have := (h2.row.lt j h).2
      omega

/-- Three tables, each apart from the others. -/
structure Tri (w : World) (base ga gb gc : Nat) (va vb vc : Value) (La Lb Lc : List Fd) (M X : Nat) : Prop where
  a : Tb w base ga va La M
  b : Tb w base gb vb Lb M
  c : Tb w base gc vc Lc X
  ab : Apart ga va gb vb
  ac : Apart ga va gc vc
  bc : Apart gb vb gc vc
section
variable {w w' : World} {base ga gb gc : Nat} {va vb vc v' : Value} {La Lb Lc L' : List Fd} {M X : Nat}
theorem Tri.below (h : Tri w base ga gb gc va vb vc La Lb Lc M X) (hb : Below w.heap.size w w') : Tri w' base ga gb gc va vb vc La Lb Lc M X :=
  ⟨h.a.below hb, h.b.below hb, h.c.below hb, h.ab, h.ac, h.bc⟩
theorem Tri.stepA (h : Tri w base ga gb gc va vb vc La Lb Lc M X) (ht : Tb w' base ga v' L' M) (hF : Fr ga va.ownBlock w w') (hN : Nx w va v') : Tri w' base ga gb gc v' vb vc L' Lb Lc M X :=
  ⟨ht, h.b.other h.ab hF, h.c.other h.ac hF, h.ab.next h.b hN, h.ac.next h.c hN, h.bc⟩
theorem Tri.stepB (h : Tri w base ga gb gc va vb vc La Lb Lc M X) (ht : Tb w' base gb v' L' M) (hF : Fr gb vb.ownBlock w w') (hN : Nx w vb v') : Tri w' base ga gb gc va v' vc La L' Lc M X :=
  ⟨h.a.other h.ab.symm hF, ht, h.c.other h.bc hF, (h.ab.symm.next h.a hN).symm, h.ac, h.bc.next h.c hN⟩
theorem Tri.stepC (h : Tri w base ga gb gc va vb vc La Lb Lc M X) (ht : Tb w' base gc v' L' X) (hF : Fr gc vc.ownBlock w w') (hN : Nx w vc v') : Tri w' base ga gb gc va vb v' La Lb L' M X :=
  ⟨h.a.other h.ac.symm hF, h.b.other h.bc.symm hF, ht, h.ab, (h.ac.symm.next h.a hN).symm, (h.bc.symm.next h.b hN).symm⟩
/-- A block that was made behind them is none of theirs. -/
theorem Tri.free (h : Tri w base ga gb gc va vb vc La Lb Lc M X) {b : Nat} (hb : w.heap.size ≤ b) : (b ≠ ga ∧ some b ≠ va.ownBlock) ∧ (b ≠ gb ∧ some b ≠ vb.ownBlock) ∧ (b ≠ gc ∧ some b ≠ vc.ownBlock) := by
  have hx : ∀ {g m : Nat} {v : Value} {L : List Fd}, Tb w base g v L m → b ≠ g ∧ some b ≠ v.ownBlock := fun h => ⟨by have := h.lt; omega, fun e => by have := (h.row.lt _ e.symm).2; omega⟩
  exact ⟨hx h.a, hx h.b, hx h.c⟩
end

attribute [local irreducible] tot shr sz wit addL first fndN fndB isN isB nmL vlL tab exL four litC addsL numT hasT

set_option maxRecDepth 100000 in
set_option maxHeartbeats 4000000 in
theorem same_law {w : World} {A : Option Addr} {c : Nat} {L : List Fd} (M N : Nat) (hM : M < 4294967296) (hN : N < 4294967296) (hR : RdS w (· < w.heap.size) A (enl fdc L)) (hl : L.length ≤ 9223372036854775807) :
    Calls Try.prog 4 #[.int .u32 (M : Int), .int .u32 (N : Int), .slice A L.length c] w fun e w' => e = .returned (.bool true) ∧ Below w.heap.size w w' := by
  have hgr := great_any (c := c) hR hl
  go_enter Try.func4, Try.ntmps4
  go_wp2_with fail
  refine hgr.mono ?_
  rintro e w1 ⟨t, rfl, ht, nd, rfl⟩
  have HB1 : Hid (Below w.heap.size w (w.drewN nd)) := below_dN (Below.refl _ _) nd
  have HT := Lib.hid ht
  clear ht hgr
  generalize w.drewN nd = w1 at *
  by_cases hgo : t = false ∧ L.length ≤ 200
  · obtain ⟨rfl, h200⟩ := hgo
    have hfew : Hid (∀ f ∈ L, sz f ≤ 18032) := by have := HT.out rfl; exact this.2
    have hd : decide ((200 : Int) < (L.length : Int)) = false := by simp; omega
    obtain ⟨X, hX⟩ : ∃ X, X = max M N := ⟨_, rfl⟩
    have hXi : max (M : Int) (N : Int) = (X : Int) := by omega
    have hXb : X < 4294967296 := by omega
    have hMX : M ≤ X := by omega
    have hnM := new_any M hM
    have hnX := new_any X hXb
    unfold pt at hnM hnX
    have hsz1 := HB1.out.size
    clear HT hX
    go_wp2_with fail
    refine (hnM _).mono ?_
    rintro e w2 ⟨rfl, hw2⟩
    have Ta2 : Hid (Tb w2 w.heap.size w1.heap.size (.slice none 0 0) [] M ∧ Below w.heap.size w w2 ∧ w2.heap.size = w1.heap.size + 1) := by
      show _ ∧ _ ∧ _
      rw [hw2]
      exact ⟨Tb.new w1 M hsz1, HB1.out.alloc hsz1 _, by simp⟩
    clear hw2
    go_wp2_with fail
    refine (hnM _).mono ?_
    rintro e w3 ⟨rfl, hw3⟩
    have Tb3 : Hid (Tb w3 w.heap.size w1.heap.size (.slice none 0 0) [] M ∧ Tb w3 w.heap.size w2.heap.size (.slice none 0 0) [] M ∧ Below w.heap.size w w3 ∧ w3.heap.size = w2.heap.size + 1) := by
      show _ ∧ _ ∧ _ ∧ _
      rw [hw3]
      exact ⟨Ta2.out.1.alloc _, Tb.new w2 M Ta2.out.2.1.size, Ta2.out.2.1.alloc Ta2.out.2.1.size _, by simp⟩
    clear hw3
    go_wp2_with fail
    refine (hnX _).mono ?_
    rintro e w4 ⟨rfl, hw4⟩
    have hTri : Hid (Tri w4 w.heap.size w1.heap.size w2.heap.size w3.heap.size (.slice none 0 0) (.slice none 0 0) (.slice none 0 0) (addsL M (L.take 0)) (addsL M (L.take 0)) (addsL X (L.take 0)) M X ∧ Below w.heap.size w w4) := by
      show _ ∧ _
      have e2 := Ta2.out.2.2
      have e3 := Tb3.out.2.2.2
      rw [List.take_zero, adds_nil, adds_nil, hw4]
      refine ⟨⟨Tb3.out.1.alloc _, Tb3.out.2.1.alloc _, Tb.new w3 X Tb3.out.2.2.1.size, ?_, ?_, ?_⟩, Tb3.out.2.2.1.alloc Tb3.out.2.2.1.size _⟩
      · exact ⟨by omega, by simp [Value.ownBlock], by simp [Value.ownBlock], by simp [Value.ownBlock]⟩
      · exact ⟨by omega, by simp [Value.ownBlock], by simp [Value.ownBlock], by simp [Value.ownBlock]⟩
      · exact ⟨by omega, by simp [Value.ownBlock], by simp [Value.ownBlock], by simp [Value.ownBlock]⟩
    clear hw4 Ta2 Tb3
    clear hnM hnX HB1 hsz1
    generalize w1.heap.size = ga at *
    generalize w2.heap.size = gb at *
    generalize w3.heap.size = gc at *
    go_wp2_with fail
    go_loopw [37] (fun i wr => ∃ (k : Nat) (va vb vc : Value), k ≤ L.length ∧ i = .int .i64 k ∧ Hid (Tri wr w.heap.size ga gb gc va vb vc (addsL M (L.take k)) (addsL M (L.take k)) (addsL X (L.take k)) M X ∧ Below w.heap.size w wr))
      (fun i _ => L.length - (intOf i).toNat)
    case atStart => exact ⟨0, _, _, _, Nat.zero_le _, rfl, hTri⟩
    case round =>
      clear hTri
      obtain ⟨k, va, vb, vc, hk, rfl, hT⟩ := hrel
      by_cases hlt : k < L.length
      · obtain ⟨b, q, rfl, hb, f0, f1, f2⟩ := (hR.below hT.out.2).field hlt
        have hz0 := hT.out.2.size
        have hT1 := hT.out.1.below ((Below.refl _ _).alloc (Nat.le_refl _) (.cells #[tx L[k].nm, tx L[k].vl, .bool L[k].nv] 32))
        have hW1 := hT.out.2.alloc hz0 (.cells #[tx L[k].nm, tx L[k].vl, .bool L[k].nv] 32)
        have hf := hfew.out _ (List.getElem_mem hlt)
        have hb1 := fun f hf => adds_sz (M := M) (B := 18032) (fun g hg => hfew.out g (List.mem_of_mem_take (i := k) hg)) f hf
        have hb2 := fun f hf => adds_sz (M := X) (B := 18032) (fun g hg => hfew.out g (List.mem_of_mem_take (i := k) hg)) f hf
        have hm1 := adds_le M (L.take k)
        have hm2 := adds_le X (L.take k)
        have haddA := fun (W : World) (v : Value) (g : Nat) (h : Tb W w.heap.size g v (addsL M (L.take k)) M) => add_any L[k] (by omega) (by omega) (by omega) (fun f hf => by have := hb1 f hf; omega) h
        have haddC := fun (W : World) (v : Value) (g : Nat) (h : Tb W w.heap.size g v (addsL X (L.take k)) X) => add_any L[k] (by omega) (by omega) (by omega) (fun f hf => by have := hb2 f hf; omega) h
        have hfnd := fun (W : World) (v : Value) (g : Nat) (h : Tb W w.heap.size g v (addsL M (L.take k)) M) => tfind_any L[k].nm L[k].vl h (by have := adds_len M (L.take k); have := List.length_take_le k L; omega)
        rw [← adds_take hlt] at haddA haddC
        unfold pt fv at haddA haddC
        unfold pt at hfnd
        have hfr := hT.out.1.free (Nat.le_refl _)
        have HT1 := Lib.hid hT1
        have HW1 := Lib.hid hW1
        have HR1 := Lib.hid (Row.new wr 32 #[tx L[k].nm, tx L[k].vl, .bool L[k].nv])
        have HFR := Lib.hid hfr
        unfold tx at haddA haddC hfnd f0 f1 HT1 HW1 HR1
        generalize L[k].nm = x at *
        generalize L[k].vl = y at *
        generalize L[k].nv = z at *
        clear hT1 hW1 hf hb1 hb2 hm1 hm2 hT hz0 hfr
        go_wp2_with fail
        refine (haddA _ va ga HT1.out.a).mono ?_
        rintro e w2 ⟨rfl, va2, hTa, hF, hN⟩
        have HT2 := Lib.hid (HT1.out.stepA hTa hF hN)
        have HW2 := Lib.hid (HW1.out.trans (hF.below HT1.out.a.low (fun j hj => HT1.out.a.lows j hj) HW1.out.size))
        have HR2 := Lib.hid (hF.row HFR.out.1.1 HFR.out.1.2 HR1.out)
        have c0 := HR2.out.cell (j := 0) rfl
        have c1 := HR2.out.cell (j := 1) rfl
        clear hTa hF hN HT1 HW1 HR1
        go_wp2_with fail
        refine (hfnd _ vb gb HT2.out.b).mono ?_
        rintro e w3 ⟨rfl, hb3⟩
        have HT3 := Lib.hid (HT2.out.below hb3)
        have HW3 := Lib.hid (HW2.out.trans (hb3.mono HW2.out.size))
        have HR3 := Lib.hid (HR2.out.below hb3 HR2.out.lt)
        have c0 := HR3.out.cell (j := 0) rfl
        have c1 := HR3.out.cell (j := 1) rfl
        have c2 := HR3.out.cell (j := 2) rfl
        clear hb3 HT2 HW2 HR2
        go_wp2_with fail
        refine (haddA _ vb gb HT3.out.b).mono ?_
        rintro e w4 ⟨rfl, vb2, hTb, hF, hN⟩
        have HT4 := Lib.hid (HT3.out.stepB hTb hF hN)
        have HW4 := Lib.hid (HW3.out.trans (hF.below HT3.out.b.low (fun j hj => HT3.out.b.lows j hj) HW3.out.size))
        have HR4 := Lib.hid (hF.row HFR.out.2.1.1 HFR.out.2.1.2 HR3.out)
        have c0 := HR4.out.cell (j := 0) rfl
        have c1 := HR4.out.cell (j := 1) rfl
        have c2 := HR4.out.cell (j := 2) rfl
        clear hTb hF hN HT3 HW3 HR3
        go_wp2_with fail
        refine (haddC _ vc gc HT4.out.c).mono ?_
        rintro e w5 ⟨rfl, vc2, hTc, hF, hN⟩
        have HT5 := Lib.hid (And.intro (HT4.out.stepC hTc hF hN) (HW4.out.trans (hF.below HT4.out.c.low (fun j hj => HT4.out.c.lows j hj) HW4.out.size)))
        clear hTc hF hN HT4 HW4 HR4 haddA haddC hfnd
        go_wp2_with fail
        go_roundw
        case rel => exact ⟨k + 1, va2, vb2, vc2, by omega, by go_num, HT5⟩
        case measure => simp [intOf]; omega
      · obtain rfl : k = L.length := by omega
        have hTT : Hid (Tri wr w.heap.size ga gb gc va vb vc (addsL M L) (addsL M L) (addsL X L) M X ∧ Below w.heap.size w wr) := by
          show _ ∧ _
          have := hT.out
          rwa [List.take_of_length_le (Nat.le_refl _)] at this
        obtain ⟨Aa, ca, rfl, _, _⟩ := hTT.out.1.a.shape
        obtain ⟨Ab, cb, rfl, _, _⟩ := hTT.out.1.b.shape
        obtain ⟨Ac, cc, rfl, _, _⟩ := hTT.out.1.c.shape
        have hla := tlen_any hTT.out.1.a.own
        have hlb := tlen_any hTT.out.1.b.own
        have hlc := tlen_any hTT.out.1.c.own
        have hsuf := adds_grows hMX L
        have hle := hsuf.length_le
        have hlX := adds_len X L
        have hlast : Hid (∀ (i : Nat) (_ : i < (addsL M L).length) (h1 : (addsL M L).length - 1 - i < (addsL M L).length) (h2 : (addsL X L).length - 1 - i < (addsL X L).length), (addsL X L)[(addsL X L).length - 1 - i]'h2 = (addsL M L)[(addsL M L).length - 1 - i]'h1) := by
          show ∀ _ _ _ _, _
          exact fun i hi _ hb => (suffix_last hsuf hi hb).symm
        have hdl : decide ((addsL X L).length < (addsL M L).length) = false := by simp; omega
        have heq : (((addsL M L).length : Int) == ((addsL M L).length : Int)) = true := by simp
        unfold pt at hla hlb hlc
        clear hT hsuf
        generalize addsL M L = T at *
        generalize addsL X L = U at *
        go_wp2_with fail
        refine hla.mono ?_
        rintro e w6 ⟨rfl, hw6⟩
        subst hw6
        go_wp2_with fail
        refine hlb.mono ?_
        rintro e w6 ⟨rfl, hw6⟩
        subst hw6
        clear hlb
        go_wp2_with fail
        refine hla.mono ?_
        rintro e w6 ⟨rfl, hw6⟩
        subst hw6
        go_wp2_with fail
        refine hlc.mono ?_
        rintro e w6 ⟨rfl, hw6⟩
        subst hw6
        clear hlc
        go_wp2_with fail
        refine hla.mono ?_
        rintro e w6 ⟨rfl, hw6⟩
        subst hw6
        clear hla hdl heq
        go_wp2_with fail
        go_loopw [71] (fun i wr => ∃ k : Nat, k ≤ T.length ∧ i = .int .i64 k ∧ Hid (Tri wr w.heap.size ga gb gc (.slice Aa T.length ca) (.slice Ab T.length cb) (.slice Ac U.length cc) T T U M X ∧ Below w.heap.size w wr))
          (fun i _ => T.length - (intOf i).toNat)
        case atStart => exact ⟨0, Nat.zero_le _, rfl, hTT⟩
        case round =>
          clear hTT
          obtain ⟨k, hk, rfl, hT⟩ := hrel
          by_cases hlt : k < T.length
          · have hA := fun (W : World) (h : Tb W w.heap.size ga (.slice Aa T.length ca) T M) => tat_dyn h k hlt (by omega)
            have hB := fun (W : World) (h : Tb W w.heap.size gb (.slice Ab T.length cb) T M) => tat_dyn h k hlt (by omega)
            have hC := fun (W : World) (h : Tb W w.heap.size gc (.slice Ac U.length cc) U X) => tat_dyn h k (by omega) (by omega)
            have hlk := hlast.out k hlt (by omega) (by omega)
            rw [hlk] at hC
            unfold fv pt tx at hA hB hC
            generalize (T[T.length - 1 - k]'(by omega)).nm = x at *
            generalize (T[T.length - 1 - k]'(by omega)).vl = y at *
            generalize (T[T.length - 1 - k]'(by omega)).nv = z at *
            have ex : (x == x) = true := by simp
            have ey : (y == y) = true := by simp
            have ez : (z == z) = true := by simp
            clear hlk
            go_wp2_with fail
            refine (hA _ hT.out.1.a).mono ?_
            rintro e w6 ⟨rfl, hb6⟩
            have hT6 := (hT.out.1.below hb6).below ((Below.refl _ _).alloc (Nat.le_refl _) (.cells #[.string ⟨x.toArray⟩, .string ⟨y.toArray⟩, .bool z] 32))
            have hW6 := hT.out.2.trans (hb6.mono hT.out.2.size)
            have HT6 := Lib.hid hT6
            have HW6 := Lib.hid (hW6.alloc hW6.size (.cells #[.string ⟨x.toArray⟩, .string ⟨y.toArray⟩, .bool z] 32))
            have HR6 := Lib.hid (Row.new w6 32 #[.string ⟨x.toArray⟩, .string ⟨y.toArray⟩, .bool z])
            clear hT6 hW6 hb6 hT hA
            go_wp2_with fail
            refine (hB _ HT6.out.b).mono ?_
            rintro e w7 ⟨rfl, hb7⟩
            have HT7 := Lib.hid ((HT6.out.below hb7).below ((Below.refl _ _).alloc (Nat.le_refl _) (.cells #[.string ⟨x.toArray⟩, .string ⟨y.toArray⟩, .bool z] 32)))
            have hW7 := HW6.out.trans (hb7.mono HW6.out.size)
            have HW7 := Lib.hid (hW7.alloc hW7.size (.cells #[.string ⟨x.toArray⟩, .string ⟨y.toArray⟩, .bool z] 32))
            have HR7 := Lib.hid ((HR6.out.below hb7 HR6.out.lt).alloc (.cells #[.string ⟨x.toArray⟩, .string ⟨y.toArray⟩, .bool z] 32))
            have HS7 := Lib.hid (Row.new w7 32 #[.string ⟨x.toArray⟩, .string ⟨y.toArray⟩, .bool z])
            clear hb7 hW7 HT6 HW6 HR6 hB
            go_wp2_with fail
            refine (hC _ HT7.out.c).mono ?_
            rintro e w8 ⟨rfl, hb8⟩
            have HT8 := Lib.hid ((HT7.out.below hb8).below ((Below.refl _ _).alloc (Nat.le_refl _) (.cells #[.string ⟨x.toArray⟩, .string ⟨y.toArray⟩, .bool z] 32)))
            have hW8 := HW7.out.trans (hb8.mono HW7.out.size)
            have HW8 := Lib.hid (hW8.alloc hW8.size (.cells #[.string ⟨x.toArray⟩, .string ⟨y.toArray⟩, .bool z] 32))
            have hR8 := (HR7.out.below hb8 HR7.out.lt).alloc (.cells #[.string ⟨x.toArray⟩, .string ⟨y.toArray⟩, .bool z] 32)
            have hS8 := (HS7.out.below hb8 HS7.out.lt).alloc (.cells #[.string ⟨x.toArray⟩, .string ⟨y.toArray⟩, .bool z] 32)
            have r0 := hR8.cell (j := 0) rfl
            have r1 := hR8.cell (j := 1) rfl
            have r2 := hR8.cell (j := 2) rfl
            have s0 := hS8.cell (j := 0) rfl
            have s1 := hS8.cell (j := 1) rfl
            have s2 := hS8.cell (j := 2) rfl
            have HX := Lib.hid (And.intro HT8.out HW8.out)
            clear hb8 hW8 HT7 HW7 HR7 HS7 hC hR8 hS8 HT8 HW8
            go_wp2_with fail
            go_roundw
            case rel => exact ⟨k + 1, by omega, by go_num, HX⟩
            case measure => simp [intOf]; omega
          · go_wp2_with fail
            refine (fixed_any _).mono ?_
            rintro e w6 ⟨rfl, hb6⟩
            have HX := Lib.hid (hT.out.2.trans (hb6.mono hT.out.2.size))
            clear hb6
            go_wp2_with fail
            go_ret
            exact ⟨rfl, HX.out⟩
  · have hfx := fixed_any w1
    clear HT
    cases t with
    | true =>
      clear hgo
      go_wp2_with fail
      refine hfx.mono ?_
      rintro e w2 ⟨rfl, hb2⟩
      have HB2 := Lib.hid (HB1.out.trans (hb2.mono HB1.out.size))
      clear hb2 hfx
      go_wp2_with fail
      go_ret
      exact ⟨rfl, HB2.out⟩
    | false =>
      have hd : (200 : Int) < (L.length : Int) := by
        have : ¬ L.length ≤ 200 := fun h => hgo ⟨rfl, h⟩
        omega
      clear hgo
      go_wp2_with fail
      refine hfx.mono ?_
      rintro e w2 ⟨rfl, hb2⟩
      have HB2 := Lib.hid (HB1.out.trans (hb2.mono HB1.out.size))
      clear hb2 hfx
      go_wp2_with fail
      go_ret
      exact ⟨rfl, HB2.out⟩
theorem same_law' {w : World} {A : Option Addr} {c : Nat} {L : List Fd} (a b : Int) (ha : 0 ≤ a ∧ a < 4294967296) (hb : 0 ≤ b ∧ b < 4294967296) (hR : RdS w (· < w.heap.size) A (enl fdc L)) (hl : L.length ≤ 9223372036854775807) :
    Calls Try.prog 4 #[.int .u32 a, .int .u32 b, .slice A L.length c] w fun e w' => e = .returned (.bool true) ∧ Below w.heap.size w w' := by
  obtain ⟨M, rfl⟩ := Int.eq_ofNat_of_zero_le ha.1
  obtain ⟨N, rfl⟩ := Int.eq_ofNat_of_zero_le hb.1
  exact same_law M N (by omega) (by omega) hR hl
end Go.Proofs.Yteoneedehfijhaa
