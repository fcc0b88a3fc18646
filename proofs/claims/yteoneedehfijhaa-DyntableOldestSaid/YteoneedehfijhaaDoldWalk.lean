/-
  DyntableOldest, by its contract: at every input it answers true; below what was there nothing has turned. Conditions: mosts below 2^32, as many fields as an int counts.
-/
import Derived.Test.YteoneedehfijhaaDfix
import Derived.Test.YteoneedehfijhaaDgr
namespace Go.Proofs.Yteoneedehfijhaa
open Go.RowKit Go.WideShapes

attribute [local irreducible] tot shr sz wit addL first fndN fndB isN isB nmL vlL tab exL four litC addsL

set_option maxRecDepth 100000 in
set_option maxHeartbeats 4000000 in
theorem oldest_law {w : World} {A : Option Addr} {c : Nat} {L : List Fd} (M N : Nat) (hM : M < 4294967296) (hN : N < 4294967296) (hR : RdS w (· < w.heap.size) A (enl fdc L)) (hl : L.length ≤ 9223372036854775807) :
    Calls Try.prog 6 #[.int .u32 (M : Int), .int .u32 (N : Int), .slice A L.length c] w fun e w' => e = .returned (.bool true) ∧ Below w.heap.size w w' := by
  have hgr := great_any (c := c) hR hl
  go_enter Try.func6, Try.ntmps6
  go_wp2_with fail
  refine hgr.mono ?_
  rintro e w1 ⟨t, rfl, ht, nd, rfl⟩
  have HB1 : Hid (Below w.heap.size w (w.drewN nd)) := below_dN (Below.refl _ _) nd
  have HT := Lib.hid ht
  clear ht hgr
  generalize w.drewN nd = w1 at *
  by_cases hgo : t = false ∧ L.length ≤ 200
  · obtain ⟨rfl, h200⟩ := hgo
    have hfew : Hid (∀ f ∈ L, sz f ≤ 18032) := by have := HT.out rfl; exact this.2
    have hd : decide ((200 : Int) < (L.length : Int)) = false := by simp; omega
    clear HT
    go_wp2_with fail
    have hnew := new_any M hM w1
    unfold pt at hnew
    refine hnew.mono ?_
    rintro e w2 ⟨rfl, hw2⟩
    have HT2 : Hid (Tb w2 w.heap.size w1.heap.size (.slice none 0 0) (addsL M (L.take 0)) M) := by
      show Tb _ _ _ _ _ _
      rw [hw2, List.take_zero, adds_nil]
      exact Tb.new w1 M HB1.out.size
    have HB2 : Hid (Below w.heap.size w w2) := by
      show Below _ _ _
      rw [hw2]
      exact HB1.out.alloc HB1.out.size _
    have hg0 : w.heap.size ≤ w1.heap.size := HB1.out.size
    clear hw2 hnew HB1
    generalize w1.heap.size = g at *
    go_wp2_with fail
    go_loopw [28] (fun i wr => ∃ (k : Nat) (v : Value), k ≤ L.length ∧ i = .int .i64 k ∧ Hid (Tb wr w.heap.size g v (addsL M (L.take k)) M) ∧ Hid (Below w.heap.size w wr))
      (fun i _ => L.length - (intOf i).toNat)
    case atStart => exact ⟨0, _, Nat.zero_le _, rfl, HT2, HB2⟩
    case round =>
      clear HT2 HB2
      obtain ⟨k, v, hk, rfl, hT, hW⟩ := hrel
      by_cases hlt : k < L.length
      · obtain ⟨b, q, rfl, hb, f0, f1, f2⟩ := (hR.below hW.out).field hlt
        have hT1 := hT.out.alloc (.cells #[tx L[k].nm, tx L[k].vl, .bool L[k].nv] 32)
        have hadd := add_any L[k] (by have := hfew.out _ (List.getElem_mem hlt); omega) (by omega) (by have := adds_le M (L.take k); omega) (fun f hf => by have := adds_sz (B := 18032) (fun g hg => hfew.out g (List.mem_of_mem_take hg)) f hf; omega) hT1
        rw [← adds_take hlt] at hadd
        have HL := Lib.hid hT1.lows
        have hz0 := hW.out.size
        unfold pt fv tx at hadd
        unfold tx at f0 f1 HL hT1
        generalize L[k].nm = x at *
        generalize L[k].vl = y at *
        generalize L[k].nv = z at *
        clear hT1
        go_wp2_with fail
        refine hadd.mono ?_
        rintro e w3 ⟨rfl, v3, hT3, hF3, hN3⟩
        have HT3 := Lib.hid hT3
        have HW3 := Lib.hid ((hW.out.alloc hz0 (.cells #[.string ⟨x.toArray⟩, .string ⟨y.toArray⟩, .bool z] 32)).trans (hF3.below hg0 (fun j hj => HL.out j hj) (by simp; omega)))
        clear hT3 hF3 hN3 hadd
        go_wp2_with fail
        go_roundw
        case rel => exact ⟨k + 1, v3, by omega, by go_num, HT3, HW3⟩
        case measure => simp [intOf]; omega
      · obtain rfl : k = L.length := by omega
        have hTT : Tb wr w.heap.size g v (addsL M L) M := by
          have := hT.out
          rwa [List.take_of_length_le (Nat.le_refl _)] at this
        obtain ⟨A', c', rfl, _, _⟩ := hTT.shape
        have hlen := tlen_any hTT.own
        have hsz := tsize_any hTT.own
        have hll := adds_len M L
        have hdl : decide (L.length < (addsL M L).length) = false := by simp; omega
        obtain ⟨X, hX⟩ : ∃ X, X = max M N := ⟨_, rfl⟩
        have hXi : max (M : Int) (N : Int) = (X : Int) := by omega
        have hXb : X < 4294967296 := by omega
        have htot := adds_le M L
        have hlim := limit_any X hXb (by omega) (fun f hf => by have := adds_sz (B := 18032) hfew.out f hf; omega) hTT
        rw [shr_self (by omega)] at hlim
        have HLo := Lib.hid hTT.lows
        clear hT hX hTT
        unfold pt at hlen hsz hlim
        go_wp2_with fail
        refine hlen.mono ?_
        rintro e w3 ⟨rfl, hw3⟩
        subst hw3
        clear hlen
        go_wp2_with fail
        refine hsz.mono ?_
        rintro e w3 ⟨rfl, hw3⟩
        subst hw3
        clear hsz
        go_wp2_with fail
        refine hlim.mono ?_
        rintro e w4 ⟨rfl, v4, hT4, hF4, ho4⟩
        obtain ⟨A4, c4, rfl, _, _⟩ := hT4.shape
        have hW4 := hW.out.trans (hF4.below hg0 (fun j hj => HLo.out j hj) hW.out.size)
        have hlen := tlen_any hT4.own
        have HT4 := Lib.hid hT4
        have HW4 := Lib.hid hW4
        unfold pt at hlen
        clear hT4 hF4 ho4 hW4 hlim HLo hW
        go_wp2_with fail
        refine hlen.mono ?_
        rintro e w5 ⟨rfl, hw5⟩
        subst hw5
        clear hlen
        go_wp2_with fail
        have hlast : Hid (∀ (i : Nat) (_ : i < (addsL M L).length) (h1 : (addsL M L).length - 1 - i < (addsL M L).length) (hb : L.length - 1 - i < L.length), (addsL M L)[(addsL M L).length - 1 - i]'h1 = bare (L[L.length - 1 - i]'hb)) := by
          show ∀ _ _ _ _, _
          exact fun i hi _ hb => adds_last hi hb
        have hnil : Hid ((addsL M L).length = 0 ↔ tot (addsL M L) = 0) := by
          show _ ↔ _
          rw [tot_nil]
          exact List.length_eq_zero_iff
        have hszT : Hid (∀ f ∈ addsL M L, sz f ≤ 18032) := adds_sz hfew.out
        clear hdl
        generalize addsL M L = T at *
        go_loopw [50] (fun i wr => ∃ k : Nat, k ≤ T.length ∧ i = .int .i64 k ∧ Hid (Tb wr w.heap.size g (.slice A4 T.length c4) T X) ∧ Hid (Below w.heap.size w wr))
          (fun i _ => T.length - (intOf i).toNat)
        case atStart => exact ⟨0, Nat.zero_le _, rfl, HT4, HW4⟩
        case round =>
          clear HT4 HW4
          obtain ⟨k, hk, rfl, hT, hW⟩ := hrel
          by_cases hlt : k < T.length
          · obtain ⟨j, hj⟩ : ∃ j, j = L.length - 1 - k := ⟨_, rfl⟩
            have hjl : j < L.length := by omega
            have hat := tat_dyn hT.out k hlt (by omega)
            rw [hlast.out k hlt _ (by omega)] at hat
            have hLj : (L[L.length - 1 - k]'(by omega)) = L[j] := by simp [hj]
            rw [hLj] at hat
            have hsub : (L.length : Int) - 1 - (k : Int) = (j : Int) := by omega
            have hB := Lib.hid hW.out.size
            unfold bare fv pt at hat
            simp only at hat
            obtain ⟨b, q, rfl, hb, e0, e1, e2⟩ := hR.field hjl
            unfold tx at hat e0 e1
            generalize L[j].nm = x at hat e0
            generalize L[j].vl = y at hat e1
            generalize L[j].nv = z at e2
            have ex : (x == x) = true := by simp
            have ey : (y == y) = true := by simp
            clear hLj hj
            go_wp2_with fail
            refine hat.mono ?_
            rintro e w6 ⟨rfl, hb6⟩
            have hW6 := hW.out.trans (hb6.mono hW.out.size)
            have f0 := (hW6.cell (p := ⟨b, q + j * 3, none⟩) hb).trans e0
            have f1 := (hW6.cell (p := ⟨b, q + j * 3 + 1, none⟩) hb).trans e1
            have f2 := (hW6.cell (p := ⟨b, q + j * 3 + 2, none⟩) hb).trans e2
            have hz6 := hW6.size
            have hb6s : b < w6.heap.size := Nat.lt_of_lt_of_le hb hz6
            have l0 := (World.cell?_alloc_lt w6 (.cells #[.string ⟨x.toArray⟩, .string ⟨y.toArray⟩, .bool false] 32) ⟨b, q + j * 3, none⟩ hb6s).trans f0
            have l1 := (World.cell?_alloc_lt w6 (.cells #[.string ⟨x.toArray⟩, .string ⟨y.toArray⟩, .bool false] 32) ⟨b, q + j * 3 + 1, none⟩ hb6s).trans f1
            have l2 := (World.cell?_alloc_lt w6 (.cells #[.string ⟨x.toArray⟩, .string ⟨y.toArray⟩, .bool false] 32) ⟨b, q + j * 3 + 2, none⟩ hb6s).trans f2
            clear f0 f1 f2
            have HW6 := Lib.hid ((hW6.alloc hz6 (.cells #[.string ⟨x.toArray⟩, .string ⟨y.toArray⟩, .bool false] 32)).alloc (by simp; omega) (.cells #[.string ⟨x.toArray⟩, .string ⟨y.toArray⟩, .bool z] 32))
            have HT6 := Lib.hid (((hT.out.below hb6).alloc (.cells #[.string ⟨x.toArray⟩, .string ⟨y.toArray⟩, .bool false] 32)).alloc (.cells #[.string ⟨x.toArray⟩, .string ⟨y.toArray⟩, .bool z] 32))
            clear hb6 hW6 hat e0 e1 e2
            go_wp2_with fail
            go_roundw
            case rel => exact ⟨k + 1, by omega, by go_num, HT6, HW6⟩
            case measure => simp [intOf]; omega
          · have hlen := tlen_any hT.out.own
            have hlim := limit_any 0 (by omega) (by omega) (fun f hf => by have := hszT.out f hf; omega) hT.out
            rw [show ((0 : Nat) : Int) = 0 from rfl, shr_zero] at hlim
            have HLo := Lib.hid hT.out.lows
            unfold pt at hlen hlim
            obtain ⟨bz, hz1, hz2⟩ : ∃ bz : Bool, ((T.length : Int) == 0) = bz ∧ ((tot T : Int) == 0) = bz := by
              by_cases h0 : T.length = 0
              · have h1 := hnil.out.1 h0
                exact ⟨true, by simp [h0], by simp [h1]⟩
              · have h1 : tot T ≠ 0 := fun h => h0 (hnil.out.2 h)
                exact ⟨false, by rw [beq_eq_false_iff_ne]; omega, by rw [beq_eq_false_iff_ne]; omega⟩
            have hbz : (bz == bz) = true := by simp
            have htd : decide (tot T ≤ M) = true := by simp; omega
            go_wp2_with fail
            refine hlen.mono ?_
            rintro e w6 ⟨rfl, hw6⟩
            subst hw6
            clear hlen
            go_wp2_with fail
            refine hlim.mono ?_
            rintro e w7 ⟨rfl, v7, hT7, hF7, ho7⟩
            have HW7 := Lib.hid (hW.out.trans (hF7.below hg0 (fun j hj => HLo.out j hj) hW.out.size))
            have HT7 := Lib.hid hT7
            clear hT7 hF7 ho7 hlim hT hW HLo
            go_wp2_with fail
            refine (fixed_any _).mono ?_
            rintro e w8 ⟨rfl, hb8⟩
            have hT8 := HT7.out.below hb8
            have HW8 := Lib.hid (HW7.out.trans (hb8.mono HW7.out.size))
            obtain ⟨A8, c8, rfl, _, _⟩ := hT8.shape
            have hln8 := tlen_any hT8.own
            have hsz8 := tsize_any hT8.own
            rw [List.length_nil, show ((0 : Nat) : Int) = 0 from rfl] at hln8
            rw [tot_nil0, show ((0 : Nat) : Int) = 0 from rfl] at hsz8
            unfold pt at hln8 hsz8
            clear hb8 HT7 HW7 hT8
            go_wp2_with fail
            refine hln8.mono ?_
            rintro e w9 ⟨rfl, hw9⟩
            subst hw9
            clear hln8
            go_wp2_with fail
            refine hsz8.mono ?_
            rintro e w9 ⟨rfl, hw9⟩
            subst hw9
            clear hsz8
            go_wp2_with fail
            go_ret
            exact ⟨rfl, HW8.out⟩
  · have hfx := fixed_any w1
    clear HT
    cases t with
    | true =>
      clear hgo
      go_wp2_with fail
      refine hfx.mono ?_
      rintro e w2 ⟨rfl, hb2⟩
      have HB2 := Lib.hid (HB1.out.trans (hb2.mono HB1.out.size))
      clear hb2 hfx
      go_wp2_with fail
      go_ret
      exact ⟨rfl, HB2.out⟩
    | false =>
      have hd : (200 : Int) < (L.length : Int) := by
        have : ¬ L.length ≤ 200 := fun h => hgo ⟨rfl, h⟩
        omega
      clear hgo
      go_wp2_with fail
      refine hfx.mono ?_
      rintro e w2 ⟨rfl, hb2⟩
      have HB2 := Lib.hid (HB1.out.trans (hb2.mono HB1.out.size))
      clear hb2 hfx
      go_wp2_with fail
      go_ret
      exact ⟨rfl, HB2.out⟩
theorem oldest_law' {w : World} {A : Option Addr} {c : Nat} {L : List Fd} (a b : Int) (ha : 0 ≤ a ∧ a < 4294967296) (hb : 0 ≤ b ∧ b < 4294967296) (hR : RdS w (· < w.heap.size) A (enl fdc L)) (hl : L.length ≤ 9223372036854775807) :
    Calls Try.prog 6 #[.int .u32 a, .int .u32 b, .slice A L.length c] w fun e w' => e = .returned (.bool true) ∧ Below w.heap.size w w' := by
  obtain ⟨M, rfl⟩ := Int.eq_ofNat_of_zero_le ha.1
  obtain ⟨N, rfl⟩ := Int.eq_ofNat_of_zero_le hb.1
  exact oldest_law M N (by omega) (by omega) hR hl
end Go.Proofs.Yteoneedehfijhaa
