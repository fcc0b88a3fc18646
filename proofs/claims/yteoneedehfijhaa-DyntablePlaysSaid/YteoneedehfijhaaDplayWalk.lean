/-
  DyntablePlays, by its contract: at every row of operations it answers true; below what was there nothing has turned. Conditions: a most below 2^32, at most 2^41 operations.
-/
import Derived.Test.YteoneedehfijhaaDpl
import Derived.Test.YteoneedehfijhaaDfix
import Derived.Test.YteoneedehfijhaaDgo
import Derived.Test.YteoneedehfijhaaLast
import Derived.BigQuiet
import Derived.Deep.CutBlock
import Derived.Deep.DeepCutAuto
import Derived.Deep.QuietTactic
namespace Go.Proofs.Yteoneedehfijhaa
open Go.RowKit Go.WideShapes

/-- What holds of both lists. -/
def Bd (L R : List Fd) (M : Nat) : Prop := R = L.reverse ∧ tot L ≤ M ∧ M < 4294967296 ∧ ∀ f ∈ L, sz f ≤ 18032
theorem Bd.add {L R : List Fd} {M : Nat} (h : Bd L R M) (f : Fd) (hf : sz f ≤ 18032) : Bd (addL M f L) (raddL M f R) M := by
  refine ⟨by rw [h.1, raddL_reverse], addL_le, h.2.2.1, fun g hg => ?_⟩
  have := (addL_suffix M f L L (List.suffix_refl _)).subset hg
  rw [List.mem_append, List.mem_singleton] at this
  rcases this with h1 | rfl
  · exact h.2.2.2 g h1
  · exact hf
theorem Bd.limit {L R : List Fd} {M : Nat} (h : Bd L R M) (m : Nat) (hm : m < 4294967296) : Bd (shr (m : Int) L) (wit (m : Int) 0 R) m :=
  ⟨by rw [h.1, wit_shr], by have := shr_le (m : Int) (by omega) L; omega, hm, fun g hg => h.2.2.2 g ((shr_suffix _ _).subset hg)⟩
theorem Bd.few {L R : List Fd} {M : Nat} (h : Bd L R M) : L.length ≤ 134217728 ∧ tot R = tot L ∧ R.length = L.length ∧ (∀ f ∈ R, sz f ≤ 18032) := by
  have := tot_len L
  have h2 := h.2.1
  have h3 := h.2.2.1
  refine ⟨by omega, by rw [h.1, tot_reverse], by rw [h.1, List.length_reverse], fun f hf => h.2.2.2 f ?_⟩
  rw [h.1, List.mem_reverse] at hf
  exact hf

attribute [local irreducible] tot shr sz wit addL raddL first fndN fndB isN isB nmL vlL tab rtabC named numT hasT isBT isNT exL four litC

set_option maxRecDepth 100000 in
set_option maxHeartbeats 8000000 in
theorem plays_law {w : World} {A : Option Addr} {c : Nat} {O : List Opv} (M : Nat) (hM : M < 4294967296) (hR : RdS w (· < w.heap.size) A (enl opc O)) (hl : O.length ≤ 2199023255552) :
    Calls Try.prog 3 #[.int .u32 (M : Int), .slice A O.length c] w fun e w' => e = .returned (.bool true) ∧ Below w.heap.size w w' := by
  have hgr := great5_any (c := c) hR hl
  go_enter Try.func3, Try.ntmps3
  go_wp2_with fail
  refine hgr.mono ?_
  rintro e w1 ⟨t, rfl, ht, hb1⟩
  have HB1 := Lib.hid hb1
  have HT := Lib.hid ht
  clear ht hgr hb1
  cases t with
  | true =>
    clear HT
    go_wp2_with fail
    refine (fixed_any _).mono ?_
    rintro e w2 ⟨rfl, hb2⟩
    have HB2 := Lib.hid (HB1.out.trans (hb2.mono HB1.out.size))
    clear hb2
    go_wp2_with fail
    go_ret
    exact ⟨rfl, HB2.out⟩
  | false =>
    have hfew : Hid (∀ (k : Nat) (h : k < O.length), sz O[k].fd ≤ 18032) := by
      show ∀ _ _, _
      exact fun k h => (HT.out rfl).2.2 _ (List.mem_map.2 ⟨_, List.getElem_mem h, rfl⟩)
    have h200 : O.length ≤ 200 := (HT.out rfl).1
    clear HT
    have hnew := new_any M hM w1
    unfold pt at hnew
    go_wp2_with fail
    refine hnew.mono ?_
    rintro e w2 ⟨rfl, hw2⟩
    have HP0 : Hid (Pl (w2.alloc (.cells #[.slice none 0 0, .int .i64 (M : Int)] 30)) w.heap.size w1.heap.size w2.heap.size (.slice none 0 0) none 0 M M [] [] ∧ Below w.heap.size w (w2.alloc (.cells #[.slice none 0 0, .int .i64 (M : Int)] 30))) := by
      show _ ∧ _
      have hT : Tb w2 w.heap.size w1.heap.size (.slice none 0 0) [] M := by rw [hw2]; exact Tb.new w1 M HB1.out.size
      have hW : Below w.heap.size w w2 := by rw [hw2]; exact HB1.out.alloc HB1.out.size _
      exact ⟨⟨hT.alloc _, Row.new w2 30 #[.slice none 0 0, .int .i64 (M : Int)], RdS.nil, Nat.le_refl _, by have := hT.lt; omega, by simp [Value.ownBlock], hW.size⟩, hW.alloc hW.size _⟩
    have HD0 : Hid (Bd [] [] M) := by show _ ∧ _; exact ⟨rfl, by rw [tot_nil0]; omega, hM, by simp⟩
    clear hw2 hnew HB1
    generalize w1.heap.size = g at *
    go_wp2_with fail
    generalize w2.alloc (.cells #[.slice none 0 0, .int .i64 (M : Int)] 30) = w3 at *
    generalize w2.heap.size = gm at *
    go_loopw [30] (fun i wr => ∃ (k : Nat) (v : Value) (A' : Option Addr) (c' Mc : Nat) (L R : List Fd), k ≤ O.length ∧ i = .int .i64 k ∧ Hid (Pl wr w.heap.size g gm v A' c' Mc Mc L R ∧ Below w.heap.size w wr) ∧ Hid (Bd L R Mc))
      (fun i _ => O.length - (intOf i).toNat)
    case atStart => exact ⟨0, _, _, _, _, _, _, Nat.zero_le _, rfl, HP0, HD0⟩
    case round =>
      clear HP0 HD0
      obtain ⟨k, v, A', c', Mc, L, R, hk, rfl, hP, hD⟩ := hrel
      by_cases hlt : k < O.length
      · obtain ⟨b, q, rfl, hb, f0, f1, f2, f3, f4, f5⟩ := (hR.below hP.out.2).oper hlt
        have hms := O[k].hm
        have hnn := O[k].hn
        have hsf := hfew.out k hlt
        unfold tx at f1 f2
        generalize O[k].kd = kd at *
        generalize O[k].fd = f at *
        generalize O[k].ms = ms at *
        generalize O[k].nn = n at *
        have HP1 := Lib.hid (And.intro (hP.out.1.alloc (.cells #[.int .i64 kd, .string ⟨f.nm.toArray⟩, .string ⟨f.vl.toArray⟩, .bool f.nv, .int .u32 ms, .int .i64 n] 34)) (hP.out.2.alloc hP.out.2.size (.cells #[.int .i64 kd, .string ⟨f.nm.toArray⟩, .string ⟨f.vl.toArray⟩, .bool f.nv, .int .u32 ms, .int .i64 n] 34)))
        have HO1 := Lib.hid (Row.new wr 34 #[.int .i64 kd, .string ⟨f.nm.toArray⟩, .string ⟨f.vl.toArray⟩, .bool f.nv, .int .u32 ms, .int .i64 n])
        have HFB : Hid (wr.heap.size ≠ g ∧ some wr.heap.size ≠ v.ownBlock ∧ wr.heap.size ≠ gm) := by
          show _ ∧ _ ∧ _
          have h1 := hP.out.1.t.lt
          have h2 := hP.out.1.m.lt
          exact ⟨by omega, fun e => by have := (hP.out.1.t.row.lt _ e.symm).2; omega, by omega⟩
        clear hP
        go_upto_block 2 with fail
        go_cut [] (fun wx => ∃ v A c M L R, Hid (Pl wx w.heap.size g gm v A c M M L R ∧ Below w.heap.size w wx) ∧ Hid (Bd L R M))
        case first =>
          have hkd : (kd = 0) ∨ (kd = 1) ∨ (kd = 2) ∨ (((kd == 0) = false) ∧ ((kd == 1) = false) ∧ ((kd == 2) = false)) := by
            by_cases h0 : kd = 0
            · exact .inl h0
            · by_cases h1 : kd = 1
              · exact .inr (.inl h1)
              · by_cases h2 : kd = 2
                · exact .inr (.inr (.inl h2))
                · exact .inr (.inr (.inr ⟨by rw [beq_eq_false_iff_ne]; exact h0, by rw [beq_eq_false_iff_ne]; exact h1, by rw [beq_eq_false_iff_ne]; exact h2⟩))
          rcases hkd with rfl | rfl | rfl | ⟨e0, e1, e2⟩
          have hadd := add_any f (by omega) (by have := hD.out.2.2.1; omega) (by have := hD.out.2.1; have := hD.out.2.2.1; omega) (fun g hg => by have := hD.out.2.2.2 g hg; omega) HP1.out.1.t
          unfold pt fv tx at hadd
          go_wp2_with fail
          refine hadd.mono ?_
          rintro e w2 ⟨rfl, v2, hT2, hF2, hN2⟩
          have HP2 := Lib.hid (And.intro (HP1.out.1.stepT hT2 hF2 hN2) (HP1.out.2.trans (hF2.below HP1.out.1.t.low (fun j hj => HP1.out.1.t.lows j hj) HP1.out.2.size)))
          have HO2 := Lib.hid (hF2.row HFB.out.1 HFB.out.2.1 HO1.out)
          have m0 := HP2.out.1.m.cell (j := 0) rfl
          have m1 := HP2.out.1.m.cell (j := 1) rfl
          have o1 := HO2.out.cell (j := 1) rfl
          have o2 := HO2.out.cell (j := 2) rfl
          have o3 := HO2.out.cell (j := 3) rfl
          have hradd := radd_any Mc f (by have := hD.out.2.2.1; omega) (by omega) HP2.out.1.reads (by have := hD.out.few; have := hD.out.2.1; have := hD.out.2.2.1; omega) (fun g hg => by have := hD.out.few.2.2.2 g hg; omega) HP2.out.1.hc
          unfold MadeT tv fv tx at hradd
          clear hT2 hF2 hN2 hadd HP1 HO1
          go_wp2_with fail
          refine hradd.mono ?_
          rintro e w4 ⟨A4, c4, rfl, hr4, hc4, hb4⟩
          have HP9 := Lib.hid (And.intro (HP2.out.1.stepM (Mm' := Mc) hb4 hr4 hc4) (((HP2.out.2.trans (hb4.mono HP2.out.2.size)).setCell (p := ⟨gm, 0, none⟩) HP2.out.1.low (.slice A4 (raddL Mc f R).length c4)).setCell (p := ⟨gm, 1, none⟩) HP2.out.1.low (.int .i64 (Mc : Int))))
          have hm4 := HP2.out.1.m.below hb4 HP2.out.1.m.lt
          have m0 := hm4.cell (j := 0) rfl
          have m1 := hm4.cell (j := 1) rfl
          have z0 := hm4.thawed 0
          have z1 := hm4.thawed 1
          have HD9 := Lib.hid (hD.out.add f hsf)
          clear hm4 hr4 hb4 hradd HP2 HO2 hD
          go_wp2_with fail
          generalize (w4.setCell ⟨gm, 0, none⟩ (.slice A4 (raddL Mc f R).length c4)).setCell ⟨gm, 1, none⟩ (.int .i64 (Mc : Int)) = w9 at *
          obtain ⟨v9, A9, c9, M9, L9, R9, hP, hD⟩ : ∃ v A c M L R, Hid (Pl w9 w.heap.size g gm v A c M M L R ∧ Below w.heap.size w w9) ∧ Hid (Bd L R M) := ⟨_, _, _, _, _, _, HP9, HD9⟩
          clear HP9 HD9
          go_meet
          exact ⟨_, _, _, _, _, _, hP, hD⟩
          obtain ⟨mn, rfl⟩ := Int.eq_ofNat_of_zero_le hms.1
          have hmn : mn < 4294967296 := by omega
          have hlim := limit_any mn hmn (by have := hD.out.2.1; have := hD.out.2.2.1; omega) (fun g hg => by have := hD.out.2.2.2 g hg; omega) HP1.out.1.t
          unfold pt at hlim
          refine hlim.mono ?_
          rintro e w2 ⟨rfl, v2, hT2, hF2, hN2⟩
          have HP2 := Lib.hid (And.intro (HP1.out.1.stepT hT2 hF2 (.inl hN2)) (HP1.out.2.trans (hF2.below HP1.out.1.t.low (fun j hj => HP1.out.1.t.lows j hj) HP1.out.2.size)))
          have HO2 := Lib.hid (hF2.row HFB.out.1 HFB.out.2.1 HO1.out)
          have m0 := HP2.out.1.m.cell (j := 0) rfl
          have m1 := HP2.out.1.m.cell (j := 1) rfl
          have o4 := HO2.out.cell (j := 4) rfl
          have hrl := rlimit_any (M := Mc) mn hmn HP2.out.1.reads (by have := hD.out.few; have := hD.out.2.1; have := hD.out.2.2.1; omega) (fun g hg => by have := hD.out.few.2.2.2 g hg; omega) HP2.out.1.hc
          unfold MadeT tv at hrl
          clear hT2 hF2 hN2 hlim HP1 HO1
          go_wp2_with fail
          refine hrl.mono ?_
          rintro e w4 ⟨A4, c4, rfl, hr4, hc4, hb4⟩
          have HP9 := Lib.hid (And.intro (HP2.out.1.stepM (Mm' := mn) hb4 hr4 hc4) (((HP2.out.2.trans (hb4.mono HP2.out.2.size)).setCell (p := ⟨gm, 0, none⟩) HP2.out.1.low (.slice A4 (wit (mn : Int) 0 R).length c4)).setCell (p := ⟨gm, 1, none⟩) HP2.out.1.low (.int .i64 (mn : Int))))
          have hm4 := HP2.out.1.m.below hb4 HP2.out.1.m.lt
          have m0 := hm4.cell (j := 0) rfl
          have m1 := hm4.cell (j := 1) rfl
          have z0 := hm4.thawed 0
          have z1 := hm4.thawed 1
          have HD9 := Lib.hid (hD.out.limit mn hmn)
          clear hm4 hr4 hb4 hrl HP2 HO2 hD
          go_wp2_with fail
          generalize (w4.setCell ⟨gm, 0, none⟩ (.slice A4 (wit (mn : Int) 0 R).length c4)).setCell ⟨gm, 1, none⟩ (.int .i64 (mn : Int)) = w9 at *
          obtain ⟨v9, A9, c9, M9, L9, R9, hP, hD⟩ : ∃ v A c M L R, Hid (Pl w9 w.heap.size g gm v A c M M L R ∧ Below w.heap.size w w9) ∧ Hid (Bd L R M) := ⟨_, _, _, _, _, _, HP9, HD9⟩
          clear HP9 HD9
          go_meet
          exact ⟨_, _, _, _, _, _, hP, hD⟩
          obtain ⟨x, y, z, tb, hA, hB⟩ := at_pair HP1.out.1 hD.out.1 (by have := hD.out.few; omega) n hnn
          unfold AtRes at hA hB
          have ex : (x == x) = true := by simp
          have ey : (y == y) = true := by simp
          have ez : (z == z) = true := by simp
          have et : (tb == tb) = true := by simp
          refine hA.mono ?_
          rintro e w2 ⟨rfl, hb2⟩
          have hP2 := And.intro (HP1.out.1.below hb2) (HP1.out.2.trans (hb2.mono HP1.out.2.size))
          have HP2 := Lib.hid (And.intro (hP2.1.alloc (.cells #[.string ⟨x.toArray⟩, .string ⟨y.toArray⟩, .bool z] 32)) (hP2.2.alloc hP2.2.size (.cells #[.string ⟨x.toArray⟩, .string ⟨y.toArray⟩, .bool z] 32)))
          have HO2 := Lib.hid ((HO1.out.below hb2 HO1.out.lt).alloc (.cells #[.string ⟨x.toArray⟩, .string ⟨y.toArray⟩, .bool z] 32))
          have HX2 := Lib.hid (Row.new w2 32 #[.string ⟨x.toArray⟩, .string ⟨y.toArray⟩, .bool z])
          have m0 := HP2.out.1.m.cell (j := 0) rfl
          have m1 := HP2.out.1.m.cell (j := 1) rfl
          have o5 := HO2.out.cell (j := 5) rfl
          clear hP2 hb2 hA HP1 HO1
          go_wp2_with fail
          refine (hB _ HP2.out.1.reads).mono ?_
          rintro e w4 ⟨rfl, hb4⟩
          have hP4 := And.intro (HP2.out.1.below hb4) (HP2.out.2.trans (hb4.mono HP2.out.2.size))
          have HP9 := Lib.hid (And.intro (hP4.1.alloc (.cells #[.string ⟨x.toArray⟩, .string ⟨y.toArray⟩, .bool z] 32)) (hP4.2.alloc hP4.2.size (.cells #[.string ⟨x.toArray⟩, .string ⟨y.toArray⟩, .bool z] 32)))
          have hX4 := (HX2.out.below hb4 HX2.out.lt).alloc (.cells #[.string ⟨x.toArray⟩, .string ⟨y.toArray⟩, .bool z] 32)
          have q0 := hX4.cell (j := 0) rfl
          have q1 := hX4.cell (j := 1) rfl
          have q2 := hX4.cell (j := 2) rfl
          have HD9 := hD
          clear hP4 hb4 hB hX4 HX2 HP2 HO2 hD
          go_wp2_with fail
          generalize w4.alloc (.cells #[.string ⟨x.toArray⟩, .string ⟨y.toArray⟩, .bool z] 32) = w9 at *
          obtain ⟨v9, A9, c9, M9, L9, R9, hP, hD⟩ : ∃ v A c M L R, Hid (Pl w9 w.heap.size g gm v A c M M L R ∧ Below w.heap.size w w9) ∧ Hid (Bd L R M) := ⟨_, _, _, _, _, _, HP9, HD9⟩
          clear HP9 HD9
          go_meet
          exact ⟨_, _, _, _, _, _, hP, hD⟩
          obtain ⟨fn, th, hA, hB⟩ := find_pair HP1.out.1 hD.out.1 (by have := hD.out.few; omega) f.nm f.vl
          unfold FindRes at hA hB
          have em : ((fn : Int) == (fn : Int)) = true := by simp
          have et : (th == th) = true := by simp
          refine hA.mono ?_
          rintro e w2 ⟨rfl, hb2⟩
          have HP2 := Lib.hid (And.intro (HP1.out.1.below hb2) (HP1.out.2.trans (hb2.mono HP1.out.2.size)))
          have HO2 := Lib.hid (HO1.out.below hb2 HO1.out.lt)
          have m0 := HP2.out.1.m.cell (j := 0) rfl
          have m1 := HP2.out.1.m.cell (j := 1) rfl
          have o1 := HO2.out.cell (j := 1) rfl
          have o2 := HO2.out.cell (j := 2) rfl
          clear hb2 hA HP1 HO1
          go_wp2_with fail
          refine (hB _ HP2.out.1.reads).mono ?_
          rintro e w9 ⟨rfl, hb4⟩
          have HP9 := Lib.hid (And.intro (HP2.out.1.below hb4) (HP2.out.2.trans (hb4.mono HP2.out.2.size)))
          have HD9 := hD
          clear hb4 hB HP2 HO2 hD
          go_wp2_with fail
          obtain ⟨v9, A9, c9, M9, L9, R9, hP, hD⟩ : ∃ v A c M L R, Hid (Pl w9 w.heap.size g gm v A c M M L R ∧ Below w.heap.size w w9) ∧ Hid (Bd L R M) := ⟨_, _, _, _, _, _, HP9, HD9⟩
          clear HP9 HD9
          go_meet
          exact ⟨_, _, _, _, _, _, hP, hD⟩
        case rest =>
          clear hD hms hnn hsf HP1 HO1 HFB
          obtain ⟨v9, A9, c9, M9, L9, R9, hP, hD⟩ := hcut
          generalize wc = w9 at *
          go_wp2_with fail
          have hfw := hD.out.few
          obtain ⟨X9, d9, rfl, _, _⟩ := hP.out.1.t.shape
          have hrt := fun (W : World) (h : RdS W (· < W.heap.size) A9 (enl fdc R9)) => rtsize_any (w := W) (A := A9) (c := c9) (M := M9) (R := R9) h (by have := hD.out.2.1; have := hD.out.2.2.1; omega) (fun g hg => by have := hfw.2.2.2 g hg; omega)
          rw [hfw.2.1] at hrt
          unfold tv at hrt
          have hTd : TabR w9.drew g (.slice X9 L9.length d9) (tot L9) M9 := hP.out.1.t.own
          have hmd : Row w9.drew gm 30 #[.slice A9 R9.length c9, .int .i64 (M9 : Int)] := hP.out.1.m
          have es : ((tot L9 : Int) == (tot L9 : Int)) = true := by simp
          have el : ((L9.length : Int) == (R9.length : Int)) = true := by rw [hfw.2.2.1]; simp
          have em : ((M9 : Int) == (M9 : Int)) = true := by simp
          have es2 : ((tot L9 : Int) != (tot L9 : Int)) = false := by simp
          have el2 : ((L9.length : Int) != (R9.length : Int)) = false := by rw [hfw.2.2.1]; simp
          have em2 : ((M9 : Int) != (M9 : Int)) = false := by simp
          have eg : decide (M9 < tot L9) = false := by have := hD.out.2.1; simp; omega
          have HPd : Hid (Pl w9.drew w.heap.size g gm (.slice X9 L9.length d9) A9 c9 M9 M9 L9 R9 ∧ Below w.heap.size w w9.drew) := ⟨hP.out.1.drewN 1, hP.out.2.drew⟩
          clear hP hfw
          generalize hZ : tot L9 = Z9 at hrt es es2 eg hTd
          have HZ := Lib.hid hZ
          clear hZ
          refine wp_region_E 26 (fun w' => w'.cell? ⟨g, 0, none⟩ = some (.slice X9 L9.length d9) ∧ w'.cell? ⟨g, 1, none⟩ = some (.int .i64 (Z9 : Int)) ∧ w'.cell? ⟨g, 2, none⟩ = some (.int .i64 (M9 : Int)) ∧ w'.cell? ⟨gm, 0, none⟩ = some (.slice A9 R9.length c9) ∧ w'.cell? ⟨gm, 1, none⟩ = some (.int .i64 (M9 : Int))) (by kernel_rfl) ⟨hTd.c0, hTd.c1, hTd.c2, hmd.cell (j := 0) rfl, hmd.cell (j := 1) rfl⟩ (fun hHeld => ?_)
          refine wpAnyE_take (i := 0) (v := ?v0) rfl (by kernel_rfl) (by kernel_rfl) (by kernel_rfl) (by kernel_rfl) (fun _ _ _ h => h) (Or.inl ⟨by rfl, ?hy0⟩) (by assumption) ?rest0
          case hy0 => (intro w hSw; (try dsimp only at hSw); go_simp <;> with_reducible rfl)
          try simp only [Act.put, List.getElem_toArray, List.getElem_cons_zero, List.setIfInBounds_toArray, List.set_cons_zero, List.set_cons_succ]
          refine wpAnyE_take (i := 2) (v := ?v2) rfl (by kernel_rfl) (by kernel_rfl) (by kernel_rfl) (by kernel_rfl) (fun _ _ _ h => h) (Or.inl ⟨by rfl, ?hy2⟩) (by assumption) ?rest2
          case hy2 => (intro w hSw; (try dsimp only at hSw); go_simp <;> with_reducible rfl)
          try simp only [Act.put, List.getElem_toArray, List.getElem_cons_zero, List.getElem_cons_succ, List.setIfInBounds_toArray, List.set_cons_zero, List.set_cons_succ]
          refine wpAnyE_next (i := 1) (by kernel_rfl) rfl (fun K hK => ?_)
          go_simp
          go_at_call 18
          refine (tsize_any hTd).mono ?_
          rintro e wq ⟨rfl, hwq⟩
          subst hwq
          go_simp
          refine hK.out _ _ (by assumption) (fun hHeld => ?_)
          clear hK K
          try simp only [Act.put, List.getElem_toArray, List.getElem_cons_zero, List.getElem_cons_succ, List.setIfInBounds_toArray, List.set_cons_zero, List.set_cons_succ]
          refine wpAnyE_next (i := 3) (by kernel_rfl) rfl (fun K hK => ?_)
          go_simp
          go_at_call 19
          refine (hrt _ HPd.out.1.reads).mono ?_
          rintro e wq ⟨rfl, hbq⟩
          have HPq := Lib.hid (And.intro (HPd.out.1.below hbq) (HPd.out.2.trans (hbq.mono HPd.out.2.size)))
          have hTq := hTd.below hbq (Row.lt hTd)
          have hmq := hmd.below hbq hmd.lt
          clear hbq hTd hmd HPd hrt
          go_simp
          refine hK.out _ _ ⟨Row.cell hTq (j := 0) rfl, Row.cell hTq (j := 1) rfl, Row.cell hTq (j := 2) rfl, hmq.cell (j := 0) rfl, hmq.cell (j := 1) rfl⟩ (fun hHeld => ?_)
          clear hK K
          try simp only [Act.put, List.getElem_toArray, List.getElem_cons_zero, List.getElem_cons_succ, List.setIfInBounds_toArray, List.set_cons_zero, List.set_cons_succ]
          refine wpAnyE_take (i := 4) (v := ?v4q1) rfl (by kernel_rfl) (by kernel_rfl) (by kernel_rfl) (by kernel_rfl) (fun _ _ _ h => h) (Or.inl ⟨by rfl, ?hy4q1⟩) (by assumption) ?rest4q1
          case hy4q1 => (intro w hSw; (try dsimp only at hSw); go_simp <;> with_reducible rfl)
          try simp only [Act.put, List.getElem_toArray, List.getElem_cons_zero, List.getElem_cons_succ, List.setIfInBounds_toArray, List.set_cons_zero, List.set_cons_succ]
          refine wpAnyE_take (i := 5) (v := ?v5q1) rfl (by kernel_rfl) (by kernel_rfl) (by kernel_rfl) (by kernel_rfl) (fun _ _ _ h => h) (Or.inl ⟨by rfl, ?hy5q1⟩) (by assumption) ?rest5q1
          case hy5q1 => (intro w hSw; (try dsimp only at hSw); go_simp <;> with_reducible rfl)
          try simp only [Act.put, List.getElem_toArray, List.getElem_cons_zero, List.getElem_cons_succ, List.setIfInBounds_toArray, List.set_cons_zero, List.set_cons_succ]
          refine wpAnyE_take (i := 6) (v := ?v6q1) rfl (by kernel_rfl) (by kernel_rfl) (by kernel_rfl) (by kernel_rfl) (fun _ _ _ h => h) (Or.inl ⟨by rfl, ?hy6q1⟩) (by assumption) ?rest6q1
          case hy6q1 => (intro w hSw; (try dsimp only at hSw); go_simp <;> with_reducible rfl)
          try simp only [Act.put, List.getElem_toArray, List.getElem_cons_zero, List.getElem_cons_succ, List.setIfInBounds_toArray, List.set_cons_zero, List.set_cons_succ]
          refine wpAnyE_take (i := 8) (v := ?v8q1) rfl (by kernel_rfl) (by kernel_rfl) (by kernel_rfl) (by kernel_rfl) (fun _ _ _ h => h) (Or.inl ⟨by rfl, ?hy8q1⟩) (by assumption) ?rest8q1
          case hy8q1 => (intro w hSw; (try dsimp only at hSw); go_simp <;> with_reducible rfl)
          try simp only [Act.put, List.getElem_toArray, List.getElem_cons_zero, List.getElem_cons_succ, List.setIfInBounds_toArray, List.set_cons_zero, List.set_cons_succ]
          refine wpAnyE_take (i := 9) (v := ?v9q1) rfl (by kernel_rfl) (by kernel_rfl) (by kernel_rfl) (by kernel_rfl) (fun _ _ _ h => h) (Or.inl ⟨by rfl, ?hy9q1⟩) (by assumption) ?rest9q1
          case hy9q1 => (intro w hSw; (try dsimp only at hSw); go_simp <;> with_reducible rfl)
          try simp only [Act.put, List.getElem_toArray, List.getElem_cons_zero, List.getElem_cons_succ, List.setIfInBounds_toArray, List.set_cons_zero, List.set_cons_succ]
          refine wpAnyE_take (i := 10) (v := ?v10q1) rfl (by kernel_rfl) (by kernel_rfl) (by kernel_rfl) (by kernel_rfl) (fun _ _ _ h => h) (Or.inl ⟨by rfl, ?hy10q1⟩) (by assumption) ?rest10q1
          case hy10q1 => (intro w hSw; (try dsimp only at hSw); go_simp <;> with_reducible rfl)
          try simp only [Act.put, List.getElem_toArray, List.getElem_cons_zero, List.getElem_cons_succ, List.setIfInBounds_toArray, List.set_cons_zero, List.set_cons_succ]
          refine wpAnyE_next (i := 7) (by kernel_rfl) rfl (fun K hK => ?_)
          go_simp
          go_at_call 20
          refine (tlen_any hTq).mono ?_
          rintro e wq ⟨rfl, hwq⟩
          subst hwq
          go_simp
          refine hK.out _ _ (by assumption) (fun hHeld => ?_)
          clear hK K
          try simp only [Act.put, List.getElem_toArray, List.getElem_cons_zero, List.getElem_cons_succ, List.setIfInBounds_toArray, List.set_cons_zero, List.set_cons_succ]
          refine wpAnyE_take (i := 11) (v := ?v11q2) rfl (by kernel_rfl) (by kernel_rfl) (by kernel_rfl) (by kernel_rfl) (fun _ _ _ h => h) (Or.inl ⟨by rfl, ?hy11q2⟩) (by assumption) ?rest11q2
          case hy11q2 => (intro w hSw; (try dsimp only at hSw); go_simp <;> with_reducible rfl)
          try simp only [Act.put, List.getElem_toArray, List.getElem_cons_zero, List.getElem_cons_succ, List.setIfInBounds_toArray, List.set_cons_zero, List.set_cons_succ]
          refine wpAnyE_take (i := 12) (v := ?v12q2) rfl (by kernel_rfl) (by kernel_rfl) (by kernel_rfl) (by kernel_rfl) (fun _ _ _ h => h) (Or.inl ⟨by rfl, ?hy12q2⟩) (by assumption) ?rest12q2
          case hy12q2 => (intro w hSw; (try dsimp only at hSw); go_simp <;> with_reducible rfl)
          try simp only [Act.put, List.getElem_toArray, List.getElem_cons_zero, List.getElem_cons_succ, List.setIfInBounds_toArray, List.set_cons_zero, List.set_cons_succ]
          refine wpAnyE_take (i := 13) (v := ?v13q2) rfl (by kernel_rfl) (by kernel_rfl) (by kernel_rfl) (by kernel_rfl) (fun _ _ _ h => h) (Or.inl ⟨by rfl, ?hy13q2⟩) (by assumption) ?rest13q2
          case hy13q2 => (intro w hSw; (try dsimp only at hSw); go_simp <;> with_reducible rfl)
          try simp only [Act.put, List.getElem_toArray, List.getElem_cons_zero, List.getElem_cons_succ, List.setIfInBounds_toArray, List.set_cons_zero, List.set_cons_succ]
          refine wpAnyE_take (i := 14) (v := ?v14q2) rfl (by kernel_rfl) (by kernel_rfl) (by kernel_rfl) (by kernel_rfl) (fun _ _ _ h => h) (Or.inl ⟨by rfl, ?hy14q2⟩) (by assumption) ?rest14q2
          case hy14q2 => (intro w hSw; (try dsimp only at hSw); go_simp <;> with_reducible rfl)
          try simp only [Act.put, List.getElem_toArray, List.getElem_cons_zero, List.getElem_cons_succ, List.setIfInBounds_toArray, List.set_cons_zero, List.set_cons_succ]
          refine wpAnyE_take (i := 16) (v := ?v16q2) rfl (by kernel_rfl) (by kernel_rfl) (by kernel_rfl) (by kernel_rfl) (fun _ _ _ h => h) (Or.inl ⟨by rfl, ?hy16q2⟩) (by assumption) ?rest16q2
          case hy16q2 => (intro w hSw; (try dsimp only at hSw); go_simp <;> with_reducible rfl)
          try simp only [Act.put, List.getElem_toArray, List.getElem_cons_zero, List.getElem_cons_succ, List.setIfInBounds_toArray, List.set_cons_zero, List.set_cons_succ]
          refine wpAnyE_take (i := 17) (v := ?v17q2) rfl (by kernel_rfl) (by kernel_rfl) (by kernel_rfl) (by kernel_rfl) (fun _ _ _ h => h) (Or.inl ⟨by rfl, ?hy17q2⟩) (by assumption) ?rest17q2
          case hy17q2 => (intro w hSw; (try dsimp only at hSw); go_simp <;> with_reducible rfl)
          try simp only [Act.put, List.getElem_toArray, List.getElem_cons_zero, List.getElem_cons_succ, List.setIfInBounds_toArray, List.set_cons_zero, List.set_cons_succ]
          refine wpAnyE_next (i := 15) (by kernel_rfl) rfl (fun K hK => ?_)
          go_simp
          go_at_call 21
          refine (tmost_any hTq).mono ?_
          rintro e wq ⟨rfl, hwq⟩
          subst hwq
          go_simp
          refine hK.out _ _ (by assumption) (fun hHeld => ?_)
          clear hK K
          try simp only [Act.put, List.getElem_toArray, List.getElem_cons_zero, List.getElem_cons_succ, List.setIfInBounds_toArray, List.set_cons_zero, List.set_cons_succ]
          refine wpAnyE_take (i := 18) (v := ?v18q3) rfl (by kernel_rfl) (by kernel_rfl) (by kernel_rfl) (by kernel_rfl) (fun _ _ _ h => h) (Or.inl ⟨by rfl, ?hy18q3⟩) (by assumption) ?rest18q3
          case hy18q3 => (intro w hSw; (try dsimp only at hSw); go_simp <;> with_reducible rfl)
          try simp only [Act.put, List.getElem_toArray, List.getElem_cons_zero, List.getElem_cons_succ, List.setIfInBounds_toArray, List.set_cons_zero, List.set_cons_succ]
          refine wpAnyE_take (i := 19) (v := ?v19q3) rfl (by kernel_rfl) (by kernel_rfl) (by kernel_rfl) (by kernel_rfl) (fun _ _ _ h => h) (Or.inl ⟨by rfl, ?hy19q3⟩) (by assumption) ?rest19q3
          case hy19q3 => (intro w hSw; (try dsimp only at hSw); go_simp <;> with_reducible rfl)
          try simp only [Act.put, List.getElem_toArray, List.getElem_cons_zero, List.getElem_cons_succ, List.setIfInBounds_toArray, List.set_cons_zero, List.set_cons_succ]
          refine wpAnyE_take (i := 20) (v := ?v20q3) rfl (by kernel_rfl) (by kernel_rfl) (by kernel_rfl) (by kernel_rfl) (fun _ _ _ h => h) (Or.inl ⟨by rfl, ?hy20q3⟩) (by assumption) ?rest20q3
          case hy20q3 => (intro w hSw; (try dsimp only at hSw); go_simp <;> with_reducible rfl)
          try simp only [Act.put, List.getElem_toArray, List.getElem_cons_zero, List.getElem_cons_succ, List.setIfInBounds_toArray, List.set_cons_zero, List.set_cons_succ]
          refine wpAnyE_take (i := 21) (v := ?v21q3) rfl (by kernel_rfl) (by kernel_rfl) (by kernel_rfl) (by kernel_rfl) (fun _ _ _ h => h) (Or.inl ⟨by rfl, ?hy21q3⟩) (by assumption) ?rest21q3
          case hy21q3 => (intro w hSw; (try dsimp only at hSw); go_simp <;> with_reducible rfl)
          try simp only [Act.put, List.getElem_toArray, List.getElem_cons_zero, List.getElem_cons_succ, List.setIfInBounds_toArray, List.set_cons_zero, List.set_cons_succ]
          refine wpAnyE_take (i := 23) (v := ?v23q3) rfl (by kernel_rfl) (by kernel_rfl) (by kernel_rfl) (by kernel_rfl) (fun _ _ _ h => h) (Or.inl ⟨by rfl, ?hy23q3⟩) (by assumption) ?rest23q3
          case hy23q3 => (intro w hSw; (try dsimp only at hSw); go_simp <;> with_reducible rfl)
          try simp only [Act.put, List.getElem_toArray, List.getElem_cons_zero, List.getElem_cons_succ, List.setIfInBounds_toArray, List.set_cons_zero, List.set_cons_succ]
          refine wpAnyE_next (i := 22) (by kernel_rfl) rfl (fun K hK => ?_)
          go_simp
          go_at_call 18
          refine (tsize_any hTq).mono ?_
          rintro e wq ⟨rfl, hwq⟩
          subst hwq
          go_simp
          refine hK.out _ _ (by assumption) (fun hHeld => ?_)
          clear hK K
          try simp only [Act.put, List.getElem_toArray, List.getElem_cons_zero, List.getElem_cons_succ, List.setIfInBounds_toArray, List.set_cons_zero, List.set_cons_succ]
          refine wpAnyE_next (i := 24) (by kernel_rfl) rfl (fun K hK => ?_)
          go_simp
          go_at_call 21
          refine (tmost_any hTq).mono ?_
          rintro e wq ⟨rfl, hwq⟩
          subst hwq
          go_simp
          refine hK.out _ _ (by assumption) (fun hHeld => ?_)
          clear hK K
          try simp only [Act.put, List.getElem_toArray, List.getElem_cons_zero, List.getElem_cons_succ, List.setIfInBounds_toArray, List.set_cons_zero, List.set_cons_succ]
          refine wpAnyE_take (i := 25) (v := ?v25q4) rfl (by kernel_rfl) (by kernel_rfl) (by kernel_rfl) (by kernel_rfl) (fun _ _ _ h => h) (Or.inl ⟨by rfl, ?hy25q4⟩) (by assumption) ?rest25q4
          case hy25q4 => (intro w hSw; (try dsimp only at hSw); go_simp <;> with_reducible rfl)
          try simp only [Act.put, List.getElem_toArray, List.getElem_cons_zero, List.getElem_cons_succ, List.setIfInBounds_toArray, List.set_cons_zero, List.set_cons_succ]
          refine wpAnyE_last (by kernel_rfl) rfl (by kernel_rfl) (fun K hK => ?_)
          go_simp
          refine hK.out _ _ ?_
          clear hK K
          try simp only [Act.put, List.getElem_toArray, List.getElem_cons_zero, List.getElem_cons_succ, List.setIfInBounds_toArray, List.set_cons_zero, List.set_cons_succ]
          go_wp2_with fail
          go_roundw
          case rel => exact ⟨k + 1, _, _, _, _, _, _, by omega, by go_num, HPq, hD⟩
          case measure => simp [intOf]; omega
      · obtain rfl : k = O.length := by omega
        have hfw := hD.out.few
        obtain ⟨X9, d9, rfl, _, _⟩ := hP.out.1.t.shape
        have m0 := hP.out.1.m.cell (j := 0) rfl
        have hrev := hD.out.1
        have hRL : Hid (∀ (i : Nat) (h1 : i < R.length) (h2 : L.length - 1 - i < L.length), L[L.length - 1 - i]'h2 = R[i]'h1) := by
          show ∀ _ _ _, _
          intro i h1 h2
          subst hrev
          rw [List.getElem_reverse]
        have hLe : Hid (R.length = L.length) := hfw.2.2.1
        have hRb : R.length ≤ 134217728 := by omega
        clear hrev hD
        go_wp2_with fail
        clear m0
        go_loopw [142] (fun i wr => ∃ k : Nat, k ≤ R.length ∧ i = .int .i64 k ∧ Hid (Pl wr w.heap.size g gm (.slice X9 L.length d9) A' c' Mc Mc L R ∧ Below w.heap.size w wr))
          (fun i _ => R.length - (intOf i).toNat)
        case atStart => exact ⟨0, Nat.zero_le _, rfl, hP⟩
        case round =>
          clear hP
          obtain ⟨k, hk, rfl, hP⟩ := hrel
          by_cases hlt : k < R.length
          · have hkL : k < L.length := by have := hLe.out; omega
            have hat := tat_dyn hP.out.1.t k hkL (by have := hLe.out; omega)
            rw [hRL.out k hlt (by omega)] at hat
            obtain ⟨b, q, rfl, hb, e0, e1, e2⟩ := hP.out.1.r.field hlt
            have m0 := hP.out.1.m.cell (j := 0) rfl
            unfold fv pt tx at hat
            unfold tx at e0 e1
            generalize R[k].nm = x at hat e0
            generalize R[k].vl = y at hat e1
            generalize R[k].nv = z at hat e2
            have ex : (x == x) = true := by simp
            have ey : (y == y) = true := by simp
            have ez : (z == z) = true := by simp
            have k0 : (0 : Int) ≤ (k : Int) := by omega
            have k1 : (k : Int) < (R.length : Int) := by omega
            go_wp2_with fail
            refine hat.mono ?_
            rintro e w6 ⟨rfl, hb6⟩
            have hP6 := And.intro (hP.out.1.below hb6) (hP.out.2.trans (hb6.mono hP.out.2.size))
            have HP6 := Lib.hid (And.intro (hP6.1.alloc (.cells #[.string ⟨x.toArray⟩, .string ⟨y.toArray⟩, .bool z] 32)) (hP6.2.alloc hP6.2.size (.cells #[.string ⟨x.toArray⟩, .string ⟨y.toArray⟩, .bool z] 32)))
            have HX6 := Row.new w6 32 #[.string ⟨x.toArray⟩, .string ⟨y.toArray⟩, .bool z]
            have hbw : b < w6.heap.size := Nat.lt_of_lt_of_le hb.1 hb6.size
            have f0 := (World.cell?_alloc_lt w6 (.cells #[.string ⟨x.toArray⟩, .string ⟨y.toArray⟩, .bool z] 32) ⟨b, q + k * 3, none⟩ hbw).trans ((hb6.cell (p := ⟨b, q + k * 3, none⟩) hb.1).trans e0)
            have f1 := (World.cell?_alloc_lt w6 (.cells #[.string ⟨x.toArray⟩, .string ⟨y.toArray⟩, .bool z] 32) ⟨b, q + k * 3 + 1, none⟩ hbw).trans ((hb6.cell (p := ⟨b, q + k * 3 + 1, none⟩) hb.1).trans e1)
            have f2 := (World.cell?_alloc_lt w6 (.cells #[.string ⟨x.toArray⟩, .string ⟨y.toArray⟩, .bool z] 32) ⟨b, q + k * 3 + 2, none⟩ hbw).trans ((hb6.cell (p := ⟨b, q + k * 3 + 2, none⟩) hb.1).trans e2)
            have x0 := HX6.cell (j := 0) rfl
            have x1 := HX6.cell (j := 1) rfl
            have x2 := HX6.cell (j := 2) rfl
            have m0 := HP6.out.1.m.cell (j := 0) rfl
            clear hP6 hb6 hat hP HX6 e0 e1 e2
            go_wp2_with fail
            generalize w6.alloc (.cells #[.string ⟨x.toArray⟩, .string ⟨y.toArray⟩, .bool z] 32) = w7 at *
            go_quiet (fail)
            go_wp2_with fail
            go_roundw
            case rel => exact ⟨k + 1, by omega, by go_num, HP6.out.1.drewN _, below_dN HP6.out.2 _⟩
            case measure => simp [intOf]; omega
          · go_wp2_with fail
            refine (fixed_any _).mono ?_
            rintro e w6 ⟨rfl, hb6⟩
            have HX := Lib.hid (hP.out.2.trans (hb6.mono hP.out.2.size))
            clear hb6
            go_wp2_with fail
            go_ret
            exact ⟨rfl, HX.out⟩
theorem plays_law' {w : World} {A : Option Addr} {c : Nat} {O : List Opv} (a : Int) (ha : 0 ≤ a ∧ a < 4294967296) (hR : RdS w (· < w.heap.size) A (enl opc O)) (hl : O.length ≤ 2199023255552) :
    Calls Try.prog 3 #[.int .u32 a, .slice A O.length c] w fun e w' => e = .returned (.bool true) ∧ Below w.heap.size w w' := by
  obtain ⟨M, rfl⟩ := Int.eq_ofNat_of_zero_le ha.1
  exact plays_law M (by omega) hR hl
end Go.Proofs.Yteoneedehfijhaa
