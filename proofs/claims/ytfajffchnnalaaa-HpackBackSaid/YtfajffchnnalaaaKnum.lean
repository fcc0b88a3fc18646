/-
  hpack's reading in memory; its number and its text, by their contracts. Conditions: at most 12000 bytes.
-/
import Derived.Test.YtfajffchnnalaaaKsmall
import Derived.Test.YtfajffchnnalaaaQget
import Derived.Test.YtfajffchnnalaaaHdec
import Derived.BigQuiet
import Derived.Deep.QuietTactic
namespace Go.Proofs.Ytfajffchnnalaaa
open Go.RowKit Go.WideShapes

/-- A reading in block gr: its decoder d, its fields fv, their size sv; what is left of the block, in a slice that lies in S. -/
def Rs (w : World) (S : Nat → Prop) (gr : Nat) (d fv sv : Value) (l : List UInt8) : Prop :=
  ∃ A c, Row w gr 70 #[d, .slice A l.length c, fv, sv] ∧ l.length ≤ c ∧ RdS w S A (byc l) ∧ ¬ S gr
section
variable {w w' : World} {S T : Nat → Prop} {gr : Nat} {d fv sv : Value} {l : List UInt8}
theorem Rs.lt (h : Rs w S gr d fv sv l) : gr < w.heap.size := by
  obtain ⟨A, c, h1, _⟩ := h
  exact h1.lt
theorem Rs.apart (h : Rs w S gr d fv sv l) (hF : Fs T w w') (h1 : ¬ T gr) (h2 : ∀ k, S k → ¬ T k) (hS : ∀ k, S k → k < w.heap.size) : Rs w' S gr d fv sv l := by
  obtain ⟨A, c, e1, e2, e3, e4⟩ := h
  exact ⟨A, c, hF.row h1 e1, e2, hF.reads e3 fun k hk => ⟨hS k hk, h2 k hk⟩, e4⟩
theorem Rs.below (h : Rs w S gr d fv sv l) (hb : Below w.heap.size w w') (hS : ∀ k, S k → k < w.heap.size) : Rs w' S gr d fv sv l :=
  h.apart (T := fun _ => False) (Fs.of_below hb) (fun e => e) (fun _ _ e => e) hS
end

/-- 's[u:]', whose bytes lie where s's do. -/
theorem cutS_from {w : World} {S : Nat → Prop} {A : Option Addr} {l : List UInt8} {c u : Nat} (hA : RdS w S A (byc l)) (hrb : RdB w w.heap.size A l) (hc : l.length ≤ c) (hu : u ≤ l.length) :
    ∃ A2, (∀ W, (Instr.slice 38 (.slice A l.length c) (some (.int .i64 (u : Int))) none none).run Try.prog W = .ok (.slice A2 (l.length - u) (c - u)) W) ∧ RdS w S A2 (byc (l.drop u)) := by
  obtain ⟨i0, hi0, hz0, hz1, hz2⟩ := info_parts u8_info
  obtain ⟨A2, e1, e2⟩ := cut_from (P := Try.prog) Try.underlying38 hi0 hz1 hrb hc hu
  refine ⟨A2, e1, fun hne => ?_⟩
  have hl0 : byc l ≠ [] := by
    intro e0
    apply hne
    have : l = [] := List.eq_nil_of_length_eq_zero (by rw [← byc_length, e0]; rfl)
    rw [this]; simp [byc]
  obtain ⟨g, o, hA1, hSg, hcell⟩ := hA hl0
  have hd0 : l.drop u ≠ [] := by rintro e0; rw [e0] at hne; exact hne rfl
  have hlt : u < l.length := by
    rcases Nat.lt_or_ge u l.length with h1 | h1
    · exact h1
    · exact absurd (List.drop_of_length_le h1) hd0
  have e3 := e1 w
  subst hA1
  have ht' : Try.prog.underlying 38 = some (.slice (Try.prog.elem 38)) := by simp [Program.elem, Try.underlying38]
  have he : Try.prog.elem 38 = 5 := by simp [Program.elem, Try.underlying38]
  rw [run_slice_l w 38 (some ⟨g, o, none⟩) l.length c ht' .i64 u (by omega) (by omega), he] at e3
  simp [sizeOf, typeInfo, hi0, hz1, sliced, Result.andThen, show ¬ c = u by omega, add_plain] at e3
  subst e3
  refine ⟨g, o + u, rfl, hSg, fun j x hj => ?_⟩
  have := hcell (u + j) x (by
    rw [← hj]
    unfold byc
    rw [List.map_drop, List.getElem?_drop])
  rwa [Nat.add_assoc]

theorem two_eq {a b : Int} {s t : Bool} (h1 : a = b) (h2 : s = t) : Ending.returned (.tuple #[.int .i64 a, .bool s]) = .returned (.tuple #[.int .i64 b, .bool t]) := by rw [h1, h2]

set_option maxRecDepth 100000 in
set_option maxHeartbeats 1000000 in
theorem number_any {w : World} {S : Nat → Prop} {gr : Nat} {d fv sv : Value} {l : List UInt8} (k : Nat) (h1 : 1 ≤ k) (h8 : k ≤ 8) (hl : l.length ≤ 65536) (h : Rs w S gr d fv sv l) (hS : ∀ k, S k → k < w.heap.size) :
    Calls Try.prog 43 #[pt gr, .int .i64 (k : Int)] w fun e w' => e = .returned (.tuple #[.int .i64 ((getL k l).1 : Int), .bool (decide ((getL k l).2.2 = 0))]) ∧ Rs w' S gr d fv sv (l.drop (getL k l).2.1) ∧ Fs (fun k => k = gr) w w' ∧ w'.heap.size = w.heap.size := by
  obtain ⟨A, c, hR, hc, hA, hn⟩ := h
  have hrb : RdB w w.heap.size A l := RdB.ofS hA fun g hg _ => hS g hg
  have hget := get_any k h1 h8 A c l hl hc w w.heap.size hrb
  have hbd := getL_bd h1 h8 l
  have hu : (getL k l).2.1 ≤ l.length := by
    by_cases hz : (getL k l).2.2 = 0
    · exact (getL_used hz).2
    · rw [(getL_bad hz).2]; omega
  unfold Three at hget
  generalize hG : getL k l = G at *
  obtain ⟨n, u, z⟩ := G
  simp only at hget hbd hu ⊢
  obtain ⟨A2, hcut, hA2⟩ := cutS_from hA hrb hc hu
  have HG := Lib.hid hG
  have HA2 := Lib.hid hA2
  have c1 := hR.cell (j := 1) rfl
  have z1 := hR.thawed 1
  have HR2 : Hid (Row (w.setCell ⟨gr, 1, none⟩ (.slice A2 (l.length - u) (c - u))) gr 70 #[d, .slice A2 (l.length - u) (c - u), fv, sv]) := Row.stored hR 1 _
  have HF2 : Hid (Fs (fun k => k = gr) w (w.setCell ⟨gr, 1, none⟩ (.slice A2 (l.length - u) (c - u)))) := (Fs.refl (fun k => k = gr) w).setCell (fun _ => rfl) _ _
  have hss : (w.setCell ⟨gr, 1, none⟩ (.slice A2 (l.length - u) (c - u))).heap.size = w.heap.size := by simp [World.setCell]
  have HSS := Lib.hid hss
  have hn1 : (n : Int) ≤ 268435456 := by omega
  clear hss hG hA hrb hR hA2
  unfold pt
  by_cases hz : z = 0
  · subst hz
    go_enter Try.func43, Try.ntmps43
    go_wp2_with fail
    refine hget.mono ?_
    rintro e w1 ⟨rfl, rfl⟩
    go_wp2_with fail
    go_ret2
    refine ⟨rfl, ⟨A2, c - u, ?_, by rw [List.length_drop]; omega, HF2.out.reads HA2.out fun k hk => ⟨hS k hk, fun e => hn (by rw [← e]; exact hk)⟩, hn⟩, HF2.out, HSS.out⟩
    rw [List.length_drop]
    exact HR2.out
  · have hzi : ((z : Int) == 0) = false := by rw [beq_eq_false_iff_ne]; omega
    go_enter Try.func43, Try.ntmps43
    go_wp2_with fail
    refine hget.mono ?_
    rintro e w1 ⟨rfl, rfl⟩
    go_wp2_with fail
    go_ret2
    refine ⟨two_eq rfl (by simp [hz]), ⟨A2, c - u, ?_, by rw [List.length_drop]; omega, HF2.out.reads HA2.out fun k hk => ⟨hS k hk, fun e => hn (by rw [← e]; exact hk)⟩, hn⟩, HF2.out, HSS.out⟩
    rw [List.length_drop]
    exact HR2.out

/-- What text answers. -/
def TextE (w : World) (S : Nat → Prop) (gr : Nat) (d fv sv : Value) (o : Option (List UInt8 × List UInt8)) (e : Ending) (w' : World) : Prop :=
  Fs (fun k => k = gr) w w' ∧ match o with
    | none => ∃ s, e = .returned (.tuple #[.string s, .bool false])
    | some (a, r) => e = .returned (.tuple #[tx a, .bool true]) ∧ Rs w' S gr d fv sv r

theorem coded_and {b : Nat} (h : b < 256) : (128 ≤ b → (bits .and .u8 (b : Int) 128 == 0) = false) ∧ (¬ 128 ≤ b → bits .and .u8 (b : Int) 128 = 0) := by
  have := (kind_and ⟨b, h⟩).1
  simp only at this
  refine ⟨fun h1 => ?_, fun h1 => Classical.byContradiction fun h2 => h1 (this.1 h2)⟩
  rw [beq_eq_false_iff_ne]
  exact this.2 h1

attribute [local irreducible] getL decL

set_option maxRecDepth 100000 in
set_option maxHeartbeats 2000000 in
theorem text_any {w : World} {S : Nat → Prop} {gr : Nat} {d fv sv : Value} {l : List UInt8} (hl : l.length ≤ 12000) (h : Rs w S gr d fv sv l) (hS : ∀ k, S k → k < w.heap.size) :
    Calls Try.prog 65 #[pt gr] w (TextE w S gr d fv sv (textR l)) := by
  have hnum := number_any 7 (by omega) (by omega) (by omega) h hS
  obtain ⟨A, c, hR, hc, hA, hn⟩ := h
  have c1 := hR.cell (j := 1) rfl
  have hbd := getL_bd (k := 7) (by omega) (by omega) l
  -- is it coded?
  obtain ⟨t, ht⟩ : ∃ t, t = hiB l := ⟨_, rfl⟩
  have HTx : Hid (textR l = if (getL 7 l).2.2 ≠ 0 then none else if (l.drop (getL 7 l).2.1).length < (getL 7 l).1 then none
      else if t then (match decL ((l.drop (getL 7 l).2.1).take (getL 7 l).1) with
        | none => none
        | some s => some (s, (l.drop (getL 7 l).2.1).drop (getL 7 l).1))
      else some ((l.drop (getL 7 l).2.1).take (getL 7 l).1, (l.drop (getL 7 l).2.1).drop (getL 7 l).1)) := by
    show _ = _
    rw [ht]
    rfl
  obtain ⟨X, hX⟩ : ∃ X, X = textR l := ⟨_, rfl⟩
  rw [← hX] at HTx ⊢
  have hll : (l.drop (getL 7 l).2.1).length ≤ 12000 := by rw [List.length_drop]; omega
  generalize l.drop (getL 7 l).2.1 = m at *
  generalize getL 7 l = G at *
  obtain ⟨n, u, z⟩ := G
  simp only at hnum hbd HTx
  have hhd : (l = [] ∧ t = false) ∨ ∃ (b : UInt8) (r : List UInt8), l = b :: r ∧ t = decide (128 ≤ b.toNat) := by
    cases l with
    | nil => exact .inl ⟨rfl, by rw [ht]; rfl⟩
    | cons b r => exact .inr ⟨b, r, rfl, by rw [ht]; rfl⟩
  have HA := Lib.hid hA
  have HH := Lib.hid hhd
  have HR := Lib.hid hR
  clear ht hX hA hR hhd
  unfold pt at *
  have hcase : (l = [] ∧ t = false) ∨ (∃ (b : UInt8) (r : List UInt8), l = b :: r ∧ t = false ∧ bits .and .u8 (b.toNat : Int) 128 = 0) ∨ ∃ (b : UInt8) (r : List UInt8), l = b :: r ∧ t = true ∧ (bits .and .u8 (b.toNat : Int) 128 != 0) = true := by
    rcases HH.out with h1 | ⟨b, r, h1, h2⟩
    · exact .inl h1
    · by_cases hb : 128 ≤ b.toNat
      · exact .inr (.inr ⟨b, r, h1, by rw [h2]; simp [hb], by have := (coded_and b.toNat_lt).1 hb; unfold bne; rw [this]; rfl⟩)
      · exact .inr (.inl ⟨b, r, h1, by rw [h2]; simp [hb], (coded_and b.toNat_lt).2 hb⟩)
  clear HH
  rcases hcase with ⟨rfl, rfl⟩ | ⟨b, r, rfl, rfl, hbit⟩ | ⟨b, r, rfl, rfl, hbit⟩
  · skip
    go_enter Try.func65, Try.ntmps65
    go_wp2_with fail
    refine hnum.mono ?_
    rintro e w1 ⟨rfl, hRs, hF1, hs1⟩
    obtain ⟨A1, cA, hR1, hc1, hA1, _⟩ := hRs
    have d1 := hR1.cell (j := 1) rfl
    have z1 := hR1.thawed 1
    have HR1 := Lib.hid hR1
    have HA1 := Lib.hid hA1
    have HF1 := Lib.hid hF1
    have HS1 := Lib.hid hs1
    clear hR1 hA1 hF1 hs1 hnum
    by_cases hz : z = 0
    · subst hz
      by_cases hlt : m.length < n
      · have hX : X = none := by rw [HTx.out]; simp [hlt]
        subst hX
        go_wp2_with fail
        go_ret2
        exact ⟨HF1.out, ⟨_, rfl⟩⟩
      · have hnl : n ≤ m.length := by omega
        have hd1 : decide (m.length < n) = false := by simp; omega
        have htl : (m.take n).length = n := by rw [List.length_take]; omega
        have hrb : RdB w1 w1.heap.size A1 m := RdB.ofS HA1.out fun g hg _ => by rw [HS1.out]; exact hS g hg
        obtain ⟨i0, hi0, hz0, hz1, hz2⟩ := info_parts u8_info
        obtain ⟨hup, hrt⟩ := cut_upto (P := Try.prog) Try.underlying38 hi0 hz1 hrb hc1 hnl
        obtain ⟨A2, hfr, hA2⟩ := cutS_from HA1.out hrb hc1 hnl
        have HR2 : Hid (Row (w1.setCell ⟨gr, 1, none⟩ (.slice A2 (m.length - n) (cA - n))) gr 70 #[d, .slice A2 (m.length - n) (cA - n), fv, sv]) := Row.stored HR1.out 1 _
        have HF2 : Hid (Fs (fun k => k = gr) w1 (w1.setCell ⟨gr, 1, none⟩ (.slice A2 (m.length - n) (cA - n)))) := (Fs.refl (fun k => k = gr) w1).setCell (fun _ => rfl) _ _
        have HS2 : Hid ((w1.setCell ⟨gr, 1, none⟩ (.slice A2 (m.length - n) (cA - n))).heap.size = w1.heap.size) := by show _ = _; simp [World.setCell]
        have HAt : Hid (RdS (w1.setCell ⟨gr, 1, none⟩ (.slice A2 (m.length - n) (cA - n))) S A1 (byc (m.take n))) := HF2.out.reads (fun hne => by
          have hm : byc m ≠ [] := by
            intro e0
            apply hne
            have : m = [] := List.eq_nil_of_length_eq_zero (by rw [← byc_length, e0]; rfl)
            rw [this]; simp [byc]
          obtain ⟨g, o, q1, q2, q3⟩ := HA1.out hm
          refine ⟨g, o, q1, q2, fun j x hj => q3 j x ?_⟩
          unfold byc at hj ⊢
          rw [List.map_take] at hj
          rw [List.getElem?_take] at hj
          split at hj
          · exact hj
          · cases hj) fun k hk => ⟨by rw [HS1.out]; exact hS k hk, fun e => hn (by rw [← e]; exact hk)⟩
        have HRs : Hid (Rs (w1.setCell ⟨gr, 1, none⟩ (.slice A2 (m.length - n) (cA - n))) S gr d fv sv (m.drop n)) := by
          refine ⟨A2, cA - n, ?_, by rw [List.length_drop]; omega, HF2.out.reads hA2 fun k hk => ⟨by rw [HS1.out]; exact hS k hk, fun e => hn (by rw [← e]; exact hk)⟩, hn⟩
          rw [List.length_drop]
          exact HR2.out
        have HFF := Lib.hid (HF1.out.trans HF2.out fun _ _ e => e)
        have HrbT : Hid (RdB (w1.setCell ⟨gr, 1, none⟩ (.slice A2 (m.length - n) (cA - n))) (w1.setCell ⟨gr, 1, none⟩ (.slice A2 (m.length - n) (cA - n))).heap.size A1 (m.take n)) :=
          RdB.ofS HAt.out fun g hg _ => by rw [HS2.out, HS1.out]; exact hS g hg
        clear hrb hrt hA2 HR1 HA1 HR2 HF2 HAt HF1
        have htx := run_text (P := Try.prog) (c := cA) Try.underlying38 Try.underlying5 Try.underlying9 HrbT.out
        rw [htl] at htx
        have hX : X = some (m.take n, m.drop n) := by rw [HTx.out]; simp [hlt]
        subst hX
        generalize m.take n = mt at *
        generalize m.drop n = md at *
        go_wp2_with fail
        go_ret2
        exact ⟨HFF.out, rfl, HRs.out⟩
    · have hzi : decide (z = 0) = false := by simp [hz]
      have hX : X = none := by rw [HTx.out]; simp [hz]
      subst hX
      go_wp2_with fail
      go_ret2
      exact ⟨HF1.out, ⟨_, rfl⟩⟩
  · obtain ⟨g0, o0, hAe, hSg0, hcel⟩ := HA.out (by simp [byc])
    subst hAe
    have f0 : w.cell? ⟨g0, o0, none⟩ = some (.int .u8 (b.toNat : Int)) := hcel 0 _ (by simp [byc])
    have hl0 : (0 : Int) < ((b :: r).length : Int) := by simp <;> omega
    have hl1 : 0 < (b :: r).length := by simp
    clear hcel
    generalize (b :: r).length = ln at *
    go_enter Try.func65, Try.ntmps65
    go_wp2_with fail
    refine hnum.mono ?_
    rintro e w1 ⟨rfl, hRs, hF1, hs1⟩
    obtain ⟨A1, cA, hR1, hc1, hA1, _⟩ := hRs
    have d1 := hR1.cell (j := 1) rfl
    have z1 := hR1.thawed 1
    have HR1 := Lib.hid hR1
    have HA1 := Lib.hid hA1
    have HF1 := Lib.hid hF1
    have HS1 := Lib.hid hs1
    clear hR1 hA1 hF1 hs1 hnum
    by_cases hz : z = 0
    · subst hz
      by_cases hlt : m.length < n
      · have hX : X = none := by rw [HTx.out]; simp [hlt]
        subst hX
        go_wp2_with fail
        go_ret2
        exact ⟨HF1.out, ⟨_, rfl⟩⟩
      · have hnl : n ≤ m.length := by omega
        have hd1 : decide (m.length < n) = false := by simp; omega
        have htl : (m.take n).length = n := by rw [List.length_take]; omega
        have hrb : RdB w1 w1.heap.size A1 m := RdB.ofS HA1.out fun g hg _ => by rw [HS1.out]; exact hS g hg
        obtain ⟨i0, hi0, hz0, hz1, hz2⟩ := info_parts u8_info
        obtain ⟨hup, hrt⟩ := cut_upto (P := Try.prog) Try.underlying38 hi0 hz1 hrb hc1 hnl
        obtain ⟨A2, hfr, hA2⟩ := cutS_from HA1.out hrb hc1 hnl
        have HR2 : Hid (Row (w1.setCell ⟨gr, 1, none⟩ (.slice A2 (m.length - n) (cA - n))) gr 70 #[d, .slice A2 (m.length - n) (cA - n), fv, sv]) := Row.stored HR1.out 1 _
        have HF2 : Hid (Fs (fun k => k = gr) w1 (w1.setCell ⟨gr, 1, none⟩ (.slice A2 (m.length - n) (cA - n)))) := (Fs.refl (fun k => k = gr) w1).setCell (fun _ => rfl) _ _
        have HS2 : Hid ((w1.setCell ⟨gr, 1, none⟩ (.slice A2 (m.length - n) (cA - n))).heap.size = w1.heap.size) := by show _ = _; simp [World.setCell]
        have HAt : Hid (RdS (w1.setCell ⟨gr, 1, none⟩ (.slice A2 (m.length - n) (cA - n))) S A1 (byc (m.take n))) := HF2.out.reads (fun hne => by
          have hm : byc m ≠ [] := by
            intro e0
            apply hne
            have : m = [] := List.eq_nil_of_length_eq_zero (by rw [← byc_length, e0]; rfl)
            rw [this]; simp [byc]
          obtain ⟨g, o, q1, q2, q3⟩ := HA1.out hm
          refine ⟨g, o, q1, q2, fun j x hj => q3 j x ?_⟩
          unfold byc at hj ⊢
          rw [List.map_take] at hj
          rw [List.getElem?_take] at hj
          split at hj
          · exact hj
          · cases hj) fun k hk => ⟨by rw [HS1.out]; exact hS k hk, fun e => hn (by rw [← e]; exact hk)⟩
        have HRs : Hid (Rs (w1.setCell ⟨gr, 1, none⟩ (.slice A2 (m.length - n) (cA - n))) S gr d fv sv (m.drop n)) := by
          refine ⟨A2, cA - n, ?_, by rw [List.length_drop]; omega, HF2.out.reads hA2 fun k hk => ⟨by rw [HS1.out]; exact hS k hk, fun e => hn (by rw [← e]; exact hk)⟩, hn⟩
          rw [List.length_drop]
          exact HR2.out
        have HFF := Lib.hid (HF1.out.trans HF2.out fun _ _ e => e)
        have HrbT : Hid (RdB (w1.setCell ⟨gr, 1, none⟩ (.slice A2 (m.length - n) (cA - n))) (w1.setCell ⟨gr, 1, none⟩ (.slice A2 (m.length - n) (cA - n))).heap.size A1 (m.take n)) :=
          RdB.ofS HAt.out fun g hg _ => by rw [HS2.out, HS1.out]; exact hS g hg
        clear hrb hrt hA2 HR1 HA1 HR2 HF2 HAt HF1
        have htx := run_text (P := Try.prog) (c := cA) Try.underlying38 Try.underlying5 Try.underlying9 HrbT.out
        rw [htl] at htx
        have hX : X = some (m.take n, m.drop n) := by rw [HTx.out]; simp [hlt]
        subst hX
        generalize m.take n = mt at *
        generalize m.drop n = md at *
        go_wp2_with fail
        go_ret2
        exact ⟨HFF.out, rfl, HRs.out⟩
    · have hzi : decide (z = 0) = false := by simp [hz]
      have hX : X = none := by rw [HTx.out]; simp [hz]
      subst hX
      go_wp2_with fail
      go_ret2
      exact ⟨HF1.out, ⟨_, rfl⟩⟩
  · obtain ⟨g0, o0, hAe, hSg0, hcel⟩ := HA.out (by simp [byc])
    subst hAe
    have f0 : w.cell? ⟨g0, o0, none⟩ = some (.int .u8 (b.toNat : Int)) := hcel 0 _ (by simp [byc])
    have hl0 : (0 : Int) < ((b :: r).length : Int) := by simp <;> omega
    have hl1 : 0 < (b :: r).length := by simp
    clear hcel
    generalize (b :: r).length = ln at *
    go_enter Try.func65, Try.ntmps65
    go_wp2_with fail
    refine hnum.mono ?_
    rintro e w1 ⟨rfl, hRs, hF1, hs1⟩
    obtain ⟨A1, cA, hR1, hc1, hA1, _⟩ := hRs
    have d1 := hR1.cell (j := 1) rfl
    have z1 := hR1.thawed 1
    have HR1 := Lib.hid hR1
    have HA1 := Lib.hid hA1
    have HF1 := Lib.hid hF1
    have HS1 := Lib.hid hs1
    clear hR1 hA1 hF1 hs1 hnum
    by_cases hz : z = 0
    · subst hz
      by_cases hlt : m.length < n
      · have hX : X = none := by rw [HTx.out]; simp [hlt]
        subst hX
        go_wp2_with fail
        go_ret2
        exact ⟨HF1.out, ⟨_, rfl⟩⟩
      · have hnl : n ≤ m.length := by omega
        have hd1 : decide (m.length < n) = false := by simp; omega
        have htl : (m.take n).length = n := by rw [List.length_take]; omega
        have hrb : RdB w1 w1.heap.size A1 m := RdB.ofS HA1.out fun g hg _ => by rw [HS1.out]; exact hS g hg
        obtain ⟨i0, hi0, hz0, hz1, hz2⟩ := info_parts u8_info
        obtain ⟨hup, hrt⟩ := cut_upto (P := Try.prog) Try.underlying38 hi0 hz1 hrb hc1 hnl
        obtain ⟨A2, hfr, hA2⟩ := cutS_from HA1.out hrb hc1 hnl
        have HR2 : Hid (Row (w1.setCell ⟨gr, 1, none⟩ (.slice A2 (m.length - n) (cA - n))) gr 70 #[d, .slice A2 (m.length - n) (cA - n), fv, sv]) := Row.stored HR1.out 1 _
        have HF2 : Hid (Fs (fun k => k = gr) w1 (w1.setCell ⟨gr, 1, none⟩ (.slice A2 (m.length - n) (cA - n)))) := (Fs.refl (fun k => k = gr) w1).setCell (fun _ => rfl) _ _
        have HS2 : Hid ((w1.setCell ⟨gr, 1, none⟩ (.slice A2 (m.length - n) (cA - n))).heap.size = w1.heap.size) := by show _ = _; simp [World.setCell]
        have HAt : Hid (RdS (w1.setCell ⟨gr, 1, none⟩ (.slice A2 (m.length - n) (cA - n))) S A1 (byc (m.take n))) := HF2.out.reads (fun hne => by
          have hm : byc m ≠ [] := by
            intro e0
            apply hne
            have : m = [] := List.eq_nil_of_length_eq_zero (by rw [← byc_length, e0]; rfl)
            rw [this]; simp [byc]
          obtain ⟨g, o, q1, q2, q3⟩ := HA1.out hm
          refine ⟨g, o, q1, q2, fun j x hj => q3 j x ?_⟩
          unfold byc at hj ⊢
          rw [List.map_take] at hj
          rw [List.getElem?_take] at hj
          split at hj
          · exact hj
          · cases hj) fun k hk => ⟨by rw [HS1.out]; exact hS k hk, fun e => hn (by rw [← e]; exact hk)⟩
        have HRs : Hid (Rs (w1.setCell ⟨gr, 1, none⟩ (.slice A2 (m.length - n) (cA - n))) S gr d fv sv (m.drop n)) := by
          refine ⟨A2, cA - n, ?_, by rw [List.length_drop]; omega, HF2.out.reads hA2 fun k hk => ⟨by rw [HS1.out]; exact hS k hk, fun e => hn (by rw [← e]; exact hk)⟩, hn⟩
          rw [List.length_drop]
          exact HR2.out
        have HFF := Lib.hid (HF1.out.trans HF2.out fun _ _ e => e)
        have HrbT : Hid (RdB (w1.setCell ⟨gr, 1, none⟩ (.slice A2 (m.length - n) (cA - n))) (w1.setCell ⟨gr, 1, none⟩ (.slice A2 (m.length - n) (cA - n))).heap.size A1 (m.take n)) :=
          RdB.ofS HAt.out fun g hg _ => by rw [HS2.out, HS1.out]; exact hS g hg
        clear hrb hrt hA2 HR1 HA1 HR2 HF2 HAt HF1
        have hdc := dec_any A1 cA (m.take n) (by rw [htl]; omega) _ HrbT.out
        rw [htl] at hdc
        have HX : Hid (X = match decL (m.take n) with
          | none => none
          | some s => some (s, m.drop n)) := by show _ = _; rw [HTx.out]; simp [hlt]
        clear HTx HrbT
        generalize m.take n = mt at *
        generalize m.drop n = md at *
        generalize decL mt = D at *
        unfold DecE at hdc
        cases D with
        | none =>
          have hX : X = none := HX.out
          subst hX
          simp only [Option.isSome_none, Option.getD_none] at hdc
          go_wp2_with fail
          refine hdc.mono ?_
          rintro e w3 ⟨rfl, hb3⟩
          have HF3 := Lib.hid (HFF.out.then_below hb3)
          clear hb3 hdc HFF HRs
          go_wp2_with fail
          go_ret2
          exact ⟨HF3.out, ⟨_, rfl⟩⟩
        | some x =>
          have hX : X = some (x, md) := HX.out
          subst hX
          simp only [Option.isSome_some, Option.getD_some] at hdc
          go_wp2_with fail
          refine hdc.mono ?_
          rintro e w3 ⟨rfl, hb3⟩
          have HF3 := Lib.hid (HFF.out.then_below hb3)
          have HRs3 := Lib.hid (HRs.out.below hb3 fun k hk => by rw [HS2.out, HS1.out]; exact hS k hk)
          clear hb3 hdc HFF HRs
          go_wp2_with fail
          go_ret2
          exact ⟨HF3.out, rfl, HRs3.out⟩
    · have hzi : decide (z = 0) = false := by simp [hz]
      have hX : X = none := by rw [HTx.out]; simp [hz]
      subst hX
      go_wp2_with fail
      go_ret2
      exact ⟨HF1.out, ⟨_, rfl⟩⟩
end Go.Proofs.Ytfajffchnnalaaa
