/-
  The law's great, the document's Same, by their contracts. Conditions: those that each theorem names.
-/
import Derived.Test.YtdegpchofhnipaaDoorMdx
import Derived.Lib.MinMax
namespace Go.Proofs.YtdegpchofhnipaaDoor
open Go.RowKit Go.WideShapes

/-- What great tells. -/
def GreatP (L : List Pe) (w : World) (e : Ending) (w' : World) : Prop := ∃ z, e = .returned (.bool z) ∧ Below w.heap.size w w' ∧ (z = false → L.length ≤ 100 ∧ ∀ i (h : i < L.length), L[i].p.dat.length ≤ 20000)
set_option maxRecDepth 100000 in
set_option maxHeartbeats 4000000 in
theorem great18_any {A : Option Addr} {L : List Pe} {c : Nat} {w : World} (hra : RdS w (· < w.heap.size) A (enl Pe.cs L)) (hL : L.length ≤ 9223372036854775807) : Calls Tryd.prog 9 #[.slice A L.length c] w (GreatP L w) := by
  have HRA := Lib.hid hra
  have HL := Lib.hid hL
  clear hra hL
  go_enter Tryd.func9, Tryd.ntmps9
  go_wp2_with fail
  go_loopw [8, 3] (fun i s wr => ∃ (j : Nat) (n : Int), j ≤ L.length ∧ i = .int .i64 j ∧ s = .int .i64 n ∧ Hid (L.length ≤ 100 → 0 ≤ n ∧ n ≤ j * 20001 ∧ (n ≤ 20000 → ∀ k (_ : k < j) (h : k < L.length), L[k].p.dat.length ≤ 20000)) ∧ Hid (Below w.heap.size w wr)) (fun i _ _ => L.length - (intOf i).toNat)
  case atStart => exact ⟨0, 0, Nat.zero_le _, rfl, rfl, (fun _ => ⟨by omega, by omega, fun _ k hk => by omega⟩), Below.refl _ _⟩
  case round =>
    obtain ⟨j, n, hj, rfl, rfl, HN, HB⟩ := hrel
    by_cases hlt : j < L.length
    · have hjn : (j : Int) < (L.length : Int) := by omega
      obtain ⟨b, q, rfl, hb, hr⟩ := pe_at HRA.out hlt
      have hrr : wr.rangeAt b (q + j * 5) (pcA L[j].p L[j].A L[j].c).toList := fun i u hu => (HB.out.cell (p := ⟨b, q + j * 5 + i, none⟩) hb).trans (hr i u hu)
      obtain ⟨hp1, hp2, hp3⟩ := pieceM wr (pcA L[j].p L[j].A L[j].c)
      have HP1 := Lib.hid hp1
      have HP4 := Lib.hid hp2
      have HB4 := Lib.hid (HB.out.trans (hp3.mono HB.out.size))
      have hw1 : IntKind.i64.wrap ((j : Int) + 1) = (j : Int) + 1 := IntWalk.i64_in _ (by have := HL.out; omega)
      obtain ⟨m9, hm9⟩ : ∃ m9, m9 = min L[j].p.dat.length 20000 := ⟨_, rfl⟩
      have hmin : min (L[j].p.dat.length : Int) 20000 = (m9 : Int) := by omega
      have hw2 : IntKind.i64.wrap (1 + (m9 : Int)) = 1 + (m9 : Int) := IntWalk.i64_in _ (by omega)
      obtain ⟨n2, hn2⟩ : ∃ n2, n2 = IntKind.i64.wrap (n + (1 + (m9 : Int))) := ⟨_, rfl⟩
      have HN2 : Hid (L.length ≤ 100 → 0 ≤ n2 ∧ n2 ≤ ((j + 1 : Nat) : Int) * 20001 ∧ (n2 ≤ 20000 → ∀ k (_ : k < j + 1) (h : k < L.length), L[k].p.dat.length ≤ 20000)) := fun hl => by
        obtain ⟨h1, h2, h3⟩ := HN.out hl
        have e : n2 = n + (1 + (m9 : Int)) := by rw [hn2]; exact IntWalk.i64_in _ (by omega)
        refine ⟨by omega, by omega, fun h4 k hk h => ?_⟩
        by_cases hkj : k = j
        · subst hkj
          rcases Nat.lt_or_ge 20000 L[k].p.dat.length with h5 | h5
          · omega
          · exact h5
        · exact h3 (by omega) k (by omega) h
      have HJL := Lib.hid hlt
      have hn2' := hn2.symm
      obtain ⟨e, he⟩ : ∃ e, e = L[j]'hlt := ⟨_, rfl⟩
      rw [← he] at hrr hmin HP4 HB4
      clear hp1 hp2 hp3 he hb hr hm9 hn2 HB HN hlt
      go_upto_region 5 with (first
        | (refine wpList_ldm rfl _ rfl rfl hrr (pcA_ok _ _ _) ?_)
        | (refine wpList_sw (cs := pcA e.p e.A e.c) rfl _ _ rfl rfl rfl HP1.out rfl (pcA_ok _ _ _) ?_))
      rw [zp_eq]
      clear HP1 hrr
      generalize (wr.alloc (.cells zpJ 32)).setRow wr.heap.size (pcA e.p e.A e.c) = w4 at *
      generalize wr.heap.size = p5 at *
      have p4 : w4.cell? ⟨p5, 4, none⟩ = some (.slice e.A e.p.dat.length e.c) := (pc_cells HP4.out).2.2.2.2
      generalize e.p.dat.length = dl at *
      go_wp2_with fail
      go_roundw
      case rel => exact ⟨j + 1, n2, by have := HJL.out; omega, by go_num, rfl, HN2, HB4⟩
      case measure => have := HJL.out; simp [intOf]; omega
    · obtain rfl : j = L.length := by omega
      by_cases hc : 100 < L.length
      · have hd1 : decide ((100 : Int) < (L.length : Int)) = true := decide_eq_true (by omega)
        have hd2 : decide (100 < L.length) = true := decide_eq_true hc
        clear HN hc
        go_wp2_with fail
        go_ret
        exact ⟨true, rfl, HB.out, fun h => (by cases h)⟩
      · have hd1 : decide ((100 : Int) < (L.length : Int)) = false := decide_eq_false (by omega)
        have hd2 : decide (100 < L.length) = false := decide_eq_false hc
        have HC : Hid (L.length ≤ 100) := Nat.le_of_not_lt hc
        obtain ⟨z, hz⟩ : ∃ z, z = decide (20000 < n) := ⟨_, rfl⟩
        have HZ := Lib.hid hz
        have hz2 := hz.symm
        clear hz hc
        go_wp2_with fail
        go_ret
        exact ⟨z, rfl, HB.out, fun h => ⟨HC.out, fun i hi => (HN.out HC.out).2.2 (by rw [HZ.out, decide_eq_false_iff_not] at h; omega) i hi hi⟩⟩
/-- Two notes that read the same are the same. -/
theorem rsame18_any {kd cd n c c' : Nat} {tx : Bool} {A A' : Option Addr} {d : List UInt8} {w : World} (hn : n = d.length) (h1 : RdB w w.heap.size A d) (h2 : RdB w w.heap.size A' d) : Calls Tryd.prog 14 #[.agg (ntc kd tx A n c cd), .agg (ntc kd tx A' n c' cd)] w fun e w' => e = .returned (.bool true) ∧ Below w.heap.size w w' := by
  subst hn
  have HA := Lib.hid (Row.new w 34 (ntc kd tx A d.length c cd))
  have hb1 : Below w.heap.size w (w.alloc (.cells (ntc kd tx A d.length c cd) 34)) := (Below.refl _ _).alloc (Nat.le_refl _) _
  have hb2 : Below w.heap.size w ((w.alloc (.cells (ntc kd tx A d.length c cd) 34)).alloc (.cells (ntc kd tx A' d.length c' cd) 34)) := hb1.alloc (by simp) _
  have ha := nt_cells (HA.out.alloc (.cells (ntc kd tx A' d.length c' cd) 34))
  have hbb := nt_cells (Row.made (w.alloc (.cells (ntc kd tx A d.length c cd) 34)) 34 (ntc kd tx A' d.length c' cd) (g := w.heap.size + 1) (by simp))
  have HB2 := Lib.hid hb2
  have ht1 := run_text (P := Tryd.prog) (c := c) Tryd.underlying30 Tryd.underlying5 Tryd.underlying9 (h1.below hb2)
  have ht2 := run_text (P := Tryd.prog) (c := c') Tryd.underlying30 Tryd.underlying5 Tryd.underlying9 (h2.below hb2)
  obtain ⟨a0, a1, a2, a3⟩ := ha
  obtain ⟨b0, b1, b2, b3⟩ := hbb
  have e1 : ((kd : Int) == (kd : Int)) = true := by simp
  have e2 : (tx == tx) = true := by simp
  have e3 : ((cd : Int) == (cd : Int)) = true := by simp
  obtain ⟨y, hy⟩ : ∃ y : ByteArray, y = ⟨d.toArray⟩ := ⟨_, rfl⟩
  rw [← hy] at ht1 ht2
  have e4 : (y.toList == y.toList) = true := by simp
  clear HA hb1 hb2 h1 h2 hy
  generalize d.length = n at *
  go_enter Tryd.func14, Tryd.ntmps14
  go_upto_region 1 with fail
  generalize (w.alloc (.cells (ntc kd tx A n c cd) 34)).alloc (.cells (ntc kd tx A' n c' cd) 34) = w1 at *
  go_wp2_with fail
  go_ret
  exact ⟨rfl, HB2.out⟩
end Go.Proofs.YtdegpchofhnipaaDoor
