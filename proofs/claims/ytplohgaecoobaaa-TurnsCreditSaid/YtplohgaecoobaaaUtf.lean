/-
  The program's ring: where a stream stands, its struct, its window, by contract. Conditions: the ring lies in memory; its numbers are apart.
-/
import Derived.Test.YtplohgaecoobaaaUta
import Derived.BigQuiet
namespace Go.Proofs.Ytplohgaecoobaaa
open Go.RowKit Go.WideShapes

attribute [local irreducible] sec rgc fd wnc
set_option maxRecDepth 100000 in
set_option maxHeartbeats 1000000 in
theorem tclo_any {w : World} {e : Se} {kb s : Nat} (h : SeIn w e) (hk : w.cell? ⟨kb, 0, none⟩ = some (.int .u32 s)) :
    Calls Try.prog 56 #[.pointer (some ⟨e.sb, 0, none⟩), .pointer (some ⟨kb, 0, none⟩)] w fun r w' => r = .returned (.bool (decide (e.x.st = s))) ∧ Below w.heap.size w w' := by
  have c0 := (se_cells h).1
  have e1 := nat_eq e.x.st s
  generalize decide (e.x.st = s) = z at *
  generalize e.x.st = y at *
  clear h
  go_enter Try.func56, Try.ntmps56
  go_wp2_with fail
  go_quiet (fail)
  go_wp2_with fail
  go_ret
  exact ⟨rfl, below_dN (Below.refl _ _) _⟩
def fdP (s : Nat) (L : List Se) : Int := if fd s (L.map (·.x)) < L.length then (fd s (L.map (·.x)) : Int) else -1
set_option maxRecDepth 100000 in
set_option maxHeartbeats 1000000 in
theorem tidx_any {w : World} {g q : Nat} {A : Option Addr} {c : Nat} {L : List Se} {t : Nat} {W : Int} (h : TrL w g q A c L t W) (hL : L.length ≤ 100000) {kb s : Nat} (hk : w.cell? ⟨kb, 0, none⟩ = some (.int .u32 s)) :
    Calls Try.prog 55 #[.slice A L.length c, .func (.func 56) #[] #[.pointer (some ⟨kb, 0, none⟩)]] w fun r w' => r = .returned (.int .i64 (fdP s L)) ∧ Below w.heap.size w w' := by
  have H := Lib.hid h
  have HK := Lib.hid hk
  have hkl : kb < w.heap.size := World.block_lt_of_cell? w _ hk
  clear h hk
  go_enter Try.func55, Try.ntmps55
  go_wp2_with fail
  go_loopw [8] (fun i wr => ∃ k : Nat, k ≤ L.length ∧ i = .int .i64 k ∧ Hid (k ≤ fd s (L.map (·.x))) ∧ Hid (Below w.heap.size w wr)) (fun i _ => L.length - (intOf i).toNat)
  case atStart => exact ⟨0, Nat.zero_le _, rfl, Nat.zero_le _, Below.refl _ _⟩
  case round =>
    obtain ⟨k, hk, rfl, hF, hB⟩ := hrel
    have hkk : wr.cell? ⟨kb, 0, none⟩ = some (.int .u32 s) := (hB.out.cell (p := ⟨kb, 0, none⟩) hkl).trans HK.out
    by_cases hlt : k < L.length
    · have hxk := List.getElem?_eq_getElem hlt
      obtain ⟨b, o, rfl, hc, hse, _⟩ := (H.out.below hB.out).at hxk
      have hle : (L.map (·.x)).length = L.length := by simp
      have hst : (L.map (·.x))[k]'(by omega) = L[k].x := by simp
      have HC := Lib.hid (tclo_any hse hkk)
      by_cases hs : L[k].x.st = s
      · simp only [hs, decide_true] at HC
        have hE : Hid (fdP s L = k) := by
          show _ = _
          unfold fdP
          rw [fd_hit (by omega) hF.out (by rw [hst]; exact hs), if_pos hlt]
        clear hse hs hF hst hkk hxk
        generalize L[k] = e at *
        go_wp2_with fail
        refine HC.out.mono ?_
        rintro r w1 ⟨rfl, hb⟩
        have HB2 := Lib.hid (hB.out.trans (hb.mono hB.out.size))
        clear hb hB HC hc
        go_wp2_with fail
        go_ret
        rw [hE.out]
        exact ⟨rfl, HB2.out⟩
      · simp only [hs, decide_false] at HC
        have hE : Hid (k + 1 ≤ fd s (L.map (·.x))) := fd_more (by omega) hF.out (by rw [hst]; exact hs)
        clear hse hs hF hst hkk hxk
        generalize L[k] = e at *
        go_wp2_with fail
        refine HC.out.mono ?_
        rintro r w1 ⟨rfl, hb⟩
        have HB2 := Lib.hid (hB.out.trans (hb.mono hB.out.size))
        clear hb hB HC hc
        go_wp2_with fail
        go_roundw
        case rel => exact ⟨k + 1, by omega, by go_num, hE, HB2⟩
        case measure => simp [intOf]; omega
    · obtain rfl : k = L.length := by omega
      have hE : Hid (fdP s L = -1) := by
        show _ = _
        unfold fdP
        rw [if_neg (by have := hF.out; omega)]
      clear hF hkk
      go_wp2_with fail
      go_ret
      rw [hE.out]
      exact ⟨rfl, hB.out⟩
section
variable {w : World} {g q : Nat} {A : Option Addr} {c : Nat} {L : List Se} {t : Nat} {W : Int}
set_option maxRecDepth 100000 in
theorem tplace_nil (w : World) (s : Int) : Calls Try.prog 43 #[.pointer none, .int .u32 s] w fun r w' => r = .returned (.int .i64 (-1)) ∧ Below w.heap.size w w' := by
  have HB : Hid (Below w.heap.size w (w.alloc (.cells #[.int .u32 s] 33))) := (Below.refl _ _).alloc (Nat.le_refl _) _
  go_enter Try.func43, Try.ntmps43
  go_wp2
  go_ret
  exact ⟨rfl, HB.out⟩
set_option maxRecDepth 100000 in
set_option maxHeartbeats 1000000 in
theorem tplace_any (h : TrL w g q A c L t W) (hL : L.length ≤ 100000) (s : Nat) : Calls Try.prog 43 #[.pointer (some ⟨g, 0, none⟩), .int .u32 s] w fun r w' => r = .returned (.int .i64 (fdP s L)) ∧ Below w.heap.size w w' := by
  have HB : Hid (Below w.heap.size w (w.alloc (.cells #[.int .u32 s] 33))) := (Below.refl _ _).alloc (Nat.le_refl _) _
  have H := Lib.hid (h.below HB.out)
  have hk : (w.alloc (.cells #[.int .u32 s] 33)).cell? ⟨w.heap.size, 0, none⟩ = some (.int .u32 s) := (Row.new w 33 #[.int .u32 s]).cell rfl
  have c0 := (rg_cells H.out).1
  have hmf : ∀ (fn : Fn) (first cap : Array Value) (w : World), (Instr.makeFunc fn first cap).run Try.prog w = .ok (.func fn first cap) w := fun _ _ _ _ => rfl
  go_enter Try.func43, Try.ntmps43
  go_upto_region 1 with fail
  generalize w.alloc (.cells #[.int .u32 s] 33) = w1 at *
  have HC := Lib.hid (tidx_any H.out hL hk)
  clear h H hk
  go_wp2_with fail
  refine HC.out.mono ?_
  rintro r w2 ⟨rfl, hb⟩
  have HB2 := Lib.hid (HB.out.trans (hb.mono HB.out.size))
  clear hb HB HC c0
  go_wp2_with fail
  go_ret
  exact ⟨rfl, HB2.out⟩
set_option maxRecDepth 100000 in
theorem tfind_nil (w : World) (s : Int) : Calls Try.prog 35 #[.pointer none, .int .u32 s] w fun r w' => r = .returned (.pointer none) ∧ Below w.heap.size w w' := by
  go_enter Try.func35, Try.ntmps35
  go_wp2_with fail
  refine (tplace_nil _ _).mono ?_
  rintro r w2 ⟨rfl, hb⟩
  have HB := Lib.hid hb
  clear hb
  go_wp2_with fail
  go_ret
  exact ⟨rfl, HB.out⟩
set_option maxRecDepth 100000 in
set_option maxHeartbeats 1000000 in
theorem tfind_no (h : TrL w g q A c L t W) (hL : L.length ≤ 100000) {s : Nat} (hn : ¬ fd s (L.map (·.x)) < L.length) : Calls Try.prog 35 #[.pointer (some ⟨g, 0, none⟩), .int .u32 s] w fun r w' => r = .returned (.pointer none) ∧ Below w.heap.size w w' := by
  have HC := Lib.hid (tplace_any h hL s)
  have hE : fdP s L = -1 := by unfold fdP; rw [if_neg hn]
  rw [hE] at HC
  clear h hn hE
  go_enter Try.func35, Try.ntmps35
  go_wp2_with fail
  refine HC.out.mono ?_
  rintro r w2 ⟨rfl, hb⟩
  have HB := Lib.hid hb
  clear hb HC
  go_wp2_with fail
  go_ret
  exact ⟨rfl, HB.out⟩
set_option maxRecDepth 100000 in
set_option maxHeartbeats 1000000 in
theorem tfind_yes (h : TrL w g q A c L t W) (hL : L.length ≤ 100000) {s : Nat} {e : Se} (hk : L[fd s (L.map (·.x))]? = some e) : Calls Try.prog 35 #[.pointer (some ⟨g, 0, none⟩), .int .u32 s] w fun r w' => r = .returned (.pointer (some ⟨e.sb, 0, none⟩)) ∧ Below w.heap.size w w' := by
  have HC := Lib.hid (tplace_any h hL s)
  obtain ⟨b, o, rfl, hc, hse, hlt⟩ := h.at hk
  have hE : fdP s L = (fd s (L.map (·.x)) : Int) := by unfold fdP; rw [if_pos hlt]
  rw [hE] at HC
  generalize fd s (L.map (·.x)) = k at *
  have H := Lib.hid h
  have HK := Lib.hid hk
  have e1 : ((k : Int) == -1) = false := by rw [beq_eq_false_iff_ne]; omega
  clear h hE hc hse
  go_enter Try.func35, Try.ntmps35
  go_wp2_with fail
  refine HC.out.mono ?_
  rintro r w2 ⟨rfl, hb⟩
  have H2 := H.out.below hb
  have HB := Lib.hid hb
  have c0 := (rg_cells H2).1
  obtain ⟨b', o', e2, hc, _, _⟩ := H2.at hk
  injection e2 with e2
  injection e2 with e2 e3
  subst e2 e3
  clear hb HC H2 H hk
  go_wp2_with fail
  go_ret
  exact ⟨rfl, HB.out⟩
set_option maxRecDepth 100000 in
theorem twof_nil (w : World) (s : Int) : Calls Try.prog 36 #[.pointer none, .int .u32 s] w fun r w' => r = .returned (.pointer none) ∧ Below w.heap.size w w' := by
  go_enter Try.func36, Try.ntmps36
  go_wp2_with fail
  refine (tfind_nil _ _).mono ?_
  rintro r w2 ⟨rfl, hb⟩
  have HB := Lib.hid hb
  clear hb
  go_wp2_with fail
  go_ret
  exact ⟨rfl, HB.out⟩
set_option maxRecDepth 100000 in
set_option maxHeartbeats 1000000 in
theorem twof_ring (h : TrL w g q A c L t W) : Calls Try.prog 36 #[.pointer (some ⟨g, 0, none⟩), .int .u32 0] w fun r w' => r = .returned (.pointer (some ⟨q, 0, none⟩)) ∧ Below w.heap.size w w' := by
  obtain ⟨_, _, c2⟩ := rg_cells h
  clear h
  go_enter Try.func36, Try.ntmps36
  go_wp2_with fail
  go_ret
  exact ⟨rfl, Below.refl _ _⟩
set_option maxRecDepth 100000 in
set_option maxHeartbeats 1000000 in
theorem twof_no (h : TrL w g q A c L t W) (hL : L.length ≤ 100000) {s : Nat} (h0 : s ≠ 0) (hn : ¬ fd s (L.map (·.x)) < L.length) : Calls Try.prog 36 #[.pointer (some ⟨g, 0, none⟩), .int .u32 s] w fun r w' => r = .returned (.pointer none) ∧ Below w.heap.size w w' := by
  have HC := Lib.hid (tfind_no h hL hn)
  have e0 : ((s : Int) == 0) = false := by rw [beq_eq_false_iff_ne]; omega
  clear h hn h0
  go_enter Try.func36, Try.ntmps36
  go_wp2_with fail
  refine HC.out.mono ?_
  rintro r w2 ⟨rfl, hb⟩
  have HB := Lib.hid hb
  clear hb HC
  go_wp2_with fail
  go_ret
  exact ⟨rfl, HB.out⟩
set_option maxRecDepth 100000 in
set_option maxHeartbeats 1000000 in
theorem twof_yes (h : TrL w g q A c L t W) (hL : L.length ≤ 100000) {s : Nat} (h0 : s ≠ 0) {e : Se} (hk : L[fd s (L.map (·.x))]? = some e) : Calls Try.prog 36 #[.pointer (some ⟨g, 0, none⟩), .int .u32 s] w fun r w' => r = .returned (.pointer (some ⟨e.p, 0, none⟩)) ∧ Below w.heap.size w w' := by
  have HC := Lib.hid (tfind_yes h hL hk)
  have H := Lib.hid h
  have he := List.mem_of_getElem? hk
  have e0 : ((s : Int) == 0) = false := by rw [beq_eq_false_iff_ne]; omega
  clear h hk h0
  go_enter Try.func36, Try.ntmps36
  go_wp2_with fail
  refine HC.out.mono ?_
  rintro r w2 ⟨rfl, hb⟩
  obtain ⟨_, _, _, _, c4⟩ := se_cells ((H.out.below hb).i e he)
  have HB := Lib.hid hb
  clear hb HC H he
  go_wp2_with fail
  go_ret
  exact ⟨rfl, HB.out⟩
end
end Go.Proofs.Ytplohgaecoobaaa
