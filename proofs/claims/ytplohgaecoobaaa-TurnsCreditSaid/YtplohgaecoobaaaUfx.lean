/-
  The laws' own example: fixed answers true. No conditions.
-/
import Derived.Test.YtplohgaecoobaaaUsa
namespace Go.Proofs.Ytplohgaecoobaaa
open Go.RowKit Go.WideShapes

def z10 : List UInt8 := [0, 0, 0, 0, 0, 0, 0, 0, 0, 0]
/-- The example's ring with so many streams .. -/
def fxS : Nat → Rm
  | 0 => rmNew 100
  | k + 1 => (rmPut (rmOpen (fxS k) (1 + 2 * k) 100).1 (1 + 2 * k) z10 false).1
/-- .. and behind so many turns. -/
def fxN : Nat → Rm
  | 0 => fxS 2
  | i + 1 => nxM (fxN i) 4
def fxl (i : Nat) : Nat := if i < 4 then 4 else 2
theorem fxS_open : ∀ k, k < 2 → (rmOpen (fxS k) (1 + 2 * k) 100).2 = true ∧ (rmPut (rmOpen (fxS k) (1 + 2 * k) 100).1 (1 + 2 * k) z10 false).2 = true
  | 0, _ => ⟨by kernel_rfl, by kernel_rfl⟩
  | 1, _ => ⟨by kernel_rfl, by kernel_rfl⟩
  | k + 2, h => by omega
theorem fxS_ok : ∀ k, k ≤ 2 → (fxS k).Ok ∧ allB (fxS k) ≤ 11 * k ∧ (fxS k).l.length ≤ k
  | 0, _ => ⟨rmNew_ok 100, Nat.le_refl _, Nat.le_refl _⟩
  | k + 1, h => by
    obtain ⟨h1, h2, h3⟩ := fxS_ok k (by omega)
    have h4 := allB_open (fxS k) (1 + 2 * k) 100
    have h5 := allB_put (rmOpen (fxS k) (1 + 2 * k) 100).1 (1 + 2 * k) z10 false
    have hz : z10.length = 10 := rfl
    exact ⟨rmPut_ok (rmOpen_ok h1 _ (by omega) _) _ _ _, by show allB (rmPut _ _ _ _).1 ≤ _; omega, by show (rmPut _ _ _ _).1.l.length ≤ _; omega⟩
theorem fxN_ok : ∀ i, (fxN i).Ok ∧ allB (fxN i) ≤ 22 ∧ (fxN i).l.length ≤ 2
  | 0 => fxS_ok 2 (Nat.le_refl _)
  | i + 1 => by
    obtain ⟨h1, h2, h3⟩ := fxN_ok i
    have h4 := allB_next h1 4
    exact ⟨nxM_ok h1 4, by show allB (nxM _ _) ≤ _; omega, by show (nxM _ _).l.length ≤ _; omega⟩
/-- What Next answers, in one form. -/
def nxa (m : Rm) (most : Int) : Nat × List UInt8 × Bool × Bool := match rmNext m most with | none => (0, [], false, false) | some (x, N, _) => (x.st, x.b.take N, (snY N x).ov, true)
theorem tn_uni {w : World} {F : Nat → Prop} {g : Nat} {m : Rm} (hm : m.Ok) {most : Int} {e : Ending} {w' : World} (h : TNP w F g m (rmNext m most) e w') :
    TNU w F g (nxa m most).1 (nxa m most).2.1 (nxa m most).2.2.1 (nxa m most).2.2.2 (nxM m most) e w' := by
  unfold nxM nxa
  cases hr : rmNext m most with
  | none =>
    rw [hr] at h
    obtain ⟨h1, F', h2, h3, h4⟩ := h
    exact ⟨none, 0, h1, Bo.nil, F', h2, h3, h4, fun k hk => by simp [ob, Value.ownBlock] at hk⟩
  | some r =>
    rw [hr] at h
    obtain ⟨x, N, m'⟩ := r
    obtain ⟨k, hs⟩ := rmNext_sends hm hr
    have hl : (x.b.take N).length = N := by rw [List.length_take, Nat.min_eq_left hs.le]
    obtain ⟨A, c, h1, h2, h3⟩ := h
    refine ⟨A, c, ?_, ?_, ?_⟩
    · dsimp only; rw [hl]; exact h1
    · dsimp only; rw [hl]; exact h2
    · dsimp only; rw [hl]; exact h3
theorem fxN_nx : ∀ k, k < 6 → (nxa (fxN k) 4).1 = 1 + 2 * (k % 2) ∧ (nxa (fxN k) 4).2.1.length = fxl k ∧ (nxa (fxN k) 4).2.2.1 = false ∧ (nxa (fxN k) 4).2.2.2 = true
  | 0, _ => ⟨by kernel_rfl, by kernel_rfl, by kernel_rfl, by kernel_rfl⟩
  | 1, _ => ⟨by kernel_rfl, by kernel_rfl, by kernel_rfl, by kernel_rfl⟩
  | 2, _ => ⟨by kernel_rfl, by kernel_rfl, by kernel_rfl, by kernel_rfl⟩
  | 3, _ => ⟨by kernel_rfl, by kernel_rfl, by kernel_rfl, by kernel_rfl⟩
  | 4, _ => ⟨by kernel_rfl, by kernel_rfl, by kernel_rfl, by kernel_rfl⟩
  | 5, _ => ⟨by kernel_rfl, by kernel_rfl, by kernel_rfl, by kernel_rfl⟩
  | k + 6, h => by omega
theorem fxN_end : allN (fxN 6).l = 0 := by kernel_rfl
theorem fxl_at : ∀ k, k < 6 → (#[Value.int .i64 4, .int .i64 4, .int .i64 4, .int .i64 4, .int .i64 2, .int .i64 2] : Array Value)[k]? = some (.int .i64 (fxl k))
  | 0, _ => rfl
  | 1, _ => rfl
  | 2, _ => rfl
  | 3, _ => rfl
  | 4, _ => rfl
  | 5, _ => rfl
  | k + 6, h => by omega
theorem fx2_at : ∀ k, k < 2 → (#[Value.int .u32 1, .int .u32 3] : Array Value)[k]? = some (.int .u32 ((1 + 2 * k : Nat) : Int))
  | 0, _ => rfl
  | 1, _ => rfl
  | k + 2, h => by omega
theorem mk10 (W : World) : (Instr.makeSlice 34 (.int .i64 10) (.int .i64 10)).run Try.prog W = .ok (.slice (some ⟨W.heap.size, 0, none⟩) 10 10) (W.alloc (.cells (byc z10).toArray 5)) := by kernel_rfl
theorem rd10 (W : World) : RdS (W.alloc (.cells (byc z10).toArray 5)) (fun k => k = W.heap.size) (some ⟨W.heap.size, 0, none⟩) (byc z10) := fun _ => ⟨W.heap.size, 0, rfl, rfl, fun j u hj => by
  rw [Nat.zero_add]
  exact (Row.new W 5 (byc z10).toArray).cell (by simpa using hj)⟩
theorem z10_len : z10.length = 10 := rfl
attribute [local irreducible] fxS fxN nxM nxa rmOpen rmPut z10 allN fxl
set_option maxRecDepth 100000 in
set_option maxHeartbeats 4000000 in
theorem fixed13_any (w : World) : Calls Try.prog 9 #[] w fun e w' => e = .returned (.bool true) ∧ Below w.heap.size w w' := by
  go_enter Try.func9, Try.ntmps9
  go_wp2_with fail
  refine (tnew_any 100 w).mono ?_
  rintro e w1 ⟨g, F, rfl, hT1, hF1, hb1⟩
  have h0 : rmNew 100 = fxS 0 := by unfold fxS; rfl
  rw [h0] at hT1
  have HT1 := Lib.hid (hT1.below ((Below.refl w1.heap.size w1).alloc (Nat.le_refl _) (.cells #[.int .u32 1, .int .u32 3] 33)))
  have HFR : Hid (∀ k, F k → w.heap.size ≤ k ∧ k ≠ w1.heap.size) := fun k hk => ⟨hF1 k hk, by have := hT1.lts k hk; omega⟩
  have HB1 := Lib.hid (hb1.trans (((Below.refl w1.heap.size w1).alloc (Nat.le_refl _) (.cells #[.int .u32 1, .int .u32 3] 33)).mono hb1.size))
  have HX : Hid (Row (w1.alloc (.cells #[.int .u32 1, .int .u32 3] 33)) w1.heap.size 33 #[.int .u32 1, .int .u32 3]) := Row.new w1 _ _
  have hlo : w.heap.size ≤ w1.heap.size := hb1.size
  clear hT1 hF1 hb1 h0
  go_wp2_with fail
  generalize w1.alloc (.cells #[.int .u32 1, .int .u32 3] 33) = w2 at *
  generalize w1.heap.size = q at *
  go_loopw [12] (fun i wr => ∃ (k : Nat) (F' : Nat → Prop), k ≤ 2 ∧ i = .int .i64 k ∧ Hid (Tr wr F' g (fxS k)) ∧ Hid (∀ x, F' x → w.heap.size ≤ x ∧ x ≠ q) ∧ Hid (Row wr q 33 #[.int .u32 1, .int .u32 3]) ∧ Hid (Below w.heap.size w wr)) (fun i _ => 2 - (intOf i).toNat)
  case atStart => exact ⟨0, F, Nat.zero_le _, rfl, HT1, HFR, HX, HB1⟩
  case round =>
    clear HT1 HFR HX HB1
    obtain ⟨k, F1, hk, rfl, HT, HFR, HX, HB⟩ := hrel
    by_cases hlt : k < 2
    · have hfo := fxS_open k hlt
      obtain ⟨hok, hal, hle⟩ := fxS_ok k hk
      have hsm : (fxS k).Sm := allB_sm (by omega) (by omega)
      have c0 := HX.out.cell (fx2_at k hlt)
      have HTO := Lib.hid (topen_any HT.out hok hsm (1 + 2 * k) 100)
      have hok2 := rmOpen_ok hok (1 + 2 * k) (by omega) 100
      have hal2 := allB_open (fxS k) (1 + 2 * k) 100
      have hsm2 : (rmOpen (fxS k) (1 + 2 * k) 100).1.Sm := allB_sm (by omega) (by omega)
      rw [hfo.1] at HTO
      have hnext : (rmPut (rmOpen (fxS k) (1 + 2 * k) 100).1 (1 + 2 * k) z10 false).1 = fxS (k + 1) := by rw [fxS]
      have HNX := Lib.hid hnext
      have HFO := Lib.hid hfo.2
      have HOK2 := Lib.hid hok2
      have HSM2 := Lib.hid hsm2
      have hs32 : 1 + 2 * k < 4294967296 := by omega
      clear hfo hok hal hle hsm hok2 hal2 hsm2 hnext
      generalize (rmOpen (fxS k) (1 + 2 * k) 100).1 = mo at *
      obtain ⟨s, hs⟩ : ∃ s, s = 1 + 2 * k := ⟨_, rfl⟩
      rw [← hs] at c0 HTO HNX HFO hs32
      clear hs
      go_wp2_with fail
      refine HTO.out.mono ?_
      rintro e w3 ⟨rfl, F3, hT3, hF3, hN3⟩
      have hql := HX.out.lt
      have HX3 := Lib.hid (hF3.row (fun h => (HFR.out _ h).2 rfl) HX.out)
      have HFR3 : Hid (∀ x, F3 x → w.heap.size ≤ x ∧ x ≠ q) := fun x hx => by
        rcases hN3 x hx with h | h
        · exact HFR.out x h
        · exact ⟨by have := HB.out.size; omega, by omega⟩
      have HB3 := Lib.hid (HB.out.trans (hF3.below (fun x hx _ => (HFR.out x hx).1) HB.out.size))
      have HT3 := Lib.hid hT3
      clear hT3 hF3 hN3 HX HFR HB HT HTO hql c0
      have hmk := mk10 w3
      have hal : Below w3.heap.size w3 (w3.alloc (.cells (byc z10).toArray 5)) := (Below.refl _ _).alloc (Nat.le_refl _) _
      have HT4 := Lib.hid (HT3.out.below hal)
      have HX4 := Lib.hid (HX3.out.below hal HX3.out.lt)
      have HB4 := Lib.hid (HB3.out.trans (hal.mono HB3.out.size))
      have hpu := tput_any HT4.out HOK2.out HSM2.out s (rd10 w3) (fun x hx _ hf => by have := HT3.out.lts x hf; omega) (c := 10) (by rw [z10_len]; omega) false
      rw [HNX.out, HFO.out, z10_len] at hpu
      have HPU := Lib.hid hpu
      have HS4 : Hid (w3.heap.size ≤ (w3.alloc (.cells (byc z10).toArray 5)).heap.size) := hal.size
      clear hal hpu HT3 HX3 HB3 HT4
      go_wp2_with fail
      refine HPU.out.mono ?_
      rintro e w5 ⟨rfl, F5, hT5, hF5, hN5⟩
      have hql := HX4.out.lt
      have HX5 := Lib.hid (hF5.row (fun h => (HFR3.out _ h).2 rfl) HX4.out)
      have HFR5 : Hid (∀ x, F5 x → w.heap.size ≤ x ∧ x ≠ q) := fun x hx => by
        rcases hN5 x hx with h | h
        · exact HFR3.out x h
        · exact ⟨by have := HB4.out.size; omega, by omega⟩
      have HB5 := Lib.hid (HB4.out.trans (hF5.below (fun x hx _ => (HFR3.out x hx).1) HB4.out.size))
      have HT5 := Lib.hid hT5
      clear hT5 hF5 hN5 HX4 HFR3 HB4 hql hmk HPU HS4 HNX HFO
      go_wp2_with fail
      go_roundw
      case rel => exact ⟨k + 1, F5, by omega, by go_num, HT5, HFR5, HX5, HB5⟩
      case measure => simp [intOf]; omega
    · have h0 : fxS k = fxN 0 := by rw [show k = 2 by omega, fxN]
      have hlt' : decide (k < 2) = false := decide_eq_false hlt
      have HT2 : Hid (Tr wr F1 g (fxN 0)) := by show Tr _ _ _ _; rw [← h0]; exact HT.out
      have HFR2 : Hid (∀ x, F1 x → w.heap.size ≤ x) := fun x hx => (HFR.out x hx).1
      clear HT HX HFR h0
      go_wp2_with fail
      generalize hk9 : (k : Int) = k9 at *
      clear hk9
      go_loopw [28] (fun i wr => ∃ (k : Nat) (F' : Nat → Prop), k ≤ 6 ∧ i = .int .i64 k ∧ Hid (Tr wr F' g (fxN k)) ∧ Hid (∀ x, F' x → w.heap.size ≤ x) ∧ Hid (Below w.heap.size w wr)) (fun i _ => 6 - (intOf i).toNat)
      case atStart => exact ⟨0, F1, Nat.zero_le _, rfl, HT2, HFR2, HB⟩
      case round =>
        clear HT2 HFR2 HB
        obtain ⟨k, F2, hk6, rfl, HT, HFR, HB⟩ := hrel
        by_cases hlt6 : k < 6
        · have hn := fxN_nx k hlt6
          obtain ⟨hok, hal, hle⟩ := fxN_ok k
          have hsm : (fxN k).Sm := allB_sm (by omega) (by omega)
          have htn := (tnext_any HT.out hok hsm 4).mono fun e w' h => tn_uni hok h
          have hnm : nxM (fxN k) 4 = fxN (k + 1) := by rw [fxN]
          rw [hnm] at htn
          clear hnm hok hal hle hsm
          generalize nxa (fxN k) 4 = r at *
          obtain ⟨s, l, ov, okk⟩ := r
          obtain ⟨h1, h2, h3, h4⟩ := hn
          dsimp only at h1 h2 h3 h4 htn
          subst h1 h3 h4
          have HTN := Lib.hid htn
          have HL2 := Lib.hid h2
          obtain ⟨r2, hr2⟩ : ∃ r2, r2 = k % 2 := ⟨_, rfl⟩
          have hm2 : Int.tmod (k : Int) 2 = (r2 : Int) := by rw [hr2]; rfl
          have hr3 : r2 ≤ 1 := by omega
          rw [← hr2] at HTN
          have hw1 : IntKind.i64.wrap (2 * (r2 : Int)) = 2 * (r2 : Int) := IntWalk.i64_in _ (by omega)
          have hw2 : IntKind.i64.wrap (1 + 2 * (r2 : Int)) = 1 + 2 * (r2 : Int) := IntWalk.i64_in _ (by omega)
          have hw3 : IntKind.u32.wrap (1 + 2 * (r2 : Int)) = 1 + 2 * (r2 : Int) := IntWalk.u32_in _ (by omega)
          clear htn h2 hr2
          go_wp2_with fail
          refine HTN.out.mono ?_
          rintro e w3 ⟨A3, c3, rfl, hO3, F3, hT3, hF3, hN3, hD3⟩
          have hal : Below w3.heap.size w3 (w3.alloc (.cells #[.int .i64 4, .int .i64 4, .int .i64 4, .int .i64 4, .int .i64 2, .int .i64 2] 3)) := (Below.refl _ _).alloc (Nat.le_refl _) _
          have HT4 := Lib.hid (hT3.below hal)
          have HFR4 : Hid (∀ x, F3 x → w.heap.size ≤ x) := fun x hx => by
            rcases hN3 x hx with h | h
            · exact HFR.out x h
            · have := HB.out.size; omega
          have HB4 := Lib.hid ((HB.out.trans (hF3.below (fun x hx _ => HFR.out x hx) HB.out.size)).trans (hal.mono (by have := HB.out.size; have := hF3.size; omega)))
          have hcl := (Row.new w3 3 #[.int .i64 4, .int .i64 4, .int .i64 4, .int .i64 4, .int .i64 2, .int .i64 2]).cell (fxl_at k hlt6)
          rw [HL2.out]
          clear hO3 hT3 hF3 hN3 hD3 hal HT HFR HB HTN
          go_wp2_with fail
          go_roundw
          case rel => exact ⟨k + 1, F3, by omega, by go_num, HT4, HFR4, HB4⟩
          case measure => simp [intOf]; omega
        · obtain rfl : k = 6 := by omega
          obtain ⟨hok, hal, hle⟩ := fxN_ok 6
          have hta := tall_any HT.out (allB_sm (by omega) (by omega))
          rw [fxN_end] at hta
          have HTA := Lib.hid hta
          clear hta hok hal hle HT HFR
          go_wp2_with fail
          refine HTA.out.mono ?_
          rintro e w3 ⟨rfl, hb3⟩
          have HB3 := Lib.hid (HB.out.trans (hb3.mono HB.out.size))
          clear hb3 HB HTA
          go_wp2_with fail
          go_ret
          exact ⟨rfl, HB3.out⟩
end Go.Proofs.Ytplohgaecoobaaa
