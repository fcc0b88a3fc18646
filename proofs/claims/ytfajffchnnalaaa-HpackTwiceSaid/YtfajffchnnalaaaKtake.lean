/-
  A reading's take, by its contract. Conditions: a field of fewer than 2^31 bytes, at most 2^30 fields.
-/
import Derived.Test.YtfajffchnnalaaaKtexts
import Derived.Test.YtfajffchnnalaaaLast
namespace Go.Proofs.Ytfajffchnnalaaa
open Go.RowKit Go.WideShapes

/-- The list as far as it was taken: whole, or too great. -/
def Fl (w : World) (base : Nat) (fw sv : Value) (out : List Fd) : Prop :=
  ∃ z : Nat, sv = .int .i64 (z : Int) ∧ z ≤ 4294967296 ∧ ((z = tot out ∧ OwS w base 52 3 fw out.length (enl fdc out)) ∨ (4096 < z ∧ 4096 < tot out)) ∧ ∀ k, ob fw k → base ≤ k ∧ k < w.heap.size
def TakeE (w : World) (base : Nat) (S : Nat → Prop) (gr : Nat) (d fw : Value) (l : List UInt8) (out : List Fd) (e : Ending) (w' : World) : Prop :=
  e = .returned (.tuple #[]) ∧ ∃ fw' sv', Rs w' S gr d fw' sv' l ∧ Fl w' base fw' sv' out ∧ Fs (fun k => k = gr ∨ ob fw k) w w' ∧ Nx w fw fw' ∧ ¬ ob fw' gr

attribute [local irreducible] tot sz

set_option maxRecDepth 100000 in
set_option maxHeartbeats 4000000 in
theorem take_any {w : World} {base : Nat} {S : Nat → Prop} {gr : Nat} {d fw sv : Value} {l : List UInt8} {out : List Fd} (f : Fd) (hf : sz f ≤ 2147483648) (hr : Rs w S gr d fw sv l) (hS : ∀ k, S k → k < w.heap.size) (hSb : ∀ k, S k → k < base) (hlo : base ≤ gr) (hfl : Fl w base fw sv out) (hap : ¬ ob fw gr) (hn : out.length ≤ 1073741824) :
    Calls Try.prog 48 #[pt gr, fv f] w (TakeE w base S gr d fw l (out ++ [f])) := by
  obtain ⟨z, rfl, hz, hcase, hfb⟩ := hfl
  have hgl := hr.lt
  obtain ⟨A, c, hR, hc, hA, hns⟩ := hr
  have hts := tot_snoc out f
  obtain ⟨C, hC⟩ : ∃ C : Obj, C = .cells #[.string ⟨f.nm.toArray⟩, .string ⟨f.vl.toArray⟩, .bool f.nv] 52 := ⟨_, rfl⟩
  have hb0 := (Below.refl w.heap.size w).alloc (Nat.le_refl _) C
  have hR0 := hR.below hb0 hgl
  have HR0 := Lib.hid hR0
  have HA0 : Hid (RdS (w.alloc C) S A (byc l)) := hA.keep fun g hg => hb0.block g (hS g hg)
  have HB0 : Hid (Row (w.alloc C) w.heap.size 52 #[.string ⟨f.nm.toArray⟩, .string ⟨f.vl.toArray⟩, .bool f.nv]) := by show Row _ _ _ _; rw [hC]; exact Row.new w _ _
  have HF0 : Hid (Fs (fun k => k = gr ∨ ob fw k) w (w.alloc C)) := Fs.of_below hb0
  have HFB := Lib.hid hfb
  have hs0 : w.heap.size < (w.alloc C).heap.size := by simp
  have r3 := hR0.cell (j := 3) rfl
  unfold pt fv tx at *
  subst hC
  by_cases hg : 4096 < z
  · have hg1 : (4096 : Int) < (z : Int) := by omega
    have hov : Hid (4096 < z ∧ 4096 < tot (out ++ [f])) := by
      show _ ∧ _
      refine ⟨hg, ?_⟩
      rcases hcase with h1 | h1 <;> omega
    clear hcase hR hA hR0 hb0
    go_enter Try.func48, Try.ntmps48
    go_wp2_with fail
    generalize w.alloc (.cells #[.string ⟨f.nm.toArray⟩, .string ⟨f.vl.toArray⟩, .bool f.nv] 52) = w0 at *
    refine bodyPost_ret (results_none rfl _ _ _) rfl ?_
    exact ⟨rfl, fw, .int .i64 (z : Int), ⟨A, c, HR0.out, hc, HA0.out, hns⟩, ⟨z, rfl, hz, .inr hov.out, fun k hk => ⟨(HFB.out k hk).1, by have := (HFB.out k hk).2; omega⟩⟩, HF0.out, Nx.refl w fw, hap⟩
  · have hg1 : decide ((4096 : Int) < (z : Int)) = false := by simp; omega
    obtain ⟨hzt, hO⟩ : z = tot out ∧ OwS w base 52 3 fw out.length (enl fdc out) := by
      rcases hcase with h1 | h1
      · exact h1
      · exact absurd h1.1 hg
    have HO0 := Lib.hid (hO.below hb0)
    have hsz := size_any f hf
    obtain ⟨i0, hi0, hz0, hz1, hz2⟩ := field_parts
    obtain ⟨T, hT⟩ : ∃ T, T = tot (out ++ [f]) := ⟨_, rfl⟩
    have HT := Lib.hid hT
    rw [← hT, ← hzt] at hts
    unfold fv tx at hsz
    have HZ := Lib.hid hzt
    clear hcase hR hA hR0 hb0 hO hT hzt
    go_enter Try.func48, Try.ntmps48
    go_wp2_with fail
    generalize w.alloc (.cells #[.string ⟨f.nm.toArray⟩, .string ⟨f.vl.toArray⟩, .bool f.nv] 52) = w0 at *
    have e3 : w0.drew.cell? ⟨gr, 3, none⟩ = some (.int .i64 (z : Int)) := HR0.out.cell (j := 3) rfl
    have b0 : w0.drew.cell? ⟨w.heap.size, 0, none⟩ = some (.string ⟨f.nm.toArray⟩) := HB0.out.cell (j := 0) rfl
    have b1 : w0.drew.cell? ⟨w.heap.size, 1, none⟩ = some (.string ⟨f.vl.toArray⟩) := HB0.out.cell (j := 1) rfl
    have b2 : w0.drew.cell? ⟨w.heap.size, 2, none⟩ = some (.bool f.nv) := HB0.out.cell (j := 2) rfl
    refine wp_region_E 9 (fun w' => w'.cell? ⟨gr, 3, none⟩ = some (.int .i64 (z : Int)) ∧ w'.cell? ⟨w.heap.size, 0, none⟩ = some (.string ⟨f.nm.toArray⟩) ∧ w'.cell? ⟨w.heap.size, 1, none⟩ = some (.string ⟨f.vl.toArray⟩) ∧ w'.cell? ⟨w.heap.size, 2, none⟩ = some (.bool f.nv)) (by kernel_rfl) ⟨e3, b0, b1, b2⟩ (fun hHeld => ?_)
    refine wpAnyE_take (i := 0) (v := ?v0) rfl (by kernel_rfl) (by kernel_rfl) (by kernel_rfl) (by kernel_rfl) (fun _ _ _ h => h) (Or.inl ⟨by rfl, ?hy0⟩) (by assumption) ?rest0
    case hy0 => (intro w hSw; (try dsimp only at hSw); go_simp <;> with_reducible rfl)
    try simp only [Act.put, List.getElem_toArray, List.getElem_cons_zero, List.setIfInBounds_toArray, List.set_cons_zero, List.set_cons_succ]
    refine wpAnyE_take (i := 1) (v := ?v1) rfl (by kernel_rfl) (by kernel_rfl) (by kernel_rfl) (by kernel_rfl) (fun _ _ _ h => h) (Or.inl ⟨by rfl, ?hy1⟩) (by assumption) ?rest1
    case hy1 => (intro w hSw; (try dsimp only at hSw); go_simp <;> with_reducible rfl)
    try simp only [Act.put, List.getElem_toArray, List.getElem_cons_zero, List.getElem_cons_succ, List.setIfInBounds_toArray, List.set_cons_zero, List.set_cons_succ]
    refine wpAnyE_take (i := 2) (v := ?v2) rfl (by kernel_rfl) (by kernel_rfl) (by kernel_rfl) (by kernel_rfl) (fun _ _ _ h => h) (Or.inl ⟨by rfl, ?hy2⟩) (by assumption) ?rest2
    case hy2 => (intro w hSw; (try dsimp only at hSw); go_simp <;> with_reducible rfl)
    try simp only [Act.put, List.getElem_toArray, List.getElem_cons_zero, List.getElem_cons_succ, List.setIfInBounds_toArray, List.set_cons_zero, List.set_cons_succ]
    refine wpAnyE_take (i := 3) (v := ?v3) rfl (by kernel_rfl) (by kernel_rfl) (by kernel_rfl) (by kernel_rfl) (fun _ _ _ h => h) (Or.inl ⟨by rfl, ?hy3⟩) (by assumption) ?rest3
    case hy3 => (intro w hSw; (try dsimp only at hSw); go_simp <;> with_reducible rfl)
    try simp only [Act.put, List.getElem_toArray, List.getElem_cons_zero, List.getElem_cons_succ, List.setIfInBounds_toArray, List.set_cons_zero, List.set_cons_succ]
    refine wpAnyE_take (i := 4) (v := ?v4) rfl (by kernel_rfl) (by kernel_rfl) (by kernel_rfl) (by kernel_rfl) (fun _ _ _ h => h) (Or.inl ⟨by rfl, ?hy4⟩) (by assumption) ?rest4
    case hy4 => (intro w hSw; (try dsimp only at hSw); go_simp <;> with_reducible rfl)
    try simp only [Act.put, List.getElem_toArray, List.getElem_cons_zero, List.getElem_cons_succ, List.setIfInBounds_toArray, List.set_cons_zero, List.set_cons_succ]
    refine wpAnyE_next (i := 5) (by kernel_rfl) rfl (fun K hK => ?_)
    go_simp
    go_at_call 54
    refine (hsz _).mono ?_
    rintro e w1 ⟨rfl, hb1⟩
    have k0 := (hb1.cell (p := ⟨gr, 3, none⟩) (World.block_lt_of_cell? _ _ e3)).trans e3
    have k1 := (hb1.cell (p := ⟨w.heap.size, 0, none⟩) (World.block_lt_of_cell? _ _ b0)).trans b0
    have k2 := (hb1.cell (p := ⟨w.heap.size, 1, none⟩) (World.block_lt_of_cell? _ _ b1)).trans b1
    have k3 := (hb1.cell (p := ⟨w.heap.size, 2, none⟩) (World.block_lt_of_cell? _ _ b2)).trans b2
    have hB : Below w0.heap.size w0 w1 := ((Below.refl _ w0).drew).trans hb1
    have HR1 := Lib.hid (HR0.out.below hB HR0.out.lt)
    have HB1 := Lib.hid (HB0.out.below hB HB0.out.lt)
    have HO1 := Lib.hid (HO0.out.below hB)
    have HF1 := Lib.hid (HF0.out.then_below hB)
    have HA1 : Hid (RdS w1 S A (byc l)) := HA0.out.keep fun g hg => hB.block g (by have := hS g hg; omega)
    have hs1 : w.heap.size < w1.heap.size := by have := hB.size; omega
    clear hb1 hB HR0 HB0 HO0 HF0 HA0 hsz
    go_simp
    refine hK.out _ _ ⟨k0, k1, k2, k3⟩ (fun hHeld => ?_)
    clear hK K
    try simp only [Act.put, List.getElem_toArray, List.getElem_cons_zero, List.getElem_cons_succ, List.setIfInBounds_toArray, List.set_cons_zero, List.set_cons_succ]
    refine wpAnyE_take (i := 6) (v := ?v6q1) rfl (by kernel_rfl) (by kernel_rfl) (by kernel_rfl) (by kernel_rfl) (fun _ _ _ h => h) (Or.inl ⟨by rfl, ?hy6q1⟩) (by assumption) ?rest6q1
    case hy6q1 => (intro w hSw; (try dsimp only at hSw); go_simp <;> with_reducible rfl)
    try simp only [Act.put, List.getElem_toArray, List.getElem_cons_zero, List.getElem_cons_succ, List.setIfInBounds_toArray, List.set_cons_zero, List.set_cons_succ]
    refine wpAnyE_take (i := 7) (v := ?v7q1) rfl (by kernel_rfl) (by kernel_rfl) (by kernel_rfl) (by kernel_rfl) (fun _ _ _ h => h) (Or.inl ⟨by rfl, ?hy7q1⟩) (by assumption) ?rest7q1
    case hy7q1 => (intro w hSw; (try dsimp only at hSw); go_simp <;> with_reducible rfl)
    try simp only [Act.put, List.getElem_toArray, List.getElem_cons_zero, List.getElem_cons_succ, List.setIfInBounds_toArray, List.set_cons_zero, List.set_cons_succ]
    refine wpAnyE_take (i := 8) (v := ?v8q1) rfl (by kernel_rfl) (by kernel_rfl) (by kernel_rfl) (by kernel_rfl) (fun _ _ _ h => h) (Or.inl ⟨by rfl, ?hy8q1⟩) (by assumption) ?rest8q1
    case hy8q1 => (intro w hSw; (try dsimp only at hSw); go_simp <;> with_reducible rfl)
    try simp only [Act.put, List.getElem_toArray, List.getElem_cons_zero, List.getElem_cons_succ, List.setIfInBounds_toArray, List.set_cons_zero, List.set_cons_succ]
    have hth3 := HR1.out.thawed 3
    refine wpAnyE_last (by kernel_rfl) rfl (by kernel_rfl) (fun K hK => ?_)
    go_simp
    refine hK.out _ _ ?_
    clear hK K
    have hsum : IntKind.i64.wrap ((z : Int) + (sz f : Int)) = (T : Int) := by rw [IntWalk.i64_in _ (by omega)]; omega
    try simp only [Act.put, List.getElem_toArray, List.getElem_cons_zero, List.getElem_cons_succ, List.setIfInBounds_toArray, List.set_cons_zero, List.set_cons_succ]
    rw [hsum]
    have HR2 : Hid (Row (w1.setCell ⟨gr, 3, none⟩ (.int .i64 (T : Int))) gr 70 #[d, .slice A l.length c, fw, .int .i64 (T : Int)]) := Row.stored HR1.out 3 _
    have HFs : Hid (Fs (fun k => k = gr) w1 (w1.setCell ⟨gr, 3, none⟩ (.int .i64 (T : Int)))) := (Fs.refl (fun k => k = gr) w1).setCell (fun _ => rfl) _ _
    have HB2 := Lib.hid (HFs.out.row (b := w.heap.size) (fun e => by omega) HB1.out)
    have HO2 := Lib.hid (HFs.out.owns HO1.out fun k hk e => hap (by rw [← e]; exact hk))
    have HF2 : Hid (Fs (fun k => k = gr ∨ ob fw k) w (w1.setCell ⟨gr, 3, none⟩ (.int .i64 (T : Int)))) := HF1.out.trans HFs.out fun k _ e => .inl e
    have HA2 : Hid (RdS (w1.setCell ⟨gr, 3, none⟩ (.int .i64 (T : Int))) S A (byc l)) := HFs.out.reads HA1.out fun k hk => ⟨by have := hS k hk; omega, fun e => hns (by rw [← e]; exact hk)⟩
    have hs2 : w.heap.size < (w1.setCell ⟨gr, 3, none⟩ (.int .i64 (T : Int))).heap.size := by simpa [World.setCell] using hs1
    clear HR1 HFs HB1 HO1 HF1 HA1 hth3 k0 k1 k2 k3 e3 b0 b1 b2 r3
    generalize w1.setCell ⟨gr, 3, none⟩ (.int .i64 (T : Int)) = w2 at *
    go_wp2_with fail
    obtain ⟨Aw, cw, rfl, hw1, hw2⟩ := HO2.out.shape
    have e0 : w2.drew.cell? ⟨gr, 2, none⟩ = some (.slice Aw out.length cw) := HR2.out.cell (j := 2) rfl
    have d0 : w2.drew.cell? ⟨w.heap.size, 0, none⟩ = some (.string ⟨f.nm.toArray⟩) := HB2.out.cell (j := 0) rfl
    have d1 : w2.drew.cell? ⟨w.heap.size, 1, none⟩ = some (.string ⟨f.vl.toArray⟩) := HB2.out.cell (j := 1) rfl
    have d2 : w2.drew.cell? ⟨w.heap.size, 2, none⟩ = some (.bool f.nv) := HB2.out.cell (j := 2) rfl
    refine wp_region_E 10 (fun w' => w'.cell? ⟨gr, 2, none⟩ = some (.slice Aw out.length cw) ∧ w'.cell? ⟨w.heap.size, 0, none⟩ = some (.string ⟨f.nm.toArray⟩) ∧ w'.cell? ⟨w.heap.size, 1, none⟩ = some (.string ⟨f.vl.toArray⟩) ∧ w'.cell? ⟨w.heap.size, 2, none⟩ = some (.bool f.nv)) (by kernel_rfl) ⟨e0, d0, d1, d2⟩ (fun hHeld => ?_)
    refine wpAnyE_take (i := 0) (v := ?v0q2) rfl (by kernel_rfl) (by kernel_rfl) (by kernel_rfl) (by kernel_rfl) (fun _ _ _ h => h) (Or.inl ⟨by rfl, ?hy0q2⟩) (by assumption) ?rest0q2
    case hy0q2 => (intro w hSw; (try dsimp only at hSw); go_simp <;> with_reducible rfl)
    try simp only [Act.put, List.getElem_toArray, List.getElem_cons_zero, List.setIfInBounds_toArray, List.set_cons_zero, List.set_cons_succ]
    refine wpAnyE_take (i := 1) (v := ?v1q2) rfl (by kernel_rfl) (by kernel_rfl) (by kernel_rfl) (by kernel_rfl) (fun _ _ _ h => h) (Or.inl ⟨by rfl, ?hy1q2⟩) (by assumption) ?rest1q2
    case hy1q2 => (intro w hSw; (try dsimp only at hSw); go_simp <;> with_reducible rfl)
    try simp only [Act.put, List.getElem_toArray, List.getElem_cons_zero, List.getElem_cons_succ, List.setIfInBounds_toArray, List.set_cons_zero, List.set_cons_succ]
    refine wpAnyE_take (i := 2) (v := ?v2q2) rfl (by kernel_rfl) (by kernel_rfl) (by kernel_rfl) (by kernel_rfl) (fun _ _ _ h => h) (Or.inl ⟨by rfl, ?hy2q2⟩) (by assumption) ?rest2q2
    case hy2q2 => (intro w hSw; (try dsimp only at hSw); go_simp <;> with_reducible rfl)
    try simp only [Act.put, List.getElem_toArray, List.getElem_cons_zero, List.getElem_cons_succ, List.setIfInBounds_toArray, List.set_cons_zero, List.set_cons_succ]
    refine wpAnyE_take (i := 3) (v := ?v3q2) rfl (by kernel_rfl) (by kernel_rfl) (by kernel_rfl) (by kernel_rfl) (fun _ _ _ h => h) (Or.inl ⟨by rfl, ?hy3q2⟩) (by assumption) ?rest3q2
    case hy3q2 => (intro w hSw; (try dsimp only at hSw); go_simp <;> with_reducible rfl)
    try simp only [Act.put, List.getElem_toArray, List.getElem_cons_zero, List.getElem_cons_succ, List.setIfInBounds_toArray, List.set_cons_zero, List.set_cons_succ]
    refine wpAnyE_take (i := 4) (v := ?v4q2) rfl (by kernel_rfl) (by kernel_rfl) (by kernel_rfl) (by kernel_rfl) (fun _ _ _ h => h) (Or.inl ⟨by rfl, ?hy4q2⟩) (by assumption) ?rest4q2
    case hy4q2 => (intro w hSw; (try dsimp only at hSw); go_simp <;> with_reducible rfl)
    try simp only [Act.put, List.getElem_toArray, List.getElem_cons_zero, List.getElem_cons_succ, List.setIfInBounds_toArray, List.set_cons_zero, List.set_cons_succ]
    refine wpAnyE_take (i := 5) (v := ?v5q2) rfl (by kernel_rfl) (by kernel_rfl) (by kernel_rfl) (by kernel_rfl) (fun _ _ _ h => h) (Or.inl ⟨by rfl, ?hy5q2⟩) (by assumption) ?rest5q2
    case hy5q2 => (intro w hSw; (try dsimp only at hSw); go_simp <;> with_reducible rfl)
    try simp only [Act.put, List.getElem_toArray, List.getElem_cons_zero, List.getElem_cons_succ, List.setIfInBounds_toArray, List.set_cons_zero, List.set_cons_succ]
    refine wpAnyE_next (i := 6) (by kernel_rfl) rfl (fun K hK => ?_)
    go_simp
    have m0 : (w2.alloc (.cells #[.string ⟨f.nm.toArray⟩, .string ⟨f.vl.toArray⟩, .bool f.nv] 52)).drew.cell? ⟨gr, 2, none⟩ = some (.slice Aw out.length cw) := (World.cell?_alloc_lt w2 (.cells #[.string ⟨f.nm.toArray⟩, .string ⟨f.vl.toArray⟩, .bool f.nv] 52) ⟨gr, 2, none⟩ (World.block_lt_of_cell? _ _ e0)).trans e0
    have m1 : (w2.alloc (.cells #[.string ⟨f.nm.toArray⟩, .string ⟨f.vl.toArray⟩, .bool f.nv] 52)).drew.cell? ⟨w.heap.size, 0, none⟩ = some (.string ⟨f.nm.toArray⟩) := (World.cell?_alloc_lt w2 (.cells #[.string ⟨f.nm.toArray⟩, .string ⟨f.vl.toArray⟩, .bool f.nv] 52) ⟨w.heap.size, 0, none⟩ (World.block_lt_of_cell? _ _ d0)).trans d0
    have m2 : (w2.alloc (.cells #[.string ⟨f.nm.toArray⟩, .string ⟨f.vl.toArray⟩, .bool f.nv] 52)).drew.cell? ⟨w.heap.size, 1, none⟩ = some (.string ⟨f.vl.toArray⟩) := (World.cell?_alloc_lt w2 (.cells #[.string ⟨f.nm.toArray⟩, .string ⟨f.vl.toArray⟩, .bool f.nv] 52) ⟨w.heap.size, 1, none⟩ (World.block_lt_of_cell? _ _ d1)).trans d1
    have m3 : (w2.alloc (.cells #[.string ⟨f.nm.toArray⟩, .string ⟨f.vl.toArray⟩, .bool f.nv] 52)).drew.cell? ⟨w.heap.size, 2, none⟩ = some (.bool f.nv) := (World.cell?_alloc_lt w2 (.cells #[.string ⟨f.nm.toArray⟩, .string ⟨f.vl.toArray⟩, .bool f.nv] 52) ⟨w.heap.size, 2, none⟩ (World.block_lt_of_cell? _ _ d2)).trans d2
    have hB : Below w2.heap.size w2 (w2.alloc (.cells #[.string ⟨f.nm.toArray⟩, .string ⟨f.vl.toArray⟩, .bool f.nv] 52)).drew := ((Below.refl _ w2).alloc (Nat.le_refl _) _).drew
    have HR3 := Lib.hid (HR2.out.below hB HR2.out.lt)
    have HO3 := Lib.hid (HO2.out.below hB)
    have HF3 := Lib.hid (HF2.out.then_below hB)
    have HA3 : Hid (RdS (w2.alloc (.cells #[.string ⟨f.nm.toArray⟩, .string ⟨f.vl.toArray⟩, .bool f.nv] 52)).drew S A (byc l)) := HA2.out.keep fun g hg => hB.block g (by have := hS g hg; omega)
    have HN3 : Hid (∀ j u, (fdc f)[j]? = some u → (w2.alloc (.cells #[.string ⟨f.nm.toArray⟩, .string ⟨f.vl.toArray⟩, .bool f.nv] 52)).drew.cell? ((⟨w2.heap.size, 0, none⟩ : Addr).add j) = some u) := World.news_of_block (heap_alloc_last w2 (.cells #[.string ⟨f.nm.toArray⟩, .string ⟨f.vl.toArray⟩, .bool f.nv] 52))
    have hs3 : w2.heap.size < (w2.alloc (.cells #[.string ⟨f.nm.toArray⟩, .string ⟨f.vl.toArray⟩, .bool f.nv] 52)).drew.heap.size := by simp [World.drew]
    clear HR2 HO2 HF2 HA2 hB
    refine hK.out _ _ ⟨m0, m1, m2, m3⟩ (fun hHeld => ?_)
    clear hK K
    try simp only [Act.put, List.getElem_toArray, List.getElem_cons_zero, List.getElem_cons_succ, List.setIfInBounds_toArray, List.set_cons_zero, List.set_cons_succ]
    generalize (w2.alloc (.cells #[.string ⟨f.nm.toArray⟩, .string ⟨f.vl.toArray⟩, .bool f.nv] 52)).drew = w5 at *
    refine wpAnyE_next (i := 7) (by kernel_rfl) rfl (fun K hK => ?_)
    refine step_appS rfl (.tmp 22) (.tmp 24) 31 rfl base 52 i0 _ 3 40 Try.underlying31 hi0 hz0 hz1 hz2 rfl (.slice Aw out.length cw) out.length (enl fdc out) rfl HO3.out ⟨w2.heap.size, 0, none⟩ 1 1 (fdc f) rfl rfl HN3.out (fdc_one _) (by omega) (by simp only [maxLen]; omega) (by omega) (by omega) ?_
    intro A6 c6 w6 hO6 hg6 hb6
    have hFg : Fs (ob (.slice Aw out.length cw)) w5 w6 := Fs.of_grown hg6
    have hN6 : Nx w5 (.slice Aw out.length cw) (.slice A6 (out.length + 1) c6) := Nx.of_new hb6
    have hR6 := hFg.row hap HR3.out
    have n0 := hR6.cell (j := 2) rfl
    have hbn : some w.heap.size ≠ (Value.slice Aw out.length cw).ownBlock := fun e => by
      have := (HFB.out w.heap.size e.symm).2
      omega
    have n1 := (hg6.cell_far ⟨w.heap.size, 0, none⟩ (World.block_lt_of_cell? _ _ m1) hbn).trans m1
    have n2 := (hg6.cell_far ⟨w.heap.size, 1, none⟩ (World.block_lt_of_cell? _ _ m2) hbn).trans m2
    have n3 := (hg6.cell_far ⟨w.heap.size, 2, none⟩ (World.block_lt_of_cell? _ _ m3) hbn).trans m3
    have hap6 : ¬ ob (.slice A6 (out.length + 1) c6) gr := hN6.not (by have := HF3.out.size; omega) hap
    have hthaw := hR6.thawed 2
    have HR7 : Hid (Row (w6.setCell ⟨gr, 2, none⟩ (.slice A6 (out.length + 1) c6)) gr 70 #[d, .slice A l.length c, .slice A6 (out.length + 1) c6, .int .i64 (T : Int)]) := Row.stored hR6 2 _
    have hFs : Fs (fun k => k = gr) w6 (w6.setCell ⟨gr, 2, none⟩ (.slice A6 (out.length + 1) c6)) := (Fs.refl (fun k => k = gr) w6).setCell (fun _ => rfl) _ _
    have HF7 : Hid (Fs (fun k => k = gr ∨ ob (.slice Aw out.length cw) k) w (w6.setCell ⟨gr, 2, none⟩ (.slice A6 (out.length + 1) c6))) := (HF3.out.trans hFg fun k _ e => .inr e).trans hFs fun k _ e => .inl e
    have HO7 := Lib.hid (hFs.owns hO6 fun k hk e => hap6 (by rw [← e]; exact hk))
    have HA7 : Hid (RdS (w6.setCell ⟨gr, 2, none⟩ (.slice A6 (out.length + 1) c6)) S A (byc l)) := hFs.reads (hFg.reads HA3.out fun k hk => ⟨by have := hS k hk; omega, fun e => by have := (HFB.out k e).1; have := hSb k hk; omega⟩) fun k hk => ⟨by have := hS k hk; have := hFg.size; omega, fun e => hns (by rw [← e]; exact hk)⟩
    have HN7 : Hid (Nx w (.slice Aw out.length cw) (.slice A6 (out.length + 1) c6)) := (Nx.refl w _).trans hN6 (by have := HF3.out.size; omega)
    have HAP := Lib.hid hap6
    have HFB7 : Hid (∀ k, ob (.slice A6 (out.length + 1) c6) k → base ≤ k ∧ k < (w6.setCell ⟨gr, 2, none⟩ (.slice A6 (out.length + 1) c6)).heap.size) := fun k hk => HO7.out.lt k hk
    refine hK.out _ _ ⟨n0, n1, n2, n3⟩ (fun hHeld => ?_)
    clear hK K hap6 hN6 hFg hFs hg6 hb6 hO6 HR3 HO3 HF3 HA3 HN3 m0 m1 m2 m3 e0 d0 d1 d2
    try simp only [Act.put, List.getElem_toArray, List.getElem_cons_zero, List.getElem_cons_succ, List.setIfInBounds_toArray, List.set_cons_zero, List.set_cons_succ]
    refine wpAnyE_take (i := 8) (v := ?v8q3) rfl (by kernel_rfl) (by kernel_rfl) (by kernel_rfl) (by kernel_rfl) (fun _ _ _ h => h) (Or.inl ⟨by rfl, ?hy8q3⟩) (by assumption) ?rest8q3
    case hy8q3 => (intro w hSw; (try dsimp only at hSw); go_simp <;> with_reducible rfl)
    try simp only [Act.put, List.getElem_toArray, List.getElem_cons_zero, List.getElem_cons_succ, List.setIfInBounds_toArray, List.set_cons_zero, List.set_cons_succ]
    refine wpAnyE_take (i := 9) (v := ?v9q3) rfl (by kernel_rfl) (by kernel_rfl) (by kernel_rfl) (by kernel_rfl) (fun _ _ _ h => h) (Or.inl ⟨by rfl, ?hy9q3⟩) (by assumption) ?rest9q3
    case hy9q3 => (intro w hSw; (try dsimp only at hSw); go_simp <;> with_reducible rfl)
    try simp only [Act.put, List.getElem_toArray, List.getElem_cons_zero, List.getElem_cons_succ, List.setIfInBounds_toArray, List.set_cons_zero, List.set_cons_succ]
    refine wpAnyE_last (by kernel_rfl) rfl (by kernel_rfl) (fun K hK => ?_)
    go_simp
    refine hK.out _ _ ?_
    clear hK K
    try simp only [Act.put, List.getElem_toArray, List.getElem_cons_zero, List.getElem_cons_succ, List.setIfInBounds_toArray, List.set_cons_zero, List.set_cons_succ]
    generalize w6.setCell ⟨gr, 2, none⟩ (.slice A6 (out.length + 1) c6) = w7 at *
    clear hthaw n0 n1 n2 n3 hR6
    go_wp2_with fail
    refine bodyPost_ret (results_none rfl _ _ _) rfl ?_
    refine ⟨rfl, .slice A6 (out.length + 1) c6, .int .i64 (T : Int), ⟨A, c, HR7.out, hc, HA7.out, hns⟩, ⟨T, rfl, by omega, .inl ⟨HT.out, ?_⟩, HFB7.out⟩, HF7.out, HN7.out, HAP.out⟩
    rw [List.length_append, enl_append, enl_one]
    exact HO7.out
end Go.Proofs.Ytfajffchnnalaaa
