/-
  The document's table with a field more, or of another most, by their contracts. Conditions: each field of fewer than 2^31 bytes, all of fewer than 2^32, mosts below 2^32.
-/
import Derived.Test.YteoneedehfijhaaDrw
import Derived.Test.YteoneedehfijhaaLast
namespace Go.Proofs.Yteoneedehfijhaa
open Go.RowKit Go.WideShapes

/-- The document's table by value. -/
def tv (A : Option Addr) (n c M : Nat) : Value := .agg #[.slice A n c, .int .i64 (M : Int)]
/-- What a call leaves that makes such a table of these fields. -/
def MadeT (w : World) (R : List Fd) (M : Nat) (e : Ending) (w' : World) : Prop :=
  ∃ A' c', e = .returned (tv A' R.length c' M) ∧ RdS w' (fun b => w.heap.size ≤ b ∧ b < w'.heap.size) A' (enl fdc R) ∧ R.length ≤ c' ∧ Below w.heap.size w w'

attribute [local irreducible] tot shr sz wit addL

set_option maxRecDepth 100000 in
set_option maxHeartbeats 4000000 in
theorem radd_any {w : World} {A : Option Addr} {c : Nat} {R : List Fd} (M : Nat) (f : Fd) (hM : M < 4294967296) (hf : sz f ≤ 2147483648) (hR : RdS w (· < w.heap.size) A (enl fdc R)) (hL : tot R ≤ 4294967296) (hs : ∀ f ∈ R, sz f ≤ 2147483648) (hc : R.length ≤ c) :
    Calls Try.prog 11 #[tv A R.length c M, fv f] w (MadeT w (raddL M f R) M) := by
  have hsz := rsize_any f hf
  obtain ⟨i0, hi0, hz0, hz1, hz2⟩ := field_parts
  have hwi := fun (W : World) (h : RdS W (· < W.heap.size) A (enl fdc R)) => within_any (w := W) (c := c) (M := (M : Int)) ((M : Int) - (sz f : Int)) (by omega) (by omega) h hL hs hc
  have hWt := wit_tot ((M : Int) - (sz f : Int)) R
  have hWl := tot_len (wit ((M : Int) - (sz f : Int)) 0 R)
  have hRA : Hid (raddL M f R = if M < sz f then wit ((M : Int) - (sz f : Int)) 0 R else bare f :: wit ((M : Int) - (sz f : Int)) 0 R) := by show _ = _; rfl
  generalize wit ((M : Int) - (sz f : Int)) 0 R = V at *
  unfold tv fv tx at *
  go_enter Try.func11, Try.ntmps11
  go_wp2_with fail
  have hB0 : Row (((w.alloc (.cells #[.slice A R.length c, .int .i64 (M : Int)] 30)).alloc (.cells #[.string ⟨f.nm.toArray⟩, .string ⟨f.vl.toArray⟩, .bool f.nv] 32)).alloc (.cells #[.slice none 0 0, .int .i64 0] 30)) w.heap.size 30 #[.slice A R.length c, .int .i64 (M : Int)] := ((Row.new w _ _).alloc _).alloc _
  have hB1 : Row (((w.alloc (.cells #[.slice A R.length c, .int .i64 (M : Int)] 30)).alloc (.cells #[.string ⟨f.nm.toArray⟩, .string ⟨f.vl.toArray⟩, .bool f.nv] 32)).alloc (.cells #[.slice none 0 0, .int .i64 0] 30)) (w.heap.size + 1) 32 #[.string ⟨f.nm.toArray⟩, .string ⟨f.vl.toArray⟩, .bool f.nv] := (Row.made _ _ _ (by simp)).alloc _
  have hB2 : Row (((w.alloc (.cells #[.slice A R.length c, .int .i64 (M : Int)] 30)).alloc (.cells #[.string ⟨f.nm.toArray⟩, .string ⟨f.vl.toArray⟩, .bool f.nv] 32)).alloc (.cells #[.slice none 0 0, .int .i64 0] 30)) (w.heap.size + 2) 30 #[.slice none 0 0, .int .i64 0] := Row.made _ _ _ (by simp)
  have hW : Below w.heap.size w (((w.alloc (.cells #[.slice A R.length c, .int .i64 (M : Int)] 30)).alloc (.cells #[.string ⟨f.nm.toArray⟩, .string ⟨f.vl.toArray⟩, .bool f.nv] 32)).alloc (.cells #[.slice none 0 0, .int .i64 0] 30)) := (((Below.refl _ _).alloc (Nat.le_refl _) _).alloc (by simp) _).alloc (by simp; omega) _
  generalize (((w.alloc (.cells #[.slice A R.length c, .int .i64 (M : Int)] 30)).alloc (.cells #[.string ⟨f.nm.toArray⟩, .string ⟨f.vl.toArray⟩, .bool f.nv] 32)).alloc (.cells #[.slice none 0 0, .int .i64 0] 30)) = w0 at *
  have HB0 : Hid (Row w0.drew w.heap.size 30 #[.slice A R.length c, .int .i64 (M : Int)]) := hB0
  have HB1 : Hid (Row w0.drew (w.heap.size + 1) 32 #[.string ⟨f.nm.toArray⟩, .string ⟨f.vl.toArray⟩, .bool f.nv]) := hB1
  have HB2 : Hid (Row w0.drew (w.heap.size + 2) 30 #[.slice none 0 0, .int .i64 0]) := hB2
  have HW : Hid (Below w.heap.size w w0.drew) := hW.drew
  have d0 : w0.drew.cell? ⟨w.heap.size, 0, none⟩ = some (.slice A R.length c) := hB0.cell (j := 0) rfl
  have d1 : w0.drew.cell? ⟨w.heap.size, 1, none⟩ = some (.int .i64 (M : Int)) := hB0.cell (j := 1) rfl
  have d2 : w0.drew.cell? ⟨w.heap.size + 1, 0, none⟩ = some (.string ⟨f.nm.toArray⟩) := hB1.cell (j := 0) rfl
  have d3 : w0.drew.cell? ⟨w.heap.size + 1, 1, none⟩ = some (.string ⟨f.vl.toArray⟩) := hB1.cell (j := 1) rfl
  have d4 : w0.drew.cell? ⟨w.heap.size + 1, 2, none⟩ = some (.bool f.nv) := hB1.cell (j := 2) rfl
  clear hB0 hB1 hB2 hW
  refine wp_region_E 7 (fun w' => w'.cell? ⟨w.heap.size, 0, none⟩ = some (.slice A R.length c) ∧ w'.cell? ⟨w.heap.size, 1, none⟩ = some (.int .i64 (M : Int)) ∧ w'.cell? ⟨w.heap.size + 1, 0, none⟩ = some (.string ⟨f.nm.toArray⟩) ∧ w'.cell? ⟨w.heap.size + 1, 1, none⟩ = some (.string ⟨f.vl.toArray⟩) ∧ w'.cell? ⟨w.heap.size + 1, 2, none⟩ = some (.bool f.nv)) (by kernel_rfl) ⟨d0, d1, d2, d3, d4⟩ (fun hHeld => ?_)
  refine wpAnyE_take (i := 0) (v := ?v0) rfl (by kernel_rfl) (by kernel_rfl) (by kernel_rfl) (by kernel_rfl) (fun _ _ _ h => h) (Or.inl ⟨by rfl, ?hy0⟩) (by assumption) ?rest0
  case hy0 => (intro w hSw; (try dsimp only at hSw); go_simp <;> with_reducible rfl)
  try simp only [Act.put, List.getElem_toArray, List.getElem_cons_zero, List.setIfInBounds_toArray, List.set_cons_zero, List.set_cons_succ]
  refine wpAnyE_take (i := 1) (v := ?v1) rfl (by kernel_rfl) (by kernel_rfl) (by kernel_rfl) (by kernel_rfl) (fun _ _ _ h => h) (Or.inl ⟨by rfl, ?hy1⟩) (by assumption) ?rest1
  case hy1 => (intro w hSw; (try dsimp only at hSw); go_simp <;> with_reducible rfl)
  try simp only [Act.put, List.getElem_toArray, List.getElem_cons_zero, List.getElem_cons_succ, List.setIfInBounds_toArray, List.set_cons_zero, List.set_cons_succ]
  refine wpAnyE_take (i := 2) (v := ?v2) rfl (by kernel_rfl) (by kernel_rfl) (by kernel_rfl) (by kernel_rfl) (fun _ _ _ h => h) (Or.inl ⟨by rfl, ?hy2⟩) (by assumption) ?rest2
  case hy2 => (intro w hSw; (try dsimp only at hSw); go_simp <;> with_reducible rfl)
  try simp only [Act.put, List.getElem_toArray, List.getElem_cons_zero, List.getElem_cons_succ, List.setIfInBounds_toArray, List.set_cons_zero, List.set_cons_succ]
  refine wpAnyE_take (i := 3) (v := ?v3) rfl (by kernel_rfl) (by kernel_rfl) (by kernel_rfl) (by kernel_rfl) (fun _ _ _ h => h) (Or.inl ⟨by rfl, ?hy3⟩) (by assumption) ?rest3
  case hy3 => (intro w hSw; (try dsimp only at hSw); go_simp <;> with_reducible rfl)
  try simp only [Act.put, List.getElem_toArray, List.getElem_cons_zero, List.getElem_cons_succ, List.setIfInBounds_toArray, List.set_cons_zero, List.set_cons_succ]
  refine wpAnyE_next (i := 4) (by kernel_rfl) rfl (fun K hK => ?_)
  go_simp
  go_at_call 24
  refine (hsz _).mono ?_
  rintro e w1 ⟨rfl, hb1⟩
  have HB01 := Lib.hid (HB0.out.below hb1 HB0.out.lt)
  have HB11 := Lib.hid (HB1.out.below hb1 HB1.out.lt)
  have HB21 := Lib.hid (HB2.out.below hb1 HB2.out.lt)
  have HW1 := Lib.hid (HW.out.trans (hb1.mono HW.out.size))
  have hR1 := hR.up HW1.out
  clear hb1 HB0 HB1 HB2 HW d0 d1 d2 d3 d4
  go_simp
  refine hK.out _ _ ⟨HB01.out.cell (j := 0) rfl, HB01.out.cell (j := 1) rfl, HB11.out.cell (j := 0) rfl, HB11.out.cell (j := 1) rfl, HB11.out.cell (j := 2) rfl⟩ (fun hHeld => ?_)
  clear hK K
  try simp only [Act.put, List.getElem_toArray, List.getElem_cons_zero, List.getElem_cons_succ, List.setIfInBounds_toArray, List.set_cons_zero, List.set_cons_succ]
  have hwr : IntKind.i64.wrap ((M : Int) - (sz f : Int)) = (M : Int) - (sz f : Int) := IntWalk.i64_in _ (by omega)
  refine wpAnyE_take (i := 5) (v := ?v5q1) rfl (by kernel_rfl) (by kernel_rfl) (by kernel_rfl) (by kernel_rfl) (fun _ _ _ h => h) (Or.inl ⟨by rfl, ?hy5q1⟩) (by assumption) ?rest5q1
  case hy5q1 => (intro w hSw; (try dsimp only at hSw); go_simp <;> with_reducible rfl)
  try simp only [Act.put, List.getElem_toArray, List.getElem_cons_zero, List.getElem_cons_succ, List.setIfInBounds_toArray, List.set_cons_zero, List.set_cons_succ]
  refine wpAnyE_next (i := 6) (by kernel_rfl) rfl (fun K hK => ?_)
  go_simp
  go_at_call 27
  refine (hwi _ hR1).mono ?_
  rintro e w2 ⟨A2, c2, rfl, hO2, hc2, hb2⟩
  have hs1 := HW1.out.size
  have HB02 := HB01.out.below hb2 HB01.out.lt
  have HB12 := HB11.out.below hb2 HB11.out.lt
  have HB22 := HB21.out.below hb2 HB21.out.lt
  have HL1 : Hid (w.heap.size + 2 < w1.heap.size) := HB21.out.lt
  have HW2 := Lib.hid (HW1.out.trans (hb2.mono hs1))
  have HO2 := Lib.hid hO2
  clear hb2 HB01 HB11 HB21 HW1 hR1 hO2 hwi hwr
  go_simp
  refine hK.out _ _ ⟨HB02.cell (j := 0) rfl, HB02.cell (j := 1) rfl, HB12.cell (j := 0) rfl, HB12.cell (j := 1) rfl, HB12.cell (j := 2) rfl⟩ (fun hHeld => ?_)
  clear hK K
  try simp only [Act.put, List.getElem_toArray, List.getElem_cons_zero, List.getElem_cons_succ, List.setIfInBounds_toArray, List.set_cons_zero, List.set_cons_succ]
  refine wpAnyE_last (by kernel_rfl) rfl (by kernel_rfl) (fun K hK => ?_)
  have z0 := HB02.thawed 0
  have z1 := HB02.thawed 1
  have r0 := HB02.cell (j := 0) rfl
  have r1 := HB02.cell (j := 1) rfl
  go_simp
  refine hK.out _ _ ?_
  clear hK K
  try simp only [Act.put, List.getElem_toArray, List.getElem_cons_zero, List.getElem_cons_succ, List.setIfInBounds_toArray, List.set_cons_zero, List.set_cons_succ]
  have hn : ∀ (j : Nat), j < w1.heap.size → (Value.slice A2 V.length c2).ownBlock ≠ some j := fun j hj e => by
    have := (HO2.out.lt j e).1
    omega
  have HB03 := ((HB02.stored 0 (.slice A2 V.length c2)).stored 1 (.int .i64 (M : Int)))
  have HB13 := ((HB12.stored' (a := ⟨w.heap.size, 0, none⟩) (by simp) (.slice A2 V.length c2)).stored' (a := ⟨w.heap.size, 1, none⟩) (by simp) (.int .i64 (M : Int)))
  have HB23 := ((HB22.stored' (a := ⟨w.heap.size, 0, none⟩) (by simp) (.slice A2 V.length c2)).stored' (a := ⟨w.heap.size, 1, none⟩) (by simp) (.int .i64 (M : Int)))
  have HO3 := Lib.hid ((HO2.out.setCell (a := ⟨w.heap.size, 0, none⟩) (hn _ (by have := HL1.out; simp; omega)) (.slice A2 V.length c2)).setCell (a := ⟨w.heap.size, 1, none⟩) (hn _ (by have := HL1.out; simp; omega)) (.int .i64 (M : Int)))
  have HW3 := Lib.hid ((HW2.out.setCell (p := ⟨w.heap.size, 0, none⟩) (Nat.le_refl _) (.slice A2 V.length c2)).setCell (p := ⟨w.heap.size, 1, none⟩) (Nat.le_refl _) (.int .i64 (M : Int)))
  have HL3 : Hid (w.heap.size + 2 < ((w2.setCell ⟨w.heap.size, 0, none⟩ (.slice A2 V.length c2)).setCell ⟨w.heap.size, 1, none⟩ (.int .i64 (M : Int))).heap.size) := HB23.lt
  generalize (w2.setCell ⟨w.heap.size, 0, none⟩ (.slice A2 V.length c2)).setCell ⟨w.heap.size, 1, none⟩ (.int .i64 (M : Int)) = w3 at *
  have HB0 : Hid (Row w3 w.heap.size 30 #[.slice A2 V.length c2, .int .i64 (M : Int)]) := HB03
  have HB1 : Hid (Row w3 (w.heap.size + 1) 32 #[.string ⟨f.nm.toArray⟩, .string ⟨f.vl.toArray⟩, .bool f.nv]) := HB13
  have HB2 : Hid (Row w3 (w.heap.size + 2) 30 #[.slice none 0 0, .int .i64 0]) := HB23
  clear HB02 HB12 HB22 HB03 HB13 HB23 z0 z1 r0 r1 HO2 HW2 hn
  go_wp2_with fail
  have d1 : w3.drew.cell? ⟨w.heap.size, 1, none⟩ = some (.int .i64 (M : Int)) := HB0.out.cell (j := 1) rfl
  have d2 : w3.drew.cell? ⟨w.heap.size + 1, 0, none⟩ = some (.string ⟨f.nm.toArray⟩) := HB1.out.cell (j := 0) rfl
  have d3 : w3.drew.cell? ⟨w.heap.size + 1, 1, none⟩ = some (.string ⟨f.vl.toArray⟩) := HB1.out.cell (j := 1) rfl
  have d4 : w3.drew.cell? ⟨w.heap.size + 1, 2, none⟩ = some (.bool f.nv) := HB1.out.cell (j := 2) rfl
  refine wp_region_E 4 (fun w' => w'.cell? ⟨w.heap.size, 1, none⟩ = some (.int .i64 (M : Int)) ∧ w'.cell? ⟨w.heap.size + 1, 0, none⟩ = some (.string ⟨f.nm.toArray⟩) ∧ w'.cell? ⟨w.heap.size + 1, 1, none⟩ = some (.string ⟨f.vl.toArray⟩) ∧ w'.cell? ⟨w.heap.size + 1, 2, none⟩ = some (.bool f.nv)) (by kernel_rfl) ⟨d1, d2, d3, d4⟩ (fun hHeld => ?_)
  refine wpAnyE_take (i := 0) (v := ?v0q2) rfl (by kernel_rfl) (by kernel_rfl) (by kernel_rfl) (by kernel_rfl) (fun _ _ _ h => h) (Or.inl ⟨by rfl, ?hy0q2⟩) (by assumption) ?rest0q2
  case hy0q2 => (intro w hSw; (try dsimp only at hSw); go_simp <;> with_reducible rfl)
  try simp only [Act.put, List.getElem_toArray, List.getElem_cons_zero, List.setIfInBounds_toArray, List.set_cons_zero, List.set_cons_succ]
  refine wpAnyE_take (i := 2) (v := ?v2q2) rfl (by kernel_rfl) (by kernel_rfl) (by kernel_rfl) (by kernel_rfl) (fun _ _ _ h => h) (Or.inl ⟨by rfl, ?hy2q2⟩) (by assumption) ?rest2q2
  case hy2q2 => (intro w hSw; (try dsimp only at hSw); go_simp <;> with_reducible rfl)
  try simp only [Act.put, List.getElem_toArray, List.getElem_cons_zero, List.getElem_cons_succ, List.setIfInBounds_toArray, List.set_cons_zero, List.set_cons_succ]
  refine wpAnyE_take (i := 3) (v := ?v3q2) rfl (by kernel_rfl) (by kernel_rfl) (by kernel_rfl) (by kernel_rfl) (fun _ _ _ h => h) (Or.inl ⟨by rfl, ?hy3q2⟩) (by assumption) ?rest3q2
  case hy3q2 => (intro w hSw; (try dsimp only at hSw); go_simp <;> with_reducible rfl)
  try simp only [Act.put, List.getElem_toArray, List.getElem_cons_zero, List.getElem_cons_succ, List.setIfInBounds_toArray, List.set_cons_zero, List.set_cons_succ]
  refine wpAnyE_next (i := 1) (by kernel_rfl) rfl (fun K hK => ?_)
  go_simp
  go_at_call 24
  refine (hsz _).mono ?_
  rintro e w4 ⟨rfl, hb4⟩
  have hbl : Below w3.heap.size w3 w4 := ⟨hb4.os, hb4.tape, hb4.output, hb4.size, hb4.block⟩
  have h00 := HB0.out.below hbl HB0.out.lt
  have h10 := HB1.out.below hbl HB1.out.lt
  have h20 := HB2.out.below hbl HB2.out.lt
  have hO4 := HO3.out.below hbl
  have hW4 := HW3.out.trans (hbl.mono HW3.out.size)
  have HL4 : Hid (w.heap.size + 2 < w4.heap.size) := h20.lt
  have HO4 := Lib.hid hO4
  have HW4 := Lib.hid hW4
  clear hb4 hbl HB0 HB1 HB2 HO3 HW3 d1 d2 d3 d4 hO4 hW4 HL3
  go_simp
  refine hK.out _ _ ⟨h00.cell (j := 1) rfl, h10.cell (j := 0) rfl, h10.cell (j := 1) rfl, h10.cell (j := 2) rfl⟩ (fun hHeld => ?_)
  clear hK K
  try simp only [Act.put, List.getElem_toArray, List.getElem_cons_zero, List.getElem_cons_succ, List.setIfInBounds_toArray, List.set_cons_zero, List.set_cons_succ]
  refine wpAnyE_last (by kernel_rfl) rfl (by kernel_rfl) (fun K hK => ?_)
  have p0 := h00.cell (j := 0) rfl
  have p1 := h00.cell (j := 1) rfl
  have z0 := h00.thawed 0
  have q0 := h20.cell (j := 0) rfl
  have q1 := h20.cell (j := 1) rfl
  have y0 := h20.thawed 0
  have y1 := h20.thawed 1
  have b0 := h10.cell (j := 0) rfl
  have b1 := h10.cell (j := 1) rfl
  have HB0 := Lib.hid h00
  have HB2 := Lib.hid h20
  clear h00 h10 h20 hHeld
  by_cases hgt : M < sz f
  · have hgi : (M : Int) < (sz f : Int) := by omega
    have hRV : Hid (raddL M f R = V) := by show _ = _; rw [hRA.out, if_pos hgt]
    clear hgt hRA
    go_simp
    refine hK.out _ _ ?_
    clear hK K
    try simp only [Act.put, List.getElem_toArray, List.getElem_cons_zero, List.getElem_cons_succ, List.setIfInBounds_toArray, List.set_cons_zero, List.set_cons_succ]
    go_wp2_with fail
    have hn : ∀ (j : Nat), j < w1.heap.size → (Value.slice A2 V.length c2).ownBlock ≠ some j := fun j hj e => by
      have := (HO4.out.lt j e).1
      omega
    have HR9 := Lib.hid ((HB2.out.stored 0 (.slice A2 V.length c2)).stored 1 (.int .i64 (M : Int)))
    have HO9 := Lib.hid ((HO4.out.setCell (a := ⟨w.heap.size + 1 + 1, 0, none⟩) (hn _ HL1.out) (.slice A2 V.length c2)).setCell (a := ⟨w.heap.size + 1 + 1, 1, none⟩) (hn _ HL1.out) (.int .i64 (M : Int)))
    have HW9 := Lib.hid ((HW4.out.setCell (p := ⟨w.heap.size + 1 + 1, 0, none⟩) (by simp; omega) (.slice A2 V.length c2)).setCell (p := ⟨w.heap.size + 1 + 1, 1, none⟩) (by simp; omega) (.int .i64 (M : Int)))
    refine bodyPost_ret (ret_T rfl _ _ (w.heap.size + 2) _ rfl HR9.out rfl) rfl ?_
    rw [hRV.out]
    refine ⟨A2, c2, rfl, (HO9.out.up).imp fun g hg _ => ⟨by omega, hg.2⟩, hc2, HW9.out⟩
  · have hgi : decide (M < sz f) = false := by simp; omega
    have hRV : Hid (raddL M f R = bare f :: V) := by show _ = _; rw [hRA.out, if_neg hgt]
    clear hgt hRA
    go_simp
    refine hK.out _ _ ?_
    clear hK K
    try simp only [Act.put, List.getElem_toArray, List.getElem_cons_zero, List.getElem_cons_succ, List.setIfInBounds_toArray, List.set_cons_zero, List.set_cons_succ]
    have hVb : V.length ≤ 134217728 := by omega
    have p00 := (World.cell?_alloc_lt w4 (.cells #[.string ⟨f.nm.toArray⟩, .string ⟨f.vl.toArray⟩, .bool false] 32) ⟨w.heap.size, 0, none⟩ (World.block_lt_of_cell? _ _ p0)).trans p0
    have HLt := Lib.hid (OwS.lit (base := w4.heap.size) w4 32 3 1 #[.string ⟨f.nm.toArray⟩, .string ⟨f.vl.toArray⟩, .bool false] rfl (by simp [maxLen]) (Nat.le_refl _))
    have HSr := Lib.hid ((HO4.out.alloc (.cells #[.string ⟨f.nm.toArray⟩, .string ⟨f.vl.toArray⟩, .bool false] 32)).reads)
    have hstep : Hid (∀ w5, (w4.alloc (.cells #[.string ⟨f.nm.toArray⟩, .string ⟨f.vl.toArray⟩, .bool false] 32)).grownBy w5 (Value.slice (some ⟨w4.heap.size, 0, none⟩) 1 1).ownBlock → Below w4.heap.size w4 w5) := by
      show ∀ _, _ → _
      intro w5 hg
      refine ⟨hg.os, hg.tape, hg.output, ?_, fun k hk => (hg.block k ?_ ?_).trans (Below.heap_alloc w4 _ k hk)⟩
      · have := hg.size
        simp at this
        omega
      · simp
        omega
      · intro e
        simp [Value.ownBlock] at e
        omega
    go_wp2_with (at_builtin; go_loud (refine wpList_appS_any rfl (.tmp 25) (.tmp 27) 28 rfl w4.heap.size 32 i0 _ 3 40 Try.underlying28 hi0 hz0 hz1 hz2 rfl (by omega) (.slice (some ⟨w4.heap.size, 0, none⟩) 1 1) 1 [.string ⟨f.nm.toArray⟩, .string ⟨f.vl.toArray⟩, .bool false] rfl HLt.out _ A2 V.length c2 (enl fdc V) rfl (enl_length fdc_len V) HSr.out (enl_oneCell fdc_one V) (by simp only [maxLen]; omega) (by omega) (by simp) ?_; intro A5 c5 w5 hO5 hg5 hb5; have hb45 := hstep.out w5 hg5; have h05 := HB0.out.below hb45 HB0.out.lt; have h25 := HB2.out.below hb45 HB2.out.lt; have r0 := h05.cell (j := 0) rfl; have r1 := h05.cell (j := 1) rfl; have s0 := h25.cell (j := 0) rfl; have s1 := h25.cell (j := 1) rfl; have y00 := h05.thawed 0; have y20 := h25.thawed 0; have y21 := h25.thawed 1; clear hg5))
    all_goals
      have hz5 : w.heap.size + 2 < w5.heap.size := h25.lt
      have hn : ∀ (j : Nat), j < w4.heap.size → (Value.slice A5 (1 + V.length) c5).ownBlock ≠ some j := fun j hj e => by
        have := (hO5.lt j e).1
        omega
      have hl4 := HL4.out
      have HR9 := Lib.hid (((h25.stored' (a := ⟨w.heap.size, 0, none⟩) (by simp) (.slice A5 (1 + V.length) c5)).stored 0 (.slice A5 (1 + V.length) c5)).stored 1 (.int .i64 (M : Int)))
      have HO9 := Lib.hid (((hO5.setCell (a := ⟨w.heap.size, 0, none⟩) (hn _ (by simp; omega)) (.slice A5 (1 + V.length) c5)).setCell (a := ⟨w.heap.size + 1 + 1, 0, none⟩) (hn _ (by simp; omega)) (.slice A5 (1 + V.length) c5)).setCell (a := ⟨w.heap.size + 1 + 1, 1, none⟩) (hn _ (by simp; omega)) (.int .i64 (M : Int)))
      have HW5 := HW4.out.trans (hb45.mono HW4.out.size)
      have HW9 := Lib.hid (((HW5.setCell (p := ⟨w.heap.size, 0, none⟩) (by simp) (.slice A5 (1 + V.length) c5)).setCell (p := ⟨w.heap.size + 1 + 1, 0, none⟩) (by simp; omega) (.slice A5 (1 + V.length) c5)).setCell (p := ⟨w.heap.size + 1 + 1, 1, none⟩) (by simp; omega) (.int .i64 (M : Int)))
      have hc5 : 1 + V.length ≤ c5 := by
        obtain ⟨_, _, e, h, _⟩ := hO5.shape
        injection e with _ _ e
        omega
      refine bodyPost_ret (ret_T rfl _ _ (w.heap.size + 2) _ rfl HR9.out rfl) rfl ?_
      rw [hRV.out]
      have e : 1 + V.length = (bare f :: V).length := by rw [List.length_cons]; omega
      refine ⟨A5, c5, by unfold tv; rw [← e]; rfl, ?_, by rw [← e]; exact hc5, HW9.out⟩
      have := HO9.out.up
      exact this.imp fun g hg _ => ⟨by have := HW4.out.size; omega, hg.2⟩

/-- The document's, of another most. -/
theorem rlimit_any {w : World} {A : Option Addr} {c : Nat} {R : List Fd} {M : Nat} (m : Nat) (hm : m < 4294967296) (hR : RdS w (· < w.heap.size) A (enl fdc R)) (hL : tot R ≤ 4294967296) (hs : ∀ f ∈ R, sz f ≤ 2147483648) (hc : R.length ≤ c) :
    Calls Try.prog 13 #[tv A R.length c M, .int .i64 (m : Int)] w (MadeT w (wit (m : Int) 0 R) m) := by
  have hwi := fun (W : World) (h : RdS W (· < W.heap.size) A (enl fdc R)) => within_any (w := W) (c := c) (M := (m : Int)) (m : Int) (by omega) (by omega) h hL hs hc
  generalize wit (m : Int) 0 R = V at *
  unfold tv at *
  go_enter Try.func13, Try.ntmps13
  go_wp2_with fail
  have hb : Below w.heap.size w ((w.alloc (.cells #[.slice A R.length c, .int .i64 (m : Int)] 30)).alloc (.cells #[.slice none 0 0, .int .i64 0] 30)) := ((Below.refl _ _).alloc (Nat.le_refl _) _).alloc (by simp) _
  have hB1 : Row ((w.alloc (.cells #[.slice A R.length c, .int .i64 (m : Int)] 30)).alloc (.cells #[.slice none 0 0, .int .i64 0] 30)) (w.heap.size + 1) 30 #[.slice none 0 0, .int .i64 0] := Row.made _ _ _ (by simp)
  refine (hwi _ (hR.up hb)).mono ?_
  rintro e w2 ⟨A2, c2, rfl, hO2, hc2, hb2⟩
  have h12 := hB1.below hb2 hB1.lt
  have HL : Hid (w.heap.size + 2 ≤ ((w.alloc (.cells #[.slice A R.length c, .int .i64 (m : Int)] 30)).alloc (.cells #[.slice none 0 0, .int .i64 0] 30)).heap.size) := by show _ ≤ _; simp
  have HW := Lib.hid (hb.trans (hb2.mono hb.size))
  have HO := Lib.hid hO2
  clear hb hB1 hb2 hO2 hwi
  have q0 := h12.cell (j := 0) rfl
  have q1 := h12.cell (j := 1) rfl
  have y0 := h12.thawed 0
  have y1 := h12.thawed 1
  go_wp2_with fail
  have hn : ∀ (j : Nat), j < w.heap.size + 2 → (Value.slice A2 V.length c2).ownBlock ≠ some j := fun j hj e => by
    have := (HO.out.lt j e).1
    have := HL.out
    omega
  have HR9 := Lib.hid ((h12.stored 0 (.slice A2 V.length c2)).stored 1 (.int .i64 (m : Int)))
  have HO9 := Lib.hid ((HO.out.setCell (a := ⟨w.heap.size + 1, 0, none⟩) (hn _ (by simp)) (.slice A2 V.length c2)).setCell (a := ⟨w.heap.size + 1, 1, none⟩) (hn _ (by simp)) (.int .i64 (m : Int)))
  have HW9 := Lib.hid ((HW.out.setCell (p := ⟨w.heap.size + 1, 0, none⟩) (by simp) (.slice A2 V.length c2)).setCell (p := ⟨w.heap.size + 1, 1, none⟩) (by simp) (.int .i64 (m : Int)))
  refine bodyPost_ret (ret_T rfl _ _ (w.heap.size + 1) _ rfl HR9.out rfl) rfl ?_
  refine ⟨A2, c2, rfl, (HO9.out.up).imp fun g hg _ => ⟨by have := HL.out; omega, hg.2⟩, hc2, HW9.out⟩
end Go.Proofs.Yteoneedehfijhaa
