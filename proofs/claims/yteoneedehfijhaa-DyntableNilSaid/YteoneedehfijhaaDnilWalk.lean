/-
  DyntableNil, by its contract: at every input it answers true; below what was there nothing has turned.
-/
import Derived.Test.YteoneedehfijhaaDrf
import Derived.Test.YteoneedehfijhaaDfix
import Derived.Test.YteoneedehfijhaaDgr
namespace Go.Proofs.Yteoneedehfijhaa
open Go.RowKit Go.WideShapes

attribute [local irreducible] tot shr sz wit addL first fndN fndB isN isB nmL vlL tab rtabC named numT hasT isBT isNT exL four litC

theorem nadd_any (f : Fd) (w : World) : Calls Try.prog 10 #[.pointer none, fv f] w fun e w' => e = .returned (.tuple #[]) ∧ Below w.heap.size w w' := by
  unfold fv tx
  go_enter Try.func10, Try.ntmps10
  go_wp2_with fail
  refine bodyPost_ret (results_none rfl _ _ _) rfl ⟨rfl, (Below.refl _ _).alloc (Nat.le_refl _) _⟩
theorem nlimit_any (n : Int) (w : World) : Calls Try.prog 12 #[.pointer none, .int .u32 n] w fun e w' => e = .returned (.tuple #[]) ∧ w' = w := by
  go_enter Try.func12, Try.ntmps12
  go_wp2_with fail
  refine bodyPost_ret (results_none rfl _ _ _) rfl ⟨rfl, rfl⟩

/-- Both tables tell the same field of a number. -/
theorem nat_both (n : Int) (hn : n ≤ 9223372036854775807) : ∃ (x y : List UInt8) (t : Bool),
    (∀ W, Calls Try.prog 14 #[.pointer none, .int .i64 n] W fun e w' => e = .returned (.tuple #[.agg #[.string ⟨x.toArray⟩, .string ⟨y.toArray⟩, .bool false], .bool t]) ∧ Below W.heap.size W w') ∧
    (∀ W, Calls Try.prog 15 #[.agg #[.slice none 0 0, .int .i64 0], .int .i64 n] W fun e w' => e = .returned (.tuple #[.agg #[.string ⟨x.toArray⟩, .string ⟨y.toArray⟩, .bool false], .bool t]) ∧ Below W.heap.size W w') := by
  by_cases h1 : n < 1
  · exact ⟨[], [], false, fun W => tat_low _ n h1 W, fun W => rtat_low (M := 0) n h1⟩
  · by_cases h2 : n ≤ 61
    · obtain ⟨k, hk⟩ := Int.eq_ofNat_of_zero_le (show 0 ≤ n - 1 by omega)
      obtain rfl : n = (k : Int) + 1 := by omega
      exact ⟨nmL k, vlL k, true, fun W => tat_known _ k (by omega) W, fun W => rtat_known (M := 0) k (by omega)⟩
    · exact ⟨[], [], false, fun W => tat_nil n (by omega) hn W, fun W => rtat_far (m := 0) (M := 0) n (by simp; omega) hn⟩

set_option maxRecDepth 100000 in
set_option maxHeartbeats 4000000 in
theorem nil_law (f : Fd) (n : Int) (hn : n ≤ 9223372036854775807) (w : World) : Calls Try.prog 5 #[fv f, .int .i64 n] w fun e w' => e = .returned (.bool true) ∧ Below w.heap.size w w' := by
  obtain ⟨x, y, tb, hA, hB⟩ := nat_both n hn
  have hF := tfind_nil f.nm f.vl
  have hG : ∀ W : World, Calls Try.prog 17 #[.agg #[.slice none 0 0, .int .i64 0], tx f.nm, tx f.vl] W fun e w' => e = .returned (.tuple #[.int .i64 (numT f.nm f.vl [] : Int), .bool (hasT f.nm f.vl [])]) ∧ Below W.heap.size W w' :=
    fun W => rtfind_any (w := W) (A := none) (c := 0) (M := 0) (R := []) f.nm f.vl RdS.nil (by simp)
  have hadd := nadd_any f
  have hsz := fun (h : sz f ≤ 2147483648) (W : World) => size_any f h W
  have hrz := fun (h : sz f ≤ 2147483648) (W : World) => rsize_any f h W
  have HFew : Hid (Few [f] → sz f ≤ 18032) := by
    show _ → _
    intro h
    exact h.2 f (by simp)
  generalize numT f.nm f.vl [] = m at hF hG
  generalize hasT f.nm f.vl [] = th at hF hG
  have hgr : ∀ W : World, RdS W (· < W.heap.size) (some ⟨w.heap.size + 1, 0, none⟩) (fdc f) → Calls Try.prog 22 #[.slice (some ⟨w.heap.size + 1, 0, none⟩) 1 1] W (Bounds W [f]) :=
    fun W h => great_any (w := W) (c := 1) (L := [f]) (by rw [enl_one]; exact h) (by simp)
  unfold fv at *
  unfold fdc at hgr
  unfold tx at *
  generalize f.nm = p at *
  generalize f.vl = q at *
  generalize f.nv = z at *
  generalize sz f = S at *
  go_enter Try.func5, Try.ntmps5
  go_wp2_with fail
  have hR0 : Row ((w.alloc (.cells #[.string ⟨p.toArray⟩, .string ⟨q.toArray⟩, .bool z] 32)).alloc (.cells #[.string ⟨p.toArray⟩, .string ⟨q.toArray⟩, .bool z] 32)) w.heap.size 32 #[.string ⟨p.toArray⟩, .string ⟨q.toArray⟩, .bool z] := (Row.new w _ _).alloc _
  have hR1 : Row ((w.alloc (.cells #[.string ⟨p.toArray⟩, .string ⟨q.toArray⟩, .bool z] 32)).alloc (.cells #[.string ⟨p.toArray⟩, .string ⟨q.toArray⟩, .bool z] 32)) (w.heap.size + 1) 32 #[.string ⟨p.toArray⟩, .string ⟨q.toArray⟩, .bool z] := Row.made _ _ _ (by simp)
  have hW0 := ((Below.refl w.heap.size w).alloc (Nat.le_refl _) (.cells #[.string ⟨p.toArray⟩, .string ⟨q.toArray⟩, .bool z] 32)).alloc (by simp) (.cells #[.string ⟨p.toArray⟩, .string ⟨q.toArray⟩, .bool z] 32)
  generalize (w.alloc (.cells #[.string ⟨p.toArray⟩, .string ⟨q.toArray⟩, .bool z] 32)).alloc (.cells #[.string ⟨p.toArray⟩, .string ⟨q.toArray⟩, .bool z] 32) = w0 at *
  refine (hgr w0 (fun _ => ⟨w.heap.size + 1, 0, rfl, hR1.lt, fun j u hj => hR1.cell (by simpa using hj)⟩)).mono ?_
  rintro e w1 ⟨t, rfl, ht, nd, rfl⟩
  clear hR1 hgr
  have HR0 : Hid (Row (w0.drewN nd) w.heap.size 32 #[.string ⟨p.toArray⟩, .string ⟨q.toArray⟩, .bool z]) := hR0
  have HW0 : Hid (Below w.heap.size w (w0.drewN nd)) := below_dN hW0 nd
  generalize w0.drewN nd = w1 at *
  have hS := fun h => HFew.out (ht h)
  clear hR0 hW0 ht HFew
  cases t with
  | true =>
    clear hS
    go_wp2_with fail
    refine (fixed_any _).mono ?_
    rintro e w2 ⟨rfl, hb2⟩
    have HW2 := Lib.hid (HW0.out.trans (hb2.mono HW0.out.size))
    clear hb2
    go_wp2_with fail
    go_ret
    exact ⟨rfl, HW2.out⟩
  | false =>
    have hS1 : S ≤ 18032 := hS rfl
    have hsz1 := hsz (by omega)
    have hrz1 := hrz (by omega)
    clear hS hsz hrz
    have c0 := HR0.out.cell (j := 0) rfl
    have c1 := HR0.out.cell (j := 1) rfl
    have c2 := HR0.out.cell (j := 2) rfl
    go_wp2_with fail
    refine (hadd _).mono ?_
    rintro e w2 ⟨rfl, hb2⟩
    have HR2 := Lib.hid (HR0.out.below hb2 HR0.out.lt)
    have HW2 := Lib.hid (HW0.out.trans (hb2.mono HW0.out.size))
    clear hb2 HR0 HW0 c0 c1 c2 hadd
    go_wp2_with fail
    refine (nlimit_any _ _).mono ?_
    rintro e w3 ⟨rfl, hw3⟩
    subst hw3
    go_wp2_with fail
    refine (hA _).mono ?_
    rintro e w4 ⟨rfl, hb4⟩
    have HR4 := Lib.hid ((HR2.out.below hb4 HR2.out.lt).alloc (.cells #[.string ⟨x.toArray⟩, .string ⟨y.toArray⟩, .bool false] 32))
    have HG4 := Lib.hid (Row.new w4 32 #[.string ⟨x.toArray⟩, .string ⟨y.toArray⟩, .bool false])
    have hW4 := HW2.out.trans (hb4.mono HW2.out.size)
    have HW4 := Lib.hid (hW4.alloc hW4.size (.cells #[.string ⟨x.toArray⟩, .string ⟨y.toArray⟩, .bool false] 32))
    clear hb4 HR2 HW2 hA hW4
    go_wp2_with fail
    refine (hB _).mono ?_
    rintro e w5 ⟨rfl, hb5⟩
    have HR5 := Lib.hid ((HR4.out.below hb5 HR4.out.lt).alloc (.cells #[.string ⟨x.toArray⟩, .string ⟨y.toArray⟩, .bool false] 32))
    have HG5 := Lib.hid ((HG4.out.below hb5 HG4.out.lt).alloc (.cells #[.string ⟨x.toArray⟩, .string ⟨y.toArray⟩, .bool false] 32))
    have HH5 := Lib.hid (Row.new w5 32 #[.string ⟨x.toArray⟩, .string ⟨y.toArray⟩, .bool false])
    have hW5 := HW4.out.trans (hb5.mono HW4.out.size)
    have HW5 := Lib.hid (hW5.alloc hW5.size (.cells #[.string ⟨x.toArray⟩, .string ⟨y.toArray⟩, .bool false] 32))
    have c0 := HR5.out.cell (j := 0) rfl
    have c1 := HR5.out.cell (j := 1) rfl
    clear hb5 HR4 HG4 HW4 hB hW5
    go_wp2_with fail
    refine (hF _).mono ?_
    rintro e w7 ⟨rfl, hb7⟩
    have HR7 := Lib.hid (HR5.out.below hb7 HR5.out.lt)
    have HG7 := Lib.hid (HG5.out.below hb7 HG5.out.lt)
    have HH7 := Lib.hid (HH5.out.below hb7 HH5.out.lt)
    have HW7 := Lib.hid (HW5.out.trans (hb7.mono HW5.out.size))
    have d0 := HR7.out.cell (j := 0) rfl
    have d1 := HR7.out.cell (j := 1) rfl
    clear hb7 HR5 HG5 HH5 HW5 hF c0 c1
    go_wp2_with fail
    refine (hG _).mono ?_
    rintro e w8 ⟨rfl, hb8⟩
    have HR8 := Lib.hid (HR7.out.below hb8 HR7.out.lt)
    have HG8 := Lib.hid (HG7.out.below hb8 HG7.out.lt)
    have HH8 := Lib.hid (HH7.out.below hb8 HH7.out.lt)
    have HW8 := Lib.hid (HW7.out.trans (hb8.mono HW7.out.size))
    clear hb8 HR7 HG7 HH7 HW7 hG d0 d1
    go_wp2_with fail
    have ex : (x == x) = true := by simp
    have ey : (y == y) = true := by simp
    have et : (tb == tb) = true := by simp
    have em : ((m : Int) == (m : Int)) = true := by simp
    have eh : (th == th) = true := by simp
    have es : ((S : Int) == (S : Int)) = true := by simp
    have hdr : Below w8.heap.size w8 w8.drew := (Below.refl _ _).drew
    have HRd := Lib.hid (HR8.out.below hdr HR8.out.lt)
    have HGd := Lib.hid (HG8.out.below hdr HG8.out.lt)
    have HHd := Lib.hid (HH8.out.below hdr HH8.out.lt)
    have HWd := Lib.hid HW8.out.drew
    clear hdr HR8 HG8 HH8 HW8
    refine wp_region_E 43 (fun w' => w'.cell? ⟨w.heap.size, 0, none⟩ = some (.string ⟨p.toArray⟩) ∧ w'.cell? ⟨w.heap.size, 1, none⟩ = some (.string ⟨q.toArray⟩) ∧ w'.cell? ⟨w.heap.size, 2, none⟩ = some (.bool z) ∧ w'.cell? ⟨w4.heap.size, 0, none⟩ = some (.string ⟨x.toArray⟩) ∧ w'.cell? ⟨w4.heap.size, 1, none⟩ = some (.string ⟨y.toArray⟩) ∧ w'.cell? ⟨w4.heap.size, 2, none⟩ = some (.bool false) ∧ w'.cell? ⟨w5.heap.size, 0, none⟩ = some (.string ⟨x.toArray⟩) ∧ w'.cell? ⟨w5.heap.size, 1, none⟩ = some (.string ⟨y.toArray⟩) ∧ w'.cell? ⟨w5.heap.size, 2, none⟩ = some (.bool false)) (by kernel_rfl) ⟨HRd.out.cell (j := 0) rfl, HRd.out.cell (j := 1) rfl, HRd.out.cell (j := 2) rfl, HGd.out.cell (j := 0) rfl, HGd.out.cell (j := 1) rfl, HGd.out.cell (j := 2) rfl, HHd.out.cell (j := 0) rfl, HHd.out.cell (j := 1) rfl, HHd.out.cell (j := 2) rfl⟩ (fun hHeld => ?_)
    refine wpAnyE_next (i := 0) (by kernel_rfl) rfl (fun K hK => ?_)
    go_simp
    go_at_call 8
    refine (fixed_any _).mono ?_
    rintro e w9 ⟨rfl, hb9⟩
    have HR9 := Lib.hid (HRd.out.below hb9 HRd.out.lt)
    have HG9 := Lib.hid (HGd.out.below hb9 HGd.out.lt)
    have HH9 := Lib.hid (HHd.out.below hb9 HHd.out.lt)
    have HW9 := Lib.hid (HWd.out.trans (hb9.mono HWd.out.size))
    clear hb9 HRd HGd HHd HWd
    go_simp
    refine hK.out _ _ ⟨HR9.out.cell (j := 0) rfl, HR9.out.cell (j := 1) rfl, HR9.out.cell (j := 2) rfl, HG9.out.cell (j := 0) rfl, HG9.out.cell (j := 1) rfl, HG9.out.cell (j := 2) rfl, HH9.out.cell (j := 0) rfl, HH9.out.cell (j := 1) rfl, HH9.out.cell (j := 2) rfl⟩ (fun hHeld => ?_)
    clear hK K
    try simp only [Act.put, List.getElem_toArray, List.getElem_cons_zero, List.getElem_cons_succ, List.setIfInBounds_toArray, List.set_cons_zero, List.set_cons_succ]
    refine wpAnyE_take (i := 1) (v := ?v1) rfl (by kernel_rfl) (by kernel_rfl) (by kernel_rfl) (by kernel_rfl) (fun _ _ _ h => h) (Or.inl ⟨by rfl, ?hy1⟩) (by assumption) ?rest1
    case hy1 => (intro w hSw; (try dsimp only at hSw); go_simp <;> with_reducible rfl)
    try simp only [Act.put, List.getElem_toArray, List.getElem_cons_zero, List.getElem_cons_succ, List.setIfInBounds_toArray, List.set_cons_zero, List.set_cons_succ]
    refine wpAnyE_take (i := 2) (v := ?v2) rfl (by kernel_rfl) (by kernel_rfl) (by kernel_rfl) (by kernel_rfl) (fun _ _ _ h => h) (Or.inl ⟨by rfl, ?hy2⟩) (by assumption) ?rest2
    case hy2 => (intro w hSw; (try dsimp only at hSw); go_simp <;> with_reducible rfl)
    try simp only [Act.put, List.getElem_toArray, List.getElem_cons_zero, List.getElem_cons_succ, List.setIfInBounds_toArray, List.set_cons_zero, List.set_cons_succ]
    refine wpAnyE_next (i := 3) (by kernel_rfl) rfl (fun K hK => ?_)
    go_simp
    go_at_call 18
    refine (nsize_any _).mono ?_
    rintro e w' ⟨rfl, hw'⟩
    subst hw'
    go_simp
    refine hK.out _ _ (by assumption) (fun hHeld => ?_)
    clear hK K
    try simp only [Act.put, List.getElem_toArray, List.getElem_cons_zero, List.getElem_cons_succ, List.setIfInBounds_toArray, List.set_cons_zero, List.set_cons_succ]
    refine wpAnyE_take (i := 4) (v := ?v4q1) rfl (by kernel_rfl) (by kernel_rfl) (by kernel_rfl) (by kernel_rfl) (fun _ _ _ h => h) (Or.inl ⟨by rfl, ?hy4q1⟩) (by assumption) ?rest4q1
    case hy4q1 => (intro w hSw; (try dsimp only at hSw); go_simp <;> with_reducible rfl)
    try simp only [Act.put, List.getElem_toArray, List.getElem_cons_zero, List.getElem_cons_succ, List.setIfInBounds_toArray, List.set_cons_zero, List.set_cons_succ]
    refine wpAnyE_take (i := 5) (v := ?v5q1) rfl (by kernel_rfl) (by kernel_rfl) (by kernel_rfl) (by kernel_rfl) (fun _ _ _ h => h) (Or.inl ⟨by rfl, ?hy5q1⟩) (by assumption) ?rest5q1
    case hy5q1 => (intro w hSw; (try dsimp only at hSw); go_simp <;> with_reducible rfl)
    try simp only [Act.put, List.getElem_toArray, List.getElem_cons_zero, List.getElem_cons_succ, List.setIfInBounds_toArray, List.set_cons_zero, List.set_cons_succ]
    refine wpAnyE_take (i := 6) (v := ?v6q1) rfl (by kernel_rfl) (by kernel_rfl) (by kernel_rfl) (by kernel_rfl) (fun _ _ _ h => h) (Or.inl ⟨by rfl, ?hy6q1⟩) (by assumption) ?rest6q1
    case hy6q1 => (intro w hSw; (try dsimp only at hSw); go_simp <;> with_reducible rfl)
    try simp only [Act.put, List.getElem_toArray, List.getElem_cons_zero, List.getElem_cons_succ, List.setIfInBounds_toArray, List.set_cons_zero, List.set_cons_succ]
    refine wpAnyE_take (i := 7) (v := ?v7q1) rfl (by kernel_rfl) (by kernel_rfl) (by kernel_rfl) (by kernel_rfl) (fun _ _ _ h => h) (Or.inl ⟨by rfl, ?hy7q1⟩) (by assumption) ?rest7q1
    case hy7q1 => (intro w hSw; (try dsimp only at hSw); go_simp <;> with_reducible rfl)
    try simp only [Act.put, List.getElem_toArray, List.getElem_cons_zero, List.getElem_cons_succ, List.setIfInBounds_toArray, List.set_cons_zero, List.set_cons_succ]
    refine wpAnyE_next (i := 8) (by kernel_rfl) rfl (fun K hK => ?_)
    go_simp
    go_at_call 21
    refine (nmost_any _).mono ?_
    rintro e w' ⟨rfl, hw'⟩
    subst hw'
    go_simp
    refine hK.out _ _ (by assumption) (fun hHeld => ?_)
    clear hK K
    try simp only [Act.put, List.getElem_toArray, List.getElem_cons_zero, List.getElem_cons_succ, List.setIfInBounds_toArray, List.set_cons_zero, List.set_cons_succ]
    refine wpAnyE_take (i := 9) (v := ?v9q2) rfl (by kernel_rfl) (by kernel_rfl) (by kernel_rfl) (by kernel_rfl) (fun _ _ _ h => h) (Or.inl ⟨by rfl, ?hy9q2⟩) (by assumption) ?rest9q2
    case hy9q2 => (intro w hSw; (try dsimp only at hSw); go_simp <;> with_reducible rfl)
    try simp only [Act.put, List.getElem_toArray, List.getElem_cons_zero, List.getElem_cons_succ, List.setIfInBounds_toArray, List.set_cons_zero, List.set_cons_succ]
    refine wpAnyE_take (i := 10) (v := ?v10q2) rfl (by kernel_rfl) (by kernel_rfl) (by kernel_rfl) (by kernel_rfl) (fun _ _ _ h => h) (Or.inl ⟨by rfl, ?hy10q2⟩) (by assumption) ?rest10q2
    case hy10q2 => (intro w hSw; (try dsimp only at hSw); go_simp <;> with_reducible rfl)
    try simp only [Act.put, List.getElem_toArray, List.getElem_cons_zero, List.getElem_cons_succ, List.setIfInBounds_toArray, List.set_cons_zero, List.set_cons_succ]
    refine wpAnyE_take (i := 11) (v := ?v11q2) rfl (by kernel_rfl) (by kernel_rfl) (by kernel_rfl) (by kernel_rfl) (fun _ _ _ h => h) (Or.inl ⟨by rfl, ?hy11q2⟩) (by assumption) ?rest11q2
    case hy11q2 => (intro w hSw; (try dsimp only at hSw); go_simp <;> with_reducible rfl)
    try simp only [Act.put, List.getElem_toArray, List.getElem_cons_zero, List.getElem_cons_succ, List.setIfInBounds_toArray, List.set_cons_zero, List.set_cons_succ]
    refine wpAnyE_take (i := 12) (v := ?v12q2) rfl (by kernel_rfl) (by kernel_rfl) (by kernel_rfl) (by kernel_rfl) (fun _ _ _ h => h) (Or.inl ⟨by rfl, ?hy12q2⟩) (by assumption) ?rest12q2
    case hy12q2 => (intro w hSw; (try dsimp only at hSw); go_simp <;> with_reducible rfl)
    try simp only [Act.put, List.getElem_toArray, List.getElem_cons_zero, List.getElem_cons_succ, List.setIfInBounds_toArray, List.set_cons_zero, List.set_cons_succ]
    refine wpAnyE_next (i := 13) (by kernel_rfl) rfl (fun K hK => ?_)
    go_simp
    go_at_call 20
    refine (nlen_any _).mono ?_
    rintro e w' ⟨rfl, hw'⟩
    subst hw'
    go_simp
    refine hK.out _ _ (by assumption) (fun hHeld => ?_)
    clear hK K
    try simp only [Act.put, List.getElem_toArray, List.getElem_cons_zero, List.getElem_cons_succ, List.setIfInBounds_toArray, List.set_cons_zero, List.set_cons_succ]
    refine wpAnyE_take (i := 14) (v := ?v14q3) rfl (by kernel_rfl) (by kernel_rfl) (by kernel_rfl) (by kernel_rfl) (fun _ _ _ h => h) (Or.inl ⟨by rfl, ?hy14q3⟩) (by assumption) ?rest14q3
    case hy14q3 => (intro w hSw; (try dsimp only at hSw); go_simp <;> with_reducible rfl)
    try simp only [Act.put, List.getElem_toArray, List.getElem_cons_zero, List.getElem_cons_succ, List.setIfInBounds_toArray, List.set_cons_zero, List.set_cons_succ]
    refine wpAnyE_take (i := 15) (v := ?v15q3) rfl (by kernel_rfl) (by kernel_rfl) (by kernel_rfl) (by kernel_rfl) (fun _ _ _ h => h) (Or.inl ⟨by rfl, ?hy15q3⟩) (by assumption) ?rest15q3
    case hy15q3 => (intro w hSw; (try dsimp only at hSw); go_simp <;> with_reducible rfl)
    try simp only [Act.put, List.getElem_toArray, List.getElem_cons_zero, List.getElem_cons_succ, List.setIfInBounds_toArray, List.set_cons_zero, List.set_cons_succ]
    refine wpAnyE_take (i := 16) (v := ?v16q3) rfl (by kernel_rfl) (by kernel_rfl) (by kernel_rfl) (by kernel_rfl) (fun _ _ _ h => h) (Or.inl ⟨by rfl, ?hy16q3⟩) (by assumption) ?rest16q3
    case hy16q3 => (intro w hSw; (try dsimp only at hSw); go_simp <;> with_reducible rfl)
    try simp only [Act.put, List.getElem_toArray, List.getElem_cons_zero, List.getElem_cons_succ, List.setIfInBounds_toArray, List.set_cons_zero, List.set_cons_succ]
    refine wpAnyE_take (i := 17) (v := ?v17q3) rfl (by kernel_rfl) (by kernel_rfl) (by kernel_rfl) (by kernel_rfl) (fun _ _ _ h => h) (Or.inl ⟨by rfl, ?hy17q3⟩) (by assumption) ?rest17q3
    case hy17q3 => (intro w hSw; (try dsimp only at hSw); go_simp <;> with_reducible rfl)
    try simp only [Act.put, List.getElem_toArray, List.getElem_cons_zero, List.getElem_cons_succ, List.setIfInBounds_toArray, List.set_cons_zero, List.set_cons_succ]
    refine wpAnyE_take (i := 18) (v := ?v18q3) rfl (by kernel_rfl) (by kernel_rfl) (by kernel_rfl) (by kernel_rfl) (fun _ _ _ h => h) (Or.inl ⟨by rfl, ?hy18q3⟩) (by assumption) ?rest18q3
    case hy18q3 => (intro w hSw; (try dsimp only at hSw); go_simp <;> with_reducible rfl)
    try simp only [Act.put, List.getElem_toArray, List.getElem_cons_zero, List.getElem_cons_succ, List.setIfInBounds_toArray, List.set_cons_zero, List.set_cons_succ]
    refine wpAnyE_take (i := 19) (v := ?v19q3) rfl (by kernel_rfl) (by kernel_rfl) (by kernel_rfl) (by kernel_rfl) (fun _ _ _ h => h) (Or.inl ⟨by rfl, ?hy19q3⟩) (by assumption) ?rest19q3
    case hy19q3 => (intro w hSw; (try dsimp only at hSw); go_simp <;> with_reducible rfl)
    try simp only [Act.put, List.getElem_toArray, List.getElem_cons_zero, List.getElem_cons_succ, List.setIfInBounds_toArray, List.set_cons_zero, List.set_cons_succ]
    refine wpAnyE_take (i := 20) (v := ?v20q3) rfl (by kernel_rfl) (by kernel_rfl) (by kernel_rfl) (by kernel_rfl) (fun _ _ _ h => h) (Or.inl ⟨by rfl, ?hy20q3⟩) (by assumption) ?rest20q3
    case hy20q3 => (intro w hSw; (try dsimp only at hSw); go_simp <;> with_reducible rfl)
    try simp only [Act.put, List.getElem_toArray, List.getElem_cons_zero, List.getElem_cons_succ, List.setIfInBounds_toArray, List.set_cons_zero, List.set_cons_succ]
    refine wpAnyE_take (i := 21) (v := ?v21q3) rfl (by kernel_rfl) (by kernel_rfl) (by kernel_rfl) (by kernel_rfl) (fun _ _ _ h => h) (Or.inl ⟨by rfl, ?hy21q3⟩) (by assumption) ?rest21q3
    case hy21q3 => (intro w hSw; (try dsimp only at hSw); go_simp <;> with_reducible rfl)
    try simp only [Act.put, List.getElem_toArray, List.getElem_cons_zero, List.getElem_cons_succ, List.setIfInBounds_toArray, List.set_cons_zero, List.set_cons_succ]
    refine wpAnyE_take (i := 22) (v := ?v22q3) rfl (by kernel_rfl) (by kernel_rfl) (by kernel_rfl) (by kernel_rfl) (fun _ _ _ h => h) (Or.inl ⟨by rfl, ?hy22q3⟩) (by assumption) ?rest22q3
    case hy22q3 => (intro w hSw; (try dsimp only at hSw); go_simp <;> with_reducible rfl)
    try simp only [Act.put, List.getElem_toArray, List.getElem_cons_zero, List.getElem_cons_succ, List.setIfInBounds_toArray, List.set_cons_zero, List.set_cons_succ]
    refine wpAnyE_take (i := 23) (v := ?v23q3) rfl (by kernel_rfl) (by kernel_rfl) (by kernel_rfl) (by kernel_rfl) (fun _ _ _ h => h) (Or.inl ⟨by rfl, ?hy23q3⟩) (by assumption) ?rest23q3
    case hy23q3 => (intro w hSw; (try dsimp only at hSw); go_simp <;> with_reducible rfl)
    try simp only [Act.put, List.getElem_toArray, List.getElem_cons_zero, List.getElem_cons_succ, List.setIfInBounds_toArray, List.set_cons_zero, List.set_cons_succ]
    refine wpAnyE_take (i := 24) (v := ?v24q3) rfl (by kernel_rfl) (by kernel_rfl) (by kernel_rfl) (by kernel_rfl) (fun _ _ _ h => h) (Or.inl ⟨by rfl, ?hy24q3⟩) (by assumption) ?rest24q3
    case hy24q3 => (intro w hSw; (try dsimp only at hSw); go_simp <;> with_reducible rfl)
    try simp only [Act.put, List.getElem_toArray, List.getElem_cons_zero, List.getElem_cons_succ, List.setIfInBounds_toArray, List.set_cons_zero, List.set_cons_succ]
    refine wpAnyE_take (i := 25) (v := ?v25q3) rfl (by kernel_rfl) (by kernel_rfl) (by kernel_rfl) (by kernel_rfl) (fun _ _ _ h => h) (Or.inl ⟨by rfl, ?hy25q3⟩) (by assumption) ?rest25q3
    case hy25q3 => (intro w hSw; (try dsimp only at hSw); go_simp <;> with_reducible rfl)
    try simp only [Act.put, List.getElem_toArray, List.getElem_cons_zero, List.getElem_cons_succ, List.setIfInBounds_toArray, List.set_cons_zero, List.set_cons_succ]
    refine wpAnyE_take (i := 26) (v := ?v26q3) rfl (by kernel_rfl) (by kernel_rfl) (by kernel_rfl) (by kernel_rfl) (fun _ _ _ h => h) (Or.inl ⟨by rfl, ?hy26q3⟩) (by assumption) ?rest26q3
    case hy26q3 => (intro w hSw; (try dsimp only at hSw); go_simp <;> with_reducible rfl)
    try simp only [Act.put, List.getElem_toArray, List.getElem_cons_zero, List.getElem_cons_succ, List.setIfInBounds_toArray, List.set_cons_zero, List.set_cons_succ]
    refine wpAnyE_take (i := 27) (v := ?v27q3) rfl (by kernel_rfl) (by kernel_rfl) (by kernel_rfl) (by kernel_rfl) (fun _ _ _ h => h) (Or.inl ⟨by rfl, ?hy27q3⟩) (by assumption) ?rest27q3
    case hy27q3 => (intro w hSw; (try dsimp only at hSw); go_simp <;> with_reducible rfl)
    try simp only [Act.put, List.getElem_toArray, List.getElem_cons_zero, List.getElem_cons_succ, List.setIfInBounds_toArray, List.set_cons_zero, List.set_cons_succ]
    refine wpAnyE_take (i := 28) (v := ?v28q3) rfl (by kernel_rfl) (by kernel_rfl) (by kernel_rfl) (by kernel_rfl) (fun _ _ _ h => h) (Or.inl ⟨by rfl, ?hy28q3⟩) (by assumption) ?rest28q3
    case hy28q3 => (intro w hSw; (try dsimp only at hSw); go_simp <;> with_reducible rfl)
    try simp only [Act.put, List.getElem_toArray, List.getElem_cons_zero, List.getElem_cons_succ, List.setIfInBounds_toArray, List.set_cons_zero, List.set_cons_succ]
    refine wpAnyE_take (i := 29) (v := ?v29q3) rfl (by kernel_rfl) (by kernel_rfl) (by kernel_rfl) (by kernel_rfl) (fun _ _ _ h => h) (Or.inl ⟨by rfl, ?hy29q3⟩) (by assumption) ?rest29q3
    case hy29q3 => (intro w hSw; (try dsimp only at hSw); go_simp <;> with_reducible rfl)
    try simp only [Act.put, List.getElem_toArray, List.getElem_cons_zero, List.getElem_cons_succ, List.setIfInBounds_toArray, List.set_cons_zero, List.set_cons_succ]
    refine wpAnyE_take (i := 30) (v := ?v30q3) rfl (by kernel_rfl) (by kernel_rfl) (by kernel_rfl) (by kernel_rfl) (fun _ _ _ h => h) (Or.inl ⟨by rfl, ?hy30q3⟩) (by assumption) ?rest30q3
    case hy30q3 => (intro w hSw; (try dsimp only at hSw); go_simp <;> with_reducible rfl)
    try simp only [Act.put, List.getElem_toArray, List.getElem_cons_zero, List.getElem_cons_succ, List.setIfInBounds_toArray, List.set_cons_zero, List.set_cons_succ]
    refine wpAnyE_take (i := 31) (v := ?v31q3) rfl (by kernel_rfl) (by kernel_rfl) (by kernel_rfl) (by kernel_rfl) (fun _ _ _ h => h) (Or.inl ⟨by rfl, ?hy31q3⟩) (by assumption) ?rest31q3
    case hy31q3 => (intro w hSw; (try dsimp only at hSw); go_simp <;> with_reducible rfl)
    try simp only [Act.put, List.getElem_toArray, List.getElem_cons_zero, List.getElem_cons_succ, List.setIfInBounds_toArray, List.set_cons_zero, List.set_cons_succ]
    refine wpAnyE_take (i := 32) (v := ?v32q3) rfl (by kernel_rfl) (by kernel_rfl) (by kernel_rfl) (by kernel_rfl) (fun _ _ _ h => h) (Or.inl ⟨by rfl, ?hy32q3⟩) (by assumption) ?rest32q3
    case hy32q3 => (intro w hSw; (try dsimp only at hSw); go_simp <;> with_reducible rfl)
    try simp only [Act.put, List.getElem_toArray, List.getElem_cons_zero, List.getElem_cons_succ, List.setIfInBounds_toArray, List.set_cons_zero, List.set_cons_succ]
    refine wpAnyE_take (i := 33) (v := ?v33q3) rfl (by kernel_rfl) (by kernel_rfl) (by kernel_rfl) (by kernel_rfl) (fun _ _ _ h => h) (Or.inl ⟨by rfl, ?hy33q3⟩) (by assumption) ?rest33q3
    case hy33q3 => (intro w hSw; (try dsimp only at hSw); go_simp <;> with_reducible rfl)
    try simp only [Act.put, List.getElem_toArray, List.getElem_cons_zero, List.getElem_cons_succ, List.setIfInBounds_toArray, List.set_cons_zero, List.set_cons_succ]
    refine wpAnyE_take (i := 34) (v := ?v34q3) rfl (by kernel_rfl) (by kernel_rfl) (by kernel_rfl) (by kernel_rfl) (fun _ _ _ h => h) (Or.inl ⟨by rfl, ?hy34q3⟩) (by assumption) ?rest34q3
    case hy34q3 => (intro w hSw; (try dsimp only at hSw); go_simp <;> with_reducible rfl)
    try simp only [Act.put, List.getElem_toArray, List.getElem_cons_zero, List.getElem_cons_succ, List.setIfInBounds_toArray, List.set_cons_zero, List.set_cons_succ]
    refine wpAnyE_take (i := 35) (v := ?v35q3) rfl (by kernel_rfl) (by kernel_rfl) (by kernel_rfl) (by kernel_rfl) (fun _ _ _ h => h) (Or.inl ⟨by rfl, ?hy35q3⟩) (by assumption) ?rest35q3
    case hy35q3 => (intro w hSw; (try dsimp only at hSw); go_simp <;> with_reducible rfl)
    try simp only [Act.put, List.getElem_toArray, List.getElem_cons_zero, List.getElem_cons_succ, List.setIfInBounds_toArray, List.set_cons_zero, List.set_cons_succ]
    refine wpAnyE_take (i := 36) (v := ?v36q3) rfl (by kernel_rfl) (by kernel_rfl) (by kernel_rfl) (by kernel_rfl) (fun _ _ _ h => h) (Or.inl ⟨by rfl, ?hy36q3⟩) (by assumption) ?rest36q3
    case hy36q3 => (intro w hSw; (try dsimp only at hSw); go_simp <;> with_reducible rfl)
    try simp only [Act.put, List.getElem_toArray, List.getElem_cons_zero, List.getElem_cons_succ, List.setIfInBounds_toArray, List.set_cons_zero, List.set_cons_succ]
    refine wpAnyE_take (i := 37) (v := ?v37q3) rfl (by kernel_rfl) (by kernel_rfl) (by kernel_rfl) (by kernel_rfl) (fun _ _ _ h => h) (Or.inl ⟨by rfl, ?hy37q3⟩) (by assumption) ?rest37q3
    case hy37q3 => (intro w hSw; (try dsimp only at hSw); go_simp <;> with_reducible rfl)
    try simp only [Act.put, List.getElem_toArray, List.getElem_cons_zero, List.getElem_cons_succ, List.setIfInBounds_toArray, List.set_cons_zero, List.set_cons_succ]
    refine wpAnyE_take (i := 39) (v := ?v39q3) rfl (by kernel_rfl) (by kernel_rfl) (by kernel_rfl) (by kernel_rfl) (fun _ _ _ h => h) (Or.inl ⟨by rfl, ?hy39q3⟩) (by assumption) ?rest39q3
    case hy39q3 => (intro w hSw; (try dsimp only at hSw); go_simp <;> with_reducible rfl)
    try simp only [Act.put, List.getElem_toArray, List.getElem_cons_zero, List.getElem_cons_succ, List.setIfInBounds_toArray, List.set_cons_zero, List.set_cons_succ]
    refine wpAnyE_next (i := 38) (by kernel_rfl) rfl (fun K hK => ?_)
    go_simp
    go_at_call 23
    refine (hsz1 _).mono ?_
    rintro e wa ⟨rfl, hba⟩
    have HRa := Lib.hid (HR9.out.below hba HR9.out.lt)
    have HGa := Lib.hid (HG9.out.below hba HG9.out.lt)
    have HHa := Lib.hid (HH9.out.below hba HH9.out.lt)
    have HWa := Lib.hid (HW9.out.trans (hba.mono HW9.out.size))
    clear hba HR9 HG9 HH9 HW9
    go_simp
    refine hK.out _ _ ⟨HRa.out.cell (j := 0) rfl, HRa.out.cell (j := 1) rfl, HRa.out.cell (j := 2) rfl, HGa.out.cell (j := 0) rfl, HGa.out.cell (j := 1) rfl, HGa.out.cell (j := 2) rfl, HHa.out.cell (j := 0) rfl, HHa.out.cell (j := 1) rfl, HHa.out.cell (j := 2) rfl⟩ (fun hHeld => ?_)
    clear hK K
    try simp only [Act.put, List.getElem_toArray, List.getElem_cons_zero, List.getElem_cons_succ, List.setIfInBounds_toArray, List.set_cons_zero, List.set_cons_succ]
    refine wpAnyE_next (i := 40) (by kernel_rfl) rfl (fun K hK => ?_)
    go_simp
    go_at_call 24
    refine (hrz1 _).mono ?_
    rintro e wb ⟨rfl, hbb⟩
    have HRb := Lib.hid (HRa.out.below hbb HRa.out.lt)
    have HGb := Lib.hid (HGa.out.below hbb HGa.out.lt)
    have HHb := Lib.hid (HHa.out.below hbb HHa.out.lt)
    have HWb := Lib.hid (HWa.out.trans (hbb.mono HWa.out.size))
    clear hbb HRa HGa HHa HWa
    go_simp
    refine hK.out _ _ ⟨HRb.out.cell (j := 0) rfl, HRb.out.cell (j := 1) rfl, HRb.out.cell (j := 2) rfl, HGb.out.cell (j := 0) rfl, HGb.out.cell (j := 1) rfl, HGb.out.cell (j := 2) rfl, HHb.out.cell (j := 0) rfl, HHb.out.cell (j := 1) rfl, HHb.out.cell (j := 2) rfl⟩ (fun hHeld => ?_)
    clear hK K
    try simp only [Act.put, List.getElem_toArray, List.getElem_cons_zero, List.getElem_cons_succ, List.setIfInBounds_toArray, List.set_cons_zero, List.set_cons_succ]
    refine wpAnyE_take (i := 41) (v := ?v41q4) rfl (by kernel_rfl) (by kernel_rfl) (by kernel_rfl) (by kernel_rfl) (fun _ _ _ h => h) (Or.inl ⟨by rfl, ?hy41q4⟩) (by assumption) ?rest41q4
    case hy41q4 => (intro w hSw; (try dsimp only at hSw); go_simp <;> with_reducible rfl)
    try simp only [Act.put, List.getElem_toArray, List.getElem_cons_zero, List.getElem_cons_succ, List.setIfInBounds_toArray, List.set_cons_zero, List.set_cons_succ]
    refine wpAnyE_take (i := 42) (v := ?v42q4) rfl (by kernel_rfl) (by kernel_rfl) (by kernel_rfl) (by kernel_rfl) (fun _ _ _ h => h) (Or.inl ⟨by rfl, ?hy42q4⟩) (by assumption) ?rest42q4
    case hy42q4 => (intro w hSw; (try dsimp only at hSw); go_simp <;> with_reducible rfl)
    try simp only [Act.put, List.getElem_toArray, List.getElem_cons_zero, List.getElem_cons_succ, List.setIfInBounds_toArray, List.set_cons_zero, List.set_cons_succ]
    refine wpAnyE_last (by kernel_rfl) rfl (by kernel_rfl) (fun K hK => ?_)
    go_simp
    refine hK.out _ _ ?_
    clear hK K
    try simp only [Act.put, List.getElem_toArray, List.getElem_cons_zero, List.getElem_cons_succ, List.setIfInBounds_toArray, List.set_cons_zero, List.set_cons_succ]
    go_wp2_with fail
    go_ret
    exact ⟨rfl, HWb.out⟩
end Go.Proofs.Yteoneedehfijhaa
