/-
  A meter's Of, Left, Owed, Come, by contract; a nil one's functions. Conditions: what a meter is: its window and what is untold are no more than its size.
-/
import Derived.Test.YtnlkgjcfkgbiiaaWgr
import Derived.BigQuiet
namespace Go.Proofs.Ytnlkgjcfkgbiiaa
open Go.RowKit Go.WideShapes

/-- A meter: its window and what is untold are no more than its size. -/
structure MtOk (z l u : Int) : Prop where
  l0 : 0 ≤ l
  u0 : 0 ≤ u
  le : l + u ≤ z
  zz : z ≤ 2147483647
attribute [local irreducible] wnc rwc mtc rmc btw
set_option maxRecDepth 100000 in
theorem mleft_nil (w : World) : Calls Try.prog 24 #[.pointer none] w fun e w' => e = .returned (.int .i64 0) ∧ w' = w := by
  go_enter Try.func24, Try.ntmps24
  go_wp2
  go_ret
  exact ⟨rfl, rfl⟩
set_option maxRecDepth 100000 in
theorem mleft_any {w : World} {g : Nat} {z l u : Int} {s : Nat} (h : Row w g 68 (mtc z l s u)) : Calls Try.prog 24 #[.pointer (some ⟨g, 0, none⟩)] w fun e w' => e = .returned (.int .i64 l) ∧ w' = w := by
  have c0 := mtC h
  clear h
  go_enter Try.func24, Try.ntmps24
  go_wp2
  go_ret
  exact ⟨rfl, rfl⟩
set_option maxRecDepth 100000 in
theorem mowed_nil (w : World) : Calls Try.prog 25 #[.pointer none] w fun e w' => e = .returned (.int .i64 0) ∧ w' = w := by
  go_enter Try.func25, Try.ntmps25
  go_wp2
  go_ret
  exact ⟨rfl, rfl⟩
set_option maxRecDepth 100000 in
theorem mowed_any {w : World} {g : Nat} {z l u : Int} {s : Nat} (h : Row w g 68 (mtc z l s u)) (hk : MtOk z l u) : Calls Try.prog 25 #[.pointer (some ⟨g, 0, none⟩)] w fun e w' => e = .returned (.int .i64 (z - l - u)) ∧ Below w.heap.size w w' := by
  obtain ⟨c0, c1, _, c3⟩ := mt_cells h
  obtain ⟨k1, k2, k3, k4⟩ := hk
  have hw : IntKind.i64.wrap (z - l) = z - l := IntWalk.i64_in _ (by omega)
  have hw2 : IntKind.i64.wrap (z - l - u) = z - l - u := IntWalk.i64_in _ (by omega)
  clear h k1 k2 k3 k4
  go_enter Try.func25, Try.ntmps25
  go_wp2_with fail
  go_quiet (fail)
  go_wp2_with fail
  go_ret
  exact ⟨rfl, below_dN (Below.refl _ _) _⟩
set_option maxRecDepth 100000 in
theorem come_nil (n : Int) (w : World) : Calls Try.prog 21 #[.pointer none, .int .i64 n] w fun e w' => e = .returned (.agg (ftc 1 2)) ∧ Below w.heap.size w w' := by
  have HR := row_new0 w
  have HB := bel_new0 w
  go_enter Try.func21, Try.ntmps21
  go_wp2_with fail
  refine (wint_any _).mono ?_
  rintro e w1 ⟨rfl, hb⟩
  have HR2 := Lib.hid (HR.out.below hb HR.out.lt)
  have HB2 := Lib.hid (HB.out.trans (hb.mono HB.out.size))
  clear hb HR HB
  go_wp2_with (refine wpList_sw (cs := ftc 1 2) rfl _ _ rfl rfl rfl HR2.out (ft_sz _ _ _ _) (ft_ok _ _) ?_)
  exact bodyPost_ret (ret_ag rfl _ rfl (HR2.out.setRow _) (ft_ok _ _)) rfl ⟨rfl, below_setRow HB2.out _ _ (Nat.le_refl _)⟩
set_option maxRecDepth 100000 in
theorem use_nil (n : Int) (w : World) : Calls Try.prog 23 #[.pointer none, .int .i64 n] w fun e w' => e = .returned (.int .u32 0) ∧ w' = w := by
  go_enter Try.func23, Try.ntmps23
  go_wp2
  go_ret
  exact ⟨rfl, rfl⟩
set_option maxRecDepth 100000 in
set_option maxHeartbeats 1000000 in
theorem come_no {w : World} {g : Nat} {z l u : Int} {s : Nat} (h : Row w g 68 (mtc z l s u)) (hk : MtOk z l u) {n : Int} (hn : l < max n 0) : Calls Try.prog 21 #[.pointer (some ⟨g, 0, none⟩), .int .i64 n] w fun e w' => e = .returned (.agg (ftc s 3)) ∧ Below w.heap.size w w' := by
  have HR := row_new0 w
  have HB := bel_new0 w
  have h1 := h.alloc (.cells #[.int .u8 0, .int .u32 0] 33)
  have c1 := mtS h1
  have htk := take_nom h1 (n := max n 0) (by unfold mayT; have := hk.l0; omega)
  have HT := Lib.hid htk
  clear h hn h1 htk hk
  go_enter Try.func21, Try.ntmps21
  go_upto_region 1 with fail
  generalize w.alloc (.cells #[.int .u8 0, .int .u32 0] 33) = w1 at *
  go_wp2_with fail
  refine HT.out.mono ?_
  rintro e w2 ⟨rfl, rfl⟩
  clear HT
  go_wp2_with (refine wpList_sw (cs := ftc s 3) rfl _ _ rfl rfl rfl HR.out (ft_sz _ _ _ _) (ft_ok _ _) ?_)
  exact bodyPost_ret (ret_ag rfl _ rfl (HR.out.setRow _) (ft_ok _ _)) rfl ⟨rfl, below_setRow HB.out _ _ (Nat.le_refl _)⟩
set_option maxRecDepth 100000 in
set_option maxHeartbeats 1000000 in
theorem come_yes {w : World} {g : Nat} {z l u : Int} {s : Nat} (h : Row w g 68 (mtc z l s u)) (hk : MtOk z l u) {n : Int} (hn : ¬ l < max n 0) : Calls Try.prog 21 #[.pointer (some ⟨g, 0, none⟩), .int .i64 n] w fun e w' => e = .returned (.agg (ftc 0 0)) ∧ Row w' g 68 (mtc z (l - max n 0) s u) ∧ Fs (fun k => k = g) w w' := by
  have HR := row_new0 w
  have HN : Hid (w.heap.size ≠ g) := by have := h.lt; show _ ≠ _; omega
  have HF : Hid (Fs (fun k => k = g) w (w.alloc (.cells #[.int .u8 0, .int .u32 0] 33))) := (Fs.refl _ w).alloc _
  have h1 := h.alloc (.cells #[.int .u8 0, .int .u32 0] 33)
  have htk := take_yesm h1 (by have := hk.l0; have := hk.u0; have := hk.le; have := hk.zz; omega) (n := max n 0) (by unfold mayT; have := hk.l0; omega)
  have HT := Lib.hid htk
  clear h hn h1 htk hk
  go_enter Try.func21, Try.ntmps21
  go_upto_region 1 with fail
  generalize w.alloc (.cells #[.int .u8 0, .int .u32 0] 33) = w1 at *
  go_wp2_with fail
  refine HT.out.mono ?_
  rintro e w2 ⟨rfl, hr, hf⟩
  have HR2 := Lib.hid (hf.row HN.out HR.out)
  have HW := Lib.hid hr
  have HF2 := Lib.hid (((HF.out.trans hf fun _ _ h => h)).setRow (g := w.heap.size) (fun hk => absurd hk (Nat.lt_irrefl _)) (ftc 0 0))
  clear hr hf HR HT HF
  go_wp2_with (refine wpList_sw (cs := ftc 0 0) rfl _ _ rfl rfl rfl HR2.out (ft_sz _ _ _ _) (ft_ok _ _) ?_)
  exact bodyPost_ret (ret_ag rfl _ rfl (HR2.out.setRow _) (ft_ok _ _)) rfl ⟨rfl, HW.out.setRow' (fun e => HN.out e.symm) _, HF2.out⟩
end Go.Proofs.Ytnlkgjcfkgbiiaa
