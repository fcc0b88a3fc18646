/-
  add, Grow, Shift, the window's (by itself, and in a meter), by contract. Conditions: the bounds of a window.
-/
import Derived.Test.YtplohgaecoobaaaWtk
namespace Go.Proofs.Ytplohgaecoobaaa
open Go.RowKit Go.WideShapes

theorem row_new0 (w : World) : Hid (Row (w.alloc (.cells #[.int .u8 0, .int .u32 0] 56)) w.heap.size 56 (ftc 0 0)) := (fault_var w).1
theorem bel_new0 (w : World) : Hid (Below w.heap.size w (w.alloc (.cells #[.int .u8 0, .int .u32 0] 56))) := (fault_var w).2.1
attribute [local irreducible] wnc rwc mtc rmc btw
set_option maxRecDepth 100000 in
set_option maxHeartbeats 1000000 in
theorem add_now {w : World} {g : Nat} {l : Int} {s : Nat} (h : Row w g 93 (wnc l s)) (hl : -2147483648 ≤ l ∧ l ≤ 2147483647) {n : Int} (hn : -4294967296 ≤ n ∧ n ≤ 4294967296) (t : Nat) (hg : 2147483647 < l + n) : Calls Try.prog 54 #[.pointer (some ⟨g, 0, none⟩), .int .i64 n, .int .u8 (t : Int)] w fun e w' => e = .returned (.agg (ftc t 3)) ∧ Below w.heap.size w w' := by
  have HR := row_new0 w
  have HB := bel_new0 w
  have c0 := wnC (h.alloc (.cells #[.int .u8 0, .int .u32 0] 56))
  have hw : IntKind.i64.wrap (l + n) = l + n := IntWalk.i64_in _ (by omega)
  clear h hl hn
  go_enter Try.func54, Try.ntmps54
  go_upto_region 1 with fail
  generalize w.alloc (.cells #[.int .u8 0, .int .u32 0] 56) = w1 at *
  go_wp2_with (refine wpList_sw (cs := ftc t 3) rfl _ _ rfl rfl rfl HR.out (ft_sz _ _ _ _) (ft_ok _ _) ?_)
  exact bodyPost_ret (ret_ag rfl _ rfl (HR.out.setRow _) (ft_ok _ _)) rfl ⟨rfl, below_setRow HB.out _ _ (Nat.le_refl _)⟩
set_option maxRecDepth 100000 in
set_option maxHeartbeats 1000000 in
theorem add_yesw {w : World} {g : Nat} {l : Int} {s : Nat} (h : Row w g 93 (wnc l s)) (hl : -2147483648 ≤ l ∧ l ≤ 2147483647) {n : Int} (hn : -4294967296 ≤ n ∧ n ≤ 4294967296) (t : Nat) (hg : ¬ 2147483647 < l + n) : Calls Try.prog 54 #[.pointer (some ⟨g, 0, none⟩), .int .i64 n, .int .u8 (t : Int)] w fun e w' => e = .returned (.agg (ftc 0 0)) ∧ Row w' g 93 (wnc (max (l + n) (-2147483648)) s) ∧ Fs (fun k => k = g) w w' := by
  have hlt := h.lt
  have HR := row_new0 w
  have HB := bel_new0 w
  have h1 := h.alloc (.cells #[.int .u8 0, .int .u32 0] 56)
  have c0 := wnC h1
  have hth := h1.thawed 0
  have HW := Lib.hid (wnL (l' := max (l + n) (-2147483648)) h1)
  have hw : IntKind.i64.wrap (l + n) = l + n := IntWalk.i64_in _ (by omega)
  have d0 : decide (2147483647 < l + n) = false := by simp; omega
  have HF : Hid (∀ x c, Fs (fun k => k = g) w (((w.alloc (.cells #[.int .u8 0, .int .u32 0] 56)).setCell ⟨g, 0, none⟩ x).setRow w.heap.size c)) := fun x c => (((Fs.refl (fun k => k = g) w).alloc _).setCell (g := g) (fun _ => rfl) _ _).setRow (g := w.heap.size) (fun hk => absurd hk (Nat.lt_irrefl _)) _
  have HN : Hid (w.heap.size ≠ g) := by show _ ≠ _; omega
  clear h hl hn h1 hlt hg
  go_enter Try.func54, Try.ntmps54
  go_upto_region 1 with fail
  generalize w.alloc (.cells #[.int .u8 0, .int .u32 0] 56) = w1 at *
  have HR2 := Lib.hid (HR.out.stored' (a := ⟨g, 0, none⟩) HN.out (.int .i64 (max (l + n) (-2147483648))))
  go_upto_region 5 with fail
  go_wp2_with (refine wpList_sw (cs := ftc 0 0) rfl _ _ rfl rfl rfl HR2.out (ft_sz _ _ _ _) (ft_ok _ _) ?_)
  exact bodyPost_ret (ret_ag rfl _ rfl (HR2.out.setRow _) (ft_ok _ _)) rfl ⟨rfl, HW.out.setRow' (fun e => HN.out e.symm) _, HF.out _ _⟩
set_option maxRecDepth 100000 in
theorem grow_nil (n : Int) (w : World) : Calls Try.prog 42 #[.pointer none, .int .u32 n] w fun e w' => e = .returned (.agg (ftc 1 2)) ∧ Below w.heap.size w w' := by
  have HR := row_new0 w
  have HB := bel_new0 w
  go_enter Try.func42, Try.ntmps42
  go_wp2_with fail
  refine (wint_any _).mono ?_
  rintro e w1 ⟨rfl, hb⟩
  have HR2 := Lib.hid (HR.out.below hb HR.out.lt)
  have HB2 := Lib.hid (HB.out.trans (hb.mono HB.out.size))
  clear hb HR HB
  go_wp2_with (refine wpList_sw (cs := ftc 1 2) rfl _ _ rfl rfl rfl HR2.out (ft_sz _ _ _ _) (ft_ok _ _) ?_)
  exact bodyPost_ret (ret_ag rfl _ rfl (HR2.out.setRow _) (ft_ok _ _)) rfl ⟨rfl, below_setRow HB2.out _ _ (Nat.le_refl _)⟩
set_option maxRecDepth 100000 in
theorem shift_nil (n m : Int) (w : World) : Calls Try.prog 45 #[.pointer none, .int .u32 n, .int .u32 m] w fun e w' => e = .returned (.agg (ftc 1 2)) ∧ Below w.heap.size w w' := by
  have HR := row_new0 w
  have HB := bel_new0 w
  go_enter Try.func45, Try.ntmps45
  go_wp2_with fail
  refine (wint_any _).mono ?_
  rintro e w1 ⟨rfl, hb⟩
  have HR2 := Lib.hid (HR.out.below hb HR.out.lt)
  have HB2 := Lib.hid (HB.out.trans (hb.mono HB.out.size))
  clear hb HR HB
  go_wp2_with (refine wpList_sw (cs := ftc 1 2) rfl _ _ rfl rfl rfl HR2.out (ft_sz _ _ _ _) (ft_ok _ _) ?_)
  exact bodyPost_ret (ret_ag rfl _ rfl (HR2.out.setRow _) (ft_ok _ _)) rfl ⟨rfl, below_setRow HB2.out _ _ (Nat.le_refl _)⟩
set_option maxRecDepth 100000 in
set_option maxHeartbeats 1000000 in
theorem grow_now {w : World} {g : Nat} {l : Int} {s : Nat} (h : Row w g 93 (wnc l s)) (hl : -2147483648 ≤ l ∧ l ≤ 2147483647) {n : Int} (hn : 0 ≤ n ∧ n ≤ 4294967295) (hg : 2147483647 < l + n) : Calls Try.prog 42 #[.pointer (some ⟨g, 0, none⟩), .int .u32 n] w fun e w' => e = .returned (.agg (ftc s 3)) ∧ Below w.heap.size w w' := by
  have HR := row_new0 w
  have HB := bel_new0 w
  have h1 := h.alloc (.cells #[.int .u8 0, .int .u32 0] 56)
  have c1 := wnS h1
  have hw : IntKind.i64.wrap n = n := IntWalk.i64_in _ (by omega)
  have hadd := add_now h1 hl (n := n) (by omega) s hg
  have HA := Lib.hid hadd
  clear h hl hn h1 hg hadd
  go_enter Try.func42, Try.ntmps42
  go_upto_region 1 with fail
  generalize w.alloc (.cells #[.int .u8 0, .int .u32 0] 56) = w1 at *
  go_wp2_with fail
  refine HA.out.mono ?_
  rintro e w2 ⟨rfl, hb⟩
  have HR2 := Lib.hid (HR.out.below hb HR.out.lt)
  have HB2 := Lib.hid (HB.out.trans (hb.mono HB.out.size))
  clear hb HR HB HA
  go_wp2_with (refine wpList_sw (cs := ftc s 3) rfl _ _ rfl rfl rfl HR2.out (ft_sz _ _ _ _) (ft_ok _ _) ?_)
  exact bodyPost_ret (ret_ag rfl _ rfl (HR2.out.setRow _) (ft_ok _ _)) rfl ⟨rfl, below_setRow HB2.out _ _ (Nat.le_refl _)⟩
set_option maxRecDepth 100000 in
set_option maxHeartbeats 1000000 in
theorem grow_yesw {w : World} {g : Nat} {l : Int} {s : Nat} (h : Row w g 93 (wnc l s)) (hl : -2147483648 ≤ l ∧ l ≤ 2147483647) {n : Int} (hn : 0 ≤ n ∧ n ≤ 4294967295) (hg : ¬ 2147483647 < l + n) : Calls Try.prog 42 #[.pointer (some ⟨g, 0, none⟩), .int .u32 n] w fun e w' => e = .returned (.agg (ftc 0 0)) ∧ Row w' g 93 (wnc (max (l + n) (-2147483648)) s) ∧ Fs (fun k => k = g) w w' := by
  have HR := row_new0 w
  have HN : Hid (w.heap.size ≠ g) := by have := h.lt; show _ ≠ _; omega
  have HF : Hid (Fs (fun k => k = g) w (w.alloc (.cells #[.int .u8 0, .int .u32 0] 56))) := (Fs.refl _ w).alloc _
  have h1 := h.alloc (.cells #[.int .u8 0, .int .u32 0] 56)
  have c1 := wnS h1
  have hw : IntKind.i64.wrap n = n := IntWalk.i64_in _ (by omega)
  have hadd := add_yesw h1 hl (n := n) (by omega) s hg
  have HA := Lib.hid hadd
  clear h hl hn h1 hg hadd
  go_enter Try.func42, Try.ntmps42
  go_upto_region 1 with fail
  generalize w.alloc (.cells #[.int .u8 0, .int .u32 0] 56) = w1 at *
  go_wp2_with fail
  refine HA.out.mono ?_
  rintro e w2 ⟨rfl, hr, hf⟩
  have HR2 := Lib.hid (hf.row HN.out HR.out)
  have HW := Lib.hid hr
  have HF2 := Lib.hid (((HF.out.trans hf fun _ _ h => h)).setRow (g := w.heap.size) (fun hk => absurd hk (Nat.lt_irrefl _)) (ftc 0 0))
  clear hr hf HR HA HF
  go_wp2_with (refine wpList_sw (cs := ftc 0 0) rfl _ _ rfl rfl rfl HR2.out (ft_sz _ _ _ _) (ft_ok _ _) ?_)
  exact bodyPost_ret (ret_ag rfl _ rfl (HR2.out.setRow _) (ft_ok _ _)) rfl ⟨rfl, HW.out.setRow' (fun e => HN.out e.symm) _, HF2.out⟩
set_option maxRecDepth 100000 in
set_option maxHeartbeats 1000000 in
theorem shift_no {w : World} {g : Nat} {l : Int} {s : Nat} (h : Row w g 93 (wnc l s)) (hl : -2147483648 ≤ l ∧ l ≤ 2147483647) {n m : Int} (hn : 0 ≤ n ∧ n ≤ 4294967295) (hm : 0 ≤ m ∧ m ≤ 4294967295) (hg : 2147483647 < l + (m - n)) : Calls Try.prog 45 #[.pointer (some ⟨g, 0, none⟩), .int .u32 n, .int .u32 m] w fun e w' => e = .returned (.agg (ftc 1 3)) ∧ Below w.heap.size w w' := by
  have HR := row_new0 w
  have HB := bel_new0 w
  have h1 := h.alloc (.cells #[.int .u8 0, .int .u32 0] 56)
  have hw : IntKind.i64.wrap n = n := IntWalk.i64_in _ (by omega)
  have hw2 : IntKind.i64.wrap m = m := IntWalk.i64_in _ (by omega)
  have hw3 : IntKind.i64.wrap (m - n) = m - n := IntWalk.i64_in _ (by omega)
  have hadd := add_now h1 hl (n := m - n) (by omega) 1 hg
  have HA := Lib.hid hadd
  clear h hl hn h1 hg hadd hm
  go_enter Try.func45, Try.ntmps45
  go_upto_region 1 with fail
  generalize w.alloc (.cells #[.int .u8 0, .int .u32 0] 56) = w1 at *
  go_wp2_with fail
  refine HA.out.mono ?_
  rintro e w2 ⟨rfl, hb⟩
  have HR2 := Lib.hid (HR.out.below hb HR.out.lt)
  have HB2 := Lib.hid (HB.out.trans (hb.mono HB.out.size))
  clear hb HR HB HA
  go_wp2_with (refine wpList_sw (cs := ftc 1 3) rfl _ _ rfl rfl rfl HR2.out (ft_sz _ _ _ _) (ft_ok _ _) ?_)
  exact bodyPost_ret (ret_ag rfl _ rfl (HR2.out.setRow _) (ft_ok _ _)) rfl ⟨rfl, below_setRow HB2.out _ _ (Nat.le_refl _)⟩
set_option maxRecDepth 100000 in
set_option maxHeartbeats 1000000 in
theorem shift_yes {w : World} {g : Nat} {l : Int} {s : Nat} (h : Row w g 93 (wnc l s)) (hl : -2147483648 ≤ l ∧ l ≤ 2147483647) {n m : Int} (hn : 0 ≤ n ∧ n ≤ 4294967295) (hm : 0 ≤ m ∧ m ≤ 4294967295) (hg : ¬ 2147483647 < l + (m - n)) : Calls Try.prog 45 #[.pointer (some ⟨g, 0, none⟩), .int .u32 n, .int .u32 m] w fun e w' => e = .returned (.agg (ftc 0 0)) ∧ Row w' g 93 (wnc (max (l + (m - n)) (-2147483648)) s) ∧ Fs (fun k => k = g) w w' := by
  have HR := row_new0 w
  have HN : Hid (w.heap.size ≠ g) := by have := h.lt; show _ ≠ _; omega
  have HF : Hid (Fs (fun k => k = g) w (w.alloc (.cells #[.int .u8 0, .int .u32 0] 56))) := (Fs.refl _ w).alloc _
  have h1 := h.alloc (.cells #[.int .u8 0, .int .u32 0] 56)
  have hw : IntKind.i64.wrap n = n := IntWalk.i64_in _ (by omega)
  have hw2 : IntKind.i64.wrap m = m := IntWalk.i64_in _ (by omega)
  have hw3 : IntKind.i64.wrap (m - n) = m - n := IntWalk.i64_in _ (by omega)
  have hadd := add_yesw h1 hl (n := m - n) (by omega) 1 hg
  have HA := Lib.hid hadd
  clear h hl hn h1 hg hadd hm
  go_enter Try.func45, Try.ntmps45
  go_upto_region 1 with fail
  generalize w.alloc (.cells #[.int .u8 0, .int .u32 0] 56) = w1 at *
  go_wp2_with fail
  refine HA.out.mono ?_
  rintro e w2 ⟨rfl, hr, hf⟩
  have HR2 := Lib.hid (hf.row HN.out HR.out)
  have HW := Lib.hid hr
  have HF2 := Lib.hid (((HF.out.trans hf fun _ _ h => h)).setRow (g := w.heap.size) (fun hk => absurd hk (Nat.lt_irrefl _)) (ftc 0 0))
  clear hr hf HR HA HF
  go_wp2_with (refine wpList_sw (cs := ftc 0 0) rfl _ _ rfl rfl rfl HR2.out (ft_sz _ _ _ _) (ft_ok _ _) ?_)
  exact bodyPost_ret (ret_ag rfl _ rfl (HR2.out.setRow _) (ft_ok _ _)) rfl ⟨rfl, HW.out.setRow' (fun e => HN.out e.symm) _, HF2.out⟩
end Go.Proofs.Ytplohgaecoobaaa
