/-
  The program's At, by its contract. Conditions: a table of at most 2^31 fields.
-/
import Derived.Test.YtfajffchnnalaaaDtab
import Derived.Deep.RegionHeld3
namespace Go.Proofs.Ytfajffchnnalaaa
open Go.RowKit Go.WideShapes

attribute [local irreducible] tot shr sz first fndN fndB isN isB nmL vlL tab

/-- What is told where there is none. -/
def fv0 : Value := .agg #[tx [], tx [], .bool false]

set_option maxRecDepth 100000 in
set_option maxHeartbeats 2000000 in
theorem tat_known (p : Value) (k : Nat) (hk : k < 61) (w : World) : Calls Try.prog 46 #[p, .int .i64 ((k : Int) + 1)] w fun e w' => e = .returned (.tuple #[.agg #[tx (nmL k), tx (vlL k), .bool false], .bool true]) ∧ Below w.heap.size w w' := by
  have hat := at_yes k hk
  have hln := len_any
  have hle : (k : Int) + 1 ≤ 61 := by omega
  unfold tx at *
  go_enter Try.func46, Try.ntmps46
  go_wp2_with fail
  refine (hln _).mono ?_
  rintro e w1 ⟨rfl, rfl⟩
  go_wp2_with fail
  refine (hat _).mono ?_
  rintro e w2 ⟨rfl, hb2⟩
  have HR := (Row.new w 52 #[.string ⟨#[]⟩, .string ⟨#[]⟩, .bool false]).below hb2 (by simp)
  have HB := Lib.hid (((Below.refl w.heap.size w).alloc (Nat.le_refl _) _).trans (hb2.mono (by simp)))
  clear hb2 hat hln
  go_wp2_with (refine wpList_store_row rfl 52 (.tmp 4) (.tmp 12) rfl w.heap.size #[.string ⟨(nmL k).toArray⟩, .string ⟨(vlL k).toArray⟩, .bool false] rfl rfl 52 _ HR (field_cells _ rfl) rfl (by kernel_rfl) ?_)
  refine bodyPost_ret (ret_field rfl _ _ w.heap.size _ rfl (HR.setRow _) rfl) rfl ⟨rfl, below_setRow HB.out _ _ (Nat.le_refl _)⟩

set_option maxRecDepth 100000 in
set_option maxHeartbeats 2000000 in
theorem tat_low (p : Value) (n : Int) (hn : n < 1) (w : World) : Calls Try.prog 46 #[p, .int .i64 n] w fun e w' => e = .returned (.tuple #[fv0, .bool false]) ∧ Below w.heap.size w w' := by
  have hat := at_no n (.inl hn)
  have hln := len_any
  have hle : n ≤ 61 := by omega
  unfold fv0 tx at *
  go_enter Try.func46, Try.ntmps46
  go_wp2_with fail
  refine (hln _).mono ?_
  rintro e w1 ⟨rfl, rfl⟩
  go_wp2_with fail
  refine (hat _).mono ?_
  rintro e w2 ⟨rfl, hb2⟩
  have HR := (Row.new w 52 #[.string ⟨#[]⟩, .string ⟨#[]⟩, .bool false]).below hb2 (by simp)
  have HB := Lib.hid (((Below.refl w.heap.size w).alloc (Nat.le_refl _) _).trans (hb2.mono (by simp)))
  clear hb2 hat hln
  go_wp2_with (refine wpList_store_row rfl 52 (.tmp 4) (.tmp 12) rfl w.heap.size #[.string ⟨#[]⟩, .string ⟨#[]⟩, .bool false] rfl rfl 52 _ HR (field_cells _ rfl) rfl (by kernel_rfl) ?_)
  refine bodyPost_ret (ret_field rfl _ _ w.heap.size _ rfl (HR.setRow _) rfl) rfl ⟨rfl, below_setRow HB.out _ _ (Nat.le_refl _)⟩

set_option maxRecDepth 100000 in
set_option maxHeartbeats 2000000 in
theorem tat_nil (n : Int) (hn : 61 < n) (hn2 : n ≤ 9223372036854775807) (w : World) : Calls Try.prog 46 #[.pointer none, .int .i64 n] w fun e w' => e = .returned (.tuple #[fv0, .bool false]) ∧ Below w.heap.size w w' := by
  have hln := len_any
  have hle : decide (n ≤ 61) = false := by simp; omega
  have hnl := nlen_any
  have h0 : (0 : Int) < n - 61 := by omega
  unfold fv0 tx at *
  go_enter Try.func46, Try.ntmps46
  go_wp2_with fail
  refine (hln _).mono ?_
  rintro e w1 ⟨rfl, rfl⟩
  go_wp2_with fail
  refine (hln _).mono ?_
  rintro e w1 ⟨rfl, rfl⟩
  go_wp2_with fail
  refine (hnl _).mono ?_
  rintro e w1 ⟨rfl, rfl⟩
  have HR := Row.new w 52 #[.string ⟨#[]⟩, .string ⟨#[]⟩, .bool false]
  have HB := Lib.hid ((Below.refl w.heap.size w).alloc (Nat.le_refl _) (.cells #[.string ⟨#[]⟩, .string ⟨#[]⟩, .bool false] 52))
  generalize w.alloc (.cells #[.string ⟨#[]⟩, .string ⟨#[]⟩, .bool false] 52) = w2 at *
  go_wp2_with (refine wpList_store_row rfl 52 (.tmp 4) (.tmp 21) rfl w.heap.size #[.string ⟨#[]⟩, .string ⟨#[]⟩, .bool false] rfl rfl 52 _ HR (field_cells _ rfl) rfl (by kernel_rfl) ?_)
  refine bodyPost_ret (ret_field rfl _ _ w.heap.size _ rfl (HR.setRow _) rfl) rfl ⟨rfl, below_setRow HB.out _ _ (Nat.le_refl _)⟩

set_option maxRecDepth 100000 in
set_option maxHeartbeats 2000000 in
theorem tat_far {base g most : Nat} {v : Value} {L : List Fd} {w : World} (h : Tb w base g v L most) (n : Int) (hn : 62 + (L.length : Int) ≤ n) (hn2 : n ≤ 9223372036854775807) : Calls Try.prog 46 #[pt g, .int .i64 n] w fun e w' => e = .returned (.tuple #[fv0, .bool false]) ∧ Below w.heap.size w w' := by
  obtain ⟨A, c, rfl, hc1, hc2⟩ := h.shape
  have hT : TabR (w.alloc (.cells #[.string ⟨#[]⟩, .string ⟨#[]⟩, .bool false] 52)) g (.slice A L.length c) (tot L) most := Row.alloc h.own _
  have hln := len_any
  have hle : decide (n ≤ 61) = false := by simp; omega
  have hnl := tlen_any hT
  have h0 : (L.length : Int) < n - 61 := by omega
  have HR := Row.new w 52 #[.string ⟨#[]⟩, .string ⟨#[]⟩, .bool false]
  have HB := Lib.hid ((Below.refl w.heap.size w).alloc (Nat.le_refl _) (.cells #[.string ⟨#[]⟩, .string ⟨#[]⟩, .bool false] 52))
  clear h hT
  unfold fv0 pt tx at *
  go_enter Try.func46, Try.ntmps46
  go_wp2_with fail
  refine (hln _).mono ?_
  rintro e w1 ⟨rfl, rfl⟩
  go_wp2_with fail
  refine (hln _).mono ?_
  rintro e w1 ⟨rfl, rfl⟩
  go_wp2_with fail
  refine hnl.mono ?_
  rintro e w1 ⟨rfl, rfl⟩
  clear hnl
  generalize w.alloc (.cells #[.string ⟨#[]⟩, .string ⟨#[]⟩, .bool false] 52) = w2 at *
  go_wp2_with (refine wpList_store_row rfl 52 (.tmp 4) (.tmp 21) rfl w.heap.size #[.string ⟨#[]⟩, .string ⟨#[]⟩, .bool false] rfl rfl 52 _ HR (field_cells _ rfl) rfl (by kernel_rfl) ?_)
  refine bodyPost_ret (ret_field rfl _ _ w.heap.size _ rfl (HR.setRow _) rfl) rfl ⟨rfl, below_setRow HB.out _ _ (Nat.le_refl _)⟩

set_option maxRecDepth 100000 in
set_option maxHeartbeats 2000000 in
theorem tat_dyn {base g most : Nat} {v : Value} {L : List Fd} {w : World} (h : Tb w base g v L most) (i : Nat) (hi : i < L.length) (hL : L.length ≤ 2147483648) :
    Calls Try.prog 46 #[pt g, .int .i64 (62 + (i : Int))] w fun e w' => e = .returned (.tuple #[fv (L[L.length - 1 - i]'(by omega)), .bool true]) ∧ Below w.heap.size w w' := by
  obtain ⟨A, c, rfl, hc1, hc2⟩ := h.shape
  obtain ⟨j, hj⟩ : ∃ j, j = L.length - 1 - i := ⟨_, rfl⟩
  have hjl : j < L.length := by omega
  have hLj : (L[L.length - 1 - i]'(by omega)) = L[j] := by simp [hj]
  rw [hLj]
  obtain ⟨b, q, hA, hbg, e0, e1, e2⟩ := h.field hjl
  subst hA
  have hgl := h.lt
  have hT : TabR (w.alloc (.cells #[.string ⟨#[]⟩, .string ⟨#[]⟩, .bool false] 52)) g (.slice (some ⟨b, q, none⟩) L.length c) (tot L) most := Row.alloc h.own _
  have f0 := (World.cell?_alloc_lt w (.cells #[.string ⟨#[]⟩, .string ⟨#[]⟩, .bool false] 52) ⟨b, q + j * 3, none⟩ (World.block_lt_of_cell? _ _ e0)).trans e0
  have f1 := (World.cell?_alloc_lt w (.cells #[.string ⟨#[]⟩, .string ⟨#[]⟩, .bool false] 52) ⟨b, q + j * 3 + 1, none⟩ (World.block_lt_of_cell? _ _ e1)).trans e1
  have f2 := (World.cell?_alloc_lt w (.cells #[.string ⟨#[]⟩, .string ⟨#[]⟩, .bool false] 52) ⟨b, q + j * 3 + 2, none⟩ (World.block_lt_of_cell? _ _ e2)).trans e2
  have hbl : b ≠ w.heap.size := by have := World.block_lt_of_cell? _ _ e0; simp at this; omega
  have hln := len_any
  have hle : decide ((62 : Int) + i ≤ 61) = false := by simp; omega
  have hgn : decide ((L.length : Int) < (i : Int) + 1) = false := by simp; omega
  have hage : (62 : Int) + i - 61 = (i : Int) + 1 := by omega
  have hnl := tlen_any hT
  have c0 := hT.c0
  have hgs : w.heap.size ≠ g := by omega
  have HR := Row.new w 52 #[.string ⟨#[]⟩, .string ⟨#[]⟩, .bool false]
  have HB := Lib.hid ((Below.refl w.heap.size w).alloc (Nat.le_refl _) (.cells #[.string ⟨#[]⟩, .string ⟨#[]⟩, .bool false] 52))
  have hsub : (L.length : Int) - ((i : Int) + 1) = (j : Int) := by omega
  have hwr : IntKind.i64.wrap (j : Int) = (j : Int) := IntWalk.i64_in _ (by omega)
  have hj0 : (0 : Int) ≤ (j : Int) := by omega
  have hj1 : (j : Int) < (L.length : Int) := by omega
  have HT := Lib.hid hT
  clear h hT hj e0 e1 e2 hLj hgl
  unfold fv pt tx at *
  generalize L[j].nm = x at f0 ⊢
  generalize L[j].vl = y at f1 ⊢
  generalize L[j].nv = z at f2 ⊢
  go_enter Try.func46, Try.ntmps46
  go_wp2_with fail
  refine (hln _).mono ?_
  rintro e w1 ⟨rfl, rfl⟩
  go_wp2_with fail
  refine (hln _).mono ?_
  rintro e w1 ⟨rfl, rfl⟩
  go_wp2_with fail
  refine hnl.mono ?_
  rintro e w1 ⟨rfl, rfl⟩
  clear hnl
  generalize w.alloc (.cells #[.string ⟨#[]⟩, .string ⟨#[]⟩, .bool false] 52) = w2 at *
  go_wp2_with fail
  have hnd := tlen_any (w := w2.drew) (g := g) HT.out
  unfold pt at hnd
  have HRd : Hid (Row w2.drew w.heap.size 52 #[.string ⟨#[]⟩, .string ⟨#[]⟩, .bool false]) := HR
  have r0 := HR.cell (j := 0) rfl
  have r1 := HR.cell (j := 1) rfl
  have r2 := HR.cell (j := 2) rfl
  have z0 := HR.thawed 0
  have z1 := HR.thawed 1
  have z2 := HR.thawed 2
  have hbl2 : w.heap.size ≠ b := fun e => hbl e.symm
  go_region_held3 (fun w' => w'.cell? ⟨g, 0, none⟩ = some (.slice (some ⟨b, q, none⟩) L.length c) ∧ w'.cell? ⟨b, q + j * 3, none⟩ = some (.string ⟨x.toArray⟩) ∧ w'.cell? ⟨b, q + j * 3 + 1, none⟩ = some (.string ⟨y.toArray⟩) ∧ w'.cell? ⟨b, q + j * 3 + 2, none⟩ = some (.bool z)) (go_keep)
    (first | (go_at_call 57; refine hnd.mono ?_; rintro e w' ⟨rfl, rfl⟩))
  rename_i hHeld
  clear hHeld
  have HR9 : Hid (Row (((w2.setCell ⟨w.heap.size, 0, none⟩ (.string ⟨x.toArray⟩)).setCell ⟨w.heap.size, 1, none⟩ (.string ⟨y.toArray⟩)).setCell ⟨w.heap.size, 2, none⟩ (.bool z)).drew w.heap.size 52 #[.string ⟨x.toArray⟩, .string ⟨y.toArray⟩, .bool z]) := ((HR.stored 0 _).stored 1 _).stored 2 _
  have HB9 : Hid (Below w.heap.size w (((w2.setCell ⟨w.heap.size, 0, none⟩ (.string ⟨x.toArray⟩)).setCell ⟨w.heap.size, 1, none⟩ (.string ⟨y.toArray⟩)).setCell ⟨w.heap.size, 2, none⟩ (.bool z)).drew) :=
    (((HB.out.setCell (Nat.le_refl _) _).setCell (Nat.le_refl _) _).setCell (Nat.le_refl _) _).drew
  generalize (((w2.setCell ⟨w.heap.size, 0, none⟩ (.string ⟨x.toArray⟩)).setCell ⟨w.heap.size, 1, none⟩ (.string ⟨y.toArray⟩)).setCell ⟨w.heap.size, 2, none⟩ (.bool z)).drew = w9 at *
  go_wp2_with fail
  refine bodyPost_ret (ret_field rfl _ _ w.heap.size _ rfl HR9.out rfl) rfl ⟨rfl, HB9.out⟩
end Go.Proofs.Ytfajffchnnalaaa
