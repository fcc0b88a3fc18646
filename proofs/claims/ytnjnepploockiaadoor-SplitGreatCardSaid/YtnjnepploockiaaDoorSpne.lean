/-
  Next, by its contract. Conditions: errors.errorType holds what the program's text lays.
-/
import Derived.Test.YtnjnepploockiaaDoorSpnx
namespace Go.Proofs.YtnjnepploockiaaDoor
open Go.RowKit Go.WideShapes

def scopeO : Option Rd → Nat
  | some x => x.2.1
  | none => 0
theorem split_info : (Tryd.prog.info? 59).map (·.size) = some 5 := by kernel_rfl
theorem wpList_ssp {ops : Array Oper} {rest : List Oper} {o : Oper} {a : Act} {w : World} {Q : Exit → Act → World → Prop} (hgd : o.guard = none) (p q : Operand) (ho : o.op = .store 59 p q) {g : Nat} (hp : a.eval p = .pointer (some ⟨g, 0, none⟩)) (hq : a.eval q = .agg #[.slice none 0 0, .int .i64 0, .int .i64 0, .bool false, .bool true]) {v : Value} {x y : Value} {z t : Value} (h : Row w g 59 #[v, x, y, z, t])
    (hk : wpList Tryd.prog ops Q rest (a.put o.dst undef) (w.setRow g #[.slice none 0 0, .int .i64 0, .int .i64 0, .bool false, .bool true])) : wpList Tryd.prog ops Q (o :: rest) a w :=
  wpList_store_row hgd 59 p q ho g _ hp hq 59 _ h split_info rfl (by kernel_rfl) hk
theorem ToldP.scope {w : World} {base : Nat} {o : Option Rd} {X : Fm} {s c : Nat} {ok : Bool} (h : ToldP w base o X s c ok) : s = scopeO o := by
  cases o with
  | none => exact h.2.1
  | some x => exact h.1
theorem ToldP.skip {w w' : World} {base k : Nat} {o : Option Rd} {X : Fm} {s c : Nat} {ok : Bool} (h : ToldP w base o X s c ok) {w1 : World} (hw : Below w.heap.size w w1) (hs : k = w.heap.size) (hf : Fs (fun j => j = k ∨ j = k + 1) w1 w') : ToldP w' base o X s c ok :=
  h.keep fun j _ h2 => (hf.block j (Nat.lt_of_lt_of_le h2 hw.size) (by omega)).trans (hw.block j h2)
attribute [local irreducible] Fm.c ftc

set_option maxRecDepth 100000 in
set_option maxHeartbeats 4000000 in
theorem Next_nil (w : World) :
    Calls Tryd.prog 14 #[.pointer none] w fun e w' => e = .returned (.tuple #[.agg (fm0 0 0 0 0).c, .agg (ftc 0 0), .bool false]) ∧ Below w.heap.size w w' := by
  have HX0 : Hid (Row ((w.alloc (.cells #[.int .u8 0, .int .u8 0, .int .u32 0, .slice none 0 0, .int .i64 0, .int .u32 0, .int .u32 0, .int .u8 0, .bool false, .int .u32 0, .slice none 0 0] 36)).alloc (.cells #[.int .u8 0, .int .u32 0] 38)) w.heap.size 36 (fm0 0 0 0 0).c) := by show Row _ _ _ _; rw [z_c]; exact (Row.new w _ _).alloc _
  have HT0 : Hid (Row ((w.alloc (.cells #[.int .u8 0, .int .u8 0, .int .u32 0, .slice none 0 0, .int .i64 0, .int .u32 0, .int .u32 0, .int .u8 0, .bool false, .int .u32 0, .slice none 0 0] 36)).alloc (.cells #[.int .u8 0, .int .u32 0] 38)) (w.heap.size + 1) 38 (ftc 0 0)) := by show Row _ _ _ _; rw [ftc_eq]; exact Row.made _ _ _ (by simp)
  have HB0 : Hid (Below w.heap.size w ((w.alloc (.cells #[.int .u8 0, .int .u8 0, .int .u32 0, .slice none 0 0, .int .i64 0, .int .u32 0, .int .u32 0, .int .u8 0, .bool false, .int .u32 0, .slice none 0 0] 36)).alloc (.cells #[.int .u8 0, .int .u32 0] 38))) := ((Below.refl _ _).alloc (Nat.le_refl _) _).alloc (by simp) _
  have HS0 : Hid (((w.alloc (.cells #[.int .u8 0, .int .u8 0, .int .u32 0, .slice none 0 0, .int .i64 0, .int .u32 0, .int .u32 0, .int .u8 0, .bool false, .int .u32 0, .slice none 0 0] 36)).alloc (.cells #[.int .u8 0, .int .u32 0] 38)).heap.size = w.heap.size + 2) := by show _ = _; simp
  have HT9 := Lib.hid (HT0.out.setRow' (k := w.heap.size) (by omega) (Fm.c (fm0 0 0 0 0)))
  have HZ9 := Lib.hid (((Fs.of_below (S := fun k => k = w.heap.size ∨ k = w.heap.size + 1) HB0.out).setRow (g := w.heap.size) (fun _ => .inl rfl) (Fm.c (fm0 0 0 0 0))).setRow (g := w.heap.size + 1) (fun _ => .inr rfl) (ftc 0 0))
  go_enter Tryd.func14, Tryd.ntmps14
  go_upto_region 1 with fail
  generalize ((w.alloc (.cells #[.int .u8 0, .int .u8 0, .int .u32 0, .slice none 0 0, .int .i64 0, .int .u32 0, .int .u32 0, .int .u8 0, .bool false, .int .u32 0, .slice none 0 0] 36)).alloc (.cells #[.int .u8 0, .int .u32 0] 38)) = w1 at *
  go_wp2_with fail
  refine (bad_nil _).mono ?_
  rintro e w3' ⟨rfl, rfl⟩
  go_wp2_with (first | (refine wpList_sfm (x := (fm0 0 0 0 0)) rfl _ _ rfl rfl (by rw [z_c]; rfl) HX0.out ?_) | (refine wpList_sft (s := 0) (c := 0) rfl _ _ rfl rfl (show _ = Value.agg (ftc 0 0) by rw [ftc_eq]; rfl) HT9.out ?_))
  refine bodyPost_ret (ret_ffb rfl _ _ w.heap.size (w.heap.size + 1) (fm0 0 0 0 0) 0 0 (.bool false) rfl ((HX0.out.setRow _).setRow' (by omega) _) rfl (HT9.out.setRow _) rfl) rfl ?_
  exact ⟨rfl, HZ9.out.below (fun k hk _ => by omega) (Nat.le_refl _)⟩

set_option maxRecDepth 100000 in
set_option maxHeartbeats 4000000 in
theorem Next_bad {w : World} {g b : Nat} {l : List UInt8} {wt : Bool} (h : Spl w g b l wt true) :
    Calls Tryd.prog 14 #[.pointer (some ⟨g, 0, none⟩)] w fun e w' => e = .returned (.tuple #[.agg (fm0 0 0 0 0).c, .agg (ftc 0 0), .bool false]) ∧ Spl w' g b l wt true ∧ Fs (gbS g b) w w' := by
  have HX0 : Hid (Row ((w.alloc (.cells #[.int .u8 0, .int .u8 0, .int .u32 0, .slice none 0 0, .int .i64 0, .int .u32 0, .int .u32 0, .int .u8 0, .bool false, .int .u32 0, .slice none 0 0] 36)).alloc (.cells #[.int .u8 0, .int .u32 0] 38)) w.heap.size 36 (fm0 0 0 0 0).c) := by show Row _ _ _ _; rw [z_c]; exact (Row.new w _ _).alloc _
  have HT0 : Hid (Row ((w.alloc (.cells #[.int .u8 0, .int .u8 0, .int .u32 0, .slice none 0 0, .int .i64 0, .int .u32 0, .int .u32 0, .int .u8 0, .bool false, .int .u32 0, .slice none 0 0] 36)).alloc (.cells #[.int .u8 0, .int .u32 0] 38)) (w.heap.size + 1) 38 (ftc 0 0)) := by show Row _ _ _ _; rw [ftc_eq]; exact Row.made _ _ _ (by simp)
  have HB0 : Hid (Below w.heap.size w ((w.alloc (.cells #[.int .u8 0, .int .u8 0, .int .u32 0, .slice none 0 0, .int .i64 0, .int .u32 0, .int .u32 0, .int .u8 0, .bool false, .int .u32 0, .slice none 0 0] 36)).alloc (.cells #[.int .u8 0, .int .u32 0] 38))) := ((Below.refl _ _).alloc (Nat.le_refl _) _).alloc (by simp) _
  have HS0 : Hid (((w.alloc (.cells #[.int .u8 0, .int .u8 0, .int .u32 0, .slice none 0 0, .int .i64 0, .int .u32 0, .int .u32 0, .int .u8 0, .bool false, .int .u32 0, .slice none 0 0] 36)).alloc (.cells #[.int .u8 0, .int .u32 0] 38)).heap.size = w.heap.size + 2) := by show _ = _; simp
  have H0 : Hid (Spl ((w.alloc (.cells #[.int .u8 0, .int .u8 0, .int .u32 0, .slice none 0 0, .int .i64 0, .int .u32 0, .int .u32 0, .int .u8 0, .bool false, .int .u32 0, .slice none 0 0] 36)).alloc (.cells #[.int .u8 0, .int .u32 0] 38)) g b l wt true) := h.below HB0.out
  have H00 := Lib.hid h
  clear h
  have HT9 := Lib.hid (HT0.out.setRow' (k := w.heap.size) (by omega) (Fm.c (fm0 0 0 0 0)))
  have HZ9 := Lib.hid (((Fs.of_below (S := fun k => k = w.heap.size ∨ k = w.heap.size + 1) HB0.out).setRow (g := w.heap.size) (fun _ => .inl rfl) (Fm.c (fm0 0 0 0 0))).setRow (g := w.heap.size + 1) (fun _ => .inr rfl) (ftc 0 0))
  go_enter Tryd.func14, Tryd.ntmps14
  go_upto_region 1 with fail
  generalize ((w.alloc (.cells #[.int .u8 0, .int .u8 0, .int .u32 0, .slice none 0 0, .int .i64 0, .int .u32 0, .int .u32 0, .int .u8 0, .bool false, .int .u32 0, .slice none 0 0] 36)).alloc (.cells #[.int .u8 0, .int .u32 0] 38)) = w1 at *
  go_wp2_with fail
  refine (bad_any H0.out).mono ?_
  rintro e w3' ⟨rfl, rfl⟩
  go_wp2_with (first | (refine wpList_sfm (x := (fm0 0 0 0 0)) rfl _ _ rfl rfl (by rw [z_c]; rfl) HX0.out ?_) | (refine wpList_sft (s := 0) (c := 0) rfl _ _ rfl rfl (show _ = Value.agg (ftc 0 0) by rw [ftc_eq]; rfl) HT9.out ?_))
  refine bodyPost_ret (ret_ffb rfl _ _ w.heap.size (w.heap.size + 1) (fm0 0 0 0 0) 0 0 (.bool false) rfl ((HX0.out.setRow _).setRow' (by omega) _) rfl (HT9.out.setRow _) rfl) rfl ?_
  exact ⟨rfl, H00.out.fs HZ9.out (by have := H00.out.lts; omega) (by have := H00.out.lts; omega), HZ9.out.below (B := w.heap.size) (fun k hk _ => by omega) (Nat.le_refl _) |> Fs.of_below⟩

set_option maxRecDepth 100000 in
set_option maxHeartbeats 8000000 in
theorem Next_stay {w : World} {g b fi la : Nat} {L : List UInt8} {wt : Bool} (h : SpG w g b fi la L wt) (hG : GlobE w) {o : Option Rd} {r : List UInt8} {w2 : Bool} (ho : nxN (heldL L fi la) wt = (o, r, w2)) (hs : ∀ s : Nat, (s = scopeO o) → s ≠ 1) :
    Calls Tryd.prog 14 #[.pointer (some ⟨g, 0, none⟩)] w fun e w' => ∃ v, e = .returned v ∧ Told w' w.heap.size o v ∧ Spl w' g b r w2 false ∧ Fs (gbS g b) w w' := by
  have HX0 : Hid (Row ((w.alloc (.cells #[.int .u8 0, .int .u8 0, .int .u32 0, .slice none 0 0, .int .i64 0, .int .u32 0, .int .u32 0, .int .u8 0, .bool false, .int .u32 0, .slice none 0 0] 36)).alloc (.cells #[.int .u8 0, .int .u32 0] 38)) w.heap.size 36 (fm0 0 0 0 0).c) := by show Row _ _ _ _; rw [z_c]; exact (Row.new w _ _).alloc _
  have HT0 : Hid (Row ((w.alloc (.cells #[.int .u8 0, .int .u8 0, .int .u32 0, .slice none 0 0, .int .i64 0, .int .u32 0, .int .u32 0, .int .u8 0, .bool false, .int .u32 0, .slice none 0 0] 36)).alloc (.cells #[.int .u8 0, .int .u32 0] 38)) (w.heap.size + 1) 38 (ftc 0 0)) := by show Row _ _ _ _; rw [ftc_eq]; exact Row.made _ _ _ (by simp)
  have HB0 : Hid (Below w.heap.size w ((w.alloc (.cells #[.int .u8 0, .int .u8 0, .int .u32 0, .slice none 0 0, .int .i64 0, .int .u32 0, .int .u32 0, .int .u8 0, .bool false, .int .u32 0, .slice none 0 0] 36)).alloc (.cells #[.int .u8 0, .int .u32 0] 38))) := ((Below.refl _ _).alloc (Nat.le_refl _) _).alloc (by simp) _
  have HS0 : Hid (((w.alloc (.cells #[.int .u8 0, .int .u8 0, .int .u32 0, .slice none 0 0, .int .i64 0, .int .u32 0, .int .u32 0, .int .u8 0, .bool false, .int .u32 0, .slice none 0 0] 36)).alloc (.cells #[.int .u8 0, .int .u32 0] 38)).heap.size = w.heap.size + 2) := by show _ = _; simp
  have H0 : Hid (SpG ((w.alloc (.cells #[.int .u8 0, .int .u8 0, .int .u32 0, .slice none 0 0, .int .i64 0, .int .u32 0, .int .u32 0, .int .u8 0, .bool false, .int .u32 0, .slice none 0 0] 36)).alloc (.cells #[.int .u8 0, .int .u32 0] 38)) g b fi la L wt) := h.below HB0.out
  have HF0 : Hid (Fs (gbS g b) w ((w.alloc (.cells #[.int .u8 0, .int .u8 0, .int .u32 0, .slice none 0 0, .int .i64 0, .int .u32 0, .int .u32 0, .int .u8 0, .bool false, .int .u32 0, .slice none 0 0] 36)).alloc (.cells #[.int .u8 0, .int .u32 0] 38))) := Fs.of_below HB0.out
  have HG0 : Hid (GlobE ((w.alloc (.cells #[.int .u8 0, .int .u8 0, .int .u32 0, .slice none 0 0, .int .i64 0, .int .u32 0, .int .u32 0, .int .u8 0, .bool false, .int .u32 0, .slice none 0 0] 36)).alloc (.cells #[.int .u8 0, .int .u32 0] 38))) := hG.below HB0.out
  have hglt := h.row.lt
  have hblt := h.buf.lt
  have hbd := bad_cell H0.out.c4
  have hn := nx_any H0.out HG0.out
  rw [ho] at hn
  have HO := Lib.hid hs
  clear h hG ho hs
  go_enter Tryd.func14, Tryd.ntmps14
  go_upto_region 1 with fail
  generalize ((w.alloc (.cells #[.int .u8 0, .int .u8 0, .int .u32 0, .slice none 0 0, .int .i64 0, .int .u32 0, .int .u32 0, .int .u8 0, .bool false, .int .u32 0, .slice none 0 0] 36)).alloc (.cells #[.int .u8 0, .int .u32 0] 38)) = w1 at *
  go_wp2_with fail
  refine hbd.mono ?_
  rintro e w3' ⟨rfl, rfl⟩
  go_wp2_with fail
  refine hn.mono ?_
  rintro e w5 ⟨v, rfl, ⟨X, s, c, ok, rfl, hT⟩, ⟨fi', h5, hl5⟩, hF5⟩
  have HX5 := Lib.hid (hF5.row (b := w.heap.size) (fun e => by rcases e with e | e <;> omega) HX0.out)
  have HT5 := Lib.hid (hF5.row (b := w.heap.size + 1) (fun e => by rcases e with e | e <;> omega) HT0.out)
  have H5 := Lib.hid h5
  have HF5 := Lib.hid (HF0.out.trans hF5 (fun k _ e => e))
  have HQ5 := Lib.hid hl5
  have HS1 := Lib.hid (HO.out s (hT.scope))
  have HM5 := Lib.hid (hT.mono (base' := w.heap.size + 2) (by have := HS0.out; omega))
  have hs5 : w.heap.size + 2 ≤ w5.heap.size := by rw [← HS0.out]; exact hF5.size
  clear hn hbd hT h5 hl5 hF5 HF0 HG0 HX0 HT0 HS0 HB0 HO
  have HX6 : Hid (Row ((w5.alloc (.cells #[.int .u8 0, .int .u8 0, .int .u32 0, .slice none 0 0, .int .i64 0, .int .u32 0, .int .u32 0, .int .u8 0, .bool false, .int .u32 0, .slice none 0 0] 36)).alloc (.cells #[.int .u8 0, .int .u32 0] 38)) w5.heap.size 36 (fm0 0 0 0 0).c) := by show Row _ _ _ _; rw [z_c]; exact (Row.new w5 _ _).alloc _
  have HT6 : Hid (Row ((w5.alloc (.cells #[.int .u8 0, .int .u8 0, .int .u32 0, .slice none 0 0, .int .i64 0, .int .u32 0, .int .u32 0, .int .u8 0, .bool false, .int .u32 0, .slice none 0 0] 36)).alloc (.cells #[.int .u8 0, .int .u32 0] 38)) (w5.heap.size + 1) 38 (ftc 0 0)) := by show Row _ _ _ _; rw [ftc_eq]; exact Row.made _ _ _ (by simp)
  have HB6 : Hid (Below w5.heap.size w5 ((w5.alloc (.cells #[.int .u8 0, .int .u8 0, .int .u32 0, .slice none 0 0, .int .i64 0, .int .u32 0, .int .u32 0, .int .u8 0, .bool false, .int .u32 0, .slice none 0 0] 36)).alloc (.cells #[.int .u8 0, .int .u32 0] 38))) := ((Below.refl _ _).alloc (Nat.le_refl _) _).alloc (by simp) _
  have HS6 : Hid (((w5.alloc (.cells #[.int .u8 0, .int .u8 0, .int .u32 0, .slice none 0 0, .int .i64 0, .int .u32 0, .int .u32 0, .int .u8 0, .bool false, .int .u32 0, .slice none 0 0] 36)).alloc (.cells #[.int .u8 0, .int .u32 0] 38)).heap.size = w5.heap.size + 2) := by show _ = _; simp
  have H7 := Lib.hid (H5.out.below HB6.out)
  have HF7 := Lib.hid (HF5.out.then_below HB6.out)
  have HX7 := Lib.hid (HX5.out.below HB6.out HX5.out.lt)
  have HT7 := Lib.hid (HT5.out.below HB6.out HT5.out.lt)
  clear H5 HF5 HX5 HT5
  go_upto_region 4 with (first | (refine wpList_sfm (x := X) rfl _ _ rfl rfl rfl HX6.out ?_) | (refine wpList_sft (s := s) (c := c) rfl _ _ rfl rfl rfl (HT6.out.setRow' (k := w5.heap.size) (by omega) X.c) ?_))
  have HX8 := Lib.hid ((HX6.out.setRow X.c).setRow' (k := w5.heap.size + 1) (by omega) (ftc s c))
  have HT8 := Lib.hid ((HT6.out.setRow' (k := w5.heap.size) (by omega) X.c).setRow (ftc s c))
  have HSS := Lib.hid (((Fs.refl (fun k => k = w5.heap.size ∨ k = w5.heap.size + 1) ((w5.alloc (.cells #[.int .u8 0, .int .u8 0, .int .u32 0, .slice none 0 0, .int .i64 0, .int .u32 0, .int .u32 0, .int .u8 0, .bool false, .int .u32 0, .slice none 0 0] 36)).alloc (.cells #[.int .u8 0, .int .u32 0] 38))).setRow (g := w5.heap.size) (fun _ => .inl rfl) X.c).setRow (g := w5.heap.size + 1) (fun _ => .inr rfl) (ftc s c))
  have HY8 := Lib.hid (HSS.out.row (by omega) HX7.out)
  have HU8 := Lib.hid (HSS.out.row (by omega) HT7.out)
  have H8 := Lib.hid (H7.out.fs HSS.out (by omega) (by omega))
  have HF8 := Lib.hid (HF7.out.trans HSS.out (fun k hk h => by omega))
  have HM8 := Lib.hid (HM5.out.skip HB6.out rfl HSS.out)
  generalize ((((w5.alloc (.cells #[.int .u8 0, .int .u8 0, .int .u32 0, .slice none 0 0, .int .i64 0, .int .u32 0, .int .u32 0, .int .u8 0, .bool false, .int .u32 0, .slice none 0 0] 36)).alloc (.cells #[.int .u8 0, .int .u32 0] 38)).setRow w5.heap.size X.c).setRow (w5.heap.size + 1) (ftc s c)) = w8 at *
  clear HX6 HT6 HX7 HT7 HSS H7 HF7 HS6 HM5 HB6
  have cs : w8.cell? ⟨w5.heap.size + 1, 0, none⟩ = some (.int .u8 (s : Int)) := HT8.out.cell (by rw [ftc_eq]; rfl)
  have hb1 : ((s : Int) == 1) = false := beq_eq_false_iff_ne.2 (by have := HS1.out; omega)
  go_wp2_with fail
  refine wp_region_held_drew (S := fun w' => Row w' w5.heap.size 36 (Fm.c X) ∧ Row w' (w5.heap.size + 1) 38 (ftc s c)) (by kernel_rfl) ⟨HX8.out, HT8.out⟩ (fun hHeld => ?_)
  refine wpAnyH_take (i := 0) (v := _) rfl (by kernel_rfl) (by kernel_rfl) (by kernel_rfl) (fun _ _ _ h => h) (yields_fm (by rfl) _ rfl rfl (fun _ hSw => hSw.1)) (by assumption) ?rest0
  try simp only [Act.put, List.getElem_toArray, List.getElem_cons_zero, List.setIfInBounds_toArray, List.set_cons_zero, List.set_cons_succ]
  refine wpAnyH_take (i := 1) (v := _) rfl (by kernel_rfl) (by kernel_rfl) (by kernel_rfl) (fun _ _ _ h => h) (yields_ft (by rfl) _ rfl rfl (fun _ hSw => hSw.2)) (by assumption) ?rest1q1
  try simp only [Act.put, List.getElem_toArray, List.getElem_cons_zero, List.getElem_cons_succ, List.setIfInBounds_toArray, List.set_cons_zero, List.set_cons_succ]
  refine wpAnyH_take (i := 2) (v := ?v2q2) rfl (by kernel_rfl) (by kernel_rfl) (by kernel_rfl) (fun _ _ _ h => h) (Or.inl ⟨by rfl, ?hy2q2⟩) (by assumption) ?rest2q2
  case hy2q2 => (intro w hSw; (try dsimp only at hSw); go_simp <;> with_reducible rfl)
  try simp only [Act.put, List.getElem_toArray, List.getElem_cons_zero, List.getElem_cons_succ, List.setIfInBounds_toArray, List.set_cons_zero, List.set_cons_succ]
  refine wpAnyH_ready (rs := [3]) (by kernel_rfl) (by simp) ?_
  refine AllReadyH.cons rfl (fun K hK => ?_) AllReadyH.nil
  refine step_sfm (x := X) rfl (.tmp 2) (.tmp 24) rfl rfl rfl HY8.out ?_
  refine hK.out _ _ ⟨hHeld.1.setRow' (by omega) _, hHeld.2.setRow' (by omega) _⟩ (fun hHeld => ?_)
  clear hK K
  try simp only [Act.put, List.getElem_toArray, List.getElem_cons_zero, List.getElem_cons_succ]
  refine wpAnyH_ready (rs := [4]) (by kernel_rfl) (by simp) ?_
  refine AllReadyH.cons rfl (fun K hK => ?_) AllReadyH.nil
  refine step_sft rfl (.tmp 3) (.tmp 25) rfl rfl rfl (Row.setRow' (show Row (World.drew _) _ _ _ from HU8.out) (k := w.heap.size) (by omega) _) ?_
  refine hK.out _ _ ⟨hHeld.1.setRow' (by omega) _, hHeld.2.setRow' (by omega) _⟩ (fun hHeld => ?_)
  clear hK K
  try simp only [Act.put, List.getElem_toArray, List.getElem_cons_zero, List.getElem_cons_succ]
  refine wpAnyH_take (i := 5) (v := ?v5q3) rfl (by kernel_rfl) (by kernel_rfl) (by kernel_rfl) (fun _ _ _ h => h) (Or.inl ⟨by rfl, ?hy5q3⟩) (by assumption) ?rest5q3
  case hy5q3 => (intro w hSw; (try dsimp only at hSw); go_simp <;> with_reducible rfl)
  try simp only [Act.put, List.getElem_toArray, List.getElem_cons_zero, List.getElem_cons_succ, List.setIfInBounds_toArray, List.set_cons_zero, List.set_cons_succ]
  refine wpAnyH_done (by kernel_rfl) ?_ _
  go_wp2_with fail
  refine bodyPost_ret (ret_ffb rfl _ _ w.heap.size (w.heap.size + 1) X s c (.bool ok) rfl (Row.setRow' (Row.setRow (show Row w8.drew _ _ _ from HY8.out) _) (by omega) _) rfl (Row.setRow (Row.setRow' (show Row w8.drew _ _ _ from HU8.out) (by omega) _) _) rfl) rfl ?_
  have HZ : Fs (fun k => k = w.heap.size ∨ k = w.heap.size + 1) w8 ((w8.drew.setRow w.heap.size X.c).setRow (w.heap.size + 1) (ftc s c)) := (((Fs.refl _ w8).drewN 1).setRow (g := w.heap.size) (fun _ => .inl rfl) X.c).setRow (g := w.heap.size + 1) (fun _ => .inr rfl) (ftc s c)
  exact ⟨_, rfl, ⟨X, s, c, ok, rfl, (HM8.out.keep fun k hk hk2 => HZ.block k hk2 (by omega)).mono (by omega)⟩, .inl ⟨rfl, fi', la, L, H8.out.fs HZ (by omega) (by omega), HQ5.out.symm⟩, HF8.out.trans HZ (fun k hk h => by omega)⟩

set_option maxRecDepth 100000 in
set_option maxHeartbeats 8000000 in
theorem Next_turn {w : World} {g b fi la : Nat} {L : List UInt8} {wt : Bool} (h : SpG w g b fi la L wt) (hG : GlobE w) {o : Option Rd} {r : List UInt8} {w2 : Bool} (ho : nxN (heldL L fi la) wt = (o, r, w2)) (hs : ∀ s : Nat, (s = scopeO o) → s = 1) :
    Calls Tryd.prog 14 #[.pointer (some ⟨g, 0, none⟩)] w fun e w' => ∃ v, e = .returned v ∧ Told w' w.heap.size o v ∧ Spl w' g b [] false true ∧ Fs (gbS g b) w w' := by
  have HX0 : Hid (Row ((w.alloc (.cells #[.int .u8 0, .int .u8 0, .int .u32 0, .slice none 0 0, .int .i64 0, .int .u32 0, .int .u32 0, .int .u8 0, .bool false, .int .u32 0, .slice none 0 0] 36)).alloc (.cells #[.int .u8 0, .int .u32 0] 38)) w.heap.size 36 (fm0 0 0 0 0).c) := by show Row _ _ _ _; rw [z_c]; exact (Row.new w _ _).alloc _
  have HT0 : Hid (Row ((w.alloc (.cells #[.int .u8 0, .int .u8 0, .int .u32 0, .slice none 0 0, .int .i64 0, .int .u32 0, .int .u32 0, .int .u8 0, .bool false, .int .u32 0, .slice none 0 0] 36)).alloc (.cells #[.int .u8 0, .int .u32 0] 38)) (w.heap.size + 1) 38 (ftc 0 0)) := by show Row _ _ _ _; rw [ftc_eq]; exact Row.made _ _ _ (by simp)
  have HB0 : Hid (Below w.heap.size w ((w.alloc (.cells #[.int .u8 0, .int .u8 0, .int .u32 0, .slice none 0 0, .int .i64 0, .int .u32 0, .int .u32 0, .int .u8 0, .bool false, .int .u32 0, .slice none 0 0] 36)).alloc (.cells #[.int .u8 0, .int .u32 0] 38))) := ((Below.refl _ _).alloc (Nat.le_refl _) _).alloc (by simp) _
  have HS0 : Hid (((w.alloc (.cells #[.int .u8 0, .int .u8 0, .int .u32 0, .slice none 0 0, .int .i64 0, .int .u32 0, .int .u32 0, .int .u8 0, .bool false, .int .u32 0, .slice none 0 0] 36)).alloc (.cells #[.int .u8 0, .int .u32 0] 38)).heap.size = w.heap.size + 2) := by show _ = _; simp
  have H0 : Hid (SpG ((w.alloc (.cells #[.int .u8 0, .int .u8 0, .int .u32 0, .slice none 0 0, .int .i64 0, .int .u32 0, .int .u32 0, .int .u8 0, .bool false, .int .u32 0, .slice none 0 0] 36)).alloc (.cells #[.int .u8 0, .int .u32 0] 38)) g b fi la L wt) := h.below HB0.out
  have HF0 : Hid (Fs (gbS g b) w ((w.alloc (.cells #[.int .u8 0, .int .u8 0, .int .u32 0, .slice none 0 0, .int .i64 0, .int .u32 0, .int .u32 0, .int .u8 0, .bool false, .int .u32 0, .slice none 0 0] 36)).alloc (.cells #[.int .u8 0, .int .u32 0] 38))) := Fs.of_below HB0.out
  have HG0 : Hid (GlobE ((w.alloc (.cells #[.int .u8 0, .int .u8 0, .int .u32 0, .slice none 0 0, .int .i64 0, .int .u32 0, .int .u32 0, .int .u8 0, .bool false, .int .u32 0, .slice none 0 0] 36)).alloc (.cells #[.int .u8 0, .int .u32 0] 38))) := hG.below HB0.out
  have hglt := h.row.lt
  have hblt := h.buf.lt
  have hbd := bad_cell H0.out.c4
  have hn := nx_any H0.out HG0.out
  rw [ho] at hn
  have HO := Lib.hid hs
  clear h hG ho hs
  go_enter Tryd.func14, Tryd.ntmps14
  go_upto_region 1 with fail
  generalize ((w.alloc (.cells #[.int .u8 0, .int .u8 0, .int .u32 0, .slice none 0 0, .int .i64 0, .int .u32 0, .int .u32 0, .int .u8 0, .bool false, .int .u32 0, .slice none 0 0] 36)).alloc (.cells #[.int .u8 0, .int .u32 0] 38)) = w1 at *
  go_wp2_with fail
  refine hbd.mono ?_
  rintro e w3' ⟨rfl, rfl⟩
  go_wp2_with fail
  refine hn.mono ?_
  rintro e w5 ⟨v, rfl, ⟨X, s, c, ok, rfl, hT⟩, ⟨fi', h5, hl5⟩, hF5⟩
  have HX5 := Lib.hid (hF5.row (b := w.heap.size) (fun e => by rcases e with e | e <;> omega) HX0.out)
  have HT5 := Lib.hid (hF5.row (b := w.heap.size + 1) (fun e => by rcases e with e | e <;> omega) HT0.out)
  have H5 := Lib.hid h5
  have HF5 := Lib.hid (HF0.out.trans hF5 (fun k _ e => e))
  have HQ5 := Lib.hid hl5
  have HS1 := Lib.hid (HO.out s (hT.scope))
  have HM5 := Lib.hid (hT.mono (base' := w.heap.size + 2) (by have := HS0.out; omega))
  have hs5 : w.heap.size + 2 ≤ w5.heap.size := by rw [← HS0.out]; exact hF5.size
  clear hn hbd hT h5 hl5 hF5 HF0 HG0 HX0 HT0 HS0 HB0 HO
  have HX6 : Hid (Row ((w5.alloc (.cells #[.int .u8 0, .int .u8 0, .int .u32 0, .slice none 0 0, .int .i64 0, .int .u32 0, .int .u32 0, .int .u8 0, .bool false, .int .u32 0, .slice none 0 0] 36)).alloc (.cells #[.int .u8 0, .int .u32 0] 38)) w5.heap.size 36 (fm0 0 0 0 0).c) := by show Row _ _ _ _; rw [z_c]; exact (Row.new w5 _ _).alloc _
  have HT6 : Hid (Row ((w5.alloc (.cells #[.int .u8 0, .int .u8 0, .int .u32 0, .slice none 0 0, .int .i64 0, .int .u32 0, .int .u32 0, .int .u8 0, .bool false, .int .u32 0, .slice none 0 0] 36)).alloc (.cells #[.int .u8 0, .int .u32 0] 38)) (w5.heap.size + 1) 38 (ftc 0 0)) := by show Row _ _ _ _; rw [ftc_eq]; exact Row.made _ _ _ (by simp)
  have HB6 : Hid (Below w5.heap.size w5 ((w5.alloc (.cells #[.int .u8 0, .int .u8 0, .int .u32 0, .slice none 0 0, .int .i64 0, .int .u32 0, .int .u32 0, .int .u8 0, .bool false, .int .u32 0, .slice none 0 0] 36)).alloc (.cells #[.int .u8 0, .int .u32 0] 38))) := ((Below.refl _ _).alloc (Nat.le_refl _) _).alloc (by simp) _
  have HS6 : Hid (((w5.alloc (.cells #[.int .u8 0, .int .u8 0, .int .u32 0, .slice none 0 0, .int .i64 0, .int .u32 0, .int .u32 0, .int .u8 0, .bool false, .int .u32 0, .slice none 0 0] 36)).alloc (.cells #[.int .u8 0, .int .u32 0] 38)).heap.size = w5.heap.size + 2) := by show _ = _; simp
  have H7 := Lib.hid (H5.out.below HB6.out)
  have HF7 := Lib.hid (HF5.out.then_below HB6.out)
  have HX7 := Lib.hid (HX5.out.below HB6.out HX5.out.lt)
  have HT7 := Lib.hid (HT5.out.below HB6.out HT5.out.lt)
  clear H5 HF5 HX5 HT5
  go_upto_region 4 with (first | (refine wpList_sfm (x := X) rfl _ _ rfl rfl rfl HX6.out ?_) | (refine wpList_sft (s := s) (c := c) rfl _ _ rfl rfl rfl (HT6.out.setRow' (k := w5.heap.size) (by omega) X.c) ?_))
  have HX8 := Lib.hid ((HX6.out.setRow X.c).setRow' (k := w5.heap.size + 1) (by omega) (ftc s c))
  have HT8 := Lib.hid ((HT6.out.setRow' (k := w5.heap.size) (by omega) X.c).setRow (ftc s c))
  have HSS := Lib.hid (((Fs.refl (fun k => k = w5.heap.size ∨ k = w5.heap.size + 1) ((w5.alloc (.cells #[.int .u8 0, .int .u8 0, .int .u32 0, .slice none 0 0, .int .i64 0, .int .u32 0, .int .u32 0, .int .u8 0, .bool false, .int .u32 0, .slice none 0 0] 36)).alloc (.cells #[.int .u8 0, .int .u32 0] 38))).setRow (g := w5.heap.size) (fun _ => .inl rfl) X.c).setRow (g := w5.heap.size + 1) (fun _ => .inr rfl) (ftc s c))
  have HY8 := Lib.hid (HSS.out.row (by omega) HX7.out)
  have HU8 := Lib.hid (HSS.out.row (by omega) HT7.out)
  have H8 := Lib.hid (H7.out.fs HSS.out (by omega) (by omega))
  have HF8 := Lib.hid (HF7.out.trans HSS.out (fun k hk h => by omega))
  have HM8 := Lib.hid (HM5.out.skip HB6.out rfl HSS.out)
  generalize ((((w5.alloc (.cells #[.int .u8 0, .int .u8 0, .int .u32 0, .slice none 0 0, .int .i64 0, .int .u32 0, .int .u32 0, .int .u8 0, .bool false, .int .u32 0, .slice none 0 0] 36)).alloc (.cells #[.int .u8 0, .int .u32 0] 38)).setRow w5.heap.size X.c).setRow (w5.heap.size + 1) (ftc s c)) = w8 at *
  clear HX6 HT6 HX7 HT7 HSS H7 HF7 HS6 HM5 HB6
  have cs : w8.cell? ⟨w5.heap.size + 1, 0, none⟩ = some (.int .u8 (s : Int)) := HT8.out.cell (by rw [ftc_eq]; rfl)
  have hb1 : ((s : Int) == 1) = true := by rw [HS1.out]; rfl
  have HR8 := Lib.hid H8.out.row
  have hw9 := (Fs.refl (fun k => k = g) w8).setRow (g := g) (fun _ => rfl) #[.slice none 0 0, .int .i64 0, .int .i64 0, .bool false, .bool true]
  have HX9 := Lib.hid (hw9.row (b := w5.heap.size) (by omega) HX8.out)
  have HT9 := Lib.hid (hw9.row (b := w5.heap.size + 1) (by omega) HT8.out)
  have HY9 := Lib.hid (hw9.row (b := w.heap.size) (by omega) HY8.out)
  have HU9 := Lib.hid (hw9.row (b := w.heap.size + 1) (by omega) HU8.out)
  have HM9 := Lib.hid (HM8.out.keep (w' := w8.setRow g #[.slice none 0 0, .int .i64 0, .int .i64 0, .bool false, .bool true]) fun k hk hk2 => hw9.block k hk2 (by omega))
  have HF9 := Lib.hid (HF8.out.trans hw9 (fun k _ e => .inl e))
  have HP9 : Hid (SpX (w8.setRow g #[.slice none 0 0, .int .i64 0, .int .i64 0, .bool false, .bool true]) g ∧ 0 < g ∧ b ≠ g ∧ b < (w8.setRow g #[.slice none 0 0, .int .i64 0, .int .i64 0, .bool false, .bool true]).heap.size) := ⟨H8.out.row.setRow _, H8.out.lo.1, H8.out.ne, Nat.lt_of_lt_of_le H8.out.buf.lt hw9.size⟩
  clear hw9
  go_wp2_with (refine wpList_ssp rfl _ _ rfl rfl rfl HR8.out ?_)
  generalize w8.setRow g #[.slice none 0 0, .int .i64 0, .int .i64 0, .bool false, .bool true] = w9 at *
  clear HX8 HT8 HY8 HU8 HM8 HF8 H8 HR8
  refine wp_region_held_drew (S := fun w' => Row w' w5.heap.size 36 (Fm.c X) ∧ Row w' (w5.heap.size + 1) 38 (ftc s c)) (by kernel_rfl) ⟨HX9.out, HT9.out⟩ (fun hHeld => ?_)
  refine wpAnyH_take (i := 0) (v := _) rfl (by kernel_rfl) (by kernel_rfl) (by kernel_rfl) (fun _ _ _ h => h) (yields_fm (by rfl) _ rfl rfl (fun _ hSw => hSw.1)) (by assumption) ?rest0q4
  try simp only [Act.put, List.getElem_toArray, List.getElem_cons_zero, List.setIfInBounds_toArray, List.set_cons_zero, List.set_cons_succ]
  refine wpAnyH_take (i := 1) (v := _) rfl (by kernel_rfl) (by kernel_rfl) (by kernel_rfl) (fun _ _ _ h => h) (yields_ft (by rfl) _ rfl rfl (fun _ hSw => hSw.2)) (by assumption) ?rest1q5
  try simp only [Act.put, List.getElem_toArray, List.getElem_cons_zero, List.getElem_cons_succ, List.setIfInBounds_toArray, List.set_cons_zero, List.set_cons_succ]
  refine wpAnyH_take (i := 2) (v := ?v2q6) rfl (by kernel_rfl) (by kernel_rfl) (by kernel_rfl) (fun _ _ _ h => h) (Or.inl ⟨by rfl, ?hy2q6⟩) (by assumption) ?rest2q6
  case hy2q6 => (intro w hSw; (try dsimp only at hSw); go_simp <;> with_reducible rfl)
  try simp only [Act.put, List.getElem_toArray, List.getElem_cons_zero, List.getElem_cons_succ, List.setIfInBounds_toArray, List.set_cons_zero, List.set_cons_succ]
  refine wpAnyH_ready (rs := [3]) (by kernel_rfl) (by simp) ?_
  refine AllReadyH.cons rfl (fun K hK => ?_) AllReadyH.nil
  refine step_sfm (x := X) rfl (.tmp 2) (.tmp 24) rfl rfl rfl HY9.out ?_
  refine hK.out _ _ ⟨hHeld.1.setRow' (by omega) _, hHeld.2.setRow' (by omega) _⟩ (fun hHeld => ?_)
  clear hK K
  try simp only [Act.put, List.getElem_toArray, List.getElem_cons_zero, List.getElem_cons_succ]
  refine wpAnyH_ready (rs := [4]) (by kernel_rfl) (by simp) ?_
  refine AllReadyH.cons rfl (fun K hK => ?_) AllReadyH.nil
  refine step_sft rfl (.tmp 3) (.tmp 25) rfl rfl rfl (Row.setRow' (show Row (World.drew _) _ _ _ from HU9.out) (k := w.heap.size) (by omega) _) ?_
  refine hK.out _ _ ⟨hHeld.1.setRow' (by omega) _, hHeld.2.setRow' (by omega) _⟩ (fun hHeld => ?_)
  clear hK K
  try simp only [Act.put, List.getElem_toArray, List.getElem_cons_zero, List.getElem_cons_succ]
  refine wpAnyH_take (i := 5) (v := ?v5q7) rfl (by kernel_rfl) (by kernel_rfl) (by kernel_rfl) (fun _ _ _ h => h) (Or.inl ⟨by rfl, ?hy5q7⟩) (by assumption) ?rest5q7
  case hy5q7 => (intro w hSw; (try dsimp only at hSw); go_simp <;> with_reducible rfl)
  try simp only [Act.put, List.getElem_toArray, List.getElem_cons_zero, List.getElem_cons_succ, List.setIfInBounds_toArray, List.set_cons_zero, List.set_cons_succ]
  refine wpAnyH_done (by kernel_rfl) ?_ _
  go_wp2_with fail
  refine bodyPost_ret (ret_ffb rfl _ _ w.heap.size (w.heap.size + 1) X s c (.bool ok) rfl (Row.setRow' (Row.setRow (show Row w9.drew _ _ _ from HY9.out) _) (by omega) _) rfl (Row.setRow (Row.setRow' (show Row w9.drew _ _ _ from HU9.out) (by omega) _) _) rfl) rfl ?_
  have HZ : Fs (fun k => k = w.heap.size ∨ k = w.heap.size + 1) w9 ((w9.drew.setRow w.heap.size X.c).setRow (w.heap.size + 1) (ftc s c)) := (((Fs.refl _ w9).drewN 1).setRow (g := w.heap.size) (fun _ => .inl rfl) X.c).setRow (g := w.heap.size + 1) (fun _ => .inr rfl) (ftc s c)
  exact ⟨_, rfl, ⟨X, s, c, ok, rfl, (HM9.out.keep fun k hk hk2 => HZ.block k hk2 (by omega)).mono (by omega)⟩, .inr ⟨rfl, rfl, rfl, (HZ.block g (Row.lt HP9.out.1) (by omega)).trans HP9.out.1, HP9.out.2.1, HP9.out.2.2.1, Nat.lt_of_lt_of_le HP9.out.2.2.2 HZ.size⟩, HF9.out.trans HZ (fun k hk h => by omega)⟩

theorem Next_any {w : World} {g b : Nat} {l : List UInt8} {wt bad : Bool} (h : Spl w g b l wt bad) (hG : GlobE w) :
    Calls Tryd.prog 14 #[.pointer (some ⟨g, 0, none⟩)] w fun e w' => ∃ v, e = .returned v ∧ Told w' w.heap.size (nsN l wt bad).1 v ∧ Spl w' g b (nsN l wt bad).2.1 (nsN l wt bad).2.2.1 (nsN l wt bad).2.2.2 ∧ Fs (gbS g b) w w' := by
  cases bad with
  | true =>
    refine (Next_bad h).mono ?_
    rintro e w1 ⟨rfl, h1, h2⟩
    refine ⟨_, rfl, ⟨_, _, _, _, rfl, rfl, rfl, rfl, rfl⟩, ?_, h2⟩
    rcases h1 with ⟨h0, _⟩ | ⟨_, hw, hl, hX⟩
    · cases h0
    · exact .inr ⟨rfl, rfl, rfl, hX⟩
  | false =>
    rcases h with ⟨_, fi, la, L, hS, rfl⟩ | ⟨h0, _⟩
    · obtain ⟨o, r, w2, ho⟩ : ∃ o r w2, nxN (heldL L fi la) wt = (o, r, w2) := ⟨_, _, _, rfl⟩
      cases o with
      | none =>
        rw [nsN_none ho]
        exact Next_stay hS hG ho (fun s e => by rw [e]; exact Nat.zero_ne_one)
      | some x =>
        by_cases hx : x.2.1 = 1
        · rw [nsN_fault ho hx]; exact Next_turn hS hG ho (fun s e => by rw [e]; exact hx)
        · rw [nsN_go ho hx]; exact Next_stay hS hG ho (fun s e => by rw [e]; exact hx)
    · cases h0
end Go.Proofs.YtnjnepploockiaaDoor
