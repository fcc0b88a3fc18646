/-
  step: Next, by contract. Conditions: the rings are the model's.
-/
import Derived.Test.YtplohgaecoobaaaUs3
namespace Go.Proofs.Ytplohgaecoobaaa
open Go.RowKit Go.WideShapes

/-- The ring behind Next. -/
def nxM (m : Rm) (most : Int) : Rm := match rmNext m most with | none => m | some (_, _, m') => m'
/-- What both calls answer, in one form. -/
def RPU (w : World) (S : Nat → Prop) (s : Nat) (l : List UInt8) (ov ok : Bool) (m' : Rm) (e : Ending) (w' : World) : Prop :=
  ∃ A c, e = .returned (.tuple #[.agg (rrc A m'.l.length c m'.t m'.w), .int .u32 s, .string (tb l), .bool ov, .bool ok]) ∧ RgS w' (fun b => S b ∨ w.heap.size ≤ b) A c (rot m'.l m'.t) ∧ Below w.heap.size w w'
def TNU (w : World) (F : Nat → Prop) (g : Nat) (s : Nat) (l : List UInt8) (ov ok : Bool) (m' : Rm) (e : Ending) (w' : World) : Prop :=
  ∃ A c, e = .returned (.tuple #[.int .u32 s, .slice A l.length c, .bool ov, .bool ok]) ∧ Bo w' w.heap.size 5 (.slice A l.length c) l ∧ ∃ F', Tr w' F' g m' ∧ Fs F w w' ∧ (∀ k, F' k → F k ∨ w.heap.size ≤ k) ∧ ∀ k, ob (.slice A l.length c) k → ¬ F' k
theorem nx_uni {m : Rm} (hm : m.Ok) (most : Int) : ∃ s l ov ok, (∀ w S e w', RPN w S m (rmNext m most) e w' → RPU w S s l ov ok (nxM m most) e w') ∧ (∀ w F g e w', TNP w F g m (rmNext m most) e w' → TNU w F g s l ov ok (nxM m most) e w') := by
  unfold nxM
  cases hr : rmNext m most with
  | none =>
    refine ⟨0, [], false, false, fun w S e w' h => h, fun w F g e w' h => ?_⟩
    obtain ⟨h1, F', h2, h3, h4⟩ := h
    exact ⟨none, 0, h1, Bo.nil, F', h2, h3, h4, fun k hk => by simp [ob, Value.ownBlock] at hk⟩
  | some r =>
    obtain ⟨x, N, m'⟩ := r
    obtain ⟨k, hs⟩ := rmNext_sends hm hr
    have hl : (x.b.take N).length = N := by rw [List.length_take, Nat.min_eq_left hs.le]
    refine ⟨x.st, x.b.take N, (snY N x).ov, true, fun w S e w' h => h, fun w F g e w' h => ?_⟩
    obtain ⟨A, c, h1, h2, h3⟩ := h
    refine ⟨A, c, ?_, ?_, ?_⟩
    · rw [hl]; exact h1
    · rw [hl]; exact h2
    · rw [hl]; exact h3
attribute [local irreducible] snc rrc ovc nxM RPN TNP rmNext
set_option maxRecDepth 100000 in
set_option maxHeartbeats 4000000 in
theorem step_next {w : World} {F : Nat → Prop} {g : Nat} {m : Rm} {A : Option Addr} {c : Nat} (hT : Tr w F g m) (hm : m.Ok) (hs : m.Sm) (hR : RgS w (fun b => ¬ F b) A c (rot m.l m.t)) (o : Ov) (hk : o.kd = 2) :
    Calls Try.prog 12 #[.pointer (some ⟨g, 0, none⟩), .agg (rrc A m.l.length c m.t m.w), .agg (ovc o)] w (StP w F g (nxM m o.n)) := by
  obtain ⟨w0, hw0, t1, t2, t3, t4, t5⟩ := three_ref w (rrc A m.l.length c m.t m.w) (ovc o) #[.slice none 0 0, .int .i64 0, .int .i64 0, .bool false] 31 36 31
  have HW := Lib.hid hw0
  rw [rr_zero] at t3
  have HLT := Lib.hid hT.lts
  have T1 := Lib.hid t1
  have T2 := Lib.hid t2
  have T3 := Lib.hid t3
  have T4 := Lib.hid t4
  have HT := Lib.hid hT
  have HR0 := Lib.hid (hR.arg t4)
  have HQ : Hid (w0.heap.size = w.heap.size + 3) := t5
  obtain ⟨c0, _, c2, _, _, _, _⟩ := ov_cells t2
  rw [hk] at c0
  obtain ⟨s, l, ov, ok, hU1, hU2⟩ := nx_uni hm o.n
  have HOP := Lib.hid (fun (W : World) (S : Nat → Prop) (h : RgS W S A c (rot m.l m.t)) => (nextM hm h o.n hs.b).mono fun e w' h => hU1 W S e w' h)
  have HTO := Lib.hid (fun (W : World) (h : Tr W F g m) => (tnext_any h hm hs o.n).mono fun e w' h => hU2 W F g e w' h)
  clear hw0 t1 t2 t3 t4 t5 hT hR hk hm hs hU1 hU2
  go_enter Try.func12, Try.ntmps12
  go_upto_region 1 with fail
  rw [HW.out]
  clear HW
  generalize nxM m o.n = m' at *
  go_wp2_with (refine wpList_ld rfl _ rfl rfl T1.out (rr_ok _ _ _ _ _) ?_)
  refine (HOP.out _ _ HR0.out).mono ?_
  rintro e w1 ⟨A1, c1', rfl, hR1, hb1⟩
  have HR1 := Lib.hid hR1
  have T21 := Lib.hid (T2.out.below hb1 T2.out.lt)
  have T31 := Lib.hid (T3.out.below hb1 T3.out.lt)
  have T41 := Lib.hid (T4.out.trans (hb1.mono T4.out.size))
  have HS1 : Hid (w0.heap.size ≤ w1.heap.size) := hb1.size
  clear hb1 hR1 HR0 T1 T2 T3 T4 c0 c2 HOP
  obtain ⟨w2, hw2, u1, u2, u3, u4⟩ := one_rr w1 A1 m'.l.length c1' m'.t m'.w
  rw [← rr_zero] at u1
  have HW2 := Lib.hid hw2
  have U1 := Lib.hid u1
  have U2 := Lib.hid u2
  have HR2 := Lib.hid (HR1.out.up (S' := fun _ => False) u3)
  have HT2 := Lib.hid (HT.out.below (T41.out.trans (u3.mono T41.out.size)))
  have T22 := Lib.hid (T21.out.below u3 T21.out.lt)
  have T32 := Lib.hid (T31.out.below u3 T31.out.lt)
  have T42 := Lib.hid (T41.out.trans (u3.mono T41.out.size))
  have HS2 : Hid (w2.heap.size = w1.heap.size + 1) := u4
  clear hw2 u1 u2 u3 u4 HR1 T21 T31 T41 HT
  go_upto_region 13 with (refine wpList_sw (cs := rrc A1 m'.l.length c1' m'.t m'.w) rfl _ _ rfl rfl rfl U1.out (by rw [rr_size]; rfl) (rr_ok _ _ _ _ _) ?_)
  rw [HW2.out]
  clear HW2 U1
  generalize w1.heap.size = p at *
  have c2 := (ov_cells T22.out).2.2.1
  have hnF : Hid (∀ k, w.heap.size ≤ k → ¬ F k) := fun k h1 h2 => by have := HLT.out k h2; omega
  go_wp2_with fail
  refine (HTO.out _ HT2.out).mono ?_
  rintro e w3 ⟨A3, c3, rfl, hO3, F', hT3, hF3, hN3, hD3⟩
  have htxt : (convert 34 9 (.slice A3 l.length c3)).run Try.prog w3 = .ok (.string (tb l)) w3 := run_text Try.underlying34 Try.underlying5 Try.underlying9 (Bo.reads hO3)
  obtain ⟨w4, hclr, hF4⟩ := clear_own hO3
  have HCL : Hid (∀ ty, (Builtin.clear_ #[34] ty #[.slice A3 l.length c3]).run Try.prog w3 = .ok (.tuple #[]) w4) := hclr
  have hp2 := HS1.out
  have hp3 := HS2.out
  have hq := HQ.out
  have hown : ∀ k, ob (.slice A3 l.length c3) k → w2.heap.size ≤ k ∧ k < w3.heap.size := fun k hk => OwS.lt hO3 k hk
  have HU4 := Lib.hid (hF4.row (fun hk => by have := (hown _ hk).1; omega) (hF3.row (hnF.out _ (by omega)) U2.out))
  have T34 := Lib.hid (hF4.row (fun hk => by have := (hown _ hk).1; omega) (hF3.row (hnF.out _ (by omega)) T32.out))
  have hTr4 : Tr w4 F' g m' := hT3.keep fun k hk => hF4.block k (hT3.lts k hk) (fun ho => hD3 k ho hk)
  have hR3 := HR2.out.fsK hF3 (fun b hb _ => by
    rcases hb with (h | h) | h
    · exact h.2
    · exact hnF.out b (by omega)
    · exact h.elim)
  have hR4 := hR3.fsK hF4 (fun b hb _ ho => by
    have h1 := hown b ho
    have h2 := hb.2
    omega)
  have hFA : Fs F w w4 := ((Fs.of_below (S := F) T42.out).trans (S' := F) hF3 (fun k _ h => h)).trans hF4 (fun k h1 h2 => by have := (hown k h2).1; omega)
  have HST := Lib.hid (st_endG (w' := w4.drew) (F' := F') hR4.drew (fun b hb _ => by
    have hb2 := hb.1.2
    refine ⟨fun hf => ?_, ?_⟩
    · rcases hN3 b hf with h1 | h1
      · rcases hb.1.1 with (h | h) | h
        · exact h.2 h1
        · exact hnF.out b (by omega) h1
        · exact h.elim
      · omega
    · rcases hb.1.1 with (h | h) | h
      · omega
      · omega
      · exact h.elim) (hTr4.keep (w' := w4.drew) fun _ _ => rfl) (fun k hk e => by
    rcases hN3 k hk with h | h
    · have := HLT.out k h; omega
    · omega) (hFA.then_below ((Below.refl w4.heap.size w4).drew)) (fun k hk => by
    rcases hN3 k hk with h | h
    · exact .inl h
    · exact .inr (by omega)) (rrc A1 m'.l.length c1' m'.t m'.w))
  clear hR3 hR4 hFA hTr4 hT3 hF3 hN3 hD3 hO3 hF4 hown hp2 hp3 hq HR2 HT2 U2 T22 T32 T42 c2 HTO hclr
  go_upto_region 15 with fail
  have hclr := HCL.out
  clear htxt HCL
  go_upto_region 16 with fail
  clear hclr
  refine wp_region_E 3 (fun w' => Row w' p 31 (rrc A1 m'.l.length c1' m'.t m'.w)) (by kernel_rfl) HU4.out (fun hHeld => ?_)
  refine wpAnyE_take (i := 0) (v := ?v0) rfl (by kernel_rfl) (by kernel_rfl) (by kernel_rfl) (by kernel_rfl) (fun _ _ _ h => h) (Or.inl ⟨by rfl, ?hy0⟩) (by assumption) ?rest0
  case hy0 => (intro w hSw; (try dsimp only at hSw); go_simp <;> with_reducible rfl)
  try simp only [Act.put, List.getElem_toArray, List.getElem_cons_zero, List.setIfInBounds_toArray, List.set_cons_zero, List.set_cons_succ]
  refine wpAnyE_take (i := 1) (v := _) rfl (by kernel_rfl) (by kernel_rfl) (by kernel_rfl) (by kernel_rfl) (fun _ _ _ h => h) (yields_ld (by rfl) _ rfl rfl (rr_ok _ _ _ _ _) (fun _ hSw => hSw)) (by assumption) ?rest1w1
  try simp only [Act.put, List.getElem_toArray, List.getElem_cons_zero, List.getElem_cons_succ, List.setIfInBounds_toArray, List.set_cons_zero, List.set_cons_succ]
  refine wpAnyE_take (i := 2) (v := ?v2q2) rfl (by kernel_rfl) (by kernel_rfl) (by kernel_rfl) (by kernel_rfl) (fun _ _ _ h => h) (Or.inl ⟨by rfl, ?hy2q2⟩) (by assumption) ?rest2q2
  case hy2q2 => (intro w hSw; (try dsimp only at hSw); go_simp <;> with_reducible rfl)
  try simp only [Act.put, List.getElem_toArray, List.getElem_cons_zero, List.getElem_cons_succ, List.setIfInBounds_toArray, List.set_cons_zero, List.set_cons_succ]
  refine wpAnyE_last (by kernel_rfl) rfl (by kernel_rfl) (fun K hK => ?_)
  refine step_sw (cs := rrc A1 m'.l.length c1' m'.t m'.w) rfl _ _ rfl rfl rfl T34.out (rr_sz _ _ _ _ _ _ _ _ _ _) (rr_ok _ _ _ _ _) ?_
  refine hK.out _ _ ?_
  clear hK K hHeld
  try simp only [Act.put, List.getElem_toArray, List.getElem_cons_zero, List.getElem_cons_succ]
  have V3 : Hid (Row (w4.drew.setRow (w.heap.size + 2) (rrc A1 m'.l.length c1' m'.t m'.w)) (w.heap.size + 2) 31 (rrc A1 m'.l.length c1' m'.t m'.w)) := Row.setRow (w := w4.drew) T34.out _
  clear T34 HU4
  go_wp2_with fail
  exact bodyPost_ret (ret_vag (v := .bool true) rfl _ rfl rfl V3.out (rr_ok _ _ _ _ _)) rfl HST.out
end Go.Proofs.Ytplohgaecoobaaa
