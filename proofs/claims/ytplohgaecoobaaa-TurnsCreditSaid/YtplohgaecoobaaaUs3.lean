/-
  step: Put, by contract. Conditions: the rings are the model's; the operation's bytes are read.
-/
import Derived.Test.YtplohgaecoobaaaUs2
namespace Go.Proofs.Ytplohgaecoobaaa
open Go.RowKit Go.WideShapes

/-- 'clear' of bytes that the call owns. -/
theorem clear_own {w : World} {base : Nat} {A : Option Addr} {c : Nat} {l : List UInt8} (h : Bo w base 5 (.slice A l.length c) l) :
    ∃ w', (∀ ty, (Builtin.clear_ #[34] ty #[.slice A l.length c]).run Try.prog w = .ok (.tuple #[]) w') ∧ Fs (ob (.slice A l.length c)) w w' := by
  obtain ⟨i0, hi0, hz0, hz1, hz2⟩ := info_parts u8_info
  obtain ⟨_, w', _, h1, h2, _⟩ := run_shed (P := Try.prog) w base 34 5 i0 (.int .u8 0) 1 Try.underlying34 hi0 hz0 hz1 rfl (fun u hu => by simp [Value.cells] at hu; subst hu; rfl) h l.length (Nat.le_refl _)
  exact ⟨w', h1, Fs.of_grown h2⟩
/-- The end of a step, whatever came ahead. -/
theorem st_endG {w w' : World} {F F' S : Nat → Prop} {g : Nat} {m' : Rm} {A : Option Addr} {c : Nat} (hR : RgS w' S A c (rot m'.l m'.t)) (hS : ∀ b, S b → b < w'.heap.size → ¬ F' b ∧ b ≠ w.heap.size + 2) (hT : Tr w' F' g m') (h2 : ∀ k, F' k → k ≠ w.heap.size + 2) (hF : Fs F w w') (hN : ∀ k, F' k → F k ∨ w.heap.size ≤ k) (x : Array Value) :
    StP w F g m' (.returned (.tuple #[.bool true, .agg (rrc A m'.l.length c m'.t m'.w)])) (w'.setRow (w.heap.size + 2) x) := by
  refine ⟨A, c, F', rfl, ⟨(hR.rd.keep fun b hb' => setRow_other w' (w.heap.size + 2) b x (hS b hb'.1 hb'.2).2).imp fun b hb' _ => ⟨(hS b hb'.1 hb'.2).1, ?_⟩, hR.len, hR.bd⟩, hT.keep fun k hk => setRow_other w' (w.heap.size + 2) k x (h2 k hk), hF.setRow (fun h => by omega) x, hN⟩
  have := hb'.2
  simpa using this
/-- Blocks that a list of the document's may lie in: the call's arguments, or from block q on. -/
def P0 (w : World) (F : Nat → Prop) (q b : Nat) : Prop := (b < w.heap.size ∧ ¬ F b) ∨ q ≤ b
theorem RgS.arg {w w' : World} {F : Nat → Prop} {A : Option Addr} {c : Nat} {L : List Sn} (h : RgS w (fun b => ¬ F b) A c L) (hb : Below w.heap.size w w') : RgS w' (fun b => b < w.heap.size ∧ ¬ F b) A c L :=
  ((h.imp (S' := fun b => b < w.heap.size ∧ ¬ F b) fun b hb h2 => ⟨h2, hb⟩).up (S' := fun _ => False) hb).imp fun b h _ => by rcases h with h | h; exact h; exact h.elim
theorem RgS.fsK {w1 w2 : World} {S F : Nat → Prop} {A : Option Addr} {c : Nat} {L : List Sn} (h : RgS w1 S A c L) (hF : Fs F w1 w2) (hno : ∀ b, S b → b < w1.heap.size → ¬ F b) : RgS w2 (fun b => S b ∧ b < w1.heap.size) A c L :=
  ⟨(h.rd.keep fun b hb => hF.block b hb.2 (hno b hb.1 hb.2)).imp fun _ hb _ => ⟨⟨hb.1, hb.2⟩, Nat.lt_of_lt_of_le hb.2 hF.size⟩, h.len, h.bd⟩
theorem RgS.drew {w : World} {S : Nat → Prop} {A : Option Addr} {c : Nat} {L : List Sn} (h : RgS w S A c L) : RgS w.drew S A c L := ⟨h.rd.keep fun _ _ => rfl, h.len, h.bd⟩
attribute [local irreducible] snc rrc ovc rmPut
set_option maxRecDepth 100000 in
set_option maxHeartbeats 4000000 in
theorem step_put {w : World} {F : Nat → Prop} {g : Nat} {m : Rm} {A : Option Addr} {c : Nat} (hT : Tr w F g m) (hm : m.Ok) (hs : m.Sm) (hR : RgS w (fun b => ¬ F b) A c (rot m.l m.t)) (o : Ov) (hk : o.kd = 1) (hD : RdB w w.heap.size o.A o.b) (hbl : o.b.length ≤ 9000) :
    Calls Try.prog 12 #[.pointer (some ⟨g, 0, none⟩), .agg (rrc A m.l.length c m.t m.w), .agg (ovc o)] w (StP w F g (rmPut m o.st o.b o.en).1) := by
  obtain ⟨w0, hw0, t1, t2, t3, t4, t5⟩ := three_ref w (rrc A m.l.length c m.t m.w) (ovc o) #[.slice none 0 0, .int .i64 0, .int .i64 0, .bool false] 31 36 31
  have HW := Lib.hid hw0
  rw [rr_zero] at t3
  have hal : Below w0.heap.size w0 (w0.alloc (.cells #[] 5)) := (Below.refl _ _).alloc (Nat.le_refl _) _
  have HLT := Lib.hid hT.lts
  have HO1 : Hid (Bo (w0.alloc (.cells #[] 5)) w0.heap.size 5 (.slice (some ⟨w0.heap.size, 0, none⟩) 0 0) []) := OwS.lit w0 5 1 0 #[] (by simp) (by simp [maxLen]) (Nat.le_refl _)
  have T1 := Lib.hid t1
  have T2 := Lib.hid t2
  have T3 := Lib.hid t3
  have T4 := Lib.hid t4
  have HAL := Lib.hid hal
  have HT := Lib.hid hT
  have HR := Lib.hid hR
  have HD := Lib.hid hD
  have HQ : Hid (w0.heap.size = w.heap.size + 3) := t5
  obtain ⟨c0, _, _, c3, _, _, _⟩ := ov_cells t2
  rw [hk] at c0
  have HOP := Lib.hid (fun (W : World) (S : Nat → Prop) (h : RgS W S A c (rot m.l m.t)) => putM hm h o.st o.b o.en hs.b (by omega))
  have HTO := Lib.hid (fun (W : World) (h : Tr W F g m) (S : Nat → Prop) (A' : Option Addr) (c' : Nat) (hb : RdS W S A' (byc o.b)) (hS : ∀ k, S k → k < W.heap.size → ¬ F k) (_hc : o.b.length ≤ c') => tput_any (c := c') h hm hs o.st hb hS (by omega) o.en)
  have c3' : (w0.alloc (.cells #[] 5)).cell? ⟨w.heap.size + 1, 3, none⟩ = some (.slice o.A o.b.length o.c) := (hal.cell (p := ⟨w.heap.size + 1, 3, none⟩) (World.block_lt_of_cell? _ _ c3)).trans c3
  clear hw0 t1 t2 t3 t4 t5 hT hR hk hm hs hD c3 hal
  obtain ⟨i0, hi0, hz0, hz1, hz2⟩ := info_parts u8_info
  have hD1 : RdB (w0.alloc (.cells #[] 5)) w.heap.size o.A o.b := (HD.out.below T4.out).below (HAL.out.mono (by have := T4.out.size; omega))
  have HD1 := Lib.hid hD1
  go_enter Try.func12, Try.ntmps12
  go_upto_region 1 with fail
  rw [HW.out]
  clear HW hD1
  generalize (rmPut m o.st o.b o.en).1 = m' at *
  generalize (rmPut m o.st o.b o.en).2 = ok at *
  go_upto_region 7 with (at_builtin; go_loud (refine wpList_appBo rfl (.tmp 52) (.tmp 54) 34 rfl w0.heap.size 5 i0 Try.underlying34 hi0 hz0 hz1 hz2 (.slice (some ⟨w0.heap.size, 0, none⟩) 0 0) [] rfl HO1.out w.heap.size o.A o.b o.b.length o.c rfl rfl HD1.out (by simp; omega) (by simp) ?_; intro v2 w2 hO2 hF2 hN2; rw [List.nil_append] at hO2; obtain ⟨A2, c2, rfl, hc2⟩ := Bo.shape hO2))
  have hB2 : Below w0.heap.size w0 w2 := HAL.out.trans (hF2.below (fun k h _ => by have : w0.heap.size = k := (by simpa [ob, Value.ownBlock] using h); omega) (by simp))
  have T12 := Lib.hid (T1.out.below hB2 T1.out.lt)
  have T22 := Lib.hid (T2.out.below hB2 T2.out.lt)
  have T32 := Lib.hid (T3.out.below hB2 T3.out.lt)
  have T42 := Lib.hid (T4.out.trans (hB2.mono T4.out.size))
  have HD2 : Hid (RdB w2 w.heap.size o.A o.b) := HD.out.below T42.out
  have HO2 := Lib.hid hO2
  have hs2 : w0.heap.size ≤ w2.heap.size := hB2.size
  have HS2 := Lib.hid hs2
  have HC2 := Lib.hid hc2
  clear hF2 hN2 hO2 hB2 hs2 hc2 HO1 HAL T1 T2 T3 T4 HD HD1 c0 c3' hi0 hz0 hz1 hz2
  generalize w0.alloc (.cells #[] 5) = w1 at *
  generalize w0.heap.size = q at *
  have htxt : (convert 34 9 (.slice o.A o.b.length o.c)).run Try.prog w2 = .ok (.string (tb o.b)) w2 := run_text Try.underlying34 Try.underlying5 Try.underlying9 HD2.out
  obtain ⟨_, c1, _, c3, c4, _, _⟩ := ov_cells T22.out
  have HR2 := Lib.hid (HR.out.arg T42.out)
  go_wp2_with (refine wpList_ld rfl _ rfl rfl T12.out (rr_ok _ _ _ _ _) ?_)
  refine (HOP.out _ _ HR2.out).mono ?_
  rintro e w3 ⟨A3, c3', rfl, hR3, hb3⟩
  have HR3 := Lib.hid hR3
  have T23 := Lib.hid (T22.out.below hb3 T22.out.lt)
  have T33 := Lib.hid (T32.out.below hb3 T32.out.lt)
  have T43 := Lib.hid (T42.out.trans (hb3.mono T42.out.size))
  have HO3 : Hid (Bo w3 q 5 (.slice A2 o.b.length c2) o.b) := OwS.below HO2.out hb3
  have hob2 : ∀ k, ob (.slice A2 o.b.length c2) k → q ≤ k ∧ k < w2.heap.size := fun k hk => OwS.lt HO2.out k hk
  have HOB := Lib.hid hob2
  have HS3 : Hid (w2.heap.size ≤ w3.heap.size) := hb3.size
  clear hb3 hR3 hob2 HR2 T12 T22 T32 T42 HO2 HD2 htxt c1 c3 c4 HOP
  obtain ⟨w4, hw4, u1, u2, u3, u4⟩ := one_rr w3 A3 m'.l.length c3' m'.t m'.w
  rw [← rr_zero] at u1
  have HW4 := Lib.hid hw4
  have U1 := Lib.hid u1
  have U2 := Lib.hid u2
  have HR4 := Lib.hid (HR3.out.up (S' := fun _ => False) u3)
  have HT4 := Lib.hid (HT.out.below (T43.out.trans (u3.mono T43.out.size)))
  have T24 := Lib.hid (T23.out.below u3 T23.out.lt)
  have T34 := Lib.hid (T33.out.below u3 T33.out.lt)
  have T44 := Lib.hid (T43.out.trans (u3.mono T43.out.size))
  have HO4 : Hid (Bo w4 q 5 (.slice A2 o.b.length c2) o.b) := OwS.below HO3.out u3
  have HP3 : Hid (w.heap.size + 2 < w3.heap.size) := T33.out.lt
  have HS4 : Hid (w4.heap.size = w3.heap.size + 1) := u4
  clear hw4 u1 u2 u3 u4 HR3 T23 T33 T43 HO3 HT
  go_upto_region 8 with (refine wpList_sw (cs := rrc A3 m'.l.length c3' m'.t m'.w) rfl _ _ rfl rfl rfl U1.out (by rw [rr_size]; rfl) (rr_ok _ _ _ _ _) ?_)
  rw [HW4.out]
  clear HW4 U1
  generalize w3.heap.size = p at *
  obtain ⟨_, c1, _, _, c4, _, _⟩ := ov_cells T24.out
  have hnF : Hid (∀ k, w.heap.size ≤ k → ¬ F k) := fun k h1 h2 => by have := HLT.out k h2; omega
  go_wp2_with fail
  refine (HTO.out _ HT4.out _ _ _ (OwS.reads HO4.out) (fun k hk _ => hnF.out k (by have := (HOB.out k hk).1; have := HQ.out; omega)) HC2.out).mono ?_
  rintro e w5 ⟨rfl, F', hT5, hF5, hN5⟩
  have HO5 : Bo w5 q 5 (.slice A2 o.b.length c2) o.b := hF5.owns HO4.out (fun k hk => hnF.out k (by have := (HOB.out k hk).1; have := HQ.out; omega))
  obtain ⟨w6, hclr, hF6⟩ := clear_own HO5
  have hp2 := HS3.out
  have hp3 := HP3.out
  have hp4 := HS4.out
  have hq := HQ.out
  have hs2 := HS2.out
  have hown : ∀ k, ob (.slice A2 o.b.length c2) k → w.heap.size + 3 ≤ k ∧ k < w2.heap.size := fun k hk => by have := HOB.out k hk; omega
  have HU6 := Lib.hid (hF6.row (fun hk => by have := hown _ hk; omega) (hF5.row (hnF.out _ (by omega)) U2.out))
  have T36 := Lib.hid (hF6.row (fun hk => by have := hown _ hk; omega) (hF5.row (hnF.out _ (by omega)) T34.out))
  have hTr6 : Tr w6 F' g m' := hT5.keep fun k hk => hF6.block k (hT5.lts k hk) (fun ho => by
    have h1 := hown k ho
    rcases hN5 k hk with h | h
    · have := HLT.out k h; omega
    · omega)
  have hR5 := HR4.out.fsK hF5 (fun b hb _ => by
    rcases hb with (h | h) | h
    · exact h.2
    · exact hnF.out b (by omega)
    · exact h.elim)
  have hR6 := hR5.fsK hF6 (fun b hb _ ho => by
    have h1 := hown b ho
    rcases hb.1 with (h | h) | h
    · omega
    · omega
    · exact h.elim)
  have hFA : Fs F w w6 := ((Fs.of_below (S := F) T44.out).trans (S' := F) hF5 (fun k _ h => h)).trans hF6 (fun k h1 h2 => by have := hown k h2; omega)
  have HST := Lib.hid (st_endG (w' := w6.drew) (F' := F') hR6.drew (fun b hb _ => by
    refine ⟨fun hf => ?_, ?_⟩
    · rcases hN5 b hf with h1 | h1
      · rcases hb.1.1 with (h | h) | h
        · exact h.2 h1
        · exact hnF.out b (by omega) h1
        · exact h.elim
      · have := hb.1.2; omega
    · rcases hb.1.1 with (h | h) | h
      · omega
      · omega
      · exact h.elim) (hTr6.keep (w' := w6.drew) fun _ _ => rfl) (fun k hk e => by
    rcases hN5 k hk with h | h
    · have := HLT.out k h; omega
    · omega) (hFA.then_below ((Below.refl w6.heap.size w6).drew)) (fun k hk => by
    rcases hN5 k hk with h | h
    · exact .inl h
    · exact .inr (by omega)) (rrc A3 m'.l.length c3' m'.t m'.w))
  clear hs2 hR5 hR6 hFA hTr6 hT5 hF5 hN5 HO5 hF6 hown hp2 hp3 hp4 hq HR4 HT4 U2 T24 T34 T44 HO4 c1 c4 HTO
  go_upto_region 10 with fail
  refine wp_region_E 5 (fun w' => Row w' p 31 (rrc A3 m'.l.length c3' m'.t m'.w)) (by kernel_rfl) HU6.out (fun hHeld => ?_)
  refine wpAnyE_take (i := 0) (v := ?v0) rfl (by kernel_rfl) (by kernel_rfl) (by kernel_rfl) (by kernel_rfl) (fun _ _ _ h => h) (Or.inl ⟨by rfl, ?hy0⟩) (by assumption) ?rest0
  case hy0 => (intro w hSw; (try dsimp only at hSw); go_simp <;> with_reducible rfl)
  try simp only [Act.put, List.getElem_toArray, List.getElem_cons_zero, List.setIfInBounds_toArray, List.set_cons_zero, List.set_cons_succ]
  refine wpAnyE_take (i := 1) (v := ?v1) rfl (by kernel_rfl) (by kernel_rfl) (by kernel_rfl) (by kernel_rfl) (fun _ _ _ h => h) (Or.inl ⟨by rfl, ?hy1⟩) (by assumption) ?rest1
  case hy1 => (intro w hSw; (try dsimp only at hSw); go_simp <;> with_reducible rfl)
  try simp only [Act.put, List.getElem_toArray, List.getElem_cons_zero, List.getElem_cons_succ, List.setIfInBounds_toArray, List.set_cons_zero, List.set_cons_succ]
  refine wpAnyE_take (i := 3) (v := _) rfl (by kernel_rfl) (by kernel_rfl) (by kernel_rfl) (by kernel_rfl) (fun _ _ _ h => h) (yields_ld (by rfl) _ rfl rfl (rr_ok _ _ _ _ _) (fun _ hSw => hSw)) (by assumption) ?rest3w1
  try simp only [Act.put, List.getElem_toArray, List.getElem_cons_zero, List.getElem_cons_succ, List.setIfInBounds_toArray, List.set_cons_zero, List.set_cons_succ]
  refine wpAnyE_take (i := 2) (v := ?v2q2) rfl (by kernel_rfl) (by kernel_rfl) (by kernel_rfl) (by kernel_rfl) (fun _ _ _ h => h) (Or.inl ⟨by rfl, ?hy2q2⟩) (by assumption) ?rest2q2
  case hy2q2 => (intro w hSw; (try dsimp only at hSw); go_simp <;> with_reducible rfl)
  try simp only [Act.put, List.getElem_toArray, List.getElem_cons_zero, List.getElem_cons_succ, List.setIfInBounds_toArray, List.set_cons_zero, List.set_cons_succ]
  refine wpAnyE_take (i := 4) (v := ?v4q2) rfl (by kernel_rfl) (by kernel_rfl) (by kernel_rfl) (by kernel_rfl) (fun _ _ _ h => h) (Or.inl ⟨by rfl, ?hy4q2⟩) (by assumption) ?rest4q2
  case hy4q2 => (intro w hSw; (try dsimp only at hSw); go_simp <;> with_reducible rfl)
  try simp only [Act.put, List.getElem_toArray, List.getElem_cons_zero, List.getElem_cons_succ, List.setIfInBounds_toArray, List.set_cons_zero, List.set_cons_succ]
  refine wpAnyE_last (by kernel_rfl) rfl (by kernel_rfl) (fun K hK => ?_)
  refine step_sw (cs := rrc A3 m'.l.length c3' m'.t m'.w) rfl _ _ rfl rfl rfl T36.out (rr_sz _ _ _ _ _ _ _ _ _ _) (rr_ok _ _ _ _ _) ?_
  refine hK.out _ _ ?_
  clear hK K hHeld
  try simp only [Act.put, List.getElem_toArray, List.getElem_cons_zero, List.getElem_cons_succ]
  have V3 : Hid (Row (w6.drew.setRow (w.heap.size + 2) (rrc A3 m'.l.length c3' m'.t m'.w)) (w.heap.size + 2) 31 (rrc A3 m'.l.length c3' m'.t m'.w)) := Row.setRow (w := w6.drew) T36.out _
  clear T36 HU6
  go_wp2_with fail
  exact bodyPost_ret (ret_vag (v := .bool true) rfl _ rfl rfl V3.out (rr_ok _ _ _ _ _)) rfl HST.out
end Go.Proofs.Ytplohgaecoobaaa
