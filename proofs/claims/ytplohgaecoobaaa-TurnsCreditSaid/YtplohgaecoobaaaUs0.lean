/-
  step: what it leaves; Open, by contract. Conditions: the rings are the model's.
-/
import Derived.Test.YtplohgaecoobaaaUtn
import Derived.Test.YtplohgaecoobaaaLast
namespace Go.Proofs.Ytplohgaecoobaaa
open Go.RowKit Go.WideShapes

/-- What a step leaves: both rings are the model's. -/
def StP (w : World) (F : Nat → Prop) (g : Nat) (m' : Rm) (e : Ending) (w' : World) : Prop :=
  ∃ A c F', e = .returned (.tuple #[.bool true, .agg (rrc A m'.l.length c m'.t m'.w)]) ∧ RgS w' (fun b => ¬ F' b) A c (rot m'.l m'.t) ∧ Tr w' F' g m' ∧ Fs F w w' ∧ ∀ k, F' k → F k ∨ w.heap.size ≤ k
theorem Tr.below {w w' : World} {F : Nat → Prop} {g : Nat} {m : Rm} (h : Tr w F g m) (hb : Below w.heap.size w w') : Tr w' F g m := h.keep fun k hk => hb.block k (h.lts k hk)
theorem RgS.imp {w : World} {S S' : Nat → Prop} {A : Option Addr} {c : Nat} {L : List Sn} (h : RgS w S A c L) (hS : ∀ b, S b → b < w.heap.size → S' b) : RgS w S' A c L := ⟨h.rd.imp fun b hb _ => ⟨hS b hb.1 hb.2, hb.2⟩, h.len, h.bd⟩
/-- Where the document's streams may lie within a step: not in the program's ring, nor in the step's own variables. -/
def S0 (w : World) (F : Nat → Prop) (b : Nat) : Prop := (b < w.heap.size ∧ ¬ F b) ∨ w.heap.size + 3 ≤ b
theorem RgS.begin {w w' : World} {F : Nat → Prop} {A : Option Addr} {c : Nat} {L : List Sn} (h : RgS w (fun b => ¬ F b) A c L) (hb : Below w.heap.size w w') : RgS w' (S0 w F) A c L :=
  ((h.imp (S' := S0 w F) fun b hb h2 => .inl ⟨h2, hb⟩).up (S' := fun _ => False) hb).imp fun b h _ => by rcases h with h | h; exact h; exact h.elim
theorem RgS.made {w w0 w' : World} {F : Nat → Prop} {A : Option Addr} {c : Nat} {L : List Sn} (h : RgS w' (fun b => S0 w F b ∨ w0.heap.size ≤ b) A c L) (h3 : w.heap.size + 3 ≤ w0.heap.size) : RgS w' (S0 w F) A c L :=
  h.imp fun b h _ => by rcases h with h | h; exact h; exact .inr (by omega)
theorem RgS.on {w w1 w' : World} {F : Nat → Prop} {A : Option Addr} {c : Nat} {L : List Sn} (h : RgS w1 (S0 w F) A c L) (hb : Below w1.heap.size w1 w') : RgS w' (S0 w F) A c L :=
  (h.up (S' := fun _ => False) hb).imp fun b h _ => by rcases h with h | h; exact h; exact h.elim
/-- Both rings, behind both calls. -/
theorem st_end {w w1 w2 : World} {F F' : Nat → Prop} {g : Nat} {m' : Rm} {A : Option Addr} {c : Nat} (hlt : ∀ k, F k → k < w.heap.size) (hb : Below w.heap.size w w1) (h3 : w.heap.size + 3 ≤ w1.heap.size) (hR : RgS w1 (S0 w F) A c (rot m'.l m'.t)) (hF : Fs F w1 w2) (hN : ∀ k, F' k → F k ∨ w1.heap.size ≤ k) (hT : Tr w2 F' g m') (x : Array Value) :
    StP w F g m' (.returned (.tuple #[.bool true, .agg (rrc A m'.l.length c m'.t m'.w)])) (w2.setRow (w.heap.size + 2) x) := by
  have hs := hb.size
  have hno : ∀ b, S0 w F b → ¬ F b := fun b h hFb => by
    rcases h with h | h
    · exact h.2 hFb
    · have := hlt b hFb; omega
  have h2 : ∀ b, F' b → b ≠ w.heap.size + 2 := fun b h e => by
    rcases hN b h with h1 | h1
    · have := hlt b h1; omega
    · omega
  refine ⟨A, c, F', rfl, ⟨((hR.rd.keep fun b hb' => hF.block b hb'.2 (hno b hb'.1)).keep fun b hb' => setRow_other w2 (w.heap.size + 2) b x ?_).imp fun b hb' _ => ⟨fun h => ?_, ?_⟩, hR.len, hR.bd⟩, hT.keep fun k hk => setRow_other w2 (w.heap.size + 2) k x (h2 k hk), ?_, fun k hk => ?_⟩
  · rcases hb'.1 with h | h <;> omega
  · rcases hN b h with h1 | h1
    · exact hno b hb'.1 h1
    · have := hb'.2; omega
  · have := hF.size
    have := hb'.2
    simp
    omega
  · exact ((Fs.of_below (S := F) (w := w) (w' := w1) hb).trans (S' := F) hF (fun k _ h => h)).setRow (fun h => by omega) x
  · rcases hN k hk with h1 | h1
    · exact .inl h1
    · exact .inr (by omega)
/-- The ring's variable, made and stored into. -/
theorem one_rr (w : World) (A : Option Addr) (n c f : Nat) (l : Int) : ∃ w', (w.alloc (.cells #[.slice none 0 0, .int .i64 0, .int .i64 0, .bool false] 31)).setRow w.heap.size (rrc A n c f l) = w' ∧ Row (w.alloc (.cells #[.slice none 0 0, .int .i64 0, .int .i64 0, .bool false] 31)) w.heap.size 31 (rrc none 0 0 0 0) ∧
    Row w' w.heap.size 31 (rrc A n c f l) ∧ Below w.heap.size w w' ∧ w'.heap.size = w.heap.size + 1 :=
  ⟨_, rfl, Row.new w _ _, (Row.new w _ _).setRow _, below_setRow ((Below.refl _ _).alloc (Nat.le_refl _) _) _ _ (Nat.le_refl _), by simp⟩
/-- What a function hands back: a value, and what a variable holds. -/
theorem ret_vag {P : Program} {w : World} {g : Nat} {T : TypeId} {cs : Array Value} {fn : Func} {p q : Tmp} {v : Value} (h : fn.results = #[.tmp q, .cell p T]) (tmps : Array Value) (hq : tmps.getD q undef = v) (hp : tmps.getD p undef = .pointer (some ⟨g, 0, none⟩)) (hR : Row w g T cs) (hk : AgOk P T cs) :
    (results fn tmps).run P w = .ok (.tuple #[v, .agg cs]) w := by
  have hl := run_ld hk hR
  have hp' : tmps[p]?.getD undef = .pointer (some ⟨g, 0, none⟩) := by simpa using hp
  have hq' : tmps[q]?.getD undef = v := by simpa using hq
  simp only [results, h]
  simp [hp', hq', asAddr, hl]
theorem rr_size (A : Option Addr) (n c f : Nat) (l : Int) : (rrc A n c f l).size = 4 := rfl
attribute [local irreducible] snc rrc ovc rmOpen
set_option maxRecDepth 100000 in
set_option maxHeartbeats 4000000 in
theorem step_open {w : World} {F : Nat → Prop} {g : Nat} {m : Rm} {A : Option Addr} {c : Nat} (hT : Tr w F g m) (hm : m.Ok) (hs : m.Sm) (hR : RgS w (fun b => ¬ F b) A c (rot m.l m.t)) (o : Ov) (hk : o.kd = 0) :
    Calls Try.prog 12 #[.pointer (some ⟨g, 0, none⟩), .agg (rrc A m.l.length c m.t m.w), .agg (ovc o)] w (StP w F g (rmOpen m o.st o.n).1) := by
  obtain ⟨w0, hw0, t1, t2, t3, t4, t5⟩ := three_ref w (rrc A m.l.length c m.t m.w) (ovc o) #[.slice none 0 0, .int .i64 0, .int .i64 0, .bool false] 31 36 31
  have HW := Lib.hid hw0
  rw [rr_zero] at t3
  have T1 := Lib.hid t1
  have T2 := Lib.hid t2
  have T3 := Lib.hid t3
  have T4 := Lib.hid t4
  have HLT := Lib.hid hT.lts
  have HT0 := Lib.hid (hT.below t4)
  have HR0 := Lib.hid (hR.begin t4)
  have hw3 : w.heap.size + 3 ≤ w0.heap.size := by omega
  obtain ⟨c0, c1, c2, _, _, _, _⟩ := ov_cells t2
  rw [hk] at c0
  have HOP := Lib.hid (fun (W : World) (S : Nat → Prop) (h : RgS W S A c (rot m.l m.t)) => openM hm h o.st o.n (by have := hs.few; omega))
  have HTO := Lib.hid (fun (W : World) (h : Tr W F g m) => topen_any h hm hs o.st o.n)
  clear hw0 t1 t2 t3 t4 hT hR hk hm hs
  go_enter Try.func12, Try.ntmps12
  go_upto_region 1 with fail
  rw [HW.out]
  clear HW
  generalize (rmOpen m o.st o.n).1 = m' at *
  generalize (rmOpen m o.st o.n).2 = ok at *
  go_wp2_with (refine wpList_ld rfl _ rfl rfl T1.out (rr_ok _ _ _ _ _) ?_)
  refine (HOP.out _ _ HR0.out).mono ?_
  rintro e w1 ⟨A1, c1', rfl, hR1, hb1⟩
  have HR1 := Lib.hid (hR1.made hw3)
  have HT1 := Lib.hid (HT0.out.below hb1)
  have T21 := Lib.hid (T2.out.below hb1 T2.out.lt)
  have T31 := Lib.hid (T3.out.below hb1 T3.out.lt)
  have T41 := Lib.hid (T4.out.trans (hb1.mono T4.out.size))
  clear hb1 hR1 HT0 HR0 T1 T2 T3 T4 c0 c1 c2 HOP
  obtain ⟨w2, hw2, u1, u2, u3, u4⟩ := one_rr w1 A1 m'.l.length c1' m'.t m'.w
  rw [← rr_zero] at u1
  have HW2 := Lib.hid hw2
  have U1 := Lib.hid u1
  have U2 := Lib.hid u2
  have HR2 := Lib.hid (HR1.out.on u3)
  have hw23 : w.heap.size + 3 ≤ w2.heap.size := by have := T31.out.lt; have := u3.size; omega
  have HW23 := Lib.hid hw23
  have HT2 := Lib.hid (HT1.out.below u3)
  have T22 := Lib.hid (T21.out.below u3 T21.out.lt)
  have T32 := Lib.hid (T31.out.below u3 T31.out.lt)
  have T42 := Lib.hid (T41.out.trans (u3.mono T41.out.size))
  have hpp : w.heap.size + 2 < w1.heap.size := T31.out.lt
  clear hw2 u1 u2 u3 u4 hw3 hw23 HR1 HT1 T21 T31 T41
  go_upto_region 4 with (refine wpList_sw (cs := rrc A1 m'.l.length c1' m'.t m'.w) rfl _ _ rfl rfl rfl U1.out (by rw [rr_size]; rfl) (rr_ok _ _ _ _ _) ?_)
  rw [HW2.out]
  clear HW2 U1
  generalize w1.heap.size = p at *
  have d1 : w2.drew.cell? ⟨w.heap.size + 1, 1, none⟩ = some (.int .u32 o.st) := (ov_cells T22.out).2.1
  have d2 : w2.drew.cell? ⟨w.heap.size + 1, 2, none⟩ = some (.int .i64 o.n) := (ov_cells T22.out).2.2.1
  refine wp_region_E 10 (fun w' => Row w' p 31 (rrc A1 m'.l.length c1' m'.t m'.w) ∧ w'.cell? ⟨w.heap.size + 1, 1, none⟩ = some (.int .u32 o.st) ∧ w'.cell? ⟨w.heap.size + 1, 2, none⟩ = some (.int .i64 o.n)) (by kernel_rfl) ⟨U2.out, d1, d2⟩ (fun hHeld => ?_)
  refine wpAnyE_take (i := 0) (v := ?v0) rfl (by kernel_rfl) (by kernel_rfl) (by kernel_rfl) (by kernel_rfl) (fun _ _ _ h => h) (Or.inl ⟨by rfl, ?hy0⟩) (by assumption) ?rest0
  case hy0 => (intro w hSw; (try dsimp only at hSw); go_simp <;> with_reducible rfl)
  try simp only [Act.put, List.getElem_toArray, List.getElem_cons_zero, List.setIfInBounds_toArray, List.set_cons_zero, List.set_cons_succ]
  refine wpAnyE_take (i := 1) (v := ?v1) rfl (by kernel_rfl) (by kernel_rfl) (by kernel_rfl) (by kernel_rfl) (fun _ _ _ h => h) (Or.inl ⟨by rfl, ?hy1⟩) (by assumption) ?rest1
  case hy1 => (intro w hSw; (try dsimp only at hSw); go_simp <;> with_reducible rfl)
  try simp only [Act.put, List.getElem_toArray, List.getElem_cons_zero, List.getElem_cons_succ, List.setIfInBounds_toArray, List.set_cons_zero, List.set_cons_succ]
  refine wpAnyE_take (i := 2) (v := ?v2) rfl (by kernel_rfl) (by kernel_rfl) (by kernel_rfl) (by kernel_rfl) (fun _ _ _ h => h) (Or.inl ⟨by rfl, ?hy2⟩) (by assumption) ?rest2
  case hy2 => (intro w hSw; (try dsimp only at hSw); go_simp <;> with_reducible rfl)
  try simp only [Act.put, List.getElem_toArray, List.getElem_cons_zero, List.getElem_cons_succ, List.setIfInBounds_toArray, List.set_cons_zero, List.set_cons_succ]
  refine wpAnyE_take (i := 3) (v := ?v3) rfl (by kernel_rfl) (by kernel_rfl) (by kernel_rfl) (by kernel_rfl) (fun _ _ _ h => h) (Or.inl ⟨by rfl, ?hy3⟩) (by assumption) ?rest3
  case hy3 => (intro w hSw; (try dsimp only at hSw); go_simp <;> with_reducible rfl)
  try simp only [Act.put, List.getElem_toArray, List.getElem_cons_zero, List.getElem_cons_succ, List.setIfInBounds_toArray, List.set_cons_zero, List.set_cons_succ]
  refine wpAnyE_take (i := 4) (v := ?v4) rfl (by kernel_rfl) (by kernel_rfl) (by kernel_rfl) (by kernel_rfl) (fun _ _ _ h => h) (Or.inl ⟨by rfl, ?hy4⟩) (by assumption) ?rest4
  case hy4 => (intro w hSw; (try dsimp only at hSw); go_simp <;> with_reducible rfl)
  try simp only [Act.put, List.getElem_toArray, List.getElem_cons_zero, List.getElem_cons_succ, List.setIfInBounds_toArray, List.set_cons_zero, List.set_cons_succ]
  refine wpAnyE_take (i := 6) (v := ?v6) rfl (by kernel_rfl) (by kernel_rfl) (by kernel_rfl) (by kernel_rfl) (fun _ _ _ h => h) (Or.inl ⟨by rfl, ?hy6⟩) (by assumption) ?rest6
  case hy6 => (intro w hSw; (try dsimp only at hSw); go_simp <;> with_reducible rfl)
  try simp only [Act.put, List.getElem_toArray, List.getElem_cons_zero, List.getElem_cons_succ, List.setIfInBounds_toArray, List.set_cons_zero, List.set_cons_succ]
  refine wpAnyE_take (i := 8) (v := _) rfl (by kernel_rfl) (by kernel_rfl) (by kernel_rfl) (by kernel_rfl) (fun _ _ _ h => h) (yields_ld (by rfl) _ rfl rfl (rr_ok _ _ _ _ _) (fun _ hSw => hSw.1)) (by assumption) ?rest8w1
  try simp only [Act.put, List.getElem_toArray, List.getElem_cons_zero, List.getElem_cons_succ, List.setIfInBounds_toArray, List.set_cons_zero, List.set_cons_succ]
  refine wpAnyE_next (i := 5) (by kernel_rfl) rfl (fun K hK => ?_)
  go_simp
  go_at_call 21
  refine (HTO.out w2.drew (HT2.out.keep (w' := w2.drew) fun _ _ => rfl)).mono ?_
  rintro e w3 ⟨rfl, F', hT3, hF3, hN3⟩
  have hF3' : Fs F w2 w3 := ⟨hF3.os, hF3.tape, hF3.output, hF3.size, hF3.block⟩
  have hlt := HLT.out
  have hnF : ∀ k, w.heap.size ≤ k → ¬ F k := fun k h1 h2 => by have := hlt k h2; omega
  have HST := Lib.hid (st_end hlt T42.out HW23.out HR2.out hF3' hN3 hT3 (rrc A1 m'.l.length c1' m'.t m'.w))
  have V2 := Lib.hid (hF3'.row (hnF _ (by omega)) U2.out)
  have T23 := Lib.hid (hF3'.row (hnF _ (by omega)) T22.out)
  have T33 := Lib.hid (hF3'.row (hnF _ (by omega)) T32.out)
  clear hT3 hF3 hF3' hN3 hnF U2 T22 T32 T42 HR2 HT2 d1 d2 HTO hHeld
  have d1 := (ov_cells T23.out).2.1
  have d2 := (ov_cells T23.out).2.2.1
  go_simp
  refine hK.out _ _ ⟨V2.out, d1, d2⟩ (fun hHeld => ?_)
  clear hK K
  try simp only [Act.put, List.getElem_toArray, List.getElem_cons_zero, List.getElem_cons_succ, List.setIfInBounds_toArray, List.set_cons_zero, List.set_cons_succ]
  refine wpAnyE_take (i := 7) (v := ?v7q2) rfl (by kernel_rfl) (by kernel_rfl) (by kernel_rfl) (by kernel_rfl) (fun _ _ _ h => h) (Or.inl ⟨by rfl, ?hy7q2⟩) (by assumption) ?rest7q2
  case hy7q2 => (intro w hSw; (try dsimp only at hSw); go_simp <;> with_reducible rfl)
  try simp only [Act.put, List.getElem_toArray, List.getElem_cons_zero, List.getElem_cons_succ, List.setIfInBounds_toArray, List.set_cons_zero, List.set_cons_succ]
  refine wpAnyE_take (i := 9) (v := ?v9q2) rfl (by kernel_rfl) (by kernel_rfl) (by kernel_rfl) (by kernel_rfl) (fun _ _ _ h => h) (Or.inl ⟨by rfl, ?hy9q2⟩) (by assumption) ?rest9q2
  case hy9q2 => (intro w hSw; (try dsimp only at hSw); go_simp <;> with_reducible rfl)
  try simp only [Act.put, List.getElem_toArray, List.getElem_cons_zero, List.getElem_cons_succ, List.setIfInBounds_toArray, List.set_cons_zero, List.set_cons_succ]
  refine wpAnyE_last (by kernel_rfl) rfl (by kernel_rfl) (fun K hK => ?_)
  refine step_sw (cs := rrc A1 m'.l.length c1' m'.t m'.w) rfl _ _ rfl rfl rfl T33.out (rr_sz _ _ _ _ _ _ _ _ _ _) (rr_ok _ _ _ _ _) ?_
  refine hK.out _ _ ?_
  clear hK K hHeld d1 d2
  try simp only [Act.put, List.getElem_toArray, List.getElem_cons_zero, List.getElem_cons_succ]
  have V3 := Lib.hid (T33.out.setRow (rrc A1 m'.l.length c1' m'.t m'.w))
  clear T33 T23 V2
  go_wp2_with fail
  exact bodyPost_ret (ret_vag (v := .bool true) rfl _ rfl rfl V3.out (rr_ok _ _ _ _ _)) rfl HST.out
end Go.Proofs.Ytplohgaecoobaaa
