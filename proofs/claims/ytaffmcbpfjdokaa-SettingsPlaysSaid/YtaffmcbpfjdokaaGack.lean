/-
  A side's Ack, by its contract. Condition: few lists wait.
-/
import Derived.Test.YtaffmcbpfjdokaaGsend
namespace Go.Proofs.Ytaffmcbpfjdokaa
open Go.RowKit Go.WideShapes

/-- Behind an acknowledgement: what is in force, what waits, the fault's number. -/
def ackN (n : St) : List St → St × List St × Nat
  | [] => (n, [], 1)
  | a :: L => (a, L, 0)
/-- What Ack leaves. -/
def AckPost (w : World) (base g : Nat) (v : Value) (r : St × List St × Nat) (e : Ending) (w' : World) : Prop :=
  e = .returned (.tuple #[.agg r.1.c, .agg (ftc r.2.2 r.2.2)]) ∧ ∃ v', Sd w' base g r.1 v' r.2.1 ∧ Fs (sb g v) w w' ∧ Nx w v v'
theorem range_setRow {w : World} {b q k : Nat} {cs : List Value} (h : w.rangeAt b q cs) (hne : b ≠ k) (c : Array Value) : (w.setRow k c).rangeAt b q cs := fun j v hj => (World.cell?_of_block (a := ⟨b, q + j, none⟩) (setRow_other w k b c hne)).trans (h j v hj)
/-- Cells of a row, stored anew one by one. -/
def setL (cs : Array Value) : Nat → List Value → Array Value
  | _, [] => cs
  | o, v :: r => setL (cs.setIfInBounds o v) (o + 1) r
theorem row_cells {g : Nat} {t : TypeId} : ∀ (vs : List Value) (o : Nat) (w : World) (cs : Array Value), Row w g t cs → Row (w.setCells g o vs) g t (setL cs o vs)
  | [], _, _, _, h => h
  | v :: r, o, _, _, h => row_cells r (o + 1) _ _ (h.stored o v)
/-- The settings in force, stored anew. -/
theorem sd_stored {w : World} {g : Nat} {n x : St} {v : Value} (h : Row w g 57 (sdc n v)) : Row (w.setCells g 0 x.c.toList) g 57 (sdc x v) := by
  have e : setL (sdc n v) 0 x.c.toList = sdc x v := by kernel_rfl
  have h1 := row_cells x.c.toList 0 w _ h
  rw [e] at h1
  exact h1
theorem sd_there {w : World} {g : Nat} {n : St} {v : Value} (h : Row w g 57 (sdc n v)) (x : St) : w.there g 0 x.c.size := fun j hj => by
  have hj7 : j < 7 := hj
  rw [Nat.zero_add]
  refine ⟨?_, h.thawed j⟩
  rw [h.cell (v := (sdc n v)[j]'(by show j < 8; omega)) (Array.getElem?_eq_getElem _)]
  rfl
theorem cells_other (x : List Value) : ∀ (w : World) (g k o : Nat), k ≠ g → (w.setCells g o x).heap[k]? = w.heap[k]? := by
  induction x with
  | nil => intros; rfl
  | cons v r ih => intro w g k o hk; rw [World.setCells, ih _ _ _ _ hk]; exact Below.heap_setCell w _ v k hk
theorem cells_fs {S : Nat → Prop} {w w' : World} (h : Fs S w w') {g : Nat} (hg : g < w.heap.size → S g) : ∀ (x : List Value) (o : Nat), Fs S w (w'.setCells g o x) := by
  intro x
  induction x generalizing w' with
  | nil => intro o; exact h
  | cons v r ih => intro o; rw [World.setCells]; exact ih (h.setCell hg o v) _
theorem step_swm {P : Program} {T : TypeId} {cs : Array Value} {ops : Array Oper} {o : Oper} {a : Act} {w : World} {K : Act → World → Prop} {Q : Exit → Act → World → Prop} {E : Prop} (hgd : o.guard = none) (p q : Operand) (ho : o.op = .store T p q) {b i : Nat} (hp : a.eval p = .pointer (some ⟨b, i, none⟩)) (hv : a.eval q = .agg cs) (ht : w.there b i cs.size) (hk : AgOk P T cs)
    (hq : K (a.put o.dst undef) (w.setCells b i cs.toList)) : if Region.wanted o (yielded ops a.tmps) = true then Oper.wp P o a w K Q else E := by
  have hw : Region.wanted o (yielded ops a.tmps) = true := by simp [Region.wanted, hgd]
  rw [if_pos hw]
  exact wp_store_mid T p q ho b i cs hp hv ht hk.s hk.o hq
attribute [local irreducible] St.c ftc sec

set_option maxRecDepth 100000 in
set_option maxHeartbeats 4000000 in
theorem ack_none {w : World} {base g : Nat} {n : St} {v : Value} (h : Sd w base g n v []) :
    Calls Try.prog 16 #[.pointer (some ⟨g, 0, none⟩)] w (AckPost w base g v (n, [], 1)) := by
  obtain ⟨r2, r3, rb, rs⟩ := two_res w
  have H2 := Lib.hid r2
  have H3 := Lib.hid r3
  have HB := Lib.hid rb
  have H := Lib.hid (h.below rb)
  have hgl := h.row.lt
  have HLT := Lib.hid h.lts
  obtain ⟨A1, c1, rfl⟩ := h.shape
  have hsn := H.out.sent
  clear r2 r3 rb rs h
  go_enter Try.func16, Try.ntmps16
  go_upto_region 1 with fail
  generalize (w.alloc (.cells #[.int .u32 0, .bool false, .int .u32 0, .int .u32 0, .int .u32 0, .int .u32 0, .bool false] 24)).alloc (.cells #[.int .u8 0, .int .u32 0] 28) = w1 at *
  go_wp2_with fail
  clear hsn
  refine wp_region_held_drew (S := fun w' => w'.rangeAt g 0 n.c.toList) (by kernel_rfl) H.out.now (fun hHeld => ?_)
  refine wpAnyH_take (i := 0) (v := ?v0) rfl (by kernel_rfl) (by kernel_rfl) (by kernel_rfl) (fun _ _ _ h => h) (Or.inl ⟨by rfl, ?hy0⟩) (by assumption) ?rest0
  case hy0 => (intro w hSw; (try dsimp only at hSw); go_simp <;> with_reducible rfl)
  try simp only [Act.put, List.getElem_toArray, List.getElem_cons_zero, List.setIfInBounds_toArray, List.set_cons_zero, List.set_cons_succ]
  refine wpAnyH_take (i := 1) (v := ?v1) rfl (by kernel_rfl) (by kernel_rfl) (by kernel_rfl) (fun _ _ _ h => h) (Or.inl ⟨by rfl, ?hy1⟩) (by assumption) ?rest1
  case hy1 => (intro w hSw; (try dsimp only at hSw); go_simp <;> with_reducible rfl)
  try simp only [Act.put, List.getElem_toArray, List.getElem_cons_zero, List.getElem_cons_succ, List.setIfInBounds_toArray, List.set_cons_zero, List.set_cons_succ]
  refine wpAnyH_take (i := 2) (v := ?v2) rfl (by kernel_rfl) (by kernel_rfl) (by kernel_rfl) (fun _ _ _ h => h) (Or.inl ⟨by rfl, ?hy2⟩) (by assumption) ?rest2
  case hy2 => (intro w hSw; (try dsimp only at hSw); go_simp <;> with_reducible rfl)
  try simp only [Act.put, List.getElem_toArray, List.getElem_cons_zero, List.getElem_cons_succ, List.setIfInBounds_toArray, List.set_cons_zero, List.set_cons_succ]
  refine wpAnyH_take (i := 3) (v := _) rfl (by kernel_rfl) (by kernel_rfl) (by kernel_rfl) (fun _ _ _ h => h) (yields_ldm (by rfl) _ rfl rfl (St.ok _) (fun _ hSw => hSw)) (by assumption) ?rest3w1
  try simp only [Act.put, List.getElem_toArray, List.getElem_cons_zero, List.getElem_cons_succ, List.setIfInBounds_toArray, List.set_cons_zero, List.set_cons_succ]
  refine wpAnyH_ready (rs := [4]) (by kernel_rfl) (by simp) ?_
  refine AllReadyH.cons rfl (fun K hK => ?_) AllReadyH.nil
  go_simp
  go_at_call 25
  refine (connFault_any 1 _).mono ?_
  rintro e w4 ⟨rfl, hb4⟩
  have hb4' : Below w1.heap.size w1 w4 := hb4.mono (Nat.le_refl _) |> fun h => ((Below.refl _ _).drew).trans h
  have H4 := Lib.hid (H.out.below hb4')
  have H24 := Lib.hid (H2.out.below hb4' H2.out.lt)
  have H34 := Lib.hid (H3.out.below hb4' H3.out.lt)
  have HB4 := Lib.hid (HB.out.trans (hb4'.mono HB.out.size))
  clear hb4 hb4' H H2 H3 HB hHeld
  go_simp
  refine hK.out _ _ H4.out.now (fun hHeld => ?_)
  clear hK K
  try simp only [Act.put, List.getElem_toArray, List.getElem_cons_zero, List.getElem_cons_succ, List.setIfInBounds_toArray, List.set_cons_zero, List.set_cons_succ]
  refine wpAnyH_ready (rs := [5]) (by kernel_rfl) (by simp) ?_
  refine AllReadyH.cons rfl (fun K hK => ?_) AllReadyH.nil
  refine step_sw (cs := n.c) rfl (.tmp 2) (.tmp 17) rfl rfl rfl H24.out (St.sz _ _) (St.ok _) ?_
  refine hK.out _ _ (range_setRow hHeld (by omega) _) (fun hHeld => ?_)
  clear hK K
  try simp only [Act.put, List.getElem_toArray, List.getElem_cons_zero, List.getElem_cons_succ]
  refine wpAnyH_ready (rs := [6]) (by kernel_rfl) (by simp) ?_
  refine AllReadyH.cons rfl (fun K hK => ?_) AllReadyH.nil
  refine step_sw (cs := ftc 1 1) rfl (.tmp 3) (.tmp 18) rfl rfl rfl (H34.out.setRow' (k := w.heap.size) (by omega) n.c) (ft_sz _ _ _ _) (ft_ok _ _) ?_
  refine hK.out _ _ (range_setRow hHeld (by omega) _) (fun hHeld => ?_)
  clear hK K
  try simp only [Act.put, List.getElem_toArray, List.getElem_cons_zero, List.getElem_cons_succ]
  refine wpAnyH_done (by kernel_rfl) ?_ _
  go_wp2_with fail
  have hf : Fs (fun k => k = w.heap.size ∨ k = w.heap.size + 1) w4 ((w4.setRow w.heap.size n.c).setRow (w.heap.size + 1) (ftc 1 1)) := Fs.setRow (Fs.setRow (Fs.refl _ w4) (fun _ => .inl rfl) n.c) (fun _ => .inr rfl) (ftc 1 1)
  refine bodyPost_ret (ret_ag2 rfl _ rfl ((H24.out.setRow n.c).setRow' (k := w.heap.size + 1) (by omega) (ftc 1 1)) (St.ok _) rfl ((H34.out.setRow' (k := w.heap.size) (by omega) n.c).setRow (ftc 1 1)) (ft_ok _ _)) rfl ?_
  exact ⟨rfl, _, H4.out.fs hf (fun k hk e => by have := HLT.out k hk; omega), (Fs.of_below HB4.out).trans hf (fun k hk e => by omega), Nx.refl _ _⟩

set_option maxRecDepth 100000 in
set_option maxHeartbeats 4000000 in
theorem ack_some {w : World} {base g : Nat} {n a : St} {v : Value} {L : List St} (h : Sd w base g n v (a :: L)) (hl : L.length ≤ 100000) :
    Calls Try.prog 16 #[.pointer (some ⟨g, 0, none⟩)] w (AckPost w base g v (a, L, 0)) := by
  obtain ⟨r2, r3, rb, rs⟩ := two_res w
  have H2 := Lib.hid r2
  have H3 := Lib.hid r3
  have HB := Lib.hid rb
  have H := Lib.hid (h.below rb)
  have hgl := h.row.lt
  have HLT := Lib.hid h.lts
  obtain ⟨A1, c1, rfl⟩ := h.shape
  have hsn := H.out.sent
  obtain ⟨b, q, rfl, hbo, hrg⟩ := H.out.own.reads.elem st_llen (i := 0) (by simp) (by omega)
  simp only [List.getElem_cons_zero, Nat.zero_mul, Nat.add_zero] at hrg
  rw [← St.cl a] at hrg
  have HRG := Lib.hid hrg
  have hbg : ¬ b = g := fun e => H.out.ne (by rw [hbo, e])
  obtain ⟨i0, hi0, hz0, hz1, hz2⟩ := info_parts st_full
  obtain ⟨A2, hcut, hown2, hob2⟩ := run_tail (P := Try.prog) _ base 44 24 i0 7 Try.underlying44 hi0 hz1 H.out.own 1 (by simp)
  rw [Nat.one_mul] at hown2
  have hdr : (enl St.l (a :: L)).drop 7 = enl St.l L := by have := enl_drop st_llen (a :: L) 1; rw [Nat.one_mul] at this; exact this
  rw [hdr] at hown2
  rw [show (a :: L).length - 1 = L.length from rfl] at hcut hown2 hob2
  rw [show (a :: L).length = L.length + 1 from rfl] at *
  have HO2 := Lib.hid hown2
  have HOB := Lib.hid hob2
  have k1 : (0 : Int) < ((L.length + 1 : Nat) : Int) := by omega
  have e1 : ((L.length : Int) + 1 == 0) = false := (show (((L.length + 1 : Nat) : Int) == 0) = false from (nat_eq (L.length + 1) 0).trans (decide_eq_false (by omega)))
  have hcut' : ∀ W, (Instr.slice 44 (.slice (some ⟨b, q, none⟩) (L.length + 1) c1) (some (.int .i64 1)) none none).run Try.prog W = .ok (.slice A2 L.length (c1 - 1)) W := hcut
  clear r2 r3 rb rs h hrg hbo hown2 hob2 hdr hcut hi0 hz0 hz1 hz2
  go_enter Try.func16, Try.ntmps16
  go_upto_region 1 with fail
  generalize (w.alloc (.cells #[.int .u32 0, .bool false, .int .u32 0, .int .u32 0, .int .u32 0, .int .u32 0, .bool false] 24)).alloc (.cells #[.int .u8 0, .int .u32 0] 28) = w1 at *
  go_wp2_with fail
  refine wp_region_E 18 (fun w' => w'.cell? ⟨g, 7, none⟩ = some (.slice (some ⟨b, q, none⟩) (L.length + 1) c1) ∧ w'.rangeAt b q a.c.toList) (by kernel_rfl) ⟨hsn, HRG.out⟩ (fun hHeld => ?_)
  refine wpAnyE_take (i := 0) (v := ?v0q3) rfl (by kernel_rfl) (by kernel_rfl) (by kernel_rfl) (by kernel_rfl) (fun _ _ _ h => h) (Or.inl ⟨by rfl, ?hy0q3⟩) (by assumption) ?rest0q3
  case hy0q3 => (intro w hSw; (try dsimp only at hSw); go_simp <;> with_reducible rfl)
  try simp only [Act.put, List.getElem_toArray, List.getElem_cons_zero, List.setIfInBounds_toArray, List.set_cons_zero, List.set_cons_succ]
  refine wpAnyE_take (i := 1) (v := ?v1q3) rfl (by kernel_rfl) (by kernel_rfl) (by kernel_rfl) (by kernel_rfl) (fun _ _ _ h => h) (Or.inl ⟨by rfl, ?hy1q3⟩) (by assumption) ?rest1q3
  case hy1q3 => (intro w hSw; (try dsimp only at hSw); go_simp <;> with_reducible rfl)
  try simp only [Act.put, List.getElem_toArray, List.getElem_cons_zero, List.getElem_cons_succ, List.setIfInBounds_toArray, List.set_cons_zero, List.set_cons_succ]
  refine wpAnyE_take (i := 2) (v := ?v2q3) rfl (by kernel_rfl) (by kernel_rfl) (by kernel_rfl) (by kernel_rfl) (fun _ _ _ h => h) (Or.inl ⟨by rfl, ?hy2q3⟩) (by assumption) ?rest2q3
  case hy2q3 => (intro w hSw; (try dsimp only at hSw); go_simp <;> with_reducible rfl)
  try simp only [Act.put, List.getElem_toArray, List.getElem_cons_zero, List.getElem_cons_succ, List.setIfInBounds_toArray, List.set_cons_zero, List.set_cons_succ]
  refine wpAnyE_take (i := 3) (v := ?v3q3) rfl (by kernel_rfl) (by kernel_rfl) (by kernel_rfl) (by kernel_rfl) (fun _ _ _ h => h) (Or.inl ⟨by rfl, ?hy3q3⟩) (by assumption) ?rest3q3
  case hy3q3 => (intro w hSw; (try dsimp only at hSw); go_simp <;> with_reducible rfl)
  try simp only [Act.put, List.getElem_toArray, List.getElem_cons_zero, List.getElem_cons_succ, List.setIfInBounds_toArray, List.set_cons_zero, List.set_cons_succ]
  refine wpAnyE_take (i := 4) (v := ?v4q3) rfl (by kernel_rfl) (by kernel_rfl) (by kernel_rfl) (by kernel_rfl) (fun _ _ _ h => h) (Or.inl ⟨by rfl, ?hy4q3⟩) (by assumption) ?rest4q3
  case hy4q3 => (intro w hSw; (try dsimp only at hSw); go_simp <;> with_reducible rfl)
  try simp only [Act.put, List.getElem_toArray, List.getElem_cons_zero, List.getElem_cons_succ, List.setIfInBounds_toArray, List.set_cons_zero, List.set_cons_succ]
  refine wpAnyE_take (i := 5) (v := ?v5q3) rfl (by kernel_rfl) (by kernel_rfl) (by kernel_rfl) (by kernel_rfl) (fun _ _ _ h => h) (Or.inl ⟨by rfl, ?hy5q3⟩) (by assumption) ?rest5q3
  case hy5q3 => (intro w hSw; (try dsimp only at hSw); go_simp <;> with_reducible rfl)
  try simp only [Act.put, List.getElem_toArray, List.getElem_cons_zero, List.getElem_cons_succ, List.setIfInBounds_toArray, List.set_cons_zero, List.set_cons_succ]
  refine wpAnyE_take (i := 6) (v := ?v6q3) rfl (by kernel_rfl) (by kernel_rfl) (by kernel_rfl) (by kernel_rfl) (fun _ _ _ h => h) (Or.inl ⟨by rfl, ?hy6q3⟩) (by assumption) ?rest6q3
  case hy6q3 => (intro w hSw; (try dsimp only at hSw); go_simp <;> with_reducible rfl)
  try simp only [Act.put, List.getElem_toArray, List.getElem_cons_zero, List.getElem_cons_succ, List.setIfInBounds_toArray, List.set_cons_zero, List.set_cons_succ]
  refine wpAnyE_take (i := 7) (v := _) rfl (by kernel_rfl) (by kernel_rfl) (by kernel_rfl) (by kernel_rfl) (fun _ _ _ h => h) (yields_ldm (by rfl) _ rfl rfl (St.ok _) (fun _ hSw => hSw.2)) (by assumption) ?rest7w2
  try simp only [Act.put, List.getElem_toArray, List.getElem_cons_zero, List.getElem_cons_succ, List.setIfInBounds_toArray, List.set_cons_zero, List.set_cons_succ]
  refine wpAnyE_take (i := 8) (v := ?v8q4) rfl (by kernel_rfl) (by kernel_rfl) (by kernel_rfl) (by kernel_rfl) (fun _ _ _ h => h) (Or.inl ⟨by rfl, ?hy8q4⟩) (by assumption) ?rest8q4
  case hy8q4 => (intro w hSw; (try dsimp only at hSw); go_simp <;> with_reducible rfl)
  try simp only [Act.put, List.getElem_toArray, List.getElem_cons_zero, List.getElem_cons_succ, List.setIfInBounds_toArray, List.set_cons_zero, List.set_cons_succ]
  refine wpAnyE_take (i := 9) (v := ?v9q4) rfl (by kernel_rfl) (by kernel_rfl) (by kernel_rfl) (by kernel_rfl) (fun _ _ _ h => h) (Or.inl ⟨by rfl, ?hy9q4⟩) (by assumption) ?rest9q4
  case hy9q4 => (intro w hSw; (try dsimp only at hSw); go_simp <;> with_reducible rfl)
  try simp only [Act.put, List.getElem_toArray, List.getElem_cons_zero, List.getElem_cons_succ, List.setIfInBounds_toArray, List.set_cons_zero, List.set_cons_succ]
  refine wpAnyE_take (i := 10) (v := ?v10q4) rfl (by kernel_rfl) (by kernel_rfl) (by kernel_rfl) (by kernel_rfl) (fun _ _ _ h => h) (Or.inl ⟨by rfl, ?hy10q4⟩) (by assumption) ?rest10q4
  case hy10q4 => (intro w hSw; (try dsimp only at hSw); go_simp <;> with_reducible rfl)
  try simp only [Act.put, List.getElem_toArray, List.getElem_cons_zero, List.getElem_cons_succ, List.setIfInBounds_toArray, List.set_cons_zero, List.set_cons_succ]
  refine wpAnyE_take (i := 11) (v := ?v11q4) rfl (by kernel_rfl) (by kernel_rfl) (by kernel_rfl) (by kernel_rfl) (fun _ _ _ h => h) (Or.inl ⟨by rfl, ?hy11q4⟩) (by assumption) ?rest11q4
  case hy11q4 => (intro w hSw; (try dsimp only at hSw); go_simp <;> with_reducible rfl)
  try simp only [Act.put, List.getElem_toArray, List.getElem_cons_zero, List.getElem_cons_succ, List.setIfInBounds_toArray, List.set_cons_zero, List.set_cons_succ]
  refine wpAnyE_take (i := 12) (v := ?v12q4) rfl (by kernel_rfl) (by kernel_rfl) (by kernel_rfl) (by kernel_rfl) (fun _ _ _ h => h) (Or.inl ⟨by rfl, ?hy12q4⟩) (by assumption) ?rest12q4
  case hy12q4 => (intro w hSw; (try dsimp only at hSw); go_simp <;> with_reducible rfl)
  try simp only [Act.put, List.getElem_toArray, List.getElem_cons_zero, List.getElem_cons_succ, List.setIfInBounds_toArray, List.set_cons_zero, List.set_cons_succ]
  refine wpAnyE_take (i := 13) (v := ?v13q5) rfl (by kernel_rfl) (by kernel_rfl) (by kernel_rfl) (by kernel_rfl) (fun _ _ _ h => h) (Or.inl ⟨by rfl, ?hy13q5⟩) (by assumption) ?rest13q5
  case hy13q5 => (intro w hSw; (try dsimp only at hSw); go_simp <;> with_reducible rfl)
  try simp only [Act.put, List.getElem_toArray, List.getElem_cons_zero, List.getElem_cons_succ, List.setIfInBounds_toArray, List.set_cons_zero, List.set_cons_succ]
  refine wpAnyE_take (i := 14) (v := ?v14q5) rfl (by kernel_rfl) (by kernel_rfl) (by kernel_rfl) (by kernel_rfl) (fun _ _ _ h => h) (Or.inl ⟨by rfl, ?hy14q5⟩) (by assumption) ?rest14q5
  case hy14q5 => (intro w hSw; (try dsimp only at hSw); go_simp <;> with_reducible rfl)
  try simp only [Act.put, List.getElem_toArray, List.getElem_cons_zero, List.getElem_cons_succ, List.setIfInBounds_toArray, List.set_cons_zero, List.set_cons_succ]
  refine wpAnyE_next (i := 15) (by kernel_rfl) rfl (fun K hK => ?_)
  have hbd : Below w1.heap.size w1 w1.drew := (Below.refl _ _).drew
  have hfs := cells_fs (S := fun k => k = g) (g := g) (Fs.refl _ w1.drew) (fun _ => rfl) a.c.toList 0
  have hrow := sd_stored (x := a) (H.out.below hbd).row
  have hth := sd_there (H.out.below hbd).row a
  have hc7 := hrow.cell (j := 7) rfl
  have hrg2 : (w1.drew.setCells g 0 a.c.toList).rangeAt b q a.c.toList := fun j u hj => (World.cell?_of_block (a := ⟨b, q + j, none⟩) (cells_other _ _ _ _ _ hbg)).trans (HRG.out j u hj)
  have z7 := hrow.thawed 7
  have hobs : ∀ k, (Value.slice A2 L.length (c1 - 1)).ownBlock = some k → k ≠ g ∧ k < w.heap.size := fun k hk => by
    rw [HOB.out] at hk
    exact ⟨fun e => H.out.ne (by rw [hk, e]), (HLT.out k (.inr hk)).2⟩
  have hown6 : OwS (w1.drew.setCells g 0 a.c.toList) base 24 7 (.slice A2 L.length (c1 - 1)) L.length (enl St.l L) := (HO2.out.below hbd).keep fun k hk => cells_other _ _ _ _ _ (hobs k hk).1
  have H7 : Hid (Sd ((w1.drew.setCells g 0 a.c.toList).setCell ⟨g, 7, none⟩ (.slice A2 L.length (c1 - 1))) base g a (.slice A2 L.length (c1 - 1)) L) :=
    ⟨hrow.stored 7 _, hown6.setCell (by rw [HOB.out]; exact H.out.ne) _, H.out.gl, by rw [HOB.out]; exact H.out.ne⟩
  have hfs7 := hfs.setCell (g := g) (fun _ => rfl) 7 (.slice A2 L.length (c1 - 1))
  have HF7 : Hid (Fs (sb g (.slice (some ⟨b, q, none⟩) (L.length + 1) c1)) w ((w1.drew.setCells g 0 a.c.toList).setCell ⟨g, 7, none⟩ (.slice A2 L.length (c1 - 1)))) := ((Fs.of_below HB.out).drewN 1).trans hfs7 (fun k _ e => .inl e)
  have H27 := Lib.hid (hfs7.row (by omega) (show Row w1.drew _ _ _ from H2.out))
  have H37 := Lib.hid (hfs7.row (by omega) (show Row w1.drew _ _ _ from H3.out))
  have HBL := Lib.hid hobs
  clear hbd hfs hown6 hfs7 hobs HRG HO2 H H2 H3 HB hsn hHeld
  refine step_swm (cs := a.c) rfl (.tmp 33) (.tmp 26) rfl rfl rfl hth (St.ok _) ?_
  refine hK.out _ _ ⟨hc7, hrg2⟩ (fun hHeld => ?_)
  clear hK K hth
  try simp only [Act.put, List.getElem_toArray, List.getElem_cons_zero, List.getElem_cons_succ]
  refine wpAnyE_take (i := 16) (v := ?v16q6) rfl (by kernel_rfl) (by kernel_rfl) (by kernel_rfl) (by kernel_rfl) (fun _ _ _ h => h) (Or.inl ⟨by rfl, ?hy16q6⟩) (by assumption) ?rest16q6
  case hy16q6 => (intro w hSw; (try dsimp only at hSw); go_simp <;> with_reducible rfl)
  try simp only [Act.put, List.getElem_toArray, List.getElem_cons_zero, List.getElem_cons_succ, List.setIfInBounds_toArray, List.set_cons_zero, List.set_cons_succ]
  refine wpAnyE_take (i := 17) (v := ?v17q6) rfl (by kernel_rfl) (by kernel_rfl) (by kernel_rfl) (by kernel_rfl) (fun _ _ _ h => h) (Or.inl ⟨by rfl, ?hy17q6⟩) (by assumption) ?rest17q6
  case hy17q6 => (intro w hSw; (try dsimp only at hSw); go_simp <;> with_reducible rfl)
  try simp only [Act.put, List.getElem_toArray, List.getElem_cons_zero, List.getElem_cons_succ, List.setIfInBounds_toArray, List.set_cons_zero, List.set_cons_succ]
  refine wpAnyE_last (by kernel_rfl) rfl (by kernel_rfl) (fun K hK => ?_)
  go_simp
  refine hK.out _ _ ?_
  clear hK K hHeld hc7 hrg2 z7 hrow hcut'
  try simp only [Act.put, List.getElem_toArray, List.getElem_cons_zero, List.getElem_cons_succ, List.setIfInBounds_toArray, List.set_cons_zero, List.set_cons_succ]
  generalize (w1.drew.setCells g 0 a.c.toList).setCell ⟨g, 7, none⟩ (.slice A2 L.length (c1 - 1)) = w7 at *
  have hsn := H7.out.sent
  have hzf : ftc 0 0 = #[.int .u8 0, .int .u32 0] := by unfold ftc; rfl
  have HZF := Lib.hid hzf
  have HX := Lib.hid (Nx.of_new (w := w) (Or.inl HOB.out))
  clear hzf
  by_cases h0 : L.length = 0
  · have hL : L = [] := List.eq_nil_of_length_eq_zero h0
    subst hL
    have z7 := H7.out.row.thawed 7
    have H8 : Hid (Sd (w7.setCell ⟨g, 7, none⟩ (.slice none 0 0)) base g a (.slice none 0 0) []) := ⟨H7.out.row.stored 7 _, OwS.nil, H7.out.gl, by simp [Value.ownBlock]⟩
    have HF8 := Lib.hid (HF7.out.setCell (g := g) (fun _ => .inl rfl) 7 (.slice none 0 0))
    have H28 := Lib.hid (H27.out.stored' (a := ⟨g, 7, none⟩) (by show w.heap.size ≠ g; omega) (.slice none 0 0))
    have H38 := Lib.hid (H37.out.stored' (a := ⟨g, 7, none⟩) (by show w.heap.size + 1 ≠ g; omega) (.slice none 0 0))
    have HN8 := Lib.hid H8.out.now
    clear h0
    go_upto_region 8 with fail
    clear z7 hsn H7 HF7 H27 H37
    generalize w7.setCell ⟨g, 7, none⟩ (.slice none 0 0) = w8 at *
    go_wp2_with (first | (refine wpList_ldm (cs := a.c) rfl _ rfl rfl HN8.out (St.ok _) ?_) | (refine wpList_sw (cs := a.c) rfl _ _ rfl rfl rfl H28.out (St.sz _ _) (St.ok _) ?_) | (refine wpList_sw (cs := ftc 0 0) rfl _ _ rfl rfl (by rw [HZF.out]; rfl) (H38.out.setRow' (k := w.heap.size) (by omega) a.c) (ft_sz _ _ _ _) (ft_ok _ _) ?_))
    have hf : Fs (fun k => k = w.heap.size ∨ k = w.heap.size + 1) w8 ((w8.setRow w.heap.size a.c).setRow (w.heap.size + 1) (ftc 0 0)) := Fs.setRow (Fs.setRow (Fs.refl _ w8) (fun _ => .inl rfl) a.c) (fun _ => .inr rfl) (ftc 0 0)
    refine bodyPost_ret (ret_ag2 rfl _ rfl ((H28.out.setRow a.c).setRow' (k := w.heap.size + 1) (by omega) (ftc 0 0)) (St.ok _) rfl ((H38.out.setRow' (k := w.heap.size) (by omega) a.c).setRow (ftc 0 0)) (ft_ok _ _)) rfl ?_
    refine ⟨rfl, _, H8.out.fs hf (fun k hk e => ?_), HF8.out.trans hf (fun k hk e => by omega), .inr (fun k hk => by simp [Value.ownBlock] at hk)⟩
    rcases hk with rfl | hk
    · omega
    · simp [ob, Value.ownBlock] at hk
  · have e0 : ((L.length : Int) == 0) = false := (nat_eq L.length 0).trans (decide_eq_false h0)
    have HN8 := Lib.hid H7.out.now
    clear h0
    go_wp2_with (first | (refine wpList_ldm (cs := a.c) rfl _ rfl rfl HN8.out (St.ok _) ?_) | (refine wpList_sw (cs := a.c) rfl _ _ rfl rfl rfl H27.out (St.sz _ _) (St.ok _) ?_) | (refine wpList_sw (cs := ftc 0 0) rfl _ _ rfl rfl (by rw [HZF.out]; rfl) (H37.out.setRow' (k := w.heap.size) (by omega) a.c) (ft_sz _ _ _ _) (ft_ok _ _) ?_))
    have hf : Fs (fun k => k = w.heap.size ∨ k = w.heap.size + 1) w7 ((w7.setRow w.heap.size a.c).setRow (w.heap.size + 1) (ftc 0 0)) := Fs.setRow (Fs.setRow (Fs.refl _ w7) (fun _ => .inl rfl) a.c) (fun _ => .inr rfl) (ftc 0 0)
    refine bodyPost_ret (ret_ag2 rfl _ rfl ((H27.out.setRow a.c).setRow' (k := w.heap.size + 1) (by omega) (ftc 0 0)) (St.ok _) rfl ((H37.out.setRow' (k := w.heap.size) (by omega) a.c).setRow (ftc 0 0)) (ft_ok _ _)) rfl ?_
    refine ⟨rfl, _, H7.out.fs hf (fun k hk e => ?_), HF7.out.trans hf (fun k hk e => by omega), HX.out⟩
    rcases hk with rfl | hk
    · omega
    · have := (HBL.out k hk).2
      omega
end Go.Proofs.Ytaffmcbpfjdokaa
