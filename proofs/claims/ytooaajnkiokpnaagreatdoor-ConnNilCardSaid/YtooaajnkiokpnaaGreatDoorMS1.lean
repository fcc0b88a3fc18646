/-
  New, Preface, HasPrefix, tooGreat, by their contracts. No conditions but those that each theorem names.
  A splitter in memory; Bad, held and Held, by their contracts. Conditions: the splitter lies behind the package's variables.
  closeUp and Feed, by their contracts. Conditions: what is fed lies neither in the splitter nor in its buffer.
-/
import Derived.Test.YtooaajnkiokpnaaGreatDoorCpy
import Derived.Test.YtooaajnkiokpnaaGreatDoorSpm
import Derived.Test.YtooaajnkiokpnaaGreatDoorFin
import Derived.Deep.QuietTactic
import Derived.BigQuiet
import Derived.Test.YtooaajnkiokpnaaGreatDoorLast
import Derived.Deep.RegionHeld3
import Derived.Lib.SlBytesConst

namespace Go.Proofs.YtooaajnkiokpnaaGreatDoor
open Go.RowKit Go.WideShapes

/-- A splitter's cells. -/
def spc (v : Value) (fi la : Nat) (wt bad : Bool) : Array Value := #[v, .int .i64 fi, .int .i64 la, .bool wt, .bool bad]
/-- A good splitter: its buffer's block, what stands in it, between which places it holds something. -/
structure SpG (w : World) (g b fi la : Nat) (L : List UInt8) (wt : Bool) : Prop where
  row : Row w g 118 #[.slice (some ⟨b, 0, none⟩) 16393 16393, .int .i64 fi, .int .i64 la, .bool wt, .bool false]
  buf : Row w b 5 (byc L).toArray
  ne : b ≠ g
  len : L.length = 16393
  le : fi ≤ la
  la : la ≤ 16393
  lo : 0 < g ∧ 0 < b
/-- A bad one. -/
def SpX (w : World) (g : Nat) : Prop := Row w g 118 #[.slice none 0 0, .int .i64 0, .int .i64 0, .bool false, .bool true]
def gbS (g b : Nat) : Nat → Prop := fun k => k = g ∨ k = b
def heldL (L : List UInt8) (fi la : Nat) : List UInt8 := (L.drop fi).take (la - fi)
/-- A splitter, by what it holds; whether it waits for the preface; whether it is bad. -/
def Spl (w : World) (g b : Nat) (l : List UInt8) (wt bad : Bool) : Prop :=
  (bad = false ∧ ∃ fi la L, SpG w g b fi la L wt ∧ l = heldL L fi la) ∨ (bad = true ∧ wt = false ∧ l = [] ∧ SpX w g ∧ 0 < g ∧ b ≠ g ∧ b < w.heap.size)

section
variable {w w' : World} {g b fi la : Nat} {L l : List UInt8} {wt bad : Bool}
theorem SpG.keep (h : SpG w g b fi la L wt) (h1 : w'.heap[g]? = w.heap[g]?) (h2 : w'.heap[b]? = w.heap[b]?) : SpG w' g b fi la L wt := ⟨h1.trans h.row, h2.trans h.buf, h.ne, h.len, h.le, h.la, h.lo⟩
theorem SpG.fs {S : Nat → Prop} (h : SpG w g b fi la L wt) (hf : Fs S w w') (h1 : ¬ S g) (h2 : ¬ S b) : SpG w' g b fi la L wt := h.keep (hf.block g h.row.lt h1) (hf.block b h.buf.lt h2)
theorem SpG.below (h : SpG w g b fi la L wt) (hb : Below w.heap.size w w') : SpG w' g b fi la L wt := h.keep (hb.block g h.row.lt) (hb.block b h.buf.lt)
theorem SpG.drewN (h : SpG w g b fi la L wt) (n : Nat) : SpG (w.drewN n) g b fi la L wt := h.keep rfl rfl
theorem SpG.c0 (h : SpG w g b fi la L wt) : w.cell? ⟨g, 0, none⟩ = some (.slice (some ⟨b, 0, none⟩) 16393 16393) := h.row.cell rfl
theorem SpG.c1 (h : SpG w g b fi la L wt) : w.cell? ⟨g, 1, none⟩ = some (.int .i64 (fi : Int)) := h.row.cell rfl
theorem SpG.c2 (h : SpG w g b fi la L wt) : w.cell? ⟨g, 2, none⟩ = some (.int .i64 (la : Int)) := h.row.cell rfl
theorem SpG.c3 (h : SpG w g b fi la L wt) : w.cell? ⟨g, 3, none⟩ = some (.bool wt) := h.row.cell rfl
theorem SpG.c4 (h : SpG w g b fi la L wt) : w.cell? ⟨g, 4, none⟩ = some (.bool false) := h.row.cell rfl
theorem SpG.held_len (h : SpG w g b fi la L wt) : (heldL L fi la).length = la - fi := by
  have := h.len
  have := h.la
  unfold heldL
  rw [List.length_take, List.length_drop]
  omega
/-- What is in the buffer, as it is read. -/
theorem SpG.reads (h : SpG w g b fi la L wt) : RdB w w.heap.size (some ⟨b, 0, none⟩) L := fun _ => ⟨b, 0, rfl, h.buf.lt, fun j hj => by
  rw [Nat.zero_add]
  exact h.buf.cell (by simpa using byc_at hj)⟩
theorem SpG.set1 (h : SpG w g b fi la L wt) {fi' : Nat} (hf : fi' ≤ la) : SpG (w.setCell ⟨g, 1, none⟩ (.int .i64 (fi' : Int))) g b fi' la L wt := ⟨h.row.stored 1 _, h.buf.stored' h.ne _, h.ne, h.len, hf, h.la, h.lo⟩
theorem SpG.set2 (h : SpG w g b fi la L wt) {la' : Nat} (hf : fi ≤ la') (hl : la' ≤ 16393) : SpG (w.setCell ⟨g, 2, none⟩ (.int .i64 (la' : Int))) g b fi la' L wt := ⟨h.row.stored 2 _, h.buf.stored' h.ne _, h.ne, h.len, hf, hl, h.lo⟩
theorem SpG.set3 (h : SpG w g b fi la L wt) (wt' : Bool) : SpG (w.setCell ⟨g, 3, none⟩ (.bool wt')) g b fi la L wt' := ⟨h.row.stored 3 _, h.buf.stored' h.ne _, h.ne, h.len, h.le, h.la, h.lo⟩
theorem SpG.spl (h : SpG w g b fi la L wt) : Spl w g b (heldL L fi la) wt false := .inl ⟨rfl, fi, la, L, h, rfl⟩
theorem Spl.keep (h : Spl w g b l wt bad) (hs : w.heap.size ≤ w'.heap.size) (h1 : w'.heap[g]? = w.heap[g]?) (h2 : w'.heap[b]? = w.heap[b]?) : Spl w' g b l wt bad := by
  rcases h with ⟨h0, fi, la, L, hG, hl⟩ | ⟨h0, hw, hl, hX, hlo, hne, hb⟩
  · exact .inl ⟨h0, fi, la, L, hG.keep h1 h2, hl⟩
  · exact .inr ⟨h0, hw, hl, h1.trans hX, hlo, hne, Nat.lt_of_lt_of_le hb hs⟩
theorem Spl.lts (h : Spl w g b l wt bad) : g < w.heap.size ∧ b < w.heap.size ∧ b ≠ g ∧ 0 < g := by
  rcases h with ⟨_, fi, la, L, hG, _⟩ | ⟨_, _, _, hX, hlo, hne, hb⟩
  · exact ⟨hG.row.lt, hG.buf.lt, hG.ne, hG.lo.1⟩
  · exact ⟨Row.lt hX, hb, hne, hlo⟩
theorem Spl.fs {S : Nat → Prop} (h : Spl w g b l wt bad) (hf : Fs S w w') (h1 : ¬ S g) (h2 : ¬ S b) : Spl w' g b l wt bad := h.keep hf.size (hf.block g h.lts.1 h1) (hf.block b h.lts.2.1 h2)
theorem Spl.below (h : Spl w g b l wt bad) (hb : Below w.heap.size w w') : Spl w' g b l wt bad := h.keep hb.size (hb.block g h.lts.1) (hb.block b h.lts.2.1)
theorem Spl.bad_cell (h : Spl w g b l wt bad) : w.cell? ⟨g, 4, none⟩ = some (.bool bad) := by
  rcases h with ⟨rfl, fi, la, L, hG, _⟩ | ⟨rfl, _, _, hX, _⟩
  · exact hG.c4
  · exact Row.cell hX rfl
theorem Spl.le (h : Spl w g b l wt bad) : l.length ≤ 16393 := by
  rcases h with ⟨_, fi, la, L, hG, rfl⟩ | ⟨_, _, rfl, _⟩
  · rw [hG.held_len]; have := hG.la; omega
  · simp
theorem GlobE.fs {S : Nat → Prop} (h : GlobE w) (hf : Fs S w w') (hS : ¬ S 0) : GlobE w' := (World.cell?_of_block (a := ⟨0, 0, none⟩) (hf.block _ (blk_lt h) hS)).trans h
end
theorem gbS_glob {g b : Nat} (h1 : 0 < g) (h2 : 0 < b) : ¬ gbS g b 0 := fun h => by rcases h with h | h <;> omega

set_option maxRecDepth 100000 in
set_option maxHeartbeats 1000000 in
theorem bad_nil (w : World) : Calls Tryz.prog 63 #[.pointer none] w fun e w' => e = .returned (.bool true) ∧ w' = w := by
  go_enter Tryz.func63, Tryz.ntmps63
  go_wp2_with fail
  go_ret
  exact ⟨rfl, rfl⟩
set_option maxRecDepth 100000 in
set_option maxHeartbeats 1000000 in
theorem bad_cell {w : World} {g : Nat} {x : Bool} (h : w.cell? ⟨g, 4, none⟩ = some (.bool x)) : Calls Tryz.prog 63 #[.pointer (some ⟨g, 0, none⟩)] w fun e w' => e = .returned (.bool x) ∧ w' = w := by
  go_enter Tryz.func63, Tryz.ntmps63
  go_wp2_with fail
  go_ret
  exact ⟨by cases x <;> rfl, rfl⟩
theorem bad_any {w : World} {g b : Nat} {l : List UInt8} {wt bad : Bool} (h : Spl w g b l wt bad) : Calls Tryz.prog 63 #[.pointer (some ⟨g, 0, none⟩)] w fun e w' => e = .returned (.bool bad) ∧ w' = w := bad_cell h.bad_cell

/-- What held hands back. -/
theorem held_cut {w : World} {g b fi la : Nat} {L : List UInt8} {wt : Bool} (h : SpG w g b fi la L wt) : ∃ A', (∀ W, (Instr.slice 22 (.slice (some ⟨b, 0, none⟩) 16393 16393) (some (.int .i64 (fi : Int))) (some (.int .i64 (la : Int))) none).run Tryz.prog W = .ok (.slice A' (la - fi) (16393 - fi)) W) ∧ RdB w w.heap.size A' (heldL L fi la) ∧ RdS w (fun k => k = b) A' (byc (heldL L fi la)) := by
  obtain ⟨i0, hi0, hz0, hz1, hz2⟩ := info_parts u8_info
  have hl := h.len
  have hla := h.la
  obtain ⟨A', h1, h2, h3⟩ := cut_both (P := Tryz.prog) Tryz.underlying22 hi0 hz1 h.reads (c := 16393) (by omega) h.le (by omega)
  rw [hl] at h1
  refine ⟨A', h1, h2, fun hne => ?_⟩
  have hlen := h.held_len
  have h0 : heldL L fi la ≠ [] := fun e => hne (by rw [e]; rfl)
  obtain ⟨g', o', e1, _, hc⟩ := h2 h0
  have hpos : 0 < la - fi := by rw [← hlen]; exact List.length_pos_iff.2 h0
  have e2 := h3 (by omega)
  rw [e1] at e2
  simp [add_plain] at e2
  obtain ⟨e2, e3⟩ := e2
  subst e2
  refine ⟨_, _, e1, rfl, fun j u hu => ?_⟩
  obtain ⟨hj, rfl⟩ := byc_get hu
  exact hc j hj
set_option maxRecDepth 100000 in
set_option maxHeartbeats 1000000 in
theorem held_any {w : World} {g b fi la : Nat} {L : List UInt8} {wt : Bool} (h : SpG w g b fi la L wt) :
    Calls Tryz.prog 99 #[.pointer (some ⟨g, 0, none⟩)] w fun e w' => ∃ A', e = .returned (.slice A' (la - fi) (16393 - fi)) ∧ RdB w w.heap.size A' (heldL L fi la) ∧ RdS w (fun k => k = b) A' (byc (heldL L fi la)) ∧ ∃ n, w' = w.drewN n := by
  obtain ⟨A', hcut, hr, hs⟩ := held_cut h
  have c0 := h.c0
  have c1 := h.c1
  have c2 := h.c2
  have HR := Lib.hid hr
  have HS := Lib.hid hs
  clear hr hs h
  go_enter Tryz.func99, Tryz.ntmps99
  go_wp2
  go_quiet (fail)
  go_wp2
  go_ret
  exact ⟨A', rfl, HR.out, HS.out, _, rfl⟩
end Go.Proofs.YtooaajnkiokpnaaGreatDoor

namespace Go.Proofs.YtooaajnkiokpnaaGreatDoor
open Go.RowKit Go.WideShapes

theorem u8_one : (Tryz.prog.info? 5).map (·.size) = some 1 := by kernel_rfl
theorem SpG.closed {w w2 : World} {g b fi la : Nat} {L : List UInt8} {wt : Bool} (h : SpG w g b fi la L wt) (h2 : Row w2 b 5 (byc (splB L 0 ((heldL L fi la).take 16393))).toArray) (hf : Fs (fun k => k = b) w w2) :
    SpG ((w2.setCell ⟨g, 2, none⟩ (.int .i64 ((la - fi : Nat) : Int))).setCell ⟨g, 1, none⟩ (.int .i64 0)) g b 0 (la - fi) (splB L 0 ((heldL L fi la).take 16393)) wt ∧ heldL (splB L 0 ((heldL L fi la).take 16393)) 0 (la - fi) = heldL L fi la := by
  have hl := h.held_len
  have hla := h.la
  have hlen := h.len
  have ht : (heldL L fi la).take 16393 = heldL L fi la := List.take_of_length_le (by omega)
  rw [ht] at h2 ⊢
  refine ⟨⟨?_, (h2.stored' h.ne _).stored' h.ne _, h.ne, ?_, Nat.zero_le _, by omega, h.lo⟩, ?_⟩
  · exact ((hf.row (b := g) h.ne.symm h.row).stored 2 _).stored 1 _
  · rw [splB_length (by omega), hlen]
  · have := splB_take (L := L) (m := heldL L fi la) (off := 0) (by omega)
    rw [hl, Nat.zero_add] at this
    unfold heldL at this ⊢
    rw [List.drop_zero, Nat.sub_zero, this]
    rfl

set_option maxRecDepth 100000 in
set_option maxHeartbeats 2000000 in
theorem close_any {w : World} {g b fi la : Nat} {L : List UInt8} {wt : Bool} (h : SpG w g b fi la L wt) :
    Calls Tryz.prog 79 #[.pointer (some ⟨g, 0, none⟩)] w fun e w' => e = .returned (.tuple #[]) ∧ ∃ L', SpG w' g b 0 (la - fi) L' wt ∧ heldL L' 0 (la - fi) = heldL L fi la ∧ Fs (gbS g b) w w' := by
  have hh := held_any (h.drewN 1)
  have d0 : w.drew.cell? ⟨g, 0, none⟩ = some (.slice (some ⟨b, 0, none⟩) 16393 16393) := h.c0
  have H : Hid (SpG w.drew g b fi la L wt) := h.drewN 1
  have HF : Hid (Fs (gbS g b) w w.drew) := (Fs.refl _ w).drewN 1
  have hl := h.held_len
  have hne := h.ne
  clear h
  go_enter Tryz.func79, Tryz.ntmps79
  go_wp2_with fail
  refine wp_region_E 10 (fun w' => w'.cell? ⟨g, 0, none⟩ = some (.slice (some ⟨b, 0, none⟩) 16393 16393)) (by kernel_rfl) d0 (fun hHeld => ?_)
  refine wpAnyE_take (i := 0) (v := ?v0) rfl (by kernel_rfl) (by kernel_rfl) (by kernel_rfl) (by kernel_rfl) (fun _ _ _ h => h) (Or.inl ⟨by rfl, ?hy0⟩) (by assumption) ?rest0
  case hy0 => (intro w hSw; (try dsimp only at hSw); go_simp <;> with_reducible rfl)
  try simp only [Act.put, List.getElem_toArray, List.getElem_cons_zero, List.getElem_cons_succ, List.setIfInBounds_toArray, List.set_cons_zero, List.set_cons_succ]
  refine wpAnyE_take (i := 1) (v := ?v1) rfl (by kernel_rfl) (by kernel_rfl) (by kernel_rfl) (by kernel_rfl) (fun _ _ _ h => h) (Or.inl ⟨by rfl, ?hy1⟩) (by assumption) ?rest1
  case hy1 => (intro w hSw; (try dsimp only at hSw); go_simp <;> with_reducible rfl)
  try simp only [Act.put, List.getElem_toArray, List.getElem_cons_zero, List.getElem_cons_succ, List.setIfInBounds_toArray, List.set_cons_zero, List.set_cons_succ]
  refine wpAnyE_take (i := 2) (v := ?v2) rfl (by kernel_rfl) (by kernel_rfl) (by kernel_rfl) (by kernel_rfl) (fun _ _ _ h => h) (Or.inl ⟨by rfl, ?hy2⟩) (by assumption) ?rest2
  case hy2 => (intro w hSw; (try dsimp only at hSw); go_simp <;> with_reducible rfl)
  try simp only [Act.put, List.getElem_toArray, List.getElem_cons_zero, List.getElem_cons_succ, List.setIfInBounds_toArray, List.set_cons_zero, List.set_cons_succ]
  refine wpAnyE_take (i := 3) (v := ?v3) rfl (by kernel_rfl) (by kernel_rfl) (by kernel_rfl) (by kernel_rfl) (fun _ _ _ h => h) (Or.inl ⟨by rfl, ?hy3⟩) (by assumption) ?rest3
  case hy3 => (intro w hSw; (try dsimp only at hSw); go_simp <;> with_reducible rfl)
  try simp only [Act.put, List.getElem_toArray, List.getElem_cons_zero, List.getElem_cons_succ, List.setIfInBounds_toArray, List.set_cons_zero, List.set_cons_succ]
  refine wpAnyE_take (i := 4) (v := ?v4) rfl (by kernel_rfl) (by kernel_rfl) (by kernel_rfl) (by kernel_rfl) (fun _ _ _ h => h) (Or.inl ⟨by rfl, ?hy4⟩) (by assumption) ?rest4
  case hy4 => (intro w hSw; (try dsimp only at hSw); go_simp <;> with_reducible rfl)
  try simp only [Act.put, List.getElem_toArray, List.getElem_cons_zero, List.getElem_cons_succ, List.setIfInBounds_toArray, List.set_cons_zero, List.set_cons_succ]
  refine wpAnyE_take (i := 5) (v := ?v5) rfl (by kernel_rfl) (by kernel_rfl) (by kernel_rfl) (by kernel_rfl) (fun _ _ _ h => h) (Or.inl ⟨by rfl, ?hy5⟩) (by assumption) ?rest5
  case hy5 => (intro w hSw; (try dsimp only at hSw); go_simp <;> with_reducible rfl)
  try simp only [Act.put, List.getElem_toArray, List.getElem_cons_zero, List.getElem_cons_succ, List.setIfInBounds_toArray, List.set_cons_zero, List.set_cons_succ]
  refine wpAnyE_next (i := 6) (by kernel_rfl) rfl (fun K hK => ?_)
  go_simp
  go_at_call 99
  refine hh.mono ?_
  rintro e w2 ⟨A', rfl, hr, _, n, rfl⟩
  have k0 : (w.drewN (1 + n)).cell? ⟨g, 0, none⟩ = some (.slice (some ⟨b, 0, none⟩) 16393 16393) := d0
  have HR : Hid (RdB (w.drewN (1 + n)) w.drew.heap.size A' (heldL L fi la)) := hr
  have H2 : Hid (SpG (w.drewN (1 + n)) g b fi la L wt) := H.out.keep rfl rfl
  have HF2 : Hid (Fs (gbS g b) w (w.drewN (1 + n))) := ⟨HF.out.os, HF.out.tape, HF.out.output, HF.out.size, HF.out.block⟩
  clear hr hh H HF d0 hHeld
  go_simp
  generalize w.drewN (1 + n) = w2 at *
  refine hK.out _ _ k0 (fun hHeld => ?_)
  clear hK K
  try simp only [Act.put, List.getElem_toArray, List.getElem_cons_zero, List.getElem_cons_succ, List.setIfInBounds_toArray, List.set_cons_zero, List.set_cons_succ]
  refine wpAnyE_next (i := 7) (by kernel_rfl) rfl (fun K hK => ?_)
  have hA : Hid ((heldL L fi la).take 16393 = heldL L fi la) := List.take_of_length_le (by have := H2.out.la; omega)
  rw [← hl]
  refine step_copyB rfl (.tmp 6) (.tmp 8) 22 rfl 5 Tryz.underlying22 u8_one b 0 16393 16393 (some ⟨b, 0, none⟩) A' (heldL L fi la) _ L 5 rfl rfl (fun _ => rfl) _ HR.out H2.out.buf (by rw [H2.out.len]; omega) (fun w3 hb3 hf3 => ?_)
  have hn : min (heldL L fi la).length 16393 = la - fi := by rw [hl]; have := H2.out.la; omega
  rw [hn]
  have q0 : w3.cell? ⟨g, 0, none⟩ = some (.slice (some ⟨b, 0, none⟩) 16393 16393) := (hf3.row (b := g) hne.symm H2.out.row).cell rfl
  have ht := Row.thawed (hf3.row (b := g) hne.symm H2.out.row) 2
  have hc2 : w3.cell? ⟨g, 2, none⟩ = some (.int .i64 (la : Int)) := (hf3.row (b := g) hne.symm H2.out.row).cell rfl
  have hcl := H2.out.closed hb3 hf3
  have HC := Lib.hid hcl
  have HF3 : Hid (Fs (gbS g b) w ((w3.setCell ⟨g, 2, none⟩ (.int .i64 ((la - fi : Nat) : Int))).setCell ⟨g, 1, none⟩ (.int .i64 0))) := ((HF2.out.trans hf3 (fun k _ e => .inr e)).setCell (g := g) (fun _ => .inl rfl) 2 _).setCell (g := g) (fun _ => .inl rfl) 1 _
  have ht1 := Row.thawed ((hf3.row (b := g) hne.symm H2.out.row).stored 2 (.int .i64 ((la - fi : Nat) : Int))) 1
  have hc1 : (w3.setCell ⟨g, 2, none⟩ (.int .i64 ((la - fi : Nat) : Int))).cell? ⟨g, 1, none⟩ = some (.int .i64 (fi : Int)) := Row.cell ((hf3.row (b := g) hne.symm H2.out.row).stored 2 (.int .i64 ((la - fi : Nat) : Int))) rfl
  have HL := Lib.hid hl
  generalize splB L 0 ((heldL L fi la).take 16393) = L' at *
  clear hcl hb3 hf3 H2 HF2 hA hn hl HR k0
  refine hK.out _ _ q0 (fun hHeld => ?_)
  clear hK K
  try simp only [Act.put, List.getElem_toArray, List.getElem_cons_zero, List.getElem_cons_succ, List.setIfInBounds_toArray, List.set_cons_zero, List.set_cons_succ]
  refine wpAnyE_take (i := 8) (v := ?v8q1) rfl (by kernel_rfl) (by kernel_rfl) (by kernel_rfl) (by kernel_rfl) (fun _ _ _ h => h) (Or.inl ⟨by rfl, ?hy8q1⟩) (by assumption) ?rest8q1
  case hy8q1 => (intro w hSw; (try dsimp only at hSw); go_simp <;> with_reducible rfl)
  try simp only [Act.put, List.getElem_toArray, List.getElem_cons_zero, List.getElem_cons_succ, List.setIfInBounds_toArray, List.set_cons_zero, List.set_cons_succ]
  refine wpAnyE_take (i := 9) (v := ?v9q1) rfl (by kernel_rfl) (by kernel_rfl) (by kernel_rfl) (by kernel_rfl) (fun _ _ _ h => h) (Or.inl ⟨by rfl, ?hy9q1⟩) (by assumption) ?rest9q1
  case hy9q1 => (intro w hSw; (try dsimp only at hSw); go_simp <;> with_reducible rfl)
  try simp only [Act.put, List.getElem_toArray, List.getElem_cons_zero, List.getElem_cons_succ, List.setIfInBounds_toArray, List.set_cons_zero, List.set_cons_succ]
  refine wpAnyE_last (by kernel_rfl) rfl (by kernel_rfl) (fun K hK => ?_)
  go_simp
  refine hK.out _ _ ?_
  clear hK K
  try simp only [Act.put, List.getElem_toArray, List.getElem_cons_zero, List.getElem_cons_succ, List.setIfInBounds_toArray, List.set_cons_zero, List.set_cons_succ]
  go_wp2_with fail
  go_end0
  exact ⟨rfl, L', HC.out.1, HC.out.2, HF3.out⟩

theorem SpG.fed {w w2 : World} {g b n : Nat} {L x : List UInt8} {wt : Bool} (h : SpG w g b 0 n L wt) (h2 : Row w2 b 5 (byc (splB L n (x.take (16393 - n)))).toArray) (hf : Fs (fun k => k = b) w w2) :
    SpG (w2.setCell ⟨g, 2, none⟩ (.int .i64 ((n + min x.length (16393 - n) : Nat) : Int))) g b 0 (n + min x.length (16393 - n)) (splB L n (x.take (16393 - n))) wt ∧ heldL (splB L n (x.take (16393 - n))) 0 (n + min x.length (16393 - n)) = heldL L 0 n ++ x.take (16393 - n) := by
  have hla := h.la
  have hlen := h.len
  have hm : (x.take (16393 - n)).length = min x.length (16393 - n) := by rw [List.length_take, Nat.min_comm]
  refine ⟨⟨(hf.row (b := g) h.ne.symm h.row).stored 2 _, h2.stored' h.ne _, h.ne, by rw [splB_length (by omega), hlen], Nat.zero_le _, by omega, h.lo⟩, ?_⟩
  have := splB_take (L := L) (m := x.take (16393 - n)) (off := n) (by omega)
  rw [hm] at this
  unfold heldL
  rw [List.drop_zero, List.drop_zero, Nat.sub_zero, Nat.sub_zero, this]

set_option maxRecDepth 100000 in
set_option maxHeartbeats 2000000 in
theorem feed_good {w : World} {g b fi la : Nat} {L x : List UInt8} {wt : Bool} {A : Option Addr} {c : Nat} (h : SpG w g b fi la L wt) (hx : RdS w (fun k => k < w.heap.size ∧ k ≠ g ∧ k ≠ b) A (byc x)) :
    Calls Tryz.prog 39 #[.pointer (some ⟨g, 0, none⟩), .slice A x.length c] w fun e w' => e = .returned (.int .i64 ((min x.length (16393 - (la - fi)) : Nat) : Int)) ∧ ∃ la' L', SpG w' g b 0 la' L' wt ∧ heldL L' 0 la' = heldL L fi la ++ x.take (16393 - (la - fi)) ∧ Fs (gbS g b) w w' := by
  obtain ⟨i0, hi0, hz0, hz1, hz2⟩ := info_parts u8_info
  have hb := bad_cell h.c4
  have hc := close_any h
  have HX := Lib.hid hx
  have hnl : la - fi ≤ 16393 := by have := h.la; omega
  clear h hx
  generalize la - fi = n at *
  go_enter Tryz.func39, Tryz.ntmps39
  go_wp2_with fail
  refine hb.mono ?_
  rintro e w0 ⟨rfl, rfl⟩
  go_wp2_with fail
  refine hc.mono ?_
  rintro e w1 ⟨rfl, L1, h1, he1, hf1⟩
  have HR : Hid (RdB w1 w1.heap.size A x) := RdB.ofS (hf1.reads HX.out fun k hk => ⟨hk.1, fun h2 => by rcases h2 with h2 | h2; exact hk.2.1 h2; exact hk.2.2 h2⟩) fun k hk _ => Nat.lt_of_lt_of_le hk.1 hf1.size
  obtain ⟨A2, hcut, hA2⟩ := cut_addr (P := Tryz.prog) Tryz.underlying22 hi0 hz1 (A := some ⟨b, 0, none⟩) (n := 16393) (c := 16393) (k := n) (by omega) hnl
  have H1 : Hid (SpG w1.drew g b 0 n L1 wt) := h1.drewN 1
  have HF1 : Hid (Fs (gbS g b) w0 w1.drew) := hf1.drewN 1
  have HE1 := Lib.hid he1
  have d0 : w1.drew.cell? ⟨g, 0, none⟩ = some (.slice (some ⟨b, 0, none⟩) 16393 16393) := h1.c0
  have d2 : w1.drew.cell? ⟨g, 2, none⟩ = some (.int .i64 (n : Int)) := h1.c2
  clear h1 hf1 he1 hc hb HX
  have hm1 : (n : Int) ≤ 16393 := by omega
  go_wp2_with fail
  refine wp_region_held_drew (S := fun w' => w'.cell? ⟨g, 0, none⟩ = some (.slice (some ⟨b, 0, none⟩) 16393 16393) ∧ w'.cell? ⟨g, 2, none⟩ = some (.int .i64 (n : Int))) (by kernel_rfl) ⟨d0, d2⟩ (fun hHeld => ?_)
  refine wpAnyH_take (i := 0) (v := ?v0q2) rfl (by kernel_rfl) (by kernel_rfl) (by kernel_rfl) (fun _ _ _ h => h) (Or.inl ⟨by rfl, ?hy0q2⟩) (by assumption) ?rest0q2
  case hy0q2 => (intro w hSw; (try dsimp only at hSw); go_simp <;> with_reducible rfl)
  try simp only [Act.put, List.getElem_toArray, List.getElem_cons_zero, List.getElem_cons_succ, List.setIfInBounds_toArray, List.set_cons_zero, List.set_cons_succ]
  refine wpAnyH_take (i := 1) (v := ?v1q2) rfl (by kernel_rfl) (by kernel_rfl) (by kernel_rfl) (fun _ _ _ h => h) (Or.inl ⟨by rfl, ?hy1q2⟩) (by assumption) ?rest1q2
  case hy1q2 => (intro w hSw; (try dsimp only at hSw); go_simp <;> with_reducible rfl)
  try simp only [Act.put, List.getElem_toArray, List.getElem_cons_zero, List.getElem_cons_succ, List.setIfInBounds_toArray, List.set_cons_zero, List.set_cons_succ]
  refine wpAnyH_take (i := 2) (v := ?v2q2) rfl (by kernel_rfl) (by kernel_rfl) (by kernel_rfl) (fun _ _ _ h => h) (Or.inl ⟨by rfl, ?hy2q2⟩) (by assumption) ?rest2q2
  case hy2q2 => (intro w hSw; (try dsimp only at hSw); go_simp <;> with_reducible rfl)
  try simp only [Act.put, List.getElem_toArray, List.getElem_cons_zero, List.getElem_cons_succ, List.setIfInBounds_toArray, List.set_cons_zero, List.set_cons_succ]
  refine wpAnyH_take (i := 3) (v := ?v3q2) rfl (by kernel_rfl) (by kernel_rfl) (by kernel_rfl) (fun _ _ _ h => h) (Or.inl ⟨by rfl, ?hy3q2⟩) (by assumption) ?rest3q2
  case hy3q2 => (intro w hSw; (try dsimp only at hSw); go_simp <;> with_reducible rfl)
  try simp only [Act.put, List.getElem_toArray, List.getElem_cons_zero, List.getElem_cons_succ, List.setIfInBounds_toArray, List.set_cons_zero, List.set_cons_succ]
  refine wpAnyH_take (i := 4) (v := ?v4q2) rfl (by kernel_rfl) (by kernel_rfl) (by kernel_rfl) (fun _ _ _ h => h) (Or.inl ⟨by rfl, ?hy4q2⟩) (by assumption) ?rest4q2
  case hy4q2 => (intro w hSw; (try dsimp only at hSw); go_simp <;> with_reducible rfl)
  try simp only [Act.put, List.getElem_toArray, List.getElem_cons_zero, List.getElem_cons_succ, List.setIfInBounds_toArray, List.set_cons_zero, List.set_cons_succ]
  refine wpAnyH_take (i := 5) (v := ?v5q2) rfl (by kernel_rfl) (by kernel_rfl) (by kernel_rfl) (fun _ _ _ h => h) (Or.inl ⟨by rfl, ?hy5q2⟩) (by assumption) ?rest5q2
  case hy5q2 => (intro w hSw; (try dsimp only at hSw); go_simp <;> with_reducible rfl)
  try simp only [Act.put, List.getElem_toArray, List.getElem_cons_zero, List.getElem_cons_succ, List.setIfInBounds_toArray, List.set_cons_zero, List.set_cons_succ]
  refine wpAnyH_take (i := 6) (v := ?v6q2) rfl (by kernel_rfl) (by kernel_rfl) (by kernel_rfl) (fun _ _ _ h => h) (Or.inl ⟨by rfl, ?hy6q2⟩) (by assumption) ?rest6q2
  case hy6q2 => (intro w hSw; (try dsimp only at hSw); go_simp <;> with_reducible rfl)
  try simp only [Act.put, List.getElem_toArray, List.getElem_cons_zero, List.getElem_cons_succ, List.setIfInBounds_toArray, List.set_cons_zero, List.set_cons_succ]
  refine wpAnyH_take (i := 7) (v := ?v7q2) rfl (by kernel_rfl) (by kernel_rfl) (by kernel_rfl) (fun _ _ _ h => h) (Or.inl ⟨by rfl, ?hy7q2⟩) (by assumption) ?rest7q2
  case hy7q2 => (intro w hSw; (try dsimp only at hSw); go_simp <;> with_reducible rfl)
  try simp only [Act.put, List.getElem_toArray, List.getElem_cons_zero, List.getElem_cons_succ, List.setIfInBounds_toArray, List.set_cons_zero, List.set_cons_succ]
  refine wpAnyH_take (i := 8) (v := ?v8q2) rfl (by kernel_rfl) (by kernel_rfl) (by kernel_rfl) (fun _ _ _ h => h) (Or.inl ⟨by rfl, ?hy8q2⟩) (by assumption) ?rest8q2
  case hy8q2 => (intro w hSw; (try dsimp only at hSw); go_simp <;> with_reducible rfl)
  try simp only [Act.put, List.getElem_toArray, List.getElem_cons_zero, List.getElem_cons_succ, List.setIfInBounds_toArray, List.set_cons_zero, List.set_cons_succ]
  refine wpAnyH_take (i := 9) (v := ?v9q2) rfl (by kernel_rfl) (by kernel_rfl) (by kernel_rfl) (fun _ _ _ h => h) (Or.inl ⟨by rfl, ?hy9q2⟩) (by assumption) ?rest9q2
  case hy9q2 => (intro w hSw; (try dsimp only at hSw); go_simp <;> with_reducible rfl)
  try simp only [Act.put, List.getElem_toArray, List.getElem_cons_zero, List.getElem_cons_succ, List.setIfInBounds_toArray, List.set_cons_zero, List.set_cons_succ]
  refine wpAnyH_ready (rs := [10]) (by kernel_rfl) (by simp) ?_
  refine AllReadyH.cons rfl (fun K hK => ?_) AllReadyH.nil
  refine step_copyB rfl (.tmp 18) (.tmp 19) 22 rfl 5 Tryz.underlying22 u8_one b n (16393 - n) (16393 - n) A2 A x c L1 5 rfl rfl (fun h0 => by rw [hA2 (by omega)]; simp [add_plain]) _ HR.out H1.out.buf (by rw [H1.out.len]; omega) (fun w3 hb3 hf3 => ?_)
  have hfed := H1.out.fed hb3 hf3
  have HC := Lib.hid hfed
  have HF3 : Hid (Fs (gbS g b) w0 (w3.setCell ⟨g, 2, none⟩ (.int .i64 ((n + min x.length (16393 - n) : Nat) : Int)))) := (HF1.out.trans hf3 (fun k _ e => .inr e)).setCell (g := g) (fun _ => .inl rfl) 2 _
  have hR3 := hf3.row (b := g) H1.out.ne.symm H1.out.row
  have q0 : w3.cell? ⟨g, 0, none⟩ = some (.slice (some ⟨b, 0, none⟩) 16393 16393) := hR3.cell rfl
  have q2 : w3.cell? ⟨g, 2, none⟩ = some (.int .i64 (n : Int)) := hR3.cell rfl
  have ht := Row.thawed hR3 2
  have hk : min x.length (16393 - n) ≤ 16393 := by omega
  have HE : Hid (heldL (splB L1 n (x.take (16393 - n))) 0 (n + min x.length (16393 - n)) = heldL L fi la ++ x.take (16393 - n)) := by
    show _ = _
    rw [hfed.2, HE1.out]
  generalize splB L1 n (x.take (16393 - n)) = L2 at *
  clear hfed hb3 hf3 hR3 HE1 H1 HF1 HR d0 d2 hcut hA2
  refine hK.out _ _ ⟨q0, q2⟩ (fun hHeld => ?_)
  clear hK K
  generalize hmk : min x.length (16393 - n) = k at *
  have HM := Lib.hid hmk
  clear hmk
  try simp only [Act.put, List.getElem_toArray, List.getElem_cons_zero, List.getElem_cons_succ, List.setIfInBounds_toArray, List.set_cons_zero, List.set_cons_succ]
  refine wpAnyH_take (i := 11) (v := ?v11q3) rfl (by kernel_rfl) (by kernel_rfl) (by kernel_rfl) (fun _ _ _ h => h) (Or.inl ⟨by rfl, ?hy11q3⟩) (by assumption) ?rest11q3
  case hy11q3 => (intro w hSw; (try dsimp only at hSw); go_simp <;> with_reducible rfl)
  try simp only [Act.put, List.getElem_toArray, List.getElem_cons_zero, List.getElem_cons_succ, List.setIfInBounds_toArray, List.set_cons_zero, List.set_cons_succ]
  refine wpAnyH_done (by kernel_rfl) ?_ _
  clear hHeld
  rw [show ((n + k : Nat) : Int) = (n : Int) + (k : Int) by omega] at HC HF3
  go_wp2_with fail
  go_ret
  rw [HM.out]
  exact ⟨rfl, _, L2, HC.out.1, HE.out, HF3.out⟩
end Go.Proofs.YtooaajnkiokpnaaGreatDoor

namespace Go.Proofs.YtooaajnkiokpnaaGreatDoor
open Go.RowKit Go.WideShapes

theorem heldL_nil (L : List UInt8) (k : Nat) : heldL L k k = [] := by unfold heldL; rw [Nat.sub_self, List.take_zero]
set_option maxRecDepth 100000 in
set_option maxHeartbeats 2000000 in
theorem new_any (w : World) (p : Bool) (hG : GlobE w) :
    Calls Tryz.prog 49 #[.bool p] w fun e w' => ∃ g, e = .returned (.pointer (some ⟨g, 0, none⟩)) ∧ ∃ b, SpG w' g b 0 0 (List.replicate 16393 0) p ∧ w.heap.size ≤ g ∧ w.heap.size ≤ b ∧ Below w.heap.size w w' := by
  obtain ⟨i0, hi0, hz0, hz1, hz2⟩ := info_parts u8_info
  have hmk : ∀ W : World, (Instr.makeSlice 22 (.int .i64 16393) (.int .i64 16393)).run Tryz.prog W = .ok (.slice (some ⟨W.heap.size, 0, none⟩) 16393 16393) (W.alloc (.cells (madeCells #[Value.int .u8 0] 16393) 5)) := fun W => by
    have := run_make (P := Tryz.prog) W 22 5 i0 (.int .u8 0) Tryz.underlying22 hi0 hz0 .i64 .i64 16393 16393 (by omega) (by omega) (by rw [hz2]; omega) (by omega)
    rw [this, hz1, Nat.mul_one]
    rfl
  have hMC : (madeCells #[Value.int .u8 0] 16393).toList = byc (List.replicate 16393 0) := made_zeros 16393
  have hlt := blk_lt hG
  have HL : Hid ((List.replicate 16393 (0 : UInt8)).length = 16393) := List.length_replicate
  generalize madeCells #[Value.int .u8 0] 16393 = MC at *
  generalize List.replicate 16393 (0 : UInt8) = L at *
  obtain rfl : MC = (byc L).toArray := by rw [← hMC, Array.toArray_toList]
  clear hMC hG
  go_enter Tryz.func49, Tryz.ntmps49
  go_wp2_with fail
  go_ret
  refine ⟨w.heap.size + 1, rfl, w.heap.size, ⟨?_, ?_, by omega, HL.out, Nat.le_refl _, by omega, by omega, by omega⟩, by omega, Nat.le_refl _, ((Below.refl _ _).alloc (Nat.le_refl _) _).alloc (by simp) _⟩
  · exact Row.made _ _ _ (by simp)
  · exact (Row.new w _ _).alloc _
/-- A row of bytes that bears a conversion's mark behind its last cell. -/
def MkRow (w : World) (g : Nat) (l : List UInt8) : Prop := w.heap[g]? = some (.cells (byc l).toArray 5 (l.length, l.length + 1))
theorem MkRow.cell {w : World} {g : Nat} {l : List UInt8} (h : MkRow w g l) (j : Nat) : w.cell? ⟨g, j, none⟩ = (byc l)[j]? := by
  unfold World.cell?
  rw [show w.heap[g]? = _ from h]
  simp
theorem MkRow.lt {w : World} {g : Nat} {l : List UInt8} (h : MkRow w g l) : g < w.heap.size := (Array.getElem?_eq_some_iff.1 h).1
theorem MkRow.keep {w w' : World} {g : Nat} {l : List UInt8} (h : MkRow w g l) (hg : w'.heap[g]? = w.heap[g]?) : MkRow w' g l := hg.trans h
theorem MkRow.below {w w' : World} {g B : Nat} {l : List UInt8} (h : MkRow w g l) (hb : Below B w w') (hg : g < B) : MkRow w' g l := (hb.block g hg).trans h
theorem MkRow.reads {w : World} {g B : Nat} {l : List UInt8} (h : MkRow w g l) (hB : g < B) : RdB w B (some ⟨g, 0, none⟩) l := fun _ => ⟨g, 0, rfl, hB, fun j hj => by
  rw [Nat.zero_add, h.cell, byc_at hj]⟩
section
variable {P : Program}
/-- An append onto a slice that has no room, from any slice: into a new row. -/
theorem run_appFull (w : World) (base : Nat) (t e : TypeId) (i : TypeInfo) (ht : P.underlying t = some (.slice e)) (hi : P.info? e = some i) (hz : i.zero = some (.int .u8 0)) (hsize : i.size = 1) (hby : i.bytes = 1)
    {g g2 o2 : Nat} {l m : List UInt8} {c B : Nat} (hl : RdB w B (some ⟨g, 0, none⟩) l) (hm : RdB w B (some ⟨g2, o2, none⟩) m) (hm0 : 0 < m.length) (h63 : l.length + m.length ≤ 1099511627776) (hbase : base ≤ w.heap.size) :
    ∃ c' w', (∀ ty, (Builtin.append_ #[t, t] ty #[.slice (some ⟨g, 0, none⟩) l.length l.length, .slice (some ⟨g2, o2, none⟩) m.length c]).run P w = .ok (.slice (some ⟨w.heap.size, 0, none⟩) (l ++ m).length c') w') ∧ Bo w' base e (.slice (some ⟨w.heap.size, 0, none⟩) (l ++ m).length c') (l ++ m) ∧ Below w.heap.size w w' := by
  have hr := fun ty => run_append_grow (P := P) (w := w) t ty e i (.int .u8 0) ht hi hz ⟨g, 0, none⟩ l.length l.length (byc l) (by rw [hsize]; simp [byc_length]) hl.adds ⟨g2, o2, none⟩ m.length c (byc m) (by rw [hsize]; simp [byc_length]) hm.adds (by omega) (by omega) (by rw [hby]; exact growslice_fits (by omega) (by omega))
  have hge := grownCap_ge w (l.length + m.length) l.length e
  have hcm : grownCap w (l.length + m.length) l.length e ≤ maxLen := grownCap_le_maxLen w _ _ e (by simp only [maxLen]; omega)
  have hz1 : (Value.int IntKind.u8 0).cells.size = 1 := rfl
  refine ⟨_, _, by rw [List.length_append]; exact hr, ⟨by simp [byc_length], .inr ⟨w.heap.size, 0, _, _, rfl, hbase, heap_alloc_new w.drew _, by rw [List.length_append]; exact hge, hcm, ?_, ?_⟩⟩, ⟨rfl, rfl, rfl, by simp, fun k hk => Below.heap_alloc w.drew _ k hk⟩⟩
  · simp only [Array.size_append, List.size_toArray, size_zeroCells, hz1, byc_length]
    omega
  · simp only [List.drop_zero, Array.toList_append, List.append_assoc]
    rw [← List.append_assoc, ← byc_append, Nat.mul_one, ← byc_length (l ++ m)]
    exact List.take_left
/-- .. from a string. -/
theorem run_appFullS (w : World) (base : Nat) (t u e : TypeId) (i : TypeInfo) (ht : P.underlying t = some (.slice e)) (hu : P.underlying u = some .string) (hi : P.info? e = some i) (hz : i.zero = some (.int .u8 0)) (hsize : i.size = 1) (hby : i.bytes = 1)
    {g : Nat} {l m : List UInt8} {B : Nat} (hl : RdB w B (some ⟨g, 0, none⟩) l) (hm0 : 0 < m.length) (h63 : l.length + m.length ≤ 1099511627776) (hbase : base ≤ w.heap.size) :
    ∃ c' w', (∀ ty, (Builtin.append_ #[t, u] ty #[.slice (some ⟨g, 0, none⟩) l.length l.length, .string ⟨m.toArray⟩]).run P w = .ok (.slice (some ⟨w.heap.size, 0, none⟩) (l ++ m).length c') w') ∧ Bo w' base e (.slice (some ⟨w.heap.size, 0, none⟩) (l ++ m).length c') (l ++ m) ∧ Below w.heap.size w w' := by
  have hsz := str_size m
  have hr := fun ty => Lib.run_append_grow_string (P := P) w t u ty e i (.int .u8 0) ht hu hi hz ⟨g, 0, none⟩ l.length l.length (byc l) (by rw [hsize]; simp [byc_length]) hl.adds ⟨m.toArray⟩ (by omega) (by omega) (by rw [hby, hsz]; exact growslice_fits (by omega) (by omega))
  simp only [hsz, strCells_byc] at hr
  have hge := grownCap_ge w (l.length + m.length) l.length e
  have hcm : grownCap w (l.length + m.length) l.length e ≤ maxLen := grownCap_le_maxLen w _ _ e (by simp only [maxLen]; omega)
  have hz1 : (Value.int IntKind.u8 0).cells.size = 1 := rfl
  refine ⟨_, _, by rw [List.length_append]; exact hr, ⟨by simp [byc_length], .inr ⟨w.heap.size, 0, _, _, rfl, hbase, heap_alloc_new w.drew _, by rw [List.length_append]; exact hge, hcm, ?_, ?_⟩⟩, ⟨rfl, rfl, rfl, by simp, fun k hk => Below.heap_alloc w.drew _ k hk⟩⟩
  · simp only [Array.size_append, List.size_toArray, size_zeroCells, hz1, byc_length]
    omega
  · simp only [List.drop_zero, Array.toList_append, List.append_assoc]
    rw [← List.append_assoc, ← byc_append, Nat.mul_one, ← byc_length (l ++ m)]
    exact List.take_left
/-- An append, by what it comes to. -/
theorem wpList_app_run {ops : Array Oper} {rest : List Oper} {o : Oper} {a : Act} {w w' : World} {Q : Exit → Act → World → Prop} (hgd : o.guard = none) (s x : Operand) (t u : TypeId) (ho : o.op = .call { callee := .builtin .append, args := #[s, x], argTypes := #[t, u] }) {v1 v2 v' : Value}
    (hs : a.eval s = v1) (hx : a.eval x = v2) (hrun : ∀ ty, (Builtin.append_ #[t, u] ty #[v1, v2]).run P w = .ok v' w') (h : wpList P ops Q rest (a.put o.dst v') w') : wpList P ops Q (o :: rest) a w := by
  refine wpList_plain hgd fun K hK => ?_
  unfold Oper.wp execOp
  simp only [ho, resolve, invoke, builtin, Sem.run_bind, Sem.run_pure, Result.andThen_ok, List.map_toArray, List.map_cons, List.map_nil, hs, hx, hrun]
  exact hK _ _ h
end
theorem setCells_heap (b : Nat) : ∀ (vs : List Value) (o : Nat) (w : World), (w.setCells b o vs).heap.size = w.heap.size ∧ (∀ k, k ≠ b → (w.setCells b o vs).heap[k]? = w.heap[k]?) ∧ (w.setCells b o vs).os = w.os ∧ (w.setCells b o vs).tape = w.tape ∧ (w.setCells b o vs).output = w.output
  | [], _, _ => ⟨rfl, fun _ _ => rfl, rfl, rfl, rfl⟩
  | v :: r, o, w => by
    obtain ⟨h1, h2, h3, h4, h5⟩ := setCells_heap b r (o + 1) (w.setCell ⟨b, o, none⟩ v)
    exact ⟨h1.trans (by simp [World.setCell]), fun k hk => (h2 k hk).trans (Below.heap_setCell w _ v k hk), h3, h4, h5⟩
/-- clear of a marked row's bytes. -/
theorem clear_mk {w : World} {g c : Nat} {l : List UInt8} (h : MkRow w g l) : ∃ w', (∀ ty, (Builtin.clear_ #[22] ty #[.slice (some ⟨g, 0, none⟩) l.length c]).run Tryz.prog w = .ok (.tuple #[]) w') ∧ Fs (fun k => k = g) w w' := by
  obtain ⟨i0, hi0, hz0, hz1, hz2⟩ := info_parts u8_info
  by_cases h0 : l.length = 0
  · refine ⟨w, fun ty => ?_, Fs.refl _ _⟩
    rw [h0]
    simp [Builtin.clear_, run_underlying Tryz.underlying22]
  · have hzc : Builtin.zeroCells (Value.int .u8 0).cells l.length = (List.replicate l.length (Value.int .u8 0)).toArray := zeros_cells _
    have hst := run_storeCells_cells (P := Tryz.prog) g 0 (List.replicate l.length (Value.int .u8 0)) 0 w (fun j hj => by
      simp only [Nat.zero_add]
      rw [h.cell, byc_at (by simpa using hj)]
      rfl) (fun j hj => by
      unfold World.frozen?
      rw [show w.heap[g]? = _ from h]
      simp at hj ⊢
      omega) (fun u hu => by rw [(List.mem_replicate.1 hu).2]; rfl)
    obtain ⟨s1, s2, s3, s4, s5⟩ := setCells_heap g (List.replicate l.length (Value.int .u8 0)) 0 w
    refine ⟨_, fun ty => ?_, ⟨s3, s4, s5, by rw [s1]; exact Nat.le_refl _, fun k _ hk => s2 k hk⟩⟩
    obtain ⟨n, hn⟩ : ∃ n, l.length = n + 1 := ⟨l.length - 1, by omega⟩
    rw [hn] at hzc hst ⊢
    simp [Builtin.clear_, run_underlying Tryz.underlying22, zeroValue, typeInfo, hi0, hz0, hzc, hst]

set_option maxRecDepth 100000 in
set_option maxHeartbeats 2000000 in
theorem preface_any (w : World) :
    Calls Tryz.prog 57 #[] w fun e w' => e = .returned (.slice (some ⟨w.heap.size, 0, none⟩) 24 24) ∧ MkRow w' w.heap.size greetL ∧ Below w.heap.size w w' := by
  have hg : (byc greetL).toArray = #[.int .u8 80, .int .u8 82, .int .u8 73, .int .u8 32, .int .u8 42, .int .u8 32, .int .u8 72, .int .u8 84, .int .u8 84, .int .u8 80, .int .u8 47, .int .u8 50, .int .u8 46, .int .u8 48, .int .u8 13, .int .u8 10, .int .u8 13, .int .u8 10, .int .u8 83, .int .u8 77, .int .u8 13, .int .u8 10, .int .u8 13, .int .u8 10] := rfl
  have hcv := fun (w : World) (C : Array Value) (n c : Nat) => Lib.run_convert_bytes_const (P := Tryz.prog) w 22 5 C n c Tryz.underlying22 Tryz.underlying5
  go_enter Tryz.func57, Tryz.ntmps57
  go_wp2_with fail
  go_ret
  refine ⟨rfl, ?_, (Below.refl _ _).alloc (Nat.le_refl _) _⟩
  unfold MkRow
  rw [hg]
  exact heap_alloc_last w _

/-- Is one text the beginning of another one? -/
theorem lpre_any (l m : List UInt8) (_hl : l.length ≤ 1000000) (hm : m.length ≤ 1000000) (w : World) :
    Calls Tryz.prog 128 #[.string (tb l), .string (tb m)] w fun e w' => e = .returned (.bool (decide (l.take m.length = m))) ∧ w' = w := by
  have h1 := tb_size l
  have h2 := tb_size m
  by_cases hlt : m.length ≤ l.length
  · have hcut := tb_upto l (m.length : Int) (by omega) (by omega)
    rw [show ((m.length : Int)).toNat = m.length by omega] at hcut
    have he := text_eq (l.take m.length) m
    have hdd : decide (m.length ≤ l.length) = true := by simp; omega
    unfold tb at *
    go_enter Tryz.func128, Tryz.ntmps128
    go_wp2_with fail
    go_ret
    have hb : (l.take m.length == m) = decide (l.take m.length = m) := by by_cases h : l.take m.length = m <;> simp [h]
    rw [← hb]
    exact ⟨rfl, rfl⟩
  · have hdd : decide (m.length ≤ l.length) = false := by simp; omega
    have hd0 : decide (l.take m.length = m) = false := decide_eq_false fun e => by
      have := congrArg List.length e
      rw [List.length_take] at this
      omega
    unfold tb at *
    rw [hd0]
    go_enter Tryz.func128, Tryz.ntmps128
    go_wp2_with fail
    go_ret
    exact ⟨rfl, rfl⟩
theorem pre_any (l m : List UInt8) (hl : l.length ≤ 1000000) (hm : m.length ≤ 1000000) (w : World) :
    Calls Tryz.prog 100 #[.string (tb l), .string (tb m)] w fun e w' => e = .returned (.bool (decide (l.take m.length = m))) ∧ w' = w := by
  have hp := lpre_any l m hl hm
  go_enter Tryz.func100, Tryz.ntmps100
  go_wp2_with fail
  refine (hp _).mono ?_
  rintro e w1 ⟨rfl, rfl⟩
  go_wp2_with fail
  go_ret
  exact ⟨rfl, rfl⟩

theorem splB_byc_set {w : World} {g : Nat} {t : TypeId} {L : List UInt8} (h : Row w g t (byc L).toArray) (j : Nat) (b : UInt8) {v : Value} (hv : v = .int .u8 (b.toNat : Int)) : Row (w.setCell ⟨g, j, none⟩ v) g t (byc (L.set j b)).toArray := by
  subst hv
  rw [byc_set]
  have := h.stored j (.int .u8 (b.toNat : Int))
  rwa [List.setIfInBounds_toArray] at this
theorem below_setCell3 {B : Nat} {w w' : World} (h : Below B w w') {k : Nat} (hk : B ≤ k) (i j m : Nat) (x y z : Value) : Below B w (((w'.setCell ⟨k, i, none⟩ x).setCell ⟨k, j, none⟩ y).setCell ⟨k, m, none⟩ z) :=
  ((h.setCell (p := ⟨k, i, none⟩) hk x).setCell (p := ⟨k, j, none⟩) hk y).setCell (p := ⟨k, m, none⟩) hk z
theorem too_eq {l : List UInt8} (h : 9 ≤ l.length) : (((splB (List.replicate 16394 0) 0 ((l.take 9).take 16394)).set 0 0).set 1 64).set 2 1 = tooL l := by
  obtain ⟨a0, a1, a2, r, rfl⟩ : ∃ a0 a1 a2 r, l = a0 :: a1 :: a2 :: r := by
    match l, h with
    | a0 :: a1 :: a2 :: r, _ => exact ⟨_, _, _, _, rfl⟩
  have hl : ((a0 :: a1 :: a2 :: r).take 9).length = 9 := by simp at h ⊢; omega
  rw [List.take_of_length_le (l := (a0 :: a1 :: a2 :: r).take 9) (by omega)]
  unfold splB tooL
  rw [hl, List.drop_replicate]
  rfl
set_option maxRecDepth 100000 in
set_option maxHeartbeats 2000000 in
theorem too_any {w : World} {A : Option Addr} {c : Nat} {l : List UInt8} (hr : RdB w w.heap.size A l) (h9 : 9 ≤ l.length) (hc : l.length ≤ c) :
    Calls Tryz.prog 127 #[.slice A l.length c] w fun e w' => (∃ g, e = .returned (.slice (some ⟨g, 0, none⟩) 16394 16394) ∧ RdB w' w'.heap.size (some ⟨g, 0, none⟩) (tooL l)) ∧ Below w.heap.size w w' := by
  obtain ⟨i0, hi0, hz0, hz1, hz2⟩ := info_parts u8_info
  have hmk : ∀ W : World, (Instr.makeSlice 22 (.int .i64 16394) (.int .i64 16394)).run Tryz.prog W = .ok (.slice (some ⟨W.heap.size, 0, none⟩) 16394 16394) (W.alloc (.cells (madeCells #[Value.int .u8 0] 16394) 5)) := fun W => by
    have := run_make (P := Tryz.prog) W 22 5 i0 (.int .u8 0) Tryz.underlying22 hi0 hz0 .i64 .i64 16394 16394 (by omega) (by omega) (by rw [hz2]; omega) (by omega)
    rw [this, hz1, Nat.mul_one]
    rfl
  have hMC : (madeCells #[Value.int .u8 0] 16394).toList = byc (List.replicate 16394 0) := made_zeros 16394
  have HE := Lib.hid (too_eq h9)
  have HL : Hid ((List.replicate 16394 (0 : UInt8)).length = 16394) := List.length_replicate
  generalize madeCells #[Value.int .u8 0] 16394 = MC at *
  generalize List.replicate 16394 (0 : UInt8) = L at *
  obtain rfl : MC = (byc L).toArray := by rw [← hMC, Array.toArray_toList]
  obtain ⟨hcut, hR9⟩ := cut_upto (P := Tryz.prog) Tryz.underlying22 hi0 hz1 (hr.alloc (Nat.le_refl _) (.cells (byc L).toArray 5)) hc (k := 9) h9
  have HR9 := Lib.hid hR9
  have HR : Hid (Row (w.alloc (.cells (byc L).toArray 5)) w.heap.size 5 (byc L).toArray) := Row.new w _ _
  have HB : Hid (Below w.heap.size w (w.alloc (.cells (byc L).toArray 5))) := (Below.refl _ _).alloc (Nat.le_refl _) _
  clear hMC hr hR9
  have h9l : (l.take 9).length = 9 := by rw [List.length_take]; omega
  obtain ⟨w3, hcp, hb3, hf3⟩ := run_copyB (P := Tryz.prog) (w := w.alloc (.cells (byc L).toArray 5)) Tryz.underlying22 u8_one (b := w.heap.size) (off := 0) (dLen := 16394) (dCap := 16394) (dp := some ⟨w.heap.size, 0, none⟩) (sCap := c) (fun _ => rfl) HR9.out HR.out (by rw [HL.out]; omega)
  rw [h9l, show ((min 9 16394 : Nat) : Int) = 9 from rfl] at hcp
  have HB3 := Lib.hid (HB.out.trans (hf3.below (B := w.heap.size) (fun k hk _ => by rw [hk]; omega) (by simp)))
  have hL3 : (splB L 0 ((l.take 9).take 16394)).length = 16394 := by rw [splB_length (by rw [List.length_take, h9l, HL.out]; omega), HL.out]
  generalize splB L 0 ((l.take 9).take 16394) = M at *
  have r1 := splB_byc_set hb3 0 0 (v := .int .u8 0) rfl
  have r2 := splB_byc_set r1 1 64 (v := .int .u8 64) rfl
  have r3 := splB_byc_set r2 2 1 (v := .int .u8 1) rfl
  have cc : ∀ (Z : List UInt8) (W : World), Z.length = 16394 → Row W w.heap.size 5 (byc Z).toArray → ∀ j, j < 16394 → ∃ z : Nat, W.cell? ⟨w.heap.size, j, none⟩ = some (.int .u8 (z : Int)) := fun Z W hZ hW j hj => ⟨_, hW.cell (by simpa using byc_at (show j < Z.length by omega))⟩
  obtain ⟨z0, k0⟩ := cc _ _ hL3 hb3 0 (by omega)
  obtain ⟨z1, k1⟩ := cc _ _ (by simpa using hL3) r1 1 (by omega)
  obtain ⟨z2, k2⟩ := cc _ _ (by simpa using hL3) r2 2 (by omega)
  have t0 := Row.thawed hb3 0
  have t1 := Row.thawed r1 1
  have t2 := Row.thawed r2 2
  have HR3 := Lib.hid r3
  have HF3 := Lib.hid (below_setCell3 HB3.out (k := w.heap.size) (Nat.le_refl _) 0 1 2 (.int .u8 0) (.int .u8 64) (.int .u8 1))
  clear cc r1 r2 r3 hL3 hb3 hf3 HB HR HR9
  go_enter Tryz.func127, Tryz.ntmps127
  go_wp2_with fail
  go_ret
  refine ⟨⟨w.heap.size, rfl, ?_⟩, HF3.out⟩
  rw [← HE.out]
  exact fun _ => ⟨w.heap.size, 0, rfl, HR3.out.lt, fun j hj => by
    rw [Nat.zero_add]
    exact HR3.out.cell (by simpa using byc_at hj)⟩
end Go.Proofs.YtooaajnkiokpnaaGreatDoor
