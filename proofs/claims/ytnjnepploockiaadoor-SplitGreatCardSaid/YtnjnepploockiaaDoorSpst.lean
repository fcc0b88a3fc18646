/-
  A splitter in memory; Bad, held and Held, by their contracts. Conditions: the splitter lies behind the package's variables.
-/
import Derived.Test.YtnjnepploockiaaDoorCpy
import Derived.Test.YtnjnepploockiaaDoorSpm
import Derived.Test.YtnjnepploockiaaDoorFin
import Derived.Deep.QuietTactic
import Derived.BigQuiet
namespace Go.Proofs.YtnjnepploockiaaDoor
open Go.RowKit Go.WideShapes

/-- A splitter's cells. -/
def spc (v : Value) (fi la : Nat) (wt bad : Bool) : Array Value := #[v, .int .i64 fi, .int .i64 la, .bool wt, .bool bad]
/-- A good splitter: its buffer's block, what stands in it, between which places it holds something. -/
structure SpG (w : World) (g b fi la : Nat) (L : List UInt8) (wt : Bool) : Prop where
  row : Row w g 59 #[.slice (some ⟨b, 0, none⟩) 16393 16393, .int .i64 fi, .int .i64 la, .bool wt, .bool false]
  buf : Row w b 5 (byc L).toArray
  ne : b ≠ g
  len : L.length = 16393
  le : fi ≤ la
  la : la ≤ 16393
  lo : 0 < g ∧ 0 < b
/-- A bad one. -/
def SpX (w : World) (g : Nat) : Prop := Row w g 59 #[.slice none 0 0, .int .i64 0, .int .i64 0, .bool false, .bool true]
def gbS (g b : Nat) : Nat → Prop := fun k => k = g ∨ k = b
def heldL (L : List UInt8) (fi la : Nat) : List UInt8 := (L.drop fi).take (la - fi)
/-- A splitter, by what it holds; whether it waits for the preface; whether it is bad. -/
def Spl (w : World) (g b : Nat) (l : List UInt8) (wt bad : Bool) : Prop :=
  (bad = false ∧ ∃ fi la L, SpG w g b fi la L wt ∧ l = heldL L fi la) ∨ (bad = true ∧ wt = false ∧ l = [] ∧ SpX w g ∧ 0 < g ∧ b ≠ g ∧ b < w.heap.size)

section
variable {w w' : World} {g b fi la : Nat} {L l : List UInt8} {wt bad : Bool}
theorem SpG.keep (h : SpG w g b fi la L wt) (h1 : w'.heap[g]? = w.heap[g]?) (h2 : w'.heap[b]? = w.heap[b]?) : SpG w' g b fi la L wt := ⟨h1.trans h.row, h2.trans h.buf, h.ne, h.len, h.le, h.la, h.lo⟩
theorem SpG.fs {S : Nat → Prop} (h : SpG w g b fi la L wt) (hf : Fs S w w') (h1 : ¬ S g) (h2 : ¬ S b) : SpG w' g b fi la L wt := h.keep (hf.block g h.row.lt h1) (hf.block b h.buf.lt h2)
theorem SpG.below (h : SpG w g b fi la L wt) (hb : Below w.heap.size w w') : SpG w' g b fi la L wt := h.keep (hb.block g h.row.lt) (hb.block b h.buf.lt)
theorem SpG.drewN (h : SpG w g b fi la L wt) (n : Nat) : SpG (w.drewN n) g b fi la L wt := h.keep rfl rfl
theorem SpG.c0 (h : SpG w g b fi la L wt) : w.cell? ⟨g, 0, none⟩ = some (.slice (some ⟨b, 0, none⟩) 16393 16393) := h.row.cell rfl
theorem SpG.c1 (h : SpG w g b fi la L wt) : w.cell? ⟨g, 1, none⟩ = some (.int .i64 (fi : Int)) := h.row.cell rfl
theorem SpG.c2 (h : SpG w g b fi la L wt) : w.cell? ⟨g, 2, none⟩ = some (.int .i64 (la : Int)) := h.row.cell rfl
theorem SpG.c3 (h : SpG w g b fi la L wt) : w.cell? ⟨g, 3, none⟩ = some (.bool wt) := h.row.cell rfl
theorem SpG.c4 (h : SpG w g b fi la L wt) : w.cell? ⟨g, 4, none⟩ = some (.bool false) := h.row.cell rfl
theorem SpG.held_len (h : SpG w g b fi la L wt) : (heldL L fi la).length = la - fi := by
  have := h.len
  have := h.la
  unfold heldL
  rw [List.length_take, List.length_drop]
  omega
/-- What is in the buffer, as it is read. -/
theorem SpG.reads (h : SpG w g b fi la L wt) : RdB w w.heap.size (some ⟨b, 0, none⟩) L := fun _ => ⟨b, 0, rfl, h.buf.lt, fun j hj => by
  rw [Nat.zero_add]
  exact h.buf.cell (by simpa using byc_at hj)⟩
theorem SpG.set1 (h : SpG w g b fi la L wt) {fi' : Nat} (hf : fi' ≤ la) : SpG (w.setCell ⟨g, 1, none⟩ (.int .i64 (fi' : Int))) g b fi' la L wt := ⟨h.row.stored 1 _, h.buf.stored' h.ne _, h.ne, h.len, hf, h.la, h.lo⟩
theorem SpG.set2 (h : SpG w g b fi la L wt) {la' : Nat} (hf : fi ≤ la') (hl : la' ≤ 16393) : SpG (w.setCell ⟨g, 2, none⟩ (.int .i64 (la' : Int))) g b fi la' L wt := ⟨h.row.stored 2 _, h.buf.stored' h.ne _, h.ne, h.len, hf, hl, h.lo⟩
theorem SpG.set3 (h : SpG w g b fi la L wt) (wt' : Bool) : SpG (w.setCell ⟨g, 3, none⟩ (.bool wt')) g b fi la L wt' := ⟨h.row.stored 3 _, h.buf.stored' h.ne _, h.ne, h.len, h.le, h.la, h.lo⟩
theorem SpG.spl (h : SpG w g b fi la L wt) : Spl w g b (heldL L fi la) wt false := .inl ⟨rfl, fi, la, L, h, rfl⟩
theorem Spl.keep (h : Spl w g b l wt bad) (hs : w.heap.size ≤ w'.heap.size) (h1 : w'.heap[g]? = w.heap[g]?) (h2 : w'.heap[b]? = w.heap[b]?) : Spl w' g b l wt bad := by
  rcases h with ⟨h0, fi, la, L, hG, hl⟩ | ⟨h0, hw, hl, hX, hlo, hne, hb⟩
  · exact .inl ⟨h0, fi, la, L, hG.keep h1 h2, hl⟩
  · exact .inr ⟨h0, hw, hl, h1.trans hX, hlo, hne, Nat.lt_of_lt_of_le hb hs⟩
theorem Spl.lts (h : Spl w g b l wt bad) : g < w.heap.size ∧ b < w.heap.size ∧ b ≠ g ∧ 0 < g := by
  rcases h with ⟨_, fi, la, L, hG, _⟩ | ⟨_, _, _, hX, hlo, hne, hb⟩
  · exact ⟨hG.row.lt, hG.buf.lt, hG.ne, hG.lo.1⟩
  · exact ⟨Row.lt hX, hb, hne, hlo⟩
theorem Spl.fs {S : Nat → Prop} (h : Spl w g b l wt bad) (hf : Fs S w w') (h1 : ¬ S g) (h2 : ¬ S b) : Spl w' g b l wt bad := h.keep hf.size (hf.block g h.lts.1 h1) (hf.block b h.lts.2.1 h2)
theorem Spl.below (h : Spl w g b l wt bad) (hb : Below w.heap.size w w') : Spl w' g b l wt bad := h.keep hb.size (hb.block g h.lts.1) (hb.block b h.lts.2.1)
theorem Spl.bad_cell (h : Spl w g b l wt bad) : w.cell? ⟨g, 4, none⟩ = some (.bool bad) := by
  rcases h with ⟨rfl, fi, la, L, hG, _⟩ | ⟨rfl, _, _, hX, _⟩
  · exact hG.c4
  · exact Row.cell hX rfl
theorem Spl.le (h : Spl w g b l wt bad) : l.length ≤ 16393 := by
  rcases h with ⟨_, fi, la, L, hG, rfl⟩ | ⟨_, _, rfl, _⟩
  · rw [hG.held_len]; have := hG.la; omega
  · simp
theorem GlobE.fs {S : Nat → Prop} (h : GlobE w) (hf : Fs S w w') (hS : ¬ S 0) : GlobE w' := (World.cell?_of_block (a := ⟨0, 0, none⟩) (hf.block _ (blk_lt h) hS)).trans h
end
theorem gbS_glob {g b : Nat} (h1 : 0 < g) (h2 : 0 < b) : ¬ gbS g b 0 := fun h => by rcases h with h | h <;> omega

set_option maxRecDepth 100000 in
set_option maxHeartbeats 1000000 in
theorem bad_nil (w : World) : Calls Tryd.prog 12 #[.pointer none] w fun e w' => e = .returned (.bool true) ∧ w' = w := by
  go_enter Tryd.func12, Tryd.ntmps12
  go_wp2_with fail
  go_ret
  exact ⟨rfl, rfl⟩
set_option maxRecDepth 100000 in
set_option maxHeartbeats 1000000 in
theorem bad_cell {w : World} {g : Nat} {x : Bool} (h : w.cell? ⟨g, 4, none⟩ = some (.bool x)) : Calls Tryd.prog 12 #[.pointer (some ⟨g, 0, none⟩)] w fun e w' => e = .returned (.bool x) ∧ w' = w := by
  go_enter Tryd.func12, Tryd.ntmps12
  go_wp2_with fail
  go_ret
  exact ⟨by cases x <;> rfl, rfl⟩
theorem bad_any {w : World} {g b : Nat} {l : List UInt8} {wt bad : Bool} (h : Spl w g b l wt bad) : Calls Tryd.prog 12 #[.pointer (some ⟨g, 0, none⟩)] w fun e w' => e = .returned (.bool bad) ∧ w' = w := bad_cell h.bad_cell

/-- What held hands back. -/
theorem held_cut {w : World} {g b fi la : Nat} {L : List UInt8} {wt : Bool} (h : SpG w g b fi la L wt) : ∃ A', (∀ W, (Instr.slice 22 (.slice (some ⟨b, 0, none⟩) 16393 16393) (some (.int .i64 (fi : Int))) (some (.int .i64 (la : Int))) none).run Tryd.prog W = .ok (.slice A' (la - fi) (16393 - fi)) W) ∧ RdB w w.heap.size A' (heldL L fi la) ∧ RdS w (fun k => k = b) A' (byc (heldL L fi la)) := by
  obtain ⟨i0, hi0, hz0, hz1, hz2⟩ := info_parts u8_info
  have hl := h.len
  have hla := h.la
  obtain ⟨A', h1, h2, h3⟩ := cut_both (P := Tryd.prog) Tryd.underlying22 hi0 hz1 h.reads (c := 16393) (by omega) h.le (by omega)
  rw [hl] at h1
  refine ⟨A', h1, h2, fun hne => ?_⟩
  have hlen := h.held_len
  have h0 : heldL L fi la ≠ [] := fun e => hne (by rw [e]; rfl)
  obtain ⟨g', o', e1, _, hc⟩ := h2 h0
  have hpos : 0 < la - fi := by rw [← hlen]; exact List.length_pos_iff.2 h0
  have e2 := h3 (by omega)
  rw [e1] at e2
  simp [add_plain] at e2
  obtain ⟨e2, e3⟩ := e2
  subst e2
  refine ⟨_, _, e1, rfl, fun j u hu => ?_⟩
  obtain ⟨hj, rfl⟩ := byc_get hu
  exact hc j hj
set_option maxRecDepth 100000 in
set_option maxHeartbeats 1000000 in
theorem held_any {w : World} {g b fi la : Nat} {L : List UInt8} {wt : Bool} (h : SpG w g b fi la L wt) :
    Calls Tryd.prog 25 #[.pointer (some ⟨g, 0, none⟩)] w fun e w' => ∃ A', e = .returned (.slice A' (la - fi) (16393 - fi)) ∧ RdB w w.heap.size A' (heldL L fi la) ∧ RdS w (fun k => k = b) A' (byc (heldL L fi la)) ∧ ∃ n, w' = w.drewN n := by
  obtain ⟨A', hcut, hr, hs⟩ := held_cut h
  have c0 := h.c0
  have c1 := h.c1
  have c2 := h.c2
  have HR := Lib.hid hr
  have HS := Lib.hid hs
  clear hr hs h
  go_enter Tryd.func25, Tryd.ntmps25
  go_wp2
  go_quiet (fail)
  go_wp2
  go_ret
  exact ⟨A', rfl, HR.out, HS.out, _, rfl⟩
set_option maxRecDepth 100000 in
set_option maxHeartbeats 1000000 in
theorem hld_nil (w : World) : Calls Tryd.prog 13 #[.pointer none] w fun e w' => e = .returned (.int .i64 0) ∧ w' = w := by
  go_enter Tryd.func13, Tryd.ntmps13
  go_wp2_with fail
  go_ret
  exact ⟨rfl, rfl⟩
set_option maxRecDepth 100000 in
set_option maxHeartbeats 1000000 in
theorem hld_good {w : World} {g b fi la : Nat} {L : List UInt8} {wt : Bool} (h : SpG w g b fi la L wt) :
    Calls Tryd.prog 13 #[.pointer (some ⟨g, 0, none⟩)] w fun e w' => e = .returned (.int .i64 ((la - fi : Nat) : Int)) ∧ ∃ n, w' = w.drewN n := by
  have hh := held_any h
  clear h
  go_enter Tryd.func13, Tryd.ntmps13
  go_wp2_with fail
  refine hh.mono ?_
  rintro e w1 ⟨A', rfl, _, _, n, rfl⟩
  go_wp2_with fail
  go_ret
  exact ⟨rfl, _, rfl⟩
end Go.Proofs.YtnjnepploockiaaDoor
