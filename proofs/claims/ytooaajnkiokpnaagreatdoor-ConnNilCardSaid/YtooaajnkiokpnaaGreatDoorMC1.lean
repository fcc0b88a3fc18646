/-
  What New calls: the gatherer's, the tables', the meter's and the ring's New, by what they hand back and leave alone; a map made. Conditions: none but those that each theorem names.
  A side of a connection in memory: its cells; an event's cells. No conditions but those that each theorem names.
  The streams that a side knows stand in a map: its entries; a look-up, an entry made, one deleted, told by them. No conditions but those that each theorem names.
-/
import Derived.Test.YtooaajnkiokpnaaGreatDoorAg
import Derived.Test.YtooaajnkiokpnaaGreatDoorFs
import Derived.Test.YtooaajnkiokpnaaGreatDoorMG
import Derived.MapKept
import Derived.ChangeMaps4
import Derived.Test.YtooaajnkiokpnaaGreatDoorMW
import Derived.Lib.MinMax

namespace Go.Proofs.YtooaajnkiokpnaaGreatDoor
open Go.RowKit Go.WideShapes

/-- A side. -/
structure Cc where
  srv : Bool
  sp : Value
  ga : Value
  de : Value
  en : Value
  ow : Value
  pe : St
  ev : Value
  mt : Value
  wn : Nat
  row : Value
  rep : Nat
  rg : Value
  sm : Value
  ov : Value
  lv : Nat
  la : Nat
  be : Bool
  aw : Bool
  pa : Bool
  go : Bool
/-- A side's cells. -/
def Cc.c (x : Cc) : Array Value := #[.bool x.srv, x.sp, x.ga, x.de, x.en, x.ow, .int .u32 x.pe.tb, .bool x.pe.pu, .int .u32 x.pe.st, .int .u32 x.pe.wn, .int .u32 x.pe.fr, .int .u32 x.pe.hd, .bool x.pe.co, x.ev, x.mt, .int .u32 x.wn, x.row, .int .i64 x.rep, x.rg, x.sm, x.ov, .int .i64 x.lv, .int .u32 x.la, .bool x.be, .bool x.aw, .bool x.pa, .bool x.go]
section
variable {w : World} {c : Nat} {x : Cc}
theorem cc0 (h : Row w c 86 x.c) : w.cell? ⟨c, 0, none⟩ = some (.bool x.srv) := h.cell (by unfold Cc.c; rfl)
theorem cc1 (h : Row w c 86 x.c) : w.cell? ⟨c, 1, none⟩ = some x.sp := h.cell (by unfold Cc.c; rfl)
theorem cc2 (h : Row w c 86 x.c) : w.cell? ⟨c, 2, none⟩ = some x.ga := h.cell (by unfold Cc.c; rfl)
theorem cc3 (h : Row w c 86 x.c) : w.cell? ⟨c, 3, none⟩ = some x.de := h.cell (by unfold Cc.c; rfl)
theorem cc4 (h : Row w c 86 x.c) : w.cell? ⟨c, 4, none⟩ = some x.en := h.cell (by unfold Cc.c; rfl)
theorem cc5 (h : Row w c 86 x.c) : w.cell? ⟨c, 5, none⟩ = some x.ow := h.cell (by unfold Cc.c; rfl)
theorem cc13 (h : Row w c 86 x.c) : w.cell? ⟨c, 13, none⟩ = some x.ev := h.cell (by unfold Cc.c; rfl)
theorem cc14 (h : Row w c 86 x.c) : w.cell? ⟨c, 14, none⟩ = some x.mt := h.cell (by unfold Cc.c; rfl)
theorem cc15 (h : Row w c 86 x.c) : w.cell? ⟨c, 15, none⟩ = some (.int .u32 x.wn) := h.cell (by unfold Cc.c; rfl)
theorem cc16 (h : Row w c 86 x.c) : w.cell? ⟨c, 16, none⟩ = some x.row := h.cell (by unfold Cc.c; rfl)
theorem cc17 (h : Row w c 86 x.c) : w.cell? ⟨c, 17, none⟩ = some (.int .i64 x.rep) := h.cell (by unfold Cc.c; rfl)
theorem cc18 (h : Row w c 86 x.c) : w.cell? ⟨c, 18, none⟩ = some x.rg := h.cell (by unfold Cc.c; rfl)
theorem cc19 (h : Row w c 86 x.c) : w.cell? ⟨c, 19, none⟩ = some x.sm := h.cell (by unfold Cc.c; rfl)
theorem cc20 (h : Row w c 86 x.c) : w.cell? ⟨c, 20, none⟩ = some x.ov := h.cell (by unfold Cc.c; rfl)
theorem cc21 (h : Row w c 86 x.c) : w.cell? ⟨c, 21, none⟩ = some (.int .i64 x.lv) := h.cell (by unfold Cc.c; rfl)
theorem cc22 (h : Row w c 86 x.c) : w.cell? ⟨c, 22, none⟩ = some (.int .u32 x.la) := h.cell (by unfold Cc.c; rfl)
theorem cc23 (h : Row w c 86 x.c) : w.cell? ⟨c, 23, none⟩ = some (.bool x.be) := h.cell (by unfold Cc.c; rfl)
theorem cc24 (h : Row w c 86 x.c) : w.cell? ⟨c, 24, none⟩ = some (.bool x.aw) := h.cell (by unfold Cc.c; rfl)
theorem cc25 (h : Row w c 86 x.c) : w.cell? ⟨c, 25, none⟩ = some (.bool x.pa) := h.cell (by unfold Cc.c; rfl)
theorem cc26 (h : Row w c 86 x.c) : w.cell? ⟨c, 26, none⟩ = some (.bool x.go) := h.cell (by unfold Cc.c; rfl)
theorem cc_ev (h : Row w c 86 x.c) (v : Value) : Row (w.setCell ⟨c, 13, none⟩ v) c 86 ({ x with ev := v } : Cc).c := h.stored 13 v
theorem cc_row (h : Row w c 86 x.c) (v : Value) : Row (w.setCell ⟨c, 16, none⟩ v) c 86 ({ x with row := v } : Cc).c := h.stored 16 v
theorem cc_rep (h : Row w c 86 x.c) (n : Nat) : Row (w.setCell ⟨c, 17, none⟩ (.int .i64 n)) c 86 ({ x with rep := n } : Cc).c := h.stored 17 _
theorem cc_go (h : Row w c 86 x.c) (b : Bool) : Row (w.setCell ⟨c, 26, none⟩ (.bool b)) c 86 ({ x with go := b } : Cc).c := h.stored 26 _
theorem cc_be (h : Row w c 86 x.c) (b : Bool) : Row (w.setCell ⟨c, 23, none⟩ (.bool b)) c 86 ({ x with be := b } : Cc).c := h.stored 23 _
theorem cc_aw (h : Row w c 86 x.c) (b : Bool) : Row (w.setCell ⟨c, 24, none⟩ (.bool b)) c 86 ({ x with aw := b } : Cc).c := h.stored 24 _
theorem cc_pa (h : Row w c 86 x.c) (b : Bool) : Row (w.setCell ⟨c, 25, none⟩ (.bool b)) c 86 ({ x with pa := b } : Cc).c := h.stored 25 _
theorem cc_lv (h : Row w c 86 x.c) (n : Nat) : Row (w.setCell ⟨c, 21, none⟩ (.int .i64 n)) c 86 ({ x with lv := n } : Cc).c := h.stored 21 _
theorem cc_la (h : Row w c 86 x.c) (n : Nat) : Row (w.setCell ⟨c, 22, none⟩ (.int .u32 n)) c 86 ({ x with la := n } : Cc).c := h.stored 22 _
theorem cc_ov (h : Row w c 86 x.c) (v : Value) : Row (w.setCell ⟨c, 20, none⟩ v) c 86 ({ x with ov := v } : Cc).c := h.stored 20 v
end
/-- An event. -/
structure Ev where
  kd : Nat
  st : Nat
  fA : Option Addr
  fn : Nat
  fc : Nat
  dA : Option Addr
  dn : Nat
  dc : Nat
  en : Bool
  cd : Nat
  sc : Nat
  co : Nat
def evc (x : Ev) : Array Value := #[.int .u8 x.kd, .int .u32 x.st, .slice x.fA x.fn x.fc, .slice x.dA x.dn x.dc, .bool x.en, .int .u32 x.cd, .int .u8 x.sc, .int .u32 x.co]
def evl (x : Ev) : List Value := (evc x).toList
/-- A fault of the connection, told. -/
def evF (n : Nat) : Ev := ⟨6, 0, none, 0, 0, none, 0, 0, false, 0, 1, n⟩
def ev0 : Ev := ⟨0, 0, none, 0, 0, none, 0, 0, false, 0, 0, 0⟩
theorem evl_len (x : Ev) : (evl x).length = 8 := rfl
theorem evl_one (x : Ev) : ∀ u ∈ evl x, u.oneCell' = true := by
  intro u hu
  unfold evl evc at hu
  simp at hu
  rcases hu with rfl | rfl | rfl | rfl | rfl | rfl | rfl | rfl <;> rfl
theorem ev_sz (x y : Ev) : (evc x).size = (evc y).size := rfl
theorem ev_info : (Tryz.prog.info? 31).map (·.size) = some 8 := by kernel_rfl
theorem ev_ok (x : Ev) : AgOk Tryz.prog 31 (evc x) := ⟨⟨_, Tryz.underlying31⟩, ev_info, by unfold evc; kernel_rfl⟩
theorem ev_full : (Tryz.prog.info? 31).map (fun i => (i.zero, i.size, i.bytes)) = some (some (.agg #[.int .u8 0, .int .u32 0, .slice none 0 0, .slice none 0 0, .bool false, .int .u32 0, .int .u8 0, .int .u32 0]), 8, 72) := by kernel_rfl
theorem ev_cells {w : World} {g : Nat} {x : Ev} (h : Row w g 31 (evc x)) : w.cell? ⟨g, 0, none⟩ = some (.int .u8 x.kd) ∧ w.cell? ⟨g, 1, none⟩ = some (.int .u32 x.st) ∧ w.cell? ⟨g, 5, none⟩ = some (.int .u32 x.cd) :=
  ⟨h.cell (by unfold evc; rfl), h.cell (by unfold evc; rfl), h.cell (by unfold evc; rfl)⟩
end Go.Proofs.YtooaajnkiokpnaaGreatDoor

namespace Go.Proofs.YtooaajnkiokpnaaGreatDoor
open Go.RowKit Go.WideShapes

/-- An entry: a number, and where its stream lies. -/
def pv (p : Nat × Nat) : Value × Value := (.int .u32 (p.1 : Int), .pointer (some ⟨p.2, 0, none⟩))
/-- The first entry of a number: its place, counted from i on; where its stream lies. -/
def atM : List (Nat × Nat) → Nat → Nat → Option (Nat × Nat)
  | [], _, _ => none
  | p :: r, n, i => if p.1 = n then some (i, p.2) else atM r n (i + 1)
/-- Block g is a map with these entries. -/
def MapM (w : World) (g : Nat) (L : List (Nat × Nat)) : Prop := ∃ es clk, w.heap[g]? = some (.map es clk) ∧ es.toList.map (fun e => (e.key, e.val)) = L.map pv
section
variable {w w' : World} {g : Nat} {L : List (Nat × Nat)}
theorem MapM.lt (h : MapM w g L) : g < w.heap.size := by
  obtain ⟨es, clk, h1, _⟩ := h
  exact (Array.getElem?_eq_some_iff.1 h1).1
theorem MapM.keep (h : MapM w g L) (hk : w'.heap[g]? = w.heap[g]?) : MapM w' g L := by
  obtain ⟨es, clk, h1, h2⟩ := h
  exact ⟨es, clk, hk.trans h1, h2⟩
theorem MapM.below (h : MapM w g L) (hb : Below w.heap.size w w') : MapM w' g L := h.keep (hb.block g h.lt)
theorem MapM.fs {S : Nat → Prop} (h : MapM w g L) (hf : Fs S w w') (hS : ¬ S g) : MapM w' g L := h.keep (hf.block g h.lt hS)
theorem MapM.ne (h : MapM w g L) {k : Nat} {T : TypeId} {cs : Array Value} (h2 : Row w k T cs) : g ≠ k := by
  rintro rfl
  obtain ⟨es, clk, h1, _⟩ := h
  unfold Row at h2
  rw [h1] at h2
  cases h2
theorem MapM.new (w : World) : MapM (w.alloc (.map #[] 0)) w.heap.size [] := ⟨#[], 0, heap_alloc_last w _, rfl⟩
theorem findNow_is (n : Nat) : ∀ (es : List MapEntry) (L : List (Nat × Nat)) (i : Nat), es.map (fun e => (e.key, e.val)) = L.map pv → Instr.findNow (.int .u32) (.int .u32 (n : Int)) es i = some ((atM L n i).map fun q => (q.1, .pointer (some ⟨q.2, 0, none⟩)))
  | [], [], _, _ => rfl
  | [], p :: r, _, h => by simp at h
  | e :: es, [], _, h => by simp at h
  | e :: es, p :: r, i, h => by
    simp only [List.map_cons, List.cons.injEq, Prod.mk.injEq, pv] at h
    obtain ⟨⟨h1, h2⟩, h3⟩ := h
    unfold Instr.findNow atM
    rw [h1]
    by_cases hp : p.1 = n
    · have : Instr.sameNow (.int .u32) (.int .u32 (n : Int)) (.int .u32 (p.1 : Int)) = some true := by simp [Instr.sameNow, hp]
      rw [this, if_pos hp]
      simp [h2]
    · have : Instr.sameNow (.int .u32) (.int .u32 (n : Int)) (.int .u32 (p.1 : Int)) = some false := by
        simp only [Instr.sameNow, if_true, Option.some.injEq, beq_eq_false_iff_ne, ne_eq]
        omega
      rw [this, if_neg hp]
      exact findNow_is n es r (i + 1) (by simpa [pv] using h3)
theorem run_find {es : Array MapEntry} (n : Nat) (h : es.toList.map (fun e => (e.key, e.val)) = L.map pv) (w : World) : (Instr.findKey 24 (.int .u32 (n : Int)) es.toList).run Tryz.prog w = .ok ((atM L n 0).map fun q => (q.1, .pointer (some ⟨q.2, 0, none⟩))) w := by
  unfold Instr.findKey
  simp only [Sem.run_bind, run_underlying Tryz.underlying24, Result.andThen, findNow_is n es.toList L 0 h, Sem.run_pure]
theorem run_key (e : Bool) (n : Nat) (w : World) : (Instr.checkKey e 10000 24 (.int .u32 (n : Int))).run Tryz.prog w = .ok () w   := MapKept.run_checkKey Tryz.underlying24 (by simp [MapKept.IsKey]) e 9999
theorem known_zero (w : World) : (zeroValue 96).run Tryz.prog w = .ok (.pointer none) w := by
  have h : (Tryz.prog.info? 96).map (·.zero) = some (some (.pointer none)) := by kernel_rfl
  cases hi : Tryz.prog.info? 96 with
  | none => rw [hi] at h; simp at h
  | some i => rw [hi] at h; simp at h; simp [zeroValue, typeInfo, hi, h]
theorem look_no (h : MapM w g L) {n : Nat} (hn : atM L n 0 = none) : (Instr.lookup 84 (.map (some g)) (.int .u32 (n : Int)) false).run Tryz.prog w = .ok (.pointer none) w := by
  obtain ⟨es, clk, h1, h2⟩ := h
  have hf := run_find n h2 w
  rw [hn] at hf
  simp [Instr.lookup, Sem.run_bind, run_underlying Tryz.underlying84, MapKept.run_getObj_map h1, run_key, hf, known_zero, Result.andThen]
theorem look_yes (h : MapM w g L) {n i k : Nat} (hn : atM L n 0 = some (i, k)) : (Instr.lookup 84 (.map (some g)) (.int .u32 (n : Int)) false).run Tryz.prog w = .ok (.pointer (some ⟨k, 0, none⟩)) w := by
  obtain ⟨es, clk, h1, h2⟩ := h
  have hf := run_find n h2 w
  rw [hn] at hf
  simp [Instr.lookup, Sem.run_bind, run_underlying Tryz.underlying84, MapKept.run_getObj_map h1, run_key, hf, Result.andThen]
theorem heap_put (w : World) (g : Nat) (o : Obj) : ∀ k, k ≠ g → ({ w with heap := w.heap.setIfInBounds g o } : World).heap[k]? = w.heap[k]? := fun k hk => by
  simp [Array.getElem?_setIfInBounds, Ne.symm hk]
theorem put_fs (w : World) (g : Nat) (o : Obj) : Fs (fun k => k = g) w { w with heap := w.heap.setIfInBounds g o } := ⟨rfl, rfl, rfl, by simp, fun k _ hk => heap_put w g o k hk⟩
theorem put_at {w : World} {g : Nat} (h : g < w.heap.size) (o : Obj) : ({ w with heap := w.heap.setIfInBounds g o } : World).heap[g]? = some o := by simp [h]
theorem map_erase {α β : Type} (f : α → β) : ∀ (l : List α) (i : Nat), (l.eraseIdx i).map f = (l.map f).eraseIdx i
  | [], _ => rfl
  | _ :: _, 0 => rfl
  | a :: l, i + 1 => by simp [map_erase f l i]
/-- An entry of a number that has none. -/
theorem run_enter (h : MapM w g L) {n : Nat} (k : Nat) (hn : atM L n 0 = none) : ∃ w', (Instr.mapUpdate 84 (.map (some g)) (.int .u32 (n : Int)) (.pointer (some ⟨k, 0, none⟩))).run Tryz.prog w = .ok () w' ∧ MapM w' g (L ++ [(n, k)]) ∧ Fs (fun j => j = g) w w' := by
  have hlt := h.lt
  obtain ⟨es, clk, h1, h2⟩ := h
  have hf := run_find n h2 w
  rw [hn] at hf
  refine ⟨{ w with heap := w.heap.setIfInBounds g (.map (es.push ⟨.int .u32 (n : Int), .pointer (some ⟨k, 0, none⟩), clk⟩) (clk + 1)) }, ?_, ⟨_, _, put_at hlt _, ?_⟩, put_fs _ _ _⟩
  · simp [Instr.mapUpdate, Sem.run_bind, run_underlying Tryz.underlying84, MapKept.run_getObj_map h1, run_key, hf, MapKept.run_setObj_map _ h1, Result.andThen]
  · simp [h2, pv]
/-- The entry of a number is deleted. -/
theorem run_drop (h : MapM w g L) {n i k : Nat} (hn : atM L n 0 = some (i, k)) : ∃ w', (∀ ty, (Builtin.delete_ #[84, 24] ty #[.map (some g), .int .u32 (n : Int)]).run Tryz.prog w = .ok (.tuple #[]) w') ∧ MapM w' g (L.eraseIdx i) ∧ Fs (fun j => j = g) w w' := by
  have hlt := h.lt
  obtain ⟨es, clk, h1, h2⟩ := h
  have hf := run_find n h2 w
  rw [hn] at hf
  refine ⟨{ w with heap := w.heap.setIfInBounds g (.map (es.eraseIdxIfInBounds i) clk) }, ?_, ⟨_, _, put_at hlt _, ?_⟩, put_fs _ _ _⟩
  · intro ty
    simp [Builtin.delete_, Sem.run_bind, run_underlying Tryz.underlying84, MapKept.run_getObj_map h1, run_key, hf, MapKept.run_setObj_map _ h1, Result.andThen]
  · rw [map_erase, ← h2, ← map_erase, Array.eraseIdxIfInBounds]
    split
    · simp
    · rename_i h
      rw [List.eraseIdx_of_length_le (by simpa using h)]
end
end Go.Proofs.YtooaajnkiokpnaaGreatDoor

namespace Go.Proofs.YtooaajnkiokpnaaGreatDoor
open Go.RowKit Go.WideShapes

/-- A pointer comes back; all that was stays. -/
def PtP (w : World) (e : Ending) (w' : World) : Prop := ∃ g, e = .returned (.pointer (some ⟨g, 0, none⟩)) ∧ w.heap.size ≤ g ∧ Below w.heap.size w w'
set_option maxRecDepth 100000 in
theorem gat_new (w : World) : Calls Tryz.prog 50 #[] w (PtP w) := by
  go_enter Tryz.func50, Tryz.ntmps50
  go_wp2_with fail
  go_ret
  exact ⟨_, rfl, Nat.le_refl _, (Below.refl _ _).alloc (Nat.le_refl _) _⟩
set_option maxRecDepth 100000 in
theorem atMost_4096 (w : World) : Calls Tryz.prog 86 #[.int .u32 4096] w fun e w' => e = .returned (.int .u32 4096) ∧ w' = w := by
  go_enter Tryz.func86, Tryz.ntmps86
  go_wp2_with fail
  go_ret
  exact ⟨rfl, rfl⟩
set_option maxRecDepth 100000 in
theorem tab_new (w : World) : Calls Tryz.prog 87 #[.int .u32 4096] w (PtP w) := by
  go_enter Tryz.func87, Tryz.ntmps87
  go_wp2_with fail
  go_ret
  exact ⟨_, rfl, Nat.le_refl _, (Below.refl _ _).alloc (Nat.le_refl _) _⟩
set_option maxRecDepth 100000 in
theorem dec_new (w : World) : Calls Tryz.prog 51 #[.int .u32 4096] w (PtP w) := by
  go_enter Tryz.func51, Tryz.ntmps51
  go_wp2_with fail
  refine (atMost_4096 _).mono ?_
  rintro e w1 ⟨rfl, rfl⟩
  go_wp2_with fail
  refine (tab_new _).mono ?_
  rintro e w2 ⟨g, rfl, hg, hb⟩
  have HB := Lib.hid hb
  clear hb
  go_wp2_with fail
  go_ret
  exact ⟨_, rfl, by have := HB.out.size; simp <;> omega, HB.out.alloc HB.out.size _⟩
set_option maxRecDepth 100000 in
theorem enc_new (w : World) : Calls Tryz.prog 52 #[.int .u32 4096] w (PtP w) := by
  go_enter Tryz.func52, Tryz.ntmps52
  go_wp2_with fail
  refine (atMost_4096 _).mono ?_
  rintro e w1 ⟨rfl, rfl⟩
  go_wp2_with fail
  refine (tab_new _).mono ?_
  rintro e w2 ⟨g, rfl, hg, hb⟩
  have HB := Lib.hid hb
  clear hb
  go_wp2_with fail
  go_ret
  exact ⟨_, rfl, by have := HB.out.size; simp <;> omega, HB.out.alloc HB.out.size _⟩
set_option maxRecDepth 100000 in
theorem ring_new (w : World) : Calls Tryz.prog 56 #[.int .i64 65535] w (PtP w) := by
  go_enter Tryz.func56, Tryz.ntmps56
  go_wp2_with fail
  refine (wnew_any 65535 false _).mono ?_
  rintro e w1 ⟨g, rfl, _, hb, hg⟩
  have HB := Lib.hid hb
  clear hb
  go_wp2_with fail
  go_ret
  exact ⟨_, rfl, by have := HB.out.size; simp <;> omega, HB.out.alloc HB.out.size _⟩
theorem make_streams (W : World) : (Instr.makeMap 84 none).run Tryz.prog W = .ok (.map (some W.heap.size)) (W.alloc (.map #[] 0)) := by
  simp [Instr.makeMap, Sem.run_bind, run_underlying Tryz.underlying84]
end Go.Proofs.YtooaajnkiokpnaaGreatDoor
