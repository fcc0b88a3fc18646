/-
  New, Preface, HasPrefix, tooGreat, by their contracts. No conditions but those that each theorem names.
-/
import Derived.Test.YtnjnepploockiaaDoorSpfd
import Derived.Lib.SlBytesConst
namespace Go.Proofs.YtnjnepploockiaaDoor
open Go.RowKit Go.WideShapes

theorem heldL_nil (L : List UInt8) (k : Nat) : heldL L k k = [] := by unfold heldL; rw [Nat.sub_self, List.take_zero]
set_option maxRecDepth 100000 in
set_option maxHeartbeats 2000000 in
theorem new_any (w : World) (p : Bool) (hG : GlobE w) :
    Calls Tryd.prog 8 #[.bool p] w fun e w' => ∃ g, e = .returned (.pointer (some ⟨g, 0, none⟩)) ∧ ∃ b, SpG w' g b 0 0 (List.replicate 16393 0) p ∧ w.heap.size ≤ g ∧ w.heap.size ≤ b ∧ Below w.heap.size w w' := by
  obtain ⟨i0, hi0, hz0, hz1, hz2⟩ := info_parts u8_info
  have hmk : ∀ W : World, (Instr.makeSlice 22 (.int .i64 16393) (.int .i64 16393)).run Tryd.prog W = .ok (.slice (some ⟨W.heap.size, 0, none⟩) 16393 16393) (W.alloc (.cells (madeCells #[Value.int .u8 0] 16393) 5)) := fun W => by
    have := run_make (P := Tryd.prog) W 22 5 i0 (.int .u8 0) Tryd.underlying22 hi0 hz0 .i64 .i64 16393 16393 (by omega) (by omega) (by rw [hz2]; omega) (by omega)
    rw [this, hz1, Nat.mul_one]
    rfl
  have hMC : (madeCells #[Value.int .u8 0] 16393).toList = byc (List.replicate 16393 0) := made_zeros 16393
  have hlt := blk_lt hG
  have HL : Hid ((List.replicate 16393 (0 : UInt8)).length = 16393) := List.length_replicate
  generalize madeCells #[Value.int .u8 0] 16393 = MC at *
  generalize List.replicate 16393 (0 : UInt8) = L at *
  obtain rfl : MC = (byc L).toArray := by rw [← hMC, Array.toArray_toList]
  clear hMC hG
  go_enter Tryd.func8, Tryd.ntmps8
  go_wp2_with fail
  go_ret
  refine ⟨w.heap.size + 1, rfl, w.heap.size, ⟨?_, ?_, by omega, HL.out, Nat.le_refl _, by omega, by omega, by omega⟩, by omega, Nat.le_refl _, ((Below.refl _ _).alloc (Nat.le_refl _) _).alloc (by simp) _⟩
  · exact Row.made _ _ _ (by simp)
  · exact (Row.new w _ _).alloc _
/-- A row of bytes that bears a conversion's mark behind its last cell. -/
def MkRow (w : World) (g : Nat) (l : List UInt8) : Prop := w.heap[g]? = some (.cells (byc l).toArray 5 (l.length, l.length + 1))
theorem MkRow.cell {w : World} {g : Nat} {l : List UInt8} (h : MkRow w g l) (j : Nat) : w.cell? ⟨g, j, none⟩ = (byc l)[j]? := by
  unfold World.cell?
  rw [show w.heap[g]? = _ from h]
  simp
theorem MkRow.lt {w : World} {g : Nat} {l : List UInt8} (h : MkRow w g l) : g < w.heap.size := (Array.getElem?_eq_some_iff.1 h).1
theorem MkRow.keep {w w' : World} {g : Nat} {l : List UInt8} (h : MkRow w g l) (hg : w'.heap[g]? = w.heap[g]?) : MkRow w' g l := hg.trans h
theorem MkRow.below {w w' : World} {g B : Nat} {l : List UInt8} (h : MkRow w g l) (hb : Below B w w') (hg : g < B) : MkRow w' g l := (hb.block g hg).trans h
theorem MkRow.reads {w : World} {g B : Nat} {l : List UInt8} (h : MkRow w g l) (hB : g < B) : RdB w B (some ⟨g, 0, none⟩) l := fun _ => ⟨g, 0, rfl, hB, fun j hj => by
  rw [Nat.zero_add, h.cell, byc_at hj]⟩
section
variable {P : Program}
/-- An append onto a slice that has no room, from any slice: into a new row. -/
theorem run_appFull (w : World) (base : Nat) (t e : TypeId) (i : TypeInfo) (ht : P.underlying t = some (.slice e)) (hi : P.info? e = some i) (hz : i.zero = some (.int .u8 0)) (hsize : i.size = 1) (hby : i.bytes = 1)
    {g g2 o2 : Nat} {l m : List UInt8} {c B : Nat} (hl : RdB w B (some ⟨g, 0, none⟩) l) (hm : RdB w B (some ⟨g2, o2, none⟩) m) (hm0 : 0 < m.length) (h63 : l.length + m.length ≤ 1099511627776) (hbase : base ≤ w.heap.size) :
    ∃ c' w', (∀ ty, (Builtin.append_ #[t, t] ty #[.slice (some ⟨g, 0, none⟩) l.length l.length, .slice (some ⟨g2, o2, none⟩) m.length c]).run P w = .ok (.slice (some ⟨w.heap.size, 0, none⟩) (l ++ m).length c') w') ∧ Bo w' base e (.slice (some ⟨w.heap.size, 0, none⟩) (l ++ m).length c') (l ++ m) ∧ Below w.heap.size w w' := by
  have hr := fun ty => run_append_grow (P := P) (w := w) t ty e i (.int .u8 0) ht hi hz ⟨g, 0, none⟩ l.length l.length (byc l) (by rw [hsize]; simp [byc_length]) hl.adds ⟨g2, o2, none⟩ m.length c (byc m) (by rw [hsize]; simp [byc_length]) hm.adds (by omega) (by omega) (by rw [hby]; exact growslice_fits (by omega) (by omega))
  have hge := grownCap_ge w (l.length + m.length) l.length e
  have hcm : grownCap w (l.length + m.length) l.length e ≤ maxLen := grownCap_le_maxLen w _ _ e (by simp only [maxLen]; omega)
  have hz1 : (Value.int IntKind.u8 0).cells.size = 1 := rfl
  refine ⟨_, _, by rw [List.length_append]; exact hr, ⟨by simp [byc_length], .inr ⟨w.heap.size, 0, _, _, rfl, hbase, heap_alloc_new w.drew _, by rw [List.length_append]; exact hge, hcm, ?_, ?_⟩⟩, ⟨rfl, rfl, rfl, by simp, fun k hk => Below.heap_alloc w.drew _ k hk⟩⟩
  · simp only [Array.size_append, List.size_toArray, size_zeroCells, hz1, byc_length]
    omega
  · simp only [List.drop_zero, Array.toList_append, List.append_assoc]
    rw [← List.append_assoc, ← byc_append, Nat.mul_one, ← byc_length (l ++ m)]
    exact List.take_left
/-- .. from a string. -/
theorem run_appFullS (w : World) (base : Nat) (t u e : TypeId) (i : TypeInfo) (ht : P.underlying t = some (.slice e)) (hu : P.underlying u = some .string) (hi : P.info? e = some i) (hz : i.zero = some (.int .u8 0)) (hsize : i.size = 1) (hby : i.bytes = 1)
    {g : Nat} {l m : List UInt8} {B : Nat} (hl : RdB w B (some ⟨g, 0, none⟩) l) (hm0 : 0 < m.length) (h63 : l.length + m.length ≤ 1099511627776) (hbase : base ≤ w.heap.size) :
    ∃ c' w', (∀ ty, (Builtin.append_ #[t, u] ty #[.slice (some ⟨g, 0, none⟩) l.length l.length, .string ⟨m.toArray⟩]).run P w = .ok (.slice (some ⟨w.heap.size, 0, none⟩) (l ++ m).length c') w') ∧ Bo w' base e (.slice (some ⟨w.heap.size, 0, none⟩) (l ++ m).length c') (l ++ m) ∧ Below w.heap.size w w' := by
  have hsz := str_size m
  have hr := fun ty => Lib.run_append_grow_string (P := P) w t u ty e i (.int .u8 0) ht hu hi hz ⟨g, 0, none⟩ l.length l.length (byc l) (by rw [hsize]; simp [byc_length]) hl.adds ⟨m.toArray⟩ (by omega) (by omega) (by rw [hby, hsz]; exact growslice_fits (by omega) (by omega))
  simp only [hsz, strCells_byc] at hr
  have hge := grownCap_ge w (l.length + m.length) l.length e
  have hcm : grownCap w (l.length + m.length) l.length e ≤ maxLen := grownCap_le_maxLen w _ _ e (by simp only [maxLen]; omega)
  have hz1 : (Value.int IntKind.u8 0).cells.size = 1 := rfl
  refine ⟨_, _, by rw [List.length_append]; exact hr, ⟨by simp [byc_length], .inr ⟨w.heap.size, 0, _, _, rfl, hbase, heap_alloc_new w.drew _, by rw [List.length_append]; exact hge, hcm, ?_, ?_⟩⟩, ⟨rfl, rfl, rfl, by simp, fun k hk => Below.heap_alloc w.drew _ k hk⟩⟩
  · simp only [Array.size_append, List.size_toArray, size_zeroCells, hz1, byc_length]
    omega
  · simp only [List.drop_zero, Array.toList_append, List.append_assoc]
    rw [← List.append_assoc, ← byc_append, Nat.mul_one, ← byc_length (l ++ m)]
    exact List.take_left
/-- An append, by what it comes to. -/
theorem wpList_app_run {ops : Array Oper} {rest : List Oper} {o : Oper} {a : Act} {w w' : World} {Q : Exit → Act → World → Prop} (hgd : o.guard = none) (s x : Operand) (t u : TypeId) (ho : o.op = .call { callee := .builtin .append, args := #[s, x], argTypes := #[t, u] }) {v1 v2 v' : Value}
    (hs : a.eval s = v1) (hx : a.eval x = v2) (hrun : ∀ ty, (Builtin.append_ #[t, u] ty #[v1, v2]).run P w = .ok v' w') (h : wpList P ops Q rest (a.put o.dst v') w') : wpList P ops Q (o :: rest) a w := by
  refine wpList_plain hgd fun K hK => ?_
  unfold Oper.wp execOp
  simp only [ho, resolve, invoke, builtin, Sem.run_bind, Sem.run_pure, Result.andThen_ok, List.map_toArray, List.map_cons, List.map_nil, hs, hx, hrun]
  exact hK _ _ h
end
theorem setCells_heap (b : Nat) : ∀ (vs : List Value) (o : Nat) (w : World), (w.setCells b o vs).heap.size = w.heap.size ∧ (∀ k, k ≠ b → (w.setCells b o vs).heap[k]? = w.heap[k]?) ∧ (w.setCells b o vs).os = w.os ∧ (w.setCells b o vs).tape = w.tape ∧ (w.setCells b o vs).output = w.output
  | [], _, _ => ⟨rfl, fun _ _ => rfl, rfl, rfl, rfl⟩
  | v :: r, o, w => by
    obtain ⟨h1, h2, h3, h4, h5⟩ := setCells_heap b r (o + 1) (w.setCell ⟨b, o, none⟩ v)
    exact ⟨h1.trans (by simp [World.setCell]), fun k hk => (h2 k hk).trans (Below.heap_setCell w _ v k hk), h3, h4, h5⟩
/-- clear of a marked row's bytes. -/
theorem clear_mk {w : World} {g c : Nat} {l : List UInt8} (h : MkRow w g l) : ∃ w', (∀ ty, (Builtin.clear_ #[22] ty #[.slice (some ⟨g, 0, none⟩) l.length c]).run Tryd.prog w = .ok (.tuple #[]) w') ∧ Fs (fun k => k = g) w w' := by
  obtain ⟨i0, hi0, hz0, hz1, hz2⟩ := info_parts u8_info
  by_cases h0 : l.length = 0
  · refine ⟨w, fun ty => ?_, Fs.refl _ _⟩
    rw [h0]
    simp [Builtin.clear_, run_underlying Tryd.underlying22]
  · have hzc : Builtin.zeroCells (Value.int .u8 0).cells l.length = (List.replicate l.length (Value.int .u8 0)).toArray := zeros_cells _
    have hst := run_storeCells_cells (P := Tryd.prog) g 0 (List.replicate l.length (Value.int .u8 0)) 0 w (fun j hj => by
      simp only [Nat.zero_add]
      rw [h.cell, byc_at (by simpa using hj)]
      rfl) (fun j hj => by
      unfold World.frozen?
      rw [show w.heap[g]? = _ from h]
      simp at hj ⊢
      omega) (fun u hu => by rw [(List.mem_replicate.1 hu).2]; rfl)
    obtain ⟨s1, s2, s3, s4, s5⟩ := setCells_heap g (List.replicate l.length (Value.int .u8 0)) 0 w
    refine ⟨_, fun ty => ?_, ⟨s3, s4, s5, by rw [s1]; exact Nat.le_refl _, fun k _ hk => s2 k hk⟩⟩
    obtain ⟨n, hn⟩ : ∃ n, l.length = n + 1 := ⟨l.length - 1, by omega⟩
    rw [hn] at hzc hst ⊢
    simp [Builtin.clear_, run_underlying Tryd.underlying22, zeroValue, typeInfo, hi0, hz0, hzc, hst]

set_option maxRecDepth 100000 in
set_option maxHeartbeats 2000000 in
theorem preface_any (w : World) :
    Calls Tryd.prog 16 #[] w fun e w' => e = .returned (.slice (some ⟨w.heap.size, 0, none⟩) 24 24) ∧ MkRow w' w.heap.size greetL ∧ Below w.heap.size w w' := by
  have hg : (byc greetL).toArray = #[.int .u8 80, .int .u8 82, .int .u8 73, .int .u8 32, .int .u8 42, .int .u8 32, .int .u8 72, .int .u8 84, .int .u8 84, .int .u8 80, .int .u8 47, .int .u8 50, .int .u8 46, .int .u8 48, .int .u8 13, .int .u8 10, .int .u8 13, .int .u8 10, .int .u8 83, .int .u8 77, .int .u8 13, .int .u8 10, .int .u8 13, .int .u8 10] := rfl
  have hcv := fun (w : World) (C : Array Value) (n c : Nat) => Lib.run_convert_bytes_const (P := Tryd.prog) w 22 5 C n c Tryd.underlying22 Tryd.underlying5
  go_enter Tryd.func16, Tryd.ntmps16
  go_wp2_with fail
  go_ret
  refine ⟨rfl, ?_, (Below.refl _ _).alloc (Nat.le_refl _) _⟩
  unfold MkRow
  rw [hg]
  exact heap_alloc_last w _

/-- Is one text the beginning of another one? -/
theorem lpre_any (l m : List UInt8) (_hl : l.length ≤ 1000000) (hm : m.length ≤ 1000000) (w : World) :
    Calls Tryd.prog 50 #[.string (tb l), .string (tb m)] w fun e w' => e = .returned (.bool (decide (l.take m.length = m))) ∧ w' = w := by
  have h1 := tb_size l
  have h2 := tb_size m
  by_cases hlt : m.length ≤ l.length
  · have hcut := tb_upto l (m.length : Int) (by omega) (by omega)
    rw [show ((m.length : Int)).toNat = m.length by omega] at hcut
    have he := text_eq (l.take m.length) m
    have hdd : decide (m.length ≤ l.length) = true := by simp; omega
    unfold tb at *
    go_enter Tryd.func50, Tryd.ntmps50
    go_wp2_with fail
    go_ret
    have hb : (l.take m.length == m) = decide (l.take m.length = m) := by by_cases h : l.take m.length = m <;> simp [h]
    rw [← hb]
    exact ⟨rfl, rfl⟩
  · have hdd : decide (m.length ≤ l.length) = false := by simp; omega
    have hd0 : decide (l.take m.length = m) = false := decide_eq_false fun e => by
      have := congrArg List.length e
      rw [List.length_take] at this
      omega
    unfold tb at *
    rw [hd0]
    go_enter Tryd.func50, Tryd.ntmps50
    go_wp2_with fail
    go_ret
    exact ⟨rfl, rfl⟩
theorem pre_any (l m : List UInt8) (hl : l.length ≤ 1000000) (hm : m.length ≤ 1000000) (w : World) :
    Calls Tryd.prog 42 #[.string (tb l), .string (tb m)] w fun e w' => e = .returned (.bool (decide (l.take m.length = m))) ∧ w' = w := by
  have hp := lpre_any l m hl hm
  go_enter Tryd.func42, Tryd.ntmps42
  go_wp2_with fail
  refine (hp _).mono ?_
  rintro e w1 ⟨rfl, rfl⟩
  go_wp2_with fail
  go_ret
  exact ⟨rfl, rfl⟩

theorem splB_byc_set {w : World} {g : Nat} {t : TypeId} {L : List UInt8} (h : Row w g t (byc L).toArray) (j : Nat) (b : UInt8) {v : Value} (hv : v = .int .u8 (b.toNat : Int)) : Row (w.setCell ⟨g, j, none⟩ v) g t (byc (L.set j b)).toArray := by
  subst hv
  rw [byc_set]
  have := h.stored j (.int .u8 (b.toNat : Int))
  rwa [List.setIfInBounds_toArray] at this
theorem below_setCell3 {B : Nat} {w w' : World} (h : Below B w w') {k : Nat} (hk : B ≤ k) (i j m : Nat) (x y z : Value) : Below B w (((w'.setCell ⟨k, i, none⟩ x).setCell ⟨k, j, none⟩ y).setCell ⟨k, m, none⟩ z) :=
  ((h.setCell (p := ⟨k, i, none⟩) hk x).setCell (p := ⟨k, j, none⟩) hk y).setCell (p := ⟨k, m, none⟩) hk z
theorem too_eq {l : List UInt8} (h : 9 ≤ l.length) : (((splB (List.replicate 16394 0) 0 ((l.take 9).take 16394)).set 0 0).set 1 64).set 2 1 = tooL l := by
  obtain ⟨a0, a1, a2, r, rfl⟩ : ∃ a0 a1 a2 r, l = a0 :: a1 :: a2 :: r := by
    match l, h with
    | a0 :: a1 :: a2 :: r, _ => exact ⟨_, _, _, _, rfl⟩
  have hl : ((a0 :: a1 :: a2 :: r).take 9).length = 9 := by simp at h ⊢; omega
  rw [List.take_of_length_le (l := (a0 :: a1 :: a2 :: r).take 9) (by omega)]
  unfold splB tooL
  rw [hl, List.drop_replicate]
  rfl
set_option maxRecDepth 100000 in
set_option maxHeartbeats 2000000 in
theorem too_any {w : World} {A : Option Addr} {c : Nat} {l : List UInt8} (hr : RdB w w.heap.size A l) (h9 : 9 ≤ l.length) (hc : l.length ≤ c) :
    Calls Tryd.prog 49 #[.slice A l.length c] w fun e w' => (∃ g, e = .returned (.slice (some ⟨g, 0, none⟩) 16394 16394) ∧ RdB w' w'.heap.size (some ⟨g, 0, none⟩) (tooL l)) ∧ Below w.heap.size w w' := by
  obtain ⟨i0, hi0, hz0, hz1, hz2⟩ := info_parts u8_info
  have hmk : ∀ W : World, (Instr.makeSlice 22 (.int .i64 16394) (.int .i64 16394)).run Tryd.prog W = .ok (.slice (some ⟨W.heap.size, 0, none⟩) 16394 16394) (W.alloc (.cells (madeCells #[Value.int .u8 0] 16394) 5)) := fun W => by
    have := run_make (P := Tryd.prog) W 22 5 i0 (.int .u8 0) Tryd.underlying22 hi0 hz0 .i64 .i64 16394 16394 (by omega) (by omega) (by rw [hz2]; omega) (by omega)
    rw [this, hz1, Nat.mul_one]
    rfl
  have hMC : (madeCells #[Value.int .u8 0] 16394).toList = byc (List.replicate 16394 0) := made_zeros 16394
  have HE := Lib.hid (too_eq h9)
  have HL : Hid ((List.replicate 16394 (0 : UInt8)).length = 16394) := List.length_replicate
  generalize madeCells #[Value.int .u8 0] 16394 = MC at *
  generalize List.replicate 16394 (0 : UInt8) = L at *
  obtain rfl : MC = (byc L).toArray := by rw [← hMC, Array.toArray_toList]
  obtain ⟨hcut, hR9⟩ := cut_upto (P := Tryd.prog) Tryd.underlying22 hi0 hz1 (hr.alloc (Nat.le_refl _) (.cells (byc L).toArray 5)) hc (k := 9) h9
  have HR9 := Lib.hid hR9
  have HR : Hid (Row (w.alloc (.cells (byc L).toArray 5)) w.heap.size 5 (byc L).toArray) := Row.new w _ _
  have HB : Hid (Below w.heap.size w (w.alloc (.cells (byc L).toArray 5))) := (Below.refl _ _).alloc (Nat.le_refl _) _
  clear hMC hr hR9
  have h9l : (l.take 9).length = 9 := by rw [List.length_take]; omega
  obtain ⟨w3, hcp, hb3, hf3⟩ := run_copyB (P := Tryd.prog) (w := w.alloc (.cells (byc L).toArray 5)) Tryd.underlying22 u8_one (b := w.heap.size) (off := 0) (dLen := 16394) (dCap := 16394) (dp := some ⟨w.heap.size, 0, none⟩) (sCap := c) (fun _ => rfl) HR9.out HR.out (by rw [HL.out]; omega)
  rw [h9l, show ((min 9 16394 : Nat) : Int) = 9 from rfl] at hcp
  have HB3 := Lib.hid (HB.out.trans (hf3.below (B := w.heap.size) (fun k hk _ => by rw [hk]; omega) (by simp)))
  have hL3 : (splB L 0 ((l.take 9).take 16394)).length = 16394 := by rw [splB_length (by rw [List.length_take, h9l, HL.out]; omega), HL.out]
  generalize splB L 0 ((l.take 9).take 16394) = M at *
  have r1 := splB_byc_set hb3 0 0 (v := .int .u8 0) rfl
  have r2 := splB_byc_set r1 1 64 (v := .int .u8 64) rfl
  have r3 := splB_byc_set r2 2 1 (v := .int .u8 1) rfl
  have cc : ∀ (Z : List UInt8) (W : World), Z.length = 16394 → Row W w.heap.size 5 (byc Z).toArray → ∀ j, j < 16394 → ∃ z : Nat, W.cell? ⟨w.heap.size, j, none⟩ = some (.int .u8 (z : Int)) := fun Z W hZ hW j hj => ⟨_, hW.cell (by simpa using byc_at (show j < Z.length by omega))⟩
  obtain ⟨z0, k0⟩ := cc _ _ hL3 hb3 0 (by omega)
  obtain ⟨z1, k1⟩ := cc _ _ (by simpa using hL3) r1 1 (by omega)
  obtain ⟨z2, k2⟩ := cc _ _ (by simpa using hL3) r2 2 (by omega)
  have t0 := Row.thawed hb3 0
  have t1 := Row.thawed r1 1
  have t2 := Row.thawed r2 2
  have HR3 := Lib.hid r3
  have HF3 := Lib.hid (below_setCell3 HB3.out (k := w.heap.size) (Nat.le_refl _) 0 1 2 (.int .u8 0) (.int .u8 64) (.int .u8 1))
  clear cc r1 r2 r3 hL3 hb3 hf3 HB HR HR9
  go_enter Tryd.func49, Tryd.ntmps49
  go_wp2_with fail
  go_ret
  refine ⟨⟨w.heap.size, rfl, ?_⟩, HF3.out⟩
  rw [← HE.out]
  exact fun _ => ⟨w.heap.size, 0, rfl, HR3.out.lt, fun j hj => by
    rw [Nat.zero_add]
    exact HR3.out.cell (by simpa using byc_at hj)⟩
end Go.Proofs.YtnjnepploockiaaDoor
