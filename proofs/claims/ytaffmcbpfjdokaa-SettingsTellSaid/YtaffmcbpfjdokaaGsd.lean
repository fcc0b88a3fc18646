/-
  A side in memory; New, Waits, Now, Last, by their contracts; a nil side's. Condition: few lists wait.
-/
import Derived.Test.YtaffmcbpfjdokaaGfix
import Derived.Test.YtaffmcbpfjdokaaTail
namespace Go.Proofs.Ytaffmcbpfjdokaa
open Go.RowKit Go.WideShapes

/-- A side's cells. -/
def sdc (n : St) (v : Value) : Array Value := #[.int .u32 n.tb, .bool n.pu, .int .u32 n.st, .int .u32 n.wn, .int .u32 n.fr, .int .u32 n.hd, .bool n.co, v]
/-- A side in block g: what is in force, and those that wait. -/
structure Sd (w : World) (base g : Nat) (n : St) (v : Value) (L : List St) : Prop where
  row : Row w g 57 (sdc n v)
  own : OwS w base 24 7 v L.length (enl St.l L)
  gl : base ≤ g
  ne : v.ownBlock ≠ some g
/-- The blocks that a side has. -/
def sb (g : Nat) (v : Value) : Nat → Prop := fun k => k = g ∨ ob v k
section
variable {w w' : World} {base g : Nat} {n : St} {v : Value} {L : List St}
theorem Sd.keep (h : Sd w base g n v L) (h1 : w'.heap[g]? = w.heap[g]?) (h2 : ∀ k, v.ownBlock = some k → w'.heap[k]? = w.heap[k]?) : Sd w' base g n v L := ⟨h1.trans h.row, h.own.keep h2, h.gl, h.ne⟩
theorem Sd.below (h : Sd w base g n v L) (hb : Below w.heap.size w w') : Sd w' base g n v L := h.keep (hb.block g h.row.lt) fun k hk => hb.block k (h.own.lt k hk).2
theorem Sd.fs {S : Nat → Prop} (h : Sd w base g n v L) (hf : Fs S w w') (hS : ∀ k, sb g v k → ¬ S k) : Sd w' base g n v L :=
  h.keep (hf.block g h.row.lt (hS g (.inl rfl))) fun k hk => hf.block k (h.own.lt k hk).2 (hS k (.inr hk))
theorem Sd.lts (h : Sd w base g n v L) : ∀ k, sb g v k → base ≤ k ∧ k < w.heap.size := fun k hk => by
  rcases hk with rfl | hk
  · exact ⟨h.gl, h.row.lt⟩
  · exact h.own.lt k hk
theorem Sd.now (h : Sd w base g n v L) : w.rangeAt g 0 n.c.toList := h.row.range 0 n.c.toList (fun j u hj => by
  rw [Nat.zero_add]
  have hj' : n.l[j]? = some u := hj
  have hlt : j < 7 := (List.getElem?_eq_some_iff.1 hj').1
  match j, hlt with
  | 0, _ => exact hj'
  | 1, _ => exact hj'
  | 2, _ => exact hj'
  | 3, _ => exact hj'
  | 4, _ => exact hj'
  | 5, _ => exact hj'
  | 6, _ => exact hj')
theorem Sd.sent (h : Sd w base g n v L) : w.cell? ⟨g, 7, none⟩ = some v := h.row.cell rfl
theorem Sd.shape (h : Sd w base g n v L) : ∃ A c, v = .slice A L.length c := by
  obtain ⟨A, c, h1, _⟩ := h.own.shape
  exact ⟨A, c, h1⟩
end
theorem st_llen (x : St) : x.l.length = 7 := rfl
attribute [local irreducible] St.c ftc sec

set_option maxRecDepth 100000 in
set_option maxHeartbeats 1000000 in
theorem new_any (w : World) : Calls Try.prog 14 #[] w fun e w' => ∃ g, e = .returned (.pointer (some ⟨g, 0, none⟩)) ∧ Sd w' w.heap.size g begS (.slice none 0 0) [] ∧ Below w.heap.size w w' := by
  go_enter Try.func14, Try.ntmps14
  go_wp2_with fail
  refine (begi_any _).mono ?_
  rintro e w1 ⟨rfl, hb1⟩
  have HB := Lib.hid hb1
  clear hb1
  go_wp2_with (refine wpList_build_is rfl 57 _ rfl (sdc begS (.slice none 0 0)) (by kernel_rfl) ?_)
  go_ret
  exact ⟨w1.heap.size, rfl, ⟨Row.new w1 _ _, OwS.nil, HB.out.size, by simp [Value.ownBlock]⟩, HB.out.alloc HB.out.size _⟩
set_option maxRecDepth 100000 in
theorem waits_nil (w : World) : Calls Try.prog 19 #[.pointer none] w fun e w' => e = .returned (.int .i64 0) ∧ w' = w := by
  go_enter Try.func19, Try.ntmps19
  go_wp2
  go_ret
  exact ⟨rfl, rfl⟩
set_option maxRecDepth 100000 in
theorem waits_any {w : World} {base g : Nat} {n : St} {v : Value} {L : List St} (h : Sd w base g n v L) : Calls Try.prog 19 #[.pointer (some ⟨g, 0, none⟩)] w fun e w' => e = .returned (.int .i64 L.length) ∧ w' = w := by
  obtain ⟨A, c, rfl⟩ := h.shape
  have hc := h.sent
  clear h
  go_enter Try.func19, Try.ntmps19
  go_wp2
  go_ret
  exact ⟨rfl, rfl⟩
set_option maxRecDepth 100000 in
set_option maxHeartbeats 1000000 in
theorem now_nil (w : World) : Calls Try.prog 17 #[.pointer none] w fun e w' => e = .returned (.agg begS.c) ∧ Below w.heap.size w w' := by
  have hz : zS.c = #[.int .u32 0, .bool false, .int .u32 0, .int .u32 0, .int .u32 0, .int .u32 0, .bool false] := by unfold St.c; rfl
  have HR : Hid (Row (w.alloc (.cells #[.int .u32 0, .bool false, .int .u32 0, .int .u32 0, .int .u32 0, .int .u32 0, .bool false] 24)) w.heap.size 24 zS.c) := by show Row _ _ _ _; rw [hz]; exact Row.new w _ _
  have HB : Hid (Below w.heap.size w (w.alloc (.cells #[.int .u32 0, .bool false, .int .u32 0, .int .u32 0, .int .u32 0, .int .u32 0, .bool false] 24))) := (Below.refl _ _).alloc (Nat.le_refl _) _
  clear hz
  go_enter Try.func17, Try.ntmps17
  go_wp2_with fail
  refine (begi_any _).mono ?_
  rintro e w1 ⟨rfl, hb1⟩
  have HR1 := Lib.hid (HR.out.below hb1 HR.out.lt)
  have HB1 := Lib.hid (HB.out.trans (hb1.mono HB.out.size))
  clear hb1 HR HB
  go_wp2_with (refine wpList_sw (cs := begS.c) rfl _ _ rfl rfl rfl HR1.out (St.sz _ _) (St.ok _) ?_)
  exact bodyPost_ret (ret_ag rfl _ rfl (HR1.out.setRow _) (St.ok _)) rfl ⟨rfl, below_setRow HB1.out _ _ (Nat.le_refl _)⟩
set_option maxRecDepth 100000 in
set_option maxHeartbeats 1000000 in
theorem now_any {w : World} {base g : Nat} {n : St} {v : Value} {L : List St} (h : Sd w base g n v L) : Calls Try.prog 17 #[.pointer (some ⟨g, 0, none⟩)] w fun e w' => e = .returned (.agg n.c) ∧ Below w.heap.size w w' := by
  have hz : zS.c = #[.int .u32 0, .bool false, .int .u32 0, .int .u32 0, .int .u32 0, .int .u32 0, .bool false] := by unfold St.c; rfl
  have HR : Hid (Row (w.alloc (.cells #[.int .u32 0, .bool false, .int .u32 0, .int .u32 0, .int .u32 0, .int .u32 0, .bool false] 24)) w.heap.size 24 zS.c) := by show Row _ _ _ _; rw [hz]; exact Row.new w _ _
  have hb : Below w.heap.size w (w.alloc (.cells #[.int .u32 0, .bool false, .int .u32 0, .int .u32 0, .int .u32 0, .int .u32 0, .bool false] 24)) := (Below.refl _ _).alloc (Nat.le_refl _) _
  have HN := Lib.hid (h.below hb).now
  have HB := Lib.hid hb
  clear hz hb h
  go_enter Try.func17, Try.ntmps17
  go_wp2_with (first | (refine wpList_ldm (cs := n.c) rfl _ rfl rfl HN.out (St.ok _) ?_) | (refine wpList_sw (cs := n.c) rfl _ _ rfl rfl rfl HR.out (St.sz _ _) (St.ok _) ?_))
  exact bodyPost_ret (ret_ag rfl _ rfl (HR.out.setRow _) (St.ok _)) rfl ⟨rfl, below_setRow HB.out _ _ (Nat.le_refl _)⟩
set_option maxRecDepth 100000 in
set_option maxHeartbeats 1000000 in
theorem last_nil (w : World) : Calls Try.prog 18 #[.pointer none] w fun e w' => e = .returned (.agg begS.c) ∧ Below w.heap.size w w' := by
  have hz : zS.c = #[.int .u32 0, .bool false, .int .u32 0, .int .u32 0, .int .u32 0, .int .u32 0, .bool false] := by unfold St.c; rfl
  have HR : Hid (Row (w.alloc (.cells #[.int .u32 0, .bool false, .int .u32 0, .int .u32 0, .int .u32 0, .int .u32 0, .bool false] 24)) w.heap.size 24 zS.c) := by show Row _ _ _ _; rw [hz]; exact Row.new w _ _
  have HB : Hid (Below w.heap.size w (w.alloc (.cells #[.int .u32 0, .bool false, .int .u32 0, .int .u32 0, .int .u32 0, .int .u32 0, .bool false] 24))) := (Below.refl _ _).alloc (Nat.le_refl _) _
  clear hz
  go_enter Try.func18, Try.ntmps18
  go_wp2_with fail
  refine (waits_nil _).mono ?_
  rintro e w1 ⟨rfl, rfl⟩
  go_wp2_with fail
  refine (now_nil _).mono ?_
  rintro e w1 ⟨rfl, hb1⟩
  have HR1 := Lib.hid (HR.out.below hb1 HR.out.lt)
  have HB1 := Lib.hid (HB.out.trans (hb1.mono HB.out.size))
  clear hb1 HR HB
  go_wp2_with (refine wpList_sw (cs := begS.c) rfl _ _ rfl rfl rfl HR1.out (St.sz _ _) (St.ok _) ?_)
  exact bodyPost_ret (ret_ag rfl _ rfl (HR1.out.setRow _) (St.ok _)) rfl ⟨rfl, below_setRow HB1.out _ _ (Nat.le_refl _)⟩
set_option maxRecDepth 100000 in
set_option maxHeartbeats 1000000 in
theorem last_any {w : World} {base g : Nat} {n : St} {v : Value} {L : List St} (h : Sd w base g n v L) (hl : L.length ≤ 1000000) : Calls Try.prog 18 #[.pointer (some ⟨g, 0, none⟩)] w fun e w' => e = .returned (.agg (lastN n L).c) ∧ Below w.heap.size w w' := by
  have hz : zS.c = #[.int .u32 0, .bool false, .int .u32 0, .int .u32 0, .int .u32 0, .int .u32 0, .bool false] := by unfold St.c; rfl
  have HR : Hid (Row (w.alloc (.cells #[.int .u32 0, .bool false, .int .u32 0, .int .u32 0, .int .u32 0, .int .u32 0, .bool false] 24)) w.heap.size 24 zS.c) := by show Row _ _ _ _; rw [hz]; exact Row.new w _ _
  have hb : Below w.heap.size w (w.alloc (.cells #[.int .u32 0, .bool false, .int .u32 0, .int .u32 0, .int .u32 0, .int .u32 0, .bool false] 24)) := (Below.refl _ _).alloc (Nat.le_refl _) _
  have H := Lib.hid (h.below hb)
  have HB := Lib.hid hb
  clear hz hb h
  by_cases h0 : L.length = 0
  · have hL : L = [] := List.eq_nil_of_length_eq_zero h0
    subst hL
    clear h0
    rw [lastN_nil]
    go_enter Try.func18, Try.ntmps18
    go_wp2_with fail
    refine (waits_any H.out).mono ?_
    rintro e w1 ⟨rfl, rfl⟩
    go_wp2_with fail
    refine (now_any H.out).mono ?_
    rintro e w1 ⟨rfl, hb1⟩
    have HR1 := Lib.hid (HR.out.below hb1 HR.out.lt)
    have HB1 := Lib.hid (HB.out.trans (hb1.mono HB.out.size))
    clear hb1 HR HB H
    go_wp2_with (refine wpList_sw (cs := n.c) rfl _ _ rfl rfl rfl HR1.out (St.sz _ _) (St.ok _) ?_)
    exact bodyPost_ret (ret_ag rfl _ rfl (HR1.out.setRow _) (St.ok _)) rfl ⟨rfl, below_setRow HB1.out _ _ (Nat.le_refl _)⟩
  · have hpos : 0 < L.length := by omega
    rw [lastN_at n hpos]
    obtain ⟨A, c, rfl⟩ := H.out.shape
    have hs := H.out.sent
    obtain ⟨b, q, rfl, _, hrg⟩ := H.out.own.reads.elem st_llen (i := L.length - 1) (by omega) (by omega)
    have hw := waits_any H.out
    generalize L[L.length - 1]'(by omega) = x at *
    generalize L.length = m at *
    obtain ⟨k, rfl⟩ : ∃ k, m = k + 1 := ⟨m - 1, by omega⟩
    rw [Nat.add_sub_cancel] at hrg
    rw [← St.cl x] at hrg
    have HX := Lib.hid hrg
    have e0 : (((k + 1 : Nat) : Int) == 0) = false := nat_eq (k + 1) 0 |>.trans (decide_eq_false (by omega))
    have e1 : (((k + 1 : Nat) : Int) - 1) = (k : Int) := by omega
    have k0 : (0 : Int) ≤ (k : Int) := by omega
    have k1 : (k : Int) < ((k + 1 : Nat) : Int) := by omega
    clear hrg h0 hpos H
    go_enter Try.func18, Try.ntmps18
    go_wp2_with fail
    refine hw.mono ?_
    rintro e w1 ⟨rfl, rfl⟩
    go_wp2_with (first | (refine wpList_ldm (cs := x.c) rfl _ rfl rfl HX.out (St.ok _) ?_) | (refine wpList_sw (cs := x.c) rfl _ _ rfl rfl rfl HR.out (St.sz _ _) (St.ok _) ?_))
    exact bodyPost_ret (ret_ag rfl _ rfl (HR.out.setRow _) (St.ok _)) rfl ⟨rfl, below_setRow HB.out _ _ (Nat.le_refl _)⟩
end Go.Proofs.Ytaffmcbpfjdokaa
