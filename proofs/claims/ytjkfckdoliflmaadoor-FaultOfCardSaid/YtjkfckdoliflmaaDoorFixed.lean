/-
  Name at FRAME_SIZE_ERROR, Conn at 6, and the law's own example 'fixed': it answers true; below what was there nothing has turned. Conditions: the two package-level variables hold what the program's text lays.
-/
import Derived.Test.YtjkfckdoliflmaaDoorOf
namespace Go.Proofs.YtjkfckdoliflmaaDoor
open Go.RowKit Go.Extern.Stop Go.Stop Go.Extern

def frameSize : ByteArray := { data := #[70, 82, 65, 77, 69, 95, 83, 73, 90, 69, 95, 69, 82, 82, 79, 82] }

theorem name_16 (w : World) (hn : w.cell? ⟨0, 6, none⟩ = some (.string { data := #[70, 82, 65, 77, 69, 95, 83, 73, 90, 69, 95, 69, 82, 82, 79, 82] })) :
    Calls Tryd.prog 13 #[.agg #[.int .u8 1, .int .u32 6]] w fun e w' => e = .returned (.string frameSize) ∧ w.alloc (.cells #[.int .u8 1, .int .u32 6] 24) = w' := by
  have hlt : 0 < w.heap.size := blk_lt hn
  have hn2 : (w.alloc (.cells #[.int .u8 1, .int .u32 6] 24)).cell? ⟨0, 6, none⟩ = some (.string { data := #[70, 82, 65, 77, 69, 95, 83, 73, 90, 69, 95, 69, 82, 82, 79, 82] }) := by
    rw [World.cell?_alloc_lt _ _ ⟨0, 6, none⟩ hlt]; exact hn
  clear hn
  go_enter Tryd.func13, Tryd.ntmps13
  go_wp2
  go_ret
  exact ⟨rfl, rfl⟩

theorem conn_6 (w : World) :
    Calls Tryd.prog 12 #[.int .u32 6] w fun e w' => e = .returned (.iface 41 (.pointer (some ⟨w.heap.size + 2, 0, none⟩))) ∧
      ((w.alloc (.cells #[.int .u8 1, .int .u32 6] 24)).alloc (.cells #[.int .u8 1, .int .u32 6] 24)).alloc (.cells #[.int .u8 1, .int .u32 6] 43) = w' := by
  go_enter Tryd.func12, Tryd.ntmps12
  go_wp2_with (go_at_call 6; refine (new_some 1 6 (by decide) _).mono ?_; rintro e w' ⟨rfl, rfl⟩)
  go_ret
  exact ⟨rfl, rfl⟩

/-- What the walks ask of the two package-level variables. -/
structure Glob (w : World) : Prop where
  err : w.cell? ⟨1, 0, none⟩ = some (.iface 70 (.agg #[.pointer (some ⟨5, 28, none⟩)]))
  name : w.cell? ⟨0, 6, none⟩ = some (.string { data := #[70, 82, 65, 77, 69, 95, 83, 73, 90, 69, 95, 69, 82, 82, 79, 82] })
theorem Glob.keep {w w' : World} (h : Glob w) (hk : ∀ p : Addr, p.block < w.heap.size → w'.cell? p = w.cell? p) : Glob w' := ⟨(hk _ (blk_lt h.err)).trans h.err, (hk _ (blk_lt h.name)).trans h.name⟩
theorem Glob.below {w w' : World} (h : Glob w) (hb : Below w.heap.size w w') : Glob w' := h.keep fun _ hp => hb.cell hp
theorem Glob.alloc {w : World} (h : Glob w) (o : Obj) : Glob (w.alloc o) := h.keep fun p hp => World.cell?_alloc_lt w o p hp

/-- The world behind 'Wrap("frame", Conn(6))'. -/
def exW (w : World) : World := (((w.alloc (.cells #[.int .u8 1, .int .u32 6] 24)).alloc (.cells #[.int .u8 1, .int .u32 6] 24)).alloc (.cells #[.int .u8 1, .int .u32 6] 43)).alloc (.cells #[.string { data := #[102, 114, 97, 109, 101] }, .iface 41 (.pointer (some ⟨w.heap.size + 2, 0, none⟩))] 46)
theorem exW_ch (w : World) : Ch (exW w) (.iface 44 (.pointer (some ⟨w.heap.size + 3, 0, none⟩))) [{ data := #[102, 114, 97, 109, 101] }] (w.heap.size + 2) := by
  refine ⟨w.heap.size + 3, _, rfl, ?_, ?_, rfl⟩ <;> (unfold exW; rw [World.cell?_alloc_at _ _ _ _ (by simp)]; rfl)
theorem exW_s (w : World) : (exW w).cell? ⟨w.heap.size + 2, 0, none⟩ = some (.int .u8 1) := by
  unfold exW; rw [World.cell?_alloc_lt _ _ _ (by simp), World.cell?_alloc_at _ _ _ _ (by simp)]; rfl
theorem exW_c (w : World) : (exW w).cell? ⟨w.heap.size + 2, 1, none⟩ = some (.int .u32 6) := by
  unfold exW; rw [World.cell?_alloc_lt _ _ _ (by simp), World.cell?_alloc_at _ _ _ _ (by simp)]; rfl
theorem exW_glob {w : World} (h : Glob w) : Glob (exW w) := (((h.alloc _).alloc _).alloc _).alloc _
theorem exW_below (w : World) : Below w.heap.size w (exW w) := (((((Below.refl _ _).alloc (Nat.le_refl _) _).alloc (by simp) _).alloc (by simp <;> omega) _).alloc (by simp <;> omega) _)

set_option maxHeartbeats 4000000 in
theorem fixed_any (w : World) (h : Glob w) :
    Calls Tryd.prog 5 #[] w fun e w' => e = .returned (.bool true) ∧ Below w.heap.size w w' := by
  have hfs : (frameSize.toList == [70, 82, 65, 77, 69, 95, 83, 73, 90, 69, 95, 69, 82, 82, 79, 82]) = true := by kernel_rfl
  have H := Lib.hid h
  clear h
  go_enter Tryd.func5, Tryd.ntmps5
  go_wp2_with (go_at_call 12; refine (conn_6 _).mono ?_; rintro e w' ⟨rfl, rfl⟩)
  go_wp2_with (go_at_call 7; refine (wrap_some _ _ _ _).mono ?_; rintro e w' ⟨rfl, rfl⟩)
  go_wp2_with fail
  refine (of_ch _ _ (w.heap.size + 2) 1 6 (exW w) (exW_ch w) (exW_s w) (exW_c w) (exW_glob H.out).err).mono ?_
  rintro e w1 ⟨rfl, hb⟩
  have hb1 := Lib.hid hb
  have hs : w.heap.size + 4 ≤ w1.heap.size := by have := hb.size; simpa [exW] using this
  have hG : Glob w1 := (exW_glob H.out).below hb
  have HG := Lib.hid hG
  have HN := Lib.hid (name_16 (w1.alloc (.cells #[.int .u8 1, .int .u32 6] 24)) (hG.alloc _).name)
  clear hb hG
  go_wp2_with (first | (go_at_call 13; refine (HN.out).mono ?_; rintro e w' ⟨rfl, rfl⟩) | (go_at_call 10; refine (of_nil _).mono ?_; rintro e w2 ⟨rfl, hb2⟩))
  go_ret
  have hx : (exW w).heap.size = w.heap.size + 4 := by simp [exW]
  exact ⟨rfl, ((((exW_below w).trans (hb1.out.mono (by omega))).alloc (by omega) _).alloc (by simp <;> omega) _).trans (hb2.mono (by simp <;> omega))⟩
end Go.Proofs.YtjkfckdoliflmaaDoor
