/-
  The chapter's example (fixed), by its contract. Conditions: errors.errorType holds what the program's text lays.
-/
import Derived.Test.YtdegpchofhnipaaDoorMdx
namespace Go.Proofs.YtdegpchofhnipaaDoor
open Go.RowKit Go.WideShapes

theorem byeC : closeB 1000 [98, 121, 101] = [3, 232, 98, 121, 101] := by decide +kernel
theorem byeN : closeN [3, 232, 98, 121, 101] = ⟨4, false, 1000, [98, 121, 101]⟩ := by
  rw [← byeC, closeN_made, if_pos (by decide), show reasonM [98, 121, 101] = [98, 121, 101] by decide +kernel]
theorem byeT : takeM gg0 8 true [3, 232, 98, 121, 101] = (ggX, some ⟨4, false, 1000, [98, 121, 101]⟩) := by rw [take_close rfl, byeN]
set_option maxRecDepth 100000 in
set_option maxHeartbeats 4000000 in
theorem fixed18_any (w : World) (hG : GlobE w) : Calls Tryd.prog 10 #[] w fun e w' => e = .returned (.bool true) ∧ Below w.heap.size w w' := by
  have hnew := mnew_any w hG
  have HG := Lib.hid hG
  clear hG
  go_enter Tryd.func10, Tryd.ntmps10
  go_wp2_with fail
  refine hnew.mono ?_
  rintro e w1 ⟨rfl, hm, hb⟩
  have H1 := Lib.hid (GX.start (Below.refl _ w) hm hb HG.out)
  clear hnew hm hb
  have hcl : Calls Tryd.prog 19 #[.int .u32 1000, .string ⟨#[98, 121, 101]⟩] w1 (CloP w1 [3, 232, 98, 121, 101]) := by
    have h := mclose_any (s := [98, 121, 101]) (code := 1000) (by simp) w1
    rw [byeC] at h
    exact h
  go_wp2_with fail
  refine hcl.mono ?_
  rintro e w2 ⟨A2, c2, rfl, hr2, hc2, hb2⟩
  have hb12 := H1.out.bl.size
  have hsz1 := H1.out.lt.2
  have htk := (H1.out.made hb2).take (fin := true) (mask := false) (op := 8) (key := 0) (c := c2) (A := A2) (d := [3, 232, 98, 121, 101]) (hr2.imp fun k hk _ => ⟨hk.2, .inr (.inr hk)⟩) (fun k hk => by have := hb2.size; omega) (by simp) hc2
  rw [byeT] at htk
  clear hr2 hc2 hb2 hcl H1 hb12 hsz1
  go_wp2_with fail
  refine htk.mono ?_
  rintro e w3 ⟨A3, c3, rfl, hO, _, hX, _, _, _⟩
  obtain ⟨hn1, hn2, hn3⟩ := noteM w3 (ntc 4 false A3 3 c3 1000)
  have HX := Lib.hid (hX.below hn3)
  have HO : Hid (Bo _ w.heap.size 5 (.slice A3 3 c3) [98, 121, 101]) := Bo.below hO hn3
  have HN1 := Lib.hid hn1
  have HN2 := Lib.hid hn2
  clear hn1 hn2 hn3 hO hX htk
  go_upto_region 3 with (refine wpList_sw (cs := ntc 4 false A3 3 c3 1000) rfl _ _ rfl rfl rfl HN1.out rfl (nt_ok _ _ _ _ _ _) ?_)
  rw [nt0_eq]
  clear HN1
  generalize (w3.alloc (.cells (ntc 0 false none 0 0 0) 34)).setRow w3.heap.size (ntc 4 false A3 3 c3 1000) = w4 at *
  generalize w3.heap.size = p2 at *
  have c0 : w4.cell? ⟨p2, 0, none⟩ = some (.int .u8 4) := (nt_cells HN2.out).1
  have c2' : w4.cell? ⟨p2, 2, none⟩ = some (.slice A3 3 c3) := (nt_cells HN2.out).2.2.1
  have c3' : w4.cell? ⟨p2, 3, none⟩ = some (.int .u32 1000) := (nt_cells HN2.out).2.2.2
  have htx : (convert 30 9 (.slice A3 3 c3)).run Tryd.prog w4 = .ok (.string ⟨#[98, 121, 101]⟩) w4 := run_text (P := Tryd.prog) (c := c3) Tryd.underlying30 Tryd.underlying5 Tryd.underlying9 (Bo.reads HO.out)
  have hov := HX.out.over
  go_wp2_with (go_at_call 16; refine hov.mono ?_; rintro e w5 ⟨rfl, rfl⟩)
  go_ret
  exact ⟨rfl, HX.out.bl⟩
end Go.Proofs.YtdegpchofhnipaaDoor
