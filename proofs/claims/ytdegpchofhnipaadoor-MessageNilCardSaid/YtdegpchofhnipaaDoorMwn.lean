/-
  MessageNil: the law's walk. Conditions: errors.errorType holds what the program's text lays.
-/
import Derived.Test.YtdegpchofhnipaaDoorMfx
namespace Go.Proofs.YtdegpchofhnipaaDoor
open Go.RowKit Go.WideShapes

set_option maxRecDepth 100000 in
set_option maxHeartbeats 4000000 in
theorem mwnil_law {fin mask : Bool} {op key n c : Nat} {A : Option Addr} {w : World} (hG : GlobE w) : Calls Tryd.prog 6 #[.agg (pcC fin op mask key A n c)] w fun e w' => e = .returned (.bool true) ∧ Below w.heap.size w w' := by
  have HP1 : Hid (Row (w.alloc (.cells (pcC fin op mask key A n c) 32)) w.heap.size 32 (pcC fin op mask key A n c)) := Row.new _ _ _
  have HB1 : Hid (Below w.heap.size w (w.alloc (.cells (pcC fin op mask key A n c) 32))) := (Below.refl _ _).alloc (Nat.le_refl _) _
  have HG1 := Lib.hid (hG.below HB1.out)
  clear hG
  go_enter Tryd.func6, Tryd.ntmps6
  go_upto_region 1 with fail
  generalize w.alloc (.cells (pcC fin op mask key A n c) 32) = w1 at *
  go_wp2_with (refine wpList_ld (cs := pcC fin op mask key A n c) rfl _ rfl rfl HP1.out (pc_ok _ _ _ _ _ _ _) ?_)
  refine (mTake_nil _).mono ?_
  rintro e w2 ⟨rfl, hb⟩
  obtain ⟨hn1, hn2, hn3⟩ := noteM w2 (ntc 0 false none 0 0 0)
  have HB2 := Lib.hid ((HB1.out.trans (hb.mono HB1.out.size)).trans (hn3.mono (Nat.le_trans HB1.out.size hb.size)))
  have HG2 := Lib.hid ((HG1.out.below hb).below hn3)
  have HN1 := Lib.hid hn1
  have HN2 := Lib.hid hn2
  clear hb hn1 hn2 hn3 HP1 HB1 HG1
  go_upto_region 3 with (refine wpList_sw (cs := ntc 0 false none 0 0 0) rfl _ _ rfl rfl rfl HN1.out rfl (nt_ok _ _ _ _ _ _) ?_)
  rw [nt0_eq]
  clear HN1
  generalize (w2.alloc (.cells (ntc 0 false none 0 0 0) 34)).setRow w2.heap.size (ntc 0 false none 0 0 0) = w3 at *
  generalize w2.heap.size = p4 at *
  have hfx := fixed18_any w3 HG2.out
  go_wp2_with fail
  refine hfx.mono ?_
  rintro e w4 ⟨rfl, hb⟩
  have HB4 := Lib.hid (HB2.out.trans (hb.mono HB2.out.size))
  have c0 := (nt_cells (HN2.out.upM hb)).1
  clear hb hfx HN2 HB2 HG2
  go_wp2_with (first
    | (go_at_call 15; refine (mheld_nil _).mono ?_; rintro e w6 ⟨rfl, rfl⟩)
    | (go_at_call 16; refine (mover_nil _).mono ?_; rintro e w6 ⟨rfl, rfl⟩))
  go_ret
  exact ⟨rfl, HB4.out⟩
end Go.Proofs.YtdegpchofhnipaaDoor
