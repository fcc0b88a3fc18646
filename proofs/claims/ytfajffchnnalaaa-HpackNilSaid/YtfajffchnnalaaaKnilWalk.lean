/-
  HpackNil, by its contract: at every input it answers true; below what was there nothing has turned. Conditions: those that each theorem names.
-/
import Derived.Test.YtfajffchnnalaaaKfix
import Derived.Test.YtfajffchnnalaaaKgr
import Derived.BigQuiet
import Derived.Deep.QuietTactic
import Derived.Deep.RegionHeld3
namespace Go.Proofs.Ytfajffchnnalaaa
open Go.RowKit Go.WideShapes

theorem ret_vf {fn : Func} {p u : Tmp} (h : fn.results = #[.tmp u, .cell p 41]) (tmps : Array Value) (w : World) (g : Nat) (cs : Array Value) (hp : tmps.getD p undef = .pointer (some ⟨g, 0, none⟩)) (hR : Row w g 41 cs) (hc : cs.size = 2) :
    (results fn tmps).run Try.prog w = .ok (.tuple #[tmps.getD u undef, .agg cs]) w := by
  have hl := run_loadVar_row w g 41 41 cs (0, 0) _ hR Try.underlying41 rfl (fault_cells cs hc)
  have hp' : tmps[p]?.getD undef = .pointer (some ⟨g, 0, none⟩) := by simpa using hp
  simp only [results, h]
  simp [Result.andThen, hp', asAddr, hl]

set_option maxRecDepth 100000 in
theorem nget_any (x : Value) (w : World) : Calls Try.prog 16 #[.pointer none, x] w fun e w' => e = .returned (.tuple #[.slice none 0 0, .agg #[.int .u8 1, .int .u32 2]]) ∧ Below w.heap.size w w' := by
  have hcf := fun W => connFault_any 2 W
  go_enter Try.func16, Try.ntmps16
  go_wp2_with fail
  refine (hcf _).mono ?_
  rintro e w1 ⟨rfl, hb1⟩
  have HR : Hid (Row w1 w.heap.size 41 #[.int .u8 0, .int .u32 0]) := (Row.new w 41 #[.int .u8 0, .int .u32 0]).below hb1 (by simp)
  have HB := Lib.hid (((Below.refl w.heap.size w).alloc (Nat.le_refl _) (.cells #[.int .u8 0, .int .u32 0] 41)).trans (hb1.mono (by simp)))
  have c0 := HR.out.cell (j := 0) rfl
  have c1 := HR.out.cell (j := 1) rfl
  have z0 := HR.out.thawed 0
  have z1 := HR.out.thawed 1
  clear hb1
  go_wp2_with fail
  refine bodyPost_ret (ret_vf rfl _ _ w.heap.size #[.int .u8 1, .int .u32 2] rfl (Row.stored (Row.stored HR.out 0 (.int .u8 1)) 1 (.int .u32 2)) rfl) rfl ⟨rfl, ?_⟩
  exact (HB.out.setCell (p := ⟨w.heap.size, 0, none⟩) (Nat.le_refl _) _).setCell (p := ⟨w.heap.size, 1, none⟩) (Nat.le_refl _) _
theorem ndtable_any (w : World) : Calls Try.prog 20 #[.pointer none] w fun e w' => e = .returned (.int .i64 0) ∧ w = w' := by
  go_enter Try.func20, Try.ntmps20
  go_wp2_with fail
  go_ret
  exact ⟨rfl, rfl⟩

set_option maxRecDepth 100000 in
set_option maxHeartbeats 2000000 in
theorem nil_law {w : World} {A1 A2 : Option Addr} {c1 c2 n1 : Nat} {F : List Fd} (hR : RdS w (· < w.heap.size) A2 (enl fdc F)) (hl : F.length ≤ 9223372036854775807) (_hn : n1 ≤ 9223372036854775807) :
    Calls Try.prog 6 #[.slice A1 n1 c1, .slice A2 F.length c2] w fun e w' => e = .returned (.bool true) ∧ Below w.heap.size w w' := by
  have hgr := few_any (c := c2) hR hl
  go_enter Try.func6, Try.ntmps6
  go_wp2_with fail
  refine hgr.mono ?_
  rintro e w1 ⟨t, rfl, _, nd, hw⟩
  have HB1 : Hid (Below w.heap.size w w1) := by show Below _ _ _; rw [hw]; exact below_dN (Below.refl _ _) nd
  clear hw hgr
  have hbr : (t = true ∨ (t = false ∧ (600 : Int) < (n1 : Int))) ∨ (t = false ∧ decide ((600 : Int) < (n1 : Int)) = false) := by
    cases t with
    | true => exact .inl (.inl rfl)
    | false =>
      by_cases h : (600 : Int) < (n1 : Int)
      · exact .inl (.inr ⟨rfl, h⟩)
      · exact .inr ⟨rfl, by simpa using h⟩
  rcases hbr with (rfl | ⟨rfl, hgt⟩) | ⟨rfl, hgt⟩
  · go_wp2_with fail
    refine (fixed_any _).mono ?_
    rintro e w2 ⟨rfl, hb2⟩
    have HB2 := Lib.hid (HB1.out.trans (hb2.mono HB1.out.size))
    clear hb2 HB1
    go_wp2_with fail
    go_ret
    exact ⟨rfl, HB2.out⟩
  · go_wp2_with fail
    refine (fixed_any _).mono ?_
    rintro e w2 ⟨rfl, hb2⟩
    have HB2 := Lib.hid (HB1.out.trans (hb2.mono HB1.out.size))
    clear hb2 HB1
    go_wp2_with fail
    go_ret
    exact ⟨rfl, HB2.out⟩
  · go_wp2_with fail
    refine (nlimitE_any _ _).mono ?_
    rintro e w2 ⟨rfl, rfl⟩
    go_wp2_with fail
    refine (nget_any _ _).mono ?_
    rintro e w2 ⟨rfl, hb2⟩
    have HR2 := Lib.hid (Row.new w2 41 #[.int .u8 1, .int .u32 2])
    have HB2 := Lib.hid (HB1.out.trans (hb2.mono HB1.out.size))
    have HB3 := Lib.hid (HB2.out.alloc HB2.out.size (.cells #[.int .u8 1, .int .u32 2] 41))
    clear hb2 HB1
    go_wp2_with fail
    refine (fixed_any _).mono ?_
    rintro e w3 ⟨rfl, hb3⟩
    have HB4 := Lib.hid (HB3.out.trans (hb3.mono HB3.out.size))
    have HR3 := Lib.hid (HR2.out.below hb3 (by simp))
    have c0 := HR3.out.cell (j := 0) rfl
    have c1 := HR3.out.cell (j := 1) rfl
    clear hb3 HB3 HB2 HR2
    go_wp2_with fail
    refine (nput_any _ _ _ _).mono ?_
    rintro e w4 ⟨rfl, rfl⟩
    go_wp2_with fail
    refine (ntable_any _).mono ?_
    rintro e w4 ⟨rfl, rfl⟩
    go_wp2_with fail
    refine (ndtable_any _).mono ?_
    rintro e w4 ⟨rfl, rfl⟩
    go_wp2_with fail
    go_ret
    exact ⟨rfl, HB4.out⟩
end Go.Proofs.Ytfajffchnnalaaa
