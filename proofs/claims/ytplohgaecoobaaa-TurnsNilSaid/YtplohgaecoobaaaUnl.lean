/-
  TurnsNil: the law's walk. No conditions.
-/
import Derived.Test.YtplohgaecoobaaaUfx
import Derived.Deep.RegionHeld3
namespace Go.Proofs.Ytplohgaecoobaaa
open Go.RowKit Go.WideShapes

theorem eq12 (W : World) : (binOp .eql 56 (.agg #[.int .u8 1, .int .u32 2]) (.agg #[.int .u8 1, .int .u32 2])).run Try.prog W = .ok (.bool true) W := by
  have h := ft_eql 1 2 1 2 W
  simp only [decide_true, Bool.and_self] at h
  exact h
theorem tgrow_nil2 (w : World) (s n : Int) : Calls Try.prog 24 #[.pointer none, .int .u32 s, .int .u32 n] w fun e w' => e = .returned (.agg #[.int .u8 1, .int .u32 2]) ∧ Below w.heap.size w w' := tgrow_nil w s n
theorem tshift_nil2 (w : World) (a b : Int) : Calls Try.prog 26 #[.pointer none, .int .u32 a, .int .u32 b] w fun e w' => e = .returned (.agg #[.int .u8 1, .int .u32 2]) ∧ Below w.heap.size w w' := tshift_nil w a b
/-- What holds behind every operation of the law's great region. -/
theorem nls_on {w w1 w2 : World} {p : Nat} (h : w1.cell? ⟨p, 0, none⟩ = some (.int .u8 1) ∧ w1.cell? ⟨p, 1, none⟩ = some (.int .u32 2) ∧ Hid (Below w.heap.size w w1 ∧ w.heap.size ≤ p ∧ p < w1.heap.size)) (hb : Below w1.heap.size w1 w2) :
    w2.cell? ⟨p, 0, none⟩ = some (.int .u8 1) ∧ w2.cell? ⟨p, 1, none⟩ = some (.int .u32 2) ∧ Hid (Below w.heap.size w w2 ∧ w.heap.size ≤ p ∧ p < w2.heap.size) :=
  ⟨(hb.cell (p := ⟨p, 0, none⟩) h.2.2.out.2.2).trans h.1, (hb.cell (p := ⟨p, 1, none⟩) h.2.2.out.2.2).trans h.2.1, h.2.2.out.1.trans (hb.mono h.2.2.out.1.size), h.2.2.out.2.1, Nat.lt_of_lt_of_le h.2.2.out.2.2 hb.size⟩
set_option maxRecDepth 100000 in
set_option maxHeartbeats 8000000 in
theorem nil_law (s y : Int) (A : Option Addr) (n c : Nat) (w : World) : Calls Try.prog 6 #[.int .u32 s, .slice A n c, .int .u32 y] w fun e w' => e = .returned (.bool true) ∧ Below w.heap.size w w' := by
  have hq := eq12
  go_enter Try.func6, Try.ntmps6
  go_wp2_with fail
  refine (tnext_nil _ _).mono ?_
  rintro e w1 ⟨rfl, hb1⟩
  have HB1 := Lib.hid hb1
  clear hb1
  go_wp2_with fail
  refine (tdrop_nil _ _).mono ?_
  rintro e w2 ⟨rfl, hb2⟩
  have HB2 := Lib.hid (HB1.out.trans (hb2.mono HB1.out.size))
  clear hb2 HB1
  have hr2 : Row (w2.alloc (.cells #[.int .u8 1, .int .u32 2] 56)) w2.heap.size 56 #[.int .u8 1, .int .u32 2] := Row.new w2 _ _
  have hb3 := HB2.out.trans (((Below.refl w2.heap.size w2).alloc (Nat.le_refl _) (.cells #[.int .u8 1, .int .u32 2] 56)).mono HB2.out.size)
  have HS := nls_on (w := w) (p := w2.heap.size) (w1 := w2.alloc (.cells #[.int .u8 1, .int .u32 2] 56)) ⟨hr2.cell rfl, hr2.cell rfl, hb3, HB2.out.size, hr2.lt⟩ ((Below.refl _ _).drew)
  clear HB2 hr2 hb3
  go_upto_region 5 with fail
  generalize w2.alloc (.cells #[.int .u8 1, .int .u32 2] 56) = w3 at *
  generalize w2.heap.size = p at *
  simp only [List.append]
  go_region_held3 (fun w' => w'.cell? ⟨p, 0, none⟩ = some (.int .u8 1) ∧ w'.cell? ⟨p, 1, none⟩ = some (.int .u32 2) ∧ Hid (Below w.heap.size w w' ∧ w.heap.size ≤ p ∧ p < w'.heap.size)) (first | exact h9 | exact HS) ((first
    | (go_at_call 9; refine (fixed13_any _).mono ?_; rintro e w4 ⟨rfl, hb4⟩; have h9 := nls_on (by assumption) hb4; clear hb4)
    | (go_at_call 21; refine (topen_nil _ _ _).mono ?_; rintro e w4 ⟨rfl, hb4⟩; have h9 := nls_on (by assumption) hb4; clear hb4)
    | (go_at_call 22; refine (tput_nil _ _ _ _).mono ?_; rintro e w4 ⟨rfl, hb4⟩; have h9 := nls_on (by assumption) hb4; clear hb4)
    | (go_at_call 24; refine (tgrow_nil2 _ _ _).mono ?_; rintro e w4 ⟨rfl, hb4⟩; have h9 := nls_on (by assumption) hb4; clear hb4)
    | (go_at_call 26; refine (tshift_nil2 _ _ _).mono ?_; rintro e w4 ⟨rfl, hb4⟩; have h9 := nls_on (by assumption) hb4; clear hb4)
    | (go_at_call 14; refine (twaits_nil _ _).mono ?_; rintro e w4 ⟨rfl, hb4⟩; have h9 := nls_on (by assumption) hb4; clear hb4)
    | (go_at_call 15; refine (tleft_nil _ _).mono ?_; rintro e w4 ⟨rfl, hb4⟩; have h9 := nls_on (by assumption) hb4; clear hb4)
    | (go_at_call 16; refine (tall_nil _).mono ?_; rintro e w4 ⟨rfl, hb4⟩; have h9 := nls_on (by assumption) hb4; clear hb4)
    | (go_at_call 17; refine (tcan_nil _).mono ?_; rintro e w4 ⟨rfl, hb4⟩; have h9 := nls_on (by assumption) hb4; clear hb4)))
  go_wp2_with fail
  go_ret
  exact ⟨rfl, h9.2.2.out.1⟩
end Go.Proofs.Ytplohgaecoobaaa
