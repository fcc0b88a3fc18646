/-
  FaultOf, by its contract: over every fault and every row of places it answers true, and below what was there nothing has turned. Conditions: the two package-level variables hold what the program's text lays.
-/
import Derived.Test.YtjkfckdoliflmaaDoorWhere
import Derived.Test.YtjkfckdoliflmaaDoorFixed
import Derived.Test.YtjkfckdoliflmaaDoorRowWalk
import Derived.IntWalk
import Derived.Deep.QuietTactic
import Derived.BigQuiet
import Derived.Deep.RegionHeld3
namespace Go.Proofs.YtjkfckdoliflmaaDoor
open Go.RowKit Go.Extern.Stop Go.Stop Go.Extern

/-- The first k places, the last one first. -/
def back (S : Nat → ByteArray) : Nat → List ByteArray
  | 0 => []
  | k + 1 => S k :: back S k
theorem back_length (S : Nat → ByteArray) : ∀ k, (back S k).length = k
  | 0 => rfl
  | k + 1 => by simp [back, back_length S k]
theorem back_get (S : Nat → ByteArray) : ∀ k i, i < k → (back S k).getD i ByteArray.empty = S (k - 1 - i)
  | 0, i, h => absurd h (by omega)
  | k + 1, 0, _ => by simp [back]
  | k + 1, i + 1, h => by
    have := back_get S k i (by omega)
    have e : k + 1 - 1 - (i + 1) = k - 1 - i := by omega
    rw [e, ← this]
    simp [back]

def StrElems (w : World) (A : Option Addr) (n : Nat) (S : Nat → ByteArray) : Prop :=
  ∀ k, k < n → ∃ b off, A = some ⟨b, off, none⟩ ∧ b < w.heap.size ∧ w.cell? ⟨b, off + k, none⟩ = some (.string (S k))

/-- What the first loop keeps. -/
structure CI (w wr : World) (s c : Int) (v : Value) (xs : List ByteArray) (pf : Nat) : Prop where
  below : Below w.heap.size w wr
  box : Two wr w.heap.size 24 (.int .u8 s) (.int .u32 c)
  ch : Ch wr v xs pf
  fault : Two wr pf 43 (.int .u8 s) (.int .u32 c)
theorem CI.on {w wr w1 : World} {s c : Int} {v : Value} {xs : List ByteArray} {pf : Nat} (h : CI w wr s c v xs pf) (hb : Below wr.heap.size wr w1) : CI w w1 s c v xs pf :=
  ⟨h.below.trans (hb.mono h.below.size), h.box.below hb h.box.lt, h.ch.below hb, h.fault.below hb h.fault.lt⟩
theorem CI.wrap {w wr : World} {s c : Int} {v : Value} {xs : List ByteArray} {pf : Nat} (h : CI w wr s c v xs pf) (x : ByteArray) :
    CI w (wr.alloc (.cells #[.string x, v] 46)) s c (.iface 44 (.pointer (some ⟨wr.heap.size, 0, none⟩))) (x :: xs) pf :=
  ⟨h.below.alloc h.below.size _, h.box.alloc _, ⟨wr.heap.size, v, rfl, (Two.new wr rfl).c0, (Two.new wr rfl).c1, h.ch.alloc _⟩, h.fault.alloc _⟩

/-- .. and, behind it, what was wanted and the list of places. -/
structure DI (w wr : World) (s c : Int) (v : Value) (xs : List ByteArray) (pf g : Nat) (n : Nat) (Al : Option Addr) (S : Nat → ByteArray) : Prop where
  i : CI w wr s c v xs pf
  want : Two wr g 24 (.int .u8 s) (.int .u32 c)
  strs : ∀ i, i < n → ∃ b, Al = some ⟨b, 0, none⟩ ∧ b < wr.heap.size ∧ wr.cell? ⟨b, i, none⟩ = some (.string (S (n - 1 - i)))
theorem DI.on {w wr w1 : World} {s c : Int} {v : Value} {xs : List ByteArray} {pf g n : Nat} {Al : Option Addr} {S : Nat → ByteArray} (h : DI w wr s c v xs pf g n Al S) (hb : Below wr.heap.size wr w1) : DI w w1 s c v xs pf g n Al S :=
  ⟨h.i.on hb, h.want.below hb h.want.lt, fun i hi => by
    obtain ⟨b, e, hlt, hc⟩ := h.strs i hi
    exact ⟨b, e, Nat.lt_of_lt_of_le hlt hb.size, (hb.cell (p := ⟨b, i, none⟩) hlt).trans hc⟩⟩
theorem DI.drew {w wr : World} {s c : Int} {v : Value} {xs : List ByteArray} {pf g n : Nat} {Al : Option Addr} {S : Nat → ByteArray} (h : DI w wr s c v xs pf g n Al S) : DI w wr.drew s c v xs pf g n Al S :=
  h.on (Below.refl _ _).drew

theorem bel_dn {B : Nat} {a w : World} (h : Below B a w) (n : Nat) : Below B a (w.drewN n) := ⟨h.os, h.tape, h.output, h.size, h.block⟩

set_option maxHeartbeats 1500000 in
theorem of_some (s c : Int) (A : Option Addr) (n cap : Nat) (S : Nat → ByteArray) (w : World) (hs : 1 ≤ s ∧ s ≤ 3) (hn : n ≤ 300) (hE : StrElems w A n S) (hG : Glob w) :
    Calls Tryd.prog 3 #[.agg #[.int .u8 s, .int .u32 c], .slice A n cap] w fun e w' => e = .returned (.bool true) ∧ Below w.heap.size w w' := by
  have HE := Lib.hid hE
  have HG := Lib.hid hG
  have HN := Lib.hid (new_some s c hs)
  have HS := Lib.hid (some_yes (a := (s, c)) (someB_yes hs))
  clear hE hG hs
  go_enter Tryd.func3, Tryd.ntmps3
  go_wp2_with (go_at_call 6; refine (HN.out _).mono ?_; rintro e w' ⟨rfl, rfl⟩)
  go_loopw [5, 19] (fun v i wr => ∃ k : Nat, k ≤ n ∧ i = .int .i64 k ∧ CI w wr s c v (back S k) (w.heap.size + 1 + 2)) (fun _ i _ => n - (intOf i).toNat)
  case atStart =>
    refine ⟨0, Nat.zero_le _, rfl, ⟨(((((Below.refl _ _).alloc (Nat.le_refl _) _).alloc (by simp) _).alloc (by simp <;> omega) _).alloc (by simp <;> omega) _), ?_, rfl, ?_⟩⟩
    · exact (((Two.new w rfl).alloc _).alloc _).alloc _
    · exact Two.new _ (by simp)
  case round =>
    obtain ⟨k, hk, rfl, hI⟩ := hrel
    have HI := Lib.hid hI
    clear hI
    by_cases hlt : k < n
    · obtain ⟨b, off, rfl, hb, e0⟩ := HE.out k hlt
      have q0 := (HI.out.below.cell (p := ⟨b, off + k, none⟩) hb).trans e0
      obtain ⟨T, a, hv⟩ := HI.out.ch.isIface
      subst hv
      clear e0
      go_wp2_with (go_at_call 7; refine (wrap_some _ _ _ _).mono ?_; rintro e w' ⟨rfl, rfl⟩)
      go_roundw
      case rel => exact ⟨k + 1, by omega, by go_num, HI.out.wrap _⟩
      case measure => simp [intOf]; omega
    · obtain rfl : k = n := by omega
      have a0 := HI.out.box.c0
      have a1 := HI.out.box.c1
      go_wp2_with fail
      have H8 := HI.out.on ((Below.refl _ _).alloc (Nat.le_refl _) (.cells #[.int .u8 s, .int .u32 c] 24))
      refine (where_ch (back S k) _ (w.heap.size + 1 + 2) (wr.alloc (.cells #[.int .u8 s, .int .u32 c] 24)) H8.ch (by rw [back_length]; exact hn) (HG.out.below H8.below).err).mono ?_
      rintro e w1 ⟨vl, rfl, ⟨Al, capl, hvl, hl⟩, hb1⟩
      rw [back_length] at hvl hl
      subst hvl
      have D1 : DI w w1 s c _ (back S k) (w.heap.size + 1 + 2) wr.heap.size k Al S := ⟨H8.on hb1, (Two.new wr rfl).below hb1 (by simp), fun i hi => by
        obtain ⟨g, e1, e2, _, e3⟩ := hl i hi
        exact ⟨g, e1, e2, by rw [e3, back_get S k i hi]⟩⟩
      have HD1 := Lib.hid D1
      have b0 := D1.i.box.c0
      have b1 := D1.i.box.c1
      clear D1 hl hb1 H8 a0 a1 HI
      go_wp2_with fail
      refine (HS.out _).mono ?_
      rintro e w2 ⟨rfl, hb2⟩
      have HD2 := Lib.hid (HD1.out.on hb2)
      clear hb2 b0 b1 HD1
      go_upto_region 13 with (fail)
      have f0 := HD2.out.want.c0
      have f1 := HD2.out.want.c1
      have HO := Lib.hid (of_ch (back S k) _ (w.heap.size + 1 + 2) s c w2.drew HD2.out.drew.i.ch HD2.out.i.fault.c0 HD2.out.i.fault.c1 (HG.out.below HD2.out.i.below).err)
      go_cut [55] (fun t55 wc => Value.bool false = t55 ∧ Hid (DI w wc s c u5 (back S k) (w.heap.size + 1 + 2) wr.heap.size k Al S))
      case first =>
        go_region_held3 (fun w' => w'.cell? ⟨wr.heap.size, 0, none⟩ = some (.int .u8 s) ∧ w'.cell? ⟨wr.heap.size, 1, none⟩ = some (.int .u32 c)) (first | exact ⟨g0, g1⟩ | exact ⟨f0, f1⟩) ((go_at_call 10; refine (HO.out).mono ?_; rintro e w3 ⟨rfl, hb3⟩; have HD3 := Lib.hid (HD2.out.drew.on hb3); have g0 := HD3.out.want.c0; have g1 := HD3.out.want.c1; clear hb3))
        all_goals (go_wp2_with fail; go_meet; exact ⟨rfl, by assumption⟩)
      case rest =>
        obtain ⟨rfl, hD3⟩ := hcut
        clear HO f0 f1 HD2
        go_wp2_with fail
        go_loopw [58] (fun i wr2 => ∃ j : Nat, j ≤ k ∧ i = .int .i64 j ∧ Below wc.heap.size wc wr2) (fun i _ => k - (intOf i).toNat)
        case atStart => exact ⟨0, Nat.zero_le _, rfl, Below.refl _ _⟩
        case round =>
          obtain ⟨j, hj, rfl, hbel⟩ := hrel
          have HB := Lib.hid hbel
          clear hbel
          by_cases hlt2 : j < k
          · obtain ⟨m, hm⟩ : ∃ m, m = k - 1 - j := ⟨_, rfl⟩
            have hmk : m < k := by omega
            obtain ⟨b, off, rfl, hb, e0⟩ := HE.out m hmk
            obtain ⟨g, rfl, hg, e1⟩ := hD3.out.strs j hlt2
            rw [← hm] at e1
            have D4 := hD3.out.on HB.out
            have q0 := (D4.i.below.cell (p := ⟨b, off + m, none⟩) hb).trans e0
            have q1 := (HB.out.cell (p := ⟨g, j, none⟩) hg).trans e1
            have hw2 : IntKind.i64.wrap ((k : Int) - 1 - (j : Int)) = (m : Int) := (IntWalk.i64_in _ (by omega)).trans (by omega)
            have hw1 : IntKind.i64.wrap ((k : Int) - 1) = (k : Int) - 1 := IntWalk.i64_in _ (by omega)
            clear D4 e0 e1 hm hg hb
            go_upto_region 18 with (fail)
            go_quiet (fail)
            go_wp2_with fail
            go_roundw
            case rel => exact ⟨j + 1, by omega, by go_num, bel_dn HB.out _⟩
            case measure => simp [intOf]; omega
          · go_wp2_with fail
            have D5 := hD3.out.on HB.out
            refine (fixed_any _ (HG.out.below D5.i.below)).mono ?_
            rintro e w5 ⟨rfl, hb5⟩
            have HB5 := Lib.hid (D5.i.below.trans (hb5.mono D5.i.below.size))
            clear D5 hb5
            go_wp2_with fail
            go_ret
            exact ⟨rfl, HB5.out⟩

set_option maxHeartbeats 1500000 in
theorem of_none (s c : Int) (A : Option Addr) (n cap : Nat) (S : Nat → ByteArray) (w : World) (hs : ¬ (1 ≤ s ∧ s ≤ 3)) (h0 : 0 ≤ s) (hn : n ≤ 300) (hE : StrElems w A n S) (hG : Glob w) :
    Calls Tryd.prog 3 #[.agg #[.int .u8 s, .int .u32 c], .slice A n cap] w fun e w' => e = .returned (.bool true) ∧ Below w.heap.size w w' := by
  have HE := Lib.hid hE
  have HG := Lib.hid hG
  have HN := Lib.hid (new_none s c hs h0)
  have HS := Lib.hid (some_not (a := (s, c)) (someB_no hs))
  clear hE hG hs h0
  go_enter Tryd.func3, Tryd.ntmps3
  go_wp2_with (go_at_call 6; refine (HN.out _).mono ?_; rintro e w' ⟨rfl, rfl⟩)
  go_loopw [5, 19] (fun v i wr => ∃ k : Nat, k ≤ n ∧ i = .int .i64 k ∧ v = .nilIface ∧ Below w.heap.size w wr ∧ Two wr w.heap.size 24 (.int .u8 s) (.int .u32 c)) (fun _ i _ => n - (intOf i).toNat)
  case atStart =>
    exact ⟨0, Nat.zero_le _, rfl, rfl, ((((Below.refl _ _).alloc (Nat.le_refl _) _).alloc (by simp) _).alloc (by simp <;> omega) _), ((Two.new w rfl).alloc _).alloc _⟩
  case round =>
    obtain ⟨k, hk, rfl, rfl, hbel, hbox⟩ := hrel
    have HB := Lib.hid hbel
    have HX := Lib.hid hbox
    clear hbel hbox
    by_cases hlt : k < n
    · obtain ⟨b, off, rfl, hb, e0⟩ := HE.out k hlt
      have q0 := (HB.out.cell (p := ⟨b, off + k, none⟩) hb).trans e0
      clear e0
      go_wp2_with (go_at_call 7; refine (wrap_nil _ _).mono ?_; rintro e w' ⟨rfl, rfl⟩)
      go_roundw
      case rel => exact ⟨k + 1, by omega, by go_num, rfl, HB.out, HX.out⟩
      case measure => simp [intOf]; omega
    · obtain rfl : k = n := by omega
      have a0 := HX.out.c0
      have a1 := HX.out.c1
      go_wp2_with fail
      refine (where_nil _).mono ?_
      rintro e w1 ⟨vl, rfl, ⟨Al, capl, rfl, _⟩, hb1⟩
      have hbox1 := (HX.out.alloc (.cells #[.int .u8 s, .int .u32 c] 24)).below hb1 (HX.out.alloc _).lt
      have HB1 := Lib.hid ((HB.out.alloc HB.out.size _).trans (hb1.mono (by simp; have := HB.out.size; omega)))
      have b0 := hbox1.c0
      have b1 := hbox1.c1
      clear hb1 hbox1 a0 a1
      go_wp2_with fail
      refine (HS.out _).mono ?_
      rintro e w2 ⟨rfl, hb2⟩
      have HB2 := Lib.hid (HB1.out.trans (hb2.mono HB1.out.size))
      clear hb2 b0 b1
      go_wp2_with fail
      refine (fixed_any _ (HG.out.below HB2.out)).mono ?_
      rintro e w3 ⟨rfl, hb3⟩
      have HB3 := Lib.hid (HB2.out.trans (hb3.mono HB2.out.size))
      clear hb3
      go_wp2_with fail
      refine (of_nil _).mono ?_
      rintro e w4 ⟨rfl, hb4⟩
      have HB4 := Lib.hid (HB3.out.trans (hb4.mono HB3.out.size))
      clear hb4
      go_wp2_with fail
      go_ret
      exact ⟨rfl, HB4.out⟩

theorem of_any (s c : Int) (A : Option Addr) (n cap : Nat) (S : Nat → ByteArray) (w : World) (h0 : 0 ≤ s) (hE : StrElems w A n S) (hG : Glob w) :
    Calls Tryd.prog 3 #[.agg #[.int .u8 s, .int .u32 c], .slice A n cap] w fun e w' => e = .returned (.bool true) ∧ Below w.heap.size w w' := by
  by_cases hbig : 300 < n
  · have HG := Lib.hid hG
    have F := Lib.hid (fixed_any (w.alloc (.cells #[.int .u8 s, .int .u32 c] 24)) (hG.alloc _))
    clear hE hG
    go_enter Tryd.func3, Tryd.ntmps3
    go_wp2_with fail
    refine (F.out).mono ?_
    rintro e w' ⟨rfl, hb⟩
    have HB := Lib.hid (((Below.refl w.heap.size w).alloc (Nat.le_refl _) (.cells #[.int .u8 s, .int .u32 c] 24)).trans (hb.mono (by simp)))
    clear hb
    go_wp2_with fail
    go_ret
    exact ⟨rfl, HB.out⟩
  · by_cases hs : 1 ≤ s ∧ s ≤ 3
    · exact of_some s c A n cap S w hs (by omega) hE hG
    · exact of_none s c A n cap S w hs h0 (by omega) hE hG
end Go.Proofs.YtjkfckdoliflmaaDoor
