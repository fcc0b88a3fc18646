/-
  Where, by its contract: over a chain of passages that ends in a failure it answers the places, the outermost first, in memory of its own; over nil it answers the nil slice. Conditions: at most 300 passages; errors.errorType holds what the program's text lays.
-/
import Derived.Test.YtjkfckdoliflmaaDoorOf
import Derived.OwnWalk
import Derived.Laws.OwnMore
namespace Go.Proofs.YtjkfckdoliflmaaDoor
open Go.RowKit Go.Extern.Stop Go.Stop Go.Extern

/-- A slice of strings that reads as xs. -/
def StrsAt (w : World) (B : Nat) (v : Value) (xs : List ByteArray) : Prop :=
  ∃ A cap, v = .slice A xs.length cap ∧ ∀ i, i < xs.length → ∃ g, A = some ⟨g, 0, none⟩ ∧ g < w.heap.size ∧ B ≤ g ∧ w.cell? ⟨g, i, none⟩ = some (.string (xs.getD i ByteArray.empty))
def WhereP (w : World) (xs : List ByteArray) (e : Ending) (w' : World) : Prop := ∃ v, e = .returned v ∧ StrsAt w' w.heap.size v xs ∧ Below w.heap.size w w'

theorem infoStr : (Tryd.prog.info? 9).map (fun i => (i.zero, i.size, i.bytes)) = some (some (.string ByteArray.empty), 1, 16) := by kernel_rfl

/-- The passages that are still to be gone through, from a pointer on. -/
def Pch (w : World) : Value → List ByteArray → Nat → Prop
  | p, [], _ => p = .pointer none
  | p, x :: xs, pf => ∃ b v', p = .pointer (some ⟨b, 0, none⟩) ∧ w.cell? ⟨b, 0, none⟩ = some (.string x) ∧ w.cell? ⟨b, 1, none⟩ = some v' ∧ Ch w v' xs pf

theorem strsAt_of_own {w : World} {B : Nat} {v : Value} {xs : List ByteArray} (h : w.ownsRow B 9 1 v xs.length (xs.map Value.string)) : StrsAt w B v xs := by
  rcases h.2 with ⟨rfl, hx⟩ | ⟨g, cap, cur, rfl, hg, _⟩
  · have : xs = [] := by simpa using hx
    subst this
    exact ⟨none, 0, rfl, fun i hi => absurd hi (by simp)⟩
  · refine ⟨_, _, rfl, fun i hi => ⟨g, rfl, ?_, hg, ?_⟩⟩
    · exact (h.lt g (by simp [Value.ownBlock])).2
    · have := h.cells (g := g) (by simp [Value.ownBlock]) i (.string (xs.getD i ByteArray.empty)) (by simp [List.getD, hi])
      rw [WideShapes.add_plain] at this
      simpa using this

set_option maxHeartbeats 4000000 in
theorem where_nil (w : World) : Calls Tryd.prog 8 #[.nilIface] w (WhereP w []) := by
  go_enter Tryd.func8, Tryd.ntmps8
  go_wp2_with (go_at_call 15; refine (firstP_nil _).mono ?_; rintro e w1 ⟨rfl, hb⟩)
  refine wp_loop_rounds 1 ?_
  rw [rounds_succ]
  go_wp2
  go_ret
  exact ⟨_, rfl, ⟨none, 0, rfl, fun i hi => absurd hi (by simp)⟩, by assumption⟩

set_option maxHeartbeats 4000000 in
theorem where_ch (xs : List ByteArray) (v : Value) (pf : Nat) (w : World) (hch : Ch w v xs pf) (hx : xs.length ≤ 300)
    (hg : w.cell? ⟨1, 0, none⟩ = some (.iface 70 (.agg #[.pointer (some ⟨5, 28, none⟩)]))) :
    Calls Tryd.prog 8 #[v] w (WhereP w xs) := by
  obtain ⟨i0, hi, hz0, hz1, hz2⟩ := info_parts infoStr
  cases xs with
  | nil =>
    obtain rfl := hch
    have HP := Lib.hid (firstP_miss pf w hg)
    clear hg
    go_enter Tryd.func8, Tryd.ntmps8
    go_wp2_with (go_at_call 15; refine (HP.out).mono ?_; rintro e w1 ⟨rfl, hb⟩)
    refine wp_loop_rounds 1 ?_
    rw [rounds_succ]
    go_wp2
    go_ret
    exact ⟨_, rfl, ⟨none, 0, rfl, fun i hi => absurd hi (by simp)⟩, by assumption⟩
  | cons x xs =>
    obtain ⟨b, v', rfl, k0, k1, hc⟩ := hch
    have HP := Lib.hid (firstP_hit b w hg)
    have hbl : b < w.heap.size := blk_lt k0
    have HC := Lib.hid (⟨b, v', rfl, k0, k1, hc⟩ : Pch w (.pointer (some ⟨b, 0, none⟩)) (x :: xs) pf)
    clear hg k0 k1 hc
    go_enter Tryd.func8, Tryd.ntmps8
    go_wp2_with fail
    refine (HP.out).mono ?_
    rintro e w1 ⟨rfl, hb⟩
    have HB := Lib.hid hb
    clear hb
    go_wp2_with fail
    go_loopg [3, 4] (xs.length + 1) (fun k v p wr => ∃ don rest, don ++ rest = x :: xs ∧ rest.length = k ∧ Pch w p rest pf ∧ wr.ownsRow w.heap.size 9 1 v don.length (don.map Value.string) ∧ Below w.heap.size w wr)
    case atStart => exact ⟨[], x :: xs, rfl, rfl, HC.out, World.ownsRow_nil _ _ _ _, HB.out⟩
    case round =>
      obtain ⟨don, rest, hdr, rfl, hP, hown, hbel⟩ := hrel
      have HD := Lib.hid hdr
      have HO := Lib.hid hown
      have HL := Lib.hid hbel
      have hlen : don.length + rest.length = xs.length + 1 := by have := congrArg List.length hdr; simpa using this
      have hdl : don.length ≤ 300 := by simp at hx; omega
      clear hdr hown hbel
      cases rest with
      | nil =>
        obtain rfl := hP
        have he : don = x :: xs := by simpa using HD.out
        have HE := Lib.hid he
        clear he
        go_wp2_with fail
        go_ret
        refine ⟨_, rfl, ?_, HL.out⟩
        have := strsAt_of_own HO.out
        rw [HE.out] at this
        exact this
      | cons y ys =>
        obtain ⟨b2, v2, rfl, c0, c1, hc2⟩ := hP
        have HC2 := Lib.hid hc2
        have hb2l : b2 < w.heap.size := blk_lt c0
        have q0 : wr.cell? ⟨b2, 0, none⟩ = some (.string y) := (HL.out.cell (p := ⟨b2, 0, none⟩) hb2l).trans c0
        have hsz := HL.out.size
        have QC1 := Lib.hid c1
        clear c0 c1 hc2 hlen
        go_wp2_with (at_builtin; refine wpList_append_own _ rfl _ _ 25 rfl w.heap.size 9 i0 (.string ByteArray.empty) 1 16 Tryd.underlying25 hi hz0 hz1 hz2 rfl (by decide) _ _ _ rfl (HO.out.alloc _) ⟨wr.heap.size, 0, none⟩ 1 1 [.string y] rfl rfl ?c1 ?c2 ?c3 ?c4 ?c5 ?_)
        case c1 =>
          intro j u hj
          match j, hj with
          | 0, hj => simp at hj; subst hj; simp [Addr.add]
        case c2 => intro u hu; simp at hu; subst hu; rfl
        case c3 => unfold maxLen; omega
        case c4 => omega
        case c5 => simp; omega
        intro v3 w3 hown3 hgrow3 _
        have hbel3 : Below w.heap.size w w3 := (HL.out.alloc hsz _).grown hgrow3 (by simp; omega) (fun k hk => (HO.out.lt k hk).1)
        have q1 : w3.cell? ⟨b2, 1, none⟩ = some v2 := (hbel3.cell (p := ⟨b2, 1, none⟩) hb2l).trans QC1.out
        have HO3 := Lib.hid hown3
        have HL3 := Lib.hid hbel3
        clear hown3 hgrow3 hbel3 q0
        go_outline
        cases ys with
        | nil =>
          obtain rfl : v2 = _ := HC2.out
          go_wp2_with fail
          refine (next_miss b2 pf _ q1).mono ?_
          rintro e w4 ⟨rfl, rfl⟩
          go_wp2_with fail
          go_roundg 0
          case measure => simp
          case rel => exact ⟨don ++ [y], [], by simpa using HD.out, rfl, rfl, by simpa using HO3.out, HL3.out⟩
        | cons z zs =>
          obtain ⟨b3, v4, rfl, d0, d1, hd⟩ := HC2.out
          go_wp2_with fail
          refine (next_hit b2 b3 _ q1).mono ?_
          rintro e w4 ⟨rfl, rfl⟩
          go_wp2_with fail
          go_roundg (zs.length + 1)
          case measure => simp
          case rel => exact ⟨don ++ [y], z :: zs, by simpa using HD.out, rfl, ⟨b3, v4, rfl, d0, d1, hd⟩, by simpa using HO3.out, HL3.out⟩
end Go.Proofs.YtjkfckdoliflmaaDoor
