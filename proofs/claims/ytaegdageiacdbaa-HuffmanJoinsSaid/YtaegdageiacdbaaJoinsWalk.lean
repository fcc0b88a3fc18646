/-
  HuffmanJoins, by its contract: at every input it answers true; below what was there nothing has turned.
-/
import Derived.Test.YtaegdageiacdbaaHfix
namespace Go.Proofs.Ytaegdageiacdbaa
open Go.RowKit Go.WideShapes

theorem joins_long (a b : ByteArray) (h : 3000 < a.size ∨ 3000 < b.size) (w : World) :
    Calls Try.prog 7 #[.string a, .string b] w fun e w' => e = .returned (.bool true) ∧ Below w.heap.size w w' := by
  by_cases h1 : 3000 < a.size
  · have h1' : (3000 : Int) < a.size := by omega
    clear h
    go_enter Try.func7, Try.ntmps7
    go_wp2_with (go_at_call 10; refine (fixed_any _).mono ?_; rintro e w' ⟨rfl, hb⟩)
    go_ret
    exact ⟨rfl, hb⟩
  · have h1' : decide ((3000 : Int) < a.size) = false := by simp; omega
    have h2' : (3000 : Int) < b.size := by have := h.resolve_left h1; omega
    clear h
    go_enter Try.func7, Try.ntmps7
    go_wp2_with (go_at_call 10; refine (fixed_any _).mono ?_; rintro e w' ⟨rfl, hb⟩)
    go_ret
    exact ⟨rfl, hb⟩

theorem size_nat (s : ByteArray) (n : Nat) (hn : n = bitsN s.data.toList) (hs : s.size ≤ 100000) (w : World) : Calls Try.prog 15 #[.string s] w fun e w' => e = .returned (.int .i64 (((n + 7) / 8 : Nat) : Int)) ∧ Below w.heap.size w w' := by
  subst hn; exact size_any s hs w

set_option maxRecDepth 100000 in
set_option maxHeartbeats 2000000 in
theorem joins_any (a b : ByteArray) (w : World) :
    Calls Try.prog 7 #[.string a, .string b] w fun e w' => e = .returned (.bool true) ∧ Below w.heap.size w w' := by
  by_cases hl : 3000 < a.size ∨ 3000 < b.size
  · exact joins_long a b hl w
  · have ha : a.size ≤ 3000 := by omega
    have hb : b.size ≤ 3000 := by omega
    have ba := bitsN_bd a.data.toList
    have bb := bitsN_bd b.data.toList
    have hla : a.data.toList.length = a.size := by simp
    rw [hla] at ba
    have hlb : b.data.toList.length = b.size := by simp
    rw [hlb] at bb
    have sa := size_nat a _ rfl (by omega)
    have sb := size_nat b _ rfl (by omega)
    have sc := size_nat (a ++ b) (bitsN a.data.toList + bitsN b.data.toList) (by simp [bitsN_append]) (by simp; omega)
    have l1 : decide ((3000 : Int) < a.size) = false := by simp; omega
    have l2 : decide ((3000 : Int) < b.size) = false := by simp; omega
    generalize bitsN a.data.toList = m at ba sa sc
    generalize bitsN b.data.toList = n at bb sb sc
    obtain ⟨x, hx⟩ : ∃ x, x = (m + 7) / 8 := ⟨_, rfl⟩
    obtain ⟨y, hy⟩ : ∃ y, y = (n + 7) / 8 := ⟨_, rfl⟩
    obtain ⟨z, hz⟩ : ∃ z, z = (m + n + 7) / 8 := ⟨_, rfl⟩
    rw [← hx] at sa
    rw [← hy] at sb
    rw [← hz] at sc
    have t1 : z ≤ x + y := by omega
    have t2 : x + y ≤ z + 1 := by omega
    have t3 : x ≤ 4 * a.size := by omega
    have t4 : 5 * a.size ≤ 8 * x := by omega
    have t5 : x ≤ 12000 := by omega
    have t6 : y ≤ 12000 := by omega
    clear ba bb hl hla hlb hx hy hz
    go_enter Try.func7, Try.ntmps7
    go_wp2_with fail
    refine (sa _).mono ?_
    rintro e w1 ⟨rfl, hb1⟩
    have HB1 := Lib.hid hb1
    clear hb1
    go_wp2_with fail
    refine (sb _).mono ?_
    rintro e w2 ⟨rfl, hb2⟩
    have HB2 := Lib.hid (HB1.out.trans (hb2.mono HB1.out.size))
    clear hb2 HB1
    go_wp2_with fail
    refine (sc _).mono ?_
    rintro e w3 ⟨rfl, hb3⟩
    have HB3 := Lib.hid (HB2.out.trans (hb3.mono HB2.out.size))
    clear hb3 HB2
    go_wp2_with fail
    refine (fixed_any _).mono ?_
    rintro e w4 ⟨rfl, hb4⟩
    have HB4 := Lib.hid (HB3.out.trans (hb4.mono HB3.out.size))
    clear hb4 HB3
    go_wp2_with fail
    all_goals
      go_ret
      exact ⟨by first | rfl | (congr 2; simp; omega), HB4.out⟩
end Go.Proofs.Ytaegdageiacdbaa
