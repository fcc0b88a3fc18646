/-
  An operation by value and in memory; the statement's bound on operations, by its contract. Conditions: fewer than 2^41 operations.
-/
import Derived.Test.YteoneedehfijhaaDgr
import Derived.Test.YteoneedehfijhaaDshr
namespace Go.Proofs.Yteoneedehfijhaa
open Go.RowKit Go.WideShapes

/-- An operation. -/
structure Opv where
  kd : Int
  fd : Fd
  ms : Int
  nn : Int
  hm : 0 ≤ ms ∧ ms < 4294967296
  hn : nn ≤ 9223372036854775807
def opc (o : Opv) : List Value := [.int .i64 o.kd, tx o.fd.nm, tx o.fd.vl, .bool o.fd.nv, .int .u32 o.ms, .int .i64 o.nn]
theorem opc_len (o : Opv) : (opc o).length = 6 := rfl
/-- Operation number i, as it lies in memory. -/
theorem RdS.oper {w : World} {S : Nat → Prop} {A : Option Addr} {O : List Opv} (h : RdS w S A (enl opc O)) {i : Nat} (hi : i < O.length) : ∃ b q, A = some ⟨b, q, none⟩ ∧ S b ∧
    w.cell? ⟨b, q + i * 6, none⟩ = some (.int .i64 O[i].kd) ∧ w.cell? ⟨b, q + i * 6 + 1, none⟩ = some (tx O[i].fd.nm) ∧ w.cell? ⟨b, q + i * 6 + 2, none⟩ = some (tx O[i].fd.vl) ∧
    w.cell? ⟨b, q + i * 6 + 3, none⟩ = some (.bool O[i].fd.nv) ∧ w.cell? ⟨b, q + i * 6 + 4, none⟩ = some (.int .u32 O[i].ms) ∧ w.cell? ⟨b, q + i * 6 + 5, none⟩ = some (.int .i64 O[i].nn) := by
  have hne : enl opc O ≠ [] := by
    intro e
    have := enl_length opc_len O
    rw [e] at this
    simp at this
    omega
  obtain ⟨b, q, hA, hb, hc⟩ := h hne
  have hat : ∀ j (hj : j < 6), w.cell? ⟨b, q + i * 6 + j, none⟩ = (opc O[i])[j]? := fun j hj => by
    have e := enl_at opc_len hi hj
    have := hc (i * 6 + j) ((opc O[i])[j]'(by rw [opc_len]; exact hj)) (by rw [e]; exact List.getElem?_eq_getElem _)
    rw [Nat.add_assoc, this]
    exact (List.getElem?_eq_getElem _).symm
  exact ⟨b, q, hA, hb, hat 0 (by omega), hat 1 (by omega), hat 2 (by omega), hat 3 (by omega), hat 4 (by omega), hat 5 (by omega)⟩

set_option maxRecDepth 100000 in
set_option maxHeartbeats 4000000 in
theorem great5_any {w : World} {A : Option Addr} {c : Nat} {O : List Opv} (hR : RdS w (· < w.heap.size) A (enl opc O)) (hl : O.length ≤ 2199023255552) :
    Calls Try.prog 7 #[.slice A O.length c] w fun e w' => ∃ t, e = .returned (.bool t) ∧ (t = false → O.length ≤ 200 ∧ Few (O.map Opv.fd)) ∧ Below w.heap.size w w' := by
  obtain ⟨i0, hi0, hz0, hz1, hz2⟩ := field_parts
  go_enter Try.func7, Try.ntmps7
  go_wp2_with fail
  go_loopw [3, 8] (fun l i wr => ∃ (k : Nat) (A' : Option Addr) (c' : Nat), k ≤ O.length ∧ i = .int .i64 k ∧ l = .slice A' k c' ∧ Hid (OwS wr w.heap.size 32 3 (.slice A' k c') k (enl fdc ((O.take k).map Opv.fd))) ∧ Hid (Below w.heap.size w wr))
    (fun _ i _ => O.length - (intOf i).toNat)
  case atStart => exact ⟨0, none, 0, Nat.zero_le _, rfl, rfl, OwS.nil, Below.refl _ _⟩
  case round =>
    obtain ⟨k, A', c', hk, rfl, rfl, hO, hW⟩ := hrel
    by_cases hlt : k < O.length
    · obtain ⟨b, q, rfl, hb, f0, f1, f2, f3, f4, f5⟩ := (hR.below hW.out).oper hlt
      have hX : Hid (enl fdc ((O.take (k + 1)).map Opv.fd) = enl fdc ((O.take k).map Opv.fd) ++ [tx O[k].fd.nm, tx O[k].fd.vl, .bool O[k].fd.nv]) := by
        show _ = _
        rw [List.take_succ_eq_append_getElem hlt, List.map_append, enl_append]
        simp [enl, fdc]
      have hsz := hW.out.size
      unfold tx at f1 f2
      unfold tx at hX
      generalize O[k].kd = x0 at f0
      generalize O[k].fd.nm = x1 at f1 hX
      generalize O[k].fd.vl = x2 at f2 hX
      generalize O[k].fd.nv = x3 at f3 hX
      generalize O[k].ms = x4 at f4
      generalize O[k].nn = x5 at f5
      go_wp2_with (at_builtin; go_loud (refine wpList_appS rfl (.tmp 12) (.tmp 15) 28 rfl w.heap.size 32 i0 _ 3 40 Try.underlying28 hi0 hz0 hz1 hz2 rfl (.slice A' k c') k (enl fdc ((O.take k).map Opv.fd)) rfl ((hO.out.alloc _).alloc _) ⟨wr.heap.size + 1, 0, none⟩ 1 1 [.string ⟨x1.toArray⟩, .string ⟨x2.toArray⟩, .bool x3] rfl rfl (World.news_of_block (by simpa using heap_alloc_last (wr.alloc _) _)) (by intro u hu; simp at hu; rcases hu with rfl | rfl | rfl <;> rfl) (by omega) (by simp only [maxLen]; omega) (by omega) (by simp; omega) ?_; intro A3 c3 w3 hO3 hg3 hb3))
      have hb3' : Below w.heap.size wr w3 := (((Below.refl _ _).alloc hsz _).alloc (by simp; omega) _).trans ⟨hg3.os, hg3.tape, hg3.output, hg3.size, fun j hj => hg3.block j (by simp; omega) (fun e => by have := (hO.out.lt j e.symm).1; omega)⟩
      go_roundw
      case rel =>
        refine ⟨k + 1, A3, c3, by omega, by go_num, rfl, ?_, hW.out.trans hb3'⟩
        show OwS _ _ _ _ _ _ _
        rw [hX.out]
        exact hO3
      case measure => simp [intOf]; omega
    · have hkk : Hid (k = O.length) := by show _ = _; omega
      have hO2 : OwS wr w.heap.size 32 3 (.slice A' k c') k (enl fdc (O.map Opv.fd)) := by
        have := hO.out
        rwa [List.take_of_length_le (by omega)] at this
      have hg := great_any (w := wr) (A := A') (c := c') (L := O.map Opv.fd) (hO2.up.imp fun g hg _ => hg.2) (by simp; omega)
      rw [List.length_map, ← hkk.out] at hg
      by_cases h200 : 200 < O.length
      · have hd : (200 : Int) < (O.length : Int) := by omega
        clear hO hO2 hg hkk
        go_wp2_with fail
        go_ret
        exact ⟨true, rfl, (fun h => by cases h), hW.out⟩
      · have hd : decide ((200 : Int) < (O.length : Int)) = false := by simp; omega
        clear hO hO2 hkk
        go_wp2_with fail
        refine hg.mono ?_
        rintro e w2 ⟨t, rfl, ht, n, rfl⟩
        have HT := Lib.hid ht
        clear ht hg
        cases t with
        | false =>
          have HF := Lib.hid (HT.out rfl)
          clear HT
          go_wp2_with fail
          go_ret
          exact ⟨false, rfl, fun _ => ⟨by omega, HF.out⟩, below_dN hW.out n⟩
        | true =>
          go_wp2_with fail
          go_ret
          exact ⟨true, rfl, (fun h => by cases h), below_dN hW.out n⟩
end Go.Proofs.Yteoneedehfijhaa
