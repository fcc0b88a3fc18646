/-
  the program's Put and the program's Size, by their contracts. Conditions: the bytes ahead are at most 4000.
-/
import Derived.Test.YtfajffchnnalaaaPfxSmall
import Derived.Test.YtfajffchnnalaaaHenc
namespace Go.Proofs.Ytfajffchnnalaaa
open Go.RowKit Go.WideShapes



set_option maxRecDepth 100000 in
theorem pmake_room (i0 : TypeInfo) (hi0 : Try.prog.info? 5 = some i0) (hz0 : i0.zero = some (.int .u8 0)) (hz1 : i0.size = 1) (hz2 : i0.bytes = 1) (n : Nat) (hn : n ≤ 4000) (W : World) :
    (Instr.makeSlice 38 (.int .i64 0) (.int .i64 ((n : Int) + 1 + 4))).run Try.prog W = .ok (.slice (some ⟨W.heap.size, 0, none⟩) 0 (n + 5)) (W.alloc (.cells (madeCells #[Value.int .u8 0] (n + 5)) 5)) := by
  have := run_make (P := Try.prog) W 38 5 i0 (.int .u8 0) Try.underlying38 hi0 hz0 .i64 .i64 0 ((n + 5 : Nat) : Int) (by omega) (by omega) (by rw [hz2]; omega) (by omega)
  rw [show ((n : Int) + 1 + 4) = ((n + 5 : Nat) : Int) by omega, this, hz1, Nat.mul_one]
  rfl
set_option maxRecDepth 100000 in
theorem pown_room (w : World) (n : Nat) (hn : n ≤ 4000) : OwB (w.alloc (.cells (madeCells #[Value.int .u8 0] (n + 5)) 5)) w.heap.size 5 (.slice (some ⟨w.heap.size, 0, none⟩) 0 (n + 5)) [] :=
  OwB.fresh w 5 _ _ (by rw [size_madeCells]) (by simp only [maxLen]; omega) (Nat.le_refl _)


set_option maxRecDepth 100000 in
set_option maxHeartbeats 1000000 in
theorem put_no (k : Int) (n : Nat) (hno : ¬ (1 ≤ k ∧ k ≤ 8) ∨ 268435456 < n) (a : Int) (A : Option Addr) (c : Nat) (b : List UInt8) (hb : b.length ≤ 4000) (w : World) (hr : RdB w w.heap.size A b) :
    Calls Try.prog 55 #[.slice A b.length c, .int .i64 k, .int .u8 a, .int .u32 n] w (Made w b) := by
  obtain ⟨i0, hi0, hz0, hz1, hz2⟩ := info_parts u8_info
  have hmk := pmake_room i0 hi0 hz0 hz1 hz2 b.length hb
  by_cases hv : 1 ≤ k ∧ k ≤ 8
  · have hn : 268435456 < n := hno.resolve_left fun h => h hv
    obtain ⟨h1, h8⟩ := hv
    clear hno
    go_enter Try.func55, Try.ntmps55
    go_wp2_with (first
      | (at_builtin; refine wpList_appB rfl (.tmp 16) (.tmp 17) _ rfl w.heap.size 5 i0 Try.underlying38 hi0 hz0 hz1 hz2 _ [] rfl (pown_room w b.length hb) w.heap.size A b _ c rfl rfl (hr.alloc (Nat.le_refl _) _) (by simp; omega) (by simp) ?_; intro A1 c1 L1 w1 hL1 ho1 hb1)
      | (go_at_call 68; refine (is_yes _ _ h1 h8).mono ?_; rintro e w' ⟨rfl, rfl⟩))
    go_ret
    obtain rfl : L1 = b := hL1.out
    exact ⟨A1, c1, rfl, ho1, ((Below.refl _ _).alloc (Nat.le_refl _) _).trans hb1⟩
  · clear hno
    go_enter Try.func55, Try.ntmps55
    go_wp2_with (first
      | (at_builtin; refine wpList_appB rfl (.tmp 16) (.tmp 17) _ rfl w.heap.size 5 i0 Try.underlying38 hi0 hz0 hz1 hz2 _ [] rfl (pown_room w b.length hb) w.heap.size A b _ c rfl rfl (hr.alloc (Nat.le_refl _) _) (by simp; omega) (by simp) ?_; intro A1 c1 L1 w1 hL1 ho1 hb1)
      | (go_at_call 68; refine (is_no _ _ hv).mono ?_; rintro e w' ⟨rfl, rfl⟩))
    go_ret
    obtain rfl : L1 = b := hL1.out
    exact ⟨A1, c1, rfl, ho1, ((Below.refl _ _).alloc (Nat.le_refl _) _).trans hb1⟩

set_option maxRecDepth 100000 in
/-- The frame of Put's walk in which the loop stands. -/
theorem put_more {k a n : Nat} (h : ¬ n < 2 ^ k - 1) {b L : List UInt8} {f r : Nat} : L ++ tailF f r = b ++ putL k a n → L ++ tailF f r = b ++ (UInt8.ofNat (hiN k a + (2 ^ k - 1)) :: tailF 3 (n - (2 ^ k - 1))) := by
  rw [putL_great h]; exact id

set_option maxRecDepth 100000 in
set_option maxHeartbeats 2000000 in
theorem put_yes (k a n : Nat) (h1 : 1 ≤ k) (h8 : k ≤ 8) (ha : a < 256) (hn : n ≤ 268435456) (A : Option Addr) (c : Nat) (b : List UInt8) (hb : b.length ≤ 4000) (w : World) (hr : RdB w w.heap.size A b) :
    Calls Try.prog 55 #[.slice A b.length c, .int .i64 k, .int .u8 a, .int .u32 n] w (Made w (b ++ putL k a n)) := by
  obtain ⟨i0, hi0, hz0, hz1, hz2⟩ := info_parts u8_info
  have hmk := pmake_room i0 hi0 hz0 hz1 hz2 b.length hb
  have hp := pow_le h1 h8
  have hlt := hiN_lt h1 h8 ha
  have hnot := andNot_hi h1 h8 ha
  have hone := ones_any k
  generalize ht : 2 ^ k - 1 = t at hp hlt hnot hone
  obtain ⟨p1, p2, _, _⟩ := hp
  have HT := Lib.hid ht
  clear ht
  have hwt : IntKind.u8.wrap (t : Int) = t := by rw [IntKind.wrap_u8']; omega
  by_cases hs : n < t
  · have hor : bits .or .u8 (hiN k a : Int) (n : Int) = ((hiN k a + n : Nat) : Int) := or_hi h1 h8 ha (by rw [HT.out]; omega)
    have hwn : IntKind.u8.wrap (n : Int) = n := by rw [IntKind.wrap_u8']; omega
    have hmin : min (n : Int) (t : Int) = n := by omega
    go_enter Try.func55, Try.ntmps55
    go_wp2_with (first
      | (at_builtin; refine wpList_appB rfl (.tmp 16) (.tmp 17) _ rfl w.heap.size 5 i0 Try.underlying38 hi0 hz0 hz1 hz2 _ [] rfl (pown_room w b.length hb) w.heap.size A b _ c rfl rfl (hr.alloc (Nat.le_refl _) _) (by simp; omega) (by simp) ?_; intro A1 c1 L1 w1 hL1 ho1 hb1)
      | (go_at_call 68; refine (is_yes _ _ (by omega) (by omega)).mono ?_; rintro e w' ⟨rfl, rfl⟩)
      | (go_at_call 69; refine (hone _ h1 h8).mono ?_; rintro e w' ⟨rfl, rfl⟩)
      | (at_builtin; go_loud (refine wpList_appB1 rfl (.tmp 29) (.tmp 39) _ rfl w.heap.size 5 i0 Try.underlying38 hi0 hz0 hz1 hz2 _ L1 rfl (World.ownsRow.alloc ho1 _) w1.heap.size _ _ rfl (cell_new _ _ _ _) (by omega) (by omega) (by have := hL1.out; simp at this; rw [this]; omega) (by have := hb1.size; simp at this ⊢; omega) ?_; intro A2 c2 L2 w2 hL2 ho2 hb2)))
    go_ret
    have e : L2 = b ++ putL k a n := by
      rw [hL2.out, hL1.out, putL_small (by rw [HT.out]; exact hs), List.nil_append]
      congr 3
    subst e
    exact ⟨A2, c2, rfl, ho2, (((Below.refl _ _).alloc (Nat.le_refl _) _).trans hb1).trans (((Below.refl _ _).alloc (by have := hb1.size; simp at this; omega) _).trans hb2)⟩
  · have hor : bits .or .u8 (hiN k a : Int) (t : Int) = ((hiN k a + t : Nat) : Int) := or_hi h1 h8 ha (by rw [HT.out]; omega)
    have hmin : (if t < n then (t : Int) else (n : Int)) = t := by split <;> omega
    have hd : decide ((n : Int) < t) = false := by simp; omega
    have hle : t ≤ n := by omega
    go_enter Try.func55, Try.ntmps55
    go_wp2_with (first
      | (at_builtin; refine wpList_appB rfl (.tmp 16) (.tmp 17) _ rfl w.heap.size 5 i0 Try.underlying38 hi0 hz0 hz1 hz2 _ [] rfl (pown_room w b.length hb) w.heap.size A b _ c rfl rfl (hr.alloc (Nat.le_refl _) _) (by simp; omega) (by simp) ?_; intro A1 c1 L1 w1 hL1 ho1 hb1)
      | (go_at_call 68; refine (is_yes _ _ (by omega) (by omega)).mono ?_; rintro e w' ⟨rfl, rfl⟩)
      | (go_at_call 69; refine (hone _ h1 h8).mono ?_; rintro e w' ⟨rfl, rfl⟩)
      | (at_builtin; go_loud (refine wpList_appB1 rfl (.tmp 29) (.tmp 39) _ rfl w.heap.size 5 i0 Try.underlying38 hi0 hz0 hz1 hz2 _ L1 rfl (World.ownsRow.alloc ho1 _) w1.heap.size _ _ rfl (cell_new _ _ _ _) (by omega) (by omega) (by have := hL1.out; simp at this; rw [this]; omega) (by have := hb1.size; simp at this ⊢; omega) ?_; intro A2 c2 L2 w2 hL2 ho2 hb2)))
    have hB2 : Below w.heap.size w w2 := (((Below.refl _ _).alloc (Nat.le_refl _) _).trans hb1).trans (((Below.refl _ _).alloc (by have := hb1.size; simp at this; omega) _).trans hb2)
    have e : L2 = b ++ [UInt8.ofNat (hiN k a + t)] := by
      rw [hL2.out, hL1.out, List.nil_append]
      congr 3
    have hlen : L2.length + 3 ≤ b.length + 4 := by rw [e]; simp
    have HE : Hid (L2 ++ tailF 3 (n - t) = b ++ putL k a n) := by
      show _ = _
      rw [e, putL_great (by rw [HT.out]; exact hs), HT.out]
      simp
    have hr2 : n - t < 128 ^ (3 + 1) := by simp; omega
    clear e hb1 ho1 hL1 hL2 hb2 hmk hnot hone hor hmin hd
    go_loopw [9, 11] (fun v r wr => ∃ (A' : Option Addr) (c' : Nat) (L : List UInt8) (f r' : Nat), v = .slice A' L.length c' ∧ r = .int .u32 r' ∧ OwB wr w.heap.size 5 (.slice A' L.length c') L ∧ Below w.heap.size w wr ∧ f ≤ 3 ∧ Hid (r' < 128 ^ (f + 1)) ∧ r' < 4294967296 ∧ Hid (L ++ tailF f r' = b ++ putL k a n) ∧ L.length + f ≤ b.length + 4)
      (fun _ r _ => (intOf r).toNat)
    case atStart => exact ⟨A2, c2, L2, 3, n - t, rfl, by go_num, ho2, hB2, Nat.le_refl _, hr2, by omega, HE, hlen⟩
    case round =>
      obtain ⟨A', c', L, f, r', rfl, rfl, hoL, hBL, hf, hr', hr32, hE, hll⟩ := hrel
      have hz := hBL.size
      by_cases hlast : r' < 128
      · have hd : decide ((127 : Int) < r') = false := by simp; omega
        have hw8 : IntKind.u8.wrap (r' : Int) = r' := by rw [IntKind.wrap_u8']; omega
        go_wp2_with (at_builtin; go_loud (refine wpList_appB1 rfl (.tmp 59) (.tmp 62) _ rfl w.heap.size 5 i0 Try.underlying38 hi0 hz0 hz1 hz2 _ L rfl (World.ownsRow.alloc hoL _) wr.heap.size _ _ rfl (cell_new _ _ _ _) (by omega) (by omega) (by omega) (by simp; omega) ?_; intro A3 c3 L3 w3 hL3 ho3 hb3))
        go_ret
        have e : L3 = b ++ putL k a n := by rw [hL3.out, ← hE.out, tailF_last _ hlast]; congr 3
        subst e
        exact ⟨A3, c3, rfl, ho3, hBL.trans (((Below.refl _ _).alloc (by omega) _).trans hb3)⟩
      · obtain ⟨g, rfl⟩ : ∃ g, f = g + 1 := by
          cases f with
          | zero => exact absurd hr'.out (by simpa using hlast)
          | succ g => exact ⟨g, rfl⟩
        have h27 : (127 : Int) < r' := by omega
        obtain ⟨d, hd⟩ : ∃ d, d = r' % 128 := ⟨_, rfl⟩
        obtain ⟨q, hq⟩ : ∃ q, q = r' / 128 := ⟨_, rfl⟩
        have hd128 : d < 128 := by omega
        have hq128 : q < r' := by omega
        have hand : bits .and .u32 (r' : Int) 127 = (d : Int) := by rw [hd]; exact and32_127 hr32
        have hor : bits .or .u8 128 (d : Int) = ((d + 128 : Nat) : Int) := or_128 hd128
        have hw8 : IntKind.u8.wrap (d : Int) = d := by rw [IntKind.wrap_u8']; omega
        have hsh : (r' : Int) / 128 = (q : Int) := by omega
        have Hd := Lib.hid hd
        have Hq := Lib.hid hq
        clear hd hq
        go_wp2_with (at_builtin; go_loud (refine wpList_appB1 rfl (.tmp 52) (.tmp 57) _ rfl w.heap.size 5 i0 Try.underlying38 hi0 hz0 hz1 hz2 _ L rfl (World.ownsRow.alloc hoL _) wr.heap.size _ _ rfl (cell_new _ _ _ _) (by omega) (by omega) (by omega) (by simp; omega) ?_; intro A3 c3 L3 w3 hL3 ho3 hb3))
        go_roundw
        case rel =>
          have e : L3 = L ++ [UInt8.ofNat (r' % 128 + 128)] := by rw [hL3.out, ← Hd.out]; congr 3
          refine ⟨A3, c3, L3, g, q, rfl, by go_num, ho3, hBL.trans (((Below.refl _ _).alloc (by omega) _).trans hb3), by omega, ?_, by omega, ?_, by rw [e]; simp; omega⟩
          · show q < 128 ^ (g + 1)
            have h1 := hr'.out
            rw [Nat.pow_succ] at h1
            rw [Hq.out]
            omega
          · show L3 ++ tailF g q = _
            rw [← hE.out, tailF_more _ hlast, e, Hq.out]
            simp
        case measure => simp [intOf]; omega
end Go.Proofs.Ytfajffchnnalaaa
