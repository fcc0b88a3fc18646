/-
  The document's Put, and the program's Size, by their contracts.
-/
import Derived.Test.YtdghkfmliedndaaPfxPut
namespace Go.Proofs.Ytdghkfmliedndaa
open Go.RowKit Go.WideShapes

theorem own_one (w : World) (x : Int) (h0 : 0 ≤ x) (h1 : x < 256) : OwB (w.alloc (.cells #[.int .u8 x] 5)) w.heap.size 5 (.slice (some ⟨w.heap.size, 0, none⟩) 1 1) [UInt8.ofNat x.toNat] := by
  have h := OwB.lit (base := w.heap.size) w 5 [UInt8.ofNat x.toNat] 1 rfl (by simp [maxLen]) (Nat.le_refl _)
  have e : (byc [UInt8.ofNat x.toNat]).toArray = #[.int .u8 x] := by
    simp only [byc, List.map_cons, List.map_nil]
    rw [byte_back h0 h1]
  rwa [e] at h
theorem made_one (w : World) (x : Int) (h0 : 0 ≤ x) (h1 : x < 256) {l : List UInt8} (hl : l = [UInt8.ofNat x.toNat]) : Made w l (.returned (.slice (some ⟨w.heap.size, 0, none⟩) 1 1)) (w.alloc (.cells #[.int .u8 x] 5)) := by
  subst hl
  exact ⟨some ⟨w.heap.size, 0, none⟩, 1, rfl, own_one w x h0 h1, (Below.refl _ _).alloc (Nat.le_refl _) _⟩

set_option maxHeartbeats 2000000 in
theorem ref_put (k a n : Nat) (h1 : 1 ≤ k) (h8 : k ≤ 8) (ha : a < 256) (hn : n ≤ 268435456) (w : World) :
    Calls Try.prog 11 #[.int .i64 k, .int .u8 a, .int .u32 n] w (Made w (putL k a n)) := by
  obtain ⟨i0, hi0, hz0, hz1, hz2⟩ := info_parts u8_info
  have hp := pow_le h1 h8
  have hlt := hiN_lt h1 h8 ha
  have hone := top_any k
  obtain ⟨Q, hQ⟩ : ∃ Q, Q = a / 2 ^ k := ⟨_, rfl⟩
  have hQa : Q ≤ a := by rw [hQ]; exact Nat.div_le_self _ _
  have hq : IntKind.u64.wrap ((a : Int) / (((2 ^ k - 1 : Nat) : Int) + 1)) = (Q : Int) := by
    rw [show (((2 ^ k - 1 : Nat) : Int) + 1) = ((2 ^ k : Nat) : Int) by omega, ← Int.natCast_ediv, ← hQ, IntKind.wrap_u64]
    omega
  have hH : IntKind.u64.wrap ((Q : Int) * (((2 ^ k - 1 : Nat) : Int) + 1)) = (hiN k a : Int) := by
    rw [show (((2 ^ k - 1 : Nat) : Int) + 1) = ((2 ^ k : Nat) : Int) by omega, ← Int.natCast_mul, hQ, IntKind.wrap_u64]
    have : a / 2 ^ k * 2 ^ k = hiN k a := rfl
    rw [this]
    omega
  have HQ := Lib.hid hQ
  clear hQ
  generalize ht : 2 ^ k - 1 = t at hp hlt hone hH hq
  obtain ⟨p1, p2, _, _⟩ := hp
  have HT := Lib.hid ht
  clear ht
  by_cases hs : n < t
  · go_enter Try.func11, Try.ntmps11
    go_wp2_with (go_at_call 16; refine (hone _ h1 h8).mono ?_; rintro e w' ⟨rfl, rfl⟩)
    go_ret
    refine made_one w _ (by omega) (by omega) ?_
    rw [putL_small (by rw [HT.out]; exact hs)]
    congr 2
  · have hd : decide ((n : Int) < t) = false := by simp; omega
    have hle : t ≤ n := by omega
    go_enter Try.func11, Try.ntmps11
    go_wp2_with (go_at_call 16; refine (hone _ h1 h8).mono ?_; rintro e w' ⟨rfl, rfl⟩)
    have ho2 := own_one w ((hiN k a : Int) + t) (by omega) (by omega)
    have HE : Hid ([UInt8.ofNat ((hiN k a : Int) + t).toNat] ++ tailF 3 (n - t) = putL k a n) := by
      show _ = _
      rw [putL_great (by rw [HT.out]; exact hs), HT.out]
      congr 2
    generalize hL2 : [UInt8.ofNat ((hiN k a : Int) + t).toNat] = L2 at ho2 HE
    have hlen : L2.length + 3 ≤ 4 := by rw [← hL2]; simp
    have hone1 : L2.length = 1 := by rw [← hL2]; rfl
    have HL := Lib.hid hone1
    clear hL2 hone1
    have hr2 : n - t < 128 ^ (3 + 1) := by simp; omega
    go_loopw [9, 10] (fun v r wr => ∃ (A' : Option Addr) (c' m : Nat) (L : List UInt8) (f r' : Nat), v = .slice A' m c' ∧ Hid (m = L.length) ∧ r = .int .u64 r' ∧ OwB wr w.heap.size 5 (.slice A' m c') L ∧ Below w.heap.size w wr ∧ f ≤ 3 ∧ Hid (r' < 128 ^ (f + 1)) ∧ r' < 4294967296 ∧ Hid (L ++ tailF f r' = putL k a n) ∧ L.length + f ≤ 4)
      (fun _ r _ => (intOf r).toNat)
    case atStart => exact ⟨some ⟨w.heap.size, 0, none⟩, 1, 1, L2, 3, n - t, rfl, HL.out.symm, by go_num, ho2, (Below.refl _ _).alloc (Nat.le_refl _) _, Nat.le_refl _, hr2, by omega, HE, hlen⟩
    case round =>
      obtain ⟨A', c', m, L, f, r', rfl, hm, rfl, hoL, hBL, hf, hr', hr32, hE, hll⟩ := hrel
      have hz := hBL.size
      by_cases hlast : r' < 128
      · have hd : decide ((128 : Int) ≤ r') = false := by simp; omega
        have hw8 : IntKind.u8.wrap (r' : Int) = r' := by rw [IntKind.wrap_u8']; omega
        go_wp2_with (at_builtin; go_loud (refine wpList_appB1 rfl (.tmp 51) (.tmp 54) _ rfl w.heap.size 5 i0 Try.underlying22 hi0 hz0 hz1 hz2 _ L rfl (World.ownsRow.alloc hoL _) wr.heap.size _ _ rfl (cell_new _ _ _ _) (by omega) (by omega) (by omega) (by simp; omega) ?_; intro A3 c3 L3 w3 hL3 ho3 hb3))
        go_ret
        have e : L3 = putL k a n := by rw [hL3.out, ← hE.out, tailF_last _ hlast]; congr 3
        subst e
        exact ⟨A3, c3, rfl, ho3, hBL.trans (((Below.refl _ _).alloc (by omega) _).trans hb3)⟩
      · obtain ⟨g, rfl⟩ : ∃ g, f = g + 1 := by
          cases f with
          | zero => exact absurd hr'.out (by simpa using hlast)
          | succ g => exact ⟨g, rfl⟩
        have h27 : (128 : Int) ≤ r' := by omega
        obtain ⟨d, hd⟩ : ∃ d, d = r' % 128 := ⟨_, rfl⟩
        obtain ⟨q, hq⟩ : ∃ q, q = r' / 128 := ⟨_, rfl⟩
        have hd128 : d < 128 := by omega
        have hq128 : q < r' := by omega
        have hand : (r' : Int) % 128 = (d : Int) := by omega
        have hw8 : IntKind.u8.wrap ((d : Int) + 128) = (d : Int) + 128 := by rw [IntKind.wrap_u8']; omega
        have hsh : (r' : Int) / 128 = (q : Int) := by omega
        have Hd := Lib.hid hd
        have Hq := Lib.hid hq
        clear hd hq
        go_wp2_with (at_builtin; go_loud (refine wpList_appB1 rfl (.tmp 42) (.tmp 47) _ rfl w.heap.size 5 i0 Try.underlying22 hi0 hz0 hz1 hz2 _ L rfl (World.ownsRow.alloc hoL _) wr.heap.size _ _ rfl (cell_new _ _ _ _) (by omega) (by omega) (by omega) (by simp; omega) ?_; intro A3 c3 L3 w3 hL3 ho3 hb3))
        go_roundw
        case rel =>
          have e : L3 = L ++ [UInt8.ofNat (r' % 128 + 128)] := by rw [hL3.out, ← Hd.out]; congr 3
          refine ⟨A3, c3, L3.length, L3, g, q, rfl, rfl, by go_num, ho3, hBL.trans (((Below.refl _ _).alloc (by omega) _).trans hb3), by omega, ?_, by omega, ?_, by rw [e]; simp; omega⟩
          · show q < 128 ^ (g + 1)
            have h1 := hr'.out
            rw [Nat.pow_succ] at h1
            rw [Hq.out]
            omega
          · show L3 ++ tailF g q = _
            rw [← hE.out, tailF_more _ hlast, e, Hq.out]
            simp
        case measure => simp [intOf]; omega

theorem size_yes (k n : Nat) (h1 : 1 ≤ k) (h8 : k ≤ 8) (hn : n ≤ 268435456) (w : World) :
    Calls Try.prog 10 #[.int .i64 k, .int .u32 n] w fun e w' => e = .returned (.int .i64 (sizeN k n : Int)) ∧ Below w.heap.size w w' := by
  have hc := put_yes k 0 n h1 h8 (by omega) hn none 0 [] (by simp) w RdB.nil
  have hl : ([] ++ putL k 0 n).length = sizeN k n := putL_size k 0 n
  generalize [] ++ putL k 0 n = l at hc hl
  go_enter Try.func10, Try.ntmps10
  go_wp2_with fail
  refine hc.mono ?_
  rintro e w1 ⟨A, c, rfl, ho, hb⟩
  have HL := Lib.hid hl
  clear hl
  go_wp2
  go_ret
  exact ⟨ret_int (by rw [HL.out]), hb⟩
theorem size_no (k : Int) (n : Nat) (hno : ¬ (1 ≤ k ∧ k ≤ 8) ∨ 268435456 < n) (w : World) :
    Calls Try.prog 10 #[.int .i64 k, .int .u32 n] w fun e w' => e = .returned (.int .i64 0) ∧ Below w.heap.size w w' := by
  have hc := put_no k n hno 0 none 0 [] (by simp) w RdB.nil
  go_enter Try.func10, Try.ntmps10
  go_wp2_with fail
  refine hc.mono ?_
  rintro e w1 ⟨A, c, rfl, ho, hb⟩
  go_wp2
  go_ret
  exact ⟨rfl, hb⟩
end Go.Proofs.Ytdghkfmliedndaa
