/-
  PrefixNoughts, by its contract: at every input it answers true; below what was there nothing has turned.
-/
import Derived.Test.YtdghkfmliedndaaPfxFixed
import Derived.Deep.QuietTactic
import Derived.BigQuiet
import Derived.Deep.RegionHeld3
import Derived.Deep.Cut
namespace Go.Proofs.Ytdghkfmliedndaa
open Go.RowKit Go.WideShapes

theorem cell_new_at {w : World} {g : Nat} (hg : g = w.heap.size) {n : Int} {t : TypeId} : (w.alloc (.cells #[.int .u8 n] t)).cell? ⟨g, 0, none⟩ = some (.int .u8 n) := by
  subst hg; exact cell_new w n t _
theorem or_all : ∀ n : Fin 256, n.val ||| 128 = n.val % 128 + 128 := by decide +kernel
theorem or_128r {n : Nat} (h : n < 256) : bits .or .u8 (n : Int) 128 = ((n % 128 + 128 : Nat) : Int) := by
  rw [show (128 : Int) = ((128 : Nat) : Int) from rfl, u8_or_nat n 128 h (by omega)]
  have := or_all ⟨n, h⟩
  simp only at this
  rw [this]

theorem noughts_out (k : Int) (n : Nat) (m : Int) (h : ¬ (1 ≤ k ∧ k ≤ 8) ∨ 268435456 < n) (w : World) :
    Calls Try.prog 6 #[.int .i64 k, .int .u32 n, .int .u8 m] w fun e w' => e = .returned (.bool true) ∧ Below w.heap.size w w' := by
  by_cases h1 : k < 1
  · clear h
    go_enter Try.func6, Try.ntmps6
    go_wp2_with (go_at_call 8; refine (fixed_any _).mono ?_; rintro e w' ⟨rfl, hb⟩)
    go_ret
    exact ⟨rfl, hb⟩
  · have d1 : decide (k < 1) = false := by simp; omega
    by_cases h8 : 8 < k
    · clear h
      go_enter Try.func6, Try.ntmps6
      go_wp2_with (go_at_call 8; refine (fixed_any _).mono ?_; rintro e w' ⟨rfl, hb⟩)
      go_ret
      exact ⟨rfl, hb⟩
    · have d8 : decide (8 < k) = false := by simp; omega
      have hn : 268435456 < n := h.resolve_left fun h => h ⟨by omega, by omega⟩
      clear h
      go_enter Try.func6, Try.ntmps6
      go_wp2_with (go_at_call 8; refine (fixed_any _).mono ?_; rintro e w' ⟨rfl, hb⟩)
      go_ret
      exact ⟨rfl, hb⟩

set_option maxRecDepth 100000 in
set_option maxHeartbeats 4000000 in
theorem noughts_in (k n m : Nat) (h1 : 1 ≤ k) (h8 : k ≤ 8) (hn : n ≤ 268435456) (hm : m < 256) (w : World) :
    Calls Try.prog 6 #[.int .i64 k, .int .u32 n, .int .u8 m] w fun e w' => e = .returned (.bool true) ∧ Below w.heap.size w w' := by
  obtain ⟨i0, hi0, hz0, hz1, hz2⟩ := info_parts u8_info
  have p1 := ref_put k 0 n h1 h8 (by omega) hn w
  have hk1 : decide ((k : Int) < 1) = false := by simp; omega
  have hk8 : decide ((8 : Int) < k) = false := by simp; omega
  have hnn : decide ((268435456 : Int) < n) = false := by simp; omega
  have gn := fun j h2 => get_noughts h1 h8 hn h2 j
  have hlen := putL_len k 0 n
  generalize putL k 0 n = L at p1 gn hlen
  have GN := Lib.hid gn
  clear gn
  by_cases hs : L.length < 2
  · go_enter Try.func6, Try.ntmps6
    go_wp2_with fail
    refine p1.mono ?_
    rintro e w1 ⟨A1, c1, rfl, ho1, hb1⟩
    have HB1 := Lib.hid hb1
    clear ho1 hb1
    go_wp2_with (go_at_call 8; refine (fixed_any _).mono ?_; rintro e w' ⟨rfl, hb⟩)
    go_ret
    exact ⟨rfl, HB1.out.trans (hb.mono HB1.out.size)⟩
  · have hs2 : decide (L.length < 2) = false := by simp; omega
    go_enter Try.func6, Try.ntmps6
    go_wp2_with fail
    refine p1.mono ?_
    rintro e w1 ⟨A1, c1, rfl, ho1, hb1⟩
    have hne : L ≠ [] := by rintro rfl; simp at hs
    go_wp2_with fail
    go_loopw [7, 34] (fun v i wr => ∃ (A : Option Addr) (c j : Nat) (M : List UInt8), v = .slice A M.length c ∧ i = .int .i64 j ∧ j ≤ m % 6 ∧ OwB wr w.heap.size 5 (.slice A M.length c) M ∧ Below w.heap.size w wr ∧ Hid (M = noughts j L))
      (fun _ i _ => m % 6 - (intOf i).toNat)
    case atStart => exact ⟨A1, c1, 0, L, rfl, rfl, Nat.zero_le _, ho1, hb1, rfl⟩
    case round =>
      obtain ⟨A, c, j, M, rfl, rfl, hj, hoM, hBM, hM⟩ := hrel
      have hz := hBM.size
      have hMl : M.length = L.length + j := by rw [hM.out]; exact (noughts_len hne j).2
      have hMb : M.length ≤ 10 := by omega
      have hML := Lib.hid hMl
      clear hMl
      by_cases hlt : j < m % 6
      · have hlt' : (j : Int) < (m : Int) % 6 := by omega
        obtain ⟨I, z, rfl⟩ : ∃ I z, M = I ++ [z] := by
          rcases List.eq_nil_or_concat M with h0 | ⟨I, z, h0⟩
          · have := hML.out; rw [h0] at this; simp at this; omega
          · exact ⟨I, z, by rw [h0]; simp⟩
        obtain ⟨g, c', e1, hg1, hg2⟩ := hoM.form (by simp)
        injection e1 with e1 _ e3
        subst e1 e3
        have hcell : wr.cell? ⟨g, I.length, none⟩ = some (.int .u8 (z.toNat : Int)) := by
          have := hoM.at_ (j := I.length) (by simp)
          simpa using this
        have hfz := hoM.thawed I.length
        have hzb := z.toNat_lt
        obtain ⟨zz, hzz⟩ : ∃ zz, zz = z.toNat % 128 + 128 := ⟨_, rfl⟩
        have hzz8 : zz < 256 := by omega
        have hor : bits .or .u8 (z.toNat : Int) 128 = (zz : Int) := by rw [hzz]; exact or_128r (by omega)
        have hst := hoM.stored I.length (UInt8.ofNat zz)
        rw [toNat_ofNat' hzz8] at hst
        have hset : (I ++ [z]).set I.length (UInt8.ofNat zz) = I ++ [UInt8.ofNat zz] := by simp
        rw [hset] at hst
        have hIb : I.length ≤ 10 := by simp at hMb; omega
        clear hMb
        have HZ := Lib.hid hzz
        have HO := Lib.hid hst
        clear hoM hset hzz hst
        go_wp2_with (at_builtin; go_loud (refine wpList_appB1 rfl (.tmp 44) (.tmp 45) _ rfl w.heap.size 5 i0 Try.underlying22 hi0 hz0 hz1 hz2 _ (I ++ [UInt8.ofNat zz]) rfl (World.ownsRow.alloc HO.out _) wr.heap.size _ 0 rfl (cell_new_at (by simp)) (by omega) (by omega) (by simp; omega) (by simp; omega) ?_; intro A3 c3 L3 w3 hL3 ho3 hb3))
        go_roundw
        case rel =>
          refine ⟨A3, c3, j + 1, L3, rfl, by go_num, by omega, ho3, (((hBM.setCell hg1 _).alloc (by simp; omega) _).trans hb3), ?_⟩
          show L3 = _
          rw [hL3.out, noughts, ← hM.out, nought_snoc, HZ.out]
          rfl
        case measure => simp [intOf]; omega
      · have hlt' : decide ((j : Int) < (m : Int) % 6) = false := by simp; omega
        have hg := GN.out j (by omega)
        rw [← hM.out] at hg
        obtain ⟨A', c', e1, hcap, _, hrd⟩ := hoM.shape
        injection e1 with e1 _ e3
        subst e1 e3
        have cg := get_any k h1 h8 A c M (by omega) hcap wr _ hrd
        unfold Three at cg
        have HB := Lib.hid hBM
        clear hBM hoM hcap hrd hM hML
        by_cases h5 : 5 < M.length
        · rw [hg, if_pos h5] at cg
          clear hg
          go_wp2_with fail
          refine cg.mono ?_
          rintro e w' ⟨rfl, rfl⟩
          go_wp2_with (go_at_call 8; refine (fixed_any _).mono ?_; rintro e w' ⟨rfl, hb⟩)
          go_ret
          exact ⟨rfl, HB.out.trans (hb.mono HB.out.size)⟩
        · rw [hg, if_neg h5] at cg
          have h5' : decide ((5 : Int) < M.length) = false := by simp; omega
          clear hg
          go_wp2_with fail
          refine cg.mono ?_
          rintro e w' ⟨rfl, rfl⟩
          go_wp2_with (go_at_call 8; refine (fixed_any _).mono ?_; rintro e w' ⟨rfl, hb⟩)
          go_ret
          exact ⟨rfl, HB.out.trans (hb.mono HB.out.size)⟩

theorem noughts_any (k n m : Int) (hn : 0 ≤ n) (hm : 0 ≤ m ∧ m < 256) (w : World) :
    Calls Try.prog 6 #[.int .i64 k, .int .u32 n, .int .u8 m] w fun e w' => e = .returned (.bool true) ∧ Below w.heap.size w w' := by
  obtain ⟨n', rfl⟩ := Int.eq_ofNat_of_zero_le hn
  by_cases h : (1 ≤ k ∧ k ≤ 8) ∧ n' ≤ 268435456
  · obtain ⟨k', rfl⟩ := Int.eq_ofNat_of_zero_le (show 0 ≤ k by omega)
    obtain ⟨m', rfl⟩ := Int.eq_ofNat_of_zero_le hm.1
    exact noughts_in k' n' m' (by omega) (by omega) h.2 (by omega) w
  · exact noughts_out k n' m (by omega) w
end Go.Proofs.Ytdghkfmliedndaa
