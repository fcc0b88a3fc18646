/-
  The document's bytes, by its contract. Conditions: at most 20000 bits.
-/
import Derived.Test.YtaegdageiacdbaaRcodes
import Derived.Test.YtaegdageiacdbaaHenc
namespace Go.Proofs.Ytaegdageiacdbaa
open Go.RowKit Go.WideShapes

theorem val_next {p : List Bool} {i j : Nat} (h : i + j < p.length) : val ((p.drop i).take (j + 1)) = val ((p.drop i).take j) * 2 + (p[i + j]).toNat := by
  have hj : j < (p.drop i).length := by rw [List.length_drop]; omega
  rw [List.take_add_one, List.getElem?_eq_getElem hj]
  show val ((p.drop i).take j ++ [(p.drop i)[j]]) = _
  rw [val_append, List.getElem_drop]
  generalize p[i + j] = b
  cases b <;> simp [val]

set_option maxRecDepth 100000 in
set_option maxHeartbeats 1000000 in
theorem rbytes_any (p : List Bool) (hp : p.length ≤ 20000) (w : World) : Calls Try.prog 22 #[.string (bs p)] w (Made w (pack (pad p))) := by
  obtain ⟨i0, hi0, hz0, hz1, hz2⟩ := info_parts u8_info
  have hlit : OwB (w.alloc (.cells #[] 5)) w.heap.size 5 (.slice (some ⟨w.heap.size, 0, none⟩) 0 0) [] := OwB.lit w 5 [] 0 rfl (by simp [maxLen]) (Nat.le_refl _)
  have HL := Lib.hid hlit
  have HB := Lib.hid ((Below.refl w.heap.size w).alloc (Nat.le_refl _) (.cells #[] 5))
  clear hlit
  go_enter Try.func22, Try.ntmps22
  go_wp2_with fail
  go_loop [0] (fun s => ∃ (r : Nat) (x : List Bool), s = .string (bs x) ∧ x.length = p.length + r ∧ r ≤ (8 - p.length % 8) % 8 ∧ Hid (x = p ++ List.replicate r true)) (fun s => (8 - strLen s % 8) % 8)
  case atStart => exact ⟨0, p, rfl, rfl, Nat.zero_le _, by show _ = _; simp⟩
  case round =>
    obtain ⟨r, x, rfl, hxl, hr, hx⟩ := hrel
    have hsz := bs_size x
    have hx20 : x.length ≤ 20008 := by omega
    by_cases h8 : x.length % 8 = 0
    · have h8i : (x.length : Int) % 8 = 0 := by omega
      have hxe : Hid (x = pad p) := by
        show _ = _
        rw [hx.out]
        unfold pad
        congr 2
        omega
      have h8n := Lib.hid h8
      clear hx hxl hr h8
      go_wp2_with fail
      clear h8i
      go_loopw [3, 4] (fun v i wr => ∃ (k : Nat) (A2 : Option Addr) (c2 : Nat) (L : List UInt8), 8 * k ≤ x.length ∧ i = .int .i64 ((8 * k : Nat) : Int) ∧ v = .slice A2 L.length c2 ∧ L.length = k ∧ Hid (unpack L = x.take (8 * k)) ∧ Hid (OwB wr w.heap.size 5 (.slice A2 L.length c2) L) ∧ Hid (Below w.heap.size w wr))
        (fun _ i _ => x.length - (intOf i).toNat)
      case atStart => exact ⟨0, _, _, [], Nat.zero_le _, rfl, rfl, rfl, by show _ = _; rfl, HL, HB⟩
      case round =>
        obtain ⟨k, A2, c2, L, hk, rfl, rfl, hLk, hU, hO, hB⟩ := hrel
        have hz := hB.out.size
        by_cases hlt : 8 * k < x.length
        · have hk8 : 8 * k + 8 ≤ x.length := by have := h8n.out; omega
          obtain ⟨i, hi⟩ : ∃ i, i = 8 * k := ⟨_, rfl⟩
          rw [← hi] at hU hlt hk8 ⊢
          have HI := Lib.hid hi
          have HLk := Lib.hid hLk
          clear hi hk hLk
          go_wp2_with fail
          go_loop [5, 6] (fun n j => ∃ (j' n' : Nat), j' ≤ 8 ∧ j = .int .i64 ((i + j' : Nat) : Int) ∧ n = .int .u8 n' ∧ n' < 256 ∧ Hid (n' = val ((x.drop i).take j'))) (fun _ j => i + 8 - (intOf j).toNat)
          case atStart => exact ⟨0, 0, by omega, rfl, rfl, by omega, by show _ = _; rfl⟩
          case round =>
            obtain ⟨j, n, hj, rfl, rfl, hn, hne⟩ := hrel
            by_cases hj8 : j < 8
            · have hij : i + j < x.length := by omega
              have hch : ∀ h : i + j < (bs x).size, (bs x)[i + j]'h = chr x[i + j] := fun h => bs_at x h
              have hN := val_next hij
              rw [← hne.out] at hN
              have hn127 : n ≤ 127 := by
                have h1 := val_lt ((x.drop i).take j)
                rw [← hne.out, List.length_take, List.length_drop] at h1
                have h2 : 2 ^ (min j (x.length - i)) ≤ 2 ^ 7 := Nat.pow_le_pow_right (by omega) (by omega)
                omega
              have HN : Hid (n * 2 + (x[i + j]).toNat = val ((x.drop i).take (j + 1))) := hN.symm
              generalize x[i + j] = b at hch HN
              clear hN hne
              cases b
              · simp only [show chr false = 48 from rfl] at hch
                simp only [Bool.toNat_false, Nat.add_zero] at HN
                go_wp2_with fail
                go_round
                case rel => exact ⟨j + 1, n * 2, by omega, by go_num, by congr 1; omega, by omega, HN⟩
                case measure => simp [intOf]; omega
              · simp only [show chr true = 49 from rfl] at hch
                simp only [Bool.toNat_true] at HN
                go_wp2_with fail
                go_round
                case rel => exact ⟨j + 1, n * 2 + 1, by omega, by go_num, by congr 1; omega, by omega, HN⟩
                case measure => simp [intOf]; omega
            · obtain rfl : j = 8 := by omega
              have hl6 : L.length < 65536 := by have := HLk.out; have := HI.out; omega
              have Hn := hne
              clear hne
              go_wp2_with (at_builtin; go_loud (refine wpList_appB1 rfl (.tmp 34) (.tmp 36) _ rfl w.heap.size 5 i0 Try.underlying31 hi0 hz0 hz1 hz2 _ L rfl (World.ownsRow.alloc hO.out _) wr.heap.size _ _ rfl (cell_new _ _ _ _) (by omega) (by omega) (by omega) (by simp; omega) ?_; intro A3 c3 L3 w3 hL3 ho3 hb3))
              go_roundw
              case rel =>
                have e1 : L3 = L ++ [UInt8.ofNat (val ((x.drop i).take 8))] := by rw [hL3.out, ← Hn.out]; simp
                refine ⟨k + 1, A3, c3, L3, by have := HI.out; omega, by rw [HI.out]; go_num, rfl, by rw [e1]; simp; exact HLk.out, ?_, ho3, hB.out.trans (((Below.refl _ _).alloc hz _).trans hb3)⟩
                show _ = _
                rw [e1, unpack_append, unpack_one, byteB_of (by rw [List.length_take, List.length_drop]; omega), hU.out, show 8 * (k + 1) = i + 8 by have := HI.out; omega, List.take_add]
              case measure => simp [intOf]; omega
        · have hke : 8 * k = x.length := by omega
          have hLe : L = pack (pad p) := by
            apply unpack_inj
            rw [unpack_pack _ _ (pad_len p), hU.out, hke, List.take_of_length_le (Nat.le_refl _), hxe.out]
          subst hLe
          have hkd : decide (((8 * k : Nat) : Int) < x.length) = false := by simp; omega
          clear hke hU
          generalize 8 * k = i at hkd hlt ⊢
          go_wp2_with fail
          go_ret
          exact ⟨A2, c2, rfl, hO.out, hB.out⟩
    · have h8i : ((x.length : Int) % 8 == 0) = false := by rw [beq_eq_false_iff_ne]; omega
      have h8j : ((x.length : Int) % 8 != 0) = true := by rw [bne_iff_ne]; omega
      have hadd := add_bs x [true] (by omega) (by simp)
      have hs0 : bs [true] = ⟨#[49]⟩ := rfl
      rw [hs0] at hadd
      have hx2 : Hid (x ++ [true] = p ++ List.replicate (r + 1) true) := by
        show _ = _
        rw [hx.out, List.replicate_succ']; simp
      have hx3 : Hid ((x ++ [true]).length = x.length + 1) := by show _ = _; simp
      have HXL := Lib.hid hxl
      have H8 := Lib.hid h8
      have HR := Lib.hid hr
      clear hs0 hx hxl hr h8
      generalize x ++ [true] = y at hadd hx2 hx3
      go_wp2_with fail
      go_round
      case rel => exact ⟨r + 1, y, rfl, by rw [hx3.out, HXL.out]; omega, by have := HXL.out; have := H8.out; have := HR.out; omega, hx2⟩
      case measure => simp only [strLen, bs_size, hx3.out]; have := H8.out; omega
end Go.Proofs.Ytaegdageiacdbaa
