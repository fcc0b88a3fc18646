/-
  The program's Encode, by its contract. Conditions: at most 9000 bytes.
-/
import Derived.Test.YtfajffchnnalaaaHsmall
import Derived.Test.YtfajffchnnalaaaHbits
import Derived.Deep.RegionHeld3
namespace Go.Proofs.Ytfajffchnnalaaa
open Go.RowKit Go.WideShapes

theorem u8_info : (Try.prog.info? 5).map (fun i => (i.zero, i.size, i.bytes)) = some (some (.int .u8 0), 1, 1) := by kernel_rfl
theorem info_parts {t : TypeId} {z : Value} {n m : Nat} (h : (Try.prog.info? t).map (fun i => (i.zero, i.size, i.bytes)) = some (some z, n, m)) :
    ∃ i, Try.prog.info? t = some i ∧ i.zero = some z ∧ i.size = n ∧ i.bytes = m := by
  cases hi : Try.prog.info? t with
  | none => rw [hi] at h; simp at h
  | some i => rw [hi] at h; simp at h; exact ⟨i, rfl, h.1, h.2.1, h.2.2⟩

/-- What a call leaves that makes a slice of these bytes: the slice is its own, below what was there nothing has turned. -/
def Made (w : World) (l : List UInt8) (e : Ending) (w' : World) : Prop :=
  ∃ A c, e = .returned (.slice A l.length c) ∧ OwB w' w.heap.size 5 (.slice A l.length c) l ∧ Below w.heap.size w w'

theorem make_room (i0 : TypeInfo) (hi0 : Try.prog.info? 5 = some i0) (hz0 : i0.zero = some (.int .u8 0)) (hz1 : i0.size = 1) (hz2 : i0.bytes = 1) (n : Nat) (hn : n ≤ 40000) (W : World) :
    (Instr.makeSlice 38 (.int .i64 0) (.int .i64 (n : Int))).run Try.prog W = .ok (.slice (some ⟨W.heap.size, 0, none⟩) 0 n) (W.alloc (.cells (madeCells #[Value.int .u8 0] n) 5)) := by
  have := run_make (P := Try.prog) W 38 5 i0 (.int .u8 0) Try.underlying38 hi0 hz0 .i64 .i64 0 (n : Int) (by omega) (by omega) (by rw [hz2]; omega) (by omega)
  rw [this, hz1, Nat.mul_one]
  rfl
theorem own_room (w : World) (B n : Nat) (hn : n ≤ 40000) (hB : B ≤ w.heap.size) : OwB (w.alloc (.cells (madeCells #[Value.int .u8 0] n) 5)) B 5 (.slice (some ⟨w.heap.size, 0, none⟩) 0 n) [] :=
  OwB.fresh w 5 _ _ (by rw [size_madeCells]) (by simp only [maxLen]; omega) hB
theorem cell_new (w : World) (n : Int) (t : TypeId) (cs : Array Value) (h : cs[0]? = some (.int .u8 n) := by rfl) : (w.alloc (.cells cs t)).cell? ⟨w.heap.size, 0, none⟩ = some (.int .u8 n) := by
  rw [World.cell?_alloc_at _ _ _ _ (by simp)]; exact h

set_option maxRecDepth 100000 in
set_option maxHeartbeats 4000000 in
theorem enc_any (s : ByteArray) (hs : s.size ≤ 9000) (w : World) : Calls Try.prog 72 #[.string s] w (Made w (encL s.data.toList)) := by
  obtain ⟨hzc, _⟩ := zero_of_info codes_info
  have HSC : Hid ((Try.prog.info? 128).map (·.size) = some (codC 257).size) := by show _ = _; rw [codC_size]; exact (zero_of_info codes_info).2
  obtain ⟨i0, hi0, hz0, hz1, hz2⟩ := info_parts u8_info
  have hsz := hsize_any s (by omega)
  have hle : (bitsN s.data.toList + 7) / 8 ≤ 40000 := by
    have := (bitsN_bd s.data.toList).2
    have h2 : s.data.toList.length = s.size := by simp
    omega
  generalize hNe : (bitsN s.data.toList + 7) / 8 = N at hsz hle
  have HN := Lib.hid hNe
  clear hNe
  have hmk := make_room i0 hi0 hz0 hz1 hz2 N hle
  go_enter Try.func72, Try.ntmps72
  go_wp2_with fail
  refine (codes_any _).mono ?_
  rintro e w1 ⟨rfl, hb1⟩
  have HB1 := Lib.hid hb1
  clear hb1
  go_wp2_with (first
    | (refine wpList_store_row rfl 128 (.tmp 3) (.tmp 10) rfl w1.heap.size (codC 257) rfl rfl 128 (codC 0) (heap_alloc_last w1 _) HSC.out (by rw [codC_size, codC_size]) (codC_one _) ?_; rw [World.setRow_alloc_new]))
  refine (hsz _).mono ?_
  rintro e w2 ⟨rfl, hb2⟩
  have hs1 := HB1.out.size
  have hs2 : w1.heap.size + 1 ≤ w2.heap.size := by have := hb2.size; simp at this; omega
  have RC : Row w2 w1.heap.size 128 (codC 257) := (Row.new w1 128 (codC 257)).below hb2 (by simp)
  have HB2 := Lib.hid ((HB1.out.alloc hs1 (.cells (codC 257) 128)).trans (hb2.mono (by simp; omega)))
  have HRC := Lib.hid RC
  clear hb2 RC HB1
  go_wp2_with fail
  have HO := Lib.hid (own_room w2 (w1.heap.size + 1) N hle (by omega))
  have HB3 := Lib.hid (HB2.out.alloc (by omega) (.cells (madeCells #[Value.int .u8 0] N) 5))
  have HRC3 := Lib.hid (HRC.out.alloc (.cells (madeCells #[Value.int .u8 0] N) 5))
  go_loopw [4, 5, 6, 16] (fun v h n i wr => ∃ (k h' n' : Nat) (A' : Option Addr) (c' : Nat) (L : List UInt8) (p : List Bool), k ≤ s.size ∧ i = .int .i64 k ∧ v = .slice A' L.length c' ∧ h = .int .u64 h' ∧ h' < 18446744073709551616 ∧ n = .int .i64 n' ∧ n' < 8 ∧ p.length = n' ∧ Hid (h' % 2 ^ n' = val p) ∧ Hid (unpack L ++ p = encB (s.data.toList.take k)) ∧ Hid (OwB wr (w1.heap.size + 1) 5 (.slice A' L.length c') L) ∧ Hid (Below w.heap.size w wr) ∧ Hid (Row wr w1.heap.size 128 (codC 257)) ∧ w1.heap.size < wr.heap.size)
    (fun _ _ _ i _ => s.size - (intOf i).toNat)
  case atStart => exact ⟨0, 0, 0, _, _, [], [], Nat.zero_le _, rfl, rfl, rfl, by omega, rfl, by omega, rfl, by show _ = _; rfl, by show _ = _; rfl, HO, HB3, HRC3, by simp; omega⟩
  case round =>
    obtain ⟨k, h', n', A', c', L, p, hk, rfl, rfl, rfl, hh, rfl, hn8, hp, hv, hE, hO, hB, hR, hz⟩ := hrel
    have Hp := Lib.hid hp
    clear hp
    by_cases hlt : k < s.size
    · have h256 := s[k].toNat_lt
      have hln := ln_all s[k].toNat (by omega)
      have hcda := cd_all s[k].toNat (by omega)
      have hc0 := hR.out.cell (codC_at0 (k := 257) (j := s[k].toNat) (by omega) (by omega))
      have hc1 := hR.out.cell (codC_at1 (k := 257) (j := s[k].toNat) (by omega) (by omega))
      have hcv := codeB_val (i := s[k].toNat) (by omega)
      have hcl := codeB_len s[k].toNat
      have hnx : Hid (encB (s.data.toList.take (k + 1)) = encB (s.data.toList.take k) ++ codeB s[k].toNat) := by
        show _ = _
        rw [List.take_add_one, encB_append, List.getElem?_eq_getElem (by simpa using hlt)]
        simp [encB]
        rfl
      generalize cd s[k].toNat = x at hcda hc0 hcv
      generalize ln s[k].toNat = nb at hln hcda hc1 hcl
      generalize codeB s[k].toNat = q at hcv hcl hnx
      have Hcv := Lib.hid hcv
      have Hcl := Lib.hid hcl
      have Hcda := Lib.hid hcda
      have hx : x < 1073741824 := Nat.lt_of_lt_of_le hcda (Nat.le_trans (Nat.pow_le_pow_right (by omega) hln.2) (by decide))
      obtain ⟨hl5, hl30⟩ := hln
      obtain ⟨H, hH, hor, hHv⟩ := held_more hh hl30 hcda hn8 hv.out
      have HHv : Hid (H % 2 ^ (n' + nb) = val (p ++ q)) := by
        show _ = _
        rw [hHv, val_append, Hcv.out, Hcl.out]
      have HE2 : Hid (unpack L ++ (p ++ q) = encB (s.data.toList.take (k + 1))) := by
        show _ = _
        rw [hnx.out, ← hE.out, List.append_assoc]
      have hpq : Hid ((p ++ q).length = n' + nb) := by show _ = _; rw [List.length_append, Hcl.out, Hp.out]
      clear hcv hcl hcda hHv hE hv hnx
      generalize p ++ q = pq at HHv HE2 hpq
      go_wp2_with fail
      go_quiet (fail)
      go_wp2_with fail
      have HO := Lib.hid (World.ownsRow.alloc hO.out (.cells #[.int .u32 (x : Int), .int .i64 (nb : Int)] 127))
      have HB3 := Lib.hid (below_dN (hB.out.alloc (by omega) (.cells #[.int .u32 (x : Int), .int .i64 (nb : Int)] 127)) nq)
      have HRC3 := Lib.hid (hR.out.alloc (.cells #[.int .u32 (x : Int), .int .i64 (nb : Int)] 127))
      go_loopw [4, 6] (fun v n wr => ∃ (n2 : Nat) (A2 : Option Addr) (c2 : Nat) (L2 : List UInt8) (p2 : List Bool), v = .slice A2 L2.length c2 ∧ n = .int .i64 n2 ∧ n2 ≤ 37 ∧ Hid (p2.length = n2) ∧ Hid (H % 2 ^ n2 = val p2) ∧ Hid (unpack L2 ++ p2 = encB (s.data.toList.take (k + 1))) ∧ Hid (OwB wr (w1.heap.size + 1) 5 (.slice A2 L2.length c2) L2) ∧ Hid (Below w.heap.size w wr) ∧ Hid (Row wr w1.heap.size 128 (codC 257)) ∧ w1.heap.size < wr.heap.size)
        (fun _ n _ => (intOf n).toNat)
      case atStart => exact ⟨n' + nb, A', c', L, pq, rfl, by go_num, by omega, hpq, HHv, HE2, HO, HB3, HRC3, by simp; omega⟩
      case round =>
        obtain ⟨n2, A2, c2, L2, p2, rfl, rfl, hn37, hp2, hv2, hE2, hO2, hB2, hR2, hzw⟩ := hrel
        by_cases h8 : 8 ≤ n2
        · obtain ⟨m, rfl⟩ : ∃ m, n2 = m + 8 := ⟨n2 - 8, by omega⟩
          obtain ⟨ho1, ho2⟩ := held_out hp2.out hv2.out
          have hy0 : val (p2.take 8) < 256 := by omega
          have hyi : (H : Int) / 2 ^ m % 256 = ((val (p2.take 8) : Nat) : Int) := by rw [← ho1]; simp
          obtain ⟨y, hye⟩ : ∃ y, y = val (p2.take 8) := ⟨_, rfl⟩
          rw [← hye] at hyi hy0
          have h8d : decide ((8 : Int) ≤ (m : Int) + 8) = true := by simp; omega
          have hl2 := bits_len hE2.out (by simp; omega)
          have Ho2 := Lib.hid ho2
          have Hye := Lib.hid hye
          clear ho1 ho2 hye
          go_wp2_with (at_builtin; go_loud (refine wpList_appB1 rfl (.tmp 40) (.tmp 45) _ rfl (w1.heap.size + 1) 5 i0 Try.underlying38 hi0 hz0 hz1 hz2 _ L2 rfl (World.ownsRow.alloc hO2.out _) wr.heap.size _ _ rfl (cell_new _ _ _ _) (by omega) (by omega) (by omega) (by simp; omega) ?_; intro A3 c3 L3 w3 hL3 ho3 hb3))
          have hsw : wr.heap.size + 1 ≤ w3.heap.size := by have := hb3.size; simp at this; omega
          go_roundw
          case rel =>
            refine ⟨m, A3, c3, L3, p2.drop 8, rfl, by go_num, by omega, ?_, Ho2.out, ?_, ho3, ?_, ?_, by omega⟩
            · show _ = _
              rw [List.length_drop, hp2.out]; omega
            · show _ = _
              have e1 : L3 = L2 ++ [UInt8.ofNat (val (p2.take 8))] := by rw [hL3.out, ← Hye.out]; simp
              rw [e1, unpack_append, unpack_one, byteB_of (by rw [List.length_take, hp2.out]; omega), List.append_assoc, List.take_append_drop]
              exact hE2.out
            · exact hB2.out.trans (((Below.refl _ _).alloc (by omega) _).trans (hb3.mono (by omega)))
            · exact (hR2.out.alloc _).below hb3 (by omega)
          case measure => simp [intOf]; omega
        · have h8d : decide ((8 : Int) ≤ (n2 : Int)) = false := by simp; omega
          go_wp2_with fail
          go_roundw
          case rel => exact ⟨k + 1, H, n2, A2, c2, L2, p2, by omega, by go_num, rfl, rfl, hH, rfl, by omega, hp2.out, hv2, hE2, hO2, hB2, hR2, hzw⟩
          case measure => simp [intOf]; omega
    · obtain rfl : k = s.size := by omega
      have hE' : Hid (unpack L ++ p = encB s.data.toList) := by
        have := hE.out
        rw [List.take_of_length_le (by simp)] at this
        exact this
      have hl := bits_len hE'.out (by simp; omega)
      clear hE
      by_cases h0 : n' = 0
      · subst h0
        go_wp2_with fail
        go_ret
        have e : L = encL s.data.toList := by
          apply encL_of
          have hp0 : p = [] := List.eq_nil_of_length_eq_zero Hp.out
          have h1 := hE'.out
          rw [hp0, List.append_nil] at h1
          rw [h1]
          unfold pad
          rw [← h1, unpack_len]
          simp
        subst e
        exact ⟨A', c', rfl, hO.out.mono (by omega), hB.out⟩
      · have h0d : decide ((0 : Int) < (n' : Int)) = true := by simp; omega
        obtain ⟨r, hr⟩ : ∃ r : Nat, n' + r = 8 := ⟨8 - n', by omega⟩
        have hri : (8 : Int) - n' = (r : Int) := by omega
        have hl8 := held_last Hp.out hr hv.out
        have hone := ones_any3 r (by omega)
        have hyl := val_lt (p ++ List.replicate r true)
        rw [List.length_append, List.length_replicate, Hp.out, hr] at hyl
        obtain ⟨y, hye⟩ : ∃ y, y = val (p ++ List.replicate r true) := ⟨_, rfl⟩
        rw [← hye] at hl8 hyl
        have hye' := Lib.hid hye
        clear hye
        obtain ⟨o, hoe⟩ : ∃ o, o = 2 ^ r - 1 := ⟨_, rfl⟩
        rw [← hoe] at hl8 hone
        have hob : o < 256 := by
          have : 2 ^ r ≤ 2 ^ 8 := Nat.pow_le_pow_right (by omega) (by omega)
          omega
        clear hoe
        go_wp2_with fail
        have hOd : OwB wr.drew (w1.heap.size + 1) 5 (.slice A' L.length c') L := hO.out
        have hBd : Below w.heap.size w wr.drew := hB.out.drew
        have hzd : w1.heap.size < wr.drew.heap.size := hz
        have HOd := Lib.hid hOd
        have HBd := Lib.hid hBd
        clear hOd hBd
        go_region_held3 (fun _ => True) (exact trivial) ((first
          | (go_at_call 80; refine (hone _).mono ?_; rintro e w' ⟨rfl, rfl⟩)
          | (refine step_appB1 rfl (.tmp 52) (.tmp 61) _ rfl (w1.heap.size + 1) 5 i0 Try.underlying38 hi0 hz0 hz1 hz2 _ L rfl (World.ownsRow.alloc HOd.out _) wr.heap.size _ _ rfl (cell_new _ _ _ _) (by omega) (by omega) (by omega) (by simp; omega) ?_; intro A3 c3 L3 w3 hL3 ho3 hb3)))
        go_wp2_with fail
        go_ret
        have e : L3 = encL s.data.toList := by
          apply encL_of
          have e1 : L3 = L ++ [UInt8.ofNat (val (p ++ List.replicate r true))] := by rw [hL3.out, ← hye'.out]; simp
          have h1 := hE'.out
          have h2 := congrArg List.length h1
          rw [List.length_append, unpack_len, Hp.out] at h2
          rw [e1, unpack_append, unpack_one, byteB_of (by rw [List.length_append, List.length_replicate, Hp.out, hr]), ← List.append_assoc, h1]
          unfold pad
          rw [show (8 - (encB s.data.toList).length % 8) % 8 = r by omega]
        subst e
        exact ⟨A3, c3, rfl, ho3.mono (by omega), HBd.out.trans (((Below.refl _ _).alloc (by omega) _).trans (hb3.mono (by omega)))⟩
end Go.Proofs.Ytfajffchnnalaaa
