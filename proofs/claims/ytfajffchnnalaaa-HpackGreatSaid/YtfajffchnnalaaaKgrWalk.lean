/-
  HpackGreat, by its contract: at every name and every number it answers true; below what was there nothing has turned. Conditions: those that each theorem names.
-/
import Derived.Test.YtfajffchnnalaaaKfix
import Derived.Test.YtfajffchnnalaaaKget
import Derived.Test.YtfajffchnnalaaaKsame6
namespace Go.Proofs.Ytfajffchnnalaaa
open Go.RowKit Go.WideShapes

theorem sz_mk (a b : List UInt8) (t : Bool) : sz ⟨a, b, t⟩ = a.length + b.length + 32 := rfl
theorem putA_one (M : Nat) (L : List Fd) (f : Fd) : putA M L [f] = putF L f := by simp [putA]
theorem limL_no (low M : Nat) : limL false low M = [] := rfl

attribute [local irreducible] tot shr sz txtL numL litL addL putF tabF nOf hOf putA tabA limL blockR

set_option maxRecDepth 100000 in
set_option maxHeartbeats 4000000 in
theorem great_law (s : List UInt8) (n : Nat) (hn : n < 65536) (w : World) : Calls Try.prog 8 #[tx s, .int .u16 (n : Int)] w fun e w' => e = .returned (.bool true) ∧ Below w.heap.size w w' := by
  have hsz := tx_size s
  unfold tx
  by_cases hlong : 100 < s.length
  · have hd : (100 : Int) < (s.length : Int) := by omega
    go_enter Try.func8, Try.ntmps8
    go_wp2_with fail
    refine (fixed_any _).mono ?_
    rintro e w2 ⟨rfl, hb2⟩
    have HB2 := Lib.hid hb2
    clear hb2
    go_wp2_with fail
    go_ret
    exact ⟨rfl, HB2.out⟩
  · have hd : decide ((100 : Int) < (s.length : Int)) = false := by simp; omega
    obtain ⟨N, hN⟩ : ∃ N : Nat, (4064 : Int) - s.length - 50 + (n : Int) % 100 = (N : Int) := ⟨4014 + n % 100 - s.length, by omega⟩
    have hN1 : N ≤ 4113 := by omega
    obtain ⟨i0, hi0, hz0, hz1, hz2⟩ := info_parts u8_info
    have hmk : ∀ W : World, (Instr.makeSlice 38 (.int .i64 (N : Int)) (.int .i64 (N : Int))).run Try.prog W = .ok (.slice (some ⟨W.heap.size, 0, none⟩) N N) (W.alloc (.cells (madeCells #[Value.int .u8 0] N) 5)) := fun W => by
      have := run_make (P := Try.prog) W 38 5 i0 (.int .u8 0) Try.underlying38 hi0 hz0 .i64 .i64 (N : Int) (N : Int) (by omega) (by omega) (by rw [hz2]; omega) (by omega)
      rw [this, hz1, Nat.mul_one]
      rfl
    have hVl : (List.replicate N (0 : UInt8)).length = N := by simp
    have hrd : RdB (w.alloc (.cells (madeCells #[Value.int .u8 0] N) 5)) (w.heap.size + 1) (some ⟨w.heap.size, 0, none⟩) (List.replicate N (0 : UInt8)) := fun _ => ⟨w.heap.size, 0, rfl, by omega, fun j hj => by
      rw [hVl] at hj
      rw [World.cell?_alloc_at _ _ _ _ (by simp)]
      simp [madeCells, hj, Nat.mod_one]⟩
    have htx : (convert 38 9 (.slice (some ⟨w.heap.size, 0, none⟩) N N)).run Try.prog (w.alloc (.cells (madeCells #[Value.int .u8 0] N) 5)) = .ok (.string ⟨(List.replicate N (0 : UInt8)).toArray⟩) (w.alloc (.cells (madeCells #[Value.int .u8 0] N) 5)) := by
      have := run_text (P := Try.prog) (c := N) Try.underlying38 Try.underlying5 Try.underlying9 hrd
      rw [hVl] at this
      exact this
    have HB1 := Lib.hid ((Below.refl w.heap.size w).alloc (Nat.le_refl _) (.cells (madeCells #[Value.int .u8 0] N) 5))
    generalize hV : List.replicate N (0 : UInt8) = V at *
    clear hrd hV
    generalize madeCells #[Value.int .u8 0] N = MC at *
    go_enter Try.func8, Try.ntmps8
    go_wp2_with fail
    obtain ⟨F, hF⟩ : ∃ F : Fd, F = ⟨s, V, true⟩ := ⟨_, rfl⟩
    have hFs : sz F = s.length + N + 32 := by rw [hF, sz_mk, hVl]
    have HFe : Hid (F.nm = s ∧ F.vl = V ∧ F.nv = true) := by show _ ∧ _ ∧ _; rw [hF]; exact ⟨rfl, rfl, rfl⟩
    have hFb : sz F ≤ 5000 := by omega
    clear hF hFs
    have HB2 := Lib.hid (HB1.out.alloc (by simp) (.cells #[.string ⟨s.toArray⟩, .string ⟨V.toArray⟩, .bool true] 52))
    have HR2 : Hid (Row ((w.alloc (.cells MC 5)).alloc (.cells #[.string ⟨s.toArray⟩, .string ⟨V.toArray⟩, .bool true] 52)) (w.heap.size + 1) 52 #[.string ⟨s.toArray⟩, .string ⟨V.toArray⟩, .bool true]) := Row.made _ _ _ (by simp)
    have hs2 : w.heap.size + 1 < ((w.alloc (.cells MC 5)).alloc (.cells #[.string ⟨s.toArray⟩, .string ⟨V.toArray⟩, .bool true] 52)).heap.size := by simp
    generalize (w.alloc (.cells MC 5)).alloc (.cells #[.string ⟨s.toArray⟩, .string ⟨V.toArray⟩, .bool true] 52) = w2 at *
    have HRd2 : Hid (RdS w2 (fun k => k = w.heap.size + 1) (some ⟨w.heap.size + 1, 0, none⟩) (enl fdc [F])) := fun _ => ⟨w.heap.size + 1, 0, rfl, rfl, fun j u hj => by
      rw [Nat.zero_add]
      refine HR2.out.cell ?_
      rw [enl_one] at hj
      unfold fdc tx at hj
      rw [HFe.out.1, HFe.out.2.1, HFe.out.2.2] at hj
      simpa using hj⟩
    have hnewD := newD_any 4096 (by omega) w2 w.heap.size HB2.out.size
    rw [show min 4096 4096 = 4096 from rfl] at hnewD
    clear htx hmk HB1
    refine hnewD.mono ?_
    rintro e w3 ⟨gd, g2, rfl, hD, hd1, hd2, hB3⟩
    have HD3 := Lib.hid hD
    have HB3 := Lib.hid (HB2.out.trans (hB3.mono HB2.out.size))
    have HRd3 := Lib.hid (HRd2.out.keep fun k hk => hB3.block k (by omega))
    have HR3 := Lib.hid (HR2.out.below hB3 hs2)
    have hs3 : w2.heap.size ≤ w3.heap.size := hB3.size
    have hnewE := newE_any 4096 (by omega) w3 w.heap.size HB3.out.size
    rw [show min 4096 4096 = 4096 from rfl] at hnewE
    clear hD hB3 hnewD HB2 HRd2 HR2
    unfold pt at *
    go_wp2_with fail
    refine hnewE.mono ?_
    rintro e w4 ⟨ge, g1, rfl, hE, he1, he2, hB4⟩
    have HE4 := Lib.hid hE
    have HD4 := Lib.hid (HD3.out.below hB4)
    have HB4 := Lib.hid (HB3.out.trans (hB4.mono HB3.out.size))
    have HRd4 := Lib.hid (HRd3.out.keep fun k hk => hB4.block k (by omega))
    have HR4 := Lib.hid (HR3.out.below hB4 (by omega))
    have hs4 : w3.heap.size ≤ w4.heap.size := hB4.size
    have HDB : Hid (∀ k, EB gd g2 (.slice none 0 0) k → w2.heap.size ≤ k ∧ k < w3.heap.size) := fun k hk => ⟨by
      rcases hk with e | e | e
      · omega
      · omega
      · simp [ob, Value.ownBlock] at e, (HD3.out.eb hk).2⟩
    have hput := put_any (c := 1) HE4.out (by omega) (by rw [tot_nil0]; omega) (by omega) HRd4.out (fun k hk => ⟨by omega, by omega, by omega, by simp [ob, Value.ownBlock]⟩) (by
      intro f hf
      rw [List.mem_singleton] at hf
      subst hf
      rw [HFe.out.1, HFe.out.2.1]
      omega) (by simp)
    have hbk := blk_put (cap := 4096) (M := 4096) (by omega) [F] [] [] (by rw [tot_nil0]; omega) (by simp) (by
      intro f hf
      rw [List.mem_singleton] at hf
      subst hf
      rw [HFe.out.1, HFe.out.2.1]
      omega)
    have hll := limL_no 0 4096
    rw [hll, List.nil_append] at hput
    unfold blk at hbk
    have hbl : (putA 4096 [] [F]).length ≤ 9010 := by
      have h1 := putF_len3 (L := []) (f := F) (by simp) (by rw [HFe.out.1]; omega) (by rw [HFe.out.2.1]; omega)
      rw [putA_one]
      rw [HFe.out.1, HFe.out.2.1] at h1
      omega
    generalize putA 4096 [] [F] = X at *
    generalize tabA 4096 [] [F] = L2 at *
    clear hE hB4 hnewE HD3 HB3 HRd3 HR3 hll
    unfold pt at *
    go_wp2_with fail
    refine hput.mono ?_
    rintro e w5 ⟨bv, vr, rfl, hP⟩
    obtain ⟨A, c, rfl, hcl⟩ := hP.bo.shape
    have hFp : Fs (EB ge g1 (.slice none 0 0)) w4 w5 := hP.fs
    have hap : Dis (EB gd g2 (.slice none 0 0)) (EB ge g1 (.slice none 0 0)) := fun k h1 h2 => by
      have := (HDB.out k h1).2
      rcases h2 with e | e | e
      · omega
      · omega
      · simp [ob, Value.ownBlock] at e
    have HD5 := Lib.hid (HD4.out.dis hFp hap)
    have HB5 : Hid (Below w.heap.size w w5) := HB4.out.trans (hFp.below (fun k hk _ => (HE4.out.eb hk).1) HB4.out.size)
    have HR5 := Lib.hid (hFp.row (b := w.heap.size + 1) (fun e => by
      rcases e with e | e | e
      · omega
      · omega
      · simp [ob, Value.ownBlock] at e) HR4.out)
    have hs5 : w4.heap.size ≤ w5.heap.size := hFp.size
    have hget := get6_any (c := c) HD5.out (by omega) (by omega) (by rw [tot_nil0]; omega) HB5.out.size hP.bo.low hcl (fun k hk => ⟨hk.2, fun e => by have := (HDB.out k e).2; omega⟩) (by omega)
    rw [hbk] at hget
    unfold pt at hget
    clear hP hFp hap hput HE4 HD4 HB4 HRd4 HR4
    go_wp2_with fail
    refine hget.mono ?_
    intro e w6 he
    obtain ⟨hF6, v6, hD6, hN6, _, _, hres⟩ := he
    have hB6 : Below w.heap.size w w6 := HB5.out.trans (hF6.below (fun k hk _ => (HD5.out.eb hk).1) HB5.out.size)
    have hR6 := hF6.row (b := w.heap.size + 1) (fun e => by have := (HDB.out _ e).1; omega) HR5.out
    have htot : tot [F] = sz F := by rw [← List.nil_append [F], tot_snoc, tot_nil0]; omega
    have hrs := fun (W : World) => rsize_any F (by omega) W
    unfold fv tx at hrs
    rw [HFe.out.1, HFe.out.2.1, HFe.out.2.2] at hrs
    have HRFs : Hid (RdS w6 (· < w6.heap.size) (some ⟨w.heap.size + 1, 0, none⟩) (enl fdc [F])) := fun _ => ⟨w.heap.size + 1, 0, rfl, by have := hF6.size; omega, fun j u hj => by
      rw [Nat.zero_add]
      refine hR6.cell ?_
      rw [enl_one] at hj
      unfold fdc tx at hj
      rw [HFe.out.1, HFe.out.2.1, HFe.out.2.2] at hj
      simpa using hj⟩
    have HR6 := Lib.hid hR6
    have HB6 := Lib.hid hB6
    have hs6 : w.heap.size + 1 < w6.heap.size := by have := hF6.size; omega
    simp only [List.nil_append] at hres
    clear hget hN6 hD6 hF6 hR6 hB6 HD5 HB5 HR5
    rcases hres with ⟨hgt, rfl⟩ | ⟨hle, A7, c7, rfl, hO7, _⟩
    · have hg1 : (4096 : Int) < (sz F : Int) := by omega
      have HB7 := Lib.hid (HB6.out.alloc HB6.out.size (.cells #[.int .u8 1, .int .u32 11] 41))
      have HT7 := Lib.hid (Row.new w6 41 #[.int .u8 1, .int .u32 11])
      have hR7 := HR6.out.below ((Below.refl w6.heap.size w6).alloc (Nat.le_refl _) (.cells #[.int .u8 1, .int .u32 11] 41)) hs6
      have c0 := hR7.cell (j := 0) rfl
      have c1 := hR7.cell (j := 1) rfl
      have c2 := hR7.cell (j := 2) rfl
      clear hR7 hgt
      go_wp2_with fail
      refine (hrs _).mono ?_
      rintro e w8 ⟨rfl, hb8⟩
      have HB8 := Lib.hid (HB7.out.trans (hb8.mono HB7.out.size))
      have HT8 := Lib.hid (HT7.out.below hb8 HT7.out.lt)
      clear hb8 hrs
      go_wp2_with fail
      refine (fixed_any _).mono ?_
      rintro e w9 ⟨rfl, hb9⟩
      have HB9 := Lib.hid (HB8.out.trans (hb9.mono HB8.out.size))
      have hT9 := HT8.out.below hb9 HT8.out.lt
      have t0 := hT9.cell (j := 0) rfl
      have t1 := hT9.cell (j := 1) rfl
      clear hb9 hT9 c0 c1 c2
      go_wp2_with fail
      go_ret
      exact ⟨rfl, HB9.out⟩
    · have hg1 : decide ((4096 : Int) < (sz F : Int)) = false := by simp; omega
      have HB7 := Lib.hid (HB6.out.alloc HB6.out.size (.cells #[.int .u8 0, .int .u32 0] 41))
      have HT7 := Lib.hid (Row.new w6 41 #[.int .u8 0, .int .u32 0])
      have hb7 := (Below.refl w6.heap.size w6).alloc (Nat.le_refl _) (.cells #[.int .u8 0, .int .u32 0] 41)
      have hR7 := HR6.out.below hb7 hs6
      have HO7 : Hid (RdS (w6.alloc (.cells #[.int .u8 0, .int .u32 0] 41)) (· < (w6.alloc (.cells #[.int .u8 0, .int .u32 0] 41)).heap.size) A7 (enl fdc [F])) := (OwS.up (OwS.below hO7 hb7)).imp fun g hg _ => hg.2
      have HRF7 := Lib.hid (HRFs.out.up hb7)
      have c0 := hR7.cell (j := 0) rfl
      have c1 := hR7.cell (j := 1) rfl
      have c2 := hR7.cell (j := 2) rfl
      clear hR7 hle hO7 hb7
      go_wp2_with fail
      refine (hrs _).mono ?_
      rintro e w8 ⟨rfl, hb8⟩
      have HB8 := Lib.hid (HB7.out.trans (hb8.mono HB7.out.size))
      have HT8 := Lib.hid (HT7.out.below hb8 HT7.out.lt)
      have HO8 := Lib.hid (HO7.out.up hb8)
      have HRF8 := Lib.hid (HRF7.out.up hb8)
      clear hb8 hrs
      go_wp2_with fail
      refine (fixed_any _).mono ?_
      rintro e w9 ⟨rfl, hb9⟩
      have HB9 := Lib.hid (HB8.out.trans (hb9.mono HB8.out.size))
      have hT9 := HT8.out.below hb9 HT8.out.lt
      have t0 := hT9.cell (j := 0) rfl
      have t1 := hT9.cell (j := 1) rfl
      have hsm := same6_any (c := c7) (d := 1) (HO8.out.up hb9) (HRF8.out.up hb9) (by simp)
      have hsm' : Calls Try.prog 18 #[.slice A7 1 c7, .slice (some ⟨w.heap.size + 1, 0, none⟩) 1 1] w9 fun e w' => e = .returned (.bool true) ∧ ∃ n, w' = w9.drewN n := hsm
      clear hb9 hT9 c0 c1 c2 hsm
      go_wp2_with fail
      refine hsm'.mono ?_
      rintro e w10 ⟨rfl, nd, rfl⟩
      go_wp2_with fail
      go_ret
      exact ⟨rfl, below_dN HB9.out nd⟩
theorem great_law' (s : ByteArray) (a : Int) (b : 0 ≤ a ∧ a < 65536) (w : World) : Calls Try.prog 8 #[.string s, .int .u16 a] w fun e w' => e = .returned (.bool true) ∧ Below w.heap.size w w' := by
  obtain ⟨n, rfl⟩ := Int.eq_ofNat_of_zero_le b.1
  have := great_law s.data.toList n (by omega) w
  unfold tx at this
  simpa using this
end Go.Proofs.Ytfajffchnnalaaa
