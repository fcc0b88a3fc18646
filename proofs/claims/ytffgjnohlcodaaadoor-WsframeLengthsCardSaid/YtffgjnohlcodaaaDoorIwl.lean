/-
  WsframeLengths: the law's walk. Conditions: errors.errorType holds what the program's text lays.
-/
import Derived.Test.YtffgjnohlcodaaaDoorIba
import Derived.Test.YtffgjnohlcodaaaDoorIeq
import Derived.Test.YtffgjnohlcodaaaDoorIfx
import Derived.Lib.MinMax
import Derived.Orders
namespace Go.Proofs.YtffgjnohlcodaaaDoor
open Go.RowKit Go.WideShapes

theorem frontI_eq {k : Nat} (h : k ≤ 4096) (m : Bool) : frontI m k = (if 126 ≤ k then 4 else 2) + if m = true then 4 else 0 := by
  unfold frontI four4
  rcases formN_small h with ⟨h1, h2⟩ | ⟨h1, h2⟩
  · rw [h2, if_neg (show ¬ 126 ≤ k by omega)]
    have : behindN k = 0 := by unfold behindN; rw [if_neg (by omega), if_neg (by omega)]
    omega
  · rw [h2, if_pos h1]
    rfl
set_option maxRecDepth 100000 in
set_option maxHeartbeats 4000000 in
theorem wlens_law {n op : Nat} (hn : n < 65536) (ho : op < 256) {m : Bool} {w : World} (hG : GlobE w) :
    Calls Tryd.prog 7 #[.int .u16 n, .bool m, .int .u8 op] w fun e w' => e = .returned (.bool true) ∧ Below w.heap.size w w' := by
  have HG := Lib.hid hG
  obtain ⟨k, hk⟩ : ∃ k, k = n % 4097 := ⟨_, rfl⟩
  have hk4 : k ≤ 4096 := by omega
  have hki : (n : Int) % 4097 = (k : Int) := by omega
  obtain ⟨o, hoo⟩ : ∃ o, o = 1 + op % 2 := ⟨_, rfl⟩
  have hoi : IntKind.u8.wrap (1 + (op : Int) % 2) = (o : Int) := by rw [IntKind.wrap_u8]; omega
  have hmay : (Pc.mk true o m 0 (List.replicate k 0)).May := by
    show MayI true o m 0 (List.replicate k (0 : UInt8)).length
    rw [List.length_replicate]
    exact ⟨by unfold okOp; omega, .inr rfl, hk4, .inl (by omega)⟩
  have ho2 : o < 256 := by omega
  clear hk hoo hG
  have hmk := makeI k (by omega)
  have hO0 : OwB (w.alloc (.cells (byc (List.replicate k 0)).toArray 5)) w.heap.size 5 (.slice (some ⟨w.heap.size, 0, none⟩) k k) (List.replicate k 0) := OwB.lit w 5 _ _ (by simp) (by simp [maxLen]; omega) (Nat.le_refl _)
  have HB0 : Hid (Below w.heap.size w (w.alloc (.cells (byc (List.replicate k 0)).toArray 5))) := (Below.refl _ _).alloc (Nat.le_refl _) _
  have hl0 : (List.replicate k (0 : UInt8)).length = k := List.length_replicate
  have HR0 := Lib.hid (RdB.ownI (l := List.replicate k 0) (A := some ⟨w.heap.size, 0, none⟩) (c := k) (by rw [hl0]; exact hO0))
  obtain ⟨Z, hZ⟩ : ∃ Z, Z = List.replicate k (0 : UInt8) := ⟨_, rfl⟩
  simp only [← hZ] at hmay hl0 HR0 hmk HB0
  clear hZ
  have HL0 := Lib.hid hl0
  clear hO0 hl0
  go_enter Tryd.func7, Tryd.ntmps7
  go_upto_region 2 with fail
  rw [hki]
  obtain ⟨w1, hw1⟩ : ∃ w1, w1 = w.alloc (.cells (byc Z).toArray 5) := ⟨_, rfl⟩
  rw [← hw1] at HR0 HB0
  go_upto_region 3 with fail
  rw [← hw1]
  have hpe : (#[.bool true, .int .u8 (o : Int), .bool m, .int .u32 0, .slice (some ⟨w.heap.size, 0, none⟩) k k] : Array Value) = pcC true o m 0 (some ⟨w.heap.size, 0, none⟩) k k := rfl
  have hps : w.heap.size + 1 = w1.heap.size := by rw [hw1]; simp
  rw [hpe, hps]
  obtain ⟨w2, e2⟩ : ∃ w2, w2 = w1.alloc (.cells (pcC true o m 0 (some ⟨w.heap.size, 0, none⟩) k k) 25) := ⟨_, rfl⟩
  have r2 : Row w2 w1.heap.size 25 (pcC true o m 0 (some ⟨w.heap.size, 0, none⟩) k k) := by rw [e2]; exact Row.new _ _ _
  have hb2 : Below w1.heap.size w1 w2 := by rw [e2]; exact (Below.refl _ _).alloc (Nat.le_refl _) _
  rw [← e2]
  have HR2 := Lib.hid (HR0.out.below hb2)
  have HB2 := Lib.hid (HB0.out.trans (hb2.mono HB0.out.size))
  have HP2 := Lib.hid r2
  have hput := iput_any (Pc.mk true o m 0 Z) ho2 (show (0 : Nat) < 4294967296 by omega) (c := k) HR2.out hb2.size (by show Z.length ≤ _; rw [HL0.out]; omega)
  rw [show (Pc.mk true o m 0 Z).putL = (Pc.mk true o m 0 Z).put from if_pos hmay] at hput
  simp only at hput
  rw [HL0.out] at hput
  have HH1 := Lib.hid (hdI_put hmay)
  have HH2 := Lib.hid (hdI_first hmay m)
  have HLN := Lib.hid (put_length (p := Pc.mk true o m 0 Z) (by show Z.length ≤ _; rw [HL0.out]; omega))
  have HG2 := Lib.hid ((HG.out.below HB0.out).below hb2)
  simp only at HH1 HLN
  rw [HL0.out] at HH1 HLN
  generalize (Pc.mk true o m 0 Z).put = L at *
  clear e2 r2 hb2 hmk hoi HR0 HB0 hmay HG hw1 hpe hps
  go_upto_region 4 with (refine wpList_ld rfl _ rfl rfl HP2.out (pc_ok _ _ _ _ _ _ _) ?_)
  refine hput.mono ?_
  rintro e w3 ⟨A3, c3, rfl, hO3, hb3⟩
  have hlc : L.length ≤ c3 := by
    obtain ⟨A', c2, e1, h2, _⟩ := hO3.shape
    injection e1 with _ _ e3
    rw [e3]; exact h2
  have HR3 := Lib.hid (RdB.ownI hO3)
  have HB3 := Lib.hid (HB2.out.trans (hb3.mono HB2.out.size))
  have HG3 := Lib.hid (HG2.out.below hb3)
  have hfe := frontI_eq hk4 m
  have hfs : frontI m k ≤ 8 := by rw [hfe]; split <;> split <;> omega
  have hf2 : 2 ≤ frontI m k := by rw [hfe]; split <;> omega
  generalize frontI m k = f at *
  obtain ⟨N, hN⟩ : ∃ N, N = L.length := ⟨_, rfl⟩
  have HNL := Lib.hid hN
  rw [← hN] at hlc HLN ⊢
  have HFE := Lib.hid hfe
  clear hput hO3 hb3 HR2 HB2 HP2 HG2 hN hfe
  go_upto_if 30 with fail
  go_cut [10] (fun v wx => v = .int .i64 ((if 126 ≤ k then 4 else 2 : Nat) : Int) ∧ wx = w3)
  case first =>
    by_cases h1 : 126 ≤ k
    · have h1i : (126 : Int) ≤ (k : Int) := by omega
      go_wp2_with fail
      go_meet
      exact ⟨by rw [if_pos h1]; rfl, rfl⟩
    · have h1i : ¬ (126 : Int) ≤ (k : Int) := by omega
      go_wp2_with fail
      go_meet
      exact ⟨by rw [if_neg h1]; rfl, rfl⟩
  case rest =>
    obtain ⟨rfl, rfl⟩ := hcut
    obtain ⟨a, ha⟩ : ∃ a, a = (if 126 ≤ k then 4 else 2 : Nat) := ⟨_, rfl⟩
    rw [← ha] at HFE ⊢
    have ha4 : a ≤ 4 := by rw [ha]; split <;> omega
    clear ha
    go_upto_if 31 with fail
    go_cut [10] (fun v wx => v = .int .i64 (f : Int) ∧ wx = wc)
    case first =>
      cases m
      · have e := HFE.out
        simp only [Bool.false_eq_true, if_false, Nat.add_zero] at e
        subst e
        go_wp2_with fail
        go_meet
        exact ⟨rfl, rfl⟩
      · have e := HFE.out
        simp only [if_true] at e
        have hw : IntKind.i64.wrap ((a : Int) + 4) = (f : Int) := by rw [IntWalk.i64_in _ (by omega)]; omega
        clear e
        go_wp2_with fail
        go_meet
        exact ⟨rfl, rfl⟩
    case rest =>
      obtain ⟨rfl, rfl⟩ := hcut
      have hhd := ihead_any (c := c3) (m := m) HR3.out (Nat.le_refl _) (by rw [← HNL.out, HLN.out]; omega) (by rw [← HNL.out]; exact hlc) HG3.out
      rw [HH1.out, ← HNL.out] at hhd
      have hhn : Calls Tryd.prog 17 #[.slice A3 N c3, .bool m] wc fun e w' => e = .returned (.tuple #[.int .i64 (N : Int), .agg (ftI 0 0), .bool true]) ∧ Below wc.heap.size wc w' := hhd.mono (by
        rintro e w' ⟨rfl, hb⟩
        refine ⟨?_, hb⟩
        show Ending.returned (.tuple #[.int .i64 ((f + k : Nat) : Int), .agg (ftI 0 0), .bool true]) = _
        rw [← HLN.out])
      obtain ⟨i0, hi0, hz0, hz1, hz2⟩ := infoI infoI8
      have hN1 : 1 ≤ N := by have := HLN.out; omega
      have hmn : min (N : Int) 1 = 1 := by omega
      obtain ⟨hc1, _⟩ := cut_upto (P := Tryd.prog) (c := c3) (k := 1) Tryd.underlying23 hi0 hz1 HR3.out (by rw [← HNL.out]; exact hlc) (by rw [← HNL.out]; exact hN1)
      rw [← HNL.out] at hc1
      have hcu : ∀ W, (Instr.slice 23 (.slice A3 N c3) none (some (.int .i64 1)) none).run Tryd.prog W = .ok (.slice A3 1 c3) W := hc1
      have HFK := Lib.hid HLN.out
      clear HFE ha4 hf2 hhd hc1
      go_wp2_with fail
      refine hhn.mono ?_
      rintro e w4 ⟨rfl, hb4⟩
      obtain ⟨w5, e5, r5, hb5, hz5, s5⟩ := varI w4 31 (ftI 0 0) (ftI 0 0)
      have hb45 := hb4.trans (hb5.mono hb4.size)
      have HR5 := Lib.hid ((HR3.out.below hb45).more hb45.size)
      have HB5 := Lib.hid (HB3.out.trans (hb45.mono HB3.out.size))
      have HG5 := Lib.hid (HG3.out.below hb45)
      have HF5 := Lib.hid r5
      have hrl : RdB w5 w5.heap.size A3 (L.take 1) := by
        obtain ⟨_, h⟩ := cut_upto (P := Tryd.prog) (c := c3) (k := 1) Tryd.underlying23 hi0 hz1 HR5.out (by rw [← HNL.out]; exact hlc) (by rw [← HNL.out]; exact hN1)
        exact h
      have hl1 : (L.take 1).length = 1 := by rw [List.length_take, ← HNL.out]; omega
      have hhs := ihead_any (c := c3) (m := m) hrl (Nat.le_refl _) (by omega) (by omega) HG5.out
      rw [HH2.out, hl1] at hhs
      have hho : Calls Tryd.prog 17 #[.slice A3 1 c3, .bool m] w5 fun e w' => e = .returned (.tuple #[.int .i64 0, .agg (ftI 0 0), .bool false]) ∧ Below w5.heap.size w5 w' := hhs
      clear hhn hrl hl1 hhs hb4 hb5 hb45
      go_upto_region 10 with (refine wpList_sw (cs := ftI 0 0) rfl _ _ rfl rfl rfl s5 (ftI_sz _ _ _ _) (ftI_ok _ _) ?_)
      rw [ftI0_eq, e5]
      clear e5 s5 r5 hz5
      generalize w4.heap.size = p5 at *
      go_wp2_with fail
      refine hho.mono ?_
      rintro e w6 ⟨rfl, hb6⟩
      obtain ⟨w7, e7, r7, hb7, hz7, s7⟩ := varI w6 31 (ftI 0 0) (ftI 0 0)
      have hb67 := hb6.trans (hb7.mono hb6.size)
      have HF6 := Lib.hid (HF5.out.below hb67 HF5.out.lt)
      have HF7 := Lib.hid r7
      have HB7 := Lib.hid (HB5.out.trans (hb67.mono HB5.out.size))
      go_upto_region 11 with (refine wpList_sw (cs := ftI 0 0) rfl _ _ rfl rfl rfl s7 (ftI_sz _ _ _ _) (ftI_ok _ _) ?_)
      rw [ftI0_eq, e7]
      clear e7 s7 r7 hz7 hho hb6 hb7 hb67 HR5 HB5 HG5 HF5 hcu hmn
      generalize w6.heap.size = p7 at *
      have hwf : IntKind.i64.wrap ((f : Int) + (k : Int)) = (N : Int) := by rw [IntWalk.i64_in _ (by omega)]; have := HFK.out; omega
      have hq1 : ((N : Int) == (N : Int)) = true := by simp
      have hqf := fun W => ft_zeroI W
      go_wp2_with fail
      refine (fixed16_any _).mono ?_
      rintro e w8 ⟨rfl, hb8⟩
      have HF8 := Lib.hid (HF6.out.below hb8 HF6.out.lt)
      have HF9 := Lib.hid (HF7.out.below hb8 HF7.out.lt)
      have HB8 := Lib.hid (HB7.out.trans (hb8.mono HB7.out.size))
      clear hb8 HF6 HF7 HB7
      go_wp2_with (first
        | (refine wpList_ldg (by rfl) _ rfl rfl HF8.out (ftI_ok _ _) ?_)
        | (refine wpList_ldg (by rfl) _ rfl rfl HF9.out (ftI_ok _ _) ?_))
      go_ret
      exact ⟨rfl, HB8.out⟩
end Go.Proofs.YtffgjnohlcodaaaDoor
