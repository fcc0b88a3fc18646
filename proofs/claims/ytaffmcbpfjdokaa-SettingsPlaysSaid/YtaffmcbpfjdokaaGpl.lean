/-
  SettingsPlays: the law's walk. Condition: the operations are read.
-/
import Derived.Test.YtaffmcbpfjdokaaGack
import Derived.Test.YtaffmcbpfjdokaaGopen
namespace Go.Proofs.Ytaffmcbpfjdokaa
open Go.RowKit Go.WideShapes

/-- The side, and what the law keeps beside it: what is in force (p4), the last one (p5), those that wait (v6). -/
structure PlI (w wr : World) (g p4 p5 : Nat) (n n4 x5 : St) (v v6 : Value) (L L6 : List St) : Prop where
  s : Sd wr w.heap.size g n v L
  r4 : Row wr p4 24 n4.c
  r5 : Row wr p5 24 x5.c
  ow : OwS wr w.heap.size 24 7 v6 L6.length (enl St.l L6)
  hb : Below w.heap.size w wr
  d4 : ¬ sb g v p4 ∧ ¬ ob v6 p4 ∧ w.heap.size ≤ p4
  d5 : ¬ sb g v p5 ∧ ¬ ob v6 p5 ∧ w.heap.size ≤ p5
  d45 : p4 ≠ p5
  dv : ∀ k, ob v6 k → ¬ sb g v k
section
variable {w wr w' : World} {g p4 p5 : Nat} {n n' n4 x5 : St} {v v' v6 v6' : Value} {L L' L6 L6' : List St}
theorem PlI.below (h : PlI w wr g p4 p5 n n4 x5 v v6 L L6) (hb : Below wr.heap.size wr w') : PlI w w' g p4 p5 n n4 x5 v v6 L L6 :=
  ⟨h.s.below hb, h.r4.below hb h.r4.lt, h.r5.below hb h.r5.lt, h.ow.below hb, h.hb.trans (hb.mono h.hb.size), h.d4, h.d5, h.d45, h.dv⟩
theorem PlI.alloc (h : PlI w wr g p4 p5 n n4 x5 v v6 L L6) (o : Obj) : PlI w (wr.alloc o) g p4 p5 n n4 x5 v v6 L L6 := h.below ((Below.refl _ _).alloc (Nat.le_refl _) _)
/-- The side did something. -/
theorem PlI.side (h : PlI w wr g p4 p5 n n4 x5 v v6 L L6) (hs : Sd w' w.heap.size g n' v' L') (hf : Fs (sb g v) wr w') (hn : Nx wr v v') : PlI w w' g p4 p5 n' n4 x5 v' v6 L' L6 := by
  have hsb : ∀ k, k < wr.heap.size → ¬ sb g v k → ¬ sb g v' k := fun k hk h1 h2 => by
    rcases h2 with h2 | h2
    · exact h1 (.inl h2)
    · rcases hn.own h2 with h3 | h3
      · exact h1 (.inr h3)
      · omega
  exact ⟨hs, hf.row h.d4.1 h.r4, hf.row h.d5.1 h.r5, hf.owns h.ow h.dv, h.hb.trans (hf.below (fun k hk hl => by
    rcases hk with rfl | hk
    · exact h.s.gl
    · exact (h.s.own.lt k hk).1) h.hb.size), ⟨hsb _ h.r4.lt h.d4.1, h.d4.2⟩, ⟨hsb _ h.r5.lt h.d5.1, h.d5.2⟩, h.d45, fun k hk => hsb k (h.ow.lt k hk).2 (h.dv k hk)⟩
/-- A variable is stored into. -/
theorem PlI.set4 (h : PlI w wr g p4 p5 n n4 x5 v v6 L L6) (y : St) : PlI w (wr.setRow p4 y.c) g p4 p5 n y x5 v v6 L L6 := by
  have hf : Fs (fun k => k = p4) wr (wr.setRow p4 y.c) := Fs.setRow (S := fun k => k = p4) (Fs.refl _ wr) (g := p4) (fun _ => rfl) y.c
  exact ⟨h.s.fs hf (fun k hk e => h.d4.1 (by rw [← e]; exact hk)), h.r4.setRow _, h.r5.setRow' (fun e => h.d45 e.symm) _, hf.owns h.ow (fun k hk e => h.d4.2.1 (by rw [← e]; exact hk)), below_setRow h.hb _ _ h.d4.2.2, h.d4, h.d5, h.d45, h.dv⟩
theorem PlI.set5 (h : PlI w wr g p4 p5 n n4 x5 v v6 L L6) (y : St) : PlI w (wr.setRow p5 y.c) g p4 p5 n n4 y v v6 L L6 := by
  have hf : Fs (fun k => k = p5) wr (wr.setRow p5 y.c) := Fs.setRow (S := fun k => k = p5) (Fs.refl _ wr) (g := p5) (fun _ => rfl) y.c
  exact ⟨h.s.fs hf (fun k hk e => h.d5.1 (by rw [← e]; exact hk)), h.r4.setRow' h.d45 _, h.r5.setRow _, hf.owns h.ow (fun k hk e => h.d5.2.1 (by rw [← e]; exact hk)), below_setRow h.hb _ _ h.d5.2.2, h.d4, h.d5, h.d45, h.dv⟩
/-- Those that wait grow. -/
theorem PlI.grow (h : PlI w wr g p4 p5 n n4 x5 v v6 L L6) (hg : wr.grownBy w' v6.ownBlock) (ho : OwS w' w.heap.size 24 7 v6' L6'.length (enl St.l L6')) (hn : v6'.ownBlock = v6.ownBlock ∨ v6'.ownBlock = some wr.heap.size) : PlI w w' g p4 p5 n n4 x5 v v6' L L6' := by
  have hf := Fs.of_grown hg
  have hx := Nx.of_new hn
  have h6 : ∀ k, k < wr.heap.size → ¬ ob v6 k → ¬ ob v6' k := fun k hk h1 h2 => by
    rcases hx.own h2 with h3 | h3
    · exact h1 h3
    · omega
  exact ⟨h.s.fs hf (fun k hk e => h.dv k e hk), hf.row h.d4.2.1 h.r4, hf.row h.d5.2.1 h.r5, ho, h.hb.trans (hf.below (fun k hk _ => (h.ow.lt k hk).1) h.hb.size), ⟨h.d4.1, h6 _ h.r4.lt h.d4.2.1, h.d4.2.2⟩, ⟨h.d5.1, h6 _ h.r5.lt h.d5.2.1, h.d5.2.2⟩, h.d45, fun k hk => by
    rcases hx.own hk with h3 | h3
    · exact h.dv k h3
    · intro h4
      have := (h.s.lts k h4).2
      omega⟩
/-- Those that wait are cut. -/
theorem PlI.cut (h : PlI w wr g p4 p5 n n4 x5 v v6 L L6) (ho : OwS wr w.heap.size 24 7 v6' L6'.length (enl St.l L6')) (hn : v6'.ownBlock = v6.ownBlock) : PlI w wr g p4 p5 n n4 x5 v v6' L L6' := by
  have h6 : ∀ k, ob v6' k → ob v6 k := fun k hk => by unfold ob at *; rw [← hn]; exact hk
  exact ⟨h.s, h.r4, h.r5, ho, h.hb, ⟨h.d4.1, fun h1 => h.d4.2.1 (h6 _ h1), h.d4.2.2⟩, ⟨h.d5.1, fun h1 => h.d5.2.1 (h6 _ h1), h.d5.2.2⟩, h.d45, fun k hk => h.dv k (h6 k hk)⟩
end
theorem one_fault (w : World) (s c : Nat) : ∃ w', (w.alloc (.cells #[.int .u8 0, .int .u32 0] 28)).setRow w.heap.size (ftc s c) = w' ∧ Row (w.alloc (.cells #[.int .u8 0, .int .u32 0] 28)) w.heap.size 28 (ftc 0 0) ∧ Row w' w.heap.size 28 (ftc s c) ∧ Below w.heap.size w w' := by
  have h1 : Row (w.alloc (.cells #[.int .u8 0, .int .u32 0] 28)) w.heap.size 28 (ftc 0 0) := by rw [ftz]; exact Row.new w _ _
  exact ⟨_, rfl, h1, h1.setRow _, below_setRow ((Below.refl _ _).alloc (Nat.le_refl _) _) _ _ (by omega)⟩
theorem st_nrefl (x : St) (w : World) : (binOp .neq 24 (.agg x.c) (.agg x.c)).run Try.prog w = .ok (.bool false) w := by rw [st_neq, decide_eq_true rfl]; rfl
theorem ft_nrefl (s c : Nat) (w : World) : (binOp .neq 28 (.agg (ftc s c)) (.agg (ftc s c))).run Try.prog w = .ok (.bool false) w := by rw [ft_neq, decide_eq_true rfl, decide_eq_true rfl]; rfl
theorem ft_n11 (w : World) : (binOp .neq 28 (.agg (ftc 1 1)) (.agg #[.int .u8 1, .int .u32 1])).run Try.prog w = .ok (.bool false) w := ft_neq 1 1 1 1 w
attribute [local irreducible] St.c ftc sec

set_option maxRecDepth 100000 in
set_option maxHeartbeats 8000000 in
theorem plays_law {w : World} {A : Option Addr} {c : Nat} {O : List (Op9 w)} (hR : RdS w (· < w.heap.size) A (enl oc9 O)) :
    Calls Try.prog 5 #[.slice A O.length c] w fun e w' => e = .returned (.bool true) ∧ Below w.heap.size w w' := by
  have HR := Lib.hid hR
  clear hR
  by_cases hlen : 100 < O.length
  · have h' : (100 : Int) < (O.length : Int) := by omega
    clear HR hlen
    go_enter Try.func5, Try.ntmps5
    go_wp2_with fail
    refine (fixed_any _).mono ?_
    rintro e w1 ⟨rfl, hb⟩
    have HB2 := Lib.hid hb
    clear hb
    go_wp2
    go_ret
    exact ⟨rfl, HB2.out⟩
  have h' : decide ((100 : Int) < (O.length : Int)) = false := by simp; omega
  have h100 : O.length ≤ 100 := by omega
  clear hlen
  go_enter Try.func5, Try.ntmps5
  go_wp2_with fail
  refine (new_any _).mono ?_
  rintro e w1 ⟨g, rfl, hs, hb1⟩
  have HS := Lib.hid hs
  have HB1 := Lib.hid hb1
  clear hs hb1
  go_wp2_with fail
  refine (rbegi_any _).mono ?_
  rintro e w2 ⟨rfl, hb2⟩
  obtain ⟨w3, hw3, t1, t2, t3, t4⟩ := one_var w2 begS
  have T1 := Lib.hid t1
  have T2 := Lib.hid t2
  have T7 := Lib.hid hw3
  have hb3 := hb2.trans (t3.mono hb2.size)
  have HS3 := Lib.hid (HS.out.below hb3)
  have HB3 := Lib.hid (HB1.out.trans (hb3.mono HB1.out.size))
  have HP4 : Hid (w1.heap.size ≤ w2.heap.size) := hb2.size
  have HG1 : Hid (g < w1.heap.size) := HS.out.row.lt
  have HW1 : Hid (w.heap.size ≤ w1.heap.size) := HB1.out.size
  clear t1 t2 t3 t4 hw3 hb2 hb3 HS HB1
  go_upto_region 5 with (refine wpList_sw (cs := begS.c) rfl _ _ rfl rfl rfl T1.out (St.sz _ _) (St.ok _) ?_)
  rw [T7.out]
  clear T1 T7
  obtain ⟨w4, hw4, t1, t2, t3, t4⟩ := one_var w3 begS
  have U1 := Lib.hid t1
  have U2 := Lib.hid t2
  have U7 := Lib.hid hw4
  have HS4 := Lib.hid (HS3.out.below t3)
  have T4 := Lib.hid (T2.out.below t3 T2.out.lt)
  have HB4 := Lib.hid (HB3.out.trans (t3.mono HB3.out.size))
  have HP5 : Hid (w2.heap.size < w3.heap.size) := T2.out.lt
  clear t1 t2 t3 t4 hw4 HS3 HB3
  go_upto_region 6 with (first | (refine wpList_ld rfl _ rfl rfl T2.out (St.ok _) ?_) | (refine wpList_sw (cs := begS.c) rfl _ _ rfl rfl rfl U1.out (St.sz _ _) (St.ok _) ?_))
  rw [U7.out]
  clear U1 U7 T2
  have HI : Hid (PlI w (w4.alloc (.cells #[] 24)) g w2.heap.size w3.heap.size begS begS (lastN begS []) (.slice none 0 0) (.slice (some ⟨w4.heap.size, 0, none⟩) 0 0) [] []) := by
    have a1 := HP4.out
    have a2 := HG1.out
    have a3 := HP5.out
    have a4 := HW1.out
    have a5 := U2.out.lt
    have hbb : Below w4.heap.size w4 (w4.alloc (.cells #[] 24)) := (Below.refl _ _).alloc (Nat.le_refl _) _
    refine ⟨HS4.out.below hbb, T4.out.below hbb T4.out.lt, U2.out.below hbb U2.out.lt, OwS.lit w4 24 7 0 #[] (by simp) (by simp [maxLen]) (by omega), HB4.out.trans (hbb.mono HB4.out.size), ⟨?_, ?_, by omega⟩, ⟨?_, ?_, by omega⟩, by omega, ?_⟩
    · rintro (h | h)
      · omega
      · simp [ob, Value.ownBlock] at h
    · intro h
      simp [ob, Value.ownBlock] at h
      omega
    · rintro (h | h)
      · omega
      · simp [ob, Value.ownBlock] at h
    · intro h
      simp [ob, Value.ownBlock] at h
      omega
    · intro k hk h
      simp [ob, Value.ownBlock] at hk
      rcases h with h | h
      · omega
      · simp [ob, Value.ownBlock] at h
  go_upto_region 7 with fail
  clear U2 HS4 T4 HB4 HP4 HP5 HG1 HW1
  generalize w4.alloc (.cells #[] 24) = w5 at *
  generalize w4.heap.size = q6 at *
  generalize w2.heap.size = p4 at *
  generalize w3.heap.size = p5 at *
  go_upto_region 8 with fail
  go_loopw [6, 25] (fun v6' i wr => ∃ (k : Nat) (n : St) (v v6 : Value) (L : List St), k ≤ O.length ∧ i = .int .i64 k ∧ v6 = v6' ∧ L.length ≤ k ∧ Hid (PlI w wr g p4 p5 n n (lastN n L) v v6 L L))
    (fun _ i _ => O.length - (intOf i).toNat)
  case atStart => exact ⟨0, begS, _, _, [], Nat.zero_le _, rfl, rfl, Nat.zero_le _, HI⟩
  case round =>
    clear HI
    obtain ⟨k, n, v, v6, L, hk, rfl, rfl, hLk, HI⟩ := hrel
    by_cases hlt : k < O.length
    · obtain ⟨b, q, rfl, hb, f0, f1⟩ := (HR.out.below HI.out.hb).op9 hlt
      have hok := O[k].hd.ok
      have HRL := Lib.hid hok.2.2
      generalize O[k].hd.els = l at *
      generalize O[k].hd.at_ = lA at *
      generalize O[k].hd.room = lc at *
      generalize O[k].kd = kd at *
      have k0 : (0 : Int) ≤ (k : Int) := by omega
      have k1 : (k : Int) < (O.length : Int) := by omega
      have HO := Lib.hid (Row.new wr 46 #[.int .i64 kd, .slice lA l.length lc])
      have HI1 := Lib.hid (HI.out.alloc (.cells #[.int .i64 kd, .slice lA l.length lc] 46))
      clear hok hb HI
      go_upto_region 10 with fail
      clear f0 f1
      generalize wr.alloc (.cells #[.int .i64 kd, .slice lA l.length lc] 46) = w6 at *
      generalize wr.heap.size = p8 at *
      have o0 := HO.out.cell (j := 0) (v := .int .i64 kd) rfl
      have o1 := HO.out.cell (j := 1) (v := .slice lA l.length lc) rfl
      by_cases hl : 100 < l.length
      · have hl' : (100 : Int) < (l.length : Int) := by omega
        clear hl
        go_wp2_with fail
        refine (fixed_any _).mono ?_
        rintro e w7 ⟨rfl, hb7⟩
        have HB7 := Lib.hid (HI1.out.hb.trans (hb7.mono HI1.out.hb.size))
        clear hb7 HI1 HO o0 o1
        go_wp2_with fail
        go_ret
        exact ⟨rfl, HB7.out⟩
      have hl' : decide ((100 : Int) < (l.length : Int)) = false := by simp; omega
      have hl100 : l.length ≤ 100 := by omega
      clear hl
      go_upto_region 12 with fail
      clear hl'
      go_upto_if 36 with fail
      go_cut [6] (fun u6 wx => ∃ (n : St) (v v6 : Value) (L : List St), v6 = u6 ∧ L.length ≤ k + 1 ∧ Hid (PlI w wx g p4 p5 n n (lastN n L) v v6 L L))
      case first =>
        by_cases hkd : kd = 0
        · subst hkd
          have hra := rapply_any (lastN n L) (c := lc) (HRL.out.up HI1.out.hb) (by omega)
          have hsend := fun (W : World) (h : Sd W w.heap.size g n v L) (hb : w.heap.size ≤ W.heap.size) (hr : RdS W (· < W.heap.size) lA (enl sgc l)) => send_any h hb (by omega) (c := lc) hr (by omega)
          have hsn : sendN n L l = if (apN (lastN n L) (lastN n L) l).2 = 0 then (L ++ [(apN (lastN n L) (lastN n L) l).1], 0) else (L, 1) := rfl
          have hle := apN_le (lastN n L) l (lastN n L)
          unfold RaPost at hra
          unfold SendPost at hsend
          generalize (apN (lastN n L) (lastN n L) l).1 = x at *
          generalize (apN (lastN n L) (lastN n L) l).2 = m at *
          generalize sendN n L l = r at *
          generalize l.length = len at *
          have HSN := Lib.hid hsn
          clear o0 hsn
          go_wp2_with (refine wpList_ld rfl _ rfl rfl HI1.out.r5 (St.ok _) ?_)
          refine hra.mono ?_
          rintro e w7 ⟨rfl, hb7⟩
          obtain ⟨w8, hw8, t1, t2, t3, t4⟩ := one_var w7 x
          have T1 := Lib.hid t1
          have T2 := Lib.hid t2
          have T7 := Lib.hid hw8
          have hb8 := hb7.trans (t3.mono hb7.size)
          have HI8 := Lib.hid (HI1.out.below hb8)
          have HO8 := Lib.hid (HO.out.below hb8 HO.out.lt)
          have o1 := HO8.out.cell (j := 1) (v := .slice lA len lc) rfl
          have HP5 : Hid (p5 < w7.heap.size) := by
            show p5 < w7.heap.size
            have := HI1.out.r5.lt
            have := hb7.size
            omega
          have HP : Hid (∀ k, sb g v k → k ≠ w7.heap.size) := fun k hk => by
            have := (HI1.out.s.lts k hk).2
            have := hb7.size
            omega
          clear t1 t2 t3 t4 hw8 hb7 hb8 HI1 HO hra
          go_upto_region 14 with (refine wpList_sw (cs := x.c) rfl _ _ rfl rfl rfl T1.out (St.sz _ _) (St.ok _) ?_)
          rw [T7.out]
          clear T1 T7
          generalize w7.heap.size = p9 at *
          go_wp2_with fail
          refine (hsend _ HI8.out.s HI8.out.hb.size (HRL.out.up HI8.out.hb)).mono ?_
          rintro e w9 ⟨rfl, v', hS9, hF9, hN9⟩
          have HI9 := Lib.hid (HI8.out.side hS9 hF9 hN9)
          have HX9 := Lib.hid (hF9.row (fun h => HP.out _ h rfl) T2.out)
          obtain ⟨w10, hw10, t1, t2, t3⟩ := one_fault w9 r.2 r.2
          have T1 := Lib.hid t1
          have T3 := Lib.hid t2
          have T7 := Lib.hid hw10
          have HI10 := Lib.hid (HI9.out.below t3)
          have HX10 := Lib.hid (HX9.out.below t3 HX9.out.lt)
          clear t1 t2 t3 hw10 hS9 hF9 hN9 HI8 HI9 HX9 HO8 o1 hsend HP T2
          go_upto_region 15 with (refine wpList_sw (cs := ftc r.2 r.2) rfl _ _ rfl rfl rfl T1.out (ft_sz _ _ _ _) (ft_ok _ _) ?_)
          rw [T7.out]
          clear T1 T7
          generalize w9.heap.size = p11 at *
          by_cases hm : m = 0
          · obtain rfl : r = (L ++ [x], 0) := by rw [HSN.out, if_pos hm]
            rw [hm, cdN_0]
            have hne := ft_none
            clear hle hm
            go_upto_region 20 with (refine wpList_ld rfl _ rfl rfl T3.out (ft_ok _ _) ?_)
            clear hne T3
            have HX11 := Lib.hid (HX10.out.setRow' (k := p5) (by have := HP5.out; omega) x.c)
            have HI11 := Lib.hid (HI10.out.set5 x)
            go_upto_region 21 with (first | (refine wpList_ld rfl _ rfl rfl HX10.out (St.ok _) ?_) | (refine wpList_sw (cs := x.c) rfl _ _ rfl rfl rfl HI10.out.r5 (St.sz _ _) (St.ok _) ?_))
            clear HI10 HX10
            generalize w10.setRow p5 x.c = w11 at *
            obtain ⟨i0, hi0, hz0, hz1, hz2⟩ := info_parts st_full
            have HIa := Lib.hid (HI11.out.alloc (.cells x.c 24))
            have HNa := Lib.hid (Row.new w11 24 x.c)
            go_wp2_with (first | (refine wpList_ld rfl _ rfl rfl HX11.out (St.ok _) ?_) | (refine wpList_bs1 (bs_st x) rfl _ rfl rfl ?_) | (at_builtin; go_loud (refine wpList_appS rfl (.tmp 57) (.tmp 59) 44 rfl w.heap.size 24 i0 _ 7 28 Try.underlying44 hi0 hz0 hz1 hz2 rfl v6 L.length (enl St.l L) rfl HIa.out.ow ⟨w11.heap.size, 0, none⟩ 1 1 x.l rfl rfl (fun j u hj => by rw [add_plain, Nat.zero_add]; exact HNa.out.cell (by rw [← St.cl] at hj; simpa using hj)) (St.one x) (by omega) (by simp only [maxLen]; omega) (by omega) HIa.out.hb.size ?_; intro A6 c6 w12 hO6 hg6 hb6)))
            have HI12 : Hid (PlI w w12 g p4 p5 n n (lastN n (L ++ [x])) v' (.slice A6 (L.length + 1) c6) (L ++ [x]) (L ++ [x])) := by
              show PlI _ _ _ _ _ _ _ _ _ _ _ _
              rw [lastN_snoc]
              exact HIa.out.grow hg6 (by rw [List.length_append, enl_append, enl_one]; exact hO6) hb6
            clear hO6 hg6 hb6 HIa HNa HI11 HX11 hi0 hz0 hz1 hz2
            go_meet
            exact ⟨n, v', _, L ++ [x], rfl, by rw [List.length_append, List.length_singleton]; omega, HI12⟩
          · obtain rfl : r = (L, 1) := by rw [HSN.out, if_neg hm]
            have hne := ne99 hle hm
            have hn11 := ft_n11
            clear hle hm
            generalize cdN m = cd at *
            go_wp2_with (refine wpList_ld rfl _ rfl rfl T3.out (ft_ok _ _) ?_)
            go_meet
            exact ⟨n, v', _, L, rfl, by omega, HI10⟩
        · have ek : (kd == 0) = false := beq_eq_false_iff_ne.2 hkd
          clear hkd HRL
          cases L with
          | nil =>
            have hak := ack_none HI1.out.s
            unfold AckPost at hak
            obtain ⟨A6, c6, rfl, _⟩ := HI1.out.ow.shape
            go_wp2_with fail
            refine hak.mono ?_
            rintro e w7 ⟨rfl, v', hS7, hF7, hN7⟩
            have HI7 := Lib.hid (HI1.out.side hS7 hF7 hN7)
            obtain ⟨w8, hw8, t1, t2, t3, t4, t5, t6⟩ := two_vars w7 n 1 1
            have T1 := Lib.hid t1
            have T2 := Lib.hid t2
            have T3 := Lib.hid t3
            have T4 := Lib.hid t4
            have T7 := Lib.hid hw8
            have HI8 := Lib.hid (HI7.out.below t5)
            clear t1 t2 t3 t4 t5 t6 hw8 hS7 hF7 hN7 hak HI7 HI1 HO o0 o1
            go_upto_region 23 with (first | (refine wpList_sw (cs := n.c) rfl _ _ rfl rfl rfl T1.out (St.sz _ _) (St.ok _) ?_) | (refine wpList_sw (cs := ftc 1 1) rfl _ _ rfl rfl rfl T2.out (ft_sz _ _ _ _) (ft_ok _ _) ?_))
            rw [T7.out]
            clear T1 T2 T7
            generalize w7.heap.size = p12 at *
            obtain ⟨w9, hw9, t1, t2, t3⟩ := one_fault w8 0 0
            have T1 := Lib.hid t1
            have T2 := Lib.hid t2
            have T7 := Lib.hid hw9
            have hb9 := below_setRow t3 w8.heap.size (ftc 1 1) (Nat.le_refl _)
            have HI9 := Lib.hid (HI8.out.below hb9)
            have X9 := Lib.hid (T3.out.below hb9 T3.out.lt)
            have F9 := Lib.hid (T4.out.below hb9 T4.out.lt)
            have W9 := Lib.hid (t2.setRow (ftc 1 1))
            have hzf : ftc 0 0 = #[.int .u8 0, .int .u32 0] := by unfold ftc; rfl
            have HZF := Lib.hid hzf
            clear t1 t2 t3 hw9 hb9 HI8 T3 T4 hzf
            go_upto_region 24 with (refine wpList_sw (cs := ftc 0 0) rfl _ _ rfl rfl (by rw [HZF.out]; rfl) T1.out (ft_sz _ _ _ _) (ft_ok _ _) ?_)
            rw [T7.out]
            clear T1 T7
            generalize w8.heap.size = p14 at *
            have hzf : ftc 1 1 = #[.int .u8 1, .int .u32 1] := by unfold ftc; rfl
            have HZG := Lib.hid hzf
            clear hzf HZF
            go_upto_region 28 with (refine wpList_sw (cs := ftc 1 1) rfl _ _ rfl rfl (by rw [HZG.out]; rfl) T2.out (ft_sz _ _ _ _) (ft_ok _ _) ?_)
            clear T2 HZG
            generalize w9.setRow p14 (ftc 1 1) = w10 at *
            have hn1 := st_nrefl n
            have hn2 := ft_nrefl 1 1
            go_wp2_with (first | (refine wpList_ld rfl _ rfl rfl X9.out (St.ok _) ?_) | (refine wpList_ld rfl _ rfl rfl HI9.out.r4 (St.ok _) ?_) | (refine wpList_ldg (by rfl) _ rfl rfl F9.out (ft_ok _ _) ?_) | (refine wpList_ldg (by rfl) _ rfl rfl W9.out (ft_ok _ _) ?_))
            go_meet
            exact ⟨n, v', _, [], rfl, by simp, HI9⟩
          | cons a L =>
            have hak := ack_some HI1.out.s (by have : (a :: L).length = L.length + 1 := rfl; omega)
            unfold AckPost at hak
            rw [show (a :: L).length = L.length + 1 from rfl] at hLk
            obtain ⟨A6, c6, rfl, _⟩ := HI1.out.ow.shape
            go_wp2_with fail
            refine hak.mono ?_
            rintro e w7 ⟨rfl, v', hS7, hF7, hN7⟩
            have HI7 := Lib.hid (HI1.out.side hS7 hF7 hN7)
            have HLA : Hid (p4 < w7.heap.size) := HI7.out.r4.lt
            obtain ⟨w8, hw8, t1, t2, t3, t4, t5, t6⟩ := two_vars w7 a 0 0
            have T1 := Lib.hid t1
            have T2 := Lib.hid t2
            have T3 := Lib.hid t3
            have T4 := Lib.hid t4
            have T7 := Lib.hid hw8
            have HI8 := Lib.hid (HI7.out.below t5)
            clear t1 t2 t3 t4 t5 t6 hw8 hS7 hF7 hN7 hak HI7 HI1 HO o0 o1
            go_upto_region 23 with (first | (refine wpList_sw (cs := a.c) rfl _ _ rfl rfl rfl T1.out (St.sz _ _) (St.ok _) ?_) | (refine wpList_sw (cs := ftc 0 0) rfl _ _ rfl rfl rfl T2.out (ft_sz _ _ _ _) (ft_ok _ _) ?_))
            rw [T7.out]
            clear T1 T2 T7
            generalize w7.heap.size = p12 at *
            obtain ⟨w9, hw9, t1, t2, t3⟩ := one_fault w8 0 0
            have T1 := Lib.hid t1
            have T7 := Lib.hid hw9
            have HI9 := Lib.hid (HI8.out.below t3)
            have X9 := Lib.hid (T3.out.below t3 T3.out.lt)
            have F9 := Lib.hid (T4.out.below t3 T4.out.lt)
            have W9 := Lib.hid t2
            have HPX : Hid (p4 < p12 ∧ p4 < w8.heap.size) := ⟨HLA.out, HI8.out.r4.lt⟩
            have hzf : ftc 0 0 = #[.int .u8 0, .int .u32 0] := by unfold ftc; rfl
            have HZF := Lib.hid hzf
            clear t1 t2 t3 hw9 HI8 T3 T4 hzf
            go_upto_region 24 with (refine wpList_sw (cs := ftc 0 0) rfl _ _ rfl rfl (by rw [HZF.out]; rfl) T1.out (ft_sz _ _ _ _) (ft_ok _ _) ?_)
            rw [T7.out]
            clear T1 T7 HZF
            generalize w8.heap.size = p14 at *
            obtain ⟨b6, q6', rfl, hbo6, hrg⟩ := HI9.out.ow.reads.elem st_llen (i := 0) (by simp) (by omega)
            obtain ⟨i0, hi0, hz0, hz1, hz2⟩ := info_parts st_full
            obtain ⟨A7, hcut, hown7, hob7⟩ := run_tail (P := Try.prog) _ w.heap.size 44 24 i0 7 Try.underlying44 hi0 hz1 HI9.out.ow 1 (by simp)
            have hdr : (enl St.l (a :: L)).drop 7 = enl St.l L := by have := enl_drop st_llen (a :: L) 1; rw [Nat.one_mul] at this; exact this
            rw [Nat.one_mul, hdr] at hown7
            simp only [List.getElem_cons_zero, Nat.zero_mul, Nat.add_zero] at hrg
            rw [← St.cl a] at hrg
            have HRG := Lib.hid hrg
            rw [show (a :: L).length - 1 = L.length from rfl] at hcut hown7 hob7
            rw [show (a :: L).length = L.length + 1 from rfl] at *
            have hcut' : ∀ W, (Instr.slice 44 (.slice (some ⟨b6, q6', none⟩) (L.length + 1) c6) (some (.int .i64 1)) none none).run Try.prog W = .ok (.slice A7 L.length (c6 - 1)) W := hcut
            have e1 : ((L.length : Int) + 1 == 0) = false := (show (((L.length + 1 : Nat) : Int) == 0) = false from (nat_eq (L.length + 1) 0).trans (decide_eq_false (by omega)))
            have kk1 : (0 : Int) < ((L.length + 1 : Nat) : Int) := by omega
            have HI10 := Lib.hid ((HI9.out.cut hown7 hob7).set4 a)
            have X10 := Lib.hid (X9.out.setRow' (k := p4) (by have := HPX.out; omega) a.c)
            have F10 := Lib.hid (F9.out.setRow' (k := p4) (by have := HPX.out; omega) a.c)
            have W10 := Lib.hid (W9.out.setRow' (k := p4) (by have := HPX.out; omega) a.c)
            clear hi0 hz0 hz1 hz2 hob7 hrg hbo6 hdr hown7 hcut X9 F9 W9 HPX HLA
            go_upto_region 27 with (first | (refine wpList_ldm (cs := a.c) rfl _ rfl rfl HRG.out (St.ok _) ?_) | (refine wpList_sw (cs := a.c) rfl _ _ rfl rfl rfl HI9.out.r4 (St.sz _ _) (St.ok _) ?_))
            clear HRG HI9 e1 kk1
            generalize w9.setRow p4 a.c = w10 at *
            have hn1 := st_nrefl a
            have hn2 := ft_nrefl 0 0
            go_wp2_with (first | (refine wpList_ld rfl _ rfl rfl X10.out (St.ok _) ?_) | (refine wpList_ld rfl _ rfl rfl HI10.out.r4 (St.ok _) ?_) | (refine wpList_ldg (by rfl) _ rfl rfl F10.out (ft_ok _ _) ?_) | (refine wpList_ldg (by rfl) _ rfl rfl W10.out (ft_ok _ _) ?_))
            go_meet
            exact ⟨a, v', _, L, rfl, by omega, HI10⟩
      case rest =>
        clear HI1 HO o0 o1 HRL hl100
        obtain ⟨n, v, v6, L, rfl, hL, HI⟩ := hcut
        generalize wc = w9 at *
        obtain ⟨A6, c6, rfl, _⟩ := HI.out.ow.shape
        have hlast := fun (W : World) (h : Sd W w.heap.size g n v L) => last_any h (by omega)
        have hn1 := st_nrefl n
        have hn2 := st_nrefl (lastN n L)
        have hlen : ((L.length : Int) != (L.length : Int)) = false := by simp
        generalize hy : lastN n L = y at *
        have HY := Lib.hid hy
        clear hy
        go_wp2_with fail
        have HId : Hid (PlI w w9.drew g p4 p5 n n y v (.slice A6 L.length c6) L L) := HI.out.below (((Below.refl _ _).drew))
        clear HI
        have HI := HId
        clear HId
        refine wp_region_held_drew (S := fun w' => Row w' p4 24 n.c ∧ Row w' p5 24 y.c) (by kernel_rfl) ⟨HI.out.r4, HI.out.r5⟩ (fun hHeld => ?_)
        refine wpAnyH_take (i := 0) (v := ?v0) rfl (by kernel_rfl) (by kernel_rfl) (by kernel_rfl) (fun _ _ _ h => h) (Or.inl ⟨by rfl, ?hy0⟩) (by assumption) ?rest0
        case hy0 => (intro w hSw; (try dsimp only at hSw); go_simp <;> with_reducible rfl)
        try simp only [Act.put, List.getElem_toArray, List.getElem_cons_zero, List.setIfInBounds_toArray, List.set_cons_zero, List.set_cons_succ]
        refine wpAnyH_take (i := 2) (v := _) rfl (by kernel_rfl) (by kernel_rfl) (by kernel_rfl) (fun _ _ _ h => h) (yields_ld (by rfl) _ rfl rfl (St.ok _) (fun _ hSw => hSw.1)) (by assumption) ?rest2w1
        try simp only [Act.put, List.getElem_toArray, List.getElem_cons_zero, List.getElem_cons_succ, List.setIfInBounds_toArray, List.set_cons_zero, List.set_cons_succ]
        refine wpAnyH_ready (rs := [1]) (by kernel_rfl) (by simp) ?_
        refine AllReadyH.cons rfl (fun K hK => ?_) AllReadyH.nil
        go_simp
        go_at_call 17
        refine (now_any HI.out.s).mono ?_
        rintro e w_0 ⟨rfl, hb_0⟩
        have HI_0 := Lib.hid (HI.out.below hb_0)
        clear hb_0 hHeld HI
        go_simp
        refine hK.out _ _ ⟨HI_0.out.r4, HI_0.out.r5⟩ (fun hHeld => ?_)
        clear hK K
        try simp only [Act.put, List.getElem_toArray, List.getElem_cons_zero, List.getElem_cons_succ, List.setIfInBounds_toArray, List.set_cons_zero, List.set_cons_succ]
        refine wpAnyH_take (i := 3) (v := ?v3q3) rfl (by kernel_rfl) (by kernel_rfl) (by kernel_rfl) (fun _ _ _ h => h) (Or.inl ⟨by rfl, ?hy3q3⟩) (by assumption) ?rest3q3
        case hy3q3 => (intro w hSw; (try dsimp only at hSw); go_simp <;> with_reducible rfl)
        try simp only [Act.put, List.getElem_toArray, List.getElem_cons_zero, List.getElem_cons_succ, List.setIfInBounds_toArray, List.set_cons_zero, List.set_cons_succ]
        refine wpAnyH_take (i := 4) (v := ?v4q3) rfl (by kernel_rfl) (by kernel_rfl) (by kernel_rfl) (fun _ _ _ h => h) (Or.inl ⟨by rfl, ?hy4q3⟩) (by assumption) ?rest4q3
        case hy4q3 => (intro w hSw; (try dsimp only at hSw); go_simp <;> with_reducible rfl)
        try simp only [Act.put, List.getElem_toArray, List.getElem_cons_zero, List.getElem_cons_succ, List.setIfInBounds_toArray, List.set_cons_zero, List.set_cons_succ]
        refine wpAnyH_take (i := 5) (v := ?v5q3) rfl (by kernel_rfl) (by kernel_rfl) (by kernel_rfl) (fun _ _ _ h => h) (Or.inl ⟨by rfl, ?hy5q3⟩) (by assumption) ?rest5q3
        case hy5q3 => (intro w hSw; (try dsimp only at hSw); go_simp <;> with_reducible rfl)
        try simp only [Act.put, List.getElem_toArray, List.getElem_cons_zero, List.getElem_cons_succ, List.setIfInBounds_toArray, List.set_cons_zero, List.set_cons_succ]
        refine wpAnyH_take (i := 7) (v := _) rfl (by kernel_rfl) (by kernel_rfl) (by kernel_rfl) (fun _ _ _ h => h) (yields_ld (by rfl) _ rfl rfl (St.ok _) (fun _ hSw => hSw.2)) (by assumption) ?rest7w2
        try simp only [Act.put, List.getElem_toArray, List.getElem_cons_zero, List.getElem_cons_succ, List.setIfInBounds_toArray, List.set_cons_zero, List.set_cons_succ]
        refine wpAnyH_ready (rs := [6]) (by kernel_rfl) (by simp) ?_
        refine AllReadyH.cons rfl (fun K hK => ?_) AllReadyH.nil
        go_simp
        go_at_call 18
        refine (hlast _ HI_0.out.s).mono ?_
        rintro e w_1 ⟨rfl, hb_1⟩
        have HI_1 := Lib.hid (HI_0.out.below hb_1)
        clear hb_1 hHeld HI_0
        go_simp
        refine hK.out _ _ ⟨HI_1.out.r4, HI_1.out.r5⟩ (fun hHeld => ?_)
        clear hK K
        try simp only [Act.put, List.getElem_toArray, List.getElem_cons_zero, List.getElem_cons_succ, List.setIfInBounds_toArray, List.set_cons_zero, List.set_cons_succ]
        refine wpAnyH_take (i := 8) (v := ?v8q4) rfl (by kernel_rfl) (by kernel_rfl) (by kernel_rfl) (fun _ _ _ h => h) (Or.inl ⟨by rfl, ?hy8q4⟩) (by assumption) ?rest8q4
        case hy8q4 => (intro w hSw; (try dsimp only at hSw); go_simp <;> with_reducible rfl)
        try simp only [Act.put, List.getElem_toArray, List.getElem_cons_zero, List.getElem_cons_succ, List.setIfInBounds_toArray, List.set_cons_zero, List.set_cons_succ]
        refine wpAnyH_take (i := 9) (v := ?v9q4) rfl (by kernel_rfl) (by kernel_rfl) (by kernel_rfl) (fun _ _ _ h => h) (Or.inl ⟨by rfl, ?hy9q4⟩) (by assumption) ?rest9q4
        case hy9q4 => (intro w hSw; (try dsimp only at hSw); go_simp <;> with_reducible rfl)
        try simp only [Act.put, List.getElem_toArray, List.getElem_cons_zero, List.getElem_cons_succ, List.setIfInBounds_toArray, List.set_cons_zero, List.set_cons_succ]
        refine wpAnyH_take (i := 10) (v := ?v10q4) rfl (by kernel_rfl) (by kernel_rfl) (by kernel_rfl) (fun _ _ _ h => h) (Or.inl ⟨by rfl, ?hy10q4⟩) (by assumption) ?rest10q4
        case hy10q4 => (intro w hSw; (try dsimp only at hSw); go_simp <;> with_reducible rfl)
        try simp only [Act.put, List.getElem_toArray, List.getElem_cons_zero, List.getElem_cons_succ, List.setIfInBounds_toArray, List.set_cons_zero, List.set_cons_succ]
        refine wpAnyH_take (i := 11) (v := ?v11q4) rfl (by kernel_rfl) (by kernel_rfl) (by kernel_rfl) (fun _ _ _ h => h) (Or.inl ⟨by rfl, ?hy11q4⟩) (by assumption) ?rest11q4
        case hy11q4 => (intro w hSw; (try dsimp only at hSw); go_simp <;> with_reducible rfl)
        try simp only [Act.put, List.getElem_toArray, List.getElem_cons_zero, List.getElem_cons_succ, List.setIfInBounds_toArray, List.set_cons_zero, List.set_cons_succ]
        refine wpAnyH_take (i := 13) (v := ?v13q4) rfl (by kernel_rfl) (by kernel_rfl) (by kernel_rfl) (fun _ _ _ h => h) (Or.inl ⟨by rfl, ?hy13q4⟩) (by assumption) ?rest13q4
        case hy13q4 => (intro w hSw; (try dsimp only at hSw); go_simp <;> with_reducible rfl)
        try simp only [Act.put, List.getElem_toArray, List.getElem_cons_zero, List.getElem_cons_succ, List.setIfInBounds_toArray, List.set_cons_zero, List.set_cons_succ]
        refine wpAnyH_take (i := 14) (v := ?v14q4) rfl (by kernel_rfl) (by kernel_rfl) (by kernel_rfl) (fun _ _ _ h => h) (Or.inl ⟨by rfl, ?hy14q4⟩) (by assumption) ?rest14q4
        case hy14q4 => (intro w hSw; (try dsimp only at hSw); go_simp <;> with_reducible rfl)
        try simp only [Act.put, List.getElem_toArray, List.getElem_cons_zero, List.getElem_cons_succ, List.setIfInBounds_toArray, List.set_cons_zero, List.set_cons_succ]
        refine wpAnyH_ready (rs := [12]) (by kernel_rfl) (by simp) ?_
        refine AllReadyH.cons rfl (fun K hK => ?_) AllReadyH.nil
        go_simp
        go_at_call 19
        refine (waits_any HI_1.out.s).mono ?_
        rintro e wq ⟨rfl, rfl⟩
        go_simp
        refine hK.out _ _ hHeld (fun hHeld => ?_)
        clear hK K
        try simp only [Act.put, List.getElem_toArray, List.getElem_cons_zero, List.getElem_cons_succ, List.setIfInBounds_toArray, List.set_cons_zero, List.set_cons_succ]
        refine wpAnyH_take (i := 15) (v := ?v15q5) rfl (by kernel_rfl) (by kernel_rfl) (by kernel_rfl) (fun _ _ _ h => h) (Or.inl ⟨by rfl, ?hy15q5⟩) (by assumption) ?rest15q5
        case hy15q5 => (intro w hSw; (try dsimp only at hSw); go_simp <;> with_reducible rfl)
        try simp only [Act.put, List.getElem_toArray, List.getElem_cons_zero, List.getElem_cons_succ, List.setIfInBounds_toArray, List.set_cons_zero, List.set_cons_succ]
        refine wpAnyH_take (i := 16) (v := ?v16q5) rfl (by kernel_rfl) (by kernel_rfl) (by kernel_rfl) (fun _ _ _ h => h) (Or.inl ⟨by rfl, ?hy16q5⟩) (by assumption) ?rest16q5
        case hy16q5 => (intro w hSw; (try dsimp only at hSw); go_simp <;> with_reducible rfl)
        try simp only [Act.put, List.getElem_toArray, List.getElem_cons_zero, List.getElem_cons_succ, List.setIfInBounds_toArray, List.set_cons_zero, List.set_cons_succ]
        refine wpAnyH_done (by kernel_rfl) ?_ _
        clear hHeld
        rw [← HY.out] at HI_1
        clear HY
        go_wp2_with fail
        go_roundw
        case rel => exact ⟨k + 1, n, v, _, L, by omega, by go_num, rfl, hL, HI_1⟩
        case measure => simp [intOf]; omega
    · go_wp2_with fail
      refine (fixed_any _).mono ?_
      rintro e w7 ⟨rfl, hb7⟩
      have HB7 := Lib.hid (HI.out.hb.trans (hb7.mono HI.out.hb.size))
      clear hb7 HI
      go_wp2_with fail
      go_ret
      exact ⟨rfl, HB7.out⟩
end Go.Proofs.Ytaffmcbpfjdokaa
