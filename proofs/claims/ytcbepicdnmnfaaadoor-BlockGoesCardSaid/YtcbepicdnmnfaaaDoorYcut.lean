/-
  Cut, by its contract. Conditions: the block is read; at most 1000 bytes of it; from 1 to 16384 bytes in a frame.
-/
import Derived.Test.YtcbepicdnmnfaaaDoorYcl
import Derived.Lib.MinMax
namespace Go.Proofs.YtcbepicdnmnfaaaDoor
open Go.RowKit Go.WideShapes

/-- A frame of a block that is cut, but for its data. -/
def fcx (ty fl st : Nat) : Fm := ⟨ty, fl, st, none, 0, 0, -1, 0, 0, 0, false, 0, none, 0, 0⟩
theorem fcx_fl (ty fl st k : Nat) : (fcx ty fl st).c.setIfInBounds 1 (.int .u8 k) = (fcx ty k st).c := by unfold fcx Fm.c; rfl
theorem fcx_own (ty fl st : Nat) (A : Option Addr) (n c : Nat) : (fcx ty fl st).c.setIfInBounds 3 (.slice A n c) = ((fcx ty fl st).own A n c).c := by unfold fcx Fm.own Fm.c; rfl
theorem mm_16 (n : Nat) (h1 : 1 ≤ n) (h2 : n ≤ 16384) : min (max (n : Int) 1) 16384 = (n : Int) := by omega
theorem or4 : ∀ b : Fin 2, (bits .or .u8 (b.val : Int) 4) = ((b.val + 4 : Nat) : Int) := by decide +kernel
theorem cu_vars (w : World) (cs : Array Value) (x : Fm) : ∃ w', ((w.alloc (.cells cs 34)).alloc (.cells #[.int .u8 0, .int .u8 0, .int .u32 0, .slice none 0 0, .int .i64 0, .int .u32 0, .int .u32 0, .int .u8 0, .bool false, .int .u32 0, .slice none 0 0] 32)).setRow (w.heap.size + 1) x.c = w' ∧
    Row (w.alloc (.cells cs 34)) w.heap.size 34 cs ∧ Row ((w.alloc (.cells cs 34)).alloc (.cells #[.int .u8 0, .int .u8 0, .int .u32 0, .slice none 0 0, .int .i64 0, .int .u32 0, .int .u32 0, .int .u8 0, .bool false, .int .u32 0, .slice none 0 0] 32)) (w.heap.size + 1) 32 fmz.c ∧
    Row w' w.heap.size 34 cs ∧ Row w' (w.heap.size + 1) 32 x.c ∧ Below w.heap.size w w' ∧ w'.heap.size = w.heap.size + 2 := by
  have h1 : Row ((w.alloc (.cells cs 34)).alloc (.cells #[.int .u8 0, .int .u8 0, .int .u32 0, .slice none 0 0, .int .i64 0, .int .u32 0, .int .u32 0, .int .u8 0, .bool false, .int .u32 0, .slice none 0 0] 32)) (w.heap.size + 1) 32 fmz.c := by rw [fm_zero]; exact Row.made _ _ _ (by simp)
  exact ⟨_, rfl, Row.new w _ _, h1, ((Row.new w _ _).alloc _).row_far (by omega) _, h1.setRow _, below_setRow (((Below.refl _ _).alloc (Nat.le_refl _) _).alloc (by simp) _) _ _ (by omega), by simp⟩
theorem mk_be (x : Fm) (d : List UInt8) (hd : x.dn = d.length) (h1 : x.ty < 256) (h2 : x.fl < 256) (h3 : x.st < 4294967296) : ∃ e : Be, e.x = x ∧ e.d = d ∧ e.key = (x.ty, x.fl, x.st, d) := ⟨⟨x, d, hd, h1, h2, h3⟩, rfl, rfl, rfl⟩
attribute [local irreducible] Fm.c whc
set_option maxRecDepth 100000 in
set_option maxHeartbeats 8000000 in
theorem cut_any {w : World} {A : Option Addr} {c : Nat} {b : List UInt8} {st n : Nat} {en : Bool} (hr : RdB w w.heap.size A b) (hc : b.length ≤ c) (hb : b.length ≤ 1000) (hn : 1 ≤ n ∧ n ≤ 16384) (hst : st < 4294967296) :
    Calls Tryd.prog 13 #[.agg (whc st A b.length c en), .int .i64 n] w fun e w' => (∃ v E, e = .returned v ∧ FrL w' w.heap.size v E ∧ CutP n b st en E) ∧ Below w.heap.size w w' := by
  obtain ⟨w1, hw1, t1, t2, t3, t4, t5, t6⟩ := cu_vars w (whc st A b.length c en) (fcx 1 0 st)
  have T7 := Lib.hid hw1
  have T1 := Lib.hid t1
  have T2 := Lib.hid t2
  have RW1 := Lib.hid t3
  have RF1 := Lib.hid t4
  have HB1 := Lib.hid t5
  have HS1 : Hid (w1.heap.size = w.heap.size + 2) := t6
  have HR1 : Hid (RdB w1 w.heap.size A b) := hr.below t5
  have HC := Lib.hid hc
  have HBL := Lib.hid hb
  have HN := Lib.hid hn
  have HST := Lib.hid hst
  have hmm := mm_16 n hn.1 hn.2
  clear hw1 t1 t2 t3 t4 t5 t6 hr hc hb hn hst
  obtain ⟨q0, _, _⟩ := wh_cells T1.out
  go_enter Tryd.func13, Tryd.ntmps13
  go_upto_region 3 with (first | (refine wpList_build_is rfl 32 _ rfl (fcx 1 0 st).c (by kernel_rfl) ?_) | (refine wpList_sw (cs := (fcx 1 0 st).c) rfl _ _ rfl rfl rfl T2.out (fm_sz _ _) (fm_ok _) ?_))
  rw [T7.out]
  clear T7 T1 T2 hmm q0
  generalize hp : w.heap.size = p at *
  have HP := Lib.hid hp
  clear hp
  obtain ⟨q0, q1, q2⟩ := wh_cells RW1.out
  have ht := RF1.out.thawed 1
  obtain ⟨_, f1, _⟩ := fm_cells RF1.out
  have f1' : w1.cell? ⟨p + 1, 1, none⟩ = some (.int .u8 0) := f1
  clear f1
  obtain ⟨fl0, hfl0⟩ : ∃ fl0 : Nat, fl0 = (if en = true then 1 else 0) := ⟨_, rfl⟩
  have HF0 : Hid (fl0 = (if en = true then 1 else 0)) := hfl0
  clear hfl0
  obtain ⟨w2, hw2, RF2, RW2, HB2, HR2, HS2⟩ : ∃ w2, (en = true ∧ w1.setCell ⟨p + 1, 1, none⟩ (.int .u8 1) = w2 ∨ en = false ∧ w1 = w2) ∧ Hid (Row w2 (p + 1) 32 (fcx 1 fl0 st).c) ∧ Hid (Row w2 p 34 (whc st A b.length c en)) ∧ Hid (Below p w w2) ∧ Hid (RdB w2 p A b) ∧ Hid (w2.heap.size = p + 2) := by
    cases en with
    | true =>
      have e0 : fl0 = 1 := HF0.out
      subst e0
      refine ⟨_, .inl ⟨rfl, rfl⟩, ?_, RW1.out.set_far (by omega) _ _, HB1.out.setCell (p := ⟨p + 1, 1, none⟩) (by show p ≤ p + 1; omega) _, HR1.out.below ((Below.refl p w1).setCell (p := ⟨p + 1, 1, none⟩) (by show p ≤ p + 1; omega) _), ?_⟩
      · have := RF1.out.stored 1 (.int .u8 1)
        have e1 := fcx_fl 1 0 st 1
        rw [show (Value.int .u8 ((1 : Nat) : Int)) = .int .u8 1 from rfl] at e1
        rw [e1] at this
        exact this
      · show _ = _
        rw [← HS1.out]
        simp [World.setCell]
    | false =>
      have e0 : fl0 = 0 := HF0.out
      subst e0
      exact ⟨_, .inr ⟨rfl, rfl⟩, RF1, RW1, HB1, HR1, HS1⟩
  have HW2 := Lib.hid hw2
  clear hw2 RF1 HB1 HR1 HS1
  go_upto_if 15 with fail
  go_cut [] (fun wx => wx = w2)
  case first =>
    rcases HW2.out with ⟨rfl, h1⟩ | ⟨rfl, h1⟩
    · have H1 := Lib.hid h1
      clear h1 HW2
      go_wp2_with fail
      go_meet
      exact H1.out
    · subst h1
      clear HW2
      go_wp2_with fail
      go_meet
      rfl
  case rest =>
    subst hcut
    clear HW2 RW1 q0 q1 q2 ht f1'
    generalize wc = w3 at *
    obtain ⟨_, q1, _⟩ := wh_cells RW2.out
    go_upto_region 7 with fail
    clear q1
    go_loopw [6, 7] (fun lv rv wr => ∃ (k m ty fl : Nat) (A' : Option Addr) (c' : Nat) (E : List Be) (v : Value), k ≤ 1000 ∧ m ≤ 1000 ∧ v = lv ∧ rv = .slice A' m c' ∧ m ≤ c' ∧ Hid (m = b.length - k * n ∧ k * n ≤ b.length) ∧ Hid (RdB wr p A' (b.drop (k * n))) ∧ Hid (FrL wr (p + 2) v E) ∧ Hid (E.length = k ∧ ∀ j (h : j < E.length), E[j].key = cuG n b st en j) ∧
        Hid (ty = (if k = 0 then 1 else 9) ∧ fl = (if k = 0 ∧ en = true then 1 else 0)) ∧ Hid (Row wr (p + 1) 32 (fcx ty fl st).c) ∧ Hid (Row wr p 34 (whc st A b.length c en)) ∧ Hid (Below p w wr))
      (fun _ rv _ => match rv with | .slice _ m _ => m | _ => 0)
    case atStart =>
      refine ⟨0, b.length, 1, fl0, A, c, [], _, by omega, HBL.out, rfl, rfl, HC.out, ?_, ?_, FrL.nil _ _, ?_, ?_, RF2, RW2, HB2⟩
      · show _ ∧ _; omega
      · show RdB _ _ _ _; rw [Nat.zero_mul, List.drop_zero]; exact HR2.out
      · exact ⟨rfl, fun j h => absurd h (by simp)⟩
      · refine ⟨rfl, ?_⟩
        rw [HF0.out]
        simp
    case round =>
      obtain ⟨k, m, ty, fl, A', c', E, v, hk, hm, rfl, rfl, hmc, HM, HR, HE, HK, HTF, RF, RW, HB⟩ := hrel
      clear RF2 RW2 HB2 HR2 HS2
      have hln : (b.drop (k * n)).length = m := by rw [List.length_drop]; exact HM.out.1.symm
      by_cases hlt : n < m
      · have h7 : (n : Int) < (m : Int) := by omega
        obtain ⟨i0, hi0, hz0, hz1, hz2⟩ := info_parts u8_info
        obtain ⟨hcu, hru⟩ := cut_upto (P := Tryd.prog) Tryd.underlying29 hi0 hz1 HR.out (c := c') (k := n) (by omega) (by omega)
        obtain ⟨A3, hcf, hrf⟩ := cut_from (P := Tryd.prog) Tryd.underlying29 hi0 hz1 HR.out (c := c') (k := n) (by omega) (by omega)
        rw [hln] at hcu hcf
        have htl : ((b.drop (k * n)).take n).length = n := by rw [List.length_take, hln]; omega
        have hpz : p ≤ wr.heap.size := by have := HB.out.size; have := HP.out; omega
        have hcl := bclone_any (c := c') hru hpz (by rw [htl]; have := HN.out; omega)
        rw [htl] at hcl
        have HCL := Lib.hid hcl
        have HRF := Lib.hid hrf
        have HTL := Lib.hid htl
        clear hcl hru hrf htl hi0 hz0 hz1 hz2
        go_wp2_with fail
        refine HCL.out.mono ?_
        rintro e w4 ⟨⟨u, rfl, hbo⟩, hb4⟩
        obtain ⟨A2, c2, rfl, -⟩ := Bo.shape hbo
        rw [HTL.out] at hbo ⊢
        have RF4 := Lib.hid (RF.out.below hb4 RF.out.lt)
        have RW4 := Lib.hid (RW.out.below hb4 RW.out.lt)
        have HE4 := Lib.hid (HE.out.below hb4)
        have HB4 : Hid (Below p w w4) := HB.out.trans (hb4.mono hpz)
        have HBO := Lib.hid hbo
        have HOL : Hid (∀ j, ob v j → j < wr.heap.size) := fun j hj => (OwS.lt HE.out.own j hj).2
        have HSZ : Hid (p + 2 ≤ wr.heap.size ∧ wr.heap.size ≤ w4.heap.size) := ⟨RF.out.lt, hb4.size⟩
        have HR4 : Hid (RdB w4 p A3 ((b.drop (k * n)).drop n)) := HRF.out.below (hb4.mono hpz)
        clear hbo hb4 HCL HRF HR HE RF RW HB
        have ht3 := RF4.out.thawed 3
        obtain ⟨_, _, _, f3, _⟩ := fm_cells RF4.out
        have RF5 : Hid (Row (w4.setCell ⟨p + 1, 3, none⟩ (.slice A2 n c2)) (p + 1) 32 ((fcx ty fl st).own A2 n c2).c) := by
          have := RF4.out.stored 3 (.slice A2 n c2)
          rw [fcx_own] at this
          exact this
        have RW5 := Lib.hid (RW4.out.set_far (b := p) (k := p + 1) (by omega) 3 (.slice A2 n c2))
        have HE5 := Lib.hid (HE4.out.set_far (k := p + 1) (by omega) 3 (.slice A2 n c2))
        have HB5 := Lib.hid (HB4.out.setCell (p := ⟨p + 1, 3, none⟩) (by show p ≤ p + 1; omega) (.slice A2 n c2))
        have HBO5 := Lib.hid (HBO.out.set_far (HBO.out.ne RF4.out (by decide)) 3 (.slice A2 n c2))
        have HR5 : Hid (RdB (w4.setCell ⟨p + 1, 3, none⟩ (.slice A2 n c2)) p A3 ((b.drop (k * n)).drop n)) := HR4.out.below ((Below.refl p w4).setCell (p := ⟨p + 1, 3, none⟩) (by show p ≤ p + 1; omega) _)
        have HSZ5 : Hid (p + 2 ≤ wr.heap.size ∧ wr.heap.size ≤ (w4.setCell ⟨p + 1, 3, none⟩ (.slice A2 n c2)).heap.size) := ⟨HSZ.out.1, by simp [World.setCell]; exact HSZ.out.2⟩
        go_upto_region 10 with fail
        clear RF4 RW4 HE4 HB4 HBO HR4 HSZ ht3 f3
        generalize w4.setCell ⟨p + 1, 3, none⟩ (.slice A2 n c2) = w5 at *
        have hpb : Below w5.heap.size w5 (w5.alloc (.cells ((fcx ty fl st).own A2 n c2).c 32)) := (Below.refl _ _).alloc (Nat.le_refl _) _
        have RF6 := Lib.hid (RF5.out.below hpb RF5.out.lt)
        have RW6 := Lib.hid (RW5.out.below hpb RW5.out.lt)
        have HE6 := Lib.hid (HE5.out.below hpb)
        have HB6 : Hid (Below p w (w5.alloc (.cells ((fcx ty fl st).own A2 n c2).c 32))) := HB5.out.trans (hpb.mono (by have := HSZ5.out; omega))
        have HR6 : Hid (RdB (w5.alloc (.cells ((fcx ty fl st).own A2 n c2).c 32)) p A3 ((b.drop (k * n)).drop n)) := HR5.out.below (hpb.mono (by have := HSZ5.out; omega))
        have HSZ6 : Hid (p + 2 ≤ (w5.alloc (.cells ((fcx ty fl st).own A2 n c2).c 32)).heap.size) := by have := HSZ5.out; show _ ≤ _; simp; omega
        have HI6 : Hid (RdS (w5.alloc (.cells ((fcx ty fl st).own A2 n c2).c 32)) (fun j => p + 2 ≤ j ∧ j < (w5.alloc (.cells ((fcx ty fl st).own A2 n c2).c 32)).heap.size ∧ ¬ ob v j) A2 (byc ((b.drop (k * n)).take n))) :=
          ((Bo.low HBO5.out).keep fun j hj => hpb.block j hj.2).imp fun j hj hl => ⟨by have := HSZ5.out; omega, hl, fun h => by have := HOL.out j h; omega⟩
        clear hpb HBO5 HE5 RW5 HB5 HR5 HOL
        obtain ⟨e, hex, hed, hek⟩ := mk_be ((fcx ty fl st).own A2 n c2) ((b.drop (k * n)).take n) HTL.out.symm (by show ty < 256; rw [HTF.out.1]; split <;> omega) (by show fl < 256; rw [HTF.out.2]; split <;> omega) HST.out
        have HKE : Hid (e.key = cuG n b st en k) := by
          show _ = _
          rw [hek]
          show (ty, fl, st, _) = _
          unfold cuG
          rw [HTF.out.1, HTF.out.2]
        have HQ6 : Hid (Row (w5.alloc (.cells ((fcx ty fl st).own A2 n c2).c 32)) w5.heap.size 32 e.x.c) := by
          show Row _ _ _ _
          rw [hex]
          exact Row.new w5 _ _
        have HJ6 : Hid (RdS (w5.alloc (.cells ((fcx ty fl st).own A2 n c2).c 32)) (fun j => p + 2 ≤ j ∧ j < (w5.alloc (.cells ((fcx ty fl st).own A2 n c2).c 32)).heap.size ∧ ¬ ob v j) e.x.dA (byc e.d)) := by
          show RdS _ _ _ _
          rw [hex, hed]
          exact HI6.out
        have HEX := Lib.hid hex
        clear hex hed hek
        go_upto_region 11 with (first | (refine wpList_fm rfl _ rfl rfl RF5.out ?_) | (refine wpList_bs1 (fun W => bs_fr _ W) rfl _ rfl rfl ?_) | (at_builtin; go_loud (refine wpList_appF rfl (.tmp 31) (.tmp 33) rfl (base := p + 2) (v := v) (E := E) rfl HE6.out e w5.heap.size rfl HQ6.out HJ6.out (by have := HK.out.1; omega) HSZ6.out ?_; intro v7 w7 hE7 hF7 hN7)))
        have hvl : ∀ j, ob v j → p + 2 ≤ j := fun j hj => (OwS.lt HE6.out.own j hj).1
        have hfb := hF7.below (B := p) (fun j hj _ => by have := hvl j hj; omega) (by have := HSZ6.out; omega)
        have RF7 : Hid (Row w7 (p + 1) 32 ((fcx ty fl st).own A2 n c2).c) := hF7.row (fun h => by have := hvl _ h; omega) RF6.out
        have RW7 : Hid (Row w7 p 34 (whc st A b.length c en)) := hF7.row (fun h => by have := hvl _ h; omega) RW6.out
        have HB7 := Lib.hid (HB6.out.trans hfb)
        have HR7 : Hid (RdB w7 p A3 ((b.drop (k * n)).drop n)) := HR6.out.below hfb
        have HE7 := Lib.hid hE7
        clear hvl hfb hE7 hF7 hN7 RF5 RF6 RW6 HE6 HB6 HR6 HQ6 HI6 HJ6 HSZ5 HEX HTL
        have RF8 := Lib.hid (RF7.out.setRow (fcx 9 0 st).c)
        have RW8 := Lib.hid (RW7.out.row_far (b := p) (k := p + 1) (by omega) (fcx 9 0 st).c)
        have HE8 := Lib.hid (HE7.out.row_far (k := p + 1) (by omega) (fcx 9 0 st).c)
        have HB8 := Lib.hid (below_setRow HB7.out (p + 1) (fcx 9 0 st).c (by omega))
        have HR8 : Hid (RdB (w7.setRow (p + 1) (fcx 9 0 st).c) p A3 ((b.drop (k * n)).drop n)) := HR7.out.below (below_setRow (Below.refl p w7) (p + 1) _ (by omega))
        obtain ⟨q0, _, _⟩ := wh_cells RW7.out
        go_upto_region 8 with (first | (refine wpList_build_is rfl 32 _ rfl (fcx 9 0 st).c (by kernel_rfl) ?_) | (refine wpList_sw (cs := (fcx 9 0 st).c) rfl _ _ rfl rfl rfl RF7.out (fm_sz _ _) (fm_ok _) ?_))
        clear q0 RF7 RW7 HE7 HB7 HR7
        generalize w7.setRow (p + 1) (fcx 9 0 st).c = w8 at *
        go_wp2_with fail
        go_roundw
        case rel =>
          refine ⟨k + 1, m - n, 9, 0, A3, c' - n, E ++ [e], v7, ?_, by omega, rfl, rfl, by omega, ?_, ?_, HE8, ?_, ?_, RF8, RW8, HB8⟩
          · have h1 := HM.out
            have h2 := HBL.out
            have h3 := HN.out.1
            have h4 : k * 1 ≤ k * n := Nat.mul_le_mul_left k h3
            omega
          · show _ ∧ _
            have h1 := HM.out
            rw [Nat.succ_mul]
            omega
          · show RdB _ _ _ _
            have := HR8.out
            rw [List.drop_drop] at this
            rw [Nat.succ_mul]
            exact this
          · exact ⟨by rw [List.length_append, HK.out.1]; rfl, cut_step HK.out.1 HK.out.2 HKE.out⟩
          · exact ⟨by rw [if_neg (by omega)], by rw [if_neg (by omega)]⟩
        case measure =>
          have := HN.out.1
          simp
          omega
      · have h7 : decide (n < m) = false := decide_eq_false (by omega)
        have hfl2 : fl < 2 := by rw [HTF.out.2]; split <;> omega
        obtain ⟨f4, hf4⟩ : ∃ f4 : Nat, f4 = fl + 4 := ⟨_, rfl⟩
        have ho4 := or4 ⟨fl, hfl2⟩
        simp only at ho4
        rw [← hf4] at ho4
        have HF4 : Hid (f4 = fl + 4) := hf4
        have hpz : p ≤ wr.heap.size := by have := HB.out.size; have := HP.out; omega
        have HPZ : Hid (p ≤ wr.heap.size ∧ p + 2 ≤ wr.heap.size) := ⟨hpz, RF.out.lt⟩
        have HML : Hid (m ≤ n) := by show m ≤ n; omega
        have HOL : Hid (∀ j, ob v j → p + 2 ≤ j ∧ j < wr.heap.size) := fun j hj => OwS.lt HE.out.own j hj
        have HLN := Lib.hid hln
        clear hfl2 hf4 hlt hpz hln
        have ht1 := RF.out.thawed 1
        obtain ⟨_, f1, _⟩ := fm_cells RF.out
        have f1' : wr.cell? ⟨p + 1, 1, none⟩ = some (.int .u8 fl) := f1
        clear f1
        have RF2 : Hid (Row (wr.setCell ⟨p + 1, 1, none⟩ (.int .u8 f4)) (p + 1) 32 (fcx ty f4 st).c) := by
          have := RF.out.stored 1 (.int .u8 f4)
          rw [fcx_fl] at this
          exact this
        have HE2 := Lib.hid (HE.out.set_far (k := p + 1) (by omega) 1 (.int .u8 f4))
        have HB2 := Lib.hid (HB.out.setCell (p := ⟨p + 1, 1, none⟩) (by show p ≤ p + 1; omega) (.int .u8 f4))
        have HR2 : Hid (RdB (wr.setCell ⟨p + 1, 1, none⟩ (.int .u8 f4)) p A' (b.drop (k * n))) := HR.out.below ((Below.refl p wr).setCell (p := ⟨p + 1, 1, none⟩) (by show p ≤ p + 1; omega) _)
        have HPZ2 : Hid (p ≤ (wr.setCell ⟨p + 1, 1, none⟩ (.int .u8 f4)).heap.size ∧ (wr.setCell ⟨p + 1, 1, none⟩ (.int .u8 f4)).heap.size = wr.heap.size) := by
          have h : (wr.setCell ⟨p + 1, 1, none⟩ (.int .u8 f4)).heap.size = wr.heap.size := by simp [World.setCell]
          exact ⟨by rw [h]; exact HPZ.out.1, h⟩
        go_upto_region 13 with fail
        clear RF RW HB HE HR ht1 f1' ho4
        generalize wr.setCell ⟨p + 1, 1, none⟩ (.int .u8 f4) = w2 at *
        have hcl := bclone_any (c := c') HR2.out HPZ2.out.1 (by rw [HLN.out]; have := HBL.out; omega)
        rw [HLN.out] at hcl
        have HCL := Lib.hid hcl
        clear hcl HR2
        go_wp2_with fail
        refine HCL.out.mono ?_
        rintro e w4 ⟨⟨u, rfl, hbo⟩, hb4⟩
        obtain ⟨A2, c2, rfl, -⟩ := Bo.shape hbo
        rw [HLN.out] at hbo ⊢
        have RF4 := Lib.hid (RF2.out.below hb4 RF2.out.lt)
        have HE4 := Lib.hid (HE2.out.below hb4)
        have HB4 : Hid (Below p w w4) := HB2.out.trans (hb4.mono HPZ2.out.1)
        have HBO : Hid (Bo w4 wr.heap.size 5 (.slice A2 m c2) (b.drop (k * n))) := by have := hbo; rw [HPZ2.out.2] at this; exact this
        clear hbo hb4 HCL RF2 HE2 HB2
        have ht3 := RF4.out.thawed 3
        obtain ⟨_, _, _, f3, _⟩ := fm_cells RF4.out
        have RF5 : Hid (Row (w4.setCell ⟨p + 1, 3, none⟩ (.slice A2 m c2)) (p + 1) 32 ((fcx ty f4 st).own A2 m c2).c) := by
          have := RF4.out.stored 3 (.slice A2 m c2)
          rw [fcx_own] at this
          exact this
        have HE5 := Lib.hid (HE4.out.set_far (k := p + 1) (by omega) 3 (.slice A2 m c2))
        have HB5 := Lib.hid (HB4.out.setCell (p := ⟨p + 1, 3, none⟩) (by show p ≤ p + 1; omega) (.slice A2 m c2))
        have HBO5 := Lib.hid (HBO.out.set_far (HBO.out.ne RF4.out (by decide)) 3 (.slice A2 m c2))
        go_upto_region 14 with fail
        clear RF4 HE4 HB4 HBO ht3 f3
        generalize w4.setCell ⟨p + 1, 3, none⟩ (.slice A2 m c2) = w5 at *
        have HP5 : Hid (p ≤ w5.heap.size) := by have := HB5.out.size; have := HP.out; show _ ≤ _; omega
        have hpb : Below w5.heap.size w5 (w5.alloc (.cells ((fcx ty f4 st).own A2 m c2).c 32)) := (Below.refl _ _).alloc (Nat.le_refl _) _
        have HE6 := Lib.hid (HE5.out.below hpb)
        have HB6 : Hid (Below p w (w5.alloc (.cells ((fcx ty f4 st).own A2 m c2).c 32))) := HB5.out.trans (hpb.mono HP5.out)
        have HSZ6 : Hid (p + 2 ≤ (w5.alloc (.cells ((fcx ty f4 st).own A2 m c2).c 32)).heap.size) := by have := RF5.out.lt; show _ ≤ _; simp; omega
        have HI6 : Hid (RdS (w5.alloc (.cells ((fcx ty f4 st).own A2 m c2).c 32)) (fun j => p + 2 ≤ j ∧ j < (w5.alloc (.cells ((fcx ty f4 st).own A2 m c2).c 32)).heap.size ∧ ¬ ob v j) A2 (byc (b.drop (k * n)))) :=
          ((Bo.low HBO5.out).keep fun j hj => hpb.block j hj.2).imp fun j hj hl => ⟨by have := HPZ.out.2; omega, hl, fun h => by have := (HOL.out j h).2; omega⟩
        obtain ⟨e, hex, hed, hek⟩ := mk_be ((fcx ty f4 st).own A2 m c2) (b.drop (k * n)) HLN.out.symm (by show ty < 256; rw [HTF.out.1]; split <;> omega) (by show f4 < 256; rw [HF4.out, HTF.out.2]; split <;> omega) HST.out
        have HKE : Hid (e.key = cuF n b st en k k) := by
          show _ = _
          rw [hek]
          show (ty, f4, st, _) = _
          unfold cuF
          rw [if_pos rfl, HF4.out, HTF.out.1, HTF.out.2]
        have HQ6 : Hid (Row (w5.alloc (.cells ((fcx ty f4 st).own A2 m c2).c 32)) w5.heap.size 32 e.x.c) := by
          show Row _ _ _ _
          rw [hex]
          exact Row.new w5 _ _
        have HJ6 : Hid (RdS (w5.alloc (.cells ((fcx ty f4 st).own A2 m c2).c 32)) (fun j => p + 2 ≤ j ∧ j < (w5.alloc (.cells ((fcx ty f4 st).own A2 m c2).c 32)).heap.size ∧ ¬ ob v j) e.x.dA (byc e.d)) := by
          show RdS _ _ _ _
          rw [hex, hed]
          exact HI6.out
        have HCP : Hid (CutP n b st en (E ++ [e])) := cut_last HK.out.1 HK.out.2 HKE.out HM.out.2 (by
          have h1 := HM.out
          have h2 := HML.out
          rw [Nat.succ_mul]
          omega)
        clear hpb HBO5 HE5 HB5 hex hed hek HI6 HKE
        go_wp2_with (first | (refine wpList_fm rfl _ rfl rfl RF5.out ?_) | (refine wpList_bs1 (fun W => bs_fr _ W) rfl _ rfl rfl ?_) | (at_builtin; go_loud (refine wpList_appF rfl (.tmp 45) (.tmp 47) rfl (base := p + 2) (v := v) (E := E) rfl HE6.out e w5.heap.size rfl HQ6.out HJ6.out (by have := HK.out.1; omega) HSZ6.out ?_; intro v7 w7 hE7 hF7 hN7)))
        go_ret
        have hfb := hF7.below (B := p) (fun j hj _ => by have := (HOL.out j hj).1; omega) (by have := HSZ6.out; omega)
        rw [HP.out]
        exact ⟨⟨v7, E ++ [e], rfl, hE7.mono (by omega), HCP.out⟩, HB6.out.trans hfb⟩
end Go.Proofs.YtcbepicdnmnfaaaDoor
