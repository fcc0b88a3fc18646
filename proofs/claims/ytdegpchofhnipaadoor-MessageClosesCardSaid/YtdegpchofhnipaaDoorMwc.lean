/-
  MessageCloses: the law's walk. Conditions: errors.errorType holds what the program's text lays.
-/
import Derived.Test.YtdegpchofhnipaaDoorMfx
import Derived.Test.YtdegpchofhnipaaDoorMrs
import Derived.Test.YtdegpchofhnipaaDoorTk
namespace Go.Proofs.YtdegpchofhnipaaDoor
open Go.RowKit Go.WideShapes

theorem yields_text {P : Program} {ops : Array Oper} {S : World → Prop} {o : Oper} {a : Act} (hw : Region.wanted o (yielded ops a.tmps) = true) {src e dst : TypeId} (y : Operand) (ho : o.op = .convert src dst y) {A : Option Addr} {l : List UInt8} {c B : Nat} (hy : a.eval y = .slice A l.length c)
    (hs : P.underlying src = some (.slice e)) (he : P.underlying e = some (.int .u8)) (hd : P.underlying dst = some .string) (hS : ∀ w, S w → RdB w B A l) : YieldsIf P ops S o (.string (txb l)) a :=
  .inl ⟨hw, fun w hw' => by
    unfold execOp
    have h := run_text (P := P) (c := c) hs he hd (hS w hw')
    simp only [ho, hy, Sem.run_bind, Sem.run_pure, Result.andThen_ok, h]
    rfl⟩
set_option maxRecDepth 100000 in
set_option maxHeartbeats 4000000 in
theorem mwcloses_big {code : Nat} {t : ByteArray} {w : World} (hG : GlobE w) (hbig : 3000 < t.size) : Calls Tryd.prog 5 #[.int .u32 (code : Int), .string t] w fun e w' => e = .returned (.bool true) ∧ Below w.heap.size w w' := by
  have hfx := fixed18_any w hG
  have hd1 : decide ((3000 : Int) < (t.size : Int)) = true := decide_eq_true (by omega)
  have hd2 : decide (3000 < t.size) = true := decide_eq_true hbig
  go_enter Tryd.func5, Tryd.ntmps5
  go_wp2_with fail
  refine hfx.mono ?_
  rintro e w1 ⟨rfl, hb1⟩
  go_wp2_with fail
  go_ret
  exact ⟨rfl, hb1⟩
/-- Behind Close: the close in its variable, its bytes. -/
structure CLW (w : World) (p5 B : Nat) (P : Array Value) (A2 : Option Addr) (L : List UInt8) (W : World) : Prop where
  pr : Row W p5 32 P
  bl : Below w.heap.size w W
  gl : GlobE W
  rd : RdS W (fun k => k < B) A2 (byc L)
  sz : B ≤ W.heap.size
section
variable {w W W' : World} {p5 B pf g : Nat} {P cs : Array Value} {A2 : Option Addr} {L : List UInt8} {X : Nat → Prop} {x : Gg}
theorem CLW.below (h : CLW w p5 B P A2 L W) (hb : Below W.heap.size W W') : CLW w p5 B P A2 L W' := ⟨h.pr.upM hb, h.bl.trans (hb.mono h.bl.size), h.gl.below hb, RdS.keep h.rd fun k hk => hb.block k (Nat.lt_of_lt_of_le hk h.sz), Nat.le_trans h.sz hb.size⟩
theorem CLW.took (h : CLW w p5 B P A2 L W) (hX : GX w g X x W') (ho : OddM W W') (hs : W.heap.size ≤ W'.heap.size) (hk : ∀ k, k < B → W'.heap[k]? = W.heap[k]?) : CLW w p5 B P A2 L W' := ⟨ho _ _ _ h.pr (by decide) (by decide) (by decide), hX.bl, hX.gl, RdS.keep h.rd hk, Nat.le_trans h.sz hs⟩
theorem CLW.noted (h : CLW w p5 B P A2 L W) (_hR : Row W pf 34 cs) (hp : p5 < pf) (hB : B ≤ p5) (hw : w.heap.size ≤ p5) (_hG : 0 < w.heap.size) (cs' : Array Value) : CLW w p5 B P A2 L (W.setRow pf cs') :=
  ⟨h.pr.setRow' (by omega) _, below_setRow h.bl _ _ (by omega), h.gl.fsM ((Fs.refl (fun k => k = pf) W).setRow (fun _ => rfl) cs') (by omega), RdS.keep h.rd fun k hk => setRow_other _ _ _ _ (by omega), by simpa using h.sz⟩
end
set_option maxRecDepth 100000 in
set_option maxHeartbeats 8000000 in
theorem mwcloses_small {code : Nat} {s : List UInt8} {w : World} (hG : GlobE w) (hs : s.length ≤ 3000) : Calls Tryd.prog 5 #[.int .u32 (code : Int), .string (txb s)] w fun e w' => e = .returned (.bool true) ∧ Below w.heap.size w w' := by
  have hsz := txb_size s
  have hd1 : decide ((3000 : Int) < ((txb s).size : Int)) = false := decide_eq_false (by omega)
  have hd2 : decide (3000 < (txb s).size) = false := decide_eq_false (by omega)
  have hcl := mclose_any (s := s) (code := code) (by omega) w
  have HRS := Lib.hid (fun W => rreason_any (s := s) (by omega) W)
  have hll := closeB_len code s
  have HNN := Lib.hid (closeN_made code s)
  have HLZ : Hid (¬ ToldM code → closeB code s = []) := fun h => by unfold closeB; rw [if_neg h]
  have HTK : Hid (takeM gg0 8 true (closeB code s) = (ggX, some (closeN (closeB code s)))) := take_close rfl true _
  have HG0 := Lib.hid hG
  have HLT : Hid (0 < w.heap.size) := blk_lt hG
  generalize txb s = y at *
  generalize closeN (closeB code s) = N at *
  generalize closeB code s = L at *
  have HLL := Lib.hid hll
  clear hG hs hsz hll
  go_enter Tryd.func5, Tryd.ntmps5
  go_wp2_with fail
  refine hcl.mono ?_
  rintro e w2 ⟨A2, c2, rfl, hr2, hc2, hb2⟩
  obtain ⟨hp1, hp2, hp3⟩ := pieceM w2 (pcC true 8 false 0 A2 L.length c2)
  have HP1 := Lib.hid hp1
  have HC : Hid (CLW w w2.heap.size w2.heap.size (pcC true 8 false 0 A2 L.length c2) A2 L _) := ⟨hp2, hb2.trans (hp3.mono hb2.size), (HG0.out.below hb2).below hp3, (RdS.keep hr2 fun k hk => hp3.block k hk.2).imp fun k hk _ => hk.2, hp3.size⟩
  have HW2 : Hid (w.heap.size ≤ w2.heap.size) := hb2.size
  have HCP := Lib.hid hc2
  clear hcl hr2 hc2 hb2 hp1 hp2 hp3 hd1 hd2
  go_upto_region 4 with (refine wpList_sw (cs := pcC true 8 false 0 A2 L.length c2) rfl _ _ rfl rfl rfl HP1.out rfl (pc_ok _ _ _ _ _ _ _) ?_)
  rw [zp_eq]
  clear HP1
  generalize (w2.alloc (.cells zpJ 32)).setRow w2.heap.size (pcC true 8 false 0 A2 L.length c2) = w3 at *
  generalize w2.heap.size = p5 at *
  go_wp2_with fail
  refine (mtold_any (c := code) _).mono ?_
  rintro e w4 ⟨rfl, hb⟩
  replace HC := Lib.hid (HC.out.below hb)
  clear hb
  go_wp2_with fail
  refine (rtold_any (c := code) _).mono ?_
  rintro e w5 ⟨rfl, rfl⟩
  have hqq : (decide (ToldM code) != decide (ToldM code)) = false := by simp
  have HRT := Lib.hid (fun W => rtold_any (c := code) W)
  obtain ⟨q, hq⟩ : ∃ q, q = decide (ToldM code) := ⟨_, rfl⟩
  have HQ := Lib.hid hq
  rw [← hq] at hqq HRT ⊢
  clear hq
  have hd3 : decide ((125 : Int) < (L.length : Int)) = false := decide_eq_false (by have := HLL.out; omega)
  have hd4 : decide (125 < L.length) = false := decide_eq_false (by have := HLL.out; omega)
  obtain ⟨c0, c1, cm, _, c4⟩ := pc_cells HC.out.pr
  go_upto_region 6 with fail
  clear c0 c1 cm c4 hd3 hd4 hqq
  go_cut [6, 7] (fun u6 u7 wx => ∃ pf A3 c3, u6 = .pointer (some ⟨pf, 0, none⟩) ∧ u7 = .bool true ∧ Hid (Row wx pf 34 (ntc N.kind N.text A3 N.dat.length c3 N.code)) ∧ Hid (Bo wx w.heap.size 5 (.slice A3 N.dat.length c3) N.dat) ∧ Hid (CLW w p5 p5 (pcC true 8 false 0 A2 L.length c2) A2 L wx))
  case first =>
    have HC0 : Hid (CLW w p5 p5 (pcC true 8 false 0 A2 L.length c2) A2 L w5.drew) := ⟨HC.out.pr, HC.out.bl.drew, HC.out.gl, RdS.keep HC.out.rd fun _ _ => rfl, HC.out.sz⟩
    clear HC
    have HC := HC0
    clear HC0
    refine wp_region_held_drew (S := fun W => Row W p5 32 (pcC true 8 false 0 A2 L.length c2)) (by kernel_rfl) HC.out.pr (fun hHeld => ?_)
    generalize w5.drew = w9 at *
    refine tkY 1 rfl (yields_ld (by rfl) _ rfl rfl (pc_ok _ _ _ _ _ _ _) (fun _ h => h)) ?_
    refine wpAnyH_ready (rs := [0, 6]) (by kernel_rfl) (by simp) ?_
    refine AllReadyH.cons rfl (fun K hK => ?_) (AllReadyH.cons rfl (fun K hK => ?_) AllReadyH.nil)
    · go_simp
      go_at_call 11
      refine (mnew_any _ HC.out.gl).mono ?_
      rintro e w5 ⟨rfl, hm, hb⟩
      have HX := Lib.hid (GX.start HC.out.bl hm hb HG0.out)
      have HS : Hid (p5 ≤ w9.heap.size) := HC.out.sz
      replace HC := Lib.hid (HC.out.below hb)
      clear hm hb
      generalize w9.heap.size = g at *
      refine hK.out _ _ HC.out.pr (fun hHeld => ?_)
      clear hK K
      try simp only [Act.put, List.getElem_toArray, List.getElem_cons_zero, List.getElem_cons_succ, List.setIfInBounds_toArray, List.set_cons_zero, List.set_cons_succ]
      refine wpAnyH_ready (rs := [2, 6]) (by kernel_rfl) (by simp) ?_
      refine AllReadyH.cons rfl (fun K hK => ?_) (AllReadyH.cons rfl (fun K hK => ?_) AllReadyH.nil)
      · go_simp
        go_at_call 12
        refine (HX.out.take (fin := true) (mask := false) (op := 8) (key := 0) (c := c2) (A := A2) (d := L) (HC.out.rd.imp fun k hk hl => ⟨hl, .inr (Nat.lt_of_lt_of_le hk HS.out)⟩) (fun k hk => Nat.lt_trans hk HX.out.lt.2) (by have := HLL.out; omega) HCP.out).mono ?_
        rw [HTK.out]
        rintro e w6 ⟨A3, c3, rfl, hO, _, hX, hx, hodd, hsz⟩
        have HO := Lib.hid hO
        replace HC := Lib.hid (HC.out.took hX hodd hsz fun k hk => hx k (Nat.lt_of_lt_of_le hk HS.out))
        clear hO hX hx hodd hsz HX HS
        refine hK.out _ _ HC.out.pr (fun hHeld => ?_)
        clear hK K
        try simp only
        refine tkH 3 ?_
        refine tkH 4 ?_
        refine tkH 5 ?_
        refine wpAnyH_ready (rs := [6]) (by kernel_rfl) (by simp) ?_
        refine AllReadyH.cons rfl (fun K hK => ?_) AllReadyH.nil
        go_simp
        have hba : Below w6.heap.size w6 (w6.alloc (.cells (ntc 0 false none 0 0 0) 34)) := (Below.refl _ _).alloc (Nat.le_refl _) _
        have HV : Hid (Row (w6.alloc (.cells (ntc 0 false none 0 0 0) 34)) w6.heap.size 34 (ntc 0 false none 0 0 0)) := Row.new _ _ _
        have HP : Hid (p5 < w6.heap.size) := HC.out.pr.lt
        replace HC := Lib.hid (HC.out.below hba)
        replace HO : Hid (Bo _ w.heap.size 5 _ N.dat) := Bo.below HO.out hba
        rw [nt0_eq]
        clear hba
        generalize w6.alloc (.cells (ntc 0 false none 0 0 0) 34) = w7 at *
        generalize w6.heap.size = pf at *
        refine hK.out _ _ HC.out.pr (fun hHeld => ?_)
        clear hK K
        try simp only [Act.put, List.getElem_toArray, List.getElem_cons_zero, List.getElem_cons_succ, List.setIfInBounds_toArray, List.set_cons_zero, List.set_cons_succ]
        refine wpAnyH_ready (rs := [7]) (by kernel_rfl) (by simp) ?_
        refine AllReadyH.cons rfl (fun K hK => ?_) AllReadyH.nil
        refine step_sw (cs := ntc N.kind N.text A3 N.dat.length c3 N.code) rfl _ _ rfl rfl rfl HV.out rfl (nt_ok _ _ _ _ _ _) ?_
        replace HC := Lib.hid (HC.out.noted HV.out HP.out (Nat.le_refl _) HW2.out HLT.out (ntc N.kind N.text A3 N.dat.length c3 N.code))
        replace HO : Hid (Bo _ w.heap.size 5 (.slice A3 N.dat.length c3) N.dat) := OwS.setRow HO.out (Bo.neJ HO.out HV.out (by decide)) (ntc N.kind N.text A3 N.dat.length c3 N.code)
        replace HV := Lib.hid (HV.out.setRow (ntc N.kind N.text A3 N.dat.length c3 N.code))
        refine hK.out _ _ HC.out.pr (fun hHeld => ?_)
        clear hK K
        try simp only [Act.put, List.getElem_toArray, List.getElem_cons_zero, List.getElem_cons_succ]
        refine tkH 8 ?_
        refine wpAnyH_done (by kernel_rfl) ?_ _
        go_wp2_with fail
        go_meet
        exact ⟨pf, A3, c3, rfl, rfl, HV, HO, HC⟩
      · go_simp
        have hba : Below w5.heap.size w5 (w5.alloc (.cells (ntc 0 false none 0 0 0) 34)) := (Below.refl _ _).alloc (Nat.le_refl _) _
        have HV : Hid (Row (w5.alloc (.cells (ntc 0 false none 0 0 0) 34)) w5.heap.size 34 (ntc 0 false none 0 0 0)) := Row.new _ _ _
        have HP : Hid (p5 < w5.heap.size) := HC.out.pr.lt
        replace HC := Lib.hid (HC.out.below hba)
        replace HX := Lib.hid (HX.out.below hba)
        rw [nt0_eq]
        clear hba
        generalize w5.alloc (.cells (ntc 0 false none 0 0 0) 34) = w7 at *
        generalize w5.heap.size = pf at *
        refine hK.out _ _ HC.out.pr (fun hHeld => ?_)
        clear hK K
        try simp only [Act.put, List.getElem_toArray, List.getElem_cons_zero, List.getElem_cons_succ, List.setIfInBounds_toArray, List.set_cons_zero, List.set_cons_succ]
        refine wpAnyH_ready (rs := [2]) (by kernel_rfl) (by simp) ?_
        refine AllReadyH.cons rfl (fun K hK => ?_) AllReadyH.nil
        go_simp
        go_at_call 12
        refine (HX.out.take (fin := true) (mask := false) (op := 8) (key := 0) (c := c2) (A := A2) (d := L) (HC.out.rd.imp fun k hk hl => ⟨hl, .inr (Nat.lt_of_lt_of_le hk HS.out)⟩) (fun k hk => Nat.lt_trans hk HX.out.lt.2) (by have := HLL.out; omega) HCP.out).mono ?_
        rw [HTK.out]
        rintro e w6 ⟨A3, c3, rfl, hO, _, hX, hx, hodd, hsz⟩
        have HO := Lib.hid hO
        replace HC := Lib.hid (HC.out.took hX hodd hsz fun k hk => hx k (Nat.lt_of_lt_of_le hk HS.out))
        replace HV := Lib.hid (hodd _ _ _ HV.out (by decide) (by decide) (by decide))
        clear hO hX hx hodd hsz HX HS
        refine hK.out _ _ HC.out.pr (fun hHeld => ?_)
        clear hK K
        try simp only
        refine tkH 3 ?_
        refine tkH 4 ?_
        refine tkH 5 ?_
        refine wpAnyH_ready (rs := [7]) (by kernel_rfl) (by simp) ?_
        refine AllReadyH.cons rfl (fun K hK => ?_) AllReadyH.nil
        refine step_sw (cs := ntc N.kind N.text A3 N.dat.length c3 N.code) rfl _ _ rfl rfl rfl HV.out rfl (nt_ok _ _ _ _ _ _) ?_
        replace HC := Lib.hid (HC.out.noted HV.out HP.out (Nat.le_refl _) HW2.out HLT.out (ntc N.kind N.text A3 N.dat.length c3 N.code))
        replace HO : Hid (Bo _ w.heap.size 5 (.slice A3 N.dat.length c3) N.dat) := OwS.setRow HO.out (Bo.neJ HO.out HV.out (by decide)) (ntc N.kind N.text A3 N.dat.length c3 N.code)
        replace HV := Lib.hid (HV.out.setRow (ntc N.kind N.text A3 N.dat.length c3 N.code))
        refine hK.out _ _ HC.out.pr (fun hHeld => ?_)
        clear hK K
        try simp only [Act.put, List.getElem_toArray, List.getElem_cons_zero, List.getElem_cons_succ]
        refine tkH 8 ?_
        refine wpAnyH_done (by kernel_rfl) ?_ _
        go_wp2_with fail
        go_meet
        exact ⟨pf, A3, c3, rfl, rfl, HV, HO, HC⟩
    · go_simp
      have hba : Below w9.heap.size w9 (w9.alloc (.cells (ntc 0 false none 0 0 0) 34)) := (Below.refl _ _).alloc (Nat.le_refl _) _
      have HV : Hid (Row (w9.alloc (.cells (ntc 0 false none 0 0 0) 34)) w9.heap.size 34 (ntc 0 false none 0 0 0)) := Row.new _ _ _
      have HP : Hid (p5 < w9.heap.size) := HC.out.pr.lt
      replace HC := Lib.hid (HC.out.below hba)
      rw [nt0_eq]
      clear hba
      generalize w9.alloc (.cells (ntc 0 false none 0 0 0) 34) = w7 at *
      generalize w9.heap.size = pf at *
      refine hK.out _ _ HC.out.pr (fun hHeld => ?_)
      clear hK K
      try simp only [Act.put, List.getElem_toArray, List.getElem_cons_zero, List.getElem_cons_succ, List.setIfInBounds_toArray, List.set_cons_zero, List.set_cons_succ]
      refine wpAnyH_ready (rs := [0]) (by kernel_rfl) (by simp) ?_
      refine AllReadyH.cons rfl (fun K hK => ?_) AllReadyH.nil
      go_simp
      go_at_call 11
      refine (mnew_any _ HC.out.gl).mono ?_
      rintro e w5 ⟨rfl, hm, hb⟩
      have HX := Lib.hid (GX.start HC.out.bl hm hb HG0.out)
      have HS : Hid (p5 ≤ w7.heap.size) := HC.out.sz
      replace HC := Lib.hid (HC.out.below hb)
      replace HV := Lib.hid (HV.out.upM hb)
      clear hm hb
      generalize w7.heap.size = g at *
      refine hK.out _ _ HC.out.pr (fun hHeld => ?_)
      clear hK K
      try simp only [Act.put, List.getElem_toArray, List.getElem_cons_zero, List.getElem_cons_succ, List.setIfInBounds_toArray, List.set_cons_zero, List.set_cons_succ]
      refine wpAnyH_ready (rs := [2]) (by kernel_rfl) (by simp) ?_
      refine AllReadyH.cons rfl (fun K hK => ?_) AllReadyH.nil
      go_simp
      go_at_call 12
      refine (HX.out.take (fin := true) (mask := false) (op := 8) (key := 0) (c := c2) (A := A2) (d := L) (HC.out.rd.imp fun k hk hl => ⟨hl, .inr (Nat.lt_of_lt_of_le hk HS.out)⟩) (fun k hk => Nat.lt_trans hk HX.out.lt.2) (by have := HLL.out; omega) HCP.out).mono ?_
      rw [HTK.out]
      rintro e w6 ⟨A3, c3, rfl, hO, _, hX, hx, hodd, hsz⟩
      have HO := Lib.hid hO
      replace HC := Lib.hid (HC.out.took hX hodd hsz fun k hk => hx k (Nat.lt_of_lt_of_le hk HS.out))
      replace HV := Lib.hid (hodd _ _ _ HV.out (by decide) (by decide) (by decide))
      clear hO hX hx hodd hsz HX HS
      refine hK.out _ _ HC.out.pr (fun hHeld => ?_)
      clear hK K
      try simp only
      refine tkH 3 ?_
      refine tkH 4 ?_
      refine tkH 5 ?_
      refine wpAnyH_ready (rs := [7]) (by kernel_rfl) (by simp) ?_
      refine AllReadyH.cons rfl (fun K hK => ?_) AllReadyH.nil
      refine step_sw (cs := ntc N.kind N.text A3 N.dat.length c3 N.code) rfl _ _ rfl rfl rfl HV.out rfl (nt_ok _ _ _ _ _ _) ?_
      replace HC := Lib.hid (HC.out.noted HV.out HP.out (Nat.le_refl _) HW2.out HLT.out (ntc N.kind N.text A3 N.dat.length c3 N.code))
      replace HO : Hid (Bo _ w.heap.size 5 (.slice A3 N.dat.length c3) N.dat) := OwS.setRow HO.out (Bo.neJ HO.out HV.out (by decide)) (ntc N.kind N.text A3 N.dat.length c3 N.code)
      replace HV := Lib.hid (HV.out.setRow (ntc N.kind N.text A3 N.dat.length c3 N.code))
      refine hK.out _ _ HC.out.pr (fun hHeld => ?_)
      clear hK K
      try simp only [Act.put, List.getElem_toArray, List.getElem_cons_zero, List.getElem_cons_succ]
      refine tkH 8 ?_
      refine wpAnyH_done (by kernel_rfl) ?_ _
      go_wp2_with fail
      go_meet
      exact ⟨pf, A3, c3, rfl, rfl, HV, HO, HC⟩
  case rest =>
    obtain ⟨pf, A3, c3, rfl, rfl, HV, HO, HC⟩ := hcut
    clear HTK HLL HCP
    go_wp2_with fail
    refine (HRT.out _).mono ?_
    rintro e w9 ⟨rfl, rfl⟩
    clear HRT
    have hfx := fixed18_any w9 HC.out.gl
    by_cases hT : ToldM code
    · have hq : q = true := by rw [HQ.out]; exact decide_eq_true hT
      subst hq
      rw [if_pos hT] at HNN
      have hN := HNN.out
      subst hN
      clear HNN HLZ HQ hT
      go_upto_region 9 with fail
      have HC2 : Hid (CLW w p5 p5 (pcC true 8 false 0 A2 L.length c2) A2 L w9.drew) := ⟨HC.out.pr, HC.out.bl.drew, HC.out.gl, RdS.keep HC.out.rd fun _ _ => rfl, HC.out.sz⟩
      have hfx := fixed18_any w9.drew HC2.out.gl
      have hn := nt_cells HV.out
      have k0 : w9.drew.cell? ⟨pf, 0, none⟩ = some (.int .u8 4) := hn.1
      have k2 : w9.drew.cell? ⟨pf, 2, none⟩ = some (.slice A3 (reasonM s).length c3) := hn.2.2.1
      have k3 : w9.drew.cell? ⟨pf, 3, none⟩ = some (.int .u32 (code : Int)) := hn.2.2.2
      have HB9 : Hid (pf < w9.drew.heap.size) := HV.out.lt
      have hrd : RdB w9.drew w9.drew.heap.size A3 (reasonM s) := Bo.reads HO.out
      clear HC HO HV hn
      refine wp_region_held_drew (S := fun W => W.cell? ⟨pf, 0, none⟩ = some (.int .u8 4) ∧ W.cell? ⟨pf, 2, none⟩ = some (.slice A3 (reasonM s).length c3) ∧ W.cell? ⟨pf, 3, none⟩ = some (.int .u32 (code : Int)) ∧ RdB W w9.drew.heap.size A3 (reasonM s)) (by kernel_rfl) ⟨k0, k2, k3, hrd⟩ (fun hHeld => ?_)
      clear k0 k2 k3 hrd
      generalize w9.drew = wa at *
      refine wpAnyH_ready (rs := [0]) (by kernel_rfl) (by simp) ?_
      refine AllReadyH.cons rfl (fun K hK => ?_) AllReadyH.nil
      go_simp
      go_at_call 10
      refine hfx.mono ?_
      rintro e wb ⟨rfl, hb⟩
      have HB2 := Lib.hid (HC2.out.bl.trans (hb.mono HC2.out.bl.size))
      have HH : Hid (wb.cell? ⟨pf, 0, none⟩ = some (.int .u8 4) ∧ wb.cell? ⟨pf, 2, none⟩ = some (.slice A3 (reasonM s).length c3) ∧ wb.cell? ⟨pf, 3, none⟩ = some (.int .u32 (code : Int)) ∧ RdB wb wa.heap.size A3 (reasonM s)) :=
        ⟨(hb.cell (p := ⟨pf, 0, none⟩) HB9.out).trans hHeld.1, (hb.cell (p := ⟨pf, 2, none⟩) HB9.out).trans hHeld.2.1, (hb.cell (p := ⟨pf, 3, none⟩) HB9.out).trans hHeld.2.2.1, hHeld.2.2.2.below hb⟩
      have HPB : Hid (pf < wb.heap.size ∧ wa.heap.size ≤ wb.heap.size) := ⟨Nat.lt_of_lt_of_le HB9.out hb.size, hb.size⟩
      clear hb hfx HC2 hHeld
      refine hK.out _ _ HH.out (fun hHeld => ?_)
      clear hK K
      try simp only [Act.put, List.getElem_toArray, List.getElem_cons_zero, List.getElem_cons_succ, List.setIfInBounds_toArray, List.set_cons_zero, List.set_cons_succ]
      refine tkH 1 ?_
      refine tkH 2 ?_
      refine tkH 3 ?_
      refine tkH 4 ?_
      refine tkH 5 ?_
      refine tkH 6 ?_
      refine tkH 7 ?_
      refine tkH 8 ?_
      refine tkH 9 ?_
      refine tkH 10 ?_
      refine tkH 11 ?_
      refine tkH 12 ?_
      refine tkH 13 ?_
      refine tkH 14 ?_
      refine tkH 15 ?_
      refine tkH 16 ?_
      refine tkH 17 ?_
      refine tkY 18 rfl (yields_text (by rfl) _ rfl rfl Tryd.underlying30 Tryd.underlying5 Tryd.underlying9 (fun _ h => h.2.2.2)) ?_
      refine tkH 19 ?_
      refine wpAnyH_ready (rs := [20]) (by kernel_rfl) (by simp) ?_
      refine AllReadyH.cons rfl (fun K hK => ?_) AllReadyH.nil
      go_simp
      go_at_call 22
      refine (HRS.out _).mono ?_
      rintro e wc ⟨rfl, hb⟩
      have HB3 := Lib.hid (HB2.out.trans (hb.mono HB2.out.size))
      have HH2 : Hid (wc.cell? ⟨pf, 0, none⟩ = some (.int .u8 4) ∧ wc.cell? ⟨pf, 2, none⟩ = some (.slice A3 (reasonM s).length c3) ∧ wc.cell? ⟨pf, 3, none⟩ = some (.int .u32 (code : Int)) ∧ RdB wc wa.heap.size A3 (reasonM s)) :=
        ⟨(hb.cell (p := ⟨pf, 0, none⟩) HPB.out.1).trans hHeld.1, (hb.cell (p := ⟨pf, 2, none⟩) HPB.out.1).trans hHeld.2.1, (hb.cell (p := ⟨pf, 3, none⟩) HPB.out.1).trans hHeld.2.2.1, hHeld.2.2.2.below (hb.mono HPB.out.2)⟩
      clear hb hHeld
      refine hK.out _ _ HH2.out (fun hHeld => ?_)
      clear hK K
      try simp only [Act.put, List.getElem_toArray, List.getElem_cons_zero, List.getElem_cons_succ, List.setIfInBounds_toArray, List.set_cons_zero, List.set_cons_succ]
      refine tkH 21 ?_
      refine tkH 22 ?_
      refine tkH 23 ?_
      refine wpAnyH_done (by kernel_rfl) ?_ _
      go_wp2_with fail
      go_ret
      exact ⟨rfl, HB3.out⟩
    · have hq : q = false := by rw [HQ.out]; exact decide_eq_false hT
      subst hq
      rw [if_neg hT] at HNN
      have hN := HNN.out
      subst hN
      have hL := HLZ.out hT
      subst hL
      clear HNN HLZ HQ hT HRS
      have HN0 := Lib.hid (nt_cells HV.out)
      go_wp2_with fail
      refine hfx.mono ?_
      rintro e wb ⟨rfl, hb⟩
      have HC2 := Lib.hid (HC.out.below hb)
      have hn := nt_cells (HV.out.upM hb)
      have k0 : wb.cell? ⟨pf, 0, none⟩ = some (.int .u8 4) := hn.1
      have k3 : wb.cell? ⟨pf, 3, none⟩ = some (.int .u32 1005) := hn.2.2.2
      have c4 : wb.cell? ⟨p5, 4, none⟩ = some (.slice A2 0 c2) := (pc_cells HC2.out.pr).2.2.2.2
      clear hb hfx HC hn HV HO HN0
      go_wp2_with fail
      go_ret
      exact ⟨rfl, HC2.out.bl⟩
theorem mwcloses_law {code : Nat} {s : List UInt8} {w : World} (hG : GlobE w) : Calls Tryd.prog 5 #[.int .u32 (code : Int), .string (txb s)] w fun e w' => e = .returned (.bool true) ∧ Below w.heap.size w w' := by
  rcases Nat.lt_or_ge 3000 s.length with h | h
  · exact mwcloses_big hG (by rw [txb_size]; exact h)
  · exact mwcloses_small hG h
theorem mwcloses_any {code : Nat} {t : ByteArray} {w : World} (hG : GlobE w) : Calls Tryd.prog 5 #[.int .u32 (code : Int), .string t] w fun e w' => e = .returned (.bool true) ∧ Below w.heap.size w w' := by
  have h := mwcloses_law (code := code) (s := t.data.toList) hG
  exact h
end Go.Proofs.YtdegpchofhnipaaDoor
