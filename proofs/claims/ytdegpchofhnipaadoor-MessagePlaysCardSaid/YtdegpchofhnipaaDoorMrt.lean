/-
  The document's gatherer: Take, by its contract. Conditions: how many bytes there may be.
-/
import Derived.Test.YtdegpchofhnipaaDoorMdx
import Derived.Test.YtdegpchofhnipaaDoorMtd
import Derived.Test.YtdegpchofhnipaaDoorVrg
import Derived.Test.YtdegpchofhnipaaDoorTk
import Derived.BigQuiet
namespace Go.Proofs.YtdegpchofhnipaaDoor
open Go.RowKit Go.WideShapes

/-- The document's gatherer's cells. -/
def g8 (x : Gg) : Array Value := #[.string (txb x.b), .bool x.busy, .bool x.text, .bool x.over]
theorem g8_info : (Tryd.prog.info? 28).map (·.size) = some 4 := by kernel_rfl
theorem g8_ok (x : Gg) : AgOk Tryd.prog 28 (g8 x) := ⟨⟨_, Tryd.underlying28⟩, g8_info, by unfold g8; kernel_rfl⟩
theorem g8_sz (x y : Gg) : (g8 x).size = (g8 y).size := rfl
theorem g8_eq : #[Value.string ⟨#[]⟩, .bool false, .bool false, .bool false] = g8 gg0 := rfl
/-- What Take leaves. -/
def RTakP (w : World) (r : Gg × Option Nt) (e : Ending) (w' : World) : Prop :=
  ∃ A c, e = .returned (.tuple #[.agg (g8 r.1), .agg (ntc (toldM r.2).kind (toldM r.2).text A (toldM r.2).dat.length c (toldM r.2).code), .bool r.2.isSome]) ∧ RdB w' w'.heap.size A (toldM r.2).dat ∧ Below w.heap.size w w'
/-- The same, the note's bytes in memory that the call made. -/
def RTakN (w : World) (r : Gg × Option Nt) (e : Ending) (w' : World) : Prop :=
  ∃ A c, e = .returned (.tuple #[.agg (g8 r.1), .agg (ntc (toldM r.2).kind (toldM r.2).text A (toldM r.2).dat.length c (toldM r.2).code), .bool r.2.isSome]) ∧ RdS w' (fun k => w.heap.size ≤ k ∧ k < w'.heap.size) A (byc (toldM r.2).dat) ∧ Below w.heap.size w w'
/-- Two variables, a gatherer and a note. -/
structure RV (w W : World) (p : Nat) (x : Array Value) (N : Array Value) : Prop where
  g : Row W p 28 x
  n : Row W (p + 1) 34 N
  b : Below w.heap.size w W
  l : w.heap.size ≤ p
section
variable {w W W' : World} {p : Nat} {x y N M : Array Value}
theorem RV.start (w : World) : RV w ((w.alloc (.cells (g8 gg0) 28)).alloc (.cells (ntc 0 false none 0 0 0) 34)) w.heap.size (g8 gg0) (ntc 0 false none 0 0 0) :=
  ⟨(Row.new w _ _).alloc _, Row.made _ _ _ (by simp), ((Below.refl _ _).alloc (Nat.le_refl _) _).alloc (by simp) _, Nat.le_refl _⟩
theorem RV.below (h : RV w W p x N) (hb : Below W.heap.size W W') : RV w W' p x N := ⟨h.g.upM hb, h.n.upM hb, h.b.trans (hb.mono h.b.size), h.l⟩
theorem RV.drewN (h : RV w W p x N) (k : Nat) : RV w (W.drewN k) p x N := ⟨h.g, h.n, below_dN h.b k, h.l⟩
theorem RV.setG (h : RV w W p x N) (y : Array Value) : RV w (W.setRow p y) p y N := ⟨h.g.setRow y, h.n.setRow' (by omega) y, below_setRow h.b _ _ h.l, h.l⟩
theorem RV.setN (h : RV w W p x N) (M : Array Value) : RV w (W.setRow (p + 1) M) p x M := ⟨h.g.setRow' (by omega) M, h.n.setRow M, below_setRow h.b _ _ (by have := h.l; omega), h.l⟩
end
set_option maxRecDepth 100000 in
set_option maxHeartbeats 2000000 in
theorem rbad_any (cd : Nat) (w : World) : Calls Tryd.prog 26 #[.int .u32 (cd : Int)] w (RTakN w (badM cd)) := by
  have H1 := Lib.hid (RV.start w)
  go_enter Tryd.func26, Tryd.ntmps26
  go_upto_region 1 with fail
  rw [nt0_eq, g8_eq]
  generalize (w.alloc (.cells (g8 gg0) 28)).alloc (.cells (ntc 0 false none 0 0 0) 34) = w1 at *
  generalize hp : w.heap.size = p at *
  have H2 := Lib.hid (H1.out.setG (g8 ggX))
  have H3 := Lib.hid (H2.out.setN (ntc 5 false none 0 0 cd))
  go_wp2_with (first
    | (refine wpList_sw (cs := g8 ggX) rfl _ _ rfl rfl rfl H1.out.g rfl (g8_ok _) ?_)
    | (refine wpList_sw (cs := ntc 5 false none 0 0 cd) rfl _ _ rfl rfl rfl H2.out.n rfl (nt_ok _ _ _ _ _ _) ?_))
  refine bodyPost_ret (retJ3 (by rfl) _ rfl H3.out.g (g8_ok _) rfl H3.out.n (nt_ok _ _ _ _ _ _) rfl) rfl ?_
  exact ⟨none, 0, rfl, RdS.nil, H3.out.b⟩
theorem txb_isEmpty (l : List UInt8) : (txb l).toList.isEmpty = l.isEmpty := by unfold txb; simp
set_option maxRecDepth 100000 in
set_option maxHeartbeats 4000000 in
theorem rcloses_any {s : List UInt8} (hl : s.length ≤ 100000) (w : World) : Calls Tryd.prog 25 #[.string (txb s)] w (RTakN w (ggX, some (closeN s))) := by
  have H1 := Lib.hid (RV.start w)
  match s, hl with
  | [], _ =>
    have e : closeN [] = ⟨4, false, 1005, []⟩ := rfl
    rw [e]
    have hem : (txb []).toList.isEmpty = true := by rw [txb_isEmpty]; rfl
    generalize txb [] = y at *
    go_enter Tryd.func25, Tryd.ntmps25
    go_upto_region 1 with fail
    rw [nt0_eq, g8_eq]
    generalize (w.alloc (.cells (g8 gg0) 28)).alloc (.cells (ntc 0 false none 0 0 0) 34) = w1 at *
    generalize hp : w.heap.size = p at *
    have H2 := Lib.hid (H1.out.setG (g8 ggX))
    have H3 := Lib.hid (H2.out.setN (ntc 4 false none 0 0 1005))
    go_wp2_with (first
      | (refine wpList_sw (cs := g8 ggX) rfl _ _ rfl rfl rfl H1.out.g rfl (g8_ok _) ?_)
      | (refine wpList_sw (cs := ntc 4 false none 0 0 1005) rfl _ _ rfl rfl rfl H2.out.n rfl (nt_ok _ _ _ _ _ _) ?_))
    refine bodyPost_ret (retJ3 (by rfl) _ rfl H3.out.g (g8_ok _) rfl H3.out.n (nt_ok _ _ _ _ _ _) rfl) rfl ?_
    exact ⟨none, 0, rfl, RdS.nil, H3.out.b⟩
  | [a], _ =>
    have e : (ggX, some (closeN [a])) = badM 1002 := rfl
    rw [e]
    have hem : (txb [a]).toList.isEmpty = false := by rw [txb_isEmpty]; rfl
    have hsz := txb_size [a]
    generalize txb [a] = y at *
    go_enter Tryd.func25, Tryd.ntmps25
    go_upto_region 1 with fail
    rw [nt0_eq, g8_eq]
    generalize (w.alloc (.cells (g8 gg0) 28)).alloc (.cells (ntc 0 false none 0 0 0) 34) = w1 at *
    generalize hp : w.heap.size = p at *
    go_wp2_with fail
    refine (rbad_any 1002 _).mono ?_
    rintro e2 w2 ⟨A2, c2, rfl, _, hb⟩
    have H2 := Lib.hid (H1.out.below hb)
    have H3 := Lib.hid (H2.out.setG (g8 ggX))
    have H4 := Lib.hid (H3.out.setN (ntc 5 false A2 0 c2 1002))
    clear hb H1
    go_wp2_with (first
      | (refine wpList_sw (cs := g8 ggX) rfl _ _ rfl rfl rfl H2.out.g rfl (g8_ok _) ?_)
      | (refine wpList_sw (cs := ntc 5 false A2 0 c2 1002) rfl _ _ rfl rfl rfl H3.out.n rfl (nt_ok _ _ _ _ _ _) ?_))
    refine bodyPost_ret (retJ3 (by rfl) _ rfl H4.out.g (g8_ok _) rfl H4.out.n (nt_ok _ _ _ _ _ _) rfl) rfl ?_
    exact ⟨A2, c2, rfl, RdS.nil, H4.out.b⟩
  | a :: b :: r, hl =>
    have hem : (txb (a :: b :: r)).toList.isEmpty = false := by rw [txb_isEmpty]; rfl
    have hsz := txb_size (a :: b :: r)
    have hx0 : ∀ W, (Instr.index 9 (.string (txb (a :: b :: r))) (.int .i64 0)).run Tryd.prog W = .ok (.int .u8 (a.toNat : Int)) W := fun W => txb_at (a :: b :: r) 0 (by simp) W
    have hx1 : ∀ W, (Instr.index 9 (.string (txb (a :: b :: r))) (.int .i64 1)).run Tryd.prog W = .ok (.int .u8 (b.toNat : Int)) W := fun W => txb_at (a :: b :: r) 1 (by simp) W
    have HFR : Hid (∀ W, (Instr.slice 9 (.string (txb (a :: b :: r))) (some (.int .i64 2)) none none).run Tryd.prog W = .ok (.string (txb r)) W) := fun W => txb_from (a :: b :: r) 2 (by omega) (by simp; omega) W
    have ha := a.toNat_lt
    have hb := b.toNat_lt
    have hl1 : (((a :: b :: r).length : Nat) : Int) ≠ 1 := by simp; omega
    have hl2 : (((a :: b :: r).length : Int) == 1) = false := beq_eq_false_iff_ne.2 hl1
    obtain ⟨cd, hcd⟩ : ∃ cd, cd = 256 * a.toNat + b.toNat := ⟨_, rfl⟩
    have hm : IntKind.u32.wrap (256 * (a.toNat : Int)) = 256 * (a.toNat : Int) := IntWalk.u32_in _ (by omega)
    have hs : IntKind.u32.wrap (256 * (a.toNat : Int) + (b.toNat : Int)) = (cd : Int) := by rw [IntWalk.u32_in _ (by omega)]; omega
    have hs2 : 256 * (a.toNat : Int) + (b.toNat : Int) = (cd : Int) := by omega
    have HC : Hid (closeN (a :: b :: r) = if ¬ ToldM cd then ⟨5, false, 1002, []⟩ else if txtB (nats r) = false then ⟨5, false, 1007, []⟩ else ⟨4, false, cd, r⟩) := by
      show _ = _
      rw [hcd]
      unfold closeN
      rw [if_neg (by simp), if_neg (by simp)]
      rfl
    have HRL : Hid (r.length ≤ 100000) := by show _ ≤ _; simp at hl; omega
    have HRT := Lib.hid (fun W => rtold_any (c := cd) W)
    have hl3 : ¬ (a :: b :: r).length = 1 := by simp
    clear hl hcd
    generalize closeN (a :: b :: r) = Nn at *
    generalize (a :: b :: r).length = n at *
    generalize txb (a :: b :: r) = y at *
    generalize a.toNat = av at *
    generalize b.toNat = bv at *
    go_enter Tryd.func25, Tryd.ntmps25
    go_upto_region 5 with fail
    rw [nt0_eq, g8_eq]
    generalize (w.alloc (.cells (g8 gg0) 28)).alloc (.cells (ntc 0 false none 0 0 0) 34) = w1 at *
    generalize hp : w.heap.size = p at *
    go_quiet (fail)
    have H2 := Lib.hid (H1.out.drewN nq)
    clear H1 hx0 hx1 hm hs hs2 ha hb hl2 hl1 hl3 hem
    generalize w1.drewN nq = w2 at *
    go_wp2_with fail
    refine (HRT.out _).mono ?_
    rintro e2 w3 ⟨rfl, rfl⟩
    clear HRT
    by_cases hT : ToldM cd
    · rw [decide_eq_true hT]
      rw [if_neg (fun h => h hT)] at HC
      clear hT
      have hgd := rgood_any HRL.out w3
      have hfr := HFR.out
      generalize (goN ut0 (nats r)).1 = gn at *
      cases hv : txtB (nats r)
      · rw [if_pos hv] at HC
        rw [hv] at hgd
        have hC := HC.out
        subst hC
        clear hv HC
        generalize txb r = yr at *
        go_wp2_with fail
        refine hgd.mono ?_
        rintro e2 w4 ⟨rfl, hb⟩
        have H3 := Lib.hid (H2.out.below hb)
        clear hb hgd H2
        go_wp2_with fail
        refine (rbad_any 1007 _).mono ?_
        rintro e2 w5 ⟨A2, c2, rfl, _, hb⟩
        have H4 := Lib.hid (H3.out.below hb)
        have H5 := Lib.hid (H4.out.setG (g8 ggX))
        have H6 := Lib.hid (H5.out.setN (ntc 5 false A2 0 c2 1007))
        clear hb H3
        go_wp2_with (first
          | (refine wpList_sw (cs := g8 ggX) rfl _ _ rfl rfl rfl H4.out.g rfl (g8_ok _) ?_)
          | (refine wpList_sw (cs := ntc 5 false A2 0 c2 1007) rfl _ _ rfl rfl rfl H5.out.n rfl (nt_ok _ _ _ _ _ _) ?_))
        refine bodyPost_ret (retJ3 (by rfl) _ rfl H6.out.g (g8_ok _) rfl H6.out.n (nt_ok _ _ _ _ _ _) rfl) rfl ?_
        exact ⟨A2, c2, rfl, RdS.nil, H6.out.b⟩
      · rw [if_neg (by rw [hv]; simp)] at HC
        rw [hv] at hgd
        have hC := HC.out
        subst hC
        clear hv HC
        obtain ⟨yr, hyr⟩ : ∃ yr, yr = txb r := ⟨_, rfl⟩
        have HYR := Lib.hid hyr
        rw [← hyr] at hgd hfr
        clear hyr HFR
        go_wp2_with fail
        refine hgd.mono ?_
        rintro e2 w4 ⟨rfl, hb⟩
        have H3 := Lib.hid (H2.out.below hb)
        clear hb hgd H2
        go_upto_region 11 with fail
        have H4 : Hid (RV w w4.drew p (g8 gg0) (ntc 0 false none 0 0 0)) := H3.out.drewN 1
        clear H3
        refine wp_region_held_drew (S := fun _ => True) (by kernel_rfl) trivial (fun hHeld => ?_)
        generalize w4.drew = w5 at *
        refine tkH 0 ?_
        refine tkH 1 ?_
        refine tkH 2 ?_
        refine tkH 3 ?_
        refine wpAnyH_ready (rs := [4, 6]) (by kernel_rfl) (by simp) ?_
        refine AllReadyH.cons rfl (fun K hK => ?_) (AllReadyH.cons rfl (fun K hK => ?_) AllReadyH.nil)
        · obtain ⟨c6, w6, hcv, hc6, hb6, hr6⟩ := bytesM_run r w5
          rw [← HYR.out] at hcv
          have HPB : Hid (p + 1 < w5.heap.size) := H4.out.n.lt
          have H5 := Lib.hid (H4.out.below hb6)
          have HR6 : Hid (RdS w6 (fun k => w5.heap.size ≤ k) (some ⟨w5.heap.size, 0, none⟩) (byc r)) := hr6.imp fun _ hk _ => hk.1
          clear hb6 hr6 H4
          go_simp
          clear hcv
          generalize w5.heap.size = pb at *
          refine hK.out _ _ trivial (fun hHeld => ?_)
          clear hK K
          try simp only [Act.put, List.getElem_toArray, List.getElem_cons_zero, List.getElem_cons_succ, List.setIfInBounds_toArray, List.set_cons_zero, List.set_cons_succ]
          refine tkH 5 ?_
          refine wpAnyH_ready (rs := [6]) (by kernel_rfl) (by simp) ?_
          refine AllReadyH.cons rfl (fun K hK => ?_) AllReadyH.nil
          refine step_sw (cs := g8 ggX) rfl _ _ rfl rfl rfl H5.out.g rfl (g8_ok _) ?_
          have HZ := Lib.hid (H5.out.setG (g8 ggX))
          have HRZ : Hid (RdS (w6.setRow p (g8 ggX)) (fun k => pb ≤ k) (some ⟨pb, 0, none⟩) (byc r)) := RdS.keep HR6.out fun k hk => setRow_other _ _ _ _ (by have := HPB.out; omega)
          clear H5 HR6
          generalize w6.setRow p (g8 ggX) = wz at *
          refine hK.out _ _ trivial (fun hHeld => ?_)
          clear hK K
          try simp only [Act.put, List.getElem_toArray, List.getElem_cons_zero, List.getElem_cons_succ]
          refine wpAnyH_ready (rs := [7]) (by kernel_rfl) (by simp) ?_
          refine AllReadyH.cons rfl (fun K hK => ?_) AllReadyH.nil
          refine step_sw (cs := ntc 4 false (some ⟨pb, 0, none⟩) r.length c6 cd) rfl _ _ rfl rfl rfl HZ.out.n rfl (nt_ok _ _ _ _ _ _) ?_
          have HY := Lib.hid (HZ.out.setN (ntc 4 false (some ⟨pb, 0, none⟩) r.length c6 cd))
          have HRY : Hid (RdS (wz.setRow (p + 1) (ntc 4 false (some ⟨pb, 0, none⟩) r.length c6 cd)) (fun k => w.heap.size ≤ k ∧ k < (wz.setRow (p + 1) (ntc 4 false (some ⟨pb, 0, none⟩) r.length c6 cd)).heap.size) (some ⟨pb, 0, none⟩) (byc r)) := (RdS.keep HRZ.out fun k hk => setRow_other _ _ _ _ (by have := HPB.out; omega)).imp fun k hk h => ⟨by have := HPB.out; omega, h⟩
          refine hK.out _ _ trivial (fun hHeld => ?_)
          clear hK K
          try simp only [Act.put, List.getElem_toArray, List.getElem_cons_zero, List.getElem_cons_succ]
          refine tkH 8 ?_
          refine wpAnyH_done (by kernel_rfl) ?_ _
          go_wp2_with fail
          refine bodyPost_ret (retJ3 (by rfl) _ rfl HY.out.g (g8_ok _) rfl HY.out.n (nt_ok _ _ _ _ _ _) rfl) rfl ?_
          exact ⟨some ⟨pb, 0, none⟩, c6, rfl, HRY.out, HY.out.b⟩
        · refine step_sw (cs := g8 ggX) rfl _ _ rfl rfl rfl H4.out.g rfl (g8_ok _) ?_
          have H5 := Lib.hid (H4.out.setG (g8 ggX))
          clear H4
          generalize w5.setRow p (g8 ggX) = w6 at *
          refine hK.out _ _ trivial (fun hHeld => ?_)
          clear hK K
          try simp only [Act.put, List.getElem_toArray, List.getElem_cons_zero, List.getElem_cons_succ]
          refine wpAnyH_ready (rs := [4]) (by kernel_rfl) (by simp) ?_
          refine AllReadyH.cons rfl (fun K hK => ?_) AllReadyH.nil
          obtain ⟨c6, wz, hcv, hc6, hb6, hr6⟩ := bytesM_run r w6
          rw [← HYR.out] at hcv
          have HPB : Hid (p + 1 < w6.heap.size) := H5.out.n.lt
          have HZ := Lib.hid (H5.out.below hb6)
          have HRZ : Hid (RdS wz (fun k => w6.heap.size ≤ k) (some ⟨w6.heap.size, 0, none⟩) (byc r)) := hr6.imp fun _ hk _ => hk.1
          clear hb6 hr6 H5
          go_simp
          clear hcv
          generalize w6.heap.size = pb at *
          refine hK.out _ _ trivial (fun hHeld => ?_)
          clear hK K
          try simp only [Act.put, List.getElem_toArray, List.getElem_cons_zero, List.getElem_cons_succ, List.setIfInBounds_toArray, List.set_cons_zero, List.set_cons_succ]
          refine tkH 5 ?_
          refine wpAnyH_ready (rs := [7]) (by kernel_rfl) (by simp) ?_
          refine AllReadyH.cons rfl (fun K hK => ?_) AllReadyH.nil
          refine step_sw (cs := ntc 4 false (some ⟨pb, 0, none⟩) r.length c6 cd) rfl _ _ rfl rfl rfl HZ.out.n rfl (nt_ok _ _ _ _ _ _) ?_
          have HY := Lib.hid (HZ.out.setN (ntc 4 false (some ⟨pb, 0, none⟩) r.length c6 cd))
          have HRY : Hid (RdS (wz.setRow (p + 1) (ntc 4 false (some ⟨pb, 0, none⟩) r.length c6 cd)) (fun k => w.heap.size ≤ k ∧ k < (wz.setRow (p + 1) (ntc 4 false (some ⟨pb, 0, none⟩) r.length c6 cd)).heap.size) (some ⟨pb, 0, none⟩) (byc r)) := (RdS.keep HRZ.out fun k hk => setRow_other _ _ _ _ (by have := HPB.out; omega)).imp fun k hk h => ⟨by have := HPB.out; omega, h⟩
          refine hK.out _ _ trivial (fun hHeld => ?_)
          clear hK K
          try simp only [Act.put, List.getElem_toArray, List.getElem_cons_zero, List.getElem_cons_succ]
          refine tkH 8 ?_
          refine wpAnyH_done (by kernel_rfl) ?_ _
          go_wp2_with fail
          refine bodyPost_ret (retJ3 (by rfl) _ rfl HY.out.g (g8_ok _) rfl HY.out.n (nt_ok _ _ _ _ _ _) rfl) rfl ?_
          exact ⟨some ⟨pb, 0, none⟩, c6, rfl, HRY.out, HY.out.b⟩
    · rw [decide_eq_false hT]
      rw [if_pos hT] at HC
      have hC := HC.out
      subst hC
      clear hT HC
      go_wp2_with fail
      refine (rbad_any 1002 _).mono ?_
      rintro e2 w5 ⟨A2, c2, rfl, _, hb⟩
      have H4 := Lib.hid (H2.out.below hb)
      have H5 := Lib.hid (H4.out.setG (g8 ggX))
      have H6 := Lib.hid (H5.out.setN (ntc 5 false A2 0 c2 1002))
      clear hb H2
      go_wp2_with (first
        | (refine wpList_sw (cs := g8 ggX) rfl _ _ rfl rfl rfl H4.out.g rfl (g8_ok _) ?_)
        | (refine wpList_sw (cs := ntc 5 false A2 0 c2 1002) rfl _ _ rfl rfl rfl H5.out.n rfl (nt_ok _ _ _ _ _ _) ?_))
      refine bodyPost_ret (retJ3 (by rfl) _ rfl H6.out.g (g8_ok _) rfl H6.out.n (nt_ok _ _ _ _ _ _) rfl) rfl ?_
      exact ⟨A2, c2, rfl, RdS.nil, H6.out.b⟩
end Go.Proofs.YtdegpchofhnipaaDoor
