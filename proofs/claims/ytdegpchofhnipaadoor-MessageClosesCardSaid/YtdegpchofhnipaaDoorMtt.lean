/-
  Take of a gatherer, by its contract. Conditions: the frame's bytes lie in other blocks than the gatherer's; errors.errorType holds what the program's text lays.
-/
import Derived.Test.YtdegpchofhnipaaDoorMtk
namespace Go.Proofs.YtdegpchofhnipaaDoor
open Go.RowKit Go.WideShapes

/-- What is told, or the zero note. -/
def toldM : Option Nt → Nt
  | none => ⟨0, false, 0, []⟩
  | some n => n
/-- What Take leaves. -/
def TakG (w : World) (base g : Nat) (v : Value) (t : Option Nat) (r : Gg × Option Nt) (e : Ending) (w' : World) : Prop :=
  ∃ A c v' t', e = .returned (.tuple #[.agg (ntc (toldM r.2).kind (toldM r.2).text A (toldM r.2).dat.length c (toldM r.2).code), .bool r.2.isSome]) ∧ Bo w' base 5 (.slice A (toldM r.2).dat.length c) (toldM r.2).dat ∧ Mg w' base g v' t' r.1 ∧ Fs (mgS g v t) w w' ∧
    (∀ k, mgS g v' t' k → mgS g v t k ∨ w.heap.size ≤ k) ∧ (∀ k, ob (.slice A (toldM r.2).dat.length c) k → (mgS g v t k ∨ w.heap.size ≤ k) ∧ ¬ mgS g v' t' k)
theorem ErrI.upM {c : Nat} {er : Value} {w w' : World} (h : ErrI c er w) (hb : Below w.heap.size w w') : ErrI c er w' := by
  rcases h with h | ⟨h, g, h1, h2⟩
  · exact .inl h
  · exact .inr ⟨h, g, h1, h2.upM hb⟩
set_option maxRecDepth 100000 in
set_option maxHeartbeats 1000000 in
theorem mTake_nil {fin mask : Bool} {op key n c : Nat} {A : Option Addr} (w : World) : Calls Tryd.prog 12 #[.pointer none, .agg (pcC fin op mask key A n c)] w fun e w' => e = .returned (.tuple #[.agg (ntc 0 false none 0 0 0), .bool false]) ∧ Below w.heap.size w w' := by
  have HR : Hid (Row ((w.alloc (.cells (pcC fin op mask key A n c) 32)).alloc (.cells (ntc 0 false none 0 0 0) 34)) (w.heap.size + 1) 34 (ntc 0 false none 0 0 0)) := Row.made _ _ _ (by simp)
  have HB : Hid (Below w.heap.size w ((w.alloc (.cells (pcC fin op mask key A n c) 32)).alloc (.cells (ntc 0 false none 0 0 0) 34))) := ((Below.refl _ _).alloc (Nat.le_refl _) _).alloc (by simp) _
  go_enter Tryd.func12, Tryd.ntmps12
  go_upto_region 1 with fail
  rw [nt0_eq]
  generalize (w.alloc (.cells (pcC fin op mask key A n c) 32)).alloc (.cells (ntc 0 false none 0 0 0) 34) = w1 at *
  go_wp2_with fail
  refine (mover_nil _).mono ?_
  rintro e w2 ⟨rfl, rfl⟩
  go_wp2_with (refine wpList_sw (cs := ntc 0 false none 0 0 0) rfl _ _ rfl rfl rfl HR.out rfl (nt_ok _ _ _ _ _ _) ?_)
  refine bodyPost_ret (ret_agv (by rfl) _ rfl (HR.out.setRow (ntc 0 false none 0 0 0)) (nt_ok _ _ _ _ _ _) rfl) rfl ?_
  exact ⟨rfl, below_setRow HB.out _ _ (by omega)⟩
set_option maxRecDepth 100000 in
set_option maxHeartbeats 1000000 in
theorem mTake_over {w : World} {base g : Nat} {v : Value} {t : Option Nat} {x : Gg} (h : Mg w base g v t x) (ho : x.over = true) {fin mask : Bool} {op key c : Nat} {A : Option Addr} {d : List UInt8} (hr : RdF w w.heap.size (mgS g v t) A d) :
    Calls Tryd.prog 12 #[.pointer (some ⟨g, 0, none⟩), .agg (pcC fin op mask key A d.length c)] w (TakG w base g v t (x, none)) := by
  have H1 := Lib.hid (AO.start h hr fin op mask key c)
  have hov := mover_any H1.out.mg
  rw [ho] at hov
  clear h hr ho
  go_enter Tryd.func12, Tryd.ntmps12
  go_upto_region 1 with fail
  rw [nt0_eq]
  generalize (w.alloc (.cells (pcC fin op mask key A d.length c) 32)).alloc (.cells (ntc 0 false none 0 0 0) 34) = w1 at *
  go_wp2_with fail
  refine hov.mono ?_
  rintro e w2 ⟨rfl, rfl⟩
  clear hov
  go_wp2_with (refine wpList_sw (cs := ntc 0 false none 0 0 0) rfl _ _ rfl rfl rfl H1.out.nr rfl (nt_ok _ _ _ _ _ _) ?_)
  refine bodyPost_ret (ret_agv (by rfl) _ rfl (H1.out.nr.setRow (ntc 0 false none 0 0 0)) (nt_ok _ _ _ _ _ _) rfl) rfl ?_
  have hodd := H1.out.mg.odd H1.out.nr (by decide) (by decide) (by decide)
  exact ⟨none, 0, v, t, rfl, Bo.nil, H1.out.mg.keep fun k hk => setRow_other _ _ _ _ (fun e => hodd (e ▸ hk)), (Fs.of_below H1.out.bl).setRow (fun h => by omega) _, fun k hk => .inl hk, fun k hk => by cases hk⟩
/-- On the way: the note in its variable, the result's variable; the gatherer as take left it. -/
structure TW (w : World) (base g : Nat) (v : Value) (t : Option Nat) (p : Nat) (N : Array Value) (W : World) : Prop where
  fs : Fs (mgS g v t) w W
  nr : Row W p 34 N
  rr : Row W (w.heap.size + 1) 34 (ntc 0 false none 0 0 0)
  np : w.heap.size + 1 < p
section
variable {w W W' : World} {base g p : Nat} {v : Value} {t : Option Nat} {N : Array Value}
theorem TW.below (h : TW w base g v t p N W) (hb : Below W.heap.size W W') : TW w base g v t p N W' := ⟨h.fs.then_below hb, h.nr.upM hb, h.rr.upM hb, h.np⟩
theorem TW.note (h : TW w base g v t p N W) (N' : Array Value) : TW w base g v t p N' (W.setRow p N') := ⟨h.fs.setRow (fun h1 => by have := h.np; omega) _, h.nr.setRow _, h.rr.setRow' (by have := h.np; omega) _, h.np⟩
theorem TW.shut (h : TW w base g v t p N W) {cs : Array Value} (hg : Row W g 56 cs) (cs' : Array Value) : TW w base g v t p N (W.setRow g cs') := ⟨h.fs.setRow (fun _ => .inl rfl) _, h.nr.setRow' (Row.neJ h.nr hg (by decide)) _, h.rr.setRow' (Row.neJ h.rr hg (by decide)) _, h.np⟩
theorem TW.drew (h : TW w base g v t p N W) : TW w base g v t p N W.drew := ⟨h.fs.drewN 1, h.nr, h.rr, h.np⟩
/-- At the end, the gatherer shut. -/
theorem TW.closed (h : TW w base g v t p N W) {n : Nt} {A : Option Addr} {c : Nat} (hg : Row W g 56 (mgc (.slice none 0 0) false (.pointer none) true)) (hlo : 0 < base ∧ base ≤ g) (ho : Bo W base 5 (.slice A n.dat.length c) n.dat) (hn : ∀ k, ob (.slice A n.dat.length c) k → w.heap.size ≤ k) (N' : Array Value) :
    TakG w base g v t (ggX, some n) (.returned (.tuple #[.agg (ntc n.kind n.text A n.dat.length c n.code), .bool true])) (W.setRow (w.heap.size + 1) N') := by
  refine ⟨A, c, .slice none 0 0, none, rfl, OwS.setRow ho (Bo.neJ ho h.rr (by decide)) _, Mg.made (hg.setRow' (Row.neJ hg h.rr (by decide)) _) (.inr rfl) hlo, h.fs.setRow (fun h1 => by omega) _, fun k hk => ?_, fun k hk => ⟨.inr (hn k hk), fun h1 => ?_⟩⟩
  · rcases hk with hk | hk | hk
    · exact .inl (.inl hk)
    · cases hk
    · cases hk
  · rcases h1 with rfl | h1 | h1
    · exact Bo.neJ ho hg (by decide) hk
    · cases h1
    · cases h1
/-- .. and going on. -/
theorem TW.open (h : TW w base g v t p N W) {x : Gg} {o : Option Nt} {v' : Value} {t' : Option Nat} {A : Option Addr} {c : Nat} (hm : Mg W base g v' t' x) (hs : ∀ k, mgS g v' t' k → mgS g v t k ∨ w.heap.size ≤ k) (ho : Bo W base 5 (.slice A (toldM o).dat.length c) (toldM o).dat)
    (hn : ∀ k, ob (.slice A (toldM o).dat.length c) k → (mgS g v t k ∨ w.heap.size ≤ k) ∧ ¬ mgS g v' t' k) (N' : Array Value) :
    TakG w base g v t (x, o) (.returned (.tuple #[.agg (ntc (toldM o).kind (toldM o).text A (toldM o).dat.length c (toldM o).code), .bool o.isSome])) (W.setRow (w.heap.size + 1) N') := by
  have hodd := hm.odd h.rr (by decide) (by decide) (by decide)
  exact ⟨A, c, v', t', rfl, OwS.setRow ho (Bo.neJ ho h.rr (by decide)) _, hm.keep fun k hk => setRow_other _ _ _ _ (fun e => hodd (e ▸ hk)), h.fs.setRow (fun h1 => by omega) _, hs, hn⟩
end
set_option maxRecDepth 100000 in
set_option maxHeartbeats 8000000 in
theorem mTake_live {w : World} {base g : Nat} {v : Value} {t : Option Nat} {x : Gg} (h : Mg w base g v t x) (ho : x.over = false) {fin mask : Bool} {op key c : Nat} {A : Option Addr} {d : List UInt8} (hr : RdF w w.heap.size (mgS g v t) A d) (hl : d.length ≤ 100000) (hc : d.length ≤ c) (hG : GlobE w) :
    Calls Tryd.prog 12 #[.pointer (some ⟨g, 0, none⟩), .agg (pcC fin op mask key A d.length c)] w (TakG w base g v t (takeM x op fin d)) := by
  have H1 := Lib.hid (AO.start h hr fin op mask key c)
  have hov := mover_any H1.out.mg
  rw [ho] at hov
  have htk := mtake_any (fin := fin) (mask := mask) (op := op) (key := key) H1.out.mg ho (H1.out.rd.more H1.out.bl.size fun _ _ h => h) hl hc
  have HLO := Lib.hid h.lo
  have HG1 := Lib.hid (hG.below H1.out.bl)
  clear h hr ho hl hc hG
  generalize takeM x op fin d = r at *
  go_enter Tryd.func12, Tryd.ntmps12
  go_upto_region 1 with fail
  rw [nt0_eq]
  generalize (w.alloc (.cells (pcC fin op mask key A d.length c) 32)).alloc (.cells (ntc 0 false none 0 0 0) 34) = w1 at *
  go_wp2_with fail
  refine hov.mono ?_
  rintro e w2 ⟨rfl, rfl⟩
  clear hov
  go_wp2_with (refine wpList_ld (cs := pcC fin op mask key A d.length c) rfl _ rfl rfl H1.out.pr (pc_ok _ _ _ _ _ _ _) ?_)
  refine htk.mono ?_
  rintro e w3 hT
  have hF : Fs (mgS g v t) w w3 := (Fs.of_below H1.out.bl).trans hT.1 fun _ _ h => h
  have hR := hT.1.row (H1.out.mg.odd H1.out.nr (by decide) (by decide) (by decide)) H1.out.nr
  have HG3 := Lib.hid (H1.out.mg.glob hT.1 HG1.out)
  have HN3 : Hid (Row (w3.alloc (.cells (ntc 0 false none 0 0 0) 34)) w3.heap.size 34 (ntc 0 false none 0 0 0)) := Row.new _ _ _
  have HB3 : Hid (∀ N, Below w3.heap.size w3 ((w3.alloc (.cells (ntc 0 false none 0 0 0) 34)).setRow w3.heap.size N)) := fun N => below_setRow ((Below.refl _ _).alloc (Nat.le_refl _) _) _ _ (Nat.le_refl _)
  have HT3 : Hid (∀ N, TW w base g v t w3.heap.size N ((w3.alloc (.cells (ntc 0 false none 0 0 0) 34)).setRow w3.heap.size N)) := fun N => ⟨hF.then_below (HB3.out N), HN3.out.setRow N, hR.upM (HB3.out N), hR.lt⟩
  have HU : Hid (∀ k, w2.heap.size ≤ k → w.heap.size ≤ k) := fun k hk => Nat.le_trans H1.out.bl.size hk
  have hcase := hT.2
  clear hT hF hR htk H1 HG1
  rcases hcase with ⟨h1, rfl, v', t', h3, h4⟩ | ⟨n, er, cs1, rfl, h2, h3, h4, h5, rfl, h7, h8, h9⟩ | ⟨n, A3, c3, cs1, rfl, h2, rfl, h4, h5, h6, h7⟩ | ⟨n, A3, c3, v', t', h1, h2, rfl, h4, h5, h6, h7, h8⟩
  · obtain ⟨x', o'⟩ := r
    obtain rfl : o' = none := h1
    have HM := Lib.hid h3
    have HS : Hid (∀ k, mgS g v' t' k → mgS g v t k ∨ w.heap.size ≤ k) := fun k hk => (h4 k hk).imp id (HU.out k)
    have HT4 := Lib.hid (HT3.out (ntc 0 false none 0 0 0))
    have HM4 := Lib.hid (HM.out.below (HB3.out (ntc 0 false none 0 0 0)))
    clear h3 h4 HT3 HB3 HU HG3 HM
    go_upto_region 4 with (refine wpList_sw (cs := ntc 0 false none 0 0 0) rfl _ _ rfl rfl rfl HN3.out rfl (nt_ok _ _ _ _ _ _) ?_)
    rw [nt0_eq]
    clear HN3
    generalize (w3.alloc (.cells (ntc 0 false none 0 0 0) 34)).setRow w3.heap.size (ntc 0 false none 0 0 0) = w4 at *
    generalize w3.heap.size = p6 at *
    have c0 : w4.cell? ⟨p6, 0, none⟩ = some (.int .u8 0) := HT4.out.nr.cell rfl
    go_upto_region 8 with fail
    clear c0
    have HT5 := Lib.hid HT4.out.drew
    have HM5 : Hid (Mg w4.drew base g v' t' x') := HM4.out.keep fun _ _ => rfl
    clear HT4 HM4
    refine wp_region_held_drew (S := fun W => Row W p6 34 (ntc 0 false none 0 0 0) ∧ W.cell? ⟨p6, 0, none⟩ = some (.int .u8 0)) (by kernel_rfl) ⟨HT5.out.nr, HT5.out.nr.cell rfl⟩ (fun hHeld => ?_)
    refine wpAnyH_take (i := 0) (v := _) rfl (by kernel_rfl) (by kernel_rfl) (by kernel_rfl) (fun _ _ _ h => h) (yields_ld (by rfl) _ rfl rfl (nt_ok _ _ _ _ _ _) (fun _ hSw => hSw.1)) (by assumption) ?rest0w1
    try simp only [Act.put, List.getElem_toArray, List.getElem_cons_zero, List.setIfInBounds_toArray, List.set_cons_zero, List.set_cons_succ]
    refine wpAnyH_take (i := 1) (v := ?v1) rfl (by kernel_rfl) (by kernel_rfl) (by kernel_rfl) (fun _ _ _ h => h) (Or.inl ⟨by rfl, ?hy1⟩) (by assumption) ?rest1
    case hy1 => (intro w hSw; (try dsimp only at hSw); go_simp <;> with_reducible rfl)
    try simp only [Act.put, List.getElem_toArray, List.getElem_cons_zero, List.getElem_cons_succ, List.setIfInBounds_toArray, List.set_cons_zero, List.set_cons_succ]
    refine wpAnyH_take (i := 2) (v := ?v2) rfl (by kernel_rfl) (by kernel_rfl) (by kernel_rfl) (fun _ _ _ h => h) (Or.inl ⟨by rfl, ?hy2⟩) (by assumption) ?rest2
    case hy2 => (intro w hSw; (try dsimp only at hSw); go_simp <;> with_reducible rfl)
    try simp only [Act.put, List.getElem_toArray, List.getElem_cons_zero, List.getElem_cons_succ, List.setIfInBounds_toArray, List.set_cons_zero, List.set_cons_succ]
    refine wpAnyH_take (i := 3) (v := ?v3) rfl (by kernel_rfl) (by kernel_rfl) (by kernel_rfl) (fun _ _ _ h => h) (Or.inl ⟨by rfl, ?hy3⟩) (by assumption) ?rest3
    case hy3 => (intro w hSw; (try dsimp only at hSw); go_simp <;> with_reducible rfl)
    try simp only [Act.put, List.getElem_toArray, List.getElem_cons_zero, List.getElem_cons_succ, List.setIfInBounds_toArray, List.set_cons_zero, List.set_cons_succ]
    refine wpAnyH_ready (rs := [4]) (by kernel_rfl) (by simp) ?_
    refine AllReadyH.cons rfl (fun K hK => ?_) AllReadyH.nil
    refine step_sw (cs := (ntc 0 false none 0 0 0)) rfl _ _ rfl rfl rfl HT5.out.rr rfl (nt_ok _ _ _ _ _ _) ?_
    refine hK.out _ _ ⟨HT5.out.nr.setRow' (by have := HT5.out.np; omega) _, (HT5.out.nr.setRow' (by have := HT5.out.np; omega) _).cell rfl⟩ (fun hHeld => ?_)
    clear hK K
    try simp only [Act.put, List.getElem_toArray, List.getElem_cons_zero, List.getElem_cons_succ]
    refine wpAnyH_take (i := 5) (v := ?v5q5) rfl (by kernel_rfl) (by kernel_rfl) (by kernel_rfl) (fun _ _ _ h => h) (Or.inl ⟨by rfl, ?hy5q5⟩) (by assumption) ?rest5q5
    case hy5q5 => (intro w hSw; (try dsimp only at hSw); go_simp <;> with_reducible rfl)
    try simp only [Act.put, List.getElem_toArray, List.getElem_cons_zero, List.getElem_cons_succ, List.setIfInBounds_toArray, List.set_cons_zero, List.set_cons_succ]
    refine wpAnyH_done (by kernel_rfl) ?_ _
    go_wp2_with fail
    refine bodyPost_ret (ret_agv (by rfl) _ rfl (HT5.out.rr.setRow ((ntc 0 false none 0 0 0))) (nt_ok _ _ _ _ _ _) rfl) rfl ?_
    exact HT5.out.open (o := none) (c := 0) (A := none) HM5.out HS.out Bo.nil (fun k hk => by cases hk) _
  · obtain ⟨kd, tx, cd, dt⟩ := n
    obtain rfl : kd = 5 := h2
    obtain rfl : tx = false := h3
    obtain rfl : dt = [] := h4
    have hcd : cd ≠ 0 := h5
    have HT4 := Lib.hid (HT3.out (ntc 0 false none 0 0 0))
    have HE4 : Hid (ErrI cd er _) := h7.upM (HB3.out (ntc 0 false none 0 0 0))
    have HG4 := Lib.hid (HG3.out.below (HB3.out (ntc 0 false none 0 0 0)))
    have HM4 := Lib.hid (h8.upM (HB3.out (ntc 0 false none 0 0 0)))
    have H9 := Lib.hid h9
    obtain ⟨ge, rfl⟩ : ∃ ge, er = .iface 77 (.pointer (some ⟨ge, 0, none⟩)) := by
      rcases h7 with ⟨h, _⟩ | ⟨_, ge, h, _⟩
      · exact absurd h hcd
      · exact ⟨ge, h⟩
    have HCD : Hid (scI cd = 3) := if_neg hcd
    clear h5 h7 h8 h9 HT3 HB3 HU HG3 hcd
    go_upto_region 4 with (refine wpList_sw (cs := ntc 0 false none 0 0 0) rfl _ _ rfl rfl rfl HN3.out rfl (nt_ok _ _ _ _ _ _) ?_)
    rw [nt0_eq]
    clear HN3
    generalize (w3.alloc (.cells (ntc 0 false none 0 0 0) 34)).setRow w3.heap.size (ntc 0 false none 0 0 0) = w4 at *
    generalize w3.heap.size = p6 at *
    have hof := ofI_any HE4.out HG4.out
    rw [HCD.out] at hof
    have hfl : ∀ W, (Instr.field 62 (.agg (ftI 3 cd)) 1).run Tryd.prog W = .ok (.int .u32 (cd : Int)) W := fun W => by unfold ftI; kernel_rfl
    go_upto_region 5 with fail
    go_wp2_with fail
    refine hof.mono ?_
    rintro e w5 ⟨rfl, hb⟩
    have HT5 := Lib.hid (HT4.out.below hb)
    have HM5 := Lib.hid (HM4.out.upM hb)
    clear hb hof HT4 HM4 HE4 HG4 HCD
    go_upto_region 6 with (refine wpList_sw (cs := ntc 5 false none 0 0 cd) rfl _ _ rfl rfl rfl HT5.out.nr rfl (nt_ok _ _ _ _ _ _) ?_)
    have HT6 := Lib.hid (HT5.out.note (ntc 5 false none 0 0 cd))
    have HM6 := Lib.hid (HM5.out.setRow' (Row.neJ HM5.out HT5.out.nr (by decide)) (ntc 5 false none 0 0 cd))
    clear HT5 HM5 hfl
    generalize w5.setRow p6 (ntc 5 false none 0 0 cd) = w6 at *
    have c0 : w6.cell? ⟨p6, 0, none⟩ = some (.int .u8 5) := HT6.out.nr.cell rfl
    go_upto_region 8 with (refine wpList_sw (cs := mgc (.slice none 0 0) false (.pointer none) true) rfl _ _ rfl rfl rfl HM6.out H9.out (mg_nil true) ?_)
    have HT7 := Lib.hid (HT6.out.shut HM6.out (mgc (.slice none 0 0) false (.pointer none) true)).drew
    have HM7 : Hid (Row (w6.setRow g (mgc (.slice none 0 0) false (.pointer none) true)).drew g 56 (mgc (.slice none 0 0) false (.pointer none) true)) := HM6.out.setRow _
    clear HT6 HM6 c0 H9
    refine wp_region_held_drew (S := fun W => Row W p6 34 (ntc 5 false none 0 0 cd) ∧ W.cell? ⟨p6, 0, none⟩ = some (.int .u8 5)) (by kernel_rfl) ⟨HT7.out.nr, HT7.out.nr.cell rfl⟩ (fun hHeld => ?_)
    refine wpAnyH_take (i := 0) (v := _) rfl (by kernel_rfl) (by kernel_rfl) (by kernel_rfl) (fun _ _ _ h => h) (yields_ld (by rfl) _ rfl rfl (nt_ok _ _ _ _ _ _) (fun _ hSw => hSw.1)) (by assumption) ?rest0w2
    try simp only [Act.put, List.getElem_toArray, List.getElem_cons_zero, List.setIfInBounds_toArray, List.set_cons_zero, List.set_cons_succ]
    refine wpAnyH_take (i := 1) (v := ?v1q6) rfl (by kernel_rfl) (by kernel_rfl) (by kernel_rfl) (fun _ _ _ h => h) (Or.inl ⟨by rfl, ?hy1q6⟩) (by assumption) ?rest1q6
    case hy1q6 => (intro w hSw; (try dsimp only at hSw); go_simp <;> with_reducible rfl)
    try simp only [Act.put, List.getElem_toArray, List.getElem_cons_zero, List.getElem_cons_succ, List.setIfInBounds_toArray, List.set_cons_zero, List.set_cons_succ]
    refine wpAnyH_take (i := 2) (v := ?v2q6) rfl (by kernel_rfl) (by kernel_rfl) (by kernel_rfl) (fun _ _ _ h => h) (Or.inl ⟨by rfl, ?hy2q6⟩) (by assumption) ?rest2q6
    case hy2q6 => (intro w hSw; (try dsimp only at hSw); go_simp <;> with_reducible rfl)
    try simp only [Act.put, List.getElem_toArray, List.getElem_cons_zero, List.getElem_cons_succ, List.setIfInBounds_toArray, List.set_cons_zero, List.set_cons_succ]
    refine wpAnyH_take (i := 3) (v := ?v3q6) rfl (by kernel_rfl) (by kernel_rfl) (by kernel_rfl) (fun _ _ _ h => h) (Or.inl ⟨by rfl, ?hy3q6⟩) (by assumption) ?rest3q6
    case hy3q6 => (intro w hSw; (try dsimp only at hSw); go_simp <;> with_reducible rfl)
    try simp only [Act.put, List.getElem_toArray, List.getElem_cons_zero, List.getElem_cons_succ, List.setIfInBounds_toArray, List.set_cons_zero, List.set_cons_succ]
    refine wpAnyH_ready (rs := [4]) (by kernel_rfl) (by simp) ?_
    refine AllReadyH.cons rfl (fun K hK => ?_) AllReadyH.nil
    refine step_sw (cs := (ntc 5 false none 0 0 cd)) rfl _ _ rfl rfl rfl HT7.out.rr rfl (nt_ok _ _ _ _ _ _) ?_
    refine hK.out _ _ ⟨HT7.out.nr.setRow' (by have := HT7.out.np; omega) _, (HT7.out.nr.setRow' (by have := HT7.out.np; omega) _).cell rfl⟩ (fun hHeld => ?_)
    clear hK K
    try simp only [Act.put, List.getElem_toArray, List.getElem_cons_zero, List.getElem_cons_succ]
    refine wpAnyH_take (i := 5) (v := ?v5q7) rfl (by kernel_rfl) (by kernel_rfl) (by kernel_rfl) (fun _ _ _ h => h) (Or.inl ⟨by rfl, ?hy5q7⟩) (by assumption) ?rest5q7
    case hy5q7 => (intro w hSw; (try dsimp only at hSw); go_simp <;> with_reducible rfl)
    try simp only [Act.put, List.getElem_toArray, List.getElem_cons_zero, List.getElem_cons_succ, List.setIfInBounds_toArray, List.set_cons_zero, List.set_cons_succ]
    refine wpAnyH_done (by kernel_rfl) ?_ _
    go_wp2_with fail
    refine bodyPost_ret (ret_agv (by rfl) _ rfl (HT7.out.rr.setRow ((ntc 5 false none 0 0 cd))) (nt_ok _ _ _ _ _ _) rfl) rfl ?_
    exact HT7.out.closed (n := ⟨5, false, cd, []⟩) (A := none) (c := 0) HM7.out HLO.out Bo.nil (fun k hk => by cases hk) _
  · obtain ⟨kd, tx, cd, dt⟩ := n
    obtain rfl : kd = 4 := h2
    have HT4 := Lib.hid (HT3.out (ntc 4 tx A3 dt.length c3 cd))
    have HO4 : Hid (Bo _ base 5 (.slice A3 dt.length c3) dt) := Bo.below h4 (HB3.out (ntc 4 tx A3 dt.length c3 cd))
    have HM4 := Lib.hid (h6.upM (HB3.out (ntc 4 tx A3 dt.length c3 cd)))
    have H9 := Lib.hid h7
    have HK : Hid (∀ k, ob (.slice A3 dt.length c3) k → w.heap.size ≤ k) := fun k hk => HU.out k (h5 k hk)
    clear h4 h5 h6 h7 HT3 HB3 HU HG3
    go_upto_region 4 with (refine wpList_sw (cs := ntc 4 tx A3 dt.length c3 cd) rfl _ _ rfl rfl rfl HN3.out rfl (nt_ok _ _ _ _ _ _) ?_)
    rw [nt0_eq]
    clear HN3
    generalize (w3.alloc (.cells (ntc 0 false none 0 0 0) 34)).setRow w3.heap.size (ntc 4 tx A3 dt.length c3 cd) = w4 at *
    generalize w3.heap.size = p6 at *
    have c0 : w4.cell? ⟨p6, 0, none⟩ = some (.int .u8 4) := HT4.out.nr.cell rfl
    go_upto_region 8 with (refine wpList_sw (cs := mgc (.slice none 0 0) false (.pointer none) true) rfl _ _ rfl rfl rfl HM4.out H9.out (mg_nil true) ?_)
    have HT7 := Lib.hid (HT4.out.shut HM4.out (mgc (.slice none 0 0) false (.pointer none) true)).drew
    have HM7 : Hid (Row (w4.setRow g (mgc (.slice none 0 0) false (.pointer none) true)).drew g 56 (mgc (.slice none 0 0) false (.pointer none) true)) := HM4.out.setRow _
    have HO7 : Hid (Bo (w4.setRow g (mgc (.slice none 0 0) false (.pointer none) true)).drew base 5 (.slice A3 dt.length c3) dt) := OwS.keep (OwS.setRow HO4.out (Bo.neJ HO4.out HM4.out (by decide)) _) fun _ _ => rfl
    clear HT4 HM4 HO4 c0 H9
    refine wp_region_held_drew (S := fun W => Row W p6 34 (ntc 4 tx A3 dt.length c3 cd) ∧ W.cell? ⟨p6, 0, none⟩ = some (.int .u8 4)) (by kernel_rfl) ⟨HT7.out.nr, HT7.out.nr.cell rfl⟩ (fun hHeld => ?_)
    refine wpAnyH_take (i := 0) (v := _) rfl (by kernel_rfl) (by kernel_rfl) (by kernel_rfl) (fun _ _ _ h => h) (yields_ld (by rfl) _ rfl rfl (nt_ok _ _ _ _ _ _) (fun _ hSw => hSw.1)) (by assumption) ?rest0w3
    try simp only [Act.put, List.getElem_toArray, List.getElem_cons_zero, List.setIfInBounds_toArray, List.set_cons_zero, List.set_cons_succ]
    refine wpAnyH_take (i := 1) (v := ?v1q8) rfl (by kernel_rfl) (by kernel_rfl) (by kernel_rfl) (fun _ _ _ h => h) (Or.inl ⟨by rfl, ?hy1q8⟩) (by assumption) ?rest1q8
    case hy1q8 => (intro w hSw; (try dsimp only at hSw); go_simp <;> with_reducible rfl)
    try simp only [Act.put, List.getElem_toArray, List.getElem_cons_zero, List.getElem_cons_succ, List.setIfInBounds_toArray, List.set_cons_zero, List.set_cons_succ]
    refine wpAnyH_take (i := 2) (v := ?v2q8) rfl (by kernel_rfl) (by kernel_rfl) (by kernel_rfl) (fun _ _ _ h => h) (Or.inl ⟨by rfl, ?hy2q8⟩) (by assumption) ?rest2q8
    case hy2q8 => (intro w hSw; (try dsimp only at hSw); go_simp <;> with_reducible rfl)
    try simp only [Act.put, List.getElem_toArray, List.getElem_cons_zero, List.getElem_cons_succ, List.setIfInBounds_toArray, List.set_cons_zero, List.set_cons_succ]
    refine wpAnyH_take (i := 3) (v := ?v3q8) rfl (by kernel_rfl) (by kernel_rfl) (by kernel_rfl) (fun _ _ _ h => h) (Or.inl ⟨by rfl, ?hy3q8⟩) (by assumption) ?rest3q8
    case hy3q8 => (intro w hSw; (try dsimp only at hSw); go_simp <;> with_reducible rfl)
    try simp only [Act.put, List.getElem_toArray, List.getElem_cons_zero, List.getElem_cons_succ, List.setIfInBounds_toArray, List.set_cons_zero, List.set_cons_succ]
    refine wpAnyH_ready (rs := [4]) (by kernel_rfl) (by simp) ?_
    refine AllReadyH.cons rfl (fun K hK => ?_) AllReadyH.nil
    refine step_sw (cs := (ntc 4 tx A3 dt.length c3 cd)) rfl _ _ rfl rfl rfl HT7.out.rr rfl (nt_ok _ _ _ _ _ _) ?_
    refine hK.out _ _ ⟨HT7.out.nr.setRow' (by have := HT7.out.np; omega) _, (HT7.out.nr.setRow' (by have := HT7.out.np; omega) _).cell rfl⟩ (fun hHeld => ?_)
    clear hK K
    try simp only [Act.put, List.getElem_toArray, List.getElem_cons_zero, List.getElem_cons_succ]
    refine wpAnyH_take (i := 5) (v := ?v5q9) rfl (by kernel_rfl) (by kernel_rfl) (by kernel_rfl) (fun _ _ _ h => h) (Or.inl ⟨by rfl, ?hy5q9⟩) (by assumption) ?rest5q9
    case hy5q9 => (intro w hSw; (try dsimp only at hSw); go_simp <;> with_reducible rfl)
    try simp only [Act.put, List.getElem_toArray, List.getElem_cons_zero, List.getElem_cons_succ, List.setIfInBounds_toArray, List.set_cons_zero, List.set_cons_succ]
    refine wpAnyH_done (by kernel_rfl) ?_ _
    go_wp2_with fail
    refine bodyPost_ret (ret_agv (by rfl) _ rfl (HT7.out.rr.setRow ((ntc 4 tx A3 dt.length c3 cd))) (nt_ok _ _ _ _ _ _) rfl) rfl ?_
    exact HT7.out.closed (n := ⟨4, tx, cd, dt⟩) HM7.out HLO.out HO7.out HK.out _
  · obtain ⟨x', o'⟩ := r
    obtain rfl : o' = some n := h1
    obtain ⟨kd, tx, cd, dt⟩ := n
    have hkd : kd = 1 ∨ kd = 2 ∨ kd = 3 := h2
    have d5 : ((kd : Int) == 5) = false := beq_eq_false_iff_ne.2 (by omega)
    have d4 : ((kd : Int) == 4) = false := beq_eq_false_iff_ne.2 (by omega)
    have d0 : ((kd : Int) != 0) = true := bne_iff_ne.2 (by omega)
    have HT4 := Lib.hid (HT3.out (ntc kd tx A3 dt.length c3 cd))
    have HO4 : Hid (Bo _ base 5 (.slice A3 dt.length c3) dt) := Bo.below h4 (HB3.out (ntc kd tx A3 dt.length c3 cd))
    have HM4 := Lib.hid (h6.below (HB3.out (ntc kd tx A3 dt.length c3 cd)))
    have HS : Hid (∀ k, mgS g v' t' k → mgS g v t k ∨ w.heap.size ≤ k) := fun k hk => (h7 k hk).imp id (HU.out k)
    have HK : Hid (∀ k, ob (.slice A3 dt.length c3) k → (mgS g v t k ∨ w.heap.size ≤ k) ∧ ¬ mgS g v' t' k) := fun k hk => ⟨(h5 k hk).imp id (HU.out k), h8 k hk⟩
    clear h2 h4 h5 h6 h7 h8 HT3 HB3 HU HG3 hkd
    go_upto_region 4 with (refine wpList_sw (cs := ntc kd tx A3 dt.length c3 cd) rfl _ _ rfl rfl rfl HN3.out rfl (nt_ok _ _ _ _ _ _) ?_)
    rw [nt0_eq]
    clear HN3
    generalize (w3.alloc (.cells (ntc 0 false none 0 0 0) 34)).setRow w3.heap.size (ntc kd tx A3 dt.length c3 cd) = w4 at *
    generalize w3.heap.size = p6 at *
    have c0 : w4.cell? ⟨p6, 0, none⟩ = some (.int .u8 (kd : Int)) := HT4.out.nr.cell rfl
    go_upto_region 8 with fail
    clear c0
    have HT5 := Lib.hid HT4.out.drew
    have HM5 : Hid (Mg w4.drew base g v' t' x') := HM4.out.keep fun _ _ => rfl
    have HO5 : Hid (Bo w4.drew base 5 (.slice A3 dt.length c3) dt) := OwS.keep HO4.out fun _ _ => rfl
    clear HT4 HM4 HO4
    refine wp_region_held_drew (S := fun W => Row W p6 34 (ntc kd tx A3 dt.length c3 cd) ∧ W.cell? ⟨p6, 0, none⟩ = some (.int .u8 (kd : Int))) (by kernel_rfl) ⟨HT5.out.nr, HT5.out.nr.cell rfl⟩ (fun hHeld => ?_)
    refine wpAnyH_take (i := 0) (v := _) rfl (by kernel_rfl) (by kernel_rfl) (by kernel_rfl) (fun _ _ _ h => h) (yields_ld (by rfl) _ rfl rfl (nt_ok _ _ _ _ _ _) (fun _ hSw => hSw.1)) (by assumption) ?rest0w4
    try simp only [Act.put, List.getElem_toArray, List.getElem_cons_zero, List.setIfInBounds_toArray, List.set_cons_zero, List.set_cons_succ]
    refine wpAnyH_take (i := 1) (v := ?v1q10) rfl (by kernel_rfl) (by kernel_rfl) (by kernel_rfl) (fun _ _ _ h => h) (Or.inl ⟨by rfl, ?hy1q10⟩) (by assumption) ?rest1q10
    case hy1q10 => (intro w hSw; (try dsimp only at hSw); go_simp <;> with_reducible rfl)
    try simp only [Act.put, List.getElem_toArray, List.getElem_cons_zero, List.getElem_cons_succ, List.setIfInBounds_toArray, List.set_cons_zero, List.set_cons_succ]
    refine wpAnyH_take (i := 2) (v := ?v2q10) rfl (by kernel_rfl) (by kernel_rfl) (by kernel_rfl) (fun _ _ _ h => h) (Or.inl ⟨by rfl, ?hy2q10⟩) (by assumption) ?rest2q10
    case hy2q10 => (intro w hSw; (try dsimp only at hSw); go_simp <;> with_reducible rfl)
    try simp only [Act.put, List.getElem_toArray, List.getElem_cons_zero, List.getElem_cons_succ, List.setIfInBounds_toArray, List.set_cons_zero, List.set_cons_succ]
    refine wpAnyH_take (i := 3) (v := ?v3q10) rfl (by kernel_rfl) (by kernel_rfl) (by kernel_rfl) (fun _ _ _ h => h) (Or.inl ⟨by rfl, ?hy3q10⟩) (by assumption) ?rest3q10
    case hy3q10 => (intro w hSw; (try dsimp only at hSw); go_simp <;> with_reducible rfl)
    try simp only [Act.put, List.getElem_toArray, List.getElem_cons_zero, List.getElem_cons_succ, List.setIfInBounds_toArray, List.set_cons_zero, List.set_cons_succ]
    refine wpAnyH_ready (rs := [4]) (by kernel_rfl) (by simp) ?_
    refine AllReadyH.cons rfl (fun K hK => ?_) AllReadyH.nil
    refine step_sw (cs := (ntc kd tx A3 dt.length c3 cd)) rfl _ _ rfl rfl rfl HT5.out.rr rfl (nt_ok _ _ _ _ _ _) ?_
    refine hK.out _ _ ⟨HT5.out.nr.setRow' (by have := HT5.out.np; omega) _, (HT5.out.nr.setRow' (by have := HT5.out.np; omega) _).cell rfl⟩ (fun hHeld => ?_)
    clear hK K
    try simp only [Act.put, List.getElem_toArray, List.getElem_cons_zero, List.getElem_cons_succ]
    refine wpAnyH_take (i := 5) (v := ?v5q11) rfl (by kernel_rfl) (by kernel_rfl) (by kernel_rfl) (fun _ _ _ h => h) (Or.inl ⟨by rfl, ?hy5q11⟩) (by assumption) ?rest5q11
    case hy5q11 => (intro w hSw; (try dsimp only at hSw); go_simp <;> with_reducible rfl)
    try simp only [Act.put, List.getElem_toArray, List.getElem_cons_zero, List.getElem_cons_succ, List.setIfInBounds_toArray, List.set_cons_zero, List.set_cons_succ]
    refine wpAnyH_done (by kernel_rfl) ?_ _
    go_wp2_with fail
    refine bodyPost_ret (ret_agv (by rfl) _ rfl (HT5.out.rr.setRow ((ntc kd tx A3 dt.length c3 cd))) (nt_ok _ _ _ _ _ _) rfl) rfl ?_
    exact HT5.out.open (o := some ⟨kd, tx, cd, dt⟩) HM5.out HS.out HO5.out HK.out _
theorem mTake_any {w : World} {base g : Nat} {v : Value} {t : Option Nat} {x : Gg} (h : Mg w base g v t x) {fin mask : Bool} {op key c : Nat} {A : Option Addr} {d : List UInt8} (hr : RdF w w.heap.size (mgS g v t) A d) (hl : d.length ≤ 100000) (hc : d.length ≤ c) (hG : GlobE w) :
    Calls Tryd.prog 12 #[.pointer (some ⟨g, 0, none⟩), .agg (pcC fin op mask key A d.length c)] w (TakG w base g v t (takeM x op fin d)) := by
  cases ho : x.over
  · exact mTake_live h ho hr hl hc hG
  · rw [take_over ho]; exact mTake_over h ho hr
end Go.Proofs.YtdegpchofhnipaaDoor
