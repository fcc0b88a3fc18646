/-
  The document's gatherer: a frame comes by, by its contract. Conditions: how many bytes there may be.
-/
import Derived.Test.YtdegpchofhnipaaDoorMrt
namespace Go.Proofs.YtdegpchofhnipaaDoor
open Go.RowKit Go.WideShapes

/-- On the way: what came in, the two results, the zero note. -/
structure RT (w : World) (p : Nat) (cur : Gg) (fin : Bool) (op : Nat) (mask : Bool) (key : Nat) (A : Option Addr) (d : List UInt8) (c : Nat) (W : World) : Prop where
  gx : Row W p 28 (g8 cur)
  pr : Row W (p + 1) 32 (pcC fin op mask key A d.length c)
  rv : RV w W (p + 2) (g8 gg0) (ntc 0 false none 0 0 0)
  nn : Row W (p + 4) 34 (ntc 0 false none 0 0 0)
  rd : RdB W w.heap.size A d
  lo : w.heap.size ≤ p
section
variable {w W W' : World} {p : Nat} {cur : Gg} {fin : Bool} {op : Nat} {mask : Bool} {key : Nat} {A : Option Addr} {d : List UInt8} {c : Nat}
theorem RT.start (hr : RdB w w.heap.size A d) (cur : Gg) (fin : Bool) (op : Nat) (mask : Bool) (key c : Nat) :
    RT w w.heap.size cur fin op mask key A d c (((((w.alloc (.cells (g8 cur) 28)).alloc (.cells (pcC fin op mask key A d.length c) 32)).alloc (.cells (g8 gg0) 28)).alloc (.cells (ntc 0 false none 0 0 0) 34)).alloc (.cells (ntc 0 false none 0 0 0) 34)) ∧
    RT w w.heap.size cur fin op mask key A d c ((((((w.alloc (.cells (g8 cur) 28)).alloc (.cells (pcC fin op mask key A d.length c) 32)).alloc (.cells (g8 gg0) 28)).alloc (.cells (ntc 0 false none 0 0 0) 34)).alloc (.cells (ntc 0 false none 0 0 0) 34)).setRow (w.heap.size + 4) (ntc 0 false none 0 0 0)) := by
  have hb : Below w.heap.size w (((((w.alloc (.cells (g8 cur) 28)).alloc (.cells (pcC fin op mask key A d.length c) 32)).alloc (.cells (g8 gg0) 28)).alloc (.cells (ntc 0 false none 0 0 0) 34)).alloc (.cells (ntc 0 false none 0 0 0) 34)) :=
    (((((Below.refl _ _).alloc (Nat.le_refl _) _).alloc (by simp) _).alloc (by simp <;> omega) _).alloc (by simp <;> omega) _).alloc (by simp <;> omega) _
  have h1 : RT w w.heap.size cur fin op mask key A d c (((((w.alloc (.cells (g8 cur) 28)).alloc (.cells (pcC fin op mask key A d.length c) 32)).alloc (.cells (g8 gg0) 28)).alloc (.cells (ntc 0 false none 0 0 0) 34)).alloc (.cells (ntc 0 false none 0 0 0) 34)) :=
    ⟨((((Row.new w _ _).alloc _).alloc _).alloc _).alloc _, (((Row.made _ _ _ (by simp)).alloc _).alloc _).alloc _, ⟨((Row.made _ _ _ (by simp)).alloc _).alloc _, (Row.made _ _ _ (by simp)).alloc _, hb, by omega⟩, Row.made _ _ _ (by simp), hr.below hb, Nat.le_refl _⟩
  refine ⟨h1, ⟨h1.gx.setRow' (by omega) _, h1.pr.setRow' (by omega) _, ⟨h1.rv.g.setRow' (by omega) _, h1.rv.n.setRow' (by omega) _, below_setRow hb _ _ (by omega), by omega⟩, h1.nn.setRow _, ?_, Nat.le_refl _⟩⟩
  exact RdB.keep h1.rd fun a ha => World.cell?_of_block (setRow_other _ _ _ _ (by omega))
theorem RT.below (h : RT w p cur fin op mask key A d c W) (hb : Below W.heap.size W W') : RT w p cur fin op mask key A d c W' := ⟨h.gx.upM hb, h.pr.upM hb, h.rv.below hb, h.nn.upM hb, h.rd.below (hb.mono h.rv.b.size), h.lo⟩
theorem RT.drew (h : RT w p cur fin op mask key A d c W) : RT w p cur fin op mask key A d c W.drew := ⟨h.gx, h.pr, h.rv.drewN 1, h.nn, RdB.keep h.rd fun _ _ => rfl, h.lo⟩
theorem RT.setG (h : RT w p cur fin op mask key A d c W) (cur' : Gg) : RT w p cur' fin op mask key A d c (W.setRow p (g8 cur')) :=
  ⟨h.gx.setRow _, h.pr.setRow' (by omega) _, ⟨h.rv.g.setRow' (by omega) _, h.rv.n.setRow' (by omega) _, below_setRow h.rv.b _ _ h.lo, h.rv.l⟩, h.nn.setRow' (by omega) _, RdB.keep h.rd fun a ha => World.cell?_of_block (setRow_other _ _ _ _ (by have := h.lo; omega)), h.lo⟩
theorem RT.setB (h : RT w p cur fin op mask key A d c W) (B : List UInt8) : RT w p { cur with b := B } fin op mask key A d c (W.setCell ⟨p, 0, none⟩ (.string (txb B))) :=
  ⟨h.gx.stored 0 _, h.pr.stored' (a := ⟨p, 0, none⟩) (by show p + 1 ≠ p; omega) _, ⟨h.rv.g.stored' (a := ⟨p, 0, none⟩) (by show p + 2 ≠ p; omega) _, h.rv.n.stored' (a := ⟨p, 0, none⟩) (by show p + 2 + 1 ≠ p; omega) _, h.rv.b.setCell (p := ⟨p, 0, none⟩) h.lo _, h.rv.l⟩, h.nn.stored' (a := ⟨p, 0, none⟩) (by show p + 4 ≠ p; omega) _, RdB.keep h.rd fun a ha => World.cell?_of_block (Below.heap_setCell _ _ _ _ (by show a.block ≠ p; have := h.lo; omega)), h.lo⟩
theorem g8_cells {x : Gg} (h : Row W p 28 (g8 x)) : W.cell? ⟨p, 0, none⟩ = some (.string (txb x.b)) ∧ W.cell? ⟨p, 1, none⟩ = some (.bool x.busy) ∧ W.cell? ⟨p, 2, none⟩ = some (.bool x.text) ∧ W.cell? ⟨p, 3, none⟩ = some (.bool x.over) := ⟨h.cell rfl, h.cell rfl, h.cell rfl, h.cell rfl⟩
end
/-- What a frame comes to, by what the text of its message is. -/
def finM (t : Bool) (B : List UInt8) (gn : Nat) (wh fin : Bool) : Gg × Option Nt := if t = true ∧ (gn < B.length ∨ (fin = true ∧ wh = false)) then badM 1007 else if fin = true then (gg0, some ⟨1, t, 0, B⟩) else (⟨B, true, t, false⟩, none)
theorem finM_bad {t : Bool} {B : List UInt8} {gn : Nat} {wh fin : Bool} (h : t = true ∧ (gn < B.length ∨ (fin = true ∧ wh = false))) : finM t B gn wh fin = badM 1007 := if_pos h
theorem finM_go {t : Bool} {B : List UInt8} {gn : Nat} {wh fin : Bool} (h : ¬ (t = true ∧ (gn < B.length ∨ (fin = true ∧ wh = false)))) : finM t B gn wh fin = if fin = true then (gg0, some ⟨1, t, 0, B⟩) else (⟨B, true, t, false⟩, none) := if_neg h
/-- What stays where the first result is written. -/
theorem RT.ret {w W : World} {p : Nat} {cur : Gg} {fin : Bool} {op : Nat} {mask : Bool} {key : Nat} {A : Option Addr} {d : List UInt8} {c : Nat} (h : RT w p cur fin op mask key A d c W) (y : Array Value) :
    Row (W.setRow (p + 2) y) p 28 (g8 cur) ∧ Row (W.setRow (p + 2) y) (p + 1) 32 (pcC fin op mask key A d.length c) ∧ Row (W.setRow (p + 2) y) (p + 4) 34 (ntc 0 false none 0 0 0) ∧ RV w (W.setRow (p + 2) y) (p + 2) y (ntc 0 false none 0 0 0) ∧ RdB (W.setRow (p + 2) y) w.heap.size A d :=
  ⟨h.gx.setRow' (by omega) _, h.pr.setRow' (by omega) _, h.nn.setRow' (by omega) _, h.rv.setG y, RdB.keep h.rd fun a ha => World.cell?_of_block (setRow_other _ _ _ _ (by have := h.lo; omega))⟩
set_option maxRecDepth 100000 in
set_option maxHeartbeats 8000000 in
theorem rtake_over {x : Gg} (ho : x.over = true) {fin mask : Bool} {op key c : Nat} {A : Option Addr} {d : List UInt8} {w : World} (hr : RdB w w.heap.size A d) : Calls Tryd.prog 13 #[.agg (g8 x), .agg (pcC fin op mask key A d.length c)] w (RTakP w (x, none)) := by
  have H1 := Lib.hid (RT.start hr x fin op mask key c).1
  have H2 := Lib.hid (RT.start hr x fin op mask key c).2
  have HO := Lib.hid ho
  clear hr ho
  go_enter Tryd.func13, Tryd.ntmps13
  go_upto_region 2 with (refine wpList_sw (cs := ntc 0 false none 0 0 0) rfl _ _ rfl rfl rfl H1.out.nn rfl (nt_ok _ _ _ _ _ _) ?_)
  rw [nt0_eq, g8_eq]
  clear H1
  generalize ((((((w.alloc (.cells (g8 x) 28)).alloc (.cells (pcC fin op mask key A d.length c) 32)).alloc (.cells (g8 gg0) 28)).alloc (.cells (ntc 0 false none 0 0 0) 34)).alloc (.cells (ntc 0 false none 0 0 0) 34)).setRow (w.heap.size + 4) (ntc 0 false none 0 0 0)) = w1 at *
  generalize hp : w.heap.size = p at *
  have x3 : w1.cell? ⟨p, 3, none⟩ = some (.bool true) := by rw [← HO.out]; exact (g8_cells H2.out.gx).2.2.2
  go_upto_region 3 with fail
  have H3 := Lib.hid H2.out.drew
  clear H2 x3
  refine wp_region_held_drew (S := fun W => Row W p 28 (g8 x) ∧ Row W (p + 4) 34 (ntc 0 false none 0 0 0)) (by kernel_rfl) ⟨H3.out.gx, H3.out.nn⟩ (fun hHeld => ?_)
  refine tkY 0 rfl (yields_ld (by rfl) _ rfl rfl (g8_ok _) (fun _ h => h.1)) ?_
  refine tkY 1 rfl (yields_ld (by rfl) _ rfl rfl (nt_ok _ _ _ _ _ _) (fun _ h => h.2)) ?_
  refine wpAnyH_ready (rs := [2]) (by kernel_rfl) (by simp) ?_
  refine AllReadyH.cons rfl (fun K hK => ?_) AllReadyH.nil
  refine step_sw (cs := g8 x) rfl _ _ rfl rfl rfl H3.out.rv.g rfl (g8_ok _) ?_
  have HR := Lib.hid (H3.out.ret (g8 x))
  refine hK.out _ _ ⟨HR.out.1, HR.out.2.2.1⟩ (fun hHeld => ?_)
  clear hK K
  try simp only [Act.put, List.getElem_toArray, List.getElem_cons_zero, List.getElem_cons_succ]
  refine wpAnyH_ready (rs := [3]) (by kernel_rfl) (by simp) ?_
  refine AllReadyH.cons rfl (fun K hK => ?_) AllReadyH.nil
  refine step_sw (cs := ntc 0 false none 0 0 0) rfl _ _ rfl rfl rfl HR.out.2.2.2.1.n rfl (nt_ok _ _ _ _ _ _) ?_
  have HV := Lib.hid (HR.out.2.2.2.1.setN (ntc 0 false none 0 0 0))
  refine hK.out _ _ ⟨HR.out.1.setRow' (by omega) _, HR.out.2.2.1.setRow' (by omega) _⟩ (fun hHeld => ?_)
  clear hK K
  try simp only [Act.put, List.getElem_toArray, List.getElem_cons_zero, List.getElem_cons_succ]
  refine tkH 4 ?_
  refine wpAnyH_done (by kernel_rfl) ?_ _
  go_wp2_with fail
  refine bodyPost_ret (retJ3 (by rfl) _ rfl HV.out.g (g8_ok _) rfl HV.out.n (nt_ok _ _ _ _ _ _) rfl) rfl ?_
  exact ⟨none, 0, rfl, RdB.nil, HV.out.b⟩
set_option maxRecDepth 100000 in
set_option maxHeartbeats 8000000 in
theorem rtake_ping9 {x : Gg} (ho : x.over = false) {fin mask : Bool} {key c : Nat} {A : Option Addr} {d : List UInt8} {w : World} (hr : RdB w w.heap.size A d) : Calls Tryd.prog 13 #[.agg (g8 x), .agg (pcC fin 9 mask key A d.length c)] w (RTakP w (x, some ⟨2, false, 0, d⟩)) := by
  have H1 := Lib.hid (RT.start hr x fin 9 mask key c).1
  have H2 := Lib.hid (RT.start hr x fin 9 mask key c).2
  have HO := Lib.hid ho
  clear hr ho
  go_enter Tryd.func13, Tryd.ntmps13
  go_upto_region 2 with (refine wpList_sw (cs := ntc 0 false none 0 0 0) rfl _ _ rfl rfl rfl H1.out.nn rfl (nt_ok _ _ _ _ _ _) ?_)
  rw [nt0_eq, g8_eq]
  clear H1
  generalize ((((((w.alloc (.cells (g8 x) 28)).alloc (.cells (pcC fin 9 mask key A d.length c) 32)).alloc (.cells (g8 gg0) 28)).alloc (.cells (ntc 0 false none 0 0 0) 34)).alloc (.cells (ntc 0 false none 0 0 0) 34)).setRow (w.heap.size + 4) (ntc 0 false none 0 0 0)) = w1 at *
  generalize hp : w.heap.size = p at *
  have x3 : w1.cell? ⟨p, 3, none⟩ = some (.bool false) := by rw [← HO.out]; exact (g8_cells H2.out.gx).2.2.2
  have p1 : w1.cell? ⟨p + 1, 1, none⟩ = some (.int .u8 9) := (pc_cells H2.out.pr).2.1
  go_upto_region 7 with fail
  have H3 := Lib.hid H2.out.drew
  clear H2 x3 p1
  refine wp_region_held_drew (S := fun W => Row W p 28 (g8 x) ∧ W.cell? ⟨p + 1, 4, none⟩ = some (.slice A d.length c)) (by kernel_rfl) ⟨H3.out.gx, (pc_cells H3.out.pr).2.2.2.2⟩ (fun hHeld => ?_)
  refine tkY 0 rfl (yields_ld (by rfl) _ rfl rfl (g8_ok _) (fun _ h => h.1)) ?_
  refine tkH 1 ?_
  refine tkH 2 ?_
  refine tkH 3 ?_
  refine wpAnyH_ready (rs := [4]) (by kernel_rfl) (by simp) ?_
  refine AllReadyH.cons rfl (fun K hK => ?_) AllReadyH.nil
  refine step_sw (cs := g8 x) rfl _ _ rfl rfl rfl H3.out.rv.g rfl (g8_ok _) ?_
  have HR := Lib.hid (H3.out.ret (g8 x))
  refine hK.out _ _ ⟨HR.out.1, (pc_cells HR.out.2.1).2.2.2.2⟩ (fun hHeld => ?_)
  clear hK K
  try simp only [Act.put, List.getElem_toArray, List.getElem_cons_zero, List.getElem_cons_succ]
  refine wpAnyH_ready (rs := [5]) (by kernel_rfl) (by simp) ?_
  refine AllReadyH.cons rfl (fun K hK => ?_) AllReadyH.nil
  refine step_sw (cs := ntc 2 false A d.length c 0) rfl _ _ rfl rfl rfl HR.out.2.2.2.1.n rfl (nt_ok _ _ _ _ _ _) ?_
  have HV := Lib.hid (HR.out.2.2.2.1.setN (ntc 2 false A d.length c 0))
  have HD : Hid (RdB _ w.heap.size A d) := RdB.keep HR.out.2.2.2.2 fun a ha => World.cell?_of_block (setRow_other _ (p + 2 + 1) a.block (ntc 2 false A d.length c 0) (by have := H3.out.lo; omega))
  refine hK.out _ _ ⟨HR.out.1.setRow' (by omega) _, (pc_cells (HR.out.2.1.setRow' (k := p + 2 + 1) (by omega) (ntc 2 false A d.length c 0))).2.2.2.2⟩ (fun hHeld => ?_)
  clear hK K
  try simp only [Act.put, List.getElem_toArray, List.getElem_cons_zero, List.getElem_cons_succ]
  refine tkH 6 ?_
  refine wpAnyH_done (by kernel_rfl) ?_ _
  go_wp2_with fail
  refine bodyPost_ret (retJ3 (by rfl) _ rfl HV.out.g (g8_ok _) rfl HV.out.n (nt_ok _ _ _ _ _ _) rfl) rfl ?_
  exact ⟨A, c, rfl, HD.out.more HV.out.b.size, HV.out.b⟩
set_option maxRecDepth 100000 in
set_option maxHeartbeats 8000000 in
theorem rtake_ping10 {x : Gg} (ho : x.over = false) {fin mask : Bool} {key c : Nat} {A : Option Addr} {d : List UInt8} {w : World} (hr : RdB w w.heap.size A d) : Calls Tryd.prog 13 #[.agg (g8 x), .agg (pcC fin 10 mask key A d.length c)] w (RTakP w (x, some ⟨3, false, 0, d⟩)) := by
  have H1 := Lib.hid (RT.start hr x fin 10 mask key c).1
  have H2 := Lib.hid (RT.start hr x fin 10 mask key c).2
  have HO := Lib.hid ho
  clear hr ho
  go_enter Tryd.func13, Tryd.ntmps13
  go_upto_region 2 with (refine wpList_sw (cs := ntc 0 false none 0 0 0) rfl _ _ rfl rfl rfl H1.out.nn rfl (nt_ok _ _ _ _ _ _) ?_)
  rw [nt0_eq, g8_eq]
  clear H1
  generalize ((((((w.alloc (.cells (g8 x) 28)).alloc (.cells (pcC fin 10 mask key A d.length c) 32)).alloc (.cells (g8 gg0) 28)).alloc (.cells (ntc 0 false none 0 0 0) 34)).alloc (.cells (ntc 0 false none 0 0 0) 34)).setRow (w.heap.size + 4) (ntc 0 false none 0 0 0)) = w1 at *
  generalize hp : w.heap.size = p at *
  have x3 : w1.cell? ⟨p, 3, none⟩ = some (.bool false) := by rw [← HO.out]; exact (g8_cells H2.out.gx).2.2.2
  have p1 : w1.cell? ⟨p + 1, 1, none⟩ = some (.int .u8 10) := (pc_cells H2.out.pr).2.1
  go_upto_region 9 with fail
  have H3 := Lib.hid H2.out.drew
  clear H2 x3 p1
  refine wp_region_held_drew (S := fun W => Row W p 28 (g8 x) ∧ W.cell? ⟨p + 1, 4, none⟩ = some (.slice A d.length c)) (by kernel_rfl) ⟨H3.out.gx, (pc_cells H3.out.pr).2.2.2.2⟩ (fun hHeld => ?_)
  refine tkY 0 rfl (yields_ld (by rfl) _ rfl rfl (g8_ok _) (fun _ h => h.1)) ?_
  refine tkH 1 ?_
  refine tkH 2 ?_
  refine tkH 3 ?_
  refine wpAnyH_ready (rs := [4]) (by kernel_rfl) (by simp) ?_
  refine AllReadyH.cons rfl (fun K hK => ?_) AllReadyH.nil
  refine step_sw (cs := g8 x) rfl _ _ rfl rfl rfl H3.out.rv.g rfl (g8_ok _) ?_
  have HR := Lib.hid (H3.out.ret (g8 x))
  refine hK.out _ _ ⟨HR.out.1, (pc_cells HR.out.2.1).2.2.2.2⟩ (fun hHeld => ?_)
  clear hK K
  try simp only [Act.put, List.getElem_toArray, List.getElem_cons_zero, List.getElem_cons_succ]
  refine wpAnyH_ready (rs := [5]) (by kernel_rfl) (by simp) ?_
  refine AllReadyH.cons rfl (fun K hK => ?_) AllReadyH.nil
  refine step_sw (cs := ntc 3 false A d.length c 0) rfl _ _ rfl rfl rfl HR.out.2.2.2.1.n rfl (nt_ok _ _ _ _ _ _) ?_
  have HV := Lib.hid (HR.out.2.2.2.1.setN (ntc 3 false A d.length c 0))
  have HD : Hid (RdB _ w.heap.size A d) := RdB.keep HR.out.2.2.2.2 fun a ha => World.cell?_of_block (setRow_other _ (p + 2 + 1) a.block (ntc 3 false A d.length c 0) (by have := H3.out.lo; omega))
  refine hK.out _ _ ⟨HR.out.1.setRow' (by omega) _, (pc_cells (HR.out.2.1.setRow' (k := p + 2 + 1) (by omega) (ntc 3 false A d.length c 0))).2.2.2.2⟩ (fun hHeld => ?_)
  clear hK K
  try simp only [Act.put, List.getElem_toArray, List.getElem_cons_zero, List.getElem_cons_succ]
  refine tkH 6 ?_
  refine wpAnyH_done (by kernel_rfl) ?_ _
  go_wp2_with fail
  refine bodyPost_ret (retJ3 (by rfl) _ rfl HV.out.g (g8_ok _) rfl HV.out.n (nt_ok _ _ _ _ _ _) rfl) rfl ?_
  exact ⟨A, c, rfl, HD.out.more HV.out.b.size, HV.out.b⟩
set_option maxRecDepth 100000 in
set_option maxHeartbeats 8000000 in
theorem rtake_close {x : Gg} (ho : x.over = false) {fin mask : Bool} {key c : Nat} {A : Option Addr} {d : List UInt8} (hl : d.length ≤ 100000) {w : World} (hr : RdB w w.heap.size A d) : Calls Tryd.prog 13 #[.agg (g8 x), .agg (pcC fin 8 mask key A d.length c)] w (RTakP w (ggX, some (closeN d))) := by
  have H1 := Lib.hid (RT.start hr x fin 8 mask key c).1
  have H2 := Lib.hid (RT.start hr x fin 8 mask key c).2
  have HO := Lib.hid ho
  have HL := Lib.hid hl
  clear hr ho hl
  go_enter Tryd.func13, Tryd.ntmps13
  go_upto_region 2 with (refine wpList_sw (cs := ntc 0 false none 0 0 0) rfl _ _ rfl rfl rfl H1.out.nn rfl (nt_ok _ _ _ _ _ _) ?_)
  rw [nt0_eq, g8_eq]
  clear H1
  generalize ((((((w.alloc (.cells (g8 x) 28)).alloc (.cells (pcC fin 8 mask key A d.length c) 32)).alloc (.cells (g8 gg0) 28)).alloc (.cells (ntc 0 false none 0 0 0) 34)).alloc (.cells (ntc 0 false none 0 0 0) 34)).setRow (w.heap.size + 4) (ntc 0 false none 0 0 0)) = w1 at *
  generalize hp : w.heap.size = p at *
  have x3 : w1.cell? ⟨p, 3, none⟩ = some (.bool false) := by rw [← HO.out]; exact (g8_cells H2.out.gx).2.2.2
  have p1 : w1.cell? ⟨p + 1, 1, none⟩ = some (.int .u8 8) := (pc_cells H2.out.pr).2.1
  have p4 : w1.cell? ⟨p + 1, 4, none⟩ = some (.slice A d.length c) := (pc_cells H2.out.pr).2.2.2.2
  have htx : (convert 30 9 (.slice A d.length c)).run Tryd.prog w1 = .ok (.string (txb d)) w1 := run_text (P := Tryd.prog) (c := c) Tryd.underlying30 Tryd.underlying5 Tryd.underlying9 H2.out.rd
  have hcl := rcloses_any (s := d) HL.out w1
  generalize closeN d = N at *
  generalize txb d = y at *
  go_wp2_with fail
  refine hcl.mono ?_
  rintro e w2 ⟨A2, c2, rfl, hd, hb⟩
  have HQ := Lib.hid (H2.out.below hb)
  have HR := Lib.hid (HQ.out.rv.setG (g8 ggX))
  have HV := Lib.hid (HR.out.setN (ntc N.kind N.text A2 N.dat.length c2 N.code))
  have HP4 : Hid (p + 4 < w1.heap.size) := H2.out.nn.lt
  have hd2 : RdB ((w2.setRow (p + 2) (g8 ggX)).setRow (p + 2 + 1) (ntc N.kind N.text A2 N.dat.length c2 N.code)) w2.heap.size A2 N.dat := RdB.ofS (RdS.keep hd fun k hk => by rw [setRow_other _ _ _ _ (by have := HP4.out; omega), setRow_other _ _ _ _ (by have := HP4.out; omega)]) (fun k hk _ => hk.2)
  have HD2 := Lib.hid hd2
  clear hb hd hd2 hcl htx H2 x3 p1 p4
  go_wp2_with (first
    | (refine wpList_sw (cs := g8 ggX) rfl _ _ rfl rfl rfl HQ.out.rv.g rfl (g8_ok _) ?_)
    | (refine wpList_sw (cs := ntc N.kind N.text A2 N.dat.length c2 N.code) rfl _ _ rfl rfl rfl HR.out.n rfl (nt_ok _ _ _ _ _ _) ?_))
  refine bodyPost_ret (retJ3 (by rfl) _ rfl HV.out.g (g8_ok _) rfl HV.out.n (nt_ok _ _ _ _ _ _) rfl) rfl ?_
  exact ⟨A2, c2, rfl, HD2.out.more (by simp), HV.out.b⟩
set_option maxRecDepth 100000 in
set_option maxHeartbeats 8000000 in
theorem rtake_else {x : Gg} (ho : x.over = false) {fin mask : Bool} {op key c : Nat} {A : Option Addr} {d : List UInt8} (hop : 2 < op ∧ op ≠ 8 ∧ op ≠ 9 ∧ op ≠ 10) {w : World} (hr : RdB w w.heap.size A d) : Calls Tryd.prog 13 #[.agg (g8 x), .agg (pcC fin op mask key A d.length c)] w (RTakP w (badM 1002)) := by
  have H1 := Lib.hid (RT.start hr x fin op mask key c).1
  have H2 := Lib.hid (RT.start hr x fin op mask key c).2
  have HO := Lib.hid ho
  have d0 : ((op : Int) == 0) = false := beq_eq_false_iff_ne.2 (by omega)
  have d1 : ((op : Int) == 1) = false := beq_eq_false_iff_ne.2 (by omega)
  have d2 : ((op : Int) == 2) = false := beq_eq_false_iff_ne.2 (by omega)
  have d8 : ((op : Int) == 8) = false := beq_eq_false_iff_ne.2 (by omega)
  have d9 : ((op : Int) == 9) = false := beq_eq_false_iff_ne.2 (by omega)
  have d10 : ((op : Int) == 10) = false := beq_eq_false_iff_ne.2 (by omega)
  clear hr ho hop
  go_enter Tryd.func13, Tryd.ntmps13
  go_upto_region 2 with (refine wpList_sw (cs := ntc 0 false none 0 0 0) rfl _ _ rfl rfl rfl H1.out.nn rfl (nt_ok _ _ _ _ _ _) ?_)
  rw [nt0_eq, g8_eq]
  clear H1
  generalize ((((((w.alloc (.cells (g8 x) 28)).alloc (.cells (pcC fin op mask key A d.length c) 32)).alloc (.cells (g8 gg0) 28)).alloc (.cells (ntc 0 false none 0 0 0) 34)).alloc (.cells (ntc 0 false none 0 0 0) 34)).setRow (w.heap.size + 4) (ntc 0 false none 0 0 0)) = w1 at *
  generalize hp : w.heap.size = p at *
  have x3 : w1.cell? ⟨p, 3, none⟩ = some (.bool false) := by rw [← HO.out]; exact (g8_cells H2.out.gx).2.2.2
  have p1 : w1.cell? ⟨p + 1, 1, none⟩ = some (.int .u8 (op : Int)) := (pc_cells H2.out.pr).2.1
  go_wp2_with fail
  refine (rbad_any 1002 _).mono ?_
  rintro e w8 ⟨A8, c8, rfl, _, hb⟩
  have HQ := Lib.hid (H2.out.below hb)
  have HR := Lib.hid (HQ.out.rv.setG (g8 ggX))
  have HV := Lib.hid (HR.out.setN (ntc 5 false A8 0 c8 1002))
  clear hb H2
  go_wp2_with (first
    | (refine wpList_sw (cs := g8 ggX) rfl _ _ rfl rfl rfl HQ.out.rv.g rfl (g8_ok _) ?_)
    | (refine wpList_sw (cs := ntc 5 false A8 0 c8 1002) rfl _ _ rfl rfl rfl HR.out.n rfl (nt_ok _ _ _ _ _ _) ?_))
  refine bodyPost_ret (retJ3 (by rfl) _ rfl HV.out.g (g8_ok _) rfl HV.out.n (nt_ok _ _ _ _ _ _) rfl) rfl ?_
  exact ⟨A8, c8, rfl, RdB.nil, HV.out.b⟩
set_option maxRecDepth 100000 in
set_option maxHeartbeats 8000000 in
theorem rtake_order0 {xb : List UInt8} {xt : Bool} {fin mask : Bool} {key c : Nat} {A : Option Addr} {d : List UInt8} {w : World} (hr : RdB w w.heap.size A d) : Calls Tryd.prog 13 #[.agg (g8 ⟨xb, false, xt, false⟩), .agg (pcC fin 0 mask key A d.length c)] w (RTakP w (badM 1002)) := by
  have H1 := Lib.hid (RT.start hr ⟨xb, false, xt, false⟩ fin 0 mask key c).1
  have H2 := Lib.hid (RT.start hr ⟨xb, false, xt, false⟩ fin 0 mask key c).2
  clear hr
  go_enter Tryd.func13, Tryd.ntmps13
  go_upto_region 2 with (refine wpList_sw (cs := ntc 0 false none 0 0 0) rfl _ _ rfl rfl rfl H1.out.nn rfl (nt_ok _ _ _ _ _ _) ?_)
  rw [nt0_eq, g8_eq]
  clear H1
  generalize ((((((w.alloc (.cells (g8 ⟨xb, false, xt, false⟩) 28)).alloc (.cells (pcC fin 0 mask key A d.length c) 32)).alloc (.cells (g8 gg0) 28)).alloc (.cells (ntc 0 false none 0 0 0) 34)).alloc (.cells (ntc 0 false none 0 0 0) 34)).setRow (w.heap.size + 4) (ntc 0 false none 0 0 0)) = w1 at *
  generalize hp : w.heap.size = p at *
  have x3 : w1.cell? ⟨p, 3, none⟩ = some (.bool false) := (g8_cells H2.out.gx).2.2.2
  have x1 : w1.cell? ⟨p, 1, none⟩ = some (.bool false) := (g8_cells H2.out.gx).2.1
  have p1 : w1.cell? ⟨p + 1, 1, none⟩ = some (.int .u8 0) := (pc_cells H2.out.pr).2.1
  go_wp2_with fail
  refine (rbad_any 1002 _).mono ?_
  rintro e w8 ⟨A8, c8, rfl, _, hb⟩
  have HQ := Lib.hid (H2.out.below hb)
  have HR := Lib.hid (HQ.out.rv.setG (g8 ggX))
  have HV := Lib.hid (HR.out.setN (ntc 5 false A8 0 c8 1002))
  clear hb H2
  go_wp2_with (first
    | (refine wpList_sw (cs := g8 ggX) rfl _ _ rfl rfl rfl HQ.out.rv.g rfl (g8_ok _) ?_)
    | (refine wpList_sw (cs := ntc 5 false A8 0 c8 1002) rfl _ _ rfl rfl rfl HR.out.n rfl (nt_ok _ _ _ _ _ _) ?_))
  refine bodyPost_ret (retJ3 (by rfl) _ rfl HV.out.g (g8_ok _) rfl HV.out.n (nt_ok _ _ _ _ _ _) rfl) rfl ?_
  exact ⟨A8, c8, rfl, RdB.nil, HV.out.b⟩
set_option maxRecDepth 100000 in
set_option maxHeartbeats 8000000 in
theorem rtake_order1 {xb : List UInt8} {xt : Bool} {fin mask : Bool} {key c : Nat} {A : Option Addr} {d : List UInt8} {w : World} (hr : RdB w w.heap.size A d) : Calls Tryd.prog 13 #[.agg (g8 ⟨xb, true, xt, false⟩), .agg (pcC fin 1 mask key A d.length c)] w (RTakP w (badM 1002)) := by
  have H1 := Lib.hid (RT.start hr ⟨xb, true, xt, false⟩ fin 1 mask key c).1
  have H2 := Lib.hid (RT.start hr ⟨xb, true, xt, false⟩ fin 1 mask key c).2
  clear hr
  go_enter Tryd.func13, Tryd.ntmps13
  go_upto_region 2 with (refine wpList_sw (cs := ntc 0 false none 0 0 0) rfl _ _ rfl rfl rfl H1.out.nn rfl (nt_ok _ _ _ _ _ _) ?_)
  rw [nt0_eq, g8_eq]
  clear H1
  generalize ((((((w.alloc (.cells (g8 ⟨xb, true, xt, false⟩) 28)).alloc (.cells (pcC fin 1 mask key A d.length c) 32)).alloc (.cells (g8 gg0) 28)).alloc (.cells (ntc 0 false none 0 0 0) 34)).alloc (.cells (ntc 0 false none 0 0 0) 34)).setRow (w.heap.size + 4) (ntc 0 false none 0 0 0)) = w1 at *
  generalize hp : w.heap.size = p at *
  have x3 : w1.cell? ⟨p, 3, none⟩ = some (.bool false) := (g8_cells H2.out.gx).2.2.2
  have x1 : w1.cell? ⟨p, 1, none⟩ = some (.bool true) := (g8_cells H2.out.gx).2.1
  have p1 : w1.cell? ⟨p + 1, 1, none⟩ = some (.int .u8 1) := (pc_cells H2.out.pr).2.1
  go_wp2_with fail
  refine (rbad_any 1002 _).mono ?_
  rintro e w8 ⟨A8, c8, rfl, _, hb⟩
  have HQ := Lib.hid (H2.out.below hb)
  have HR := Lib.hid (HQ.out.rv.setG (g8 ggX))
  have HV := Lib.hid (HR.out.setN (ntc 5 false A8 0 c8 1002))
  clear hb H2
  go_wp2_with (first
    | (refine wpList_sw (cs := g8 ggX) rfl _ _ rfl rfl rfl HQ.out.rv.g rfl (g8_ok _) ?_)
    | (refine wpList_sw (cs := ntc 5 false A8 0 c8 1002) rfl _ _ rfl rfl rfl HR.out.n rfl (nt_ok _ _ _ _ _ _) ?_))
  refine bodyPost_ret (retJ3 (by rfl) _ rfl HV.out.g (g8_ok _) rfl HV.out.n (nt_ok _ _ _ _ _ _) rfl) rfl ?_
  exact ⟨A8, c8, rfl, RdB.nil, HV.out.b⟩
set_option maxRecDepth 100000 in
set_option maxHeartbeats 8000000 in
theorem rtake_order2 {xb : List UInt8} {xt : Bool} {fin mask : Bool} {key c : Nat} {A : Option Addr} {d : List UInt8} {w : World} (hr : RdB w w.heap.size A d) : Calls Tryd.prog 13 #[.agg (g8 ⟨xb, true, xt, false⟩), .agg (pcC fin 2 mask key A d.length c)] w (RTakP w (badM 1002)) := by
  have H1 := Lib.hid (RT.start hr ⟨xb, true, xt, false⟩ fin 2 mask key c).1
  have H2 := Lib.hid (RT.start hr ⟨xb, true, xt, false⟩ fin 2 mask key c).2
  clear hr
  go_enter Tryd.func13, Tryd.ntmps13
  go_upto_region 2 with (refine wpList_sw (cs := ntc 0 false none 0 0 0) rfl _ _ rfl rfl rfl H1.out.nn rfl (nt_ok _ _ _ _ _ _) ?_)
  rw [nt0_eq, g8_eq]
  clear H1
  generalize ((((((w.alloc (.cells (g8 ⟨xb, true, xt, false⟩) 28)).alloc (.cells (pcC fin 2 mask key A d.length c) 32)).alloc (.cells (g8 gg0) 28)).alloc (.cells (ntc 0 false none 0 0 0) 34)).alloc (.cells (ntc 0 false none 0 0 0) 34)).setRow (w.heap.size + 4) (ntc 0 false none 0 0 0)) = w1 at *
  generalize hp : w.heap.size = p at *
  have x3 : w1.cell? ⟨p, 3, none⟩ = some (.bool false) := (g8_cells H2.out.gx).2.2.2
  have x1 : w1.cell? ⟨p, 1, none⟩ = some (.bool true) := (g8_cells H2.out.gx).2.1
  have p1 : w1.cell? ⟨p + 1, 1, none⟩ = some (.int .u8 2) := (pc_cells H2.out.pr).2.1
  go_wp2_with fail
  refine (rbad_any 1002 _).mono ?_
  rintro e w8 ⟨A8, c8, rfl, _, hb⟩
  have HQ := Lib.hid (H2.out.below hb)
  have HR := Lib.hid (HQ.out.rv.setG (g8 ggX))
  have HV := Lib.hid (HR.out.setN (ntc 5 false A8 0 c8 1002))
  clear hb H2
  go_wp2_with (first
    | (refine wpList_sw (cs := g8 ggX) rfl _ _ rfl rfl rfl HQ.out.rv.g rfl (g8_ok _) ?_)
    | (refine wpList_sw (cs := ntc 5 false A8 0 c8 1002) rfl _ _ rfl rfl rfl HR.out.n rfl (nt_ok _ _ _ _ _ _) ?_))
  refine bodyPost_ret (retJ3 (by rfl) _ rfl HV.out.g (g8_ok _) rfl HV.out.n (nt_ok _ _ _ _ _ _) rfl) rfl ?_
  exact ⟨A8, c8, rfl, RdB.nil, HV.out.b⟩
set_option maxRecDepth 100000 in
set_option maxHeartbeats 8000000 in
theorem rtake_go0 {xb : List UInt8} {xt : Bool} {fin mask : Bool} {key c : Nat} {A : Option Addr} {d : List UInt8} (hl : xb.length + d.length ≤ 100000) {w : World} (hr : RdB w w.heap.size A d) : Calls Tryd.prog 13 #[.agg (g8 ⟨xb, true, xt, false⟩), .agg (pcC fin 0 mask key A d.length c)] w (RTakP w (moreM xt (xb ++ d) fin)) := by
  have H1 := Lib.hid (RT.start hr ⟨xb, true, xt, false⟩ fin 0 mask key c).1
  have H2 := Lib.hid (RT.start hr ⟨xb, true, xt, false⟩ fin 0 mask key c).2
  have HBL := Lib.hid hl
  clear hr hl
  obtain ⟨r0, hr0⟩ : ∃ r0, r0 = moreM xt (xb ++ d) fin := ⟨_, rfl⟩
  rw [← hr0]
  have HR0 := Lib.hid hr0
  clear hr0
  go_enter Tryd.func13, Tryd.ntmps13
  go_upto_region 2 with (refine wpList_sw (cs := ntc 0 false none 0 0 0) rfl _ _ rfl rfl rfl H1.out.nn rfl (nt_ok _ _ _ _ _ _) ?_)
  rw [nt0_eq, g8_eq]
  clear H1
  generalize ((((((w.alloc (.cells (g8 ⟨xb, true, xt, false⟩) 28)).alloc (.cells (pcC fin 0 mask key A d.length c) 32)).alloc (.cells (g8 gg0) 28)).alloc (.cells (ntc 0 false none 0 0 0) 34)).alloc (.cells (ntc 0 false none 0 0 0) 34)).setRow (w.heap.size + 4) (ntc 0 false none 0 0 0)) = w1 at *
  generalize hp : w.heap.size = p at *
  have x3 : w1.cell? ⟨p, 3, none⟩ = some (.bool false) := (g8_cells H2.out.gx).2.2.2
  have x1 : w1.cell? ⟨p, 1, none⟩ = some (.bool true) := (g8_cells H2.out.gx).2.1
  have p1 : w1.cell? ⟨p + 1, 1, none⟩ = some (.int .u8 0) := (pc_cells H2.out.pr).2.1
  go_upto_region 19 with fail
  have H3 := H2
  clear H2
  have hw : w1 = w1 := rfl
  obtain ⟨w2, hw2⟩ : ∃ w2, w2 = w1 := ⟨_, rfl⟩
  rw [← hw2] at H3 ⊢
  clear hw hw2 x3 x1 p1
  have x0 : w2.cell? ⟨p, 0, none⟩ = some (.string (txb xb)) := (g8_cells H3.out.gx).1
  have p4 : w2.cell? ⟨p + 1, 4, none⟩ = some (.slice A d.length c) := (pc_cells H3.out.pr).2.2.2.2
  have htx : (convert 30 9 (.slice A d.length c)).run Tryd.prog w2 = .ok (.string (txb d)) w2 := run_text (P := Tryd.prog) (c := c) Tryd.underlying30 Tryd.underlying5 Tryd.underlying9 H3.out.rd
  have hadd := txb_add xb d (by have := HBL.out; omega) (by have := HBL.out; omega)
  have ht := H3.out.gx.thawed 0
  have H4 := Lib.hid (H3.out.setB (xb ++ d))
  obtain ⟨B, hB⟩ : ∃ B, B = xb ++ d := ⟨_, rfl⟩
  rw [← hB] at H4 hadd HR0
  have HBE : Hid (B.length ≤ 100000) := by show _ ≤ _; rw [hB, List.length_append]; exact HBL.out
  have hsz := txb_size B
  have hgd := fun W => rgood_any (l := B) HBE.out W
  obtain ⟨y, hy⟩ : ∃ y, y = txb B := ⟨_, rfl⟩
  have HY := Lib.hid hy
  rw [← hy] at hadd hsz hgd H4
  generalize txb d = y2 at *
  generalize txb xb = y1 at *
  obtain ⟨gn, hgn⟩ : ∃ gn, gn = (goN ut0 (nats B)).1 := ⟨_, rfl⟩
  obtain ⟨wh, hwh⟩ : ∃ wh, wh = txtB (nats B) := ⟨_, rfl⟩
  rw [← hgn, ← hwh] at hgd
  have HGD := Lib.hid hgd
  have HMM : Hid (r0 = if 4096 < B.length then badM 1009 else finM xt B gn wh fin) := by show _ = _; rw [hgn, hwh, HR0.out]; rfl
  clear hB hy hgn hwh hgd H3 HR0
  go_upto_region 20 with fail
  generalize w2.setCell ⟨p, 0, none⟩ (.string y) = w3 at *
  clear htx hadd ht x0 p4
  have x0 : w3.cell? ⟨p, 0, none⟩ = some (.string y) := by have h := (g8_cells H4.out.gx).1; rw [HY.out]; exact h
  by_cases hbig : 4096 < B.length
  · have hd1 : decide ((4096 : Int) < (B.length : Int)) = true := decide_eq_true (by omega)
    have hd2 : decide (4096 < B.length) = true := decide_eq_true hbig
    rw [if_pos hbig] at HMM
    have hr9 := HMM.out
    subst hr9
    clear HMM hbig HGD
    go_wp2_with fail
    refine (rbad_any 1009 _).mono ?_
    rintro e w8 ⟨A8, c8, rfl, _, hb⟩
    have HQ := Lib.hid (H4.out.below hb)
    have HR := Lib.hid (HQ.out.rv.setG (g8 ggX))
    have HV := Lib.hid (HR.out.setN (ntc 5 false A8 0 c8 1009))
    clear hb H4
    go_wp2_with (first
      | (refine wpList_sw (cs := g8 ggX) rfl _ _ rfl rfl rfl HQ.out.rv.g rfl (g8_ok _) ?_)
      | (refine wpList_sw (cs := ntc 5 false A8 0 c8 1009) rfl _ _ rfl rfl rfl HR.out.n rfl (nt_ok _ _ _ _ _ _) ?_))
    refine bodyPost_ret (retJ3 (by rfl) _ rfl HV.out.g (g8_ok _) rfl HV.out.n (nt_ok _ _ _ _ _ _) rfl) rfl ?_
    exact ⟨A8, c8, rfl, RdB.nil, HV.out.b⟩
  · have hd1 : decide ((4096 : Int) < (B.length : Int)) = false := decide_eq_false (by omega)
    have hd2 : decide (4096 < B.length) = false := decide_eq_false hbig
    rw [if_neg hbig] at HMM
    clear hbig
    go_wp2_with fail
    refine (HGD.out _).mono ?_
    rintro e w4 ⟨rfl, hb⟩
    have H5 := Lib.hid (H4.out.below hb)
    have x2 : w4.cell? ⟨p, 2, none⟩ = some (.bool xt) := (g8_cells H5.out.gx).2.2.1
    have x0 : w4.cell? ⟨p, 0, none⟩ = some (.string y) := by have h := (g8_cells H5.out.gx).1; rw [HY.out]; exact h
    have p0 : w4.cell? ⟨p + 1, 0, none⟩ = some (.bool fin) := (pc_cells H5.out.pr).1
    clear hb HGD H4 hd1 hd2
    obtain ⟨q1, hq1⟩ : ∃ q1, q1 = decide (gn < B.length) := ⟨_, rfl⟩
    have hq2 : decide ((gn : Int) < (B.length : Int)) = q1 := by rw [hq1, decide_eq_decide]; omega
    have hq3 : decide (gn < B.length) = q1 := hq1.symm
    have HQ1 := Lib.hid hq1
    clear hq1
    go_upto_region 23 with fail
    go_cut [111] from 95 to 111 (fun v wx => v = .bool (xt && (q1 || (fin && !wh))) ∧ Hid (wx = w4))
    case first =>
      clear HMM HQ1
      cases xt
      · go_wp2_with fail
        go_meet
        exact ⟨rfl, rfl⟩
      · cases q1
        · cases fin
          · go_wp2_with fail
            go_meet
            exact ⟨rfl, rfl⟩
          · go_wp2_with fail
            go_meet
            exact ⟨rfl, rfl⟩
        · go_wp2_with fail
          go_meet
          exact ⟨rfl, rfl⟩
    case rest =>
      obtain ⟨rfl, hwx⟩ := hcut
      have hwx := hwx.out
      subst hwx
      clear hq2 hq3
      obtain ⟨bd, hbd⟩ : ∃ bd, bd = (xt && (q1 || (fin && !wh))) := ⟨_, rfl⟩
      rw [← hbd]
      have HBD : Hid (bd = true ↔ (xt = true ∧ (gn < B.length ∨ (fin = true ∧ wh = false)))) := by
        show _ ↔ _
        rw [hbd, HQ1.out]
        simp [Bool.and_eq_true, Bool.or_eq_true]
      clear hbd HQ1
      rcases (show bd = true ∨ bd = false by cases bd <;> simp) with rfl | rfl
      · have hr9 : r0 = badM 1007 := by rw [HMM.out]; exact finM_bad (HBD.out.1 rfl)
        clear HMM
        subst hr9
        clear HBD x0 x2
        go_wp2_with fail
        refine (rbad_any 1007 _).mono ?_
        rintro e w8 ⟨A8, c8, rfl, _, hb⟩
        have HQ := Lib.hid (H5.out.below hb)
        have HR := Lib.hid (HQ.out.rv.setG (g8 ggX))
        have HV := Lib.hid (HR.out.setN (ntc 5 false A8 0 c8 1007))
        clear hb H5
        go_wp2_with (first
          | (refine wpList_sw (cs := g8 ggX) rfl _ _ rfl rfl rfl HQ.out.rv.g rfl (g8_ok _) ?_)
          | (refine wpList_sw (cs := ntc 5 false A8 0 c8 1007) rfl _ _ rfl rfl rfl HR.out.n rfl (nt_ok _ _ _ _ _ _) ?_))
        refine bodyPost_ret (retJ3 (by rfl) _ rfl HV.out.g (g8_ok _) rfl HV.out.n (nt_ok _ _ _ _ _ _) rfl) rfl ?_
        exact ⟨A8, c8, rfl, RdB.nil, HV.out.b⟩
      · have HM2 : Hid (r0 = if fin = true then (gg0, some ⟨1, xt, 0, B⟩) else (⟨B, true, xt, false⟩, none)) := by show _ = _; rw [HMM.out]; exact finM_go (fun h => Bool.noConfusion (HBD.out.2 h))
        clear HMM HBD
        cases fin
        · have hr9 : r0 = (⟨B, true, xt, false⟩, none) := HM2.out
          clear HM2
          subst hr9
          clear x0 x2
          go_upto_region 26 with fail
          have H2 := H5
          clear H5 p0 HY
          have H3 := Lib.hid H2.out.drew
          clear H2
          refine wp_region_held_drew (S := fun W => Row W p 28 (g8 ⟨B, true, xt, false⟩) ∧ Row W (p + 4) 34 (ntc 0 false none 0 0 0)) (by kernel_rfl) ⟨H3.out.gx, H3.out.nn⟩ (fun hHeld => ?_)
          refine tkY 0 rfl (yields_ld (by rfl) _ rfl rfl (g8_ok _) (fun _ h => h.1)) ?_
          refine tkY 1 rfl (yields_ld (by rfl) _ rfl rfl (nt_ok _ _ _ _ _ _) (fun _ h => h.2)) ?_
          refine wpAnyH_ready (rs := [2]) (by kernel_rfl) (by simp) ?_
          refine AllReadyH.cons rfl (fun K hK => ?_) AllReadyH.nil
          refine step_sw (cs := g8 ⟨B, true, xt, false⟩) rfl _ _ rfl rfl rfl H3.out.rv.g rfl (g8_ok _) ?_
          have HR := Lib.hid (H3.out.ret (g8 ⟨B, true, xt, false⟩))
          refine hK.out _ _ ⟨HR.out.1, HR.out.2.2.1⟩ (fun hHeld => ?_)
          clear hK K
          try simp only [Act.put, List.getElem_toArray, List.getElem_cons_zero, List.getElem_cons_succ]
          refine wpAnyH_ready (rs := [3]) (by kernel_rfl) (by simp) ?_
          refine AllReadyH.cons rfl (fun K hK => ?_) AllReadyH.nil
          refine step_sw (cs := ntc 0 false none 0 0 0) rfl _ _ rfl rfl rfl HR.out.2.2.2.1.n rfl (nt_ok _ _ _ _ _ _) ?_
          have HV := Lib.hid (HR.out.2.2.2.1.setN (ntc 0 false none 0 0 0))
          refine hK.out _ _ ⟨HR.out.1.setRow' (by omega) _, HR.out.2.2.1.setRow' (by omega) _⟩ (fun hHeld => ?_)
          clear hK K
          try simp only [Act.put, List.getElem_toArray, List.getElem_cons_zero, List.getElem_cons_succ]
          refine tkH 4 ?_
          refine wpAnyH_done (by kernel_rfl) ?_ _
          go_wp2_with fail
          refine bodyPost_ret (retJ3 (by rfl) _ rfl HV.out.g (g8_ok _) rfl HV.out.n (nt_ok _ _ _ _ _ _) rfl) rfl ?_
          exact ⟨none, 0, rfl, RdB.nil, HV.out.b⟩
        · have hr9 : r0 = (gg0, some ⟨1, xt, 0, B⟩) := HM2.out
          clear HM2
          subst hr9
          go_upto_region 27 with fail
          have H6 := Lib.hid H5.out.drew
          have x0d : wc.drew.cell? ⟨p, 0, none⟩ = some (.string y) := x0
          have x2d : wc.drew.cell? ⟨p, 2, none⟩ = some (.bool xt) := x2
          clear H5 p0 x0 x2
          refine wp_region_held_drew (S := fun W => W.cell? ⟨p, 0, none⟩ = some (.string y) ∧ W.cell? ⟨p, 2, none⟩ = some (.bool xt)) (by kernel_rfl) ⟨x0d, x2d⟩ (fun hHeld => ?_)
          clear x0d x2d
          generalize wc.drew = w5 at *
          refine tkH 0 ?_
          refine tkH 1 ?_
          refine tkH 2 ?_
          refine tkH 3 ?_
          refine tkH 4 ?_
          refine wpAnyH_ready (rs := [5, 7]) (by kernel_rfl) (by simp) ?_
          refine AllReadyH.cons rfl (fun K hK => ?_) (AllReadyH.cons rfl (fun K hK => ?_) AllReadyH.nil)
          · obtain ⟨c6, w6, hcv, hc6, hb6, hr6⟩ := bytesM_run B w5
            rw [← HY.out] at hcv
            have HPB : Hid (p + 4 < w5.heap.size) := H6.out.nn.lt
            have H7 := Lib.hid (H6.out.below hb6)
            have HR6 : Hid (RdS w6 (fun k => w5.heap.size ≤ k) (some ⟨w5.heap.size, 0, none⟩) (byc B)) := hr6.imp fun _ hk _ => hk.1
            clear hb6 hr6 H6
            go_simp
            clear hcv
            generalize w5.heap.size = pb at *
            refine hK.out _ _ ⟨by have h := (g8_cells H7.out.gx).1; rw [HY.out]; exact h, (g8_cells H7.out.gx).2.2.1⟩ (fun hHeld => ?_)
            clear hK K
            try simp only [Act.put, List.getElem_toArray, List.getElem_cons_zero, List.getElem_cons_succ, List.setIfInBounds_toArray, List.set_cons_zero, List.set_cons_succ]
            refine tkH 6 ?_
            refine wpAnyH_ready (rs := [7]) (by kernel_rfl) (by simp) ?_
            refine AllReadyH.cons rfl (fun K hK => ?_) AllReadyH.nil
            refine step_sw (cs := g8 gg0) rfl _ _ rfl rfl rfl H7.out.rv.g rfl (g8_ok _) ?_
            have HZ := Lib.hid (H7.out.rv.setG (g8 gg0))
            have HRZ : Hid (RdS (w6.setRow (p + 2) (g8 gg0)) (fun k => pb ≤ k) (some ⟨pb, 0, none⟩) (byc B)) := RdS.keep HR6.out fun k hk => setRow_other _ _ _ _ (by have := HPB.out; omega)
            have HGZ := Lib.hid (H7.out.ret (g8 gg0)).1
            clear H7 HR6
            generalize w6.setRow (p + 2) (g8 gg0) = wz at *
            refine hK.out _ _ ⟨by have h := (g8_cells HGZ.out).1; rw [HY.out]; exact h, (g8_cells HGZ.out).2.2.1⟩ (fun hHeld => ?_)
            clear hK K
            try simp only [Act.put, List.getElem_toArray, List.getElem_cons_zero, List.getElem_cons_succ]
            refine wpAnyH_ready (rs := [8]) (by kernel_rfl) (by simp) ?_
            refine AllReadyH.cons rfl (fun K hK => ?_) AllReadyH.nil
            refine step_sw (cs := ntc 1 xt (some ⟨pb, 0, none⟩) B.length c6 0) rfl _ _ rfl rfl rfl HZ.out.n rfl (nt_ok _ _ _ _ _ _) ?_
            have HW := Lib.hid (HZ.out.setN (ntc 1 xt (some ⟨pb, 0, none⟩) B.length c6 0))
            have HRY : Hid (RdB (wz.setRow (p + 2 + 1) (ntc 1 xt (some ⟨pb, 0, none⟩) B.length c6 0)) (wz.setRow (p + 2 + 1) (ntc 1 xt (some ⟨pb, 0, none⟩) B.length c6 0)).heap.size (some ⟨pb, 0, none⟩) B) := RdB.ofS (RdS.keep HRZ.out fun k hk => setRow_other _ _ _ _ (by have := HPB.out; omega)) fun k _ h => h
            have HGZ2 : Hid (Row _ p 28 (g8 ⟨B, true, xt, false⟩)) := HGZ.out.setRow' (k := p + 2 + 1) (by omega) (ntc 1 xt (some ⟨pb, 0, none⟩) B.length c6 0)
            refine hK.out _ _ ⟨by have h := (g8_cells HGZ2.out).1; rw [HY.out]; exact h, (g8_cells HGZ2.out).2.2.1⟩ (fun hHeld => ?_)
            clear hK K
            try simp only [Act.put, List.getElem_toArray, List.getElem_cons_zero, List.getElem_cons_succ]
            refine tkH 9 ?_
            refine wpAnyH_done (by kernel_rfl) ?_ _
            go_wp2_with fail
            refine bodyPost_ret (retJ3 (by rfl) _ rfl HW.out.g (g8_ok _) rfl HW.out.n (nt_ok _ _ _ _ _ _) rfl) rfl ?_
            exact ⟨some ⟨pb, 0, none⟩, c6, rfl, HRY.out, HW.out.b⟩
          · refine step_sw (cs := g8 gg0) rfl _ _ rfl rfl rfl H6.out.rv.g rfl (g8_ok _) ?_
            have HRR := Lib.hid (H6.out.ret (g8 gg0))
            clear H6
            generalize w5.setRow (p + 2) (g8 gg0) = w6 at *
            refine hK.out _ _ ⟨by have h := (g8_cells HRR.out.1).1; rw [HY.out]; exact h, (g8_cells HRR.out.1).2.2.1⟩ (fun hHeld => ?_)
            clear hK K
            try simp only [Act.put, List.getElem_toArray, List.getElem_cons_zero, List.getElem_cons_succ]
            refine wpAnyH_ready (rs := [5]) (by kernel_rfl) (by simp) ?_
            refine AllReadyH.cons rfl (fun K hK => ?_) AllReadyH.nil
            obtain ⟨c6, wz, hcv, hc6, hb6, hr6⟩ := bytesM_run B w6
            rw [← HY.out] at hcv
            have HPB : Hid (p + 4 < w6.heap.size) := HRR.out.2.2.1.lt
            have HZ := Lib.hid (HRR.out.2.2.2.1.below hb6)
            have HGZ := Lib.hid (HRR.out.1.upM hb6)
            have HRZ : Hid (RdS wz (fun k => w6.heap.size ≤ k) (some ⟨w6.heap.size, 0, none⟩) (byc B)) := hr6.imp fun _ hk _ => hk.1
            clear hb6 hr6 HRR
            go_simp
            clear hcv
            generalize w6.heap.size = pb at *
            refine hK.out _ _ ⟨by have h := (g8_cells HGZ.out).1; rw [HY.out]; exact h, (g8_cells HGZ.out).2.2.1⟩ (fun hHeld => ?_)
            clear hK K
            try simp only [Act.put, List.getElem_toArray, List.getElem_cons_zero, List.getElem_cons_succ, List.setIfInBounds_toArray, List.set_cons_zero, List.set_cons_succ]
            refine tkH 6 ?_
            refine wpAnyH_ready (rs := [8]) (by kernel_rfl) (by simp) ?_
            refine AllReadyH.cons rfl (fun K hK => ?_) AllReadyH.nil
            refine step_sw (cs := ntc 1 xt (some ⟨pb, 0, none⟩) B.length c6 0) rfl _ _ rfl rfl rfl HZ.out.n rfl (nt_ok _ _ _ _ _ _) ?_
            have HW := Lib.hid (HZ.out.setN (ntc 1 xt (some ⟨pb, 0, none⟩) B.length c6 0))
            have HRY : Hid (RdB (wz.setRow (p + 2 + 1) (ntc 1 xt (some ⟨pb, 0, none⟩) B.length c6 0)) (wz.setRow (p + 2 + 1) (ntc 1 xt (some ⟨pb, 0, none⟩) B.length c6 0)).heap.size (some ⟨pb, 0, none⟩) B) := RdB.ofS (RdS.keep HRZ.out fun k hk => setRow_other _ _ _ _ (by have := HPB.out; omega)) fun k _ h => h
            have HGZ2 : Hid (Row _ p 28 (g8 ⟨B, true, xt, false⟩)) := HGZ.out.setRow' (k := p + 2 + 1) (by omega) (ntc 1 xt (some ⟨pb, 0, none⟩) B.length c6 0)
            refine hK.out _ _ ⟨by have h := (g8_cells HGZ2.out).1; rw [HY.out]; exact h, (g8_cells HGZ2.out).2.2.1⟩ (fun hHeld => ?_)
            clear hK K
            try simp only [Act.put, List.getElem_toArray, List.getElem_cons_zero, List.getElem_cons_succ]
            refine tkH 9 ?_
            refine wpAnyH_done (by kernel_rfl) ?_ _
            go_wp2_with fail
            refine bodyPost_ret (retJ3 (by rfl) _ rfl HW.out.g (g8_ok _) rfl HW.out.n (nt_ok _ _ _ _ _ _) rfl) rfl ?_
            exact ⟨some ⟨pb, 0, none⟩, c6, rfl, HRY.out, HW.out.b⟩
set_option maxRecDepth 100000 in
set_option maxHeartbeats 8000000 in
theorem rtake_go1 {xb : List UInt8} {xt : Bool} {fin mask : Bool} {key c : Nat} {A : Option Addr} {d : List UInt8} (hl : d.length ≤ 100000) {w : World} (hr : RdB w w.heap.size A d) : Calls Tryd.prog 13 #[.agg (g8 ⟨xb, false, xt, false⟩), .agg (pcC fin 1 mask key A d.length c)] w (RTakP w (moreM true ([] ++ d) fin)) := by
  have H1 := Lib.hid (RT.start hr ⟨xb, false, xt, false⟩ fin 1 mask key c).1
  have H2 := Lib.hid (RT.start hr ⟨xb, false, xt, false⟩ fin 1 mask key c).2
  have HBL := Lib.hid hl
  clear hr hl
  obtain ⟨r0, hr0⟩ : ∃ r0, r0 = moreM true ([] ++ d) fin := ⟨_, rfl⟩
  rw [← hr0]
  have HR0 := Lib.hid hr0
  clear hr0
  go_enter Tryd.func13, Tryd.ntmps13
  go_upto_region 2 with (refine wpList_sw (cs := ntc 0 false none 0 0 0) rfl _ _ rfl rfl rfl H1.out.nn rfl (nt_ok _ _ _ _ _ _) ?_)
  rw [nt0_eq, g8_eq]
  clear H1
  generalize ((((((w.alloc (.cells (g8 ⟨xb, false, xt, false⟩) 28)).alloc (.cells (pcC fin 1 mask key A d.length c) 32)).alloc (.cells (g8 gg0) 28)).alloc (.cells (ntc 0 false none 0 0 0) 34)).alloc (.cells (ntc 0 false none 0 0 0) 34)).setRow (w.heap.size + 4) (ntc 0 false none 0 0 0)) = w1 at *
  generalize hp : w.heap.size = p at *
  have x3 : w1.cell? ⟨p, 3, none⟩ = some (.bool false) := (g8_cells H2.out.gx).2.2.2
  have x1 : w1.cell? ⟨p, 1, none⟩ = some (.bool false) := (g8_cells H2.out.gx).2.1
  have p1 : w1.cell? ⟨p + 1, 1, none⟩ = some (.int .u8 1) := (pc_cells H2.out.pr).2.1
  go_upto_region 19 with (refine wpList_sw (cs := g8 ⟨[], true, true, false⟩) rfl _ _ rfl rfl rfl H2.out.gx rfl (g8_ok _) ?_)
  have H3 := Lib.hid (H2.out.setG ⟨[], true, true, false⟩)
  clear H2 x3 x1 p1
  generalize w1.setRow p (g8 ⟨[], true, true, false⟩) = w2 at *
  have x0 : w2.cell? ⟨p, 0, none⟩ = some (.string (txb [])) := (g8_cells H3.out.gx).1
  have p4 : w2.cell? ⟨p + 1, 4, none⟩ = some (.slice A d.length c) := (pc_cells H3.out.pr).2.2.2.2
  have htx : (convert 30 9 (.slice A d.length c)).run Tryd.prog w2 = .ok (.string (txb d)) w2 := run_text (P := Tryd.prog) (c := c) Tryd.underlying30 Tryd.underlying5 Tryd.underlying9 H3.out.rd
  have hadd := txb_add [] d (by simp) (by have := HBL.out; omega)
  have ht := H3.out.gx.thawed 0
  have H4 := Lib.hid (H3.out.setB ([] ++ d))
  obtain ⟨B, hB⟩ : ∃ B, B = [] ++ d := ⟨_, rfl⟩
  rw [← hB] at H4 hadd HR0
  have HBE : Hid (B.length ≤ 100000) := by show _ ≤ _; rw [hB, List.length_append]; simp only [List.length_nil, Nat.zero_add]; exact HBL.out
  have hsz := txb_size B
  have hgd := fun W => rgood_any (l := B) HBE.out W
  obtain ⟨y, hy⟩ : ∃ y, y = txb B := ⟨_, rfl⟩
  have HY := Lib.hid hy
  rw [← hy] at hadd hsz hgd H4
  generalize txb d = y2 at *
  generalize txb [] = y1 at *
  obtain ⟨gn, hgn⟩ : ∃ gn, gn = (goN ut0 (nats B)).1 := ⟨_, rfl⟩
  obtain ⟨wh, hwh⟩ : ∃ wh, wh = txtB (nats B) := ⟨_, rfl⟩
  rw [← hgn, ← hwh] at hgd
  have HGD := Lib.hid hgd
  have HMM : Hid (r0 = if 4096 < B.length then badM 1009 else finM true B gn wh fin) := by show _ = _; rw [hgn, hwh, HR0.out]; rfl
  clear hB hy hgn hwh hgd H3 HR0
  go_upto_region 20 with fail
  generalize w2.setCell ⟨p, 0, none⟩ (.string y) = w3 at *
  clear htx hadd ht x0 p4
  have x0 : w3.cell? ⟨p, 0, none⟩ = some (.string y) := by have h := (g8_cells H4.out.gx).1; rw [HY.out]; exact h
  by_cases hbig : 4096 < B.length
  · have hd1 : decide ((4096 : Int) < (B.length : Int)) = true := decide_eq_true (by omega)
    have hd2 : decide (4096 < B.length) = true := decide_eq_true hbig
    rw [if_pos hbig] at HMM
    have hr9 := HMM.out
    subst hr9
    clear HMM hbig HGD
    go_wp2_with fail
    refine (rbad_any 1009 _).mono ?_
    rintro e w8 ⟨A8, c8, rfl, _, hb⟩
    have HQ := Lib.hid (H4.out.below hb)
    have HR := Lib.hid (HQ.out.rv.setG (g8 ggX))
    have HV := Lib.hid (HR.out.setN (ntc 5 false A8 0 c8 1009))
    clear hb H4
    go_wp2_with (first
      | (refine wpList_sw (cs := g8 ggX) rfl _ _ rfl rfl rfl HQ.out.rv.g rfl (g8_ok _) ?_)
      | (refine wpList_sw (cs := ntc 5 false A8 0 c8 1009) rfl _ _ rfl rfl rfl HR.out.n rfl (nt_ok _ _ _ _ _ _) ?_))
    refine bodyPost_ret (retJ3 (by rfl) _ rfl HV.out.g (g8_ok _) rfl HV.out.n (nt_ok _ _ _ _ _ _) rfl) rfl ?_
    exact ⟨A8, c8, rfl, RdB.nil, HV.out.b⟩
  · have hd1 : decide ((4096 : Int) < (B.length : Int)) = false := decide_eq_false (by omega)
    have hd2 : decide (4096 < B.length) = false := decide_eq_false hbig
    rw [if_neg hbig] at HMM
    clear hbig
    go_wp2_with fail
    refine (HGD.out _).mono ?_
    rintro e w4 ⟨rfl, hb⟩
    have H5 := Lib.hid (H4.out.below hb)
    have x2 : w4.cell? ⟨p, 2, none⟩ = some (.bool true) := (g8_cells H5.out.gx).2.2.1
    have x0 : w4.cell? ⟨p, 0, none⟩ = some (.string y) := by have h := (g8_cells H5.out.gx).1; rw [HY.out]; exact h
    have p0 : w4.cell? ⟨p + 1, 0, none⟩ = some (.bool fin) := (pc_cells H5.out.pr).1
    clear hb HGD H4 hd1 hd2
    obtain ⟨q1, hq1⟩ : ∃ q1, q1 = decide (gn < B.length) := ⟨_, rfl⟩
    have hq2 : decide ((gn : Int) < (B.length : Int)) = q1 := by rw [hq1, decide_eq_decide]; omega
    have hq3 : decide (gn < B.length) = q1 := hq1.symm
    have HQ1 := Lib.hid hq1
    clear hq1
    go_upto_region 23 with fail
    go_cut [111] from 95 to 111 (fun v wx => v = .bool (true && (q1 || (fin && !wh))) ∧ Hid (wx = w4))
    case first =>
      clear HMM HQ1
      cases q1
      · cases fin
        · go_wp2_with fail
          go_meet
          exact ⟨rfl, rfl⟩
        · go_wp2_with fail
          go_meet
          exact ⟨rfl, rfl⟩
      · go_wp2_with fail
        go_meet
        exact ⟨rfl, rfl⟩
    case rest =>
      obtain ⟨rfl, hwx⟩ := hcut
      have hwx := hwx.out
      subst hwx
      clear hq2 hq3
      obtain ⟨bd, hbd⟩ : ∃ bd, bd = (true && (q1 || (fin && !wh))) := ⟨_, rfl⟩
      rw [← hbd]
      have HBD : Hid (bd = true ↔ (true = true ∧ (gn < B.length ∨ (fin = true ∧ wh = false)))) := by
        show _ ↔ _
        rw [hbd, HQ1.out]
        simp [Bool.and_eq_true, Bool.or_eq_true]
      clear hbd HQ1
      rcases (show bd = true ∨ bd = false by cases bd <;> simp) with rfl | rfl
      · have hr9 : r0 = badM 1007 := by rw [HMM.out]; exact finM_bad (HBD.out.1 rfl)
        clear HMM
        subst hr9
        clear HBD x0 x2
        go_wp2_with fail
        refine (rbad_any 1007 _).mono ?_
        rintro e w8 ⟨A8, c8, rfl, _, hb⟩
        have HQ := Lib.hid (H5.out.below hb)
        have HR := Lib.hid (HQ.out.rv.setG (g8 ggX))
        have HV := Lib.hid (HR.out.setN (ntc 5 false A8 0 c8 1007))
        clear hb H5
        go_wp2_with (first
          | (refine wpList_sw (cs := g8 ggX) rfl _ _ rfl rfl rfl HQ.out.rv.g rfl (g8_ok _) ?_)
          | (refine wpList_sw (cs := ntc 5 false A8 0 c8 1007) rfl _ _ rfl rfl rfl HR.out.n rfl (nt_ok _ _ _ _ _ _) ?_))
        refine bodyPost_ret (retJ3 (by rfl) _ rfl HV.out.g (g8_ok _) rfl HV.out.n (nt_ok _ _ _ _ _ _) rfl) rfl ?_
        exact ⟨A8, c8, rfl, RdB.nil, HV.out.b⟩
      · have HM2 : Hid (r0 = if fin = true then (gg0, some ⟨1, true, 0, B⟩) else (⟨B, true, true, false⟩, none)) := by show _ = _; rw [HMM.out]; exact finM_go (fun h => Bool.noConfusion (HBD.out.2 h))
        clear HMM HBD
        cases fin
        · have hr9 : r0 = (⟨B, true, true, false⟩, none) := HM2.out
          clear HM2
          subst hr9
          clear x0 x2
          go_upto_region 26 with fail
          have H2 := H5
          clear H5 p0 HY
          have H3 := Lib.hid H2.out.drew
          clear H2
          refine wp_region_held_drew (S := fun W => Row W p 28 (g8 ⟨B, true, true, false⟩) ∧ Row W (p + 4) 34 (ntc 0 false none 0 0 0)) (by kernel_rfl) ⟨H3.out.gx, H3.out.nn⟩ (fun hHeld => ?_)
          refine tkY 0 rfl (yields_ld (by rfl) _ rfl rfl (g8_ok _) (fun _ h => h.1)) ?_
          refine tkY 1 rfl (yields_ld (by rfl) _ rfl rfl (nt_ok _ _ _ _ _ _) (fun _ h => h.2)) ?_
          refine wpAnyH_ready (rs := [2]) (by kernel_rfl) (by simp) ?_
          refine AllReadyH.cons rfl (fun K hK => ?_) AllReadyH.nil
          refine step_sw (cs := g8 ⟨B, true, true, false⟩) rfl _ _ rfl rfl rfl H3.out.rv.g rfl (g8_ok _) ?_
          have HR := Lib.hid (H3.out.ret (g8 ⟨B, true, true, false⟩))
          refine hK.out _ _ ⟨HR.out.1, HR.out.2.2.1⟩ (fun hHeld => ?_)
          clear hK K
          try simp only [Act.put, List.getElem_toArray, List.getElem_cons_zero, List.getElem_cons_succ]
          refine wpAnyH_ready (rs := [3]) (by kernel_rfl) (by simp) ?_
          refine AllReadyH.cons rfl (fun K hK => ?_) AllReadyH.nil
          refine step_sw (cs := ntc 0 false none 0 0 0) rfl _ _ rfl rfl rfl HR.out.2.2.2.1.n rfl (nt_ok _ _ _ _ _ _) ?_
          have HV := Lib.hid (HR.out.2.2.2.1.setN (ntc 0 false none 0 0 0))
          refine hK.out _ _ ⟨HR.out.1.setRow' (by omega) _, HR.out.2.2.1.setRow' (by omega) _⟩ (fun hHeld => ?_)
          clear hK K
          try simp only [Act.put, List.getElem_toArray, List.getElem_cons_zero, List.getElem_cons_succ]
          refine tkH 4 ?_
          refine wpAnyH_done (by kernel_rfl) ?_ _
          go_wp2_with fail
          refine bodyPost_ret (retJ3 (by rfl) _ rfl HV.out.g (g8_ok _) rfl HV.out.n (nt_ok _ _ _ _ _ _) rfl) rfl ?_
          exact ⟨none, 0, rfl, RdB.nil, HV.out.b⟩
        · have hr9 : r0 = (gg0, some ⟨1, true, 0, B⟩) := HM2.out
          clear HM2
          subst hr9
          go_upto_region 27 with fail
          have H6 := Lib.hid H5.out.drew
          have x0d : wc.drew.cell? ⟨p, 0, none⟩ = some (.string y) := x0
          have x2d : wc.drew.cell? ⟨p, 2, none⟩ = some (.bool true) := x2
          clear H5 p0 x0 x2
          refine wp_region_held_drew (S := fun W => W.cell? ⟨p, 0, none⟩ = some (.string y) ∧ W.cell? ⟨p, 2, none⟩ = some (.bool true)) (by kernel_rfl) ⟨x0d, x2d⟩ (fun hHeld => ?_)
          clear x0d x2d
          generalize wc.drew = w5 at *
          refine tkH 0 ?_
          refine tkH 1 ?_
          refine tkH 2 ?_
          refine tkH 3 ?_
          refine tkH 4 ?_
          refine wpAnyH_ready (rs := [5, 7]) (by kernel_rfl) (by simp) ?_
          refine AllReadyH.cons rfl (fun K hK => ?_) (AllReadyH.cons rfl (fun K hK => ?_) AllReadyH.nil)
          · obtain ⟨c6, w6, hcv, hc6, hb6, hr6⟩ := bytesM_run B w5
            rw [← HY.out] at hcv
            have HPB : Hid (p + 4 < w5.heap.size) := H6.out.nn.lt
            have H7 := Lib.hid (H6.out.below hb6)
            have HR6 : Hid (RdS w6 (fun k => w5.heap.size ≤ k) (some ⟨w5.heap.size, 0, none⟩) (byc B)) := hr6.imp fun _ hk _ => hk.1
            clear hb6 hr6 H6
            go_simp
            clear hcv
            generalize w5.heap.size = pb at *
            refine hK.out _ _ ⟨by have h := (g8_cells H7.out.gx).1; rw [HY.out]; exact h, (g8_cells H7.out.gx).2.2.1⟩ (fun hHeld => ?_)
            clear hK K
            try simp only [Act.put, List.getElem_toArray, List.getElem_cons_zero, List.getElem_cons_succ, List.setIfInBounds_toArray, List.set_cons_zero, List.set_cons_succ]
            refine tkH 6 ?_
            refine wpAnyH_ready (rs := [7]) (by kernel_rfl) (by simp) ?_
            refine AllReadyH.cons rfl (fun K hK => ?_) AllReadyH.nil
            refine step_sw (cs := g8 gg0) rfl _ _ rfl rfl rfl H7.out.rv.g rfl (g8_ok _) ?_
            have HZ := Lib.hid (H7.out.rv.setG (g8 gg0))
            have HRZ : Hid (RdS (w6.setRow (p + 2) (g8 gg0)) (fun k => pb ≤ k) (some ⟨pb, 0, none⟩) (byc B)) := RdS.keep HR6.out fun k hk => setRow_other _ _ _ _ (by have := HPB.out; omega)
            have HGZ := Lib.hid (H7.out.ret (g8 gg0)).1
            clear H7 HR6
            generalize w6.setRow (p + 2) (g8 gg0) = wz at *
            refine hK.out _ _ ⟨by have h := (g8_cells HGZ.out).1; rw [HY.out]; exact h, (g8_cells HGZ.out).2.2.1⟩ (fun hHeld => ?_)
            clear hK K
            try simp only [Act.put, List.getElem_toArray, List.getElem_cons_zero, List.getElem_cons_succ]
            refine wpAnyH_ready (rs := [8]) (by kernel_rfl) (by simp) ?_
            refine AllReadyH.cons rfl (fun K hK => ?_) AllReadyH.nil
            refine step_sw (cs := ntc 1 true (some ⟨pb, 0, none⟩) B.length c6 0) rfl _ _ rfl rfl rfl HZ.out.n rfl (nt_ok _ _ _ _ _ _) ?_
            have HW := Lib.hid (HZ.out.setN (ntc 1 true (some ⟨pb, 0, none⟩) B.length c6 0))
            have HRY : Hid (RdB (wz.setRow (p + 2 + 1) (ntc 1 true (some ⟨pb, 0, none⟩) B.length c6 0)) (wz.setRow (p + 2 + 1) (ntc 1 true (some ⟨pb, 0, none⟩) B.length c6 0)).heap.size (some ⟨pb, 0, none⟩) B) := RdB.ofS (RdS.keep HRZ.out fun k hk => setRow_other _ _ _ _ (by have := HPB.out; omega)) fun k _ h => h
            have HGZ2 : Hid (Row _ p 28 (g8 ⟨B, true, true, false⟩)) := HGZ.out.setRow' (k := p + 2 + 1) (by omega) (ntc 1 true (some ⟨pb, 0, none⟩) B.length c6 0)
            refine hK.out _ _ ⟨by have h := (g8_cells HGZ2.out).1; rw [HY.out]; exact h, (g8_cells HGZ2.out).2.2.1⟩ (fun hHeld => ?_)
            clear hK K
            try simp only [Act.put, List.getElem_toArray, List.getElem_cons_zero, List.getElem_cons_succ]
            refine tkH 9 ?_
            refine wpAnyH_done (by kernel_rfl) ?_ _
            go_wp2_with fail
            refine bodyPost_ret (retJ3 (by rfl) _ rfl HW.out.g (g8_ok _) rfl HW.out.n (nt_ok _ _ _ _ _ _) rfl) rfl ?_
            exact ⟨some ⟨pb, 0, none⟩, c6, rfl, HRY.out, HW.out.b⟩
          · refine step_sw (cs := g8 gg0) rfl _ _ rfl rfl rfl H6.out.rv.g rfl (g8_ok _) ?_
            have HRR := Lib.hid (H6.out.ret (g8 gg0))
            clear H6
            generalize w5.setRow (p + 2) (g8 gg0) = w6 at *
            refine hK.out _ _ ⟨by have h := (g8_cells HRR.out.1).1; rw [HY.out]; exact h, (g8_cells HRR.out.1).2.2.1⟩ (fun hHeld => ?_)
            clear hK K
            try simp only [Act.put, List.getElem_toArray, List.getElem_cons_zero, List.getElem_cons_succ]
            refine wpAnyH_ready (rs := [5]) (by kernel_rfl) (by simp) ?_
            refine AllReadyH.cons rfl (fun K hK => ?_) AllReadyH.nil
            obtain ⟨c6, wz, hcv, hc6, hb6, hr6⟩ := bytesM_run B w6
            rw [← HY.out] at hcv
            have HPB : Hid (p + 4 < w6.heap.size) := HRR.out.2.2.1.lt
            have HZ := Lib.hid (HRR.out.2.2.2.1.below hb6)
            have HGZ := Lib.hid (HRR.out.1.upM hb6)
            have HRZ : Hid (RdS wz (fun k => w6.heap.size ≤ k) (some ⟨w6.heap.size, 0, none⟩) (byc B)) := hr6.imp fun _ hk _ => hk.1
            clear hb6 hr6 HRR
            go_simp
            clear hcv
            generalize w6.heap.size = pb at *
            refine hK.out _ _ ⟨by have h := (g8_cells HGZ.out).1; rw [HY.out]; exact h, (g8_cells HGZ.out).2.2.1⟩ (fun hHeld => ?_)
            clear hK K
            try simp only [Act.put, List.getElem_toArray, List.getElem_cons_zero, List.getElem_cons_succ, List.setIfInBounds_toArray, List.set_cons_zero, List.set_cons_succ]
            refine tkH 6 ?_
            refine wpAnyH_ready (rs := [8]) (by kernel_rfl) (by simp) ?_
            refine AllReadyH.cons rfl (fun K hK => ?_) AllReadyH.nil
            refine step_sw (cs := ntc 1 true (some ⟨pb, 0, none⟩) B.length c6 0) rfl _ _ rfl rfl rfl HZ.out.n rfl (nt_ok _ _ _ _ _ _) ?_
            have HW := Lib.hid (HZ.out.setN (ntc 1 true (some ⟨pb, 0, none⟩) B.length c6 0))
            have HRY : Hid (RdB (wz.setRow (p + 2 + 1) (ntc 1 true (some ⟨pb, 0, none⟩) B.length c6 0)) (wz.setRow (p + 2 + 1) (ntc 1 true (some ⟨pb, 0, none⟩) B.length c6 0)).heap.size (some ⟨pb, 0, none⟩) B) := RdB.ofS (RdS.keep HRZ.out fun k hk => setRow_other _ _ _ _ (by have := HPB.out; omega)) fun k _ h => h
            have HGZ2 : Hid (Row _ p 28 (g8 ⟨B, true, true, false⟩)) := HGZ.out.setRow' (k := p + 2 + 1) (by omega) (ntc 1 true (some ⟨pb, 0, none⟩) B.length c6 0)
            refine hK.out _ _ ⟨by have h := (g8_cells HGZ2.out).1; rw [HY.out]; exact h, (g8_cells HGZ2.out).2.2.1⟩ (fun hHeld => ?_)
            clear hK K
            try simp only [Act.put, List.getElem_toArray, List.getElem_cons_zero, List.getElem_cons_succ]
            refine tkH 9 ?_
            refine wpAnyH_done (by kernel_rfl) ?_ _
            go_wp2_with fail
            refine bodyPost_ret (retJ3 (by rfl) _ rfl HW.out.g (g8_ok _) rfl HW.out.n (nt_ok _ _ _ _ _ _) rfl) rfl ?_
            exact ⟨some ⟨pb, 0, none⟩, c6, rfl, HRY.out, HW.out.b⟩
set_option maxRecDepth 100000 in
set_option maxHeartbeats 8000000 in
theorem rtake_go2 {xb : List UInt8} {xt : Bool} {fin mask : Bool} {key c : Nat} {A : Option Addr} {d : List UInt8} (hl : d.length ≤ 100000) {w : World} (hr : RdB w w.heap.size A d) : Calls Tryd.prog 13 #[.agg (g8 ⟨xb, false, xt, false⟩), .agg (pcC fin 2 mask key A d.length c)] w (RTakP w (moreM false ([] ++ d) fin)) := by
  have H1 := Lib.hid (RT.start hr ⟨xb, false, xt, false⟩ fin 2 mask key c).1
  have H2 := Lib.hid (RT.start hr ⟨xb, false, xt, false⟩ fin 2 mask key c).2
  have HBL := Lib.hid hl
  clear hr hl
  obtain ⟨r0, hr0⟩ : ∃ r0, r0 = moreM false ([] ++ d) fin := ⟨_, rfl⟩
  rw [← hr0]
  have HR0 := Lib.hid hr0
  clear hr0
  go_enter Tryd.func13, Tryd.ntmps13
  go_upto_region 2 with (refine wpList_sw (cs := ntc 0 false none 0 0 0) rfl _ _ rfl rfl rfl H1.out.nn rfl (nt_ok _ _ _ _ _ _) ?_)
  rw [nt0_eq, g8_eq]
  clear H1
  generalize ((((((w.alloc (.cells (g8 ⟨xb, false, xt, false⟩) 28)).alloc (.cells (pcC fin 2 mask key A d.length c) 32)).alloc (.cells (g8 gg0) 28)).alloc (.cells (ntc 0 false none 0 0 0) 34)).alloc (.cells (ntc 0 false none 0 0 0) 34)).setRow (w.heap.size + 4) (ntc 0 false none 0 0 0)) = w1 at *
  generalize hp : w.heap.size = p at *
  have x3 : w1.cell? ⟨p, 3, none⟩ = some (.bool false) := (g8_cells H2.out.gx).2.2.2
  have x1 : w1.cell? ⟨p, 1, none⟩ = some (.bool false) := (g8_cells H2.out.gx).2.1
  have p1 : w1.cell? ⟨p + 1, 1, none⟩ = some (.int .u8 2) := (pc_cells H2.out.pr).2.1
  go_upto_region 19 with (refine wpList_sw (cs := g8 ⟨[], true, false, false⟩) rfl _ _ rfl rfl rfl H2.out.gx rfl (g8_ok _) ?_)
  have H3 := Lib.hid (H2.out.setG ⟨[], true, false, false⟩)
  clear H2 x3 x1 p1
  generalize w1.setRow p (g8 ⟨[], true, false, false⟩) = w2 at *
  have x0 : w2.cell? ⟨p, 0, none⟩ = some (.string (txb [])) := (g8_cells H3.out.gx).1
  have p4 : w2.cell? ⟨p + 1, 4, none⟩ = some (.slice A d.length c) := (pc_cells H3.out.pr).2.2.2.2
  have htx : (convert 30 9 (.slice A d.length c)).run Tryd.prog w2 = .ok (.string (txb d)) w2 := run_text (P := Tryd.prog) (c := c) Tryd.underlying30 Tryd.underlying5 Tryd.underlying9 H3.out.rd
  have hadd := txb_add [] d (by simp) (by have := HBL.out; omega)
  have ht := H3.out.gx.thawed 0
  have H4 := Lib.hid (H3.out.setB ([] ++ d))
  obtain ⟨B, hB⟩ : ∃ B, B = [] ++ d := ⟨_, rfl⟩
  rw [← hB] at H4 hadd HR0
  have HBE : Hid (B.length ≤ 100000) := by show _ ≤ _; rw [hB, List.length_append]; simp only [List.length_nil, Nat.zero_add]; exact HBL.out
  have hsz := txb_size B
  have hgd := fun W => rgood_any (l := B) HBE.out W
  obtain ⟨y, hy⟩ : ∃ y, y = txb B := ⟨_, rfl⟩
  have HY := Lib.hid hy
  rw [← hy] at hadd hsz hgd H4
  generalize txb d = y2 at *
  generalize txb [] = y1 at *
  obtain ⟨gn, hgn⟩ : ∃ gn, gn = (goN ut0 (nats B)).1 := ⟨_, rfl⟩
  obtain ⟨wh, hwh⟩ : ∃ wh, wh = txtB (nats B) := ⟨_, rfl⟩
  rw [← hgn, ← hwh] at hgd
  have HGD := Lib.hid hgd
  have HMM : Hid (r0 = if 4096 < B.length then badM 1009 else finM false B gn wh fin) := by show _ = _; rw [hgn, hwh, HR0.out]; rfl
  clear hB hy hgn hwh hgd H3 HR0
  go_upto_region 20 with fail
  generalize w2.setCell ⟨p, 0, none⟩ (.string y) = w3 at *
  clear htx hadd ht x0 p4
  have x0 : w3.cell? ⟨p, 0, none⟩ = some (.string y) := by have h := (g8_cells H4.out.gx).1; rw [HY.out]; exact h
  by_cases hbig : 4096 < B.length
  · have hd1 : decide ((4096 : Int) < (B.length : Int)) = true := decide_eq_true (by omega)
    have hd2 : decide (4096 < B.length) = true := decide_eq_true hbig
    rw [if_pos hbig] at HMM
    have hr9 := HMM.out
    subst hr9
    clear HMM hbig HGD
    go_wp2_with fail
    refine (rbad_any 1009 _).mono ?_
    rintro e w8 ⟨A8, c8, rfl, _, hb⟩
    have HQ := Lib.hid (H4.out.below hb)
    have HR := Lib.hid (HQ.out.rv.setG (g8 ggX))
    have HV := Lib.hid (HR.out.setN (ntc 5 false A8 0 c8 1009))
    clear hb H4
    go_wp2_with (first
      | (refine wpList_sw (cs := g8 ggX) rfl _ _ rfl rfl rfl HQ.out.rv.g rfl (g8_ok _) ?_)
      | (refine wpList_sw (cs := ntc 5 false A8 0 c8 1009) rfl _ _ rfl rfl rfl HR.out.n rfl (nt_ok _ _ _ _ _ _) ?_))
    refine bodyPost_ret (retJ3 (by rfl) _ rfl HV.out.g (g8_ok _) rfl HV.out.n (nt_ok _ _ _ _ _ _) rfl) rfl ?_
    exact ⟨A8, c8, rfl, RdB.nil, HV.out.b⟩
  · have hd1 : decide ((4096 : Int) < (B.length : Int)) = false := decide_eq_false (by omega)
    have hd2 : decide (4096 < B.length) = false := decide_eq_false hbig
    rw [if_neg hbig] at HMM
    clear hbig
    go_wp2_with fail
    refine (HGD.out _).mono ?_
    rintro e w4 ⟨rfl, hb⟩
    have H5 := Lib.hid (H4.out.below hb)
    have x2 : w4.cell? ⟨p, 2, none⟩ = some (.bool false) := (g8_cells H5.out.gx).2.2.1
    have x0 : w4.cell? ⟨p, 0, none⟩ = some (.string y) := by have h := (g8_cells H5.out.gx).1; rw [HY.out]; exact h
    have p0 : w4.cell? ⟨p + 1, 0, none⟩ = some (.bool fin) := (pc_cells H5.out.pr).1
    clear hb HGD H4 hd1 hd2
    obtain ⟨q1, hq1⟩ : ∃ q1, q1 = decide (gn < B.length) := ⟨_, rfl⟩
    have hq2 : decide ((gn : Int) < (B.length : Int)) = q1 := by rw [hq1, decide_eq_decide]; omega
    have hq3 : decide (gn < B.length) = q1 := hq1.symm
    have HQ1 := Lib.hid hq1
    clear hq1
    go_upto_region 23 with fail
    go_cut [111] from 95 to 111 (fun v wx => v = .bool (false && (q1 || (fin && !wh))) ∧ Hid (wx = w4))
    case first =>
      clear HMM HQ1
      go_wp2_with fail
      go_meet
      exact ⟨rfl, rfl⟩
    case rest =>
      obtain ⟨rfl, hwx⟩ := hcut
      have hwx := hwx.out
      subst hwx
      clear hq2 hq3
      obtain ⟨bd, hbd⟩ : ∃ bd, bd = (false && (q1 || (fin && !wh))) := ⟨_, rfl⟩
      rw [← hbd]
      have HBD : Hid (bd = true ↔ (false = true ∧ (gn < B.length ∨ (fin = true ∧ wh = false)))) := by
        show _ ↔ _
        rw [hbd, HQ1.out]
        simp
      clear hbd HQ1
      rcases (show bd = true ∨ bd = false by cases bd <;> simp) with rfl | rfl
      · have hr9 : r0 = badM 1007 := by rw [HMM.out]; exact finM_bad (HBD.out.1 rfl)
        clear HMM
        subst hr9
        clear HBD x0 x2
        go_wp2_with fail
        refine (rbad_any 1007 _).mono ?_
        rintro e w8 ⟨A8, c8, rfl, _, hb⟩
        have HQ := Lib.hid (H5.out.below hb)
        have HR := Lib.hid (HQ.out.rv.setG (g8 ggX))
        have HV := Lib.hid (HR.out.setN (ntc 5 false A8 0 c8 1007))
        clear hb H5
        go_wp2_with (first
          | (refine wpList_sw (cs := g8 ggX) rfl _ _ rfl rfl rfl HQ.out.rv.g rfl (g8_ok _) ?_)
          | (refine wpList_sw (cs := ntc 5 false A8 0 c8 1007) rfl _ _ rfl rfl rfl HR.out.n rfl (nt_ok _ _ _ _ _ _) ?_))
        refine bodyPost_ret (retJ3 (by rfl) _ rfl HV.out.g (g8_ok _) rfl HV.out.n (nt_ok _ _ _ _ _ _) rfl) rfl ?_
        exact ⟨A8, c8, rfl, RdB.nil, HV.out.b⟩
      · have HM2 : Hid (r0 = if fin = true then (gg0, some ⟨1, false, 0, B⟩) else (⟨B, true, false, false⟩, none)) := by show _ = _; rw [HMM.out]; exact finM_go (fun h => Bool.noConfusion (HBD.out.2 h))
        clear HMM HBD
        cases fin
        · have hr9 : r0 = (⟨B, true, false, false⟩, none) := HM2.out
          clear HM2
          subst hr9
          clear x0 x2
          go_upto_region 26 with fail
          have H2 := H5
          clear H5 p0 HY
          have H3 := Lib.hid H2.out.drew
          clear H2
          refine wp_region_held_drew (S := fun W => Row W p 28 (g8 ⟨B, true, false, false⟩) ∧ Row W (p + 4) 34 (ntc 0 false none 0 0 0)) (by kernel_rfl) ⟨H3.out.gx, H3.out.nn⟩ (fun hHeld => ?_)
          refine tkY 0 rfl (yields_ld (by rfl) _ rfl rfl (g8_ok _) (fun _ h => h.1)) ?_
          refine tkY 1 rfl (yields_ld (by rfl) _ rfl rfl (nt_ok _ _ _ _ _ _) (fun _ h => h.2)) ?_
          refine wpAnyH_ready (rs := [2]) (by kernel_rfl) (by simp) ?_
          refine AllReadyH.cons rfl (fun K hK => ?_) AllReadyH.nil
          refine step_sw (cs := g8 ⟨B, true, false, false⟩) rfl _ _ rfl rfl rfl H3.out.rv.g rfl (g8_ok _) ?_
          have HR := Lib.hid (H3.out.ret (g8 ⟨B, true, false, false⟩))
          refine hK.out _ _ ⟨HR.out.1, HR.out.2.2.1⟩ (fun hHeld => ?_)
          clear hK K
          try simp only [Act.put, List.getElem_toArray, List.getElem_cons_zero, List.getElem_cons_succ]
          refine wpAnyH_ready (rs := [3]) (by kernel_rfl) (by simp) ?_
          refine AllReadyH.cons rfl (fun K hK => ?_) AllReadyH.nil
          refine step_sw (cs := ntc 0 false none 0 0 0) rfl _ _ rfl rfl rfl HR.out.2.2.2.1.n rfl (nt_ok _ _ _ _ _ _) ?_
          have HV := Lib.hid (HR.out.2.2.2.1.setN (ntc 0 false none 0 0 0))
          refine hK.out _ _ ⟨HR.out.1.setRow' (by omega) _, HR.out.2.2.1.setRow' (by omega) _⟩ (fun hHeld => ?_)
          clear hK K
          try simp only [Act.put, List.getElem_toArray, List.getElem_cons_zero, List.getElem_cons_succ]
          refine tkH 4 ?_
          refine wpAnyH_done (by kernel_rfl) ?_ _
          go_wp2_with fail
          refine bodyPost_ret (retJ3 (by rfl) _ rfl HV.out.g (g8_ok _) rfl HV.out.n (nt_ok _ _ _ _ _ _) rfl) rfl ?_
          exact ⟨none, 0, rfl, RdB.nil, HV.out.b⟩
        · have hr9 : r0 = (gg0, some ⟨1, false, 0, B⟩) := HM2.out
          clear HM2
          subst hr9
          go_upto_region 27 with fail
          have H6 := Lib.hid H5.out.drew
          have x0d : wc.drew.cell? ⟨p, 0, none⟩ = some (.string y) := x0
          have x2d : wc.drew.cell? ⟨p, 2, none⟩ = some (.bool false) := x2
          clear H5 p0 x0 x2
          refine wp_region_held_drew (S := fun W => W.cell? ⟨p, 0, none⟩ = some (.string y) ∧ W.cell? ⟨p, 2, none⟩ = some (.bool false)) (by kernel_rfl) ⟨x0d, x2d⟩ (fun hHeld => ?_)
          clear x0d x2d
          generalize wc.drew = w5 at *
          refine tkH 0 ?_
          refine tkH 1 ?_
          refine tkH 2 ?_
          refine tkH 3 ?_
          refine tkH 4 ?_
          refine wpAnyH_ready (rs := [5, 7]) (by kernel_rfl) (by simp) ?_
          refine AllReadyH.cons rfl (fun K hK => ?_) (AllReadyH.cons rfl (fun K hK => ?_) AllReadyH.nil)
          · obtain ⟨c6, w6, hcv, hc6, hb6, hr6⟩ := bytesM_run B w5
            rw [← HY.out] at hcv
            have HPB : Hid (p + 4 < w5.heap.size) := H6.out.nn.lt
            have H7 := Lib.hid (H6.out.below hb6)
            have HR6 : Hid (RdS w6 (fun k => w5.heap.size ≤ k) (some ⟨w5.heap.size, 0, none⟩) (byc B)) := hr6.imp fun _ hk _ => hk.1
            clear hb6 hr6 H6
            go_simp
            clear hcv
            generalize w5.heap.size = pb at *
            refine hK.out _ _ ⟨by have h := (g8_cells H7.out.gx).1; rw [HY.out]; exact h, (g8_cells H7.out.gx).2.2.1⟩ (fun hHeld => ?_)
            clear hK K
            try simp only [Act.put, List.getElem_toArray, List.getElem_cons_zero, List.getElem_cons_succ, List.setIfInBounds_toArray, List.set_cons_zero, List.set_cons_succ]
            refine tkH 6 ?_
            refine wpAnyH_ready (rs := [7]) (by kernel_rfl) (by simp) ?_
            refine AllReadyH.cons rfl (fun K hK => ?_) AllReadyH.nil
            refine step_sw (cs := g8 gg0) rfl _ _ rfl rfl rfl H7.out.rv.g rfl (g8_ok _) ?_
            have HZ := Lib.hid (H7.out.rv.setG (g8 gg0))
            have HRZ : Hid (RdS (w6.setRow (p + 2) (g8 gg0)) (fun k => pb ≤ k) (some ⟨pb, 0, none⟩) (byc B)) := RdS.keep HR6.out fun k hk => setRow_other _ _ _ _ (by have := HPB.out; omega)
            have HGZ := Lib.hid (H7.out.ret (g8 gg0)).1
            clear H7 HR6
            generalize w6.setRow (p + 2) (g8 gg0) = wz at *
            refine hK.out _ _ ⟨by have h := (g8_cells HGZ.out).1; rw [HY.out]; exact h, (g8_cells HGZ.out).2.2.1⟩ (fun hHeld => ?_)
            clear hK K
            try simp only [Act.put, List.getElem_toArray, List.getElem_cons_zero, List.getElem_cons_succ]
            refine wpAnyH_ready (rs := [8]) (by kernel_rfl) (by simp) ?_
            refine AllReadyH.cons rfl (fun K hK => ?_) AllReadyH.nil
            refine step_sw (cs := ntc 1 false (some ⟨pb, 0, none⟩) B.length c6 0) rfl _ _ rfl rfl rfl HZ.out.n rfl (nt_ok _ _ _ _ _ _) ?_
            have HW := Lib.hid (HZ.out.setN (ntc 1 false (some ⟨pb, 0, none⟩) B.length c6 0))
            have HRY : Hid (RdB (wz.setRow (p + 2 + 1) (ntc 1 false (some ⟨pb, 0, none⟩) B.length c6 0)) (wz.setRow (p + 2 + 1) (ntc 1 false (some ⟨pb, 0, none⟩) B.length c6 0)).heap.size (some ⟨pb, 0, none⟩) B) := RdB.ofS (RdS.keep HRZ.out fun k hk => setRow_other _ _ _ _ (by have := HPB.out; omega)) fun k _ h => h
            have HGZ2 : Hid (Row _ p 28 (g8 ⟨B, true, false, false⟩)) := HGZ.out.setRow' (k := p + 2 + 1) (by omega) (ntc 1 false (some ⟨pb, 0, none⟩) B.length c6 0)
            refine hK.out _ _ ⟨by have h := (g8_cells HGZ2.out).1; rw [HY.out]; exact h, (g8_cells HGZ2.out).2.2.1⟩ (fun hHeld => ?_)
            clear hK K
            try simp only [Act.put, List.getElem_toArray, List.getElem_cons_zero, List.getElem_cons_succ]
            refine tkH 9 ?_
            refine wpAnyH_done (by kernel_rfl) ?_ _
            go_wp2_with fail
            refine bodyPost_ret (retJ3 (by rfl) _ rfl HW.out.g (g8_ok _) rfl HW.out.n (nt_ok _ _ _ _ _ _) rfl) rfl ?_
            exact ⟨some ⟨pb, 0, none⟩, c6, rfl, HRY.out, HW.out.b⟩
          · refine step_sw (cs := g8 gg0) rfl _ _ rfl rfl rfl H6.out.rv.g rfl (g8_ok _) ?_
            have HRR := Lib.hid (H6.out.ret (g8 gg0))
            clear H6
            generalize w5.setRow (p + 2) (g8 gg0) = w6 at *
            refine hK.out _ _ ⟨by have h := (g8_cells HRR.out.1).1; rw [HY.out]; exact h, (g8_cells HRR.out.1).2.2.1⟩ (fun hHeld => ?_)
            clear hK K
            try simp only [Act.put, List.getElem_toArray, List.getElem_cons_zero, List.getElem_cons_succ]
            refine wpAnyH_ready (rs := [5]) (by kernel_rfl) (by simp) ?_
            refine AllReadyH.cons rfl (fun K hK => ?_) AllReadyH.nil
            obtain ⟨c6, wz, hcv, hc6, hb6, hr6⟩ := bytesM_run B w6
            rw [← HY.out] at hcv
            have HPB : Hid (p + 4 < w6.heap.size) := HRR.out.2.2.1.lt
            have HZ := Lib.hid (HRR.out.2.2.2.1.below hb6)
            have HGZ := Lib.hid (HRR.out.1.upM hb6)
            have HRZ : Hid (RdS wz (fun k => w6.heap.size ≤ k) (some ⟨w6.heap.size, 0, none⟩) (byc B)) := hr6.imp fun _ hk _ => hk.1
            clear hb6 hr6 HRR
            go_simp
            clear hcv
            generalize w6.heap.size = pb at *
            refine hK.out _ _ ⟨by have h := (g8_cells HGZ.out).1; rw [HY.out]; exact h, (g8_cells HGZ.out).2.2.1⟩ (fun hHeld => ?_)
            clear hK K
            try simp only [Act.put, List.getElem_toArray, List.getElem_cons_zero, List.getElem_cons_succ, List.setIfInBounds_toArray, List.set_cons_zero, List.set_cons_succ]
            refine tkH 6 ?_
            refine wpAnyH_ready (rs := [8]) (by kernel_rfl) (by simp) ?_
            refine AllReadyH.cons rfl (fun K hK => ?_) AllReadyH.nil
            refine step_sw (cs := ntc 1 false (some ⟨pb, 0, none⟩) B.length c6 0) rfl _ _ rfl rfl rfl HZ.out.n rfl (nt_ok _ _ _ _ _ _) ?_
            have HW := Lib.hid (HZ.out.setN (ntc 1 false (some ⟨pb, 0, none⟩) B.length c6 0))
            have HRY : Hid (RdB (wz.setRow (p + 2 + 1) (ntc 1 false (some ⟨pb, 0, none⟩) B.length c6 0)) (wz.setRow (p + 2 + 1) (ntc 1 false (some ⟨pb, 0, none⟩) B.length c6 0)).heap.size (some ⟨pb, 0, none⟩) B) := RdB.ofS (RdS.keep HRZ.out fun k hk => setRow_other _ _ _ _ (by have := HPB.out; omega)) fun k _ h => h
            have HGZ2 : Hid (Row _ p 28 (g8 ⟨B, true, false, false⟩)) := HGZ.out.setRow' (k := p + 2 + 1) (by omega) (ntc 1 false (some ⟨pb, 0, none⟩) B.length c6 0)
            refine hK.out _ _ ⟨by have h := (g8_cells HGZ2.out).1; rw [HY.out]; exact h, (g8_cells HGZ2.out).2.2.1⟩ (fun hHeld => ?_)
            clear hK K
            try simp only [Act.put, List.getElem_toArray, List.getElem_cons_zero, List.getElem_cons_succ]
            refine tkH 9 ?_
            refine wpAnyH_done (by kernel_rfl) ?_ _
            go_wp2_with fail
            refine bodyPost_ret (retJ3 (by rfl) _ rfl HW.out.g (g8_ok _) rfl HW.out.n (nt_ok _ _ _ _ _ _) rfl) rfl ?_
            exact ⟨some ⟨pb, 0, none⟩, c6, rfl, HRY.out, HW.out.b⟩
end Go.Proofs.YtdegpchofhnipaaDoor
