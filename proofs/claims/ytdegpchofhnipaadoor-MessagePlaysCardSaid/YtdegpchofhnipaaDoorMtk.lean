/-
  A frame comes by a gatherer (take), by its contract. Conditions: nothing is over; the frame's bytes lie in other blocks than the gatherer's.
-/
import Derived.Test.YtdegpchofhnipaaDoorMad
namespace Go.Proofs.YtdegpchofhnipaaDoor
open Go.RowKit Go.WideShapes

theorem RdF.more {w : World} {B B' : Nat} {S S' : Nat → Prop} {A : Option Addr} {d : List UInt8} (h : RdF w B S A d) (hB : B ≤ B') (hS : ∀ k, k < B → S' k → S k) : RdF w B' S' A d := RdS.imp h fun k hk _ => ⟨Nat.lt_of_lt_of_le hk.1 hB, fun h1 => hk.2 (hS k hk.1 h1)⟩
theorem ErrI.set {c q : Nat} {er : Value} {w : World} {cs : Array Value} (h : ErrI c er w) (hq : Row w q 34 cs) (cs' : Array Value) : ErrI c er (w.setRow q cs') := by
  rcases h with h | ⟨h, g, h1, h2⟩
  · exact .inl h
  · exact .inr ⟨h, g, h1, h2.setRow' (Row.neJ h2 hq (by decide)) cs'⟩
section
variable {w W W' : World} {base g q : Nat} {v v2 : Value} {t t2 : Option Nat} {r : Gg × Option Nt} {e : Ending} {cs0 : Array Value}
theorem TkP.form (h : TkP w base g v t r e W) : ∃ kd tx A n c cd er, e = .returned (.tuple #[.agg (ntc kd tx A n c cd), er]) := by
  rcases h.2 with ⟨_, h, _⟩ | ⟨n, er, cs, _, _, _, _, _, h, _⟩ | ⟨n, A, c, cs, _, _, h, _⟩ | ⟨n, A, c, v', t', _, _, h, _⟩
  · exact ⟨_, _, _, _, _, _, _, h⟩
  · exact ⟨_, _, _, _, _, _, _, h⟩
  · exact ⟨_, _, _, _, _, _, _, h⟩
  · exact ⟨_, _, _, _, _, _, _, h⟩
/-- A part of the way: ahead of it little changed, behind it a note was written. -/
theorem TkP.move (h : TkP W base g v2 t2 r e W') (hf : Fs (mgS g v t) w W) (hs : ∀ k, mgS g v2 t2 k → mgS g v t k ∨ w.heap.size ≤ k) (hq : Row W' q 34 cs0) (hq2 : w.heap.size ≤ q) (cs : Array Value) : TkP w base g v t r e (W'.setRow q cs) := by
  have hn : ∀ k, W.heap.size ≤ k → w.heap.size ≤ k := fun k hk => Nat.le_trans hf.size hk
  refine ⟨(hf.trans h.1 fun k hk h1 => (hs k h1).elim id fun h2 => by omega).setRow (fun h => by omega) _, ?_⟩
  have hmg : ∀ {v' t' x}, Mg W' base g v' t' x → Mg (W'.setRow q cs) base g v' t' x := fun hm => hm.keep fun k hk => setRow_other _ _ _ _ fun e => hm.odd hq (by decide) (by decide) (by decide) (e ▸ hk)
  have hup : ∀ k, mgS g v2 t2 k ∨ W.heap.size ≤ k → mgS g v t k ∨ w.heap.size ≤ k := fun k hk => hk.elim (hs k) fun h => .inr (hn k h)
  rcases h.2 with ⟨h1, h2, v', t', h3, h4⟩ | ⟨n, er, cs1, h1, h2, h3, h4, h5, h6, h7, h8, h9⟩ | ⟨n, A, c, cs1, h1, h2, h3, h4, h5, h6, h7⟩ | ⟨n, A, c, v', t', h1, h2, h3, h4, h5, h6, h7, h8⟩
  · exact .inl ⟨h1, h2, v', t', hmg h3, fun k hk => hup k (h4 k hk)⟩
  · exact .inr (.inl ⟨n, er, cs1, h1, h2, h3, h4, h5, h6, h7.set hq cs, h8.setRow' (Row.neJ h8 hq (by decide)) cs, h9⟩)
  · exact .inr (.inr (.inl ⟨n, A, c, cs1, h1, h2, h3, OwS.setRow h4 (Bo.neJ h4 hq (by decide)) cs, fun k hk => hn k (h5 k hk), h6.setRow' (Row.neJ h6 hq (by decide)) cs, h7⟩))
  · exact .inr (.inr (.inr ⟨n, A, c, v', t', h1, h2, h3, OwS.setRow h4 (Bo.neJ h4 hq (by decide)) cs, fun k hk => hup k (h5 k hk), hmg h6, fun k hk => hup k (h7 k hk), h8⟩))
end
theorem take_more_eq {x : Gg} (ho : x.over = false) (hb : x.busy = true) (fin : Bool) (d : List UInt8) : takeM x 0 fin d = moreM x.text (x.b ++ d) fin := by
  unfold takeM
  rw [ho, hb]
  simp
theorem take_order {x : Gg} {op : Nat} (ho : x.over = false) (hop : op ≤ 2) (hb : x.busy = !decide (op = 0)) (fin : Bool) (d : List UInt8) : takeM x op fin d = badM 1002 := by
  unfold takeM
  rw [ho, hb]
  obtain rfl | rfl | rfl : op = 0 ∨ op = 1 ∨ op = 2 := by omega
  · rfl
  · rfl
  · rfl
theorem take_else {x : Gg} {op : Nat} (ho : x.over = false) (hop : 2 < op ∧ op ≠ 8 ∧ op ≠ 9 ∧ op ≠ 10) (fin : Bool) (d : List UInt8) : takeM x op fin d = badM 1002 := by
  unfold takeM
  rw [ho, if_neg (by simp), if_neg hop.2.2.1, if_neg hop.2.2.2, if_neg hop.2.1, if_pos hop.1]
theorem take_ping {x : Gg} {op : Nat} (ho : x.over = false) (hop : op = 9 ∨ op = 10) (fin : Bool) (d : List UInt8) : takeM x op fin d = (x, some ⟨op - 7, false, 0, d⟩) := by
  unfold takeM
  rw [ho]
  rcases hop with rfl | rfl <;> rfl
theorem take_close {x : Gg} (ho : x.over = false) (fin : Bool) (d : List UInt8) : takeM x 8 fin d = (ggX, some (closeN d)) := by
  rw [← closeM_is]
  unfold takeM
  rw [ho]
  rfl
/-- What is wrong, told at once. -/
theorem AO.wrong {w W : World} {base g gf c : Nat} {v : Value} {t : Option Nat} {x : Gg} {fin : Bool} {op : Nat} {mask : Bool} {key : Nat} {A : Option Addr} {d : List UInt8} {cp : Nat} (h : AO w base g v t x fin op mask key A d cp W) (hf : Row W gf 80 #[.int .u8 3, .int .u32 c]) (hc : c ≠ 0) :
    TkP w base g v t (badM c) (.returned (.tuple #[.agg (ntc 0 false none 0 0 0), .iface 77 (.pointer (some ⟨gf, 0, none⟩))])) (W.setRow (w.heap.size + 1) (ntc 0 false none 0 0 0)) :=
  ⟨(Fs.of_below h.bl).setRow (fun h => by omega) _, .inr (.inl ⟨⟨5, false, c, []⟩, _, _, rfl, rfl, rfl, rfl, hc, rfl, errM hc (hf.setRow' (Row.neJ hf h.nr (by decide)) _), h.mg.row.setRow' (Row.neJ h.mg.row h.nr (by decide)) _, rfl⟩)⟩
theorem AO.below {w W W' : World} {base g : Nat} {v : Value} {t : Option Nat} {x : Gg} {fin : Bool} {op : Nat} {mask : Bool} {key : Nat} {A : Option Addr} {d : List UInt8} {c : Nat} (h : AO w base g v t x fin op mask key A d c W) (hb : Below W.heap.size W W') : AO w base g v t x fin op mask key A d c W' :=
  ⟨h.mg.below hb, h.pr.upM hb, h.nr.upM hb, RdS.keep h.rd fun k hk => hb.block k (Nat.lt_of_lt_of_le hk.1 h.bl.size), h.bl.trans (hb.mono h.bl.size)⟩
/-- Bytes told, the gatherer as it was. -/
theorem AO.told {w W W1 : World} {base g : Nat} {v : Value} {t : Option Nat} {x : Gg} {fin : Bool} {op : Nat} {mask : Bool} {key : Nat} {A A3 : Option Addr} {d : List UInt8} {cp c3 : Nat} (h : AO w base g v t x fin op mask key A d cp W) {n : Nt} (hn : n.kind = 1 ∨ n.kind = 2 ∨ n.kind = 3)
    (ho : Bo W W1.heap.size 5 (.slice A3 n.dat.length c3) n.dat) (hs : w.heap.size ≤ W1.heap.size) (hb : base ≤ w.heap.size) (hm1 : ∀ k, mgS g v t k → k < W1.heap.size) :
    TkP w base g v t (x, some n) (.returned (.tuple #[.agg (ntc n.kind n.text A3 n.dat.length c3 n.code), .nilIface])) (W.setRow (w.heap.size + 1) (ntc n.kind n.text A3 n.dat.length c3 n.code)) := by
  have hodd := h.mg.odd h.nr (by decide) (by decide) (by decide)
  refine ⟨(Fs.of_below h.bl).setRow (fun h => by omega) _, .inr (.inr (.inr ⟨n, A3, c3, v, t, rfl, hn, rfl, OwS.setRow (OwS.mono ho (by omega)) (Bo.neJ ho h.nr (by decide)) _, fun k hk => .inr (Nat.le_trans hs (OwS.lt ho k hk).1), h.mg.keep fun k hk => setRow_other _ _ _ _ (fun e => hodd (e ▸ hk)), fun k hk => .inl hk, fun k hk h1 => ?_⟩))⟩
  have := (OwS.lt ho k hk).1
  have := hm1 k h1
  omega
set_option maxRecDepth 100000 in
set_option maxHeartbeats 4000000 in
theorem mtake_order {w : World} {base g : Nat} {v : Value} {t : Option Nat} {x : Gg} (h : Mg w base g v t x) {fin mask : Bool} {op key c : Nat} {A : Option Addr} {d : List UInt8} (hr : RdF w w.heap.size (mgS g v t) A d) (hop : op ≤ 2) (hb : x.busy = !decide (op = 0)) :
    Calls Tryd.prog 23 #[.pointer (some ⟨g, 0, none⟩), .agg (pcC fin op mask key A d.length c)] w (TkP w base g v t (badM 1002)) := by
  have H1 := Lib.hid (AO.start h hr fin op mask key c)
  have c1 := (pc_cells H1.out.pr).2.1
  have g1 := H1.out.mg.cells.2.1
  rw [hb] at g1
  clear h hr hb
  rcases (show op = 0 ∨ op = 1 ∨ op = 2 by omega) with rfl | rfl | rfl
  · have c1' : ((w.alloc (.cells (pcC fin 0 mask key A d.length c) 32)).alloc (.cells (ntc 0 false none 0 0 0) 34)).cell? ⟨w.heap.size, 1, none⟩ = some (.int .u8 0) := c1
    have g1' : ((w.alloc (.cells (pcC fin 0 mask key A d.length c) 32)).alloc (.cells (ntc 0 false none 0 0 0) 34)).cell? ⟨g, 1, none⟩ = some (.bool false) := g1
    clear c1 g1
    go_enter Tryd.func23, Tryd.ntmps23
    go_upto_region 1 with fail
    rw [nt0_eq]
    generalize (w.alloc (.cells (pcC fin 0 mask key A d.length c) 32)).alloc (.cells (ntc 0 false none 0 0 0) 34) = w1 at *
    go_upto_region 5 with fail
    have H2 := Lib.hid H1.out.drew
    refine wp_region_held_drew (S := fun W => W.cell? ⟨w.heap.size, 1, none⟩ = some (.int .u8 0) ∧ W.cell? ⟨g, 1, none⟩ = some (.bool false)) (by kernel_rfl) ⟨c1', g1'⟩ (fun hHeld => ?_)
    clear c1' g1' H1
    generalize w1.drew = w2 at *
    refine wpAnyH_take (i := 0) (v := ?v0) rfl (by kernel_rfl) (by kernel_rfl) (by kernel_rfl) (fun _ _ _ h => h) (Or.inl ⟨by rfl, ?hy0⟩) (by assumption) ?rest0
    case hy0 => (intro w hSw; (try dsimp only at hSw); go_simp <;> with_reducible rfl)
    try simp only [Act.put, List.getElem_toArray, List.getElem_cons_zero, List.setIfInBounds_toArray, List.set_cons_zero, List.set_cons_succ]
    refine wpAnyH_take (i := 1) (v := ?v1) rfl (by kernel_rfl) (by kernel_rfl) (by kernel_rfl) (fun _ _ _ h => h) (Or.inl ⟨by rfl, ?hy1⟩) (by assumption) ?rest1
    case hy1 => (intro w hSw; (try dsimp only at hSw); go_simp <;> with_reducible rfl)
    try simp only [Act.put, List.getElem_toArray, List.getElem_cons_zero, List.getElem_cons_succ, List.setIfInBounds_toArray, List.set_cons_zero, List.set_cons_succ]
    refine wpAnyH_take (i := 2) (v := ?v2) rfl (by kernel_rfl) (by kernel_rfl) (by kernel_rfl) (fun _ _ _ h => h) (Or.inl ⟨by rfl, ?hy2⟩) (by assumption) ?rest2
    case hy2 => (intro w hSw; (try dsimp only at hSw); go_simp <;> with_reducible rfl)
    try simp only [Act.put, List.getElem_toArray, List.getElem_cons_zero, List.getElem_cons_succ, List.setIfInBounds_toArray, List.set_cons_zero, List.set_cons_succ]
    refine wpAnyH_take (i := 3) (v := ?v3) rfl (by kernel_rfl) (by kernel_rfl) (by kernel_rfl) (fun _ _ _ h => h) (Or.inl ⟨by rfl, ?hy3⟩) (by assumption) ?rest3
    case hy3 => (intro w hSw; (try dsimp only at hSw); go_simp <;> with_reducible rfl)
    try simp only [Act.put, List.getElem_toArray, List.getElem_cons_zero, List.getElem_cons_succ, List.setIfInBounds_toArray, List.set_cons_zero, List.set_cons_succ]
    refine wpAnyH_take (i := 4) (v := ?v4) rfl (by kernel_rfl) (by kernel_rfl) (by kernel_rfl) (fun _ _ _ h => h) (Or.inl ⟨by rfl, ?hy4⟩) (by assumption) ?rest4
    case hy4 => (intro w hSw; (try dsimp only at hSw); go_simp <;> with_reducible rfl)
    try simp only [Act.put, List.getElem_toArray, List.getElem_cons_zero, List.getElem_cons_succ, List.setIfInBounds_toArray, List.set_cons_zero, List.set_cons_succ]
    refine wpAnyH_take (i := 5) (v := ?v5) rfl (by kernel_rfl) (by kernel_rfl) (by kernel_rfl) (fun _ _ _ h => h) (Or.inl ⟨by rfl, ?hy5⟩) (by assumption) ?rest5
    case hy5 => (intro w hSw; (try dsimp only at hSw); go_simp <;> with_reducible rfl)
    try simp only [Act.put, List.getElem_toArray, List.getElem_cons_zero, List.getElem_cons_succ, List.setIfInBounds_toArray, List.set_cons_zero, List.set_cons_succ]
    refine wpAnyH_take (i := 6) (v := ?v6) rfl (by kernel_rfl) (by kernel_rfl) (by kernel_rfl) (fun _ _ _ h => h) (Or.inl ⟨by rfl, ?hy6⟩) (by assumption) ?rest6
    case hy6 => (intro w hSw; (try dsimp only at hSw); go_simp <;> with_reducible rfl)
    try simp only [Act.put, List.getElem_toArray, List.getElem_cons_zero, List.getElem_cons_succ, List.setIfInBounds_toArray, List.set_cons_zero, List.set_cons_succ]
    refine wpAnyH_take (i := 7) (v := ?v7) rfl (by kernel_rfl) (by kernel_rfl) (by kernel_rfl) (fun _ _ _ h => h) (Or.inl ⟨by rfl, ?hy7⟩) (by assumption) ?rest7
    case hy7 => (intro w hSw; (try dsimp only at hSw); go_simp <;> with_reducible rfl)
    try simp only [Act.put, List.getElem_toArray, List.getElem_cons_zero, List.getElem_cons_succ, List.setIfInBounds_toArray, List.set_cons_zero, List.set_cons_succ]
    refine wpAnyH_done (by kernel_rfl) ?_ _
    go_wp2_with fail
    refine (socket_any 1002 _).mono ?_
    rintro e w3 ⟨gf, rfl, hf, hb⟩
    have H3 := Lib.hid (H2.out.below hb)
    have HF3 := Lib.hid hf
    clear hb hf H2 hHeld
    go_wp2_with (refine wpList_sw (cs := ntc 0 false none 0 0 0) rfl _ _ rfl rfl rfl H3.out.nr rfl (nt_ok _ _ _ _ _ _) ?_)
    refine bodyPost_ret (ret_agv (by rfl) _ rfl (H3.out.nr.setRow (ntc 0 false none 0 0 0)) (nt_ok _ _ _ _ _ _) rfl) rfl ?_
    exact H3.out.wrong HF3.out (by decide)
  · have c1' : ((w.alloc (.cells (pcC fin 1 mask key A d.length c) 32)).alloc (.cells (ntc 0 false none 0 0 0) 34)).cell? ⟨w.heap.size, 1, none⟩ = some (.int .u8 1) := c1
    have g1' : ((w.alloc (.cells (pcC fin 1 mask key A d.length c) 32)).alloc (.cells (ntc 0 false none 0 0 0) 34)).cell? ⟨g, 1, none⟩ = some (.bool true) := g1
    clear c1 g1
    go_enter Tryd.func23, Tryd.ntmps23
    go_upto_region 1 with fail
    rw [nt0_eq]
    generalize (w.alloc (.cells (pcC fin 1 mask key A d.length c) 32)).alloc (.cells (ntc 0 false none 0 0 0) 34) = w1 at *
    go_upto_region 5 with fail
    have H2 := Lib.hid H1.out.drew
    refine wp_region_held_drew (S := fun W => W.cell? ⟨w.heap.size, 1, none⟩ = some (.int .u8 1) ∧ W.cell? ⟨g, 1, none⟩ = some (.bool true)) (by kernel_rfl) ⟨c1', g1'⟩ (fun hHeld => ?_)
    clear c1' g1' H1
    generalize w1.drew = w2 at *
    refine wpAnyH_take (i := 0) (v := ?v0q1) rfl (by kernel_rfl) (by kernel_rfl) (by kernel_rfl) (fun _ _ _ h => h) (Or.inl ⟨by rfl, ?hy0q1⟩) (by assumption) ?rest0q1
    case hy0q1 => (intro w hSw; (try dsimp only at hSw); go_simp <;> with_reducible rfl)
    try simp only [Act.put, List.getElem_toArray, List.getElem_cons_zero, List.setIfInBounds_toArray, List.set_cons_zero, List.set_cons_succ]
    refine wpAnyH_take (i := 1) (v := ?v1q1) rfl (by kernel_rfl) (by kernel_rfl) (by kernel_rfl) (fun _ _ _ h => h) (Or.inl ⟨by rfl, ?hy1q1⟩) (by assumption) ?rest1q1
    case hy1q1 => (intro w hSw; (try dsimp only at hSw); go_simp <;> with_reducible rfl)
    try simp only [Act.put, List.getElem_toArray, List.getElem_cons_zero, List.getElem_cons_succ, List.setIfInBounds_toArray, List.set_cons_zero, List.set_cons_succ]
    refine wpAnyH_take (i := 2) (v := ?v2q1) rfl (by kernel_rfl) (by kernel_rfl) (by kernel_rfl) (fun _ _ _ h => h) (Or.inl ⟨by rfl, ?hy2q1⟩) (by assumption) ?rest2q1
    case hy2q1 => (intro w hSw; (try dsimp only at hSw); go_simp <;> with_reducible rfl)
    try simp only [Act.put, List.getElem_toArray, List.getElem_cons_zero, List.getElem_cons_succ, List.setIfInBounds_toArray, List.set_cons_zero, List.set_cons_succ]
    refine wpAnyH_take (i := 3) (v := ?v3q1) rfl (by kernel_rfl) (by kernel_rfl) (by kernel_rfl) (fun _ _ _ h => h) (Or.inl ⟨by rfl, ?hy3q1⟩) (by assumption) ?rest3q1
    case hy3q1 => (intro w hSw; (try dsimp only at hSw); go_simp <;> with_reducible rfl)
    try simp only [Act.put, List.getElem_toArray, List.getElem_cons_zero, List.getElem_cons_succ, List.setIfInBounds_toArray, List.set_cons_zero, List.set_cons_succ]
    refine wpAnyH_take (i := 4) (v := ?v4q1) rfl (by kernel_rfl) (by kernel_rfl) (by kernel_rfl) (fun _ _ _ h => h) (Or.inl ⟨by rfl, ?hy4q1⟩) (by assumption) ?rest4q1
    case hy4q1 => (intro w hSw; (try dsimp only at hSw); go_simp <;> with_reducible rfl)
    try simp only [Act.put, List.getElem_toArray, List.getElem_cons_zero, List.getElem_cons_succ, List.setIfInBounds_toArray, List.set_cons_zero, List.set_cons_succ]
    refine wpAnyH_take (i := 5) (v := ?v5q1) rfl (by kernel_rfl) (by kernel_rfl) (by kernel_rfl) (fun _ _ _ h => h) (Or.inl ⟨by rfl, ?hy5q1⟩) (by assumption) ?rest5q1
    case hy5q1 => (intro w hSw; (try dsimp only at hSw); go_simp <;> with_reducible rfl)
    try simp only [Act.put, List.getElem_toArray, List.getElem_cons_zero, List.getElem_cons_succ, List.setIfInBounds_toArray, List.set_cons_zero, List.set_cons_succ]
    refine wpAnyH_take (i := 6) (v := ?v6q1) rfl (by kernel_rfl) (by kernel_rfl) (by kernel_rfl) (fun _ _ _ h => h) (Or.inl ⟨by rfl, ?hy6q1⟩) (by assumption) ?rest6q1
    case hy6q1 => (intro w hSw; (try dsimp only at hSw); go_simp <;> with_reducible rfl)
    try simp only [Act.put, List.getElem_toArray, List.getElem_cons_zero, List.getElem_cons_succ, List.setIfInBounds_toArray, List.set_cons_zero, List.set_cons_succ]
    refine wpAnyH_take (i := 7) (v := ?v7q1) rfl (by kernel_rfl) (by kernel_rfl) (by kernel_rfl) (fun _ _ _ h => h) (Or.inl ⟨by rfl, ?hy7q1⟩) (by assumption) ?rest7q1
    case hy7q1 => (intro w hSw; (try dsimp only at hSw); go_simp <;> with_reducible rfl)
    try simp only [Act.put, List.getElem_toArray, List.getElem_cons_zero, List.getElem_cons_succ, List.setIfInBounds_toArray, List.set_cons_zero, List.set_cons_succ]
    refine wpAnyH_done (by kernel_rfl) ?_ _
    go_wp2_with fail
    refine (socket_any 1002 _).mono ?_
    rintro e w3 ⟨gf, rfl, hf, hb⟩
    have H3 := Lib.hid (H2.out.below hb)
    have HF3 := Lib.hid hf
    clear hb hf H2 hHeld
    go_wp2_with (refine wpList_sw (cs := ntc 0 false none 0 0 0) rfl _ _ rfl rfl rfl H3.out.nr rfl (nt_ok _ _ _ _ _ _) ?_)
    refine bodyPost_ret (ret_agv (by rfl) _ rfl (H3.out.nr.setRow (ntc 0 false none 0 0 0)) (nt_ok _ _ _ _ _ _) rfl) rfl ?_
    exact H3.out.wrong HF3.out (by decide)
  · have c1' : ((w.alloc (.cells (pcC fin 2 mask key A d.length c) 32)).alloc (.cells (ntc 0 false none 0 0 0) 34)).cell? ⟨w.heap.size, 1, none⟩ = some (.int .u8 2) := c1
    have g1' : ((w.alloc (.cells (pcC fin 2 mask key A d.length c) 32)).alloc (.cells (ntc 0 false none 0 0 0) 34)).cell? ⟨g, 1, none⟩ = some (.bool true) := g1
    clear c1 g1
    go_enter Tryd.func23, Tryd.ntmps23
    go_upto_region 1 with fail
    rw [nt0_eq]
    generalize (w.alloc (.cells (pcC fin 2 mask key A d.length c) 32)).alloc (.cells (ntc 0 false none 0 0 0) 34) = w1 at *
    go_upto_region 5 with fail
    have H2 := Lib.hid H1.out.drew
    refine wp_region_held_drew (S := fun W => W.cell? ⟨w.heap.size, 1, none⟩ = some (.int .u8 2) ∧ W.cell? ⟨g, 1, none⟩ = some (.bool true)) (by kernel_rfl) ⟨c1', g1'⟩ (fun hHeld => ?_)
    clear c1' g1' H1
    generalize w1.drew = w2 at *
    refine wpAnyH_take (i := 0) (v := ?v0q2) rfl (by kernel_rfl) (by kernel_rfl) (by kernel_rfl) (fun _ _ _ h => h) (Or.inl ⟨by rfl, ?hy0q2⟩) (by assumption) ?rest0q2
    case hy0q2 => (intro w hSw; (try dsimp only at hSw); go_simp <;> with_reducible rfl)
    try simp only [Act.put, List.getElem_toArray, List.getElem_cons_zero, List.setIfInBounds_toArray, List.set_cons_zero, List.set_cons_succ]
    refine wpAnyH_take (i := 1) (v := ?v1q2) rfl (by kernel_rfl) (by kernel_rfl) (by kernel_rfl) (fun _ _ _ h => h) (Or.inl ⟨by rfl, ?hy1q2⟩) (by assumption) ?rest1q2
    case hy1q2 => (intro w hSw; (try dsimp only at hSw); go_simp <;> with_reducible rfl)
    try simp only [Act.put, List.getElem_toArray, List.getElem_cons_zero, List.getElem_cons_succ, List.setIfInBounds_toArray, List.set_cons_zero, List.set_cons_succ]
    refine wpAnyH_take (i := 2) (v := ?v2q2) rfl (by kernel_rfl) (by kernel_rfl) (by kernel_rfl) (fun _ _ _ h => h) (Or.inl ⟨by rfl, ?hy2q2⟩) (by assumption) ?rest2q2
    case hy2q2 => (intro w hSw; (try dsimp only at hSw); go_simp <;> with_reducible rfl)
    try simp only [Act.put, List.getElem_toArray, List.getElem_cons_zero, List.getElem_cons_succ, List.setIfInBounds_toArray, List.set_cons_zero, List.set_cons_succ]
    refine wpAnyH_take (i := 3) (v := ?v3q2) rfl (by kernel_rfl) (by kernel_rfl) (by kernel_rfl) (fun _ _ _ h => h) (Or.inl ⟨by rfl, ?hy3q2⟩) (by assumption) ?rest3q2
    case hy3q2 => (intro w hSw; (try dsimp only at hSw); go_simp <;> with_reducible rfl)
    try simp only [Act.put, List.getElem_toArray, List.getElem_cons_zero, List.getElem_cons_succ, List.setIfInBounds_toArray, List.set_cons_zero, List.set_cons_succ]
    refine wpAnyH_take (i := 4) (v := ?v4q2) rfl (by kernel_rfl) (by kernel_rfl) (by kernel_rfl) (fun _ _ _ h => h) (Or.inl ⟨by rfl, ?hy4q2⟩) (by assumption) ?rest4q2
    case hy4q2 => (intro w hSw; (try dsimp only at hSw); go_simp <;> with_reducible rfl)
    try simp only [Act.put, List.getElem_toArray, List.getElem_cons_zero, List.getElem_cons_succ, List.setIfInBounds_toArray, List.set_cons_zero, List.set_cons_succ]
    refine wpAnyH_take (i := 5) (v := ?v5q2) rfl (by kernel_rfl) (by kernel_rfl) (by kernel_rfl) (fun _ _ _ h => h) (Or.inl ⟨by rfl, ?hy5q2⟩) (by assumption) ?rest5q2
    case hy5q2 => (intro w hSw; (try dsimp only at hSw); go_simp <;> with_reducible rfl)
    try simp only [Act.put, List.getElem_toArray, List.getElem_cons_zero, List.getElem_cons_succ, List.setIfInBounds_toArray, List.set_cons_zero, List.set_cons_succ]
    refine wpAnyH_take (i := 6) (v := ?v6q2) rfl (by kernel_rfl) (by kernel_rfl) (by kernel_rfl) (fun _ _ _ h => h) (Or.inl ⟨by rfl, ?hy6q2⟩) (by assumption) ?rest6q2
    case hy6q2 => (intro w hSw; (try dsimp only at hSw); go_simp <;> with_reducible rfl)
    try simp only [Act.put, List.getElem_toArray, List.getElem_cons_zero, List.getElem_cons_succ, List.setIfInBounds_toArray, List.set_cons_zero, List.set_cons_succ]
    refine wpAnyH_take (i := 7) (v := ?v7q2) rfl (by kernel_rfl) (by kernel_rfl) (by kernel_rfl) (fun _ _ _ h => h) (Or.inl ⟨by rfl, ?hy7q2⟩) (by assumption) ?rest7q2
    case hy7q2 => (intro w hSw; (try dsimp only at hSw); go_simp <;> with_reducible rfl)
    try simp only [Act.put, List.getElem_toArray, List.getElem_cons_zero, List.getElem_cons_succ, List.setIfInBounds_toArray, List.set_cons_zero, List.set_cons_succ]
    refine wpAnyH_done (by kernel_rfl) ?_ _
    go_wp2_with fail
    refine (socket_any 1002 _).mono ?_
    rintro e w3 ⟨gf, rfl, hf, hb⟩
    have H3 := Lib.hid (H2.out.below hb)
    have HF3 := Lib.hid hf
    clear hb hf H2 hHeld
    go_wp2_with (refine wpList_sw (cs := ntc 0 false none 0 0 0) rfl _ _ rfl rfl rfl H3.out.nr rfl (nt_ok _ _ _ _ _ _) ?_)
    refine bodyPost_ret (ret_agv (by rfl) _ rfl (H3.out.nr.setRow (ntc 0 false none 0 0 0)) (nt_ok _ _ _ _ _ _) rfl) rfl ?_
    exact H3.out.wrong HF3.out (by decide)
set_option maxRecDepth 100000 in
set_option maxHeartbeats 4000000 in
theorem mtake_else {w : World} {base g : Nat} {v : Value} {t : Option Nat} {x : Gg} (h : Mg w base g v t x) {fin mask : Bool} {op key c : Nat} {A : Option Addr} {d : List UInt8} (hr : RdF w w.heap.size (mgS g v t) A d) (hop : 2 < op ∧ op ≠ 8 ∧ op ≠ 9 ∧ op ≠ 10) :
    Calls Tryd.prog 23 #[.pointer (some ⟨g, 0, none⟩), .agg (pcC fin op mask key A d.length c)] w (TkP w base g v t (badM 1002)) := by
  have H1 := Lib.hid (AO.start h hr fin op mask key c)
  have c1 := (pc_cells H1.out.pr).2.1
  have d0 : ((op : Int) == 0) = false := beq_eq_false_iff_ne.2 (by omega)
  have d1 : ((op : Int) == 1) = false := beq_eq_false_iff_ne.2 (by omega)
  have d2 : ((op : Int) == 2) = false := beq_eq_false_iff_ne.2 (by omega)
  have d8 : ((op : Int) == 8) = false := beq_eq_false_iff_ne.2 (by omega)
  have d9 : ((op : Int) == 9) = false := beq_eq_false_iff_ne.2 (by omega)
  have d10 : ((op : Int) == 10) = false := beq_eq_false_iff_ne.2 (by omega)
  clear h hr hop
  go_enter Tryd.func23, Tryd.ntmps23
  go_upto_region 1 with fail
  rw [nt0_eq]
  generalize (w.alloc (.cells (pcC fin op mask key A d.length c) 32)).alloc (.cells (ntc 0 false none 0 0 0) 34) = w1 at *
  go_wp2_with fail
  refine (socket_any 1002 _).mono ?_
  rintro e w3 ⟨gf, rfl, hf, hb⟩
  have H3 := Lib.hid (H1.out.below hb)
  have HF3 := Lib.hid hf
  clear hb hf H1 c1
  go_wp2_with (refine wpList_sw (cs := ntc 0 false none 0 0 0) rfl _ _ rfl rfl rfl H3.out.nr rfl (nt_ok _ _ _ _ _ _) ?_)
  refine bodyPost_ret (ret_agv (by rfl) _ rfl (H3.out.nr.setRow (ntc 0 false none 0 0 0)) (nt_ok _ _ _ _ _ _) rfl) rfl ?_
  exact H3.out.wrong HF3.out (by decide)
set_option maxRecDepth 100000 in
set_option maxHeartbeats 4000000 in
theorem mtake_ping {w : World} {base g : Nat} {v : Value} {t : Option Nat} {x : Gg} (h : Mg w base g v t x) {fin mask : Bool} {op key c : Nat} {A : Option Addr} {d : List UInt8} (hr : RdF w w.heap.size (mgS g v t) A d) (hl : d.length ≤ 1000000) (hop : op = 9 ∨ op = 10) :
    Calls Tryd.prog 23 #[.pointer (some ⟨g, 0, none⟩), .agg (pcC fin op mask key A d.length c)] w (TkP w base g v t (x, some ⟨op - 7, false, 0, d⟩)) := by
  have H1 := Lib.hid (AO.start h hr fin op mask key c)
  have c1 := (pc_cells H1.out.pr).2.1
  have c4 := (pc_cells H1.out.pr).2.2.2.2
  have hcl := bcloneM (c := c) (H1.out.rd.toB.more H1.out.bl.size) (Nat.le_refl _) (by omega)
  have hbase : base ≤ w.heap.size := Nat.le_trans h.lo.2 (Nat.le_of_lt h.row.lt)
  have HBA := Lib.hid hbase
  clear h hr hbase hl
  rcases hop with rfl | rfl
  · have c1' : ((w.alloc (.cells (pcC fin 9 mask key A d.length c) 32)).alloc (.cells (ntc 0 false none 0 0 0) 34)).cell? ⟨w.heap.size, 1, none⟩ = some (.int .u8 9) := c1
    clear c1
    go_enter Tryd.func23, Tryd.ntmps23
    go_upto_region 1 with fail
    rw [nt0_eq]
    generalize (w.alloc (.cells (pcC fin 9 mask key A d.length c) 32)).alloc (.cells (ntc 0 false none 0 0 0) 34) = w1 at *
    go_wp2_with fail
    refine hcl.mono ?_
    rintro e w3 ⟨A3, c3, rfl, ho, hb⟩
    have H3 := Lib.hid (H1.out.below hb)
    have HO3 := Lib.hid ho
    have HS1 : Hid (w.heap.size ≤ w1.heap.size ∧ ∀ k, mgS g v t k → k < w1.heap.size) := ⟨H1.out.bl.size, fun k hk => (H1.out.mg.lts hk).2⟩
    clear hb ho H1 c1' c4 hcl
    go_wp2_with (refine wpList_sw (cs := ntc 2 false A3 d.length c3 0) rfl _ _ rfl rfl rfl H3.out.nr rfl (nt_ok _ _ _ _ _ _) ?_)
    refine bodyPost_ret (ret_agv (by rfl) _ rfl (H3.out.nr.setRow (ntc 2 false A3 d.length c3 0)) (nt_ok _ _ _ _ _ _) rfl) rfl ?_
    exact H3.out.told (n := ⟨2, false, 0, d⟩) (.inr (by first | exact .inl rfl | exact .inr rfl)) HO3.out HS1.out.1 HBA.out HS1.out.2
  · have c1' : ((w.alloc (.cells (pcC fin 10 mask key A d.length c) 32)).alloc (.cells (ntc 0 false none 0 0 0) 34)).cell? ⟨w.heap.size, 1, none⟩ = some (.int .u8 10) := c1
    clear c1
    go_enter Tryd.func23, Tryd.ntmps23
    go_upto_region 1 with fail
    rw [nt0_eq]
    generalize (w.alloc (.cells (pcC fin 10 mask key A d.length c) 32)).alloc (.cells (ntc 0 false none 0 0 0) 34) = w1 at *
    go_wp2_with fail
    refine hcl.mono ?_
    rintro e w3 ⟨A3, c3, rfl, ho, hb⟩
    have H3 := Lib.hid (H1.out.below hb)
    have HO3 := Lib.hid ho
    have HS1 : Hid (w.heap.size ≤ w1.heap.size ∧ ∀ k, mgS g v t k → k < w1.heap.size) := ⟨H1.out.bl.size, fun k hk => (H1.out.mg.lts hk).2⟩
    clear hb ho H1 c1' c4 hcl
    go_wp2_with (refine wpList_sw (cs := ntc 3 false A3 d.length c3 0) rfl _ _ rfl rfl rfl H3.out.nr rfl (nt_ok _ _ _ _ _ _) ?_)
    refine bodyPost_ret (ret_agv (by rfl) _ rfl (H3.out.nr.setRow (ntc 3 false A3 d.length c3 0)) (nt_ok _ _ _ _ _ _) rfl) rfl ?_
    exact H3.out.told (n := ⟨3, false, 0, d⟩) (.inr (by first | exact .inl rfl | exact .inr rfl)) HO3.out HS1.out.1 HBA.out HS1.out.2
theorem kClose (d : List UInt8) : (closeN d).kind = 4 ∨ (closeN d).kind = 5 := by unfold closeN; (repeat' split) <;> simp
set_option maxRecDepth 100000 in
set_option maxHeartbeats 4000000 in
theorem mtake_close {w : World} {base g : Nat} {v : Value} {t : Option Nat} {x : Gg} (h : Mg w base g v t x) {fin mask : Bool} {key c : Nat} {A : Option Addr} {d : List UInt8} (hr : RdF w w.heap.size (mgS g v t) A d) (hl : d.length ≤ 100000) (hc : d.length ≤ c) :
    Calls Tryd.prog 23 #[.pointer (some ⟨g, 0, none⟩), .agg (pcC fin 8 mask key A d.length c)] w (TkP w base g v t (ggX, some (closeN d))) := by
  have H1 := Lib.hid (AO.start h hr fin 8 mask key c)
  have c1 : ((w.alloc (.cells (pcC fin 8 mask key A d.length c) 32)).alloc (.cells (ntc 0 false none 0 0 0) 34)).cell? ⟨w.heap.size, 1, none⟩ = some (.int .u8 8) := (pc_cells H1.out.pr).2.1
  have c4 := (pc_cells H1.out.pr).2.2.2.2
  have hcl := closed_any (c := c) (H1.out.rd.toB.more H1.out.bl.size) hl hc
  have hbase : base ≤ w.heap.size := Nat.le_trans h.lo.2 (Nat.le_of_lt h.row.lt)
  have HBA := Lib.hid hbase
  clear h hr hbase hl hc
  generalize closeN d = N at *
  go_enter Tryd.func23, Tryd.ntmps23
  go_upto_region 1 with fail
  rw [nt0_eq]
  generalize (w.alloc (.cells (pcC fin 8 mask key A d.length c) 32)).alloc (.cells (ntc 0 false none 0 0 0) 34) = w1 at *
  go_wp2_with fail
  refine hcl.mono ?_
  rintro e w3 (⟨n1, n2, n3, er, rfl, hE, hne, hb⟩ | ⟨n1, n2, A3, c3, rfl, ho, hb⟩)
  · have H3 := Lib.hid (H1.out.below hb)
    have HE := Lib.hid hE
    have HN := Lib.hid (And.intro n1 (And.intro n2 (And.intro n3 hne)))
    clear hb hE H1 c1 c4 hcl n1 n2 n3 hne
    go_wp2_with (refine wpList_sw (cs := ntc 0 false none 0 0 0) rfl _ _ rfl rfl rfl H3.out.nr rfl (nt_ok _ _ _ _ _ _) ?_)
    refine bodyPost_ret (ret_agv (by rfl) _ rfl (H3.out.nr.setRow (ntc 0 false none 0 0 0)) (nt_ok _ _ _ _ _ _) rfl) rfl ?_
    exact ⟨(Fs.of_below H3.out.bl).setRow (fun h => by omega) _, .inr (.inl ⟨N, _, _, rfl, HN.out.1, HN.out.2.1, HN.out.2.2.1, HN.out.2.2.2, rfl, HE.out.set H3.out.nr _, H3.out.mg.row.setRow' (Row.neJ H3.out.mg.row H3.out.nr (by decide)) _, rfl⟩)⟩
  · have H3 := Lib.hid (H1.out.below hb)
    have HO := Lib.hid ho
    have HN := Lib.hid (And.intro n1 n2)
    have HS1 : Hid (w.heap.size ≤ w1.heap.size) := H1.out.bl.size
    clear hb ho H1 c1 c4 hcl n1 n2
    go_wp2_with (refine wpList_sw (cs := ntc 4 false A3 N.dat.length c3 N.code) rfl _ _ rfl rfl rfl H3.out.nr rfl (nt_ok _ _ _ _ _ _) ?_)
    refine bodyPost_ret (ret_agv (by rfl) _ rfl (H3.out.nr.setRow (ntc 4 false A3 N.dat.length c3 N.code)) (nt_ok _ _ _ _ _ _) rfl) rfl ?_
    exact ⟨(Fs.of_below H3.out.bl).setRow (fun h => by omega) _, .inr (.inr (.inl ⟨N, A3, c3, _, rfl, HN.out.1, by rw [HN.out.1, HN.out.2]; rfl, OwS.setRow (OwS.mono HO.out (Nat.le_trans HBA.out HS1.out)) (Bo.neJ HO.out H3.out.nr (by decide)) _, fun k hk => Nat.le_trans HS1.out (OwS.lt HO.out k hk).1, H3.out.mg.row.setRow' (Row.neJ H3.out.mg.row H3.out.nr (by decide)) _, rfl⟩))⟩
set_option maxRecDepth 100000 in
set_option maxHeartbeats 4000000 in
theorem mtake_more {w : World} {base g : Nat} {v : Value} {t : Option Nat} {x : Gg} (h : Mg w base g v t x) (hb : x.busy = true) (ho : x.over = false) {fin mask : Bool} {key c : Nat} {A : Option Addr} {d : List UInt8} (hr : RdF w w.heap.size (mgS g v t) A d) (hl : d.length ≤ 1000000) :
    Calls Tryd.prog 23 #[.pointer (some ⟨g, 0, none⟩), .agg (pcC fin 0 mask key A d.length c)] w (TkP w base g v t (moreM x.text (x.b ++ d) fin)) := by
  have H1 := Lib.hid (AO.start h hr fin 0 mask key c)
  have c1 : ((w.alloc (.cells (pcC fin 0 mask key A d.length c) 32)).alloc (.cells (ntc 0 false none 0 0 0) 34)).cell? ⟨w.heap.size, 1, none⟩ = some (.int .u8 0) := (pc_cells H1.out.pr).2.1
  have g1 := H1.out.mg.cells.2.1
  rw [hb] at g1
  have H2 := Lib.hid H1.out.drew
  have hadd := add_any (fin := fin) (mask := mask) (op := 0) (key := key) (c := c) H2.out.mg hb ho (H2.out.rd.more H2.out.bl.size fun _ _ h => h) hl
  clear h hr hb ho hl
  go_enter Tryd.func23, Tryd.ntmps23
  go_upto_region 1 with fail
  rw [nt0_eq]
  generalize (w.alloc (.cells (pcC fin 0 mask key A d.length c) 32)).alloc (.cells (ntc 0 false none 0 0 0) 34) = w1 at *
  go_upto_region 5 with fail
  refine wp_region_held_drew (S := fun W => W.cell? ⟨w.heap.size, 1, none⟩ = some (.int .u8 0) ∧ W.cell? ⟨g, 1, none⟩ = some (.bool true)) (by kernel_rfl) ⟨c1, g1⟩ (fun hHeld => ?_)
  clear c1 g1 H1
  generalize w1.drew = w2 at *
  refine wpAnyH_take (i := 0) (v := ?v0q3) rfl (by kernel_rfl) (by kernel_rfl) (by kernel_rfl) (fun _ _ _ h => h) (Or.inl ⟨by rfl, ?hy0q3⟩) (by assumption) ?rest0q3
  case hy0q3 => (intro w hSw; (try dsimp only at hSw); go_simp <;> with_reducible rfl)
  try simp only [Act.put, List.getElem_toArray, List.getElem_cons_zero, List.setIfInBounds_toArray, List.set_cons_zero, List.set_cons_succ]
  refine wpAnyH_take (i := 1) (v := ?v1q3) rfl (by kernel_rfl) (by kernel_rfl) (by kernel_rfl) (fun _ _ _ h => h) (Or.inl ⟨by rfl, ?hy1q3⟩) (by assumption) ?rest1q3
  case hy1q3 => (intro w hSw; (try dsimp only at hSw); go_simp <;> with_reducible rfl)
  try simp only [Act.put, List.getElem_toArray, List.getElem_cons_zero, List.getElem_cons_succ, List.setIfInBounds_toArray, List.set_cons_zero, List.set_cons_succ]
  refine wpAnyH_take (i := 2) (v := ?v2q3) rfl (by kernel_rfl) (by kernel_rfl) (by kernel_rfl) (fun _ _ _ h => h) (Or.inl ⟨by rfl, ?hy2q3⟩) (by assumption) ?rest2q3
  case hy2q3 => (intro w hSw; (try dsimp only at hSw); go_simp <;> with_reducible rfl)
  try simp only [Act.put, List.getElem_toArray, List.getElem_cons_zero, List.getElem_cons_succ, List.setIfInBounds_toArray, List.set_cons_zero, List.set_cons_succ]
  refine wpAnyH_take (i := 3) (v := ?v3q3) rfl (by kernel_rfl) (by kernel_rfl) (by kernel_rfl) (fun _ _ _ h => h) (Or.inl ⟨by rfl, ?hy3q3⟩) (by assumption) ?rest3q3
  case hy3q3 => (intro w hSw; (try dsimp only at hSw); go_simp <;> with_reducible rfl)
  try simp only [Act.put, List.getElem_toArray, List.getElem_cons_zero, List.getElem_cons_succ, List.setIfInBounds_toArray, List.set_cons_zero, List.set_cons_succ]
  refine wpAnyH_take (i := 4) (v := ?v4q3) rfl (by kernel_rfl) (by kernel_rfl) (by kernel_rfl) (fun _ _ _ h => h) (Or.inl ⟨by rfl, ?hy4q3⟩) (by assumption) ?rest4q3
  case hy4q3 => (intro w hSw; (try dsimp only at hSw); go_simp <;> with_reducible rfl)
  try simp only [Act.put, List.getElem_toArray, List.getElem_cons_zero, List.getElem_cons_succ, List.setIfInBounds_toArray, List.set_cons_zero, List.set_cons_succ]
  refine wpAnyH_take (i := 5) (v := ?v5q3) rfl (by kernel_rfl) (by kernel_rfl) (by kernel_rfl) (fun _ _ _ h => h) (Or.inl ⟨by rfl, ?hy5q3⟩) (by assumption) ?rest5q3
  case hy5q3 => (intro w hSw; (try dsimp only at hSw); go_simp <;> with_reducible rfl)
  try simp only [Act.put, List.getElem_toArray, List.getElem_cons_zero, List.getElem_cons_succ, List.setIfInBounds_toArray, List.set_cons_zero, List.set_cons_succ]
  refine wpAnyH_take (i := 6) (v := ?v6q3) rfl (by kernel_rfl) (by kernel_rfl) (by kernel_rfl) (fun _ _ _ h => h) (Or.inl ⟨by rfl, ?hy6q3⟩) (by assumption) ?rest6q3
  case hy6q3 => (intro w hSw; (try dsimp only at hSw); go_simp <;> with_reducible rfl)
  try simp only [Act.put, List.getElem_toArray, List.getElem_cons_zero, List.getElem_cons_succ, List.setIfInBounds_toArray, List.set_cons_zero, List.set_cons_succ]
  refine wpAnyH_take (i := 7) (v := ?v7q3) rfl (by kernel_rfl) (by kernel_rfl) (by kernel_rfl) (fun _ _ _ h => h) (Or.inl ⟨by rfl, ?hy7q3⟩) (by assumption) ?rest7q3
  case hy7q3 => (intro w hSw; (try dsimp only at hSw); go_simp <;> with_reducible rfl)
  try simp only [Act.put, List.getElem_toArray, List.getElem_cons_zero, List.getElem_cons_succ, List.setIfInBounds_toArray, List.set_cons_zero, List.set_cons_succ]
  refine wpAnyH_done (by kernel_rfl) ?_ _
  obtain ⟨_, g1⟩ := hHeld
  go_wp2_with (refine wpList_ld (cs := pcC fin 0 mask key A d.length c) rfl _ rfl rfl H2.out.pr (pc_ok _ _ _ _ _ _ _) ?_)
  refine hadd.mono ?_
  rintro e w3 hT
  obtain ⟨kd, tx, A', n', c', cd, er, rfl⟩ := hT.form
  have HT := Lib.hid hT
  have HR3 := Lib.hid (hT.1.row (H2.out.mg.odd H2.out.nr (by decide) (by decide) (by decide)) H2.out.nr)
  have HB2 := Lib.hid H2.out.bl
  clear hT g1 H2 hadd
  go_wp2_with (refine wpList_sw (cs := ntc kd tx A' n' c' cd) rfl _ _ rfl rfl rfl HR3.out rfl (nt_ok _ _ _ _ _ _) ?_)
  refine bodyPost_ret (ret_agv (by rfl) _ rfl (HR3.out.setRow (ntc kd tx A' n' c' cd)) (nt_ok _ _ _ _ _ _) rfl) rfl ?_
  exact HT.out.move (Fs.of_below HB2.out) (fun k hk => .inl hk) HR3.out (by omega) _
set_option maxRecDepth 100000 in
set_option maxHeartbeats 4000000 in
theorem mtake_first {w : World} {base g : Nat} {v : Value} {t : Option Nat} {x : Gg} (h : Mg w base g v t x) (hb : x.busy = false) (ho : x.over = false) {fin mask : Bool} {op key c : Nat} {A : Option Addr} {d : List UInt8} (hr : RdF w w.heap.size (mgS g v t) A d) (hl : d.length ≤ 1000000) (hop : op = 1 ∨ op = 2) :
    Calls Tryd.prog 23 #[.pointer (some ⟨g, 0, none⟩), .agg (pcC fin op mask key A d.length c)] w (TkP w base g v t (moreM (decide (op = 1)) d fin)) := by
  have H1 := Lib.hid (AO.start h hr fin op mask key c)
  have c1 := (pc_cells H1.out.pr).2.1
  have g1 := H1.out.mg.cells.2.1
  rw [hb] at g1
  have H2 := Lib.hid H1.out.drew
  have hbg := begin_any H2.out.mg hb ho (decide (op = 1))
  have HL := Lib.hid hl
  clear h hr hb ho hl
  rcases hop with rfl | rfl
  · have c1' : ((w.alloc (.cells (pcC fin 1 mask key A d.length c) 32)).alloc (.cells (ntc 0 false none 0 0 0) 34)).cell? ⟨w.heap.size, 1, none⟩ = some (.int .u8 1) := c1
    have hbg' : Calls Tryd.prog 33 #[.pointer (some ⟨g, 0, none⟩), .bool true] ((w.alloc (.cells (pcC fin 1 mask key A d.length c) 32)).alloc (.cells (ntc 0 false none 0 0 0) 34)).drew (BegP ((w.alloc (.cells (pcC fin 1 mask key A d.length c) 32)).alloc (.cells (ntc 0 false none 0 0 0) 34)).drew base g v true) := hbg
    have HK : Hid (decide (1 = 1) = true) := rfl
    rw [show decide (1 = 1) = true from rfl]
    clear c1 hbg
    go_enter Tryd.func23, Tryd.ntmps23
    go_upto_region 1 with fail
    rw [nt0_eq]
    generalize (w.alloc (.cells (pcC fin 1 mask key A d.length c) 32)).alloc (.cells (ntc 0 false none 0 0 0) 34) = w1 at *
    go_upto_region 5 with fail
    refine wp_region_held_drew (S := fun W => W.cell? ⟨w.heap.size, 1, none⟩ = some (.int .u8 1) ∧ W.cell? ⟨g, 1, none⟩ = some (.bool false)) (by kernel_rfl) ⟨c1', g1⟩ (fun hHeld => ?_)
    clear c1' g1 H1
    generalize w1.drew = w2 at *
    refine wpAnyH_take (i := 0) (v := ?v0q4) rfl (by kernel_rfl) (by kernel_rfl) (by kernel_rfl) (fun _ _ _ h => h) (Or.inl ⟨by rfl, ?hy0q4⟩) (by assumption) ?rest0q4
    case hy0q4 => (intro w hSw; (try dsimp only at hSw); go_simp <;> with_reducible rfl)
    try simp only [Act.put, List.getElem_toArray, List.getElem_cons_zero, List.setIfInBounds_toArray, List.set_cons_zero, List.set_cons_succ]
    refine wpAnyH_take (i := 1) (v := ?v1q4) rfl (by kernel_rfl) (by kernel_rfl) (by kernel_rfl) (fun _ _ _ h => h) (Or.inl ⟨by rfl, ?hy1q4⟩) (by assumption) ?rest1q4
    case hy1q4 => (intro w hSw; (try dsimp only at hSw); go_simp <;> with_reducible rfl)
    try simp only [Act.put, List.getElem_toArray, List.getElem_cons_zero, List.getElem_cons_succ, List.setIfInBounds_toArray, List.set_cons_zero, List.set_cons_succ]
    refine wpAnyH_take (i := 2) (v := ?v2q4) rfl (by kernel_rfl) (by kernel_rfl) (by kernel_rfl) (fun _ _ _ h => h) (Or.inl ⟨by rfl, ?hy2q4⟩) (by assumption) ?rest2q4
    case hy2q4 => (intro w hSw; (try dsimp only at hSw); go_simp <;> with_reducible rfl)
    try simp only [Act.put, List.getElem_toArray, List.getElem_cons_zero, List.getElem_cons_succ, List.setIfInBounds_toArray, List.set_cons_zero, List.set_cons_succ]
    refine wpAnyH_take (i := 3) (v := ?v3q4) rfl (by kernel_rfl) (by kernel_rfl) (by kernel_rfl) (fun _ _ _ h => h) (Or.inl ⟨by rfl, ?hy3q4⟩) (by assumption) ?rest3q4
    case hy3q4 => (intro w hSw; (try dsimp only at hSw); go_simp <;> with_reducible rfl)
    try simp only [Act.put, List.getElem_toArray, List.getElem_cons_zero, List.getElem_cons_succ, List.setIfInBounds_toArray, List.set_cons_zero, List.set_cons_succ]
    refine wpAnyH_take (i := 4) (v := ?v4q4) rfl (by kernel_rfl) (by kernel_rfl) (by kernel_rfl) (fun _ _ _ h => h) (Or.inl ⟨by rfl, ?hy4q4⟩) (by assumption) ?rest4q4
    case hy4q4 => (intro w hSw; (try dsimp only at hSw); go_simp <;> with_reducible rfl)
    try simp only [Act.put, List.getElem_toArray, List.getElem_cons_zero, List.getElem_cons_succ, List.setIfInBounds_toArray, List.set_cons_zero, List.set_cons_succ]
    refine wpAnyH_take (i := 5) (v := ?v5q4) rfl (by kernel_rfl) (by kernel_rfl) (by kernel_rfl) (fun _ _ _ h => h) (Or.inl ⟨by rfl, ?hy5q4⟩) (by assumption) ?rest5q4
    case hy5q4 => (intro w hSw; (try dsimp only at hSw); go_simp <;> with_reducible rfl)
    try simp only [Act.put, List.getElem_toArray, List.getElem_cons_zero, List.getElem_cons_succ, List.setIfInBounds_toArray, List.set_cons_zero, List.set_cons_succ]
    refine wpAnyH_take (i := 6) (v := ?v6q4) rfl (by kernel_rfl) (by kernel_rfl) (by kernel_rfl) (fun _ _ _ h => h) (Or.inl ⟨by rfl, ?hy6q4⟩) (by assumption) ?rest6q4
    case hy6q4 => (intro w hSw; (try dsimp only at hSw); go_simp <;> with_reducible rfl)
    try simp only [Act.put, List.getElem_toArray, List.getElem_cons_zero, List.getElem_cons_succ, List.setIfInBounds_toArray, List.set_cons_zero, List.set_cons_succ]
    refine wpAnyH_take (i := 7) (v := ?v7q4) rfl (by kernel_rfl) (by kernel_rfl) (by kernel_rfl) (fun _ _ _ h => h) (Or.inl ⟨by rfl, ?hy7q4⟩) (by assumption) ?rest7q4
    case hy7q4 => (intro w hSw; (try dsimp only at hSw); go_simp <;> with_reducible rfl)
    try simp only [Act.put, List.getElem_toArray, List.getElem_cons_zero, List.getElem_cons_succ, List.setIfInBounds_toArray, List.set_cons_zero, List.set_cons_succ]
    refine wpAnyH_done (by kernel_rfl) ?_ _
    obtain ⟨c1, g1⟩ := hHeld
    go_wp2_with fail
    refine hbg'.mono ?_
    rintro e w3 ⟨rfl, t3, hm3, hf3, ht3⟩
    have hgp : ¬ (w.heap.size = g) := fun e => (H2.out.mg.odd H2.out.pr (by decide) (by decide) (by decide)) (.inl e)
    have hgn : ¬ (w.heap.size + 1 = g) := fun e => (H2.out.mg.odd H2.out.nr (by decide) (by decide) (by decide)) (.inl e)
    have HP3 := Lib.hid (hf3.row hgp H2.out.pr)
    have HN3 := Lib.hid (hf3.row hgn H2.out.nr)
    have hbs := H2.out.bl.size
    have HF3 : Hid (Fs (mgS g v t) w w3) := (Fs.of_below H2.out.bl).trans hf3 fun k _ hk => .inl hk
    have HS3 : Hid (∀ k, mgS g v t3 k → mgS g v t k ∨ w.heap.size ≤ k) := fun k hk => by
      rcases hk with hk | hk | hk
      · exact .inl (.inl hk)
      · exact .inl (.inr (.inl hk))
      · exact .inr (Nat.le_trans hbs (ht3 k hk))
    have HD3 : Hid (RdF w3 w3.heap.size (mgS g v t3) A d) := by
      have h1 : RdF w3 w.heap.size (mgS g v t) A d := RdS.keep H2.out.rd fun k hk => hf3.block k (by omega) (fun e => hk.2 (.inl e))
      exact h1.more HF3.out.size fun k hk h => (HS3.out k h).elim id fun h2 => by omega
    have hadd := add_any (fin := fin) (mask := mask) (op := 1) (key := key) (c := c) hm3 rfl rfl HD3.out HL.out
    have HM3 := Lib.hid hm3
    clear hm3 hf3 ht3 hgp hgn hbs H2 hbg' g1 c1 HD3
    go_wp2_with (refine wpList_ld (cs := pcC fin 1 mask key A d.length c) rfl _ rfl rfl HP3.out (pc_ok _ _ _ _ _ _ _) ?_)
    refine hadd.mono ?_
    rintro e w4 hT
    obtain ⟨kd, tx, A', n', c', cd, er, rfl⟩ := hT.form
    have HT := Lib.hid hT
    have HR4 := Lib.hid (hT.1.row (HM3.out.odd HN3.out (by decide) (by decide) (by decide)) HN3.out)
    clear hT hadd HM3 HP3 HN3
    go_wp2_with (refine wpList_sw (cs := ntc kd tx A' n' c' cd) rfl _ _ rfl rfl rfl HR4.out rfl (nt_ok _ _ _ _ _ _) ?_)
    refine bodyPost_ret (ret_agv (by rfl) _ rfl (HR4.out.setRow (ntc kd tx A' n' c' cd)) (nt_ok _ _ _ _ _ _) rfl) rfl ?_
    exact HT.out.move HF3.out HS3.out HR4.out (by omega) _
  · have c1' : ((w.alloc (.cells (pcC fin 2 mask key A d.length c) 32)).alloc (.cells (ntc 0 false none 0 0 0) 34)).cell? ⟨w.heap.size, 1, none⟩ = some (.int .u8 2) := c1
    have hbg' : Calls Tryd.prog 33 #[.pointer (some ⟨g, 0, none⟩), .bool false] ((w.alloc (.cells (pcC fin 2 mask key A d.length c) 32)).alloc (.cells (ntc 0 false none 0 0 0) 34)).drew (BegP ((w.alloc (.cells (pcC fin 2 mask key A d.length c) 32)).alloc (.cells (ntc 0 false none 0 0 0) 34)).drew base g v false) := hbg
    have HK : Hid (decide (2 = 1) = false) := rfl
    rw [show decide (2 = 1) = false from rfl]
    clear c1 hbg
    go_enter Tryd.func23, Tryd.ntmps23
    go_upto_region 1 with fail
    rw [nt0_eq]
    generalize (w.alloc (.cells (pcC fin 2 mask key A d.length c) 32)).alloc (.cells (ntc 0 false none 0 0 0) 34) = w1 at *
    go_upto_region 5 with fail
    refine wp_region_held_drew (S := fun W => W.cell? ⟨w.heap.size, 1, none⟩ = some (.int .u8 2) ∧ W.cell? ⟨g, 1, none⟩ = some (.bool false)) (by kernel_rfl) ⟨c1', g1⟩ (fun hHeld => ?_)
    clear c1' g1 H1
    generalize w1.drew = w2 at *
    refine wpAnyH_take (i := 0) (v := ?v0q5) rfl (by kernel_rfl) (by kernel_rfl) (by kernel_rfl) (fun _ _ _ h => h) (Or.inl ⟨by rfl, ?hy0q5⟩) (by assumption) ?rest0q5
    case hy0q5 => (intro w hSw; (try dsimp only at hSw); go_simp <;> with_reducible rfl)
    try simp only [Act.put, List.getElem_toArray, List.getElem_cons_zero, List.setIfInBounds_toArray, List.set_cons_zero, List.set_cons_succ]
    refine wpAnyH_take (i := 1) (v := ?v1q5) rfl (by kernel_rfl) (by kernel_rfl) (by kernel_rfl) (fun _ _ _ h => h) (Or.inl ⟨by rfl, ?hy1q5⟩) (by assumption) ?rest1q5
    case hy1q5 => (intro w hSw; (try dsimp only at hSw); go_simp <;> with_reducible rfl)
    try simp only [Act.put, List.getElem_toArray, List.getElem_cons_zero, List.getElem_cons_succ, List.setIfInBounds_toArray, List.set_cons_zero, List.set_cons_succ]
    refine wpAnyH_take (i := 2) (v := ?v2q5) rfl (by kernel_rfl) (by kernel_rfl) (by kernel_rfl) (fun _ _ _ h => h) (Or.inl ⟨by rfl, ?hy2q5⟩) (by assumption) ?rest2q5
    case hy2q5 => (intro w hSw; (try dsimp only at hSw); go_simp <;> with_reducible rfl)
    try simp only [Act.put, List.getElem_toArray, List.getElem_cons_zero, List.getElem_cons_succ, List.setIfInBounds_toArray, List.set_cons_zero, List.set_cons_succ]
    refine wpAnyH_take (i := 3) (v := ?v3q5) rfl (by kernel_rfl) (by kernel_rfl) (by kernel_rfl) (fun _ _ _ h => h) (Or.inl ⟨by rfl, ?hy3q5⟩) (by assumption) ?rest3q5
    case hy3q5 => (intro w hSw; (try dsimp only at hSw); go_simp <;> with_reducible rfl)
    try simp only [Act.put, List.getElem_toArray, List.getElem_cons_zero, List.getElem_cons_succ, List.setIfInBounds_toArray, List.set_cons_zero, List.set_cons_succ]
    refine wpAnyH_take (i := 4) (v := ?v4q5) rfl (by kernel_rfl) (by kernel_rfl) (by kernel_rfl) (fun _ _ _ h => h) (Or.inl ⟨by rfl, ?hy4q5⟩) (by assumption) ?rest4q5
    case hy4q5 => (intro w hSw; (try dsimp only at hSw); go_simp <;> with_reducible rfl)
    try simp only [Act.put, List.getElem_toArray, List.getElem_cons_zero, List.getElem_cons_succ, List.setIfInBounds_toArray, List.set_cons_zero, List.set_cons_succ]
    refine wpAnyH_take (i := 5) (v := ?v5q5) rfl (by kernel_rfl) (by kernel_rfl) (by kernel_rfl) (fun _ _ _ h => h) (Or.inl ⟨by rfl, ?hy5q5⟩) (by assumption) ?rest5q5
    case hy5q5 => (intro w hSw; (try dsimp only at hSw); go_simp <;> with_reducible rfl)
    try simp only [Act.put, List.getElem_toArray, List.getElem_cons_zero, List.getElem_cons_succ, List.setIfInBounds_toArray, List.set_cons_zero, List.set_cons_succ]
    refine wpAnyH_take (i := 6) (v := ?v6q5) rfl (by kernel_rfl) (by kernel_rfl) (by kernel_rfl) (fun _ _ _ h => h) (Or.inl ⟨by rfl, ?hy6q5⟩) (by assumption) ?rest6q5
    case hy6q5 => (intro w hSw; (try dsimp only at hSw); go_simp <;> with_reducible rfl)
    try simp only [Act.put, List.getElem_toArray, List.getElem_cons_zero, List.getElem_cons_succ, List.setIfInBounds_toArray, List.set_cons_zero, List.set_cons_succ]
    refine wpAnyH_take (i := 7) (v := ?v7q5) rfl (by kernel_rfl) (by kernel_rfl) (by kernel_rfl) (fun _ _ _ h => h) (Or.inl ⟨by rfl, ?hy7q5⟩) (by assumption) ?rest7q5
    case hy7q5 => (intro w hSw; (try dsimp only at hSw); go_simp <;> with_reducible rfl)
    try simp only [Act.put, List.getElem_toArray, List.getElem_cons_zero, List.getElem_cons_succ, List.setIfInBounds_toArray, List.set_cons_zero, List.set_cons_succ]
    refine wpAnyH_done (by kernel_rfl) ?_ _
    obtain ⟨c1, g1⟩ := hHeld
    go_wp2_with fail
    refine hbg'.mono ?_
    rintro e w3 ⟨rfl, t3, hm3, hf3, ht3⟩
    have hgp : ¬ (w.heap.size = g) := fun e => (H2.out.mg.odd H2.out.pr (by decide) (by decide) (by decide)) (.inl e)
    have hgn : ¬ (w.heap.size + 1 = g) := fun e => (H2.out.mg.odd H2.out.nr (by decide) (by decide) (by decide)) (.inl e)
    have HP3 := Lib.hid (hf3.row hgp H2.out.pr)
    have HN3 := Lib.hid (hf3.row hgn H2.out.nr)
    have hbs := H2.out.bl.size
    have HF3 : Hid (Fs (mgS g v t) w w3) := (Fs.of_below H2.out.bl).trans hf3 fun k _ hk => .inl hk
    have HS3 : Hid (∀ k, mgS g v t3 k → mgS g v t k ∨ w.heap.size ≤ k) := fun k hk => by
      rcases hk with hk | hk | hk
      · exact .inl (.inl hk)
      · exact .inl (.inr (.inl hk))
      · exact .inr (Nat.le_trans hbs (ht3 k hk))
    have HD3 : Hid (RdF w3 w3.heap.size (mgS g v t3) A d) := by
      have h1 : RdF w3 w.heap.size (mgS g v t) A d := RdS.keep H2.out.rd fun k hk => hf3.block k (by omega) (fun e => hk.2 (.inl e))
      exact h1.more HF3.out.size fun k hk h => (HS3.out k h).elim id fun h2 => by omega
    have hadd := add_any (fin := fin) (mask := mask) (op := 2) (key := key) (c := c) hm3 rfl rfl HD3.out HL.out
    have HM3 := Lib.hid hm3
    clear hm3 hf3 ht3 hgp hgn hbs H2 hbg' g1 c1 HD3
    go_wp2_with (refine wpList_ld (cs := pcC fin 2 mask key A d.length c) rfl _ rfl rfl HP3.out (pc_ok _ _ _ _ _ _ _) ?_)
    refine hadd.mono ?_
    rintro e w4 hT
    obtain ⟨kd, tx, A', n', c', cd, er, rfl⟩ := hT.form
    have HT := Lib.hid hT
    have HR4 := Lib.hid (hT.1.row (HM3.out.odd HN3.out (by decide) (by decide) (by decide)) HN3.out)
    clear hT hadd HM3 HP3 HN3
    go_wp2_with (refine wpList_sw (cs := ntc kd tx A' n' c' cd) rfl _ _ rfl rfl rfl HR4.out rfl (nt_ok _ _ _ _ _ _) ?_)
    refine bodyPost_ret (ret_agv (by rfl) _ rfl (HR4.out.setRow (ntc kd tx A' n' c' cd)) (nt_ok _ _ _ _ _ _) rfl) rfl ?_
    exact HT.out.move HF3.out HS3.out HR4.out (by omega) _
theorem mtake_any {w : World} {base g : Nat} {v : Value} {t : Option Nat} {x : Gg} (h : Mg w base g v t x) (ho : x.over = false) {fin mask : Bool} {op key c : Nat} {A : Option Addr} {d : List UInt8} (hr : RdF w w.heap.size (mgS g v t) A d) (hl : d.length ≤ 100000) (hc : d.length ≤ c) :
    Calls Tryd.prog 23 #[.pointer (some ⟨g, 0, none⟩), .agg (pcC fin op mask key A d.length c)] w (TkP w base g v t (takeM x op fin d)) := by
  by_cases h8 : op = 8
  · subst h8; rw [take_close ho]; exact mtake_close h hr hl hc
  by_cases h9 : op = 9 ∨ op = 10
  · rw [take_ping ho h9]; exact mtake_ping h hr (by omega) h9
  rcases Nat.lt_or_ge 2 op with h2 | h2
  · rw [take_else ho ⟨h2, by omega, by omega, by omega⟩]; exact mtake_else h hr ⟨h2, by omega, by omega, by omega⟩
  by_cases hb : x.busy = !decide (op = 0)
  · rw [take_order ho h2 hb]; exact mtake_order h hr h2 hb
  rcases (show op = 0 ∨ op = 1 ∨ op = 2 by omega) with rfl | rfl | rfl
  · have hb' : x.busy = true := by cases hx : x.busy with | true => rfl | false => rw [hx] at hb; exact absurd rfl hb
    rw [take_more_eq ho hb']; exact mtake_more h hb' ho hr (by omega)
  · have hb' : x.busy = false := by cases hx : x.busy with | false => rfl | true => rw [hx] at hb; exact absurd rfl hb
    have e : takeM x 1 fin d = moreM true d fin := take_first ⟨ho, hb'⟩ true fin d
    rw [e]; exact mtake_first h hb' ho hr (by omega) (.inl rfl)
  · have hb' : x.busy = false := by cases hx : x.busy with | false => rfl | true => rw [hx] at hb; exact absurd rfl hb
    have e : takeM x 2 fin d = moreM false d fin := take_first ⟨ho, hb'⟩ false fin d
    rw [e]; exact mtake_first h hb' ho hr (by omega) (.inr rfl)
end Go.Proofs.YtdegpchofhnipaaDoor
