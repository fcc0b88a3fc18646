/-
  A frame's bytes come behind the message's: add, by its contract. Conditions: a message is begun; the frame's bytes lie in other blocks than the gatherer's.
-/
import Derived.Test.YtdegpchofhnipaaDoorMrd
import Derived.BigQuiet
import Derived.Deep.RegionHeld3
namespace Go.Proofs.YtdegpchofhnipaaDoor
open Go.RowKit Go.WideShapes

/-- What a frame comes to: nothing, a note, or what is wrong; the gatherer behind it. -/
def TkP (w : World) (base g : Nat) (v : Value) (t : Option Nat) (r : Gg × Option Nt) (e : Ending) (w' : World) : Prop :=
  Fs (mgS g v t) w w' ∧
  ((r.2 = none ∧ e = .returned (.tuple #[.agg (ntc 0 false none 0 0 0), .nilIface]) ∧ ∃ v' t', Mg w' base g v' t' r.1 ∧ ∀ k, mgS g v' t' k → mgS g v t k ∨ w.heap.size ≤ k) ∨
   (∃ n er cs, r = (ggX, some n) ∧ n.kind = 5 ∧ n.text = false ∧ n.dat = [] ∧ n.code ≠ 0 ∧ e = .returned (.tuple #[.agg (ntc 0 false none 0 0 0), er]) ∧ ErrI n.code er w' ∧ Row w' g 56 cs ∧ cs.size = 4) ∨
   (∃ n A c cs, r = (ggX, some n) ∧ n.kind = 4 ∧ e = .returned (.tuple #[.agg (ntc n.kind n.text A n.dat.length c n.code), .nilIface]) ∧ Bo w' base 5 (.slice A n.dat.length c) n.dat ∧ (∀ k, ob (.slice A n.dat.length c) k → w.heap.size ≤ k) ∧ Row w' g 56 cs ∧ cs.size = 4) ∨
   (∃ n A c v' t', r.2 = some n ∧ (n.kind = 1 ∨ n.kind = 2 ∨ n.kind = 3) ∧ e = .returned (.tuple #[.agg (ntc n.kind n.text A n.dat.length c n.code), .nilIface]) ∧ Bo w' base 5 (.slice A n.dat.length c) n.dat ∧ (∀ k, ob (.slice A n.dat.length c) k → mgS g v t k ∨ w.heap.size ≤ k) ∧
      Mg w' base g v' t' r.1 ∧ (∀ k, mgS g v' t' k → mgS g v t k ∨ w.heap.size ≤ k) ∧ ∀ k, ob (.slice A n.dat.length c) k → ¬ mgS g v' t' k))
/-- Bytes that lie in other blocks than these. -/
def RdF (w : World) (B : Nat) (S : Nat → Prop) (A : Option Addr) (d : List UInt8) : Prop := RdS w (fun k => k < B ∧ ¬ S k) A (byc d)
theorem RdF.toB {w : World} {B : Nat} {S : Nat → Prop} {A : Option Addr} {d : List UInt8} (h : RdF w B S A d) : RdB w B A d := RdB.ofS h fun _ hk _ => hk.1
theorem RdF.toN {w : World} {B k : Nat} {S : Nat → Prop} {A : Option Addr} {d : List UInt8} (h : RdF w B S A d) (hk : S k) : RdN w k A d := fun hd => by
  have hne : byc d ≠ [] := fun e => hd (by cases d with | nil => rfl | cons a b => cases e)
  obtain ⟨b, o, e, hb, hc⟩ := h hne
  exact ⟨b, o, e, fun e2 => hb.2 (e2 ▸ hk), fun j hj => hc j _ (byc_at hj)⟩
/-- At add's beginning: the frame and the note in their variables. -/
structure AO (w : World) (base g : Nat) (v : Value) (t : Option Nat) (x : Gg) (fin : Bool) (op : Nat) (mask : Bool) (key : Nat) (A : Option Addr) (d : List UInt8) (c : Nat) (W : World) : Prop where
  mg : Mg W base g v t x
  pr : Row W w.heap.size 32 (pcC fin op mask key A d.length c)
  nr : Row W (w.heap.size + 1) 34 (ntc 0 false none 0 0 0)
  rd : RdF W w.heap.size (mgS g v t) A d
  bl : Below w.heap.size w W
/-- The bytes lie behind the others. -/
structure AM (w : World) (base g : Nat) (v : Value) (t : Option Nat) (v4 : Value) (y : List UInt8) (fin : Bool) (op : Nat) (mask : Bool) (key : Nat) (A : Option Addr) (d : List UInt8) (c : Nat) (W : World) : Prop where
  row : Row W g 56 (mgc v4 true (tpM t) false)
  own : Bo W base 5 v4 y
  pr : Row W w.heap.size 32 (pcC fin op mask key A d.length c)
  nr : Row W (w.heap.size + 1) 34 (ntc 0 false none 0 0 0)
  fs : Fs (mgS g v t) w W
  nx : ∀ k, ob v4 k → ob v k ∨ w.heap.size ≤ k
  lo : 0 < base ∧ base ≤ g
  gl : g < w.heap.size
section
variable {w W W' W4 : World} {base g : Nat} {v v4 : Value} {t : Option Nat} {x : Gg} {fin : Bool} {op : Nat} {mask : Bool} {key : Nat} {A : Option Addr} {d y : List UInt8} {c : Nat}
theorem AO.start (h : Mg w base g v t x) (hr : RdF w w.heap.size (mgS g v t) A d) (fin : Bool) (op : Nat) (mask : Bool) (key c : Nat) : AO w base g v t x fin op mask key A d c ((w.alloc (.cells (pcC fin op mask key A d.length c) 32)).alloc (.cells (ntc 0 false none 0 0 0) 34)) := by
  have hb : Below w.heap.size w ((w.alloc (.cells (pcC fin op mask key A d.length c) 32)).alloc (.cells (ntc 0 false none 0 0 0) 34)) := ((Below.refl _ _).alloc (Nat.le_refl _) _).alloc (by simp) _
  exact ⟨h.below hb, (Row.new w _ _).alloc _, Row.made _ _ _ (by simp), RdS.keep hr fun k hk => hb.block k hk.1, hb⟩
theorem AO.drewN (h : AO w base g v t x fin op mask key A d c W) (n : Nat) : AO w base g v t x fin op mask key A d c (W.drewN n) := ⟨h.mg.keep fun _ _ => rfl, h.pr, h.nr, RdS.keep h.rd fun _ _ => rfl, below_dN h.bl n⟩
theorem AO.drew (h : AO w base g v t x fin op mask key A d c W) : AO w base g v t x fin op mask key A d c W.drew := ⟨h.mg.keep fun _ _ => rfl, h.pr, h.nr, RdS.keep h.rd fun _ _ => rfl, h.bl.drew⟩
theorem AO.app (h : AO w base g v t x fin op mask key A d c W) (hg : g < w.heap.size) (hb : x.busy = true) (ho : x.over = false) (hO : Bo W4 base 5 v4 y) (hF : Fs (ob v) W W4) (hN : Nx W v v4) :
    AM w base g v t v4 y fin op mask key A d c (W4.setCell ⟨g, 0, none⟩ v4) ∧ (∀ k, t = some k → (W4.setCell ⟨g, 0, none⟩ v4).heap[k]? = W.heap[k]?) ∧ RdF (W4.setCell ⟨g, 0, none⟩ v4) w.heap.size (mgS g v t) A d := by
  have hrow := h.mg.row
  rw [hb, ho] at hrow
  have hR4 := hF.row h.mg.far hrow
  have hP4 := hF.row (h.mg.own.neJ h.pr (by decide)) h.pr
  have hN4 := hF.row (h.mg.own.neJ h.nr (by decide)) h.nr
  have hs := h.bl.size
  refine ⟨⟨hR4.stored 0 v4, OwS.setCell hO (a := ⟨g, 0, none⟩) (hO.neJ hR4 (by decide)) v4, hP4.stored' (Row.neJ hP4 hR4 (by decide)) v4, hN4.stored' (Row.neJ hN4 hR4 (by decide)) v4, ?_, fun k hk => ?_, h.mg.lo, hg⟩, fun k hk => ?_, ?_⟩
  · exact ((Fs.of_below h.bl).trans hF fun k _ hk => .inr (.inl hk)).setCell (g := g) (fun _ => .inl rfl) 0 v4
  · exact (hN.own hk).imp id fun h2 => by omega
  · obtain ⟨h1, h2⟩ := h.mg.chk_far hk
    rw [Below.heap_setCell W4 ⟨g, 0, none⟩ v4 k h1]
    exact hF.block k (h.mg.chk.lt hk).2 h2
  · refine RdS.keep h.rd fun k hk => ?_
    have h1 : k ≠ g := fun e => hk.2 (.inl e)
    rw [Below.heap_setCell W4 ⟨g, 0, none⟩ v4 k h1]
    exact hF.block k (by omega) fun h2 => hk.2 (.inr (.inl h2))
/-- .. and behind a step on the checker. -/
theorem AM.fs' {S : Nat → Prop} (h : AM w base g v t v4 y fin op mask key A d c W) (hf : Fs S W W') (hS : ∀ k, S k → t = some k ∨ w.heap.size ≤ k) (hg : ¬ S g) (hv : ∀ k, ob v4 k → ¬ S k) (hp : ¬ S w.heap.size) (hn : ¬ S (w.heap.size + 1)) : AM w base g v t v4 y fin op mask key A d c W' :=
  ⟨hf.row hg h.row, hf.owns h.own hv, hf.row hp h.pr, hf.row hn h.nr, h.fs.trans hf fun k hk h1 => (hS k h1).elim (fun h2 => .inr (.inr h2)) fun h2 => by omega, h.nx, h.lo, h.gl⟩
theorem AM.below (h : AM w base g v t v4 y fin op mask key A d c W) (hb : Below W.heap.size W W') : AM w base g v t v4 y fin op mask key A d c W' :=
  ⟨h.row.upM hb, Bo.below h.own hb, h.pr.upM hb, h.nr.upM hb, h.fs.then_below hb, h.nx, h.lo, h.gl⟩
theorem AM.drewN (h : AM w base g v t v4 y fin op mask key A d c W) (n : Nat) : AM w base g v t v4 y fin op mask key A d c (W.drewN n) := ⟨h.row, OwS.keep h.own fun _ _ => rfl, h.pr, h.nr, h.fs.drewN n, h.nx, h.lo, h.gl⟩
theorem AM.drew (h : AM w base g v t v4 y fin op mask key A d c W) : AM w base g v t v4 y fin op mask key A d c W.drew := ⟨h.row, OwS.keep h.own fun _ _ => rfl, h.pr, h.nr, h.fs.drewN 1, h.nx, h.lo, h.gl⟩
end
set_option maxRecDepth 100000 in
set_option maxHeartbeats 4000000 in
theorem add_great {w : World} {base g : Nat} {v : Value} {t : Option Nat} {x : Gg} (h : Mg w base g v t x) {fin mask : Bool} {op key c : Nat} {A : Option Addr} {d : List UInt8} (hr : RdF w w.heap.size (mgS g v t) A d) (hl : d.length ≤ 1000000) (hgr : 4096 < (x.b ++ d).length) (text : Bool) :
    Calls Tryd.prog 34 #[.pointer (some ⟨g, 0, none⟩), .agg (pcC fin op mask key A d.length c)] w (TkP w base g v t (moreM text (x.b ++ d) fin)) := by
  rw [more_great hgr]
  have H1 := Lib.hid (AO.start h hr fin op mask key c)
  have hxl := h.len
  obtain ⟨n9, hn9⟩ : ∃ n9, n9 = x.b.length + d.length := ⟨_, rfl⟩
  rw [List.length_append, ← hn9] at hgr
  have hw : IntKind.i64.wrap ((x.b.length : Int) + (d.length : Int)) = (n9 : Int) := by rw [IntWalk.i64_in _ (by omega)]; omega
  have hd : decide ((4096 : Int) < (n9 : Int)) = true := decide_eq_true (by omega)
  have hd2 : decide (4096 < n9) = true := decide_eq_true hgr
  obtain ⟨Av, cv, rfl, _⟩ := h.form
  clear hn9 hgr hr
  go_enter Tryd.func34, Tryd.ntmps34
  go_upto_region 1 with fail
  rw [nt0_eq]
  have c0 := H1.out.mg.cells.1
  have c4 := (pc_cells H1.out.pr).2.2.2.2
  generalize (w.alloc (.cells (pcC fin op mask key A d.length c) 32)).alloc (.cells (ntc 0 false none 0 0 0) 34) = w1 at *
  go_quiet (fail)
  have H2 := Lib.hid (H1.out.drewN nq)
  clear H1 c0 c4 hw h
  generalize w1.drewN nq = w2 at *
  go_wp2_with fail
  refine (socket_any 1009 _).mono ?_
  rintro e w3 ⟨gf, rfl, hf, hb⟩
  have HR3 := Lib.hid (H2.out.nr.upM hb)
  have HF3 := Lib.hid hf
  have HB3 := Lib.hid (H2.out.bl.trans (hb.mono H2.out.bl.size))
  have HG3 := Lib.hid (H2.out.mg.row.upM hb)
  clear hb hf H2
  go_wp2_with (refine wpList_sw (cs := ntc 0 false none 0 0 0) rfl _ _ rfl rfl rfl HR3.out rfl (nt_ok _ _ _ _ _ _) ?_)
  refine bodyPost_ret (ret_agv (by rfl) _ rfl (HR3.out.setRow (ntc 0 false none 0 0 0)) (nt_ok _ _ _ _ _ _) rfl) rfl ?_
  refine ⟨(Fs.of_below HB3.out).setRow (fun h => by omega) _, .inr (.inl ⟨⟨5, false, 1009, []⟩, _, _, rfl, rfl, rfl, rfl, by decide, rfl, errM (by decide) (HF3.out.setRow' (Row.neJ HF3.out HR3.out (by decide)) _), HG3.out.setRow' (Row.neJ HG3.out HR3.out (by decide)) _, rfl⟩)⟩
theorem ChkM.text {w : World} {base : Nat} {t : Option Nat} {x : Gg} (h : ChkM w base t x) : x.text = t.isSome := by
  cases t with
  | none => exact h
  | some k => exact h.1
/-- The checker behind the bytes. -/
def ChkQ (_w W : World) (base g : Nat) (v4 : Value) (t : Option Nat) (y : List UInt8) (fin q : Bool) (r : Gg × Option Nt) : Prop :=
  (q = false ∧ r = badM 1007) ∨ (q = true ∧ ChkM W base t ⟨y, true, t.isSome, false⟩ ∧ (∀ k, t = some k → k ≠ g ∧ ¬ ob v4 k) ∧ fin = false ∧ r = (⟨y, true, t.isSome, false⟩, none)) ∨ (q = true ∧ fin = true ∧ r = (gg0, some ⟨1, t.isSome, 0, y⟩))
/-- The message goes on: what is handed back. -/
theorem AM.quiet {w W : World} {base g : Nat} {v v4 : Value} {t : Option Nat} {fin : Bool} {op : Nat} {mask : Bool} {key : Nat} {A : Option Addr} {d y : List UInt8} {c : Nat} (h : AM w base g v t v4 y fin op mask key A d c W) (hck : ChkM W base t ⟨y, true, t.isSome, false⟩) (_hk : ∀ k, t = some k → k ≠ g ∧ ¬ ob v4 k) (hy : y.length ≤ 4096) :
    TkP w base g v t (⟨y, true, t.isSome, false⟩, none) (.returned (.tuple #[.agg (ntc 0 false none 0 0 0), .nilIface])) (W.setRow (w.heap.size + 1) (ntc 0 false none 0 0 0)) := by
  have hm : Mg W base g v4 t ⟨y, true, t.isSome, false⟩ := ⟨h.row, h.own, hck, hy, h.lo, fun h => (by cases h), fun h => (by cases h)⟩
  have hodd := hm.odd h.nr (by decide) (by decide) (by decide)
  refine ⟨h.fs.setRow (fun h => by omega) _, .inl ⟨rfl, rfl, v4, t, hm.keep fun k hk => setRow_other _ _ _ _ (fun e => hodd (e ▸ hk)), fun k hk => ?_⟩⟩
  rcases hk with hk | hk | hk
  · exact .inl (.inl hk)
  · exact (h.nx k hk).imp (fun h => .inr (.inl h)) id
  · exact .inl (.inr (.inr hk))
/-- The message is whole: what is handed back. -/
theorem AM.done {w W : World} {base g : Nat} {v : Value} {t : Option Nat} {fin : Bool} {op : Nat} {mask : Bool} {key : Nat} {A A4 : Option Addr} {d y : List UInt8} {c c4 : Nat} (h : AM w base g v t (.slice A4 y.length c4) y fin op mask key A d c W) (_hy : y.length ≤ 4096)
    (hR : Row (W.setRow g (mgc (.slice none 0 0) false (.pointer none) false)) (w.heap.size + 1) 34 (ntc 0 false none 0 0 0)) :
    TkP w base g v t (gg0, some ⟨1, t.isSome, 0, y⟩) (.returned (.tuple #[.agg (ntc 1 t.isSome A4 y.length c4 0), .nilIface])) ((W.setRow g (mgc (.slice none 0 0) false (.pointer none) false)).setRow (w.heap.size + 1) (ntc 1 t.isSome A4 y.length c4 0)) := by
  have hg := h.row.setRow (mgc (.slice none 0 0) false (.pointer none) false)
  have hgn := Row.neJ hg hR (by decide)
  have hvg := Bo.neJ h.own h.row (by decide)
  have hvn := Bo.neJ h.own h.nr (by decide)
  refine ⟨(h.fs.setRow (fun _ => .inl rfl) _).setRow (fun h => by omega) _, .inr (.inr (.inr ⟨⟨1, t.isSome, 0, y⟩, A4, c4, .slice none 0 0, none, rfl, .inl rfl, rfl, OwS.setRow (OwS.setRow h.own hvg _) hvn _, fun k hk => (h.nx k hk).imp (fun h => .inr (.inl h)) id, Mg.made (hg.setRow' hgn _) (.inl rfl) h.lo, fun k hk => ?_, fun k hk hx => ?_⟩))⟩
  · rcases hk with hk | hk | hk
    · exact .inl (.inl hk)
    · cases hk
    · cases hk
  · rcases hx with rfl | hx | hx
    · exact hvg hk
    · cases hx
    · cases hx
set_option maxRecDepth 100000 in
set_option maxHeartbeats 8000000 in
theorem add_small {w : World} {base g : Nat} {v : Value} {t : Option Nat} {x : Gg} (h : Mg w base g v t x) (hbusy : x.busy = true) (hover : x.over = false) {fin mask : Bool} {op key c : Nat} {A : Option Addr} {d : List UInt8} (hr : RdF w w.heap.size (mgS g v t) A d) (hgr : (x.b ++ d).length ≤ 4096) :
    Calls Tryd.prog 34 #[.pointer (some ⟨g, 0, none⟩), .agg (pcC fin op mask key A d.length c)] w (TkP w base g v t (moreM x.text (x.b ++ d) fin)) := by
  have H1 := Lib.hid (AO.start h hr fin op mask key c)
  obtain ⟨i0, hi0, hz0, hz1, hz2⟩ := infoI infoI8
  have hgl := h.row.lt
  have hbase : base ≤ w.heap.size := Nat.le_trans h.lo.2 (Nat.le_of_lt hgl)
  obtain ⟨n9, hn9⟩ : ∃ n9, n9 = x.b.length + d.length := ⟨_, rfl⟩
  obtain ⟨y, hy⟩ : ∃ y, y = x.b ++ d := ⟨_, rfl⟩
  have hyl : y.length = n9 := by rw [hy, List.length_append, hn9]
  rw [List.length_append, ← hn9] at hgr
  have hw : IntKind.i64.wrap ((x.b.length : Int) + (d.length : Int)) = (n9 : Int) := by rw [IntWalk.i64_in _ (by omega)]; omega
  have hd : decide ((4096 : Int) < (n9 : Int)) = false := decide_eq_false (by omega)
  have hd2 : decide (4096 < n9) = false := decide_eq_false (by omega)
  have HSUM : Hid (x.b.length + d.length ≤ 1099511627776) := by show _ ≤ _; omega
  have HYL : Hid (y.length ≤ 4096) := by show _ ≤ _; omega
  have HDL : Hid (d.length ≤ 1000000) := by show _ ≤ _; omega
  have HXT := Lib.hid h.chk.text
  have HCHK := Lib.hid h.chk
  obtain ⟨Av, cv, rfl, _⟩ := h.form
  rw [← hy]
  have HY := Lib.hid hy
  have HBU := Lib.hid hbusy
  have HOV := Lib.hid hover
  have HGL := Lib.hid hgl
  have HBA := Lib.hid hbase
  clear hn9 hgr hr hy hyl hbusy hover h hgl hbase
  go_enter Tryd.func34, Tryd.ntmps34
  go_upto_region 1 with fail
  rw [nt0_eq]
  have c0 := H1.out.mg.cells.1
  have c4 := (pc_cells H1.out.pr).2.2.2.2
  generalize (w.alloc (.cells (pcC fin op mask key A d.length c) 32)).alloc (.cells (ntc 0 false none 0 0 0) 34) = w1 at *
  go_quiet (fail)
  have H2 := Lib.hid (H1.out.drewN nq)
  clear H1 c0 c4 hw
  generalize w1.drewN nq = w2 at *
  go_upto_region 3 with fail
  clear hd hd2
  have H3 := Lib.hid H2.out.drew
  have d0 : w2.drew.cell? ⟨g, 0, none⟩ = some (.slice Av x.b.length cv) := H3.out.mg.cells.1
  have d4 : w2.drew.cell? ⟨w.heap.size, 4, none⟩ = some (.slice A d.length c) := (pc_cells H3.out.pr).2.2.2.2
  clear H2
  refine wp_region_E 10 (fun W => W.cell? ⟨g, 0, none⟩ = some (.slice Av x.b.length cv) ∧ W.cell? ⟨w.heap.size, 4, none⟩ = some (.slice A d.length c)) (by kernel_rfl) ⟨d0, d4⟩ (fun hHeld => ?_)
  clear d0 d4
  generalize w2.drew = w3 at *
  refine wpAnyE_take (i := 0) (v := ?v0) rfl (by kernel_rfl) (by kernel_rfl) (by kernel_rfl) (by kernel_rfl) (fun _ _ _ h => h) (Or.inl ⟨by rfl, ?hy0⟩) (by assumption) ?rest0
  case hy0 => (intro w hSw; (try dsimp only at hSw); go_simp <;> with_reducible rfl)
  try simp only [Act.put, List.getElem_toArray, List.getElem_cons_zero, List.setIfInBounds_toArray, List.set_cons_zero, List.set_cons_succ]
  refine wpAnyE_take (i := 1) (v := ?v1) rfl (by kernel_rfl) (by kernel_rfl) (by kernel_rfl) (by kernel_rfl) (fun _ _ _ h => h) (Or.inl ⟨by rfl, ?hy1⟩) (by assumption) ?rest1
  case hy1 => (intro w hSw; (try dsimp only at hSw); go_simp <;> with_reducible rfl)
  try simp only [Act.put, List.getElem_toArray, List.getElem_cons_zero, List.getElem_cons_succ, List.setIfInBounds_toArray, List.set_cons_zero, List.set_cons_succ]
  refine wpAnyE_take (i := 2) (v := ?v2) rfl (by kernel_rfl) (by kernel_rfl) (by kernel_rfl) (by kernel_rfl) (fun _ _ _ h => h) (Or.inl ⟨by rfl, ?hy2⟩) (by assumption) ?rest2
  case hy2 => (intro w hSw; (try dsimp only at hSw); go_simp <;> with_reducible rfl)
  try simp only [Act.put, List.getElem_toArray, List.getElem_cons_zero, List.getElem_cons_succ, List.setIfInBounds_toArray, List.set_cons_zero, List.set_cons_succ]
  refine wpAnyE_take (i := 3) (v := ?v3) rfl (by kernel_rfl) (by kernel_rfl) (by kernel_rfl) (by kernel_rfl) (fun _ _ _ h => h) (Or.inl ⟨by rfl, ?hy3⟩) (by assumption) ?rest3
  case hy3 => (intro w hSw; (try dsimp only at hSw); go_simp <;> with_reducible rfl)
  try simp only [Act.put, List.getElem_toArray, List.getElem_cons_zero, List.getElem_cons_succ, List.setIfInBounds_toArray, List.set_cons_zero, List.set_cons_succ]
  refine wpAnyE_take (i := 4) (v := ?v4) rfl (by kernel_rfl) (by kernel_rfl) (by kernel_rfl) (by kernel_rfl) (fun _ _ _ h => h) (Or.inl ⟨by rfl, ?hy4⟩) (by assumption) ?rest4
  case hy4 => (intro w hSw; (try dsimp only at hSw); go_simp <;> with_reducible rfl)
  try simp only [Act.put, List.getElem_toArray, List.getElem_cons_zero, List.getElem_cons_succ, List.setIfInBounds_toArray, List.set_cons_zero, List.set_cons_succ]
  refine wpAnyE_take (i := 5) (v := ?v5) rfl (by kernel_rfl) (by kernel_rfl) (by kernel_rfl) (by kernel_rfl) (fun _ _ _ h => h) (Or.inl ⟨by rfl, ?hy5⟩) (by assumption) ?rest5
  case hy5 => (intro w hSw; (try dsimp only at hSw); go_simp <;> with_reducible rfl)
  try simp only [Act.put, List.getElem_toArray, List.getElem_cons_zero, List.getElem_cons_succ, List.setIfInBounds_toArray, List.set_cons_zero, List.set_cons_succ]
  refine wpAnyE_take (i := 6) (v := ?v6) rfl (by kernel_rfl) (by kernel_rfl) (by kernel_rfl) (by kernel_rfl) (fun _ _ _ h => h) (Or.inl ⟨by rfl, ?hy6⟩) (by assumption) ?rest6
  case hy6 => (intro w hSw; (try dsimp only at hSw); go_simp <;> with_reducible rfl)
  try simp only [Act.put, List.getElem_toArray, List.getElem_cons_zero, List.getElem_cons_succ, List.setIfInBounds_toArray, List.set_cons_zero, List.set_cons_succ]
  refine wpAnyE_next (i := 7) (by kernel_rfl) rfl (fun K hK => ?_)
  refine step_appBo rfl (.tmp 24) (.tmp 26) 30 rfl base 5 i0 Tryd.underlying30 hi0 hz0 hz1 hz2 (.slice Av x.b.length cv) x.b rfl H3.out.mg.own w.heap.size A d d.length c rfl rfl H3.out.rd.toB HSUM.out (Nat.le_trans HBA.out H3.out.bl.size) (fun v4 w4 hO4 hF4 hN4 => ?_)
  rw [← HY.out] at hO4
  obtain ⟨ha1, ha2, ha3⟩ := H3.out.app HGL.out HBU.out HOV.out hO4 hF4 hN4
  have hrow := H3.out.mg.row
  have hR4 := hF4.row H3.out.mg.far hrow
  have hP4 := hF4.row (H3.out.mg.own.neJ H3.out.pr (by decide)) H3.out.pr
  have e0 : w4.cell? ⟨g, 0, none⟩ = some (.slice Av x.b.length cv) := hR4.cell rfl
  have e4 : w4.cell? ⟨w.heap.size, 4, none⟩ = some (.slice A d.length c) := (pc_cells hP4).2.2.2.2
  have ht := hR4.thawed 0
  have HM := Lib.hid ha1
  have HK := Lib.hid ha2
  have HD := Lib.hid ha3
  have HC3 := Lib.hid H3.out.mg.chk
  have HX3 := Lib.hid (fun k hk => H3.out.mg.chk_far (k := k) hk)
  have HL3 := Lib.hid (fun k hk => (H3.out.mg.chk.lt (k := k) hk).2)
  have HN3 := Lib.hid hN4
  obtain ⟨A4, c4, rfl, _⟩ := hO4.shape
  clear hO4 hF4 hN4 hR4 hP4 hrow ha1 ha2 ha3
  refine hK.out _ _ ⟨e0, e4⟩ (fun hHeld => ?_)
  clear hK K e4
  try simp only [Act.put, List.getElem_toArray, List.getElem_cons_zero, List.getElem_cons_succ, List.setIfInBounds_toArray, List.set_cons_zero, List.set_cons_succ]
  refine wpAnyE_take (i := 8) (v := ?v8q2) rfl (by kernel_rfl) (by kernel_rfl) (by kernel_rfl) (by kernel_rfl) (fun _ _ _ h => h) (Or.inl ⟨by rfl, ?hy8q2⟩) (by assumption) ?rest8q2
  case hy8q2 => (intro w hSw; (try dsimp only at hSw); go_simp <;> with_reducible rfl)
  try simp only [Act.put, List.getElem_toArray, List.getElem_cons_zero, List.getElem_cons_succ, List.setIfInBounds_toArray, List.set_cons_zero, List.set_cons_succ]
  refine wpAnyE_take (i := 9) (v := ?v9q2) rfl (by kernel_rfl) (by kernel_rfl) (by kernel_rfl) (by kernel_rfl) (fun _ _ _ h => h) (Or.inl ⟨by rfl, ?hy9q2⟩) (by assumption) ?rest9q2
  case hy9q2 => (intro w hSw; (try dsimp only at hSw); go_simp <;> with_reducible rfl)
  try simp only [Act.put, List.getElem_toArray, List.getElem_cons_zero, List.getElem_cons_succ, List.setIfInBounds_toArray, List.set_cons_zero, List.set_cons_succ]
  refine wpAnyE_last (by kernel_rfl) rfl (by kernel_rfl) (fun K hK => ?_)
  go_simp
  refine hK.out _ _ ?_
  clear hK K
  try simp only [Act.put, List.getElem_toArray, List.getElem_cons_zero, List.getElem_cons_succ, List.setIfInBounds_toArray, List.set_cons_zero, List.set_cons_succ]
  clear e0 ht hi0 hz0 hz1 hz2
  generalize w4.setCell ⟨g, 0, none⟩ (.slice A4 y.length c4) = w5 at *
  have c2 : w5.cell? ⟨g, 2, none⟩ = some (tpM t) := HM.out.row.cell rfl
  have HC5 : Hid (ChkM w5 base t x) := HC3.out.keep HK.out
  have HX5 : Hid (∀ k, t = some k → k ≠ g ∧ ¬ ob (.slice A4 y.length c4) k ∧ k ≠ w.heap.size ∧ k ≠ w.heap.size + 1) := fun k hk => by
    obtain ⟨h1, h2⟩ := HX3.out k hk
    have hc := HC5.out
    have h3 : ¬ ob (.slice A4 y.length c4) k := fun h => (HN3.out.own h).elim h2 fun h4 => by have := HL3.out k hk; omega
    subst hk
    obtain ⟨_, _, s, hc, _⟩ := hc
    obtain ⟨cs, hc⟩ := hc.row
    exact ⟨h1, h3, Row.neJ hc HM.out.pr (by decide), Row.neJ hc HM.out.nr (by decide)⟩
  clear HC3 HX3 HL3 HN3 HK H3
  go_upto_region 4 with fail
  go_cut [6] (fun u wx => u = .bool t.isSome ∧ Hid (wx = w5))
  case first =>
    cases t with
    | none =>
      have c2' : w5.cell? ⟨g, 2, none⟩ = some (.pointer none) := c2
      clear c2
      go_wp2_with fail
      go_meet
      exact ⟨rfl, rfl⟩
    | some kt =>
      have c2' : w5.cell? ⟨g, 2, none⟩ = some (.pointer (some ⟨kt, 0, none⟩)) := c2
      clear c2
      go_wp2_with fail
      go_meet
      exact ⟨rfl, rfl⟩
  case rest =>
    obtain ⟨rfl, hwx⟩ := hcut
    have hwx : wc = w5 := hwx.out
    subst hwx
    go_upto_region 5 with fail
    go_cut [44] (fun u wx => ∃ q, u = .bool (!q) ∧ Hid (AM w base g (.slice Av x.b.length cv) t (.slice A4 y.length c4) y fin op mask key A d c wx) ∧ Hid (ChkQ w wx base g (.slice A4 y.length c4) t y fin q (moreM x.text y fin)))
    case first =>
      cases t with
      | none =>
        have HQ : Hid (∀ W, ChkQ w W base g (.slice A4 y.length c4) none y fin true (moreM x.text y fin)) := fun W => by
          have hx : x.text = false := HXT.out
          rw [hx, more_plain HYL.out]
          cases fin
          · exact .inr (.inl ⟨rfl, rfl, fun k hk => (by cases hk), rfl, rfl⟩)
          · exact .inr (.inr ⟨rfl, rfl, rfl⟩)
        clear c2 HC5 HX5 HD HCHK HXT
        refine wp_region_held_drew (S := fun _ => True) (by kernel_rfl) trivial (fun hHeld => ?_)
        refine wpAnyH_take (i := 0) (v := ?v0q3) rfl (by kernel_rfl) (by kernel_rfl) (by kernel_rfl) (fun _ _ _ h => h) (Or.inl ⟨by rfl, ?hy0q3⟩) (by assumption) ?rest0q3
        case hy0q3 => (intro w hSw; (try dsimp only at hSw); go_simp <;> with_reducible rfl)
        try simp only [Act.put, List.getElem_toArray, List.getElem_cons_zero, List.setIfInBounds_toArray, List.set_cons_zero, List.set_cons_succ]
        refine wpAnyH_take (i := 1) (v := ?v1q3) rfl (by kernel_rfl) (by kernel_rfl) (by kernel_rfl) (fun _ _ _ h => h) (Or.inl ⟨by rfl, ?hy1q3⟩) (by assumption) ?rest1q3
        case hy1q3 => (intro w hSw; (try dsimp only at hSw); go_simp <;> with_reducible rfl)
        try simp only [Act.put, List.getElem_toArray, List.getElem_cons_zero, List.getElem_cons_succ, List.setIfInBounds_toArray, List.set_cons_zero, List.set_cons_succ]
        refine wpAnyH_take (i := 2) (v := undef) rfl (by kernel_rfl) (by kernel_rfl) (by kernel_rfl) (fun _ _ _ h => h) (Or.inr ⟨by rfl, rfl⟩) (by assumption) ?rest2q3
        try simp only [Act.put, List.getElem_toArray, List.getElem_cons_zero, List.getElem_cons_succ, List.setIfInBounds_toArray, List.set_cons_zero, List.set_cons_succ]
        refine wpAnyH_take (i := 3) (v := undef) rfl (by kernel_rfl) (by kernel_rfl) (by kernel_rfl) (fun _ _ _ h => h) (Or.inr ⟨by rfl, rfl⟩) (by assumption) ?rest3q3
        try simp only [Act.put, List.getElem_toArray, List.getElem_cons_zero, List.getElem_cons_succ, List.setIfInBounds_toArray, List.set_cons_zero, List.set_cons_succ]
        refine wpAnyH_take (i := 4) (v := undef) rfl (by kernel_rfl) (by kernel_rfl) (by kernel_rfl) (fun _ _ _ h => h) (Or.inr ⟨by rfl, rfl⟩) (by assumption) ?rest4q3
        try simp only [Act.put, List.getElem_toArray, List.getElem_cons_zero, List.getElem_cons_succ, List.setIfInBounds_toArray, List.set_cons_zero, List.set_cons_succ]
        refine wpAnyH_take (i := 5) (v := undef) rfl (by kernel_rfl) (by kernel_rfl) (by kernel_rfl) (fun _ _ _ h => h) (Or.inr ⟨by rfl, rfl⟩) (by assumption) ?rest5q3
        try simp only [Act.put, List.getElem_toArray, List.getElem_cons_zero, List.getElem_cons_succ, List.setIfInBounds_toArray, List.set_cons_zero, List.set_cons_succ]
        refine wpAnyH_take (i := 6) (v := undef) rfl (by kernel_rfl) (by kernel_rfl) (by kernel_rfl) (fun _ _ _ h => h) (Or.inr ⟨by rfl, rfl⟩) (by assumption) ?rest6q3
        try simp only [Act.put, List.getElem_toArray, List.getElem_cons_zero, List.getElem_cons_succ, List.setIfInBounds_toArray, List.set_cons_zero, List.set_cons_succ]
        refine wpAnyH_take (i := 7) (v := undef) rfl (by kernel_rfl) (by kernel_rfl) (by kernel_rfl) (fun _ _ _ h => h) (Or.inr ⟨by rfl, rfl⟩) (by assumption) ?rest7q3
        try simp only [Act.put, List.getElem_toArray, List.getElem_cons_zero, List.getElem_cons_succ, List.setIfInBounds_toArray, List.set_cons_zero, List.set_cons_succ]
        refine wpAnyH_take (i := 8) (v := undef) rfl (by kernel_rfl) (by kernel_rfl) (by kernel_rfl) (fun _ _ _ h => h) (Or.inr ⟨by rfl, rfl⟩) (by assumption) ?rest8q3
        try simp only [Act.put, List.getElem_toArray, List.getElem_cons_zero, List.getElem_cons_succ, List.setIfInBounds_toArray, List.set_cons_zero, List.set_cons_succ]
        refine wpAnyH_take (i := 9) (v := ?v9q3) rfl (by kernel_rfl) (by kernel_rfl) (by kernel_rfl) (fun _ _ _ h => h) (Or.inl ⟨by rfl, ?hy9q3⟩) (by assumption) ?rest9q3
        case hy9q3 => (intro w hSw; (try dsimp only at hSw); go_simp <;> with_reducible rfl)
        try simp only [Act.put, List.getElem_toArray, List.getElem_cons_zero, List.getElem_cons_succ, List.setIfInBounds_toArray, List.set_cons_zero, List.set_cons_succ]
        refine wpAnyH_done (by kernel_rfl) ?_ _
        go_wp2_with fail
        go_meet
        exact ⟨true, rfl, HM.out.drew, HQ.out _⟩
      | some kt =>
        obtain ⟨hxt, _, s, hck, hs⟩ := HC5.out
        obtain ⟨k1, k2, k3, k4⟩ := HX5.out kt rfl
        have hck' : Ck wc.drew kt (some s) := hck.keep rfl
        have hrd := reads_any (fin := fin) (op := op) (mask := mask) (key := key) (c := c) hck' ((HD.out : RdF wc.drew w.heap.size (mgS g (.slice Av x.b.length cv) (some kt)) A d).toN (.inr (.inr rfl))) HDL.out
        have HM6 := Lib.hid HM.out.drew
        have c2' : wc.drew.cell? ⟨g, 2, none⟩ = some (.pointer (some ⟨kt, 0, none⟩)) := c2
        have HQ : Hid (∀ W, Ck W kt (goN s (nats d)).2 → ChkQ w W base g (.slice A4 y.length c4) (some kt) y fin (okR fin (goN s (nats d)).2) (moreM x.text y fin)) := fun W hW => by
          have hm := more_text (fin := fin) hs (d := d) (by rw [← HY.out]; exact HYL.out)
          rw [← HY.out] at hm
          rw [hxt, hm]
          cases hq : okR fin (goN s (nats d)).2
          · exact .inl ⟨rfl, if_pos rfl⟩
          · cases fin
            · refine .inr (.inl ⟨rfl, ?_, fun k hk => by injection hk with hk; subst hk; exact ⟨k1, k2⟩, rfl, rfl⟩)
              cases ho : (goN s (nats d)).2 with
              | none => rw [ho] at hq; cases hq
              | some u =>
                rw [ho] at hW
                refine ⟨rfl, (HCHK.out.lt (k := kt) rfl).1, u, hW, ?_⟩
                have hn : nats y = nats x.b ++ nats d := by rw [HY.out]; simp [nats]
                rw [hn, go_app _ _ _ s hs]
                exact ho
            · exact .inr (.inr ⟨rfl, rfl, rfl⟩)
        have HKF : Hid (∀ W', Fs (fun j => j = kt) wc.drew W' → AM w base g (.slice Av x.b.length cv) (some kt) (.slice A4 y.length c4) y fin op mask key A d c W') := fun W' hf => HM6.out.fs' hf (fun k hk => .inl (by rw [hk])) (fun h => k1 h.symm) (fun k hk h => k2 (h ▸ hk)) (fun h => k3 h.symm) (fun h => k4 h.symm)
        clear c2 HC5 HX5 HD HCHK HXT hxt hck hs k1 k2 k3 k4 hck' HM HY HYL
        generalize okR fin (goN s (nats d)).2 = q at *
        generalize (goN s (nats d)).2 = ov at *
        have hp6 := HM6.out.pr
        refine wp_region_held_drew (S := fun W => W.cell? ⟨g, 2, none⟩ = some (.pointer (some ⟨kt, 0, none⟩)) ∧ Row W w.heap.size 32 (pcC fin op mask key A d.length c)) (by kernel_rfl) ⟨c2', hp6⟩ (fun hHeld => ?_)
        clear c2' hp6 HM6
        generalize wc.drew = w6 at *
        refine wpAnyH_take (i := 0) (v := ?v0q4) rfl (by kernel_rfl) (by kernel_rfl) (by kernel_rfl) (fun _ _ _ h => h) (Or.inl ⟨by rfl, ?hy0q4⟩) (by assumption) ?rest0q4
        case hy0q4 => (intro w hSw; (try dsimp only at hSw); go_simp <;> with_reducible rfl)
        try simp only [Act.put, List.getElem_toArray, List.getElem_cons_zero, List.setIfInBounds_toArray, List.set_cons_zero, List.set_cons_succ]
        refine wpAnyH_take (i := 1) (v := ?v1q4) rfl (by kernel_rfl) (by kernel_rfl) (by kernel_rfl) (fun _ _ _ h => h) (Or.inl ⟨by rfl, ?hy1q4⟩) (by assumption) ?rest1q4
        case hy1q4 => (intro w hSw; (try dsimp only at hSw); go_simp <;> with_reducible rfl)
        try simp only [Act.put, List.getElem_toArray, List.getElem_cons_zero, List.getElem_cons_succ, List.setIfInBounds_toArray, List.set_cons_zero, List.set_cons_succ]
        refine wpAnyH_take (i := 2) (v := ?v2q4) rfl (by kernel_rfl) (by kernel_rfl) (by kernel_rfl) (fun _ _ _ h => h) (Or.inl ⟨by rfl, ?hy2q4⟩) (by assumption) ?rest2q4
        case hy2q4 => (intro w hSw; (try dsimp only at hSw); go_simp <;> with_reducible rfl)
        try simp only [Act.put, List.getElem_toArray, List.getElem_cons_zero, List.getElem_cons_succ, List.setIfInBounds_toArray, List.set_cons_zero, List.set_cons_succ]
        refine wpAnyH_take (i := 3) (v := ?v3q4) rfl (by kernel_rfl) (by kernel_rfl) (by kernel_rfl) (fun _ _ _ h => h) (Or.inl ⟨by rfl, ?hy3q4⟩) (by assumption) ?rest3q4
        case hy3q4 => (intro w hSw; (try dsimp only at hSw); go_simp <;> with_reducible rfl)
        try simp only [Act.put, List.getElem_toArray, List.getElem_cons_zero, List.getElem_cons_succ, List.setIfInBounds_toArray, List.set_cons_zero, List.set_cons_succ]
        refine wpAnyH_take (i := 4) (v := ?v4q4) rfl (by kernel_rfl) (by kernel_rfl) (by kernel_rfl) (fun _ _ _ h => h) (Or.inl ⟨by rfl, ?hy4q4⟩) (by assumption) ?rest4q4
        case hy4q4 => (intro w hSw; (try dsimp only at hSw); go_simp <;> with_reducible rfl)
        try simp only [Act.put, List.getElem_toArray, List.getElem_cons_zero, List.getElem_cons_succ, List.setIfInBounds_toArray, List.set_cons_zero, List.set_cons_succ]
        refine wpAnyH_take (i := 5) (v := ?v5q4) rfl (by kernel_rfl) (by kernel_rfl) (by kernel_rfl) (fun _ _ _ h => h) (Or.inl ⟨by rfl, ?hy5q4⟩) (by assumption) ?rest5q4
        case hy5q4 => (intro w hSw; (try dsimp only at hSw); go_simp <;> with_reducible rfl)
        try simp only [Act.put, List.getElem_toArray, List.getElem_cons_zero, List.getElem_cons_succ, List.setIfInBounds_toArray, List.set_cons_zero, List.set_cons_succ]
        refine wpAnyH_take (i := 6) (v := _) rfl (by kernel_rfl) (by kernel_rfl) (by kernel_rfl) (fun _ _ _ h => h) (yields_ld (by rfl) _ rfl rfl (pc_ok _ _ _ _ _ _ _) (fun _ hSw => hSw.2)) (by assumption) ?rest6w1
        try simp only [Act.put, List.getElem_toArray, List.getElem_cons_zero, List.getElem_cons_succ, List.setIfInBounds_toArray, List.set_cons_zero, List.set_cons_succ]
        refine wpAnyH_ready (rs := [7]) (by kernel_rfl) (by simp) ?_
        refine AllReadyH.cons rfl (fun K hK => ?_) AllReadyH.nil
        go_simp
        go_at_call 41
        refine hrd.mono ?_
        rintro e w7 ⟨rfl, hck7, hf7⟩
        have HM7 := Lib.hid (HKF.out _ hf7)
        have HQ7 := Lib.hid (HQ.out _ hck7)
        clear hck7 hf7 HKF HQ hrd
        refine hK.out _ _ ⟨HM7.out.row.cell rfl, HM7.out.pr⟩ (fun hHeld => ?_)
        clear hK K
        try simp only [Act.put, List.getElem_toArray, List.getElem_cons_zero, List.getElem_cons_succ, List.setIfInBounds_toArray, List.set_cons_zero, List.set_cons_succ]
        refine wpAnyH_take (i := 8) (v := ?v8q5) rfl (by kernel_rfl) (by kernel_rfl) (by kernel_rfl) (fun _ _ _ h => h) (Or.inl ⟨by rfl, ?hy8q5⟩) (by assumption) ?rest8q5
        case hy8q5 => (intro w hSw; (try dsimp only at hSw); go_simp <;> with_reducible rfl)
        try simp only [Act.put, List.getElem_toArray, List.getElem_cons_zero, List.getElem_cons_succ, List.setIfInBounds_toArray, List.set_cons_zero, List.set_cons_succ]
        refine wpAnyH_take (i := 9) (v := ?v9q5) rfl (by kernel_rfl) (by kernel_rfl) (by kernel_rfl) (fun _ _ _ h => h) (Or.inl ⟨by rfl, ?hy9q5⟩) (by assumption) ?rest9q5
        case hy9q5 => (intro w hSw; (try dsimp only at hSw); go_simp <;> with_reducible rfl)
        try simp only [Act.put, List.getElem_toArray, List.getElem_cons_zero, List.getElem_cons_succ, List.setIfInBounds_toArray, List.set_cons_zero, List.set_cons_succ]
        refine wpAnyH_done (by kernel_rfl) ?_ _
        go_wp2_with fail
        go_meet
        exact ⟨q, rfl, HM7, HQ7⟩
    case rest =>
      obtain ⟨q, rfl, HM6, HQ⟩ := hcut
      clear c2 HC5 HX5 HD HCHK HXT HM HDL HSUM HBU HOV HBA HY
      generalize moreM x.text y fin = r at *
      rcases HQ.out with ⟨rfl, rfl⟩ | ⟨rfl, hck, hkf, rfl, rfl⟩ | ⟨rfl, rfl, rfl⟩
      · clear HQ HYL
        go_wp2_with fail
        refine (socket_any 1007 _).mono ?_
        rintro e w7 ⟨gf, rfl, hf, hb⟩
        have HM7 := Lib.hid (HM6.out.below hb)
        have HF7 := Lib.hid hf
        clear hb hf HM6
        go_wp2_with (refine wpList_sw (cs := ntc 0 false none 0 0 0) rfl _ _ rfl rfl rfl HM7.out.nr rfl (nt_ok _ _ _ _ _ _) ?_)
        refine bodyPost_ret (ret_agv (by rfl) _ rfl (HM7.out.nr.setRow (ntc 0 false none 0 0 0)) (nt_ok _ _ _ _ _ _) rfl) rfl ?_
        refine ⟨HM7.out.fs.setRow (fun h => by omega) _, .inr (.inl ⟨⟨5, false, 1007, []⟩, _, _, rfl, rfl, rfl, rfl, by decide, rfl, errM (by decide) (HF7.out.setRow' (Row.neJ HF7.out HM7.out.nr (by decide)) _), HM7.out.row.setRow' (Row.neJ HM7.out.row HM7.out.nr (by decide)) _, rfl⟩)⟩
      · have HCK := Lib.hid hck
        have HKF := Lib.hid hkf
        clear HQ hck hkf
        have c0 := (pc_cells HM6.out.pr).1
        go_wp2_with (refine wpList_sw (cs := ntc 0 false none 0 0 0) rfl _ _ rfl rfl rfl HM6.out.nr rfl (nt_ok _ _ _ _ _ _) ?_)
        refine bodyPost_ret (ret_agv (by rfl) _ rfl (HM6.out.nr.setRow (ntc 0 false none 0 0 0)) (nt_ok _ _ _ _ _ _) rfl) rfl ?_
        exact HM6.out.quiet HCK.out HKF.out HYL.out
      · clear HQ
        have c0 := (pc_cells HM6.out.pr).1
        have HN7 : Hid (Row (wc.alloc (.cells (ntc 0 false none 0 0 0) 34)) wc.heap.size 34 (ntc 0 false none 0 0 0)) := Row.new _ _ _
        have h7 : wc.cell? ⟨g, 0, none⟩ = some (.slice A4 y.length c4) := HM6.out.row.cell rfl
        have hb8 : Below wc.heap.size wc ((wc.alloc (.cells (ntc 0 false none 0 0 0) 34)).setRow wc.heap.size (ntc 1 t.isSome A4 y.length c4 0)) := below_setRow ((Below.refl _ _).alloc (Nat.le_refl _) _) _ _ (Nat.le_refl _)
        have HM8 := Lib.hid (HM6.out.below hb8)
        have HN8 := Lib.hid (HN7.out.setRow (ntc 1 t.isSome A4 y.length c4 0))
        have HPL : Hid (w.heap.size + 1 < wc.heap.size) := HM6.out.nr.lt
        clear hb8 HM6
        go_upto_region 10 with (refine wpList_sw (cs := ntc 1 t.isSome A4 y.length c4 0) rfl _ _ rfl rfl rfl HN7.out rfl (nt_ok _ _ _ _ _ _) ?_)
        rw [nt0_eq]
        clear HN7 h7 c0
        generalize (wc.alloc (.cells (ntc 0 false none 0 0 0) 34)).setRow wc.heap.size (ntc 1 t.isSome A4 y.length c4 0) = w8 at *
        generalize wc.heap.size = p7 at *
        go_upto_region 11 with (refine wpList_sw (cs := mgc (.slice none 0 0) false (.pointer none) false) rfl _ _ rfl rfl rfl HM8.out.row rfl (mg_nil false) ?_)
        have HD9 := Lib.hid (HM8.out.done HYL.out)
        have HN9 := Lib.hid (HN8.out.setRow' (Row.neJ HN8.out HM8.out.row (by decide)) (mgc (.slice none 0 0) false (.pointer none) false))
        have HR9 := Lib.hid (HM8.out.nr.setRow' (Row.neJ HM8.out.nr HM8.out.row (by decide)) (mgc (.slice none 0 0) false (.pointer none) false))
        clear HM8 HN8
        generalize w8.setRow g (mgc (.slice none 0 0) false (.pointer none) false) = w9 at *
        go_wp2_with (first
          | (refine wpList_ld (cs := ntc 1 t.isSome A4 y.length c4 0) rfl _ rfl rfl HN9.out (nt_ok _ _ _ _ _ _) ?_)
          | (refine wpList_sw (cs := ntc 1 t.isSome A4 y.length c4 0) rfl _ _ rfl rfl rfl HR9.out rfl (nt_ok _ _ _ _ _ _) ?_))
        refine bodyPost_ret (ret_agv (by rfl) _ rfl (HR9.out.setRow (ntc 1 t.isSome A4 y.length c4 0)) (nt_ok _ _ _ _ _ _) rfl) rfl ?_
        exact HD9.out HR9.out
theorem add_any {w : World} {base g : Nat} {v : Value} {t : Option Nat} {x : Gg} (h : Mg w base g v t x) (hbusy : x.busy = true) (hover : x.over = false) {fin mask : Bool} {op key c : Nat} {A : Option Addr} {d : List UInt8} (hr : RdF w w.heap.size (mgS g v t) A d) (hl : d.length ≤ 1000000) :
    Calls Tryd.prog 34 #[.pointer (some ⟨g, 0, none⟩), .agg (pcC fin op mask key A d.length c)] w (TkP w base g v t (moreM x.text (x.b ++ d) fin)) := by
  rcases Nat.lt_or_ge 4096 (x.b ++ d).length with h1 | h1
  · exact add_great h hr hl h1 x.text
  · exact add_small h hbusy hover hr h1
end Go.Proofs.YtdegpchofhnipaaDoor
