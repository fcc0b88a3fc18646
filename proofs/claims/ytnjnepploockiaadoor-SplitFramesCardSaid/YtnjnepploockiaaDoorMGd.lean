/-
  The document's All, by its contract: all frames of bytes. Conditions: at most a million bytes.
  Frames that were told, as a slice in memory: its elements, what they read, an append of one. No conditions but those that each theorem names.
  The law's same, of two lists of frames that tell the same. Conditions: both are read where the call doesn't write.
-/
import Derived.Test.YtnjnepploockiaaDoorMGc
import Derived.Test.YtnjnepploockiaaDoorRgt
import Derived.Test.YtnjnepploockiaaDoorRsm
import Derived.Deep.RegionHeld3

namespace Go.Proofs.YtnjnepploockiaaDoor
open Go.RowKit Go.WideShapes

/-- A frame that was told, its fault's scope and code, and where its slices lie. -/
structure El where
  F : Frm
  s : Nat
  c : Nat
  dA : Option Addr
  dc : Nat
  sA : Option Addr
  sc : Nat
def El.fm (e : El) : Fm := e.F.fm e.dA e.dc e.sA e.sc
def El.rd (e : El) : Rd := (e.F, e.s, e.c)
def elc (e : El) : List Value := (fxc e.fm e.s e.c).toList
theorem elc_len (e : El) : (elc e).length = 13 := by unfold elc fxc; rfl
theorem elc_one (e : El) : ∀ u ∈ elc e, u.oneCell' = true := by
  intro u hu
  have h := fxc_one e.fm e.s e.c
  rw [Array.all_eq_true_iff_forall_mem] at h
  exact h u (by simpa [elc] using hu)
/-- Its slices are read, in these blocks. -/
def ElIn (w : World) (R : Nat → Prop) (e : El) : Prop := RdS w R e.dA (byc e.F.dat) ∧ RdS w R e.sA (enl sgc e.F.sets)
theorem ElIn.keep {w w' : World} {R : Nat → Prop} {e : El} (h : ElIn w R e) (hk : ∀ g, R g → w'.heap[g]? = w.heap[g]?) : ElIn w' R e := ⟨h.1.keep hk, h.2.keep hk⟩
theorem ElIn.imp {w : World} {R R' : Nat → Prop} {e : El} (h : ElIn w R e) (hk : ∀ g, R g → g < w.heap.size → R' g) : ElIn w R' e := ⟨h.1.imp hk, h.2.imp hk⟩
/-- The slice v has these elements; it is the call's own, and shares no block with what they read nor with X. -/
structure FL (w : World) (base : Nat) (X : Nat → Prop) (v : Value) (L : List El) : Prop where
  own : OwS w base 47 13 v L.length (enl elc L)
  ins : ∀ e ∈ L, ElIn w (fun k => k < w.heap.size ∧ ¬ ob v k ∧ ¬ X k) e
  far : ∀ k, ob v k → ¬ X k
section
variable {w w' : World} {base : Nat} {X : Nat → Prop} {v : Value} {L : List El}
theorem FL.fs (h : FL w base X v L) (hf : Fs X w w') : FL w' base X v L :=
  ⟨hf.owns h.own h.far, fun e he => ((h.ins e he).keep fun g hg => hf.block g hg.1 hg.2.2).imp fun _ hg hl => ⟨hl, hg.2⟩, h.far⟩
theorem FL.below (h : FL w base X v L) (hb : Below w.heap.size w w') : FL w' base X v L := h.fs (Fs.of_below hb)
theorem FL.drewN (h : FL w base X v L) (n : Nat) : FL (w.drewN n) base X v L := h.fs ((Fs.refl X w).drewN n)
theorem FL.made (w : World) (X : Nat → Prop) (hb : base ≤ w.heap.size) (hX : ∀ k, X k → k < w.heap.size) : FL (w.alloc (.cells #[] 47)) base X (.slice (some ⟨w.heap.size, 0, none⟩) 0 0) [] :=
  ⟨OwS.lit w 47 13 0 #[] (by simp) (by simp [maxLen]) hb, fun e he => (by cases he), fun k hk hx => by
    have : w.heap.size = k := by simpa [ob, Value.ownBlock] using hk
    have := hX k hx
    omega⟩
/-- The slice read: each element below the world's size. -/
theorem FL.reads {A : Option Addr} {n c : Nat} (h : FL w base X (.slice A n c) L) : RdS w (· < w.heap.size) A (enl elc L) ∧ ∀ e ∈ L, ElIn w (· < w.heap.size) e :=
  ⟨(OwS.up h.own).imp fun _ hg _ => hg.2, fun e he => (h.ins e he).imp fun _ hg _ => hg.1⟩
end
theorem f7_info : (Tryd.prog.info? 47).map (fun i => (i.zero, i.size, i.bytes)) = some (some (.agg #[.int .u8 0, .int .u8 0, .int .u32 0, .slice none 0 0, .int .i64 0, .int .u32 0, .int .u32 0, .int .u8 0, .bool false, .int .u32 0, .slice none 0 0, .int .u8 0, .int .u32 0]), 13, 88) := by kernel_rfl
theorem built73 (x : Fm) (s c : Nat) : Tryd.prog.built 47 [(0, .agg x.c), (1, .int .u8 s), (2, .int .u32 c)] = some (fxc x s c) := by unfold Fm.c fxc; kernel_rfl
theorem wpList_b73 {ops : Array Oper} {rest : List Oper} {o : Oper} {a : Act} {w : World} {Q : Exit → Act → World → Prop} (hg : o.guard = none) (p q r : Operand) (ho : o.op = .build 47 #[(0, p), (1, q), (2, r)]) {x : Fm} {s c : Nat} (hp : a.eval p = .agg x.c) (hq : a.eval q = .int .u8 s) (hr : a.eval r = .int .u32 c)
    (h : wpList Tryd.prog ops Q rest (a.put o.dst (.agg (fxc x s c))) w) : wpList Tryd.prog ops Q (o :: rest) a w :=
  wpList_build_is hg 47 _ ho (fxc x s c) (by simp only [List.map_toArray, List.map_cons, List.map_nil, hp, hq, hr]; exact built73 x s c) h
theorem run_bs7 (x : Fm) (s c : Nat) (w : World) : (Instr.buildSlice 26 1 #[(0, .agg (fxc x s c))]).run Tryd.prog w = .ok (.slice (some ⟨w.heap.size, 0, none⟩) 1 1) (w.alloc (.cells (fxc x s c) 47)) := by unfold fxc; kernel_rfl
theorem wpList_bs7 {ops : Array Oper} {rest : List Oper} {o : Oper} {a : Act} {w : World} {Q : Exit → Act → World → Prop} (hg : o.guard = none) (y : Operand) (ho : o.op = .buildSlice 26 1 #[(0, y)]) {x : Fm} {s c : Nat} (hy : a.eval y = .agg (fxc x s c))
    (h : wpList Tryd.prog ops Q rest (a.put o.dst (.slice (some ⟨w.heap.size, 0, none⟩) 1 1)) (w.alloc (.cells (fxc x s c) 47))) : wpList Tryd.prog ops Q (o :: rest) a w := by
  refine wpList_plain hg fun K' hK' => ?_
  unfold Oper.wp execOp
  simp only [ho, Sem.run_bind, List.map_toArray, List.map_cons, List.map_nil, hy, run_bs7, Result.andThen_ok]
  exact hK' _ _ h
/-- An append of one element that was just laid in a block of its own (q, the newest). -/
theorem wpList_app7 {ops : Array Oper} {rest : List Oper} {o : Oper} {a : Act} {w : World} {Q : Exit → Act → World → Prop} (hgd : o.guard = none) (s x : Operand) (ho : o.op = .call { callee := .builtin .append, args := #[s, x], argTypes := #[26, 26] })
    {base : Nat} {X : Nat → Prop} {v : Value} {L : List El} (hs : a.eval s = v) (h : FL w base X v L) (e : El) (q : Nat) (hx : a.eval x = .slice (some ⟨q, 0, none⟩) 1 1) (hq : Row w q 47 (fxc e.fm e.s e.c))
    (he : ElIn w (fun k => k < w.heap.size ∧ ¬ ob v k ∧ ¬ X k) e) (hL : L.length ≤ 1000000) (hbase : base ≤ w.heap.size) (hX : ∀ k, X k → k < w.heap.size)
    (hk : ∀ v' w', FL w' base X v' (L ++ [e]) → Fs (ob v) w w' → Nx w v v' → wpList Tryd.prog ops Q rest (a.put o.dst v') w') : wpList Tryd.prog ops Q (o :: rest) a w := by
  obtain ⟨i0, hi0, hz0, hz1, hz2⟩ := info_parts f7_info
  refine wpList_appS hgd s x 26 ho base 47 i0 _ 13 88 Tryd.underlying26 hi0 hz0 hz1 hz2 rfl v L.length (enl elc L) hs h.own ⟨q, 0, none⟩ 1 1 (elc e) hx (by rw [elc_len]) (fun j u hj => by
    rw [add_plain, Nat.zero_add]
    exact hq.cell (by simpa [elc] using hj)) (elc_one e) (by omega) (by simp only [maxLen]; omega) (by omega) hbase (fun A' c' w' ho' hg' hn' => ?_)
  have hf := Fs.of_grown hg'
  have hn := Nx.of_new hn'
  have hown : ∀ k, ob (.slice A' (L.length + 1) c') k → ob v k ∨ w.heap.size ≤ k := fun k hk => hn.own hk
  refine hk _ w' ⟨?_, fun e' he' => ?_, fun k hk hx => ?_⟩ hf hn
  · rw [List.length_append, enl_append, enl_one]
    exact ho'
  · have hin : ElIn w (fun k => k < w.heap.size ∧ ¬ ob v k ∧ ¬ X k) e' := by
      rcases List.mem_append.1 he' with h1 | h1
      · exact h.ins e' h1
      · rw [List.mem_singleton.1 h1]; exact he
    exact (hin.keep fun g hg => hf.block g hg.1 hg.2.1).imp fun g hg hl => ⟨hl, fun h1 => by
      rcases hown g h1 with h2 | h2
      · exact hg.2.1 h2
      · omega, hg.2.2⟩
  · rcases hown k hk with h2 | h2
    · exact h.far k h2 hx
    · have := hX k hx; omega
/-- A frame that was told is an element. -/
theorem FmIs.el {w : World} {base : Nat} {X : Fm} {F : Frm} (h : FmIs w base X F) (s c : Nat) : ∃ e : El, e.rd = (F, s, c) ∧ e.fm = X ∧ ElIn w (fun k => base ≤ k ∧ k < w.heap.size) e :=
  ⟨⟨F, s, c, X.dA, X.dc, X.sA, X.sc⟩, rfl, h.eq.symm, OwS.up h.dat, OwS.up h.sets⟩
theorem FmR.el {w : World} {base : Nat} {X : Fm} {F : Frm} (h : FmR w base X F) (s c : Nat) : ∃ e : El, e.rd = (F, s, c) ∧ e.fm = X ∧ ElIn w (fun k => base ≤ k) e :=
  ⟨⟨F, s, c, X.dA, X.dc, X.sA, X.sc⟩, rfl, h.eq.symm, h.dat, h.sets⟩
end Go.Proofs.YtnjnepploockiaaDoor

namespace Go.Proofs.YtnjnepploockiaaDoor
open Go.RowKit Go.WideShapes

theorem yields_fmA {ops : Array Oper} {S : World → Prop} {o : Oper} {a : Act} (hw : Region.wanted o (yielded ops a.tmps) = true) (y : Operand) (ho : o.op = .load 36 y) {g p : Nat} (hy : a.eval y = .pointer (some ⟨g, p, none⟩)) {x : Fm} (hS : ∀ w, S w → w.rangeAt g p x.c.toList) : YieldsIf Tryd.prog ops S o (.agg x.c) a :=
  .inl ⟨hw, fun w hw' => by
    have := run_loadAt_mid (P := Tryd.prog) w g p 36 x.c.toList _ (hS w hw') Tryd.underlying36 rfl (by rw [Fm.size x]; simp)
    rw [Array.toArray_toList] at this
    unfold execOp
    simp only [ho, hy, this, Sem.run_bind, Sem.run_pure, Result.andThen_ok]⟩
/-- Element number k of a slice, in memory. -/
theorem el_at {w : World} {R : Nat → Prop} {A : Option Addr} {L : List El} (h : RdS w R A (enl elc L)) {k : Nat} (hk : k < L.length) : ∃ g p, A = some ⟨g, p, none⟩ ∧ R g ∧ w.rangeAt g (p + k * 13) L[k].fm.c.toList ∧ w.cell? ⟨g, p + k * 13 + 11, none⟩ = some (.int .u8 (L[k].s : Int)) ∧ w.cell? ⟨g, p + k * 13 + 12, none⟩ = some (.int .u32 (L[k].c : Int)) := by
  have hl := enl_length elc_len L
  obtain ⟨g, p, e, hg, hc⟩ := h (by intro e; rw [e] at hl; simp at hl; omega)
  have hat : ∀ j, j < 13 → ∀ u, (elc L[k])[j]? = some u → w.cell? ⟨g, p + k * 13 + j, none⟩ = some u := fun j hj u hu => by
    have := hc (k * 13 + j) u (by rw [enl_at elc_len hk hj]; exact hu)
    rwa [show p + (k * 13 + j) = p + k * 13 + j by omega] at this
  refine ⟨g, p, e, hg, fun j v hv => ?_, hat 11 (by omega) _ rfl, hat 12 (by omega) _ rfl⟩
  have e11 : L[k].fm.c.size = 11 := by unfold Fm.c; rfl
  have hj : j < 11 := by
    have := (List.getElem?_eq_some_iff.1 hv).1
    rw [Array.length_toList, e11] at this
    exact this
  refine hat j (by omega) v ?_
  unfold elc
  rw [fx_head]
  rw [Array.toList_append, List.getElem?_append_left (by rw [Array.length_toList, e11]; exact hj)]
  exact hv
attribute [local irreducible] Fm.c ftc fxc enl

set_option maxRecDepth 100000 in
set_option maxHeartbeats 8000000 in
theorem same8_any {La Lb : List El} (hrd : La.map El.rd = Lb.map El.rd) {A B : Option Addr} {ca cb : Nat} {w : World} (ha : RdS w (· < w.heap.size) A (enl elc La)) (hb : RdS w (· < w.heap.size) B (enl elc Lb))
    (hia : ∀ e ∈ La, ElIn w (· < w.heap.size) e) (hib : ∀ e ∈ Lb, ElIn w (· < w.heap.size) e) (hbd : ∀ e ∈ La, e.F.dat.length ≤ 1000000 ∧ e.F.sets.length ≤ 1000000) (hn : La.length ≤ 1000000) :
    Calls Tryd.prog 11 #[.slice A La.length ca, .slice B Lb.length cb] w fun e w' => e = .returned (.bool true) ∧ Below w.heap.size w w' := by
  have hlen : Lb.length = La.length := by
    have := congrArg List.length hrd
    simpa using this.symm
  rw [hlen]
  have HK : Hid (∀ k, (hk : k < La.length) → ∃ g p g' p' F s c dA dc sA sc eA ec tA tc, A = some ⟨g, p, none⟩ ∧ B = some ⟨g', p', none⟩ ∧ g < w.heap.size ∧ g' < w.heap.size ∧
      w.rangeAt g (p + k * 13) (Frm.fm F dA dc sA sc).c.toList ∧ w.rangeAt g' (p' + k * 13) (Frm.fm F eA ec tA tc).c.toList ∧
      w.cell? ⟨g, p + k * 13 + 11, none⟩ = some (.int .u8 (s : Nat)) ∧ w.cell? ⟨g, p + k * 13 + 12, none⟩ = some (.int .u32 (c : Nat)) ∧ w.cell? ⟨g', p' + k * 13 + 11, none⟩ = some (.int .u8 (s : Nat)) ∧ w.cell? ⟨g', p' + k * 13 + 12, none⟩ = some (.int .u32 (c : Nat)) ∧
      RdB w w.heap.size dA F.dat ∧ RdS w (· < w.heap.size) sA (enl sgc F.sets) ∧ RdB w w.heap.size eA F.dat ∧ RdS w (· < w.heap.size) tA (enl sgc F.sets) ∧ F.dat.length ≤ 1000000 ∧ F.sets.length ≤ 1000000) := fun k hk => by
    have hk' : k < Lb.length := by omega
    obtain ⟨g, p, e1, hg, r1, c1, d1⟩ := el_at ha hk
    obtain ⟨g', p', e2, hg', r2, c2, d2⟩ := el_at hb hk'
    have hq : La[k].rd = Lb[k].rd := by
      have h1 : (La.map El.rd)[k]? = (Lb.map El.rd)[k]? := by rw [hrd]
      rw [List.getElem?_map, List.getElem?_map, List.getElem?_eq_getElem hk, List.getElem?_eq_getElem hk'] at h1
      exact Option.some.inj h1
    have i1 := hia _ (List.getElem_mem hk)
    have i2 := hib _ (List.getElem_mem hk')
    have b1 := hbd _ (List.getElem_mem hk)
    generalize La[k] = x at *
    generalize Lb[k] = y at *
    obtain ⟨F, s, c, dA, dc, sA, sc⟩ := x
    obtain ⟨F', s', c', eA, ec, tA, tc⟩ := y
    injection hq with q1 q2
    injection q2 with q2 q3
    simp only at q1 q2 q3
    subst q1 q2 q3
    exact ⟨g, p, g', p', F, s, c, dA, dc, sA, sc, eA, ec, tA, tc, e1, e2, hg, hg', r1, r2, c1, d1, c2, d2, RdB.ofS i1.1 fun _ h _ => h, i1.2, RdB.ofS i2.1 fun _ h _ => h, i2.2, b1.1, b1.2⟩
  clear ha hb hia hib hbd hrd hlen
  generalize La.length = n at *
  go_enter Tryd.func11, Tryd.ntmps11
  go_wp2_with fail
  go_loopw [13] (fun i wr => ∃ k : Nat, k ≤ n ∧ i = .int .i64 k ∧ Hid (Below w.heap.size w wr)) (fun i _ => n - (intOf i).toNat)
  case atStart => exact ⟨0, Nat.zero_le _, rfl, Below.refl _ _⟩
  case round =>
    obtain ⟨k, hk, rfl, hB⟩ := hrel
    by_cases hlt : k < n
    · obtain ⟨g, p, g', p', F, s, c, dA, dc, sA, sc, eA, ec, tA, tc, rfl, rfl, hg, hg', r1, r2, c1, d1, c2, d2, i1, i2, i3, i4, b1, b2⟩ := HK.out k hlt
      have hkn : (k : Int) < (n : Int) := by omega
      have keep : ∀ W : World, Below w.heap.size w W → (W.rangeAt g (p + k * 13) (Frm.fm F dA dc sA sc).c.toList ∧ W.rangeAt g' (p' + k * 13) (Frm.fm F eA ec tA tc).c.toList) ∧ (W.cell? ⟨g, p + k * 13 + 11, none⟩ = some (.int .u8 (s : Nat)) ∧ W.cell? ⟨g, p + k * 13 + 12, none⟩ = some (.int .u32 (c : Nat)) ∧ W.cell? ⟨g', p' + k * 13 + 11, none⟩ = some (.int .u8 (s : Nat)) ∧ W.cell? ⟨g', p' + k * 13 + 12, none⟩ = some (.int .u32 (c : Nat))) := fun W hW =>
        ⟨⟨fun j v hv => (hW.cell (p := ⟨g, p + k * 13 + j, none⟩) hg).trans (r1 j v hv), fun j v hv => (hW.cell (p := ⟨g', p' + k * 13 + j, none⟩) hg').trans (r2 j v hv)⟩, (hW.cell (p := ⟨g, p + k * 13 + 11, none⟩) hg).trans c1, (hW.cell (p := ⟨g, p + k * 13 + 12, none⟩) hg).trans d1, (hW.cell (p := ⟨g', p' + k * 13 + 11, none⟩) hg').trans c2, (hW.cell (p := ⟨g', p' + k * 13 + 12, none⟩) hg').trans d2⟩
      have HKp := Lib.hid keep
      have HI := Lib.hid (And.intro i1 (And.intro i2 (And.intro i3 i4)))
      have hB1 : Hid (Below w.heap.size w wr.drew) := hB.out.drew
      have hk0 := keep _ hB1.out
      clear keep r1 r2 c1 d1 c2 d2 i1 i2 i3 i4
      go_wp2_with fail
      refine wp_region_held_drew (S := fun W => (W.rangeAt g (p + k * 13) (Frm.fm F dA dc sA sc).c.toList ∧ W.rangeAt g' (p' + k * 13) (Frm.fm F eA ec tA tc).c.toList) ∧ (W.cell? ⟨g, p + k * 13 + 11, none⟩ = some (.int .u8 (s : Nat)) ∧ W.cell? ⟨g, p + k * 13 + 12, none⟩ = some (.int .u32 (c : Nat)) ∧ W.cell? ⟨g', p' + k * 13 + 11, none⟩ = some (.int .u8 (s : Nat)) ∧ W.cell? ⟨g', p' + k * 13 + 12, none⟩ = some (.int .u32 (c : Nat)))) (by kernel_rfl) hk0 (fun hHeld => ?_)
      clear hk0
      refine wpAnyH_take (i := 0) (v := ?v0) rfl (by kernel_rfl) (by kernel_rfl) (by kernel_rfl) (fun _ _ _ h => h) (Or.inl ⟨by rfl, ?hy0⟩) (by assumption) ?rest0
      case hy0 => (intro w hSw; (try dsimp only at hSw); go_simp <;> with_reducible rfl)
      try simp only [Act.put, List.getElem_toArray, List.getElem_cons_zero, List.setIfInBounds_toArray, List.set_cons_zero, List.set_cons_succ]
      refine wpAnyH_take (i := 1) (v := ?v1) rfl (by kernel_rfl) (by kernel_rfl) (by kernel_rfl) (fun _ _ _ h => h) (Or.inl ⟨by rfl, ?hy1⟩) (by assumption) ?rest1
      case hy1 => (intro w hSw; (try dsimp only at hSw); go_simp <;> with_reducible rfl)
      try simp only [Act.put, List.getElem_toArray, List.getElem_cons_zero, List.getElem_cons_succ, List.setIfInBounds_toArray, List.set_cons_zero, List.set_cons_succ]
      refine wpAnyH_take (i := 2) (v := ?v2) rfl (by kernel_rfl) (by kernel_rfl) (by kernel_rfl) (fun _ _ _ h => h) (Or.inl ⟨by rfl, ?hy2⟩) (by assumption) ?rest2
      case hy2 => (intro w hSw; (try dsimp only at hSw); go_simp <;> with_reducible rfl)
      try simp only [Act.put, List.getElem_toArray, List.getElem_cons_zero, List.getElem_cons_succ, List.setIfInBounds_toArray, List.set_cons_zero, List.set_cons_succ]
      refine wpAnyH_take (i := 3) (v := ?v3) rfl (by kernel_rfl) (by kernel_rfl) (by kernel_rfl) (fun _ _ _ h => h) (Or.inl ⟨by rfl, ?hy3⟩) (by assumption) ?rest3
      case hy3 => (intro w hSw; (try dsimp only at hSw); go_simp <;> with_reducible rfl)
      try simp only [Act.put, List.getElem_toArray, List.getElem_cons_zero, List.getElem_cons_succ, List.setIfInBounds_toArray, List.set_cons_zero, List.set_cons_succ]
      refine wpAnyH_take (i := 4) (v := _) rfl (by kernel_rfl) (by kernel_rfl) (by kernel_rfl) (fun _ _ _ h => h) (yields_fmA (by rfl) _ rfl rfl (fun _ hSw => hSw.1.1)) (by assumption) ?restF4
      try simp only [Act.put, List.getElem_toArray, List.getElem_cons_zero, List.getElem_cons_succ, List.setIfInBounds_toArray, List.set_cons_zero, List.set_cons_succ]
      refine wpAnyH_take (i := 5) (v := ?v5q1) rfl (by kernel_rfl) (by kernel_rfl) (by kernel_rfl) (fun _ _ _ h => h) (Or.inl ⟨by rfl, ?hy5q1⟩) (by assumption) ?rest5q1
      case hy5q1 => (intro w hSw; (try dsimp only at hSw); go_simp <;> with_reducible rfl)
      try simp only [Act.put, List.getElem_toArray, List.getElem_cons_zero, List.getElem_cons_succ, List.setIfInBounds_toArray, List.set_cons_zero, List.set_cons_succ]
      refine wpAnyH_take (i := 6) (v := ?v6q1) rfl (by kernel_rfl) (by kernel_rfl) (by kernel_rfl) (fun _ _ _ h => h) (Or.inl ⟨by rfl, ?hy6q1⟩) (by assumption) ?rest6q1
      case hy6q1 => (intro w hSw; (try dsimp only at hSw); go_simp <;> with_reducible rfl)
      try simp only [Act.put, List.getElem_toArray, List.getElem_cons_zero, List.getElem_cons_succ, List.setIfInBounds_toArray, List.set_cons_zero, List.set_cons_succ]
      refine wpAnyH_take (i := 7) (v := ?v7q1) rfl (by kernel_rfl) (by kernel_rfl) (by kernel_rfl) (fun _ _ _ h => h) (Or.inl ⟨by rfl, ?hy7q1⟩) (by assumption) ?rest7q1
      case hy7q1 => (intro w hSw; (try dsimp only at hSw); go_simp <;> with_reducible rfl)
      try simp only [Act.put, List.getElem_toArray, List.getElem_cons_zero, List.getElem_cons_succ, List.setIfInBounds_toArray, List.set_cons_zero, List.set_cons_succ]
      refine wpAnyH_take (i := 8) (v := ?v8q1) rfl (by kernel_rfl) (by kernel_rfl) (by kernel_rfl) (fun _ _ _ h => h) (Or.inl ⟨by rfl, ?hy8q1⟩) (by assumption) ?rest8q1
      case hy8q1 => (intro w hSw; (try dsimp only at hSw); go_simp <;> with_reducible rfl)
      try simp only [Act.put, List.getElem_toArray, List.getElem_cons_zero, List.getElem_cons_succ, List.setIfInBounds_toArray, List.set_cons_zero, List.set_cons_succ]
      refine wpAnyH_take (i := 9) (v := _) rfl (by kernel_rfl) (by kernel_rfl) (by kernel_rfl) (fun _ _ _ h => h) (yields_fmA (by rfl) _ rfl rfl (fun _ hSw => hSw.1.2)) (by assumption) ?restF9
      try simp only [Act.put, List.getElem_toArray, List.getElem_cons_zero, List.getElem_cons_succ, List.setIfInBounds_toArray, List.set_cons_zero, List.set_cons_succ]
      refine wpAnyH_ready (rs := [10]) (by kernel_rfl) (by simp) ?_
      refine AllReadyH.cons rfl (fun K hK => ?_) AllReadyH.nil
      go_simp
      go_at_call 24
      refine (rsame_any F b1 b2 ((HI.out.1.below hB1.out).more hB1.out.size) ((HI.out.2.1.below hB1.out).imp fun _ h _ => Nat.lt_of_lt_of_le h hB1.out.size) ((HI.out.2.2.1.below hB1.out).more hB1.out.size) ((HI.out.2.2.2.below hB1.out).imp fun _ h _ => Nat.lt_of_lt_of_le h hB1.out.size)).mono ?_
      rintro e w3 ⟨rfl, hb3⟩
      have hB3 := Lib.hid (hB1.out.trans (hb3.mono hB1.out.size))
      have hk3 := HKp.out _ hB3.out
      refine hK.out _ _ hk3 (fun hHeld => ?_)
      clear hK K hk3 hb3
      try simp only [Act.put, List.getElem_toArray, List.getElem_cons_zero, List.getElem_cons_succ, List.setIfInBounds_toArray, List.set_cons_zero, List.set_cons_succ]
      refine wpAnyH_take (i := 11) (v := ?v11q2) rfl (by kernel_rfl) (by kernel_rfl) (by kernel_rfl) (fun _ _ _ h => h) (Or.inl ⟨by rfl, ?hy11q2⟩) (by assumption) ?rest11q2
      case hy11q2 => (intro w hSw; (try dsimp only at hSw); go_simp <;> with_reducible rfl)
      try simp only [Act.put, List.getElem_toArray, List.getElem_cons_zero, List.getElem_cons_succ, List.setIfInBounds_toArray, List.set_cons_zero, List.set_cons_succ]
      refine wpAnyH_take (i := 12) (v := ?v12q2) rfl (by kernel_rfl) (by kernel_rfl) (by kernel_rfl) (fun _ _ _ h => h) (Or.inl ⟨by rfl, ?hy12q2⟩) (by assumption) ?rest12q2
      case hy12q2 => (intro w hSw; (try dsimp only at hSw); go_simp <;> with_reducible rfl)
      try simp only [Act.put, List.getElem_toArray, List.getElem_cons_zero, List.getElem_cons_succ, List.setIfInBounds_toArray, List.set_cons_zero, List.set_cons_succ]
      refine wpAnyH_take (i := 13) (v := ?v13q2) rfl (by kernel_rfl) (by kernel_rfl) (by kernel_rfl) (fun _ _ _ h => h) (Or.inl ⟨by rfl, ?hy13q2⟩) (by assumption) ?rest13q2
      case hy13q2 => (intro w hSw; (try dsimp only at hSw); go_simp <;> with_reducible rfl)
      try simp only [Act.put, List.getElem_toArray, List.getElem_cons_zero, List.getElem_cons_succ, List.setIfInBounds_toArray, List.set_cons_zero, List.set_cons_succ]
      refine wpAnyH_take (i := 14) (v := ?v14q2) rfl (by kernel_rfl) (by kernel_rfl) (by kernel_rfl) (fun _ _ _ h => h) (Or.inl ⟨by rfl, ?hy14q2⟩) (by assumption) ?rest14q2
      case hy14q2 => (intro w hSw; (try dsimp only at hSw); go_simp <;> with_reducible rfl)
      try simp only [Act.put, List.getElem_toArray, List.getElem_cons_zero, List.getElem_cons_succ, List.setIfInBounds_toArray, List.set_cons_zero, List.set_cons_succ]
      refine wpAnyH_take (i := 15) (v := ?v15q2) rfl (by kernel_rfl) (by kernel_rfl) (by kernel_rfl) (fun _ _ _ h => h) (Or.inl ⟨by rfl, ?hy15q2⟩) (by assumption) ?rest15q2
      case hy15q2 => (intro w hSw; (try dsimp only at hSw); go_simp <;> with_reducible rfl)
      try simp only [Act.put, List.getElem_toArray, List.getElem_cons_zero, List.getElem_cons_succ, List.setIfInBounds_toArray, List.set_cons_zero, List.set_cons_succ]
      refine wpAnyH_take (i := 16) (v := ?v16q2) rfl (by kernel_rfl) (by kernel_rfl) (by kernel_rfl) (fun _ _ _ h => h) (Or.inl ⟨by rfl, ?hy16q2⟩) (by assumption) ?rest16q2
      case hy16q2 => (intro w hSw; (try dsimp only at hSw); go_simp <;> with_reducible rfl)
      try simp only [Act.put, List.getElem_toArray, List.getElem_cons_zero, List.getElem_cons_succ, List.setIfInBounds_toArray, List.set_cons_zero, List.set_cons_succ]
      refine wpAnyH_take (i := 17) (v := ?v17q2) rfl (by kernel_rfl) (by kernel_rfl) (by kernel_rfl) (fun _ _ _ h => h) (Or.inl ⟨by rfl, ?hy17q2⟩) (by assumption) ?rest17q2
      case hy17q2 => (intro w hSw; (try dsimp only at hSw); go_simp <;> with_reducible rfl)
      try simp only [Act.put, List.getElem_toArray, List.getElem_cons_zero, List.getElem_cons_succ, List.setIfInBounds_toArray, List.set_cons_zero, List.set_cons_succ]
      refine wpAnyH_take (i := 18) (v := ?v18q2) rfl (by kernel_rfl) (by kernel_rfl) (by kernel_rfl) (fun _ _ _ h => h) (Or.inl ⟨by rfl, ?hy18q2⟩) (by assumption) ?rest18q2
      case hy18q2 => (intro w hSw; (try dsimp only at hSw); go_simp <;> with_reducible rfl)
      try simp only [Act.put, List.getElem_toArray, List.getElem_cons_zero, List.getElem_cons_succ, List.setIfInBounds_toArray, List.set_cons_zero, List.set_cons_succ]
      refine wpAnyH_take (i := 19) (v := ?v19q2) rfl (by kernel_rfl) (by kernel_rfl) (by kernel_rfl) (fun _ _ _ h => h) (Or.inl ⟨by rfl, ?hy19q2⟩) (by assumption) ?rest19q2
      case hy19q2 => (intro w hSw; (try dsimp only at hSw); go_simp <;> with_reducible rfl)
      try simp only [Act.put, List.getElem_toArray, List.getElem_cons_zero, List.getElem_cons_succ, List.setIfInBounds_toArray, List.set_cons_zero, List.set_cons_succ]
      refine wpAnyH_take (i := 20) (v := ?v20q2) rfl (by kernel_rfl) (by kernel_rfl) (by kernel_rfl) (fun _ _ _ h => h) (Or.inl ⟨by rfl, ?hy20q2⟩) (by assumption) ?rest20q2
      case hy20q2 => (intro w hSw; (try dsimp only at hSw); go_simp <;> with_reducible rfl)
      try simp only [Act.put, List.getElem_toArray, List.getElem_cons_zero, List.getElem_cons_succ, List.setIfInBounds_toArray, List.set_cons_zero, List.set_cons_succ]
      refine wpAnyH_take (i := 21) (v := ?v21q2) rfl (by kernel_rfl) (by kernel_rfl) (by kernel_rfl) (fun _ _ _ h => h) (Or.inl ⟨by rfl, ?hy21q2⟩) (by assumption) ?rest21q2
      case hy21q2 => (intro w hSw; (try dsimp only at hSw); go_simp <;> with_reducible rfl)
      try simp only [Act.put, List.getElem_toArray, List.getElem_cons_zero, List.getElem_cons_succ, List.setIfInBounds_toArray, List.set_cons_zero, List.set_cons_succ]
      refine wpAnyH_take (i := 22) (v := ?v22q2) rfl (by kernel_rfl) (by kernel_rfl) (by kernel_rfl) (fun _ _ _ h => h) (Or.inl ⟨by rfl, ?hy22q2⟩) (by assumption) ?rest22q2
      case hy22q2 => (intro w hSw; (try dsimp only at hSw); go_simp <;> with_reducible rfl)
      try simp only [Act.put, List.getElem_toArray, List.getElem_cons_zero, List.getElem_cons_succ, List.setIfInBounds_toArray, List.set_cons_zero, List.set_cons_succ]
      refine wpAnyH_take (i := 23) (v := ?v23q2) rfl (by kernel_rfl) (by kernel_rfl) (by kernel_rfl) (fun _ _ _ h => h) (Or.inl ⟨by rfl, ?hy23q2⟩) (by assumption) ?rest23q2
      case hy23q2 => (intro w hSw; (try dsimp only at hSw); go_simp <;> with_reducible rfl)
      try simp only [Act.put, List.getElem_toArray, List.getElem_cons_zero, List.getElem_cons_succ, List.setIfInBounds_toArray, List.set_cons_zero, List.set_cons_succ]
      refine wpAnyH_take (i := 24) (v := ?v24q2) rfl (by kernel_rfl) (by kernel_rfl) (by kernel_rfl) (fun _ _ _ h => h) (Or.inl ⟨by rfl, ?hy24q2⟩) (by assumption) ?rest24q2
      case hy24q2 => (intro w hSw; (try dsimp only at hSw); go_simp <;> with_reducible rfl)
      try simp only [Act.put, List.getElem_toArray, List.getElem_cons_zero, List.getElem_cons_succ, List.setIfInBounds_toArray, List.set_cons_zero, List.set_cons_succ]
      refine wpAnyH_take (i := 25) (v := ?v25q2) rfl (by kernel_rfl) (by kernel_rfl) (by kernel_rfl) (fun _ _ _ h => h) (Or.inl ⟨by rfl, ?hy25q2⟩) (by assumption) ?rest25q2
      case hy25q2 => (intro w hSw; (try dsimp only at hSw); go_simp <;> with_reducible rfl)
      try simp only [Act.put, List.getElem_toArray, List.getElem_cons_zero, List.getElem_cons_succ, List.setIfInBounds_toArray, List.set_cons_zero, List.set_cons_succ]
      refine wpAnyH_take (i := 26) (v := ?v26q2) rfl (by kernel_rfl) (by kernel_rfl) (by kernel_rfl) (fun _ _ _ h => h) (Or.inl ⟨by rfl, ?hy26q2⟩) (by assumption) ?rest26q2
      case hy26q2 => (intro w hSw; (try dsimp only at hSw); go_simp <;> with_reducible rfl)
      try simp only [Act.put, List.getElem_toArray, List.getElem_cons_zero, List.getElem_cons_succ, List.setIfInBounds_toArray, List.set_cons_zero, List.set_cons_succ]
      refine wpAnyH_take (i := 27) (v := ?v27q2) rfl (by kernel_rfl) (by kernel_rfl) (by kernel_rfl) (fun _ _ _ h => h) (Or.inl ⟨by rfl, ?hy27q2⟩) (by assumption) ?rest27q2
      case hy27q2 => (intro w hSw; (try dsimp only at hSw); go_simp <;> with_reducible rfl)
      try simp only [Act.put, List.getElem_toArray, List.getElem_cons_zero, List.getElem_cons_succ, List.setIfInBounds_toArray, List.set_cons_zero, List.set_cons_succ]
      refine wpAnyH_take (i := 28) (v := ?v28q2) rfl (by kernel_rfl) (by kernel_rfl) (by kernel_rfl) (fun _ _ _ h => h) (Or.inl ⟨by rfl, ?hy28q2⟩) (by assumption) ?rest28q2
      case hy28q2 => (intro w hSw; (try dsimp only at hSw); go_simp <;> with_reducible rfl)
      try simp only [Act.put, List.getElem_toArray, List.getElem_cons_zero, List.getElem_cons_succ, List.setIfInBounds_toArray, List.set_cons_zero, List.set_cons_succ]
      refine wpAnyH_take (i := 29) (v := ?v29q2) rfl (by kernel_rfl) (by kernel_rfl) (by kernel_rfl) (fun _ _ _ h => h) (Or.inl ⟨by rfl, ?hy29q2⟩) (by assumption) ?rest29q2
      case hy29q2 => (intro w hSw; (try dsimp only at hSw); go_simp <;> with_reducible rfl)
      try simp only [Act.put, List.getElem_toArray, List.getElem_cons_zero, List.getElem_cons_succ, List.setIfInBounds_toArray, List.set_cons_zero, List.set_cons_succ]
      refine wpAnyH_take (i := 30) (v := ?v30q2) rfl (by kernel_rfl) (by kernel_rfl) (by kernel_rfl) (fun _ _ _ h => h) (Or.inl ⟨by rfl, ?hy30q2⟩) (by assumption) ?rest30q2
      case hy30q2 => (intro w hSw; (try dsimp only at hSw); go_simp <;> with_reducible rfl)
      try simp only [Act.put, List.getElem_toArray, List.getElem_cons_zero, List.getElem_cons_succ, List.setIfInBounds_toArray, List.set_cons_zero, List.set_cons_succ]
      refine wpAnyH_take (i := 31) (v := ?v31q2) rfl (by kernel_rfl) (by kernel_rfl) (by kernel_rfl) (fun _ _ _ h => h) (Or.inl ⟨by rfl, ?hy31q2⟩) (by assumption) ?rest31q2
      case hy31q2 => (intro w hSw; (try dsimp only at hSw); go_simp <;> with_reducible rfl)
      try simp only [Act.put, List.getElem_toArray, List.getElem_cons_zero, List.getElem_cons_succ, List.setIfInBounds_toArray, List.set_cons_zero, List.set_cons_succ]
      refine wpAnyH_take (i := 32) (v := ?v32q2) rfl (by kernel_rfl) (by kernel_rfl) (by kernel_rfl) (fun _ _ _ h => h) (Or.inl ⟨by rfl, ?hy32q2⟩) (by assumption) ?rest32q2
      case hy32q2 => (intro w hSw; (try dsimp only at hSw); go_simp <;> with_reducible rfl)
      try simp only [Act.put, List.getElem_toArray, List.getElem_cons_zero, List.getElem_cons_succ, List.setIfInBounds_toArray, List.set_cons_zero, List.set_cons_succ]
      refine wpAnyH_take (i := 33) (v := ?v33q2) rfl (by kernel_rfl) (by kernel_rfl) (by kernel_rfl) (fun _ _ _ h => h) (Or.inl ⟨by rfl, ?hy33q2⟩) (by assumption) ?rest33q2
      case hy33q2 => (intro w hSw; (try dsimp only at hSw); go_simp <;> with_reducible rfl)
      try simp only [Act.put, List.getElem_toArray, List.getElem_cons_zero, List.getElem_cons_succ, List.setIfInBounds_toArray, List.set_cons_zero, List.set_cons_succ]
      refine wpAnyH_take (i := 34) (v := ?v34q2) rfl (by kernel_rfl) (by kernel_rfl) (by kernel_rfl) (fun _ _ _ h => h) (Or.inl ⟨by rfl, ?hy34q2⟩) (by assumption) ?rest34q2
      case hy34q2 => (intro w hSw; (try dsimp only at hSw); go_simp <;> with_reducible rfl)
      try simp only [Act.put, List.getElem_toArray, List.getElem_cons_zero, List.getElem_cons_succ, List.setIfInBounds_toArray, List.set_cons_zero, List.set_cons_succ]
      refine wpAnyH_take (i := 35) (v := ?v35q2) rfl (by kernel_rfl) (by kernel_rfl) (by kernel_rfl) (fun _ _ _ h => h) (Or.inl ⟨by rfl, ?hy35q2⟩) (by assumption) ?rest35q2
      case hy35q2 => (intro w hSw; (try dsimp only at hSw); go_simp <;> with_reducible rfl)
      try simp only [Act.put, List.getElem_toArray, List.getElem_cons_zero, List.getElem_cons_succ, List.setIfInBounds_toArray, List.set_cons_zero, List.set_cons_succ]
      refine wpAnyH_take (i := 36) (v := ?v36q2) rfl (by kernel_rfl) (by kernel_rfl) (by kernel_rfl) (fun _ _ _ h => h) (Or.inl ⟨by rfl, ?hy36q2⟩) (by assumption) ?rest36q2
      case hy36q2 => (intro w hSw; (try dsimp only at hSw); go_simp <;> with_reducible rfl)
      try simp only [Act.put, List.getElem_toArray, List.getElem_cons_zero, List.getElem_cons_succ, List.setIfInBounds_toArray, List.set_cons_zero, List.set_cons_succ]
      refine wpAnyH_take (i := 37) (v := ?v37q2) rfl (by kernel_rfl) (by kernel_rfl) (by kernel_rfl) (fun _ _ _ h => h) (Or.inl ⟨by rfl, ?hy37q2⟩) (by assumption) ?rest37q2
      case hy37q2 => (intro w hSw; (try dsimp only at hSw); go_simp <;> with_reducible rfl)
      try simp only [Act.put, List.getElem_toArray, List.getElem_cons_zero, List.getElem_cons_succ, List.setIfInBounds_toArray, List.set_cons_zero, List.set_cons_succ]
      refine wpAnyH_done (by kernel_rfl) ?_ _
      clear hHeld
      go_wp2_with fail
      go_roundw
      case rel => exact ⟨k + 1, by omega, rfl, hB3⟩
      case measure => first | omega | (simp; omega) | (simp [intOf]; omega)
    · obtain rfl : k = n := by omega
      go_wp2_with fail
      go_ret
      exact ⟨rfl, hB.out⟩
end Go.Proofs.YtnjnepploockiaaDoor

namespace Go.Proofs.YtnjnepploockiaaDoor
open Go.RowKit Go.WideShapes

theorem step_sfx {ops : Array Oper} {o : Oper} {a : Act} {w : World} {K : Act → World → Prop} {Q : Exit → Act → World → Prop} {E : Prop} (hgd : o.guard = none) (p q : Operand) (ho : o.op = .store 47 p q) {g : Nat} (hp : a.eval p = .pointer (some ⟨g, 0, none⟩)) {x y : Fm} {s c s0 c0 : Nat} (hq : a.eval q = .agg (fxc x s c)) (h : Row w g 47 (fxc y s0 c0))
    (hk : K (a.put o.dst undef) (w.setRow g (fxc x s c))) : if Region.wanted o (yielded ops a.tmps) = true then Oper.wp Tryd.prog o a w K Q else E := by
  have hw : Region.wanted o (yielded ops a.tmps) = true := by simp [Region.wanted, hgd]
  rw [if_pos hw]
  exact wp_store_row 47 p q ho g (fxc x s c) hp hq 47 (fxc y s0 c0) h (fxc_size x s c) rfl (fxc_one x s c) hk
theorem big_add (a b : List UInt8) (ha : a.length ≤ 1000000) (hb : b.length ≤ 20000000) (W : World) : (Op.stringOp .add (tb a) (tb b)).run Tryd.prog W = .ok (.string (tb (a ++ b))) W := by
  rw [← tb_append]
  exact run_string_add_sum W (tb a) (tb b) (by rw [tb_size, tb_size]; omega)
theorem nx_after {l : List UInt8} (h : GreetP l) (h24 : 24 ≤ l.length) : nxN l true = nxN (l.drop 24) false := by
  unfold nxN
  rw [if_pos rfl, if_neg (fun h1 => h1 h), if_neg (by omega), if_neg (by simp)]
theorem ret_3 {fn : Func} {p q r : Tmp} (h : fn.results = #[.tmp p, .tmp q, .tmp r]) (tmps : Array Value) (w : World) (x y z : Value) (hp : tmps.getD p undef = x) (hq : tmps.getD q undef = y) (hr : tmps.getD r undef = z) :
    (results fn tmps).run Tryd.prog w = .ok (.tuple #[x, y, z]) w := by
  have hp' : tmps[p]?.getD undef = x := by simpa using hp
  have hq' : tmps[q]?.getD undef = y := by simpa using hq
  have hr' : tmps[r]?.getD undef = z := by simpa using hr
  simp only [results, h]
  simp [hp', hq', hr']
def sLen : Value → Nat
  | .string s => s.size
  | _ => 0
def noX : Nat → Prop := fun _ => False
/-- What All leaves. -/
def AllPost (w : World) (l : List UInt8) (p : Bool) (e : Ending) (w' : World) : Prop :=
  ∃ (L : List El) (n : Nat) (b : Bool) (v : Value), AllR l p (L.map El.rd) n b ∧ e = .returned (.tuple #[v, .int .i64 (n : Int), .bool b]) ∧ FL w' w.heap.size noX v L ∧ Below w.heap.size w w'
theorem bare_in {w : World} {R : Nat → Prop} (e : El) (h1 : e.F.dat = []) (h2 : e.F.sets = []) : ElIn w R e := ⟨by rw [h1]; exact RdS.nil, by rw [h2]; exact RdS.nil⟩
attribute [local irreducible] Fm.c ftc fxc enl

set_option maxRecDepth 100000 in
set_option maxHeartbeats 8000000 in
theorem all_bare {l : List UInt8} (hl : l.length ≤ 1000000) (w : World) : Calls Tryd.prog 10 #[.string (tb l), .bool false] w (AllPost w l false) := by
  obtain ⟨i0, hi0, hz0, hz1, hz2⟩ := info_parts u8_info
  have HF0 : Hid (FL (w.alloc (.cells #[] 47)) w.heap.size noX (.slice (some ⟨w.heap.size, 0, none⟩) 0 0) []) := FL.made w noX (Nat.le_refl _) (fun k h => h.elim)
  have HB0 : Hid (Below w.heap.size w (w.alloc (.cells #[] 47))) := (Below.refl _ _).alloc (Nat.le_refl _) _
  go_enter Tryd.func10, Tryd.ntmps10
  go_wp2_with fail
  go_loopw [0, 7] (fun a o wr => ∃ (s : List UInt8) (L : List El) (v : Value), a = .string (tb s) ∧ o = v ∧ L.length + s.length ≤ l.length ∧ Hid (FL wr w.heap.size noX v L) ∧ Hid (Below w.heap.size w wr) ∧ Hid (∀ out n b, AllR s false out n b → AllR l false (L.map El.rd ++ out) n b)) (fun a _ _ => sLen a)
  case atStart => exact ⟨l, [], _, rfl, rfl, by simp, HF0, HB0, fun _ _ _ h => h⟩
  case round =>
    obtain ⟨s, L, v, rfl, rfl, hcnt, HF, HB, HT⟩ := hrel
    have hsz := tb_size s
    by_cases h9 : 9 ≤ s.length
    rotate_left
    · have hst : AllR s false [] s.length false := AllR.stop (r := s) (w' := false) (by unfold nxN; rw [if_neg (by simp)]; unfold nfN; rw [if_pos (by omega)])
      have hfin := HT.out _ _ _ hst
      rw [List.append_nil] at hfin
      have hsl : s.length ≤ 1000000 := by omega
      have HFin := Lib.hid hfin
      clear hfin hst HT
      go_wp2_with fail
      refine bodyPost_ret (ret_3 rfl _ _ _ (.int .i64 (s.length : Int)) (.bool false) rfl rfl rfl) rfl ?_
      exact ⟨L, s.length, false, _, HFin.out, rfl, HF.out, HB.out⟩
    have hsl : s.length ≤ 1000000 := by omega
    have hup := up3 s (by omega)
    have hv := fun W => rvalue_any (s.take 3) (by rw [List.length_take]; omega) W
    have hvb : valL (s.take 3) < 256 ^ 3 := valL_lt' (by rw [List.length_take]; omega)
    have hW : 9 + valL (s.take 3) = wholeN s := rfl
    have hU : nxN s false = if 16393 < wholeN s then (some (greatN s), s, false) else if s.length < wholeN s then (none, s, false) else (some (getN (s.take (wholeN s))), s.drop (wholeN s), false) := by
      unfold nxN
      rw [if_neg (by simp)]
      unfold nfN
      rw [if_neg (by omega)]
      split
      · rfl
      · split
        · rfl
        · rfl
    have HU := Lib.hid hU
    have HV := Lib.hid hvb
    have hvi : (valL (s.take 3) : Int) ≤ 16777216 := by omega
    generalize hM : valL (s.take 3) = M at *
    have HW := Lib.hid hW
    have HMM := Lib.hid hM
    have HC := Lib.hid hcnt
    have HSL := Lib.hid hsl
    have hw3 : IntKind.i64.wrap (M : Int) = (M : Int) := IntWalk.i64_in _ (by omega)
    have hw9 : IntKind.i64.wrap (9 + (M : Int)) = 9 + (M : Int) := IntWalk.i64_in _ (by omega)
    have HVI := Lib.hid hvi
    clear hU hvb hW hM hcnt hsl hvi
    go_wp2_with fail
    refine (hv _).mono ?_
    rintro e w1' ⟨rfl, rfl⟩
    clear hv hup
    by_cases hbig : 16393 < wholeN s
    · rw [if_pos hbig] at HU
      have hbi : decide ((16393 : Int) < 9 + (M : Int)) = true := by have := HW.out; simp; omega
      have hmk : ∀ W : World, (Instr.makeSlice 22 (.int .i64 (M : Int)) (.int .i64 (M : Int))).run Tryd.prog W = .ok (.slice (some ⟨W.heap.size, 0, none⟩) M M) (W.alloc (.cells (madeCells #[Value.int .u8 0] M) 5)) := fun W => by
        have := run_make (P := Tryd.prog) W 22 5 i0 (.int .u8 0) Tryd.underlying22 hi0 hz0 .i64 .i64 (M : Int) (M : Int) (by omega) (by omega) (by rw [hz2]; have := HVI.out; omega) (by have := HVI.out; omega)
        rw [this, hz1, Nat.mul_one]
        rfl
      obtain ⟨z, hz⟩ : ∃ z : List UInt8, z = List.replicate M 0 := ⟨_, rfl⟩
      have hzl : z.length = M := by rw [hz]; exact List.length_replicate
      have hMC : (madeCells #[Value.int .u8 0] M).toList = byc z := by rw [hz]; exact made_zeros M
      have hcv : ∀ (W : World) (q : Nat), Row W q 5 (madeCells #[Value.int .u8 0] M) → (convert 22 9 (.slice (some ⟨q, 0, none⟩) M M)).run Tryd.prog W = .ok (.string (tb z)) W := fun W q hW => by
        have := run_text (P := Tryd.prog) (c := M) Tryd.underlying22 Tryd.underlying5 Tryd.underlying9 (RdB.row hW hMC (Nat.lt_succ_self _))
        rwa [hzl] at this
      have h9l : (s.take 9).length = 9 := by rw [List.length_take]; omega
      have hbl := HVI.out
      have hadd := big_add (s.take 9) z (by omega) (by omega)
      have hget : ∀ W : World, Calls Tryd.prog 18 #[.string (tb (s.take 9 ++ z))] W fun e w' => ∃ x : Fm, e = .returned (.agg (fxc x 1 6)) ∧ x = (greatN s).1.fm x.dA x.dc x.sA x.sc ∧ Below W.heap.size W w' := fun W => by
        refine (rget_any (l := s.take 9 ++ z) (by rw [List.length_append]; omega) W).mono ?_
        rintro e w' ⟨x, rfl, hx, hb⟩
        rw [read_long (k := M) h9 (by have := HW.out; omega) hzl HMM.out] at hx ⊢
        exact ⟨x, rfl, hx.eq, hb⟩
      have hup9 : ∀ W : World, (Instr.slice 9 (.string (tb s)) none (some (.int .i64 9)) none).run Tryd.prog W = .ok (.string (tb (s.take 9))) W := fun W => tb_upto s 9 (by omega) (by omega) W
      generalize s.take 9 ++ z = y at *
      generalize s.take 9 = s9 at *
      clear hz hzl hMC h9l hbl
      generalize madeCells #[Value.int .u8 0] M = MC at *
      have hw0 : IntKind.i64.wrap (9 + (M : Int) - 9) = (M : Int) := by rw [show 9 + (M : Int) - 9 = (M : Int) by omega]; exact hw3
      have HFL := HF
      go_upto_region 15 with fail
      go_cut [12] from 55 to 62 (fun v wx => ∃ k X, v = .pointer (some ⟨k, 0, none⟩) ∧ Hid (wr.heap.size ≤ k) ∧ Hid (Row wx k 47 (fxc X 1 6)) ∧ Hid (X = (greatN s).1.fm X.dA X.dc X.sA X.sc) ∧ Hid (Below wr.heap.size wr wx))
      case first =>
        refine wp_region_held_drew (S := fun _ => True) (by kernel_rfl) trivial (fun hHeld => ?_)
        have HB2 : Hid (Below wr.heap.size wr wr.drew) := (Below.refl _ _).drew
        clear HF HB HT HFL HU
        generalize wr.drew = w2 at *
        refine wpAnyH_take (i := 0) (v := ?v0) rfl (by kernel_rfl) (by kernel_rfl) (by kernel_rfl) (fun _ _ _ h => h) (Or.inl ⟨by rfl, ?hy0⟩) (by assumption) ?rest0
        case hy0 => (intro w hSw; (try dsimp only at hSw); go_simp <;> with_reducible rfl)
        try simp only [Act.put, List.getElem_toArray, List.getElem_cons_zero, List.setIfInBounds_toArray, List.set_cons_zero, List.set_cons_succ]
        refine wpAnyH_take (i := 1) (v := ?v1) rfl (by kernel_rfl) (by kernel_rfl) (by kernel_rfl) (fun _ _ _ h => h) (Or.inl ⟨by rfl, ?hy1⟩) (by assumption) ?rest1
        case hy1 => (intro w hSw; (try dsimp only at hSw); go_simp <;> with_reducible rfl)
        try simp only [Act.put, List.getElem_toArray, List.getElem_cons_zero, List.getElem_cons_succ, List.setIfInBounds_toArray, List.set_cons_zero, List.set_cons_succ]
        refine wpAnyH_take (i := 2) (v := ?v2) rfl (by kernel_rfl) (by kernel_rfl) (by kernel_rfl) (fun _ _ _ h => h) (Or.inl ⟨by rfl, ?hy2⟩) (by assumption) ?rest2
        case hy2 => (intro w hSw; (try dsimp only at hSw); go_simp <;> with_reducible rfl)
        try simp only [Act.put, List.getElem_toArray, List.getElem_cons_zero, List.getElem_cons_succ, List.setIfInBounds_toArray, List.set_cons_zero, List.set_cons_succ]
        refine wpAnyH_take (i := 3) (v := ?v3) rfl (by kernel_rfl) (by kernel_rfl) (by kernel_rfl) (fun _ _ _ h => h) (Or.inl ⟨by rfl, ?hy3⟩) (by assumption) ?rest3
        case hy3 => (intro w hSw; (try dsimp only at hSw); go_simp <;> with_reducible rfl)
        try simp only [Act.put, List.getElem_toArray, List.getElem_cons_zero, List.getElem_cons_succ, List.setIfInBounds_toArray, List.set_cons_zero, List.set_cons_succ]
        refine wpAnyH_ready (rs := [4, 8]) (by kernel_rfl) (by simp) ?_
        refine AllReadyH.cons rfl (fun K hK => ?_) (AllReadyH.cons rfl (fun K hK => ?_) AllReadyH.nil)
        · go_simp
          have hbq : Below w2.heap.size w2 (w2.alloc (.cells MC 5)) := (Below.refl _ _).alloc (Nat.le_refl _) _
          have HB3 := Lib.hid (HB2.out.trans (hbq.mono HB2.out.size))
          have HM3 := Lib.hid (Row.new w2 5 MC)
          refine hK.out _ _ trivial (fun hHeld => ?_)
          clear hK K hbq
          generalize w2.alloc (.cells MC 5) = w3 at *
          generalize w2.heap.size = q4 at HM3 ⊢
          try simp only [Act.put, List.getElem_toArray, List.getElem_cons_zero, List.getElem_cons_succ, List.setIfInBounds_toArray, List.set_cons_zero, List.set_cons_succ]
          refine wpAnyH_ready (rs := [5, 8]) (by kernel_rfl) (by simp) ?_
          refine AllReadyH.cons rfl (fun K hK => ?_) (AllReadyH.cons rfl (fun K hK => ?_) AllReadyH.nil)
          · have htx := hcv w3 q4 HM3.out
            go_simp
            refine hK.out _ _ trivial (fun hHeld => ?_)
            clear hK K htx
            try simp only [Act.put, List.getElem_toArray, List.getElem_cons_zero, List.getElem_cons_succ, List.setIfInBounds_toArray, List.set_cons_zero, List.set_cons_succ]
            refine wpAnyH_take (i := 6) (v := ?v6q1) rfl (by kernel_rfl) (by kernel_rfl) (by kernel_rfl) (fun _ _ _ h => h) (Or.inl ⟨by rfl, ?hy6q1⟩) (by assumption) ?rest6q1
            case hy6q1 => (intro w hSw; (try dsimp only at hSw); go_simp <;> with_reducible rfl)
            try simp only [Act.put, List.getElem_toArray, List.getElem_cons_zero, List.getElem_cons_succ, List.setIfInBounds_toArray, List.set_cons_zero, List.set_cons_succ]
            refine wpAnyH_ready (rs := [7, 8]) (by kernel_rfl) (by simp) ?_
            refine AllReadyH.cons rfl (fun K hK => ?_) (AllReadyH.cons rfl (fun K hK => ?_) AllReadyH.nil)
            · go_simp
              go_at_call 18
              refine (hget w3).mono ?_
              rintro e w4 ⟨X, rfl, hX, hbq⟩
              have HB4 := Lib.hid (HB3.out.trans (hbq.mono HB3.out.size))
              have hXe := Lib.hid hX
              refine hK.out _ _ trivial (fun hHeld => ?_)
              clear hK K hbq hX
              try simp only [Act.put, List.getElem_toArray, List.getElem_cons_zero, List.getElem_cons_succ, List.setIfInBounds_toArray, List.set_cons_zero, List.set_cons_succ]
              refine wpAnyH_ready (rs := [8]) (by kernel_rfl) (by simp) ?_
              refine AllReadyH.cons rfl (fun K hK => ?_) AllReadyH.nil
              go_simp
              have hbq : Below w4.heap.size w4 (w4.alloc (.cells #[.int .u8 0, .int .u8 0, .int .u32 0, .slice none 0 0, .int .i64 0, .int .u32 0, .int .u32 0, .int .u8 0, .bool false, .int .u32 0, .slice none 0 0, .int .u8 0, .int .u32 0] 47)) := (Below.refl _ _).alloc (Nat.le_refl _) _
              have HB5 := Lib.hid (HB4.out.trans (hbq.mono HB4.out.size))
              have HA5 : Hid (Row (w4.alloc (.cells #[.int .u8 0, .int .u8 0, .int .u32 0, .slice none 0 0, .int .i64 0, .int .u32 0, .int .u32 0, .int .u8 0, .bool false, .int .u32 0, .slice none 0 0, .int .u8 0, .int .u32 0] 47)) w4.heap.size 47 (fxc (fm0 0 0 0 0) 0 0)) := by show Row _ _ _ _; rw [fxz]; exact Row.made _ _ _ rfl
              have ha8 : Hid (wr.heap.size ≤ w4.heap.size) := HB4.out.size
              refine hK.out _ _ trivial (fun hHeld => ?_)
              clear hK K hbq
              generalize w4.alloc (.cells #[.int .u8 0, .int .u8 0, .int .u32 0, .slice none 0 0, .int .i64 0, .int .u32 0, .int .u32 0, .int .u8 0, .bool false, .int .u32 0, .slice none 0 0, .int .u8 0, .int .u32 0] 47) = w5 at *
              generalize hq8 : w4.heap.size = a8 at HA5 ha8 ⊢
              clear hq8
              try simp only [Act.put, List.getElem_toArray, List.getElem_cons_zero, List.getElem_cons_succ, List.setIfInBounds_toArray, List.set_cons_zero, List.set_cons_succ]
              refine wpAnyH_ready (rs := [9]) (by kernel_rfl) (by simp) ?_
              refine AllReadyH.cons rfl (fun K hK => ?_) AllReadyH.nil
              refine step_sfx (x := X) (y := fm0 0 0 0 0) rfl (.tmp 12) (.tmp 62) rfl rfl rfl HA5.out ?_
              refine hK.out _ _ trivial (fun hHeld => ?_)
              clear hK K
              try simp only [Act.put, List.getElem_toArray, List.getElem_cons_zero, List.getElem_cons_succ]
              refine wpAnyH_done (by kernel_rfl) ?_ _
              go_wp2_with fail
              go_meet
              exact ⟨a8, X, rfl, ha8, HA5.out.setRow _, hXe, below_setRow HB5.out _ _ ha8.out⟩
            · go_simp
              have hbq : Below w3.heap.size w3 (w3.alloc (.cells #[.int .u8 0, .int .u8 0, .int .u32 0, .slice none 0 0, .int .i64 0, .int .u32 0, .int .u32 0, .int .u8 0, .bool false, .int .u32 0, .slice none 0 0, .int .u8 0, .int .u32 0] 47)) := (Below.refl _ _).alloc (Nat.le_refl _) _
              have HB4 := Lib.hid (HB3.out.trans (hbq.mono HB3.out.size))
              have HA4 : Hid (Row (w3.alloc (.cells #[.int .u8 0, .int .u8 0, .int .u32 0, .slice none 0 0, .int .i64 0, .int .u32 0, .int .u32 0, .int .u8 0, .bool false, .int .u32 0, .slice none 0 0, .int .u8 0, .int .u32 0] 47)) w3.heap.size 47 (fxc (fm0 0 0 0 0) 0 0)) := by show Row _ _ _ _; rw [fxz]; exact Row.made _ _ _ rfl
              have ha8 : Hid (wr.heap.size ≤ w3.heap.size) := HB3.out.size
              refine hK.out _ _ trivial (fun hHeld => ?_)
              clear hK K hbq
              generalize w3.alloc (.cells #[.int .u8 0, .int .u8 0, .int .u32 0, .slice none 0 0, .int .i64 0, .int .u32 0, .int .u32 0, .int .u8 0, .bool false, .int .u32 0, .slice none 0 0, .int .u8 0, .int .u32 0] 47) = w4 at *
              generalize hq8 : w3.heap.size = a8 at HA4 ha8 ⊢
              clear hq8
              try simp only [Act.put, List.getElem_toArray, List.getElem_cons_zero, List.getElem_cons_succ, List.setIfInBounds_toArray, List.set_cons_zero, List.set_cons_succ]
              refine wpAnyH_ready (rs := [7]) (by kernel_rfl) (by simp) ?_
              refine AllReadyH.cons rfl (fun K hK => ?_) AllReadyH.nil
              go_simp
              go_at_call 18
              refine (hget w4).mono ?_
              rintro e w5 ⟨X, rfl, hX, hbq⟩
              have HB5 := Lib.hid (HB4.out.trans (hbq.mono HB4.out.size))
              have HA5 := Lib.hid (HA4.out.below hbq HA4.out.lt)
              have hXe := Lib.hid hX
              refine hK.out _ _ trivial (fun hHeld => ?_)
              clear hK K hbq hX
              try simp only [Act.put, List.getElem_toArray, List.getElem_cons_zero, List.getElem_cons_succ, List.setIfInBounds_toArray, List.set_cons_zero, List.set_cons_succ]
              refine wpAnyH_ready (rs := [9]) (by kernel_rfl) (by simp) ?_
              refine AllReadyH.cons rfl (fun K hK => ?_) AllReadyH.nil
              refine step_sfx (x := X) (y := fm0 0 0 0 0) rfl (.tmp 12) (.tmp 62) rfl rfl rfl HA5.out ?_
              refine hK.out _ _ trivial (fun hHeld => ?_)
              clear hK K
              try simp only [Act.put, List.getElem_toArray, List.getElem_cons_zero, List.getElem_cons_succ]
              refine wpAnyH_done (by kernel_rfl) ?_ _
              go_wp2_with fail
              go_meet
              exact ⟨a8, X, rfl, ha8, HA5.out.setRow _, hXe, below_setRow HB5.out _ _ ha8.out⟩
          · go_simp
            have hbq : Below w3.heap.size w3 (w3.alloc (.cells #[.int .u8 0, .int .u8 0, .int .u32 0, .slice none 0 0, .int .i64 0, .int .u32 0, .int .u32 0, .int .u8 0, .bool false, .int .u32 0, .slice none 0 0, .int .u8 0, .int .u32 0] 47)) := (Below.refl _ _).alloc (Nat.le_refl _) _
            have HB4 := Lib.hid (HB3.out.trans (hbq.mono HB3.out.size))
            have HM4 := Lib.hid (HM3.out.below hbq HM3.out.lt)
            have HA4 : Hid (Row (w3.alloc (.cells #[.int .u8 0, .int .u8 0, .int .u32 0, .slice none 0 0, .int .i64 0, .int .u32 0, .int .u32 0, .int .u8 0, .bool false, .int .u32 0, .slice none 0 0, .int .u8 0, .int .u32 0] 47)) w3.heap.size 47 (fxc (fm0 0 0 0 0) 0 0)) := by show Row _ _ _ _; rw [fxz]; exact Row.made _ _ _ rfl
            have ha8 : Hid (wr.heap.size ≤ w3.heap.size) := HB3.out.size
            refine hK.out _ _ trivial (fun hHeld => ?_)
            clear hK K hbq
            generalize w3.alloc (.cells #[.int .u8 0, .int .u8 0, .int .u32 0, .slice none 0 0, .int .i64 0, .int .u32 0, .int .u32 0, .int .u8 0, .bool false, .int .u32 0, .slice none 0 0, .int .u8 0, .int .u32 0] 47) = w4 at *
            generalize hq8 : w3.heap.size = a8 at HA4 ha8 ⊢
            clear hq8
            try simp only [Act.put, List.getElem_toArray, List.getElem_cons_zero, List.getElem_cons_succ, List.setIfInBounds_toArray, List.set_cons_zero, List.set_cons_succ]
            refine wpAnyH_ready (rs := [5]) (by kernel_rfl) (by simp) ?_
            refine AllReadyH.cons rfl (fun K hK => ?_) AllReadyH.nil
            have htx := hcv w4 q4 HM4.out
            go_simp
            refine hK.out _ _ trivial (fun hHeld => ?_)
            clear hK K htx
            try simp only [Act.put, List.getElem_toArray, List.getElem_cons_zero, List.getElem_cons_succ, List.setIfInBounds_toArray, List.set_cons_zero, List.set_cons_succ]
            refine wpAnyH_take (i := 6) (v := ?v6q2) rfl (by kernel_rfl) (by kernel_rfl) (by kernel_rfl) (fun _ _ _ h => h) (Or.inl ⟨by rfl, ?hy6q2⟩) (by assumption) ?rest6q2
            case hy6q2 => (intro w hSw; (try dsimp only at hSw); go_simp <;> with_reducible rfl)
            try simp only [Act.put, List.getElem_toArray, List.getElem_cons_zero, List.getElem_cons_succ, List.setIfInBounds_toArray, List.set_cons_zero, List.set_cons_succ]
            refine wpAnyH_ready (rs := [7]) (by kernel_rfl) (by simp) ?_
            refine AllReadyH.cons rfl (fun K hK => ?_) AllReadyH.nil
            go_simp
            go_at_call 18
            refine (hget w4).mono ?_
            rintro e w5 ⟨X, rfl, hX, hbq⟩
            have HB5 := Lib.hid (HB4.out.trans (hbq.mono HB4.out.size))
            have HA5 := Lib.hid (HA4.out.below hbq HA4.out.lt)
            have hXe := Lib.hid hX
            refine hK.out _ _ trivial (fun hHeld => ?_)
            clear hK K hbq hX
            try simp only [Act.put, List.getElem_toArray, List.getElem_cons_zero, List.getElem_cons_succ, List.setIfInBounds_toArray, List.set_cons_zero, List.set_cons_succ]
            refine wpAnyH_ready (rs := [9]) (by kernel_rfl) (by simp) ?_
            refine AllReadyH.cons rfl (fun K hK => ?_) AllReadyH.nil
            refine step_sfx (x := X) (y := fm0 0 0 0 0) rfl (.tmp 12) (.tmp 62) rfl rfl rfl HA5.out ?_
            refine hK.out _ _ trivial (fun hHeld => ?_)
            clear hK K
            try simp only [Act.put, List.getElem_toArray, List.getElem_cons_zero, List.getElem_cons_succ]
            refine wpAnyH_done (by kernel_rfl) ?_ _
            go_wp2_with fail
            go_meet
            exact ⟨a8, X, rfl, ha8, HA5.out.setRow _, hXe, below_setRow HB5.out _ _ ha8.out⟩
        · go_simp
          have hbq : Below w2.heap.size w2 (w2.alloc (.cells #[.int .u8 0, .int .u8 0, .int .u32 0, .slice none 0 0, .int .i64 0, .int .u32 0, .int .u32 0, .int .u8 0, .bool false, .int .u32 0, .slice none 0 0, .int .u8 0, .int .u32 0] 47)) := (Below.refl _ _).alloc (Nat.le_refl _) _
          have HB3 := Lib.hid (HB2.out.trans (hbq.mono HB2.out.size))
          have HA3 : Hid (Row (w2.alloc (.cells #[.int .u8 0, .int .u8 0, .int .u32 0, .slice none 0 0, .int .i64 0, .int .u32 0, .int .u32 0, .int .u8 0, .bool false, .int .u32 0, .slice none 0 0, .int .u8 0, .int .u32 0] 47)) w2.heap.size 47 (fxc (fm0 0 0 0 0) 0 0)) := by show Row _ _ _ _; rw [fxz]; exact Row.made _ _ _ rfl
          have ha8 : Hid (wr.heap.size ≤ w2.heap.size) := HB2.out.size
          refine hK.out _ _ trivial (fun hHeld => ?_)
          clear hK K hbq
          generalize w2.alloc (.cells #[.int .u8 0, .int .u8 0, .int .u32 0, .slice none 0 0, .int .i64 0, .int .u32 0, .int .u32 0, .int .u8 0, .bool false, .int .u32 0, .slice none 0 0, .int .u8 0, .int .u32 0] 47) = w3 at *
          generalize hq8 : w2.heap.size = a8 at HA3 ha8 ⊢
          clear hq8
          try simp only [Act.put, List.getElem_toArray, List.getElem_cons_zero, List.getElem_cons_succ, List.setIfInBounds_toArray, List.set_cons_zero, List.set_cons_succ]
          refine wpAnyH_ready (rs := [4]) (by kernel_rfl) (by simp) ?_
          refine AllReadyH.cons rfl (fun K hK => ?_) AllReadyH.nil
          go_simp
          have hbq : Below w3.heap.size w3 (w3.alloc (.cells MC 5)) := (Below.refl _ _).alloc (Nat.le_refl _) _
          have HB4 := Lib.hid (HB3.out.trans (hbq.mono HB3.out.size))
          have HA4 := Lib.hid (HA3.out.below hbq HA3.out.lt)
          have HM4 := Lib.hid (Row.new w3 5 MC)
          refine hK.out _ _ trivial (fun hHeld => ?_)
          clear hK K hbq
          generalize w3.alloc (.cells MC 5) = w4 at *
          generalize w3.heap.size = q4 at HM4 ⊢
          try simp only [Act.put, List.getElem_toArray, List.getElem_cons_zero, List.getElem_cons_succ, List.setIfInBounds_toArray, List.set_cons_zero, List.set_cons_succ]
          refine wpAnyH_ready (rs := [5]) (by kernel_rfl) (by simp) ?_
          refine AllReadyH.cons rfl (fun K hK => ?_) AllReadyH.nil
          have htx := hcv w4 q4 HM4.out
          go_simp
          refine hK.out _ _ trivial (fun hHeld => ?_)
          clear hK K htx
          try simp only [Act.put, List.getElem_toArray, List.getElem_cons_zero, List.getElem_cons_succ, List.setIfInBounds_toArray, List.set_cons_zero, List.set_cons_succ]
          refine wpAnyH_take (i := 6) (v := ?v6q3) rfl (by kernel_rfl) (by kernel_rfl) (by kernel_rfl) (fun _ _ _ h => h) (Or.inl ⟨by rfl, ?hy6q3⟩) (by assumption) ?rest6q3
          case hy6q3 => (intro w hSw; (try dsimp only at hSw); go_simp <;> with_reducible rfl)
          try simp only [Act.put, List.getElem_toArray, List.getElem_cons_zero, List.getElem_cons_succ, List.setIfInBounds_toArray, List.set_cons_zero, List.set_cons_succ]
          refine wpAnyH_ready (rs := [7]) (by kernel_rfl) (by simp) ?_
          refine AllReadyH.cons rfl (fun K hK => ?_) AllReadyH.nil
          go_simp
          go_at_call 18
          refine (hget w4).mono ?_
          rintro e w5 ⟨X, rfl, hX, hbq⟩
          have HB5 := Lib.hid (HB4.out.trans (hbq.mono HB4.out.size))
          have HA5 := Lib.hid (HA4.out.below hbq HA4.out.lt)
          have hXe := Lib.hid hX
          refine hK.out _ _ trivial (fun hHeld => ?_)
          clear hK K hbq hX
          try simp only [Act.put, List.getElem_toArray, List.getElem_cons_zero, List.getElem_cons_succ, List.setIfInBounds_toArray, List.set_cons_zero, List.set_cons_succ]
          refine wpAnyH_ready (rs := [9]) (by kernel_rfl) (by simp) ?_
          refine AllReadyH.cons rfl (fun K hK => ?_) AllReadyH.nil
          refine step_sfx (x := X) (y := fm0 0 0 0 0) rfl (.tmp 12) (.tmp 62) rfl rfl rfl HA5.out ?_
          refine hK.out _ _ trivial (fun hHeld => ?_)
          clear hK K
          try simp only [Act.put, List.getElem_toArray, List.getElem_cons_zero, List.getElem_cons_succ]
          refine wpAnyH_done (by kernel_rfl) ?_ _
          go_wp2_with fail
          go_meet
          exact ⟨a8, X, rfl, ha8, HA5.out.setRow _, hXe, below_setRow HB5.out _ _ ha8.out⟩
      case rest =>
        obtain ⟨k, X, rfl, hk, HR, hXe, HBc⟩ := hcut
        obtain ⟨e, he1, he2, he3⟩ : ∃ e : El, e.rd = greatN s ∧ fxc e.fm e.s e.c = fxc X 1 6 ∧ ∀ W R, ElIn W R e := ⟨⟨(greatN s).1, 1, 6, X.dA, X.dc, X.sA, X.sc⟩, rfl, by rw [hXe.out]; rfl, fun W R => bare_in _ rfl rfl⟩
        rw [← he2] at HR
        have HE3 := Lib.hid he3
        have HE1 := Lib.hid he1
        have hfin := HT.out _ _ _ (AllR.fault HU.out rfl)
        have HFin := Lib.hid hfin
        have HE2 := Lib.hid he2
        have HQ := Lib.hid (Row.new wc 47 (fxc e.fm e.s e.c))
        have hbq : Below wc.heap.size wc (wc.alloc (.cells (fxc e.fm e.s e.c) 47)) := (Below.refl _ _).alloc (Nat.le_refl _) _
        have HLq := Lib.hid ((HF.out.below HBc.out).below hbq)
        have HBq := Lib.hid ((HB.out.trans (HBc.out.mono HB.out.size)).trans (hbq.mono (Nat.le_trans HB.out.size HBc.out.size)))
        have hLl : L.length ≤ 1000000 := by have := HC.out; omega
        clear hfin he1 he2 he3 hmk hcv hadd hget HT HU hbq HF HB
        go_wp2_with (first | (refine wpList_fx rfl _ rfl rfl HR.out ?_) | (refine wpList_bs7 rfl _ rfl rfl ?_) | (at_builtin; refine wpList_app7 rfl (.tmp 63) (.tmp 65) rfl rfl HLq.out e _ rfl HQ.out (HE3.out _ _) hLl HBq.out.size (fun k h => h.elim) ?_; intro v9 w9 hL9 hF9 hN9; have HL9 := Lib.hid hL9; have HB9 := Lib.hid (HBq.out.trans (hF9.below (fun k hk _ => (OwS.lt HLq.out.own k hk).1) HBq.out.size)); clear hL9 hF9 hN9))
        refine bodyPost_ret (ret_3 rfl _ _ _ (.int .i64 0) (.bool true) rfl rfl rfl) rfl ?_
        exact ⟨L ++ [e], 0, true, _, by rw [List.map_append, List.map_cons, List.map_nil, HE1.out]; exact HFin.out, rfl, HL9.out, HB9.out⟩
    · rw [if_neg hbig] at HU
      have hbi : decide ((16393 : Int) < 9 + (M : Int)) = false := by have := HW.out; simp; omega
      by_cases hsh : s.length < wholeN s
      · rw [if_pos hsh] at HU
        have hsi : decide ((s.length : Int) < 9 + (M : Int)) = true := by have := HW.out; simp; omega
        have hfin := HT.out _ _ _ (AllR.stop HU.out)
        rw [List.append_nil] at hfin
        have HFin := Lib.hid hfin
        clear hfin HT HU
        go_wp2_with fail
        refine bodyPost_ret (ret_3 rfl _ _ _ (.int .i64 (s.length : Int)) (.bool false) rfl rfl rfl) rfl ?_
        exact ⟨L, s.length, false, _, HFin.out, rfl, HF.out, HB.out⟩
      · rw [if_neg hsh] at HU
        have hsi : decide ((s.length : Int) < 9 + (M : Int)) = false := by have := HW.out; simp; omega
        have hWn := HW.out
        obtain ⟨N, hN⟩ : ∃ N, N = wholeN s := ⟨_, rfl⟩
        rw [← hN] at HU hWn hsh hbig
        have hNs : N ≤ s.length := by omega
        have hupN : ∀ W : World, (Instr.slice 9 (.string (tb s)) none (some (.int .i64 (9 + (M : Int)))) none).run Tryd.prog W = .ok (.string (tb (s.take N))) W := fun W => by
          have := tb_upto s ((N : Nat) : Int) (by omega) (by omega) W
          rw [Int.toNat_natCast] at this
          rwa [show (9 + (M : Int)) = ((N : Nat) : Int) by omega]
        have hdrN : ∀ W : World, (Instr.slice 9 (.string (tb s)) (some (.int .i64 (9 + (M : Int)))) none none).run Tryd.prog W = .ok (.string (tb (s.drop N))) W := fun W => by
          have := tb_from s ((N : Nat) : Int) (by omega) (by omega) W
          rw [Int.toNat_natCast] at this
          rwa [show (9 + (M : Int)) = ((N : Nat) : Int) by omega]
        have hget := rget_any (l := s.take N) (by rw [List.length_take]; omega)
        have hdl : (s.drop N).length = s.length - N := List.length_drop
        have hN9 : 9 ≤ N := by omega
        generalize hRN : getN (s.take N) = RN at *
        generalize hD : s.drop N = d at *
        generalize s.take N = y at *
        have HDL := Lib.hid hdl
        have HNN := Lib.hid (And.intro hNs hN9)
        clear hWn hN hNs hRN hD hdl hsh hbig hN9
        go_wp2_with fail
        refine (hget _).mono ?_
        rintro e w2 ⟨X, rfl, hX, hb2⟩
        have HF2 := Lib.hid (HF.out.below hb2)
        have HB2 := Lib.hid (HB.out.trans (hb2.mono HB.out.size))
        obtain ⟨el, he1, he2, he3⟩ := FmR.el hX RN.2.1 RN.2.2
        have hin : ElIn w2 (fun k => k < w2.heap.size ∧ ¬ ob u7 k ∧ ¬ noX k) el := he3.imp fun k hk hl => ⟨hl, fun ho => by have := (OwS.lt HF.out.own k ho).2; omega, fun h => h⟩
        rw [← he2]
        have hsc : el.s = RN.2.1 ∧ el.c = RN.2.2 := by
          injection he1 with _ q
          injection q with q1 q2
          exact ⟨q1, q2⟩
        rw [← hsc.1, ← hsc.2]
        have HOB : Hid (¬ ob u7 w2.heap.size) := fun ho => by have := (OwS.lt HF2.out.own _ ho).2; omega
        have HE1 := Lib.hid he1
        have HZ3 : Hid (Row (w2.alloc (.cells #[.int .u8 0, .int .u8 0, .int .u32 0, .slice none 0 0, .int .i64 0, .int .u32 0, .int .u32 0, .int .u8 0, .bool false, .int .u32 0, .slice none 0 0, .int .u8 0, .int .u32 0] 47)) w2.heap.size 47 (fxc (fm0 0 0 0 0) 0 0)) := by show Row _ _ _ _; rw [fxz]; exact Row.made _ _ _ rfl
        have hbq : Below w2.heap.size w2 ((w2.alloc (.cells #[.int .u8 0, .int .u8 0, .int .u32 0, .slice none 0 0, .int .i64 0, .int .u32 0, .int .u32 0, .int .u8 0, .bool false, .int .u32 0, .slice none 0 0, .int .u8 0, .int .u32 0] 47)).setRow w2.heap.size (fxc el.fm el.s el.c)) := below_setRow ((Below.refl _ _).alloc (Nat.le_refl _) _) _ _ (Nat.le_refl _)
        have HR3 := Lib.hid (HZ3.out.setRow (fxc el.fm el.s el.c))
        have HF3 := Lib.hid (HF2.out.below hbq)
        have HB3 := Lib.hid (HB2.out.trans (hbq.mono HB2.out.size))
        have hin3 : ElIn ((w2.alloc (.cells #[.int .u8 0, .int .u8 0, .int .u32 0, .slice none 0 0, .int .i64 0, .int .u32 0, .int .u32 0, .int .u8 0, .bool false, .int .u32 0, .slice none 0 0, .int .u8 0, .int .u32 0] 47)).setRow w2.heap.size (fxc el.fm el.s el.c)) (fun k => k < ((w2.alloc (.cells #[.int .u8 0, .int .u8 0, .int .u32 0, .slice none 0 0, .int .i64 0, .int .u32 0, .int .u32 0, .int .u8 0, .bool false, .int .u32 0, .slice none 0 0, .int .u8 0, .int .u32 0] 47)).setRow w2.heap.size (fxc el.fm el.s el.c)).heap.size ∧ ¬ ob u7 k ∧ ¬ noX k) el := (hin.keep fun k hk => hbq.block k hk.1).imp fun k hk hl => ⟨hl, hk.2⟩
        have HIN3 := Lib.hid hin3
        clear hX hb2 he1 he2 he3 hin hsc hbq hin3 hget hupN HF HB
        go_upto_region 20 with (refine wpList_sfx (x := el.fm) (y := fm0 0 0 0 0) rfl _ _ rfl rfl rfl HZ3.out ?_)
        generalize (w2.alloc (.cells #[.int .u8 0, .int .u8 0, .int .u32 0, .slice none 0 0, .int .i64 0, .int .u32 0, .int .u32 0, .int .u8 0, .bool false, .int .u32 0, .slice none 0 0, .int .u8 0, .int .u32 0] 47)).setRow w2.heap.size (fxc el.fm el.s el.c) = w3 at *
        generalize w2.heap.size = q at *
        clear HZ3 HF2 HB2
        have hLl : L.length ≤ 1000000 := by have := HC.out; omega
        have hq1 := HR3.out.lt
        have hbq : Below w3.heap.size w3 (w3.alloc (.cells (fxc el.fm el.s el.c) 47)) := (Below.refl _ _).alloc (Nat.le_refl _) _
        have HQ := Lib.hid (Row.new w3 47 (fxc el.fm el.s el.c))
        have HR4 := Lib.hid (HR3.out.below hbq hq1)
        have HF4 := Lib.hid (HF3.out.below hbq)
        have HB4 := Lib.hid (HB3.out.trans (hbq.mono HB3.out.size))
        have hin4 : ElIn (w3.alloc (.cells (fxc el.fm el.s el.c) 47)) (fun k => k < (w3.alloc (.cells (fxc el.fm el.s el.c) 47)).heap.size ∧ ¬ ob u7 k ∧ ¬ noX k) el := (HIN3.out.keep fun k hk => hbq.block k hk.1).imp fun k hk hl => ⟨hl, hk.2⟩
        have HIN4 := Lib.hid hin4
        clear hbq hin4 HF3 HB3 HIN3
        go_upto_region 21 with (first | (refine wpList_fx rfl _ rfl rfl HR3.out ?_) | (refine wpList_bs7 rfl _ rfl rfl ?_) | (at_builtin; refine wpList_app7 rfl (.tmp 78) (.tmp 80) rfl rfl HF4.out el _ rfl HQ.out HIN4.out hLl HB4.out.size (fun k h => h.elim) ?_; intro v9 w9 hL9 hF9 hN9; have HL9 := Lib.hid hL9; have HB9 := Lib.hid (HB4.out.trans (hF9.below (fun k hk _ => (OwS.lt HF4.out.own k hk).1) HB4.out.size)); have HR9 := Lib.hid (hF9.row HOB.out HR4.out); clear hL9 hF9 hN9))
        have c11 : w9.cell? ⟨q, 11, none⟩ = some (.int .u8 (el.s : Int)) := fx_11 HR9.out
        have he : el.rd = RN := HE1.out
        have HE := Lib.hid he
        have hs1 : RN.2.1 = el.s := by rw [← he]; rfl
        clear he
        by_cases hx : el.s = 1
        · have hxi : ((el.s : Int) == 1) = true := by rw [hx]; rfl
          have hfin := HT.out _ _ _ (AllR.fault HU.out (hs1.trans hx))
          have HFin := Lib.hid hfin
          clear hfin HT HU hs1 hx
          go_wp2_with fail
          refine bodyPost_ret (ret_3 rfl _ _ _ (.int .i64 0) (.bool true) rfl rfl rfl) rfl ?_
          exact ⟨L ++ [el], 0, true, _, by rw [List.map_append, List.map_cons, List.map_nil, HE.out]; exact HFin.out, rfl, HL9.out, HB9.out⟩
        · have hxi : ((el.s : Int) == 1) = false := beq_eq_false_iff_ne.2 (by omega)
          have hT' : ∀ out n b, AllR d false out n b → AllR l false ((L ++ [el]).map El.rd ++ out) n b := fun out n b h => by
            have := HT.out _ _ _ (AllR.go HU.out (by rw [hs1]; exact hx) h)
            rw [List.map_append, List.map_cons, List.map_nil, HE.out, List.append_assoc]
            exact this
          have HT2 := Lib.hid hT'
          have hdl := HDL.out
          have hnn := HNN.out
          have hcn := HC.out
          have hm1 := tb_size d
          clear hT' HT HU hs1 hx
          go_wp2_with fail
          go_roundw
          case rel => exact ⟨d, L ++ [el], _, rfl, rfl, by rw [List.length_append, List.length_singleton]; omega, HL9, HB9, HT2⟩
          case measure => simp only [sLen, hsz, hm1]; omega

theorem fx11 : fxc (fm0 0 0 0 0) 1 1 = #[.int .u8 0, .int .u8 0, .int .u32 0, .slice none 0 0, .int .i64 0, .int .u32 0, .int .u32 0, .int .u8 0, .bool false, .int .u32 0, .slice none 0 0, .int .u8 1, .int .u32 1] := by unfold fxc; rfl
theorem fx11m {w : World} {g : Nat} (h : Row w g 47 (fxc (fm0 0 0 0 0) 1 1)) : Row (w.setCell ⟨g, 4, none⟩ (.int .i64 (-1))) g 47 (fxc (fm0 0 0 0 (-1)) 1 1) := by unfold fxc at *; exact h.stored 4 _
theorem FL.fsq {w w' : World} {base q : Nat} {v : Value} (h : FL w base noX v []) (hf : Fs (fun k => k = q) w w') (hq : ¬ ob v q) : FL w' base noX v [] :=
  ⟨hf.owns h.own (fun k hk e => hq (by rw [← e]; exact hk)), fun e he => (by cases he), h.far⟩
def noEl : El := ⟨hdN 0 0 0, 1, 1, none, 0, none, 0⟩
theorem noEl_row : fxc noEl.fm noEl.s noEl.c = fxc (fm0 0 0 0 (-1)) 1 1 := rfl
theorem noEl_rd : List.map El.rd ([] ++ [noEl]) = [noGreet] := rfl
theorem nx_wrong {l : List UInt8} (h : ¬ GreetP l) : nxN l true = (some noGreet, l, true) := by unfold nxN; rw [if_pos rfl, if_pos h]
theorem nx_short {l : List UInt8} (h : GreetP l) (h24 : l.length < 24) : nxN l true = (none, l, true) := by unfold nxN; rw [if_pos rfl, if_neg (fun h1 => h1 h), if_pos h24]
set_option maxRecDepth 100000 in
set_option maxHeartbeats 8000000 in
theorem all_wrong {l : List UInt8} (hl : l.length ≤ 1000000) (hng : ¬ GreetP l) (w : World) : Calls Tryd.prog 10 #[.string (tb l), .bool true] w (AllPost w l true) := by
  obtain ⟨i0, hi0, hz0, hz1, hz2⟩ := info_parts u8_info
  have HF0 : Hid (FL (w.alloc (.cells #[] 47)) w.heap.size noX (.slice (some ⟨w.heap.size, 0, none⟩) 0 0) []) := FL.made w noX (Nat.le_refl _) (fun k h => h.elim)
  have HB0 : Hid (Below w.heap.size w (w.alloc (.cells #[] 47))) := (Below.refl _ _).alloc (Nat.le_refl _) _
  have hsz := tb_size l
  have hsg := tb_size greetL
  rw [greetL_length] at hsg
  obtain ⟨n, hn⟩ : ∃ n, n = min l.length 24 := ⟨_, rfl⟩
  have hnl : n ≤ l.length := by omega
  have hn24 : n ≤ 24 := by omega
  have hc1 : ∀ W : World, (Instr.slice 9 (.string (tb l)) none (some (.int .i64 (n : Int))) none).run Tryd.prog W = .ok (.string (tb (l.take n))) W := fun W => by
    have := tb_upto l (n : Int) (by omega) (by omega) W
    rwa [Int.toNat_natCast] at this
  have hc2 : ∀ W : World, (Instr.slice 9 (.string (tb greetL)) none (some (.int .i64 (n : Int))) none).run Tryd.prog W = .ok (.string (tb (greetL.take n))) W := fun W => by
    have := tb_upto greetL (n : Int) (by omega) (by rw [greetL_length]; omega) W
    rwa [Int.toNat_natCast] at this
  have hte := text_eq (l.take n) (greetL.take n)
  have hmin : min (24 : Int) (l.length : Int) = (n : Int) := by omega
  have hrp := rpref_any
  have hg : ¬ l.take n = greetL.take n := fun e => hng (by unfold GreetP; rw [← hn]; exact e)
  have HFin := Lib.hid (AllR.fault (nx_wrong hng) rfl)
  have hne : ((tb (l.take n)).toList == (tb (greetL.take n)).toList) = false := by unfold tb; rw [hte]; exact decide_eq_false hg
  have HN := Lib.hid hn
  clear hte hg hn
  generalize l.take n = y1 at *
  generalize greetL.take n = y2 at *
  go_enter Tryd.func10, Tryd.ntmps10
  go_wp2_with fail
  refine (hrp _).mono ?_
  rintro e w1 ⟨rfl, rfl⟩
  clear hrp
  go_upto_region 5 with fail
  go_quiet (fail)
  have HB1 := Lib.hid (below_dN HB0.out nq)
  have HL1 := Lib.hid (HF0.out.drewN nq)
  clear hne hc1 hc2 HF0 HB0
  generalize (w.alloc (.cells #[] 47)).drewN nq = w2 at *
  have HZ3 : Hid (Row (w2.alloc (.cells #[.int .u8 0, .int .u8 0, .int .u32 0, .slice none 0 0, .int .i64 0, .int .u32 0, .int .u32 0, .int .u8 0, .bool false, .int .u32 0, .slice none 0 0, .int .u8 0, .int .u32 0] 47)) w2.heap.size 47 (fxc (fm0 0 0 0 0) 0 0)) := by show Row _ _ _ _; rw [fxz]; exact Row.made _ _ _ rfl
  have HR3 := Lib.hid (HZ3.out.setRow (fxc (fm0 0 0 0 0) 1 1))
  have hb3 : Below w2.heap.size w2 ((w2.alloc (.cells #[.int .u8 0, .int .u8 0, .int .u32 0, .slice none 0 0, .int .i64 0, .int .u32 0, .int .u32 0, .int .u8 0, .bool false, .int .u32 0, .slice none 0 0, .int .u8 0, .int .u32 0] 47)).setRow w2.heap.size (fxc (fm0 0 0 0 0) 1 1)) := below_setRow ((Below.refl _ _).alloc (Nat.le_refl _) _) _ _ (Nat.le_refl _)
  have HL3 := Lib.hid (HL1.out.below hb3)
  have HB3 := Lib.hid (HB1.out.trans (hb3.mono HB1.out.size))
  have hw2 : w.heap.size ≤ w2.heap.size := HB1.out.size
  clear hb3
  go_upto_region 7 with (refine wpList_sfx (x := fm0 0 0 0 0) (s := 1) (c := 1) (y := fm0 0 0 0 0) rfl _ _ rfl rfl (show _ = Value.agg (fxc (fm0 0 0 0 0) 1 1) by rw [fx11]; rfl) HZ3.out ?_)
  generalize (w2.alloc (.cells #[.int .u8 0, .int .u8 0, .int .u32 0, .slice none 0 0, .int .i64 0, .int .u32 0, .int .u32 0, .int .u8 0, .bool false, .int .u32 0, .slice none 0 0, .int .u8 0, .int .u32 0] 47)).setRow w2.heap.size (fxc (fm0 0 0 0 0) 1 1) = w3 at *
  have HOB : Hid (¬ ob (.slice (some ⟨w.heap.size, 0, none⟩) 0 0) w2.heap.size) := fun ho => by have := (OwS.lt HL1.out.own _ ho).2; omega
  generalize w2.heap.size = q at *
  clear HZ3 HL1 HB1
  have c4 : w3.cell? ⟨q, 4, none⟩ = some (.int .i64 0) := HR3.out.cell (by rw [fx11]; rfl)
  have t4 := Row.thawed HR3.out 4
  have HR4 : Hid (Row (w3.setCell ⟨q, 4, none⟩ (.int .i64 (-1))) q 47 (fxc noEl.fm noEl.s noEl.c)) := by show Row _ _ _ _; rw [noEl_row]; exact fx11m HR3.out
  have hf4 := (Fs.refl (fun k => k = q) w3).setCell (g := q) (fun _ => rfl) 4 (.int .i64 (-1))
  have HL4 := Lib.hid (FL.fsq HL3.out hf4 HOB.out)
  have HB4 := Lib.hid (HB3.out.trans (hf4.below (B := w.heap.size) (fun k hk _ => by omega) HB3.out.size))
  clear hf4 HL3 HB3 HR3
  go_upto_region 8 with fail
  generalize w3.setCell ⟨q, 4, none⟩ (.int .i64 (-1)) = w4 at *
  have hbq : Below w4.heap.size w4 (w4.alloc (.cells (fxc noEl.fm noEl.s noEl.c) 47)) := (Below.refl _ _).alloc (Nat.le_refl _) _
  have HQ := Lib.hid (Row.new w4 47 (fxc noEl.fm noEl.s noEl.c))
  have HL5 := Lib.hid (HL4.out.below hbq)
  have HB5 := Lib.hid (HB4.out.trans (hbq.mono HB4.out.size))
  clear hbq
  go_wp2_with (first | (refine wpList_fx rfl _ rfl rfl HR4.out ?_) | (refine wpList_bs7 rfl _ rfl rfl ?_) | (at_builtin; refine wpList_app7 rfl (.tmp 32) (.tmp 34) rfl rfl HL5.out noEl _ rfl HQ.out (bare_in _ rfl rfl) (by simp) HB5.out.size (fun k h => h.elim) ?_; intro v9 w9 hL9 hF9 hN9; have HL9 := Lib.hid hL9; have HB9 := Lib.hid (HB5.out.trans (hF9.below (fun k hk _ => (OwS.lt HL5.out.own k hk).1) HB5.out.size)); clear hL9 hF9 hN9))
  refine bodyPost_ret (ret_3 rfl _ _ _ (.int .i64 0) (.bool true) rfl rfl rfl) rfl ?_
  exact ⟨[] ++ [noEl], 0, true, _, by rw [noEl_rd]; exact HFin.out, rfl, HL9.out, HB9.out⟩
set_option maxRecDepth 100000 in
set_option maxHeartbeats 8000000 in
theorem all_short {l : List UInt8} (hl : l.length ≤ 1000000) (hgr : GreetP l) (h24 : l.length < 24) (w : World) : Calls Tryd.prog 10 #[.string (tb l), .bool true] w (AllPost w l true) := by
  obtain ⟨i0, hi0, hz0, hz1, hz2⟩ := info_parts u8_info
  have HF0 : Hid (FL (w.alloc (.cells #[] 47)) w.heap.size noX (.slice (some ⟨w.heap.size, 0, none⟩) 0 0) []) := FL.made w noX (Nat.le_refl _) (fun k h => h.elim)
  have HB0 : Hid (Below w.heap.size w (w.alloc (.cells #[] 47))) := (Below.refl _ _).alloc (Nat.le_refl _) _
  have hsz := tb_size l
  have hsg := tb_size greetL
  rw [greetL_length] at hsg
  obtain ⟨n, hn⟩ : ∃ n, n = min l.length 24 := ⟨_, rfl⟩
  have hnl : n ≤ l.length := by omega
  have hn24 : n ≤ 24 := by omega
  have hc1 : ∀ W : World, (Instr.slice 9 (.string (tb l)) none (some (.int .i64 (n : Int))) none).run Tryd.prog W = .ok (.string (tb (l.take n))) W := fun W => by
    have := tb_upto l (n : Int) (by omega) (by omega) W
    rwa [Int.toNat_natCast] at this
  have hc2 : ∀ W : World, (Instr.slice 9 (.string (tb greetL)) none (some (.int .i64 (n : Int))) none).run Tryd.prog W = .ok (.string (tb (greetL.take n))) W := fun W => by
    have := tb_upto greetL (n : Int) (by omega) (by rw [greetL_length]; omega) W
    rwa [Int.toNat_natCast] at this
  have hte := text_eq (l.take n) (greetL.take n)
  have hmin : min (24 : Int) (l.length : Int) = (n : Int) := by omega
  have hrp := rpref_any
  have hg : l.take n = greetL.take n := by rw [hn]; exact hgr
  have HFin := Lib.hid (AllR.stop (nx_short hgr h24))
  have hne : ((tb (l.take n)).toList == (tb (greetL.take n)).toList) = true := by unfold tb; rw [hte]; exact decide_eq_true hg
  have HN := Lib.hid hn
  clear hte hg hn
  generalize l.take n = y1 at *
  generalize greetL.take n = y2 at *
  go_enter Tryd.func10, Tryd.ntmps10
  go_wp2_with fail
  refine (hrp _).mono ?_
  rintro e w1 ⟨rfl, rfl⟩
  clear hrp
  go_upto_region 5 with fail
  go_quiet (fail)
  have hd : decide ((n : Int) < 24) = true := by have := HN.out; simp; omega
  have hln : n = l.length := by have := HN.out; omega
  clear hne hc1 hc2
  have HLN := Lib.hid hln
  clear hln
  go_wp2_with fail
  refine bodyPost_ret (ret_3 rfl _ _ _ (.int .i64 (n : Int)) (.bool false) rfl rfl rfl) rfl ?_
  rw [HLN.out]
  exact ⟨[], l.length, false, _, HFin.out, rfl, HF0.out.drewN _, below_dN HB0.out _⟩
set_option maxRecDepth 100000 in
set_option maxHeartbeats 8000000 in
theorem all_long {l : List UInt8} (hl : l.length ≤ 1000000) (hgr : GreetP l) (h24 : 24 ≤ l.length) (w : World) : Calls Tryd.prog 10 #[.string (tb l), .bool true] w (AllPost w l true) := by
  obtain ⟨i0, hi0, hz0, hz1, hz2⟩ := info_parts u8_info
  have HF0 : Hid (FL (w.alloc (.cells #[] 47)) w.heap.size noX (.slice (some ⟨w.heap.size, 0, none⟩) 0 0) []) := FL.made w noX (Nat.le_refl _) (fun k h => h.elim)
  have HB0 : Hid (Below w.heap.size w (w.alloc (.cells #[] 47))) := (Below.refl _ _).alloc (Nat.le_refl _) _
  have hsz := tb_size l
  have hsg := tb_size greetL
  rw [greetL_length] at hsg
  obtain ⟨n, hn⟩ : ∃ n, n = min l.length 24 := ⟨_, rfl⟩
  have hnl : n ≤ l.length := by omega
  have hn24 : n ≤ 24 := by omega
  have hc1 : ∀ W : World, (Instr.slice 9 (.string (tb l)) none (some (.int .i64 (n : Int))) none).run Tryd.prog W = .ok (.string (tb (l.take n))) W := fun W => by
    have := tb_upto l (n : Int) (by omega) (by omega) W
    rwa [Int.toNat_natCast] at this
  have hc2 : ∀ W : World, (Instr.slice 9 (.string (tb greetL)) none (some (.int .i64 (n : Int))) none).run Tryd.prog W = .ok (.string (tb (greetL.take n))) W := fun W => by
    have := tb_upto greetL (n : Int) (by omega) (by rw [greetL_length]; omega) W
    rwa [Int.toNat_natCast] at this
  have hte := text_eq (l.take n) (greetL.take n)
  have hmin : min (24 : Int) (l.length : Int) = (n : Int) := by omega
  have hrp := rpref_any
  have hg : l.take n = greetL.take n := by rw [hn]; exact hgr
  have HA0 : Hid (∀ out m b, AllR (l.drop 24) false out m b → AllR l true out m b) := fun out m b h => AllR.same (nx_after hgr h24) h
  have HN24 : Hid (n = 24) := by show n = 24; omega
  have hne : ((tb (l.take n)).toList == (tb (greetL.take n)).toList) = true := by unfold tb; rw [hte]; exact decide_eq_true hg
  have HN := Lib.hid hn
  clear hte hg hn
  generalize l.take n = y1 at *
  generalize greetL.take n = y2 at *
  go_enter Tryd.func10, Tryd.ntmps10
  go_wp2_with fail
  refine (hrp _).mono ?_
  rintro e w1 ⟨rfl, rfl⟩
  clear hrp
  go_upto_region 5 with fail
  go_quiet (fail)
  have hd : decide ((n : Int) < 24) = false := by have := HN24.out; simp; omega
  have hdl : (l.drop 24).length ≤ l.length := by rw [List.length_drop]; omega
  have hc3 : ∀ W : World, (Instr.slice 9 (.string (tb l)) (some (.int .i64 (n : Int))) none none).run Tryd.prog W = .ok (.string (tb (l.drop 24))) W := fun W => by
    have := tb_from l 24 (by omega) (by omega) W
    rw [HN24.out]
    exact this
  have HL1 := Lib.hid (HF0.out.drewN nq)
  have HB1 := Lib.hid (below_dN HB0.out nq)
  generalize l.drop 24 = l4 at *
  clear hne hc1 hc2 HF0 HB0 HN h24
  generalize (w.alloc (.cells #[] 47)).drewN nq = w2 at *
  go_wp2_with fail
  go_loopw [0, 7] (fun a o wr => ∃ (s : List UInt8) (L : List El) (v : Value), a = .string (tb s) ∧ o = v ∧ L.length + s.length ≤ l.length ∧ Hid (FL wr w.heap.size noX v L) ∧ Hid (Below w.heap.size w wr) ∧ Hid (∀ out n b, AllR s false out n b → AllR l true (L.map El.rd ++ out) n b)) (fun a _ _ => sLen a)
  case atStart => exact ⟨l4, [], _, rfl, rfl, by simpa using hdl, HL1, HB1, HA0⟩
  case round =>
    clear hc3 hd hdl hsz HA0 hnl hn24 hmin hgr
    obtain ⟨s, L, v, rfl, rfl, hcnt, HF, HB, HT⟩ := hrel
    have hsz := tb_size s
    by_cases h9 : 9 ≤ s.length
    rotate_left
    · have hst : AllR s false [] s.length false := AllR.stop (r := s) (w' := false) (by unfold nxN; rw [if_neg (by simp)]; unfold nfN; rw [if_pos (by omega)])
      have hfin := HT.out _ _ _ hst
      rw [List.append_nil] at hfin
      have hsl : s.length ≤ 1000000 := by omega
      have HFin := Lib.hid hfin
      clear hfin hst HT
      go_wp2_with fail
      refine bodyPost_ret (ret_3 rfl _ _ _ (.int .i64 (s.length : Int)) (.bool false) rfl rfl rfl) rfl ?_
      exact ⟨L, s.length, false, _, HFin.out, rfl, HF.out, HB.out⟩
    have hsl : s.length ≤ 1000000 := by omega
    have hup := up3 s (by omega)
    have hv := fun W => rvalue_any (s.take 3) (by rw [List.length_take]; omega) W
    have hvb : valL (s.take 3) < 256 ^ 3 := valL_lt' (by rw [List.length_take]; omega)
    have hW : 9 + valL (s.take 3) = wholeN s := rfl
    have hU : nxN s false = if 16393 < wholeN s then (some (greatN s), s, false) else if s.length < wholeN s then (none, s, false) else (some (getN (s.take (wholeN s))), s.drop (wholeN s), false) := by
      unfold nxN
      rw [if_neg (by simp)]
      unfold nfN
      rw [if_neg (by omega)]
      split
      · rfl
      · split
        · rfl
        · rfl
    have HU := Lib.hid hU
    have HV := Lib.hid hvb
    have hvi : (valL (s.take 3) : Int) ≤ 16777216 := by omega
    generalize hM : valL (s.take 3) = M at *
    have HW := Lib.hid hW
    have HMM := Lib.hid hM
    have HC := Lib.hid hcnt
    have HSL := Lib.hid hsl
    have hw3 : IntKind.i64.wrap (M : Int) = (M : Int) := IntWalk.i64_in _ (by omega)
    have hw9 : IntKind.i64.wrap (9 + (M : Int)) = 9 + (M : Int) := IntWalk.i64_in _ (by omega)
    have HVI := Lib.hid hvi
    clear hU hvb hW hM hcnt hsl hvi
    go_wp2_with fail
    refine (hv _).mono ?_
    rintro e w1' ⟨rfl, rfl⟩
    clear hv hup
    by_cases hbig : 16393 < wholeN s
    · rw [if_pos hbig] at HU
      have hbi : decide ((16393 : Int) < 9 + (M : Int)) = true := by have := HW.out; simp; omega
      have hmk : ∀ W : World, (Instr.makeSlice 22 (.int .i64 (M : Int)) (.int .i64 (M : Int))).run Tryd.prog W = .ok (.slice (some ⟨W.heap.size, 0, none⟩) M M) (W.alloc (.cells (madeCells #[Value.int .u8 0] M) 5)) := fun W => by
        have := run_make (P := Tryd.prog) W 22 5 i0 (.int .u8 0) Tryd.underlying22 hi0 hz0 .i64 .i64 (M : Int) (M : Int) (by omega) (by omega) (by rw [hz2]; have := HVI.out; omega) (by have := HVI.out; omega)
        rw [this, hz1, Nat.mul_one]
        rfl
      obtain ⟨z, hz⟩ : ∃ z : List UInt8, z = List.replicate M 0 := ⟨_, rfl⟩
      have hzl : z.length = M := by rw [hz]; exact List.length_replicate
      have hMC : (madeCells #[Value.int .u8 0] M).toList = byc z := by rw [hz]; exact made_zeros M
      have hcv : ∀ (W : World) (q : Nat), Row W q 5 (madeCells #[Value.int .u8 0] M) → (convert 22 9 (.slice (some ⟨q, 0, none⟩) M M)).run Tryd.prog W = .ok (.string (tb z)) W := fun W q hW => by
        have := run_text (P := Tryd.prog) (c := M) Tryd.underlying22 Tryd.underlying5 Tryd.underlying9 (RdB.row hW hMC (Nat.lt_succ_self _))
        rwa [hzl] at this
      have h9l : (s.take 9).length = 9 := by rw [List.length_take]; omega
      have hbl := HVI.out
      have hadd := big_add (s.take 9) z (by omega) (by omega)
      have hget : ∀ W : World, Calls Tryd.prog 18 #[.string (tb (s.take 9 ++ z))] W fun e w' => ∃ x : Fm, e = .returned (.agg (fxc x 1 6)) ∧ x = (greatN s).1.fm x.dA x.dc x.sA x.sc ∧ Below W.heap.size W w' := fun W => by
        refine (rget_any (l := s.take 9 ++ z) (by rw [List.length_append]; omega) W).mono ?_
        rintro e w' ⟨x, rfl, hx, hb⟩
        rw [read_long (k := M) h9 (by have := HW.out; omega) hzl HMM.out] at hx ⊢
        exact ⟨x, rfl, hx.eq, hb⟩
      have hup9 : ∀ W : World, (Instr.slice 9 (.string (tb s)) none (some (.int .i64 9)) none).run Tryd.prog W = .ok (.string (tb (s.take 9))) W := fun W => tb_upto s 9 (by omega) (by omega) W
      generalize s.take 9 ++ z = y at *
      generalize s.take 9 = s9 at *
      clear hz hzl hMC h9l hbl
      generalize madeCells #[Value.int .u8 0] M = MC at *
      have hw0 : IntKind.i64.wrap (9 + (M : Int) - 9) = (M : Int) := by rw [show 9 + (M : Int) - 9 = (M : Int) by omega]; exact hw3
      have HFL := HF
      go_upto_region 15 with fail
      go_cut [12] from 55 to 62 (fun v wx => ∃ k X, v = .pointer (some ⟨k, 0, none⟩) ∧ Hid (wr.heap.size ≤ k) ∧ Hid (Row wx k 47 (fxc X 1 6)) ∧ Hid (X = (greatN s).1.fm X.dA X.dc X.sA X.sc) ∧ Hid (Below wr.heap.size wr wx))
      case first =>
        refine wp_region_held_drew (S := fun _ => True) (by kernel_rfl) trivial (fun hHeld => ?_)
        have HB2 : Hid (Below wr.heap.size wr wr.drew) := (Below.refl _ _).drew
        clear HF HB HT HFL HU
        generalize wr.drew = w2 at *
        refine wpAnyH_take (i := 0) (v := ?v0q4) rfl (by kernel_rfl) (by kernel_rfl) (by kernel_rfl) (fun _ _ _ h => h) (Or.inl ⟨by rfl, ?hy0q4⟩) (by assumption) ?rest0q4
        case hy0q4 => (intro w hSw; (try dsimp only at hSw); go_simp <;> with_reducible rfl)
        try simp only [Act.put, List.getElem_toArray, List.getElem_cons_zero, List.setIfInBounds_toArray, List.set_cons_zero, List.set_cons_succ]
        refine wpAnyH_take (i := 1) (v := ?v1q4) rfl (by kernel_rfl) (by kernel_rfl) (by kernel_rfl) (fun _ _ _ h => h) (Or.inl ⟨by rfl, ?hy1q4⟩) (by assumption) ?rest1q4
        case hy1q4 => (intro w hSw; (try dsimp only at hSw); go_simp <;> with_reducible rfl)
        try simp only [Act.put, List.getElem_toArray, List.getElem_cons_zero, List.getElem_cons_succ, List.setIfInBounds_toArray, List.set_cons_zero, List.set_cons_succ]
        refine wpAnyH_take (i := 2) (v := ?v2q4) rfl (by kernel_rfl) (by kernel_rfl) (by kernel_rfl) (fun _ _ _ h => h) (Or.inl ⟨by rfl, ?hy2q4⟩) (by assumption) ?rest2q4
        case hy2q4 => (intro w hSw; (try dsimp only at hSw); go_simp <;> with_reducible rfl)
        try simp only [Act.put, List.getElem_toArray, List.getElem_cons_zero, List.getElem_cons_succ, List.setIfInBounds_toArray, List.set_cons_zero, List.set_cons_succ]
        refine wpAnyH_take (i := 3) (v := ?v3q4) rfl (by kernel_rfl) (by kernel_rfl) (by kernel_rfl) (fun _ _ _ h => h) (Or.inl ⟨by rfl, ?hy3q4⟩) (by assumption) ?rest3q4
        case hy3q4 => (intro w hSw; (try dsimp only at hSw); go_simp <;> with_reducible rfl)
        try simp only [Act.put, List.getElem_toArray, List.getElem_cons_zero, List.getElem_cons_succ, List.setIfInBounds_toArray, List.set_cons_zero, List.set_cons_succ]
        refine wpAnyH_ready (rs := [4, 8]) (by kernel_rfl) (by simp) ?_
        refine AllReadyH.cons rfl (fun K hK => ?_) (AllReadyH.cons rfl (fun K hK => ?_) AllReadyH.nil)
        · go_simp
          have hbq : Below w2.heap.size w2 (w2.alloc (.cells MC 5)) := (Below.refl _ _).alloc (Nat.le_refl _) _
          have HB3 := Lib.hid (HB2.out.trans (hbq.mono HB2.out.size))
          have HM3 := Lib.hid (Row.new w2 5 MC)
          refine hK.out _ _ trivial (fun hHeld => ?_)
          clear hK K hbq
          generalize w2.alloc (.cells MC 5) = w3 at *
          generalize w2.heap.size = q4 at HM3 ⊢
          try simp only [Act.put, List.getElem_toArray, List.getElem_cons_zero, List.getElem_cons_succ, List.setIfInBounds_toArray, List.set_cons_zero, List.set_cons_succ]
          refine wpAnyH_ready (rs := [5, 8]) (by kernel_rfl) (by simp) ?_
          refine AllReadyH.cons rfl (fun K hK => ?_) (AllReadyH.cons rfl (fun K hK => ?_) AllReadyH.nil)
          · have htx := hcv w3 q4 HM3.out
            go_simp
            refine hK.out _ _ trivial (fun hHeld => ?_)
            clear hK K htx
            try simp only [Act.put, List.getElem_toArray, List.getElem_cons_zero, List.getElem_cons_succ, List.setIfInBounds_toArray, List.set_cons_zero, List.set_cons_succ]
            refine wpAnyH_take (i := 6) (v := ?v6q5) rfl (by kernel_rfl) (by kernel_rfl) (by kernel_rfl) (fun _ _ _ h => h) (Or.inl ⟨by rfl, ?hy6q5⟩) (by assumption) ?rest6q5
            case hy6q5 => (intro w hSw; (try dsimp only at hSw); go_simp <;> with_reducible rfl)
            try simp only [Act.put, List.getElem_toArray, List.getElem_cons_zero, List.getElem_cons_succ, List.setIfInBounds_toArray, List.set_cons_zero, List.set_cons_succ]
            refine wpAnyH_ready (rs := [7, 8]) (by kernel_rfl) (by simp) ?_
            refine AllReadyH.cons rfl (fun K hK => ?_) (AllReadyH.cons rfl (fun K hK => ?_) AllReadyH.nil)
            · go_simp
              go_at_call 18
              refine (hget w3).mono ?_
              rintro e w4 ⟨X, rfl, hX, hbq⟩
              have HB4 := Lib.hid (HB3.out.trans (hbq.mono HB3.out.size))
              have hXe := Lib.hid hX
              refine hK.out _ _ trivial (fun hHeld => ?_)
              clear hK K hbq hX
              try simp only [Act.put, List.getElem_toArray, List.getElem_cons_zero, List.getElem_cons_succ, List.setIfInBounds_toArray, List.set_cons_zero, List.set_cons_succ]
              refine wpAnyH_ready (rs := [8]) (by kernel_rfl) (by simp) ?_
              refine AllReadyH.cons rfl (fun K hK => ?_) AllReadyH.nil
              go_simp
              have hbq : Below w4.heap.size w4 (w4.alloc (.cells #[.int .u8 0, .int .u8 0, .int .u32 0, .slice none 0 0, .int .i64 0, .int .u32 0, .int .u32 0, .int .u8 0, .bool false, .int .u32 0, .slice none 0 0, .int .u8 0, .int .u32 0] 47)) := (Below.refl _ _).alloc (Nat.le_refl _) _
              have HB5 := Lib.hid (HB4.out.trans (hbq.mono HB4.out.size))
              have HA5 : Hid (Row (w4.alloc (.cells #[.int .u8 0, .int .u8 0, .int .u32 0, .slice none 0 0, .int .i64 0, .int .u32 0, .int .u32 0, .int .u8 0, .bool false, .int .u32 0, .slice none 0 0, .int .u8 0, .int .u32 0] 47)) w4.heap.size 47 (fxc (fm0 0 0 0 0) 0 0)) := by show Row _ _ _ _; rw [fxz]; exact Row.made _ _ _ rfl
              have ha8 : Hid (wr.heap.size ≤ w4.heap.size) := HB4.out.size
              refine hK.out _ _ trivial (fun hHeld => ?_)
              clear hK K hbq
              generalize w4.alloc (.cells #[.int .u8 0, .int .u8 0, .int .u32 0, .slice none 0 0, .int .i64 0, .int .u32 0, .int .u32 0, .int .u8 0, .bool false, .int .u32 0, .slice none 0 0, .int .u8 0, .int .u32 0] 47) = w5 at *
              generalize hq8 : w4.heap.size = a8 at HA5 ha8 ⊢
              clear hq8
              try simp only [Act.put, List.getElem_toArray, List.getElem_cons_zero, List.getElem_cons_succ, List.setIfInBounds_toArray, List.set_cons_zero, List.set_cons_succ]
              refine wpAnyH_ready (rs := [9]) (by kernel_rfl) (by simp) ?_
              refine AllReadyH.cons rfl (fun K hK => ?_) AllReadyH.nil
              refine step_sfx (x := X) (y := fm0 0 0 0 0) rfl (.tmp 12) (.tmp 62) rfl rfl rfl HA5.out ?_
              refine hK.out _ _ trivial (fun hHeld => ?_)
              clear hK K
              try simp only [Act.put, List.getElem_toArray, List.getElem_cons_zero, List.getElem_cons_succ]
              refine wpAnyH_done (by kernel_rfl) ?_ _
              go_wp2_with fail
              go_meet
              exact ⟨a8, X, rfl, ha8, HA5.out.setRow _, hXe, below_setRow HB5.out _ _ ha8.out⟩
            · go_simp
              have hbq : Below w3.heap.size w3 (w3.alloc (.cells #[.int .u8 0, .int .u8 0, .int .u32 0, .slice none 0 0, .int .i64 0, .int .u32 0, .int .u32 0, .int .u8 0, .bool false, .int .u32 0, .slice none 0 0, .int .u8 0, .int .u32 0] 47)) := (Below.refl _ _).alloc (Nat.le_refl _) _
              have HB4 := Lib.hid (HB3.out.trans (hbq.mono HB3.out.size))
              have HA4 : Hid (Row (w3.alloc (.cells #[.int .u8 0, .int .u8 0, .int .u32 0, .slice none 0 0, .int .i64 0, .int .u32 0, .int .u32 0, .int .u8 0, .bool false, .int .u32 0, .slice none 0 0, .int .u8 0, .int .u32 0] 47)) w3.heap.size 47 (fxc (fm0 0 0 0 0) 0 0)) := by show Row _ _ _ _; rw [fxz]; exact Row.made _ _ _ rfl
              have ha8 : Hid (wr.heap.size ≤ w3.heap.size) := HB3.out.size
              refine hK.out _ _ trivial (fun hHeld => ?_)
              clear hK K hbq
              generalize w3.alloc (.cells #[.int .u8 0, .int .u8 0, .int .u32 0, .slice none 0 0, .int .i64 0, .int .u32 0, .int .u32 0, .int .u8 0, .bool false, .int .u32 0, .slice none 0 0, .int .u8 0, .int .u32 0] 47) = w4 at *
              generalize hq8 : w3.heap.size = a8 at HA4 ha8 ⊢
              clear hq8
              try simp only [Act.put, List.getElem_toArray, List.getElem_cons_zero, List.getElem_cons_succ, List.setIfInBounds_toArray, List.set_cons_zero, List.set_cons_succ]
              refine wpAnyH_ready (rs := [7]) (by kernel_rfl) (by simp) ?_
              refine AllReadyH.cons rfl (fun K hK => ?_) AllReadyH.nil
              go_simp
              go_at_call 18
              refine (hget w4).mono ?_
              rintro e w5 ⟨X, rfl, hX, hbq⟩
              have HB5 := Lib.hid (HB4.out.trans (hbq.mono HB4.out.size))
              have HA5 := Lib.hid (HA4.out.below hbq HA4.out.lt)
              have hXe := Lib.hid hX
              refine hK.out _ _ trivial (fun hHeld => ?_)
              clear hK K hbq hX
              try simp only [Act.put, List.getElem_toArray, List.getElem_cons_zero, List.getElem_cons_succ, List.setIfInBounds_toArray, List.set_cons_zero, List.set_cons_succ]
              refine wpAnyH_ready (rs := [9]) (by kernel_rfl) (by simp) ?_
              refine AllReadyH.cons rfl (fun K hK => ?_) AllReadyH.nil
              refine step_sfx (x := X) (y := fm0 0 0 0 0) rfl (.tmp 12) (.tmp 62) rfl rfl rfl HA5.out ?_
              refine hK.out _ _ trivial (fun hHeld => ?_)
              clear hK K
              try simp only [Act.put, List.getElem_toArray, List.getElem_cons_zero, List.getElem_cons_succ]
              refine wpAnyH_done (by kernel_rfl) ?_ _
              go_wp2_with fail
              go_meet
              exact ⟨a8, X, rfl, ha8, HA5.out.setRow _, hXe, below_setRow HB5.out _ _ ha8.out⟩
          · go_simp
            have hbq : Below w3.heap.size w3 (w3.alloc (.cells #[.int .u8 0, .int .u8 0, .int .u32 0, .slice none 0 0, .int .i64 0, .int .u32 0, .int .u32 0, .int .u8 0, .bool false, .int .u32 0, .slice none 0 0, .int .u8 0, .int .u32 0] 47)) := (Below.refl _ _).alloc (Nat.le_refl _) _
            have HB4 := Lib.hid (HB3.out.trans (hbq.mono HB3.out.size))
            have HM4 := Lib.hid (HM3.out.below hbq HM3.out.lt)
            have HA4 : Hid (Row (w3.alloc (.cells #[.int .u8 0, .int .u8 0, .int .u32 0, .slice none 0 0, .int .i64 0, .int .u32 0, .int .u32 0, .int .u8 0, .bool false, .int .u32 0, .slice none 0 0, .int .u8 0, .int .u32 0] 47)) w3.heap.size 47 (fxc (fm0 0 0 0 0) 0 0)) := by show Row _ _ _ _; rw [fxz]; exact Row.made _ _ _ rfl
            have ha8 : Hid (wr.heap.size ≤ w3.heap.size) := HB3.out.size
            refine hK.out _ _ trivial (fun hHeld => ?_)
            clear hK K hbq
            generalize w3.alloc (.cells #[.int .u8 0, .int .u8 0, .int .u32 0, .slice none 0 0, .int .i64 0, .int .u32 0, .int .u32 0, .int .u8 0, .bool false, .int .u32 0, .slice none 0 0, .int .u8 0, .int .u32 0] 47) = w4 at *
            generalize hq8 : w3.heap.size = a8 at HA4 ha8 ⊢
            clear hq8
            try simp only [Act.put, List.getElem_toArray, List.getElem_cons_zero, List.getElem_cons_succ, List.setIfInBounds_toArray, List.set_cons_zero, List.set_cons_succ]
            refine wpAnyH_ready (rs := [5]) (by kernel_rfl) (by simp) ?_
            refine AllReadyH.cons rfl (fun K hK => ?_) AllReadyH.nil
            have htx := hcv w4 q4 HM4.out
            go_simp
            refine hK.out _ _ trivial (fun hHeld => ?_)
            clear hK K htx
            try simp only [Act.put, List.getElem_toArray, List.getElem_cons_zero, List.getElem_cons_succ, List.setIfInBounds_toArray, List.set_cons_zero, List.set_cons_succ]
            refine wpAnyH_take (i := 6) (v := ?v6q6) rfl (by kernel_rfl) (by kernel_rfl) (by kernel_rfl) (fun _ _ _ h => h) (Or.inl ⟨by rfl, ?hy6q6⟩) (by assumption) ?rest6q6
            case hy6q6 => (intro w hSw; (try dsimp only at hSw); go_simp <;> with_reducible rfl)
            try simp only [Act.put, List.getElem_toArray, List.getElem_cons_zero, List.getElem_cons_succ, List.setIfInBounds_toArray, List.set_cons_zero, List.set_cons_succ]
            refine wpAnyH_ready (rs := [7]) (by kernel_rfl) (by simp) ?_
            refine AllReadyH.cons rfl (fun K hK => ?_) AllReadyH.nil
            go_simp
            go_at_call 18
            refine (hget w4).mono ?_
            rintro e w5 ⟨X, rfl, hX, hbq⟩
            have HB5 := Lib.hid (HB4.out.trans (hbq.mono HB4.out.size))
            have HA5 := Lib.hid (HA4.out.below hbq HA4.out.lt)
            have hXe := Lib.hid hX
            refine hK.out _ _ trivial (fun hHeld => ?_)
            clear hK K hbq hX
            try simp only [Act.put, List.getElem_toArray, List.getElem_cons_zero, List.getElem_cons_succ, List.setIfInBounds_toArray, List.set_cons_zero, List.set_cons_succ]
            refine wpAnyH_ready (rs := [9]) (by kernel_rfl) (by simp) ?_
            refine AllReadyH.cons rfl (fun K hK => ?_) AllReadyH.nil
            refine step_sfx (x := X) (y := fm0 0 0 0 0) rfl (.tmp 12) (.tmp 62) rfl rfl rfl HA5.out ?_
            refine hK.out _ _ trivial (fun hHeld => ?_)
            clear hK K
            try simp only [Act.put, List.getElem_toArray, List.getElem_cons_zero, List.getElem_cons_succ]
            refine wpAnyH_done (by kernel_rfl) ?_ _
            go_wp2_with fail
            go_meet
            exact ⟨a8, X, rfl, ha8, HA5.out.setRow _, hXe, below_setRow HB5.out _ _ ha8.out⟩
        · go_simp
          have hbq : Below w2.heap.size w2 (w2.alloc (.cells #[.int .u8 0, .int .u8 0, .int .u32 0, .slice none 0 0, .int .i64 0, .int .u32 0, .int .u32 0, .int .u8 0, .bool false, .int .u32 0, .slice none 0 0, .int .u8 0, .int .u32 0] 47)) := (Below.refl _ _).alloc (Nat.le_refl _) _
          have HB3 := Lib.hid (HB2.out.trans (hbq.mono HB2.out.size))
          have HA3 : Hid (Row (w2.alloc (.cells #[.int .u8 0, .int .u8 0, .int .u32 0, .slice none 0 0, .int .i64 0, .int .u32 0, .int .u32 0, .int .u8 0, .bool false, .int .u32 0, .slice none 0 0, .int .u8 0, .int .u32 0] 47)) w2.heap.size 47 (fxc (fm0 0 0 0 0) 0 0)) := by show Row _ _ _ _; rw [fxz]; exact Row.made _ _ _ rfl
          have ha8 : Hid (wr.heap.size ≤ w2.heap.size) := HB2.out.size
          refine hK.out _ _ trivial (fun hHeld => ?_)
          clear hK K hbq
          generalize w2.alloc (.cells #[.int .u8 0, .int .u8 0, .int .u32 0, .slice none 0 0, .int .i64 0, .int .u32 0, .int .u32 0, .int .u8 0, .bool false, .int .u32 0, .slice none 0 0, .int .u8 0, .int .u32 0] 47) = w3 at *
          generalize hq8 : w2.heap.size = a8 at HA3 ha8 ⊢
          clear hq8
          try simp only [Act.put, List.getElem_toArray, List.getElem_cons_zero, List.getElem_cons_succ, List.setIfInBounds_toArray, List.set_cons_zero, List.set_cons_succ]
          refine wpAnyH_ready (rs := [4]) (by kernel_rfl) (by simp) ?_
          refine AllReadyH.cons rfl (fun K hK => ?_) AllReadyH.nil
          go_simp
          have hbq : Below w3.heap.size w3 (w3.alloc (.cells MC 5)) := (Below.refl _ _).alloc (Nat.le_refl _) _
          have HB4 := Lib.hid (HB3.out.trans (hbq.mono HB3.out.size))
          have HA4 := Lib.hid (HA3.out.below hbq HA3.out.lt)
          have HM4 := Lib.hid (Row.new w3 5 MC)
          refine hK.out _ _ trivial (fun hHeld => ?_)
          clear hK K hbq
          generalize w3.alloc (.cells MC 5) = w4 at *
          generalize w3.heap.size = q4 at HM4 ⊢
          try simp only [Act.put, List.getElem_toArray, List.getElem_cons_zero, List.getElem_cons_succ, List.setIfInBounds_toArray, List.set_cons_zero, List.set_cons_succ]
          refine wpAnyH_ready (rs := [5]) (by kernel_rfl) (by simp) ?_
          refine AllReadyH.cons rfl (fun K hK => ?_) AllReadyH.nil
          have htx := hcv w4 q4 HM4.out
          go_simp
          refine hK.out _ _ trivial (fun hHeld => ?_)
          clear hK K htx
          try simp only [Act.put, List.getElem_toArray, List.getElem_cons_zero, List.getElem_cons_succ, List.setIfInBounds_toArray, List.set_cons_zero, List.set_cons_succ]
          refine wpAnyH_take (i := 6) (v := ?v6q7) rfl (by kernel_rfl) (by kernel_rfl) (by kernel_rfl) (fun _ _ _ h => h) (Or.inl ⟨by rfl, ?hy6q7⟩) (by assumption) ?rest6q7
          case hy6q7 => (intro w hSw; (try dsimp only at hSw); go_simp <;> with_reducible rfl)
          try simp only [Act.put, List.getElem_toArray, List.getElem_cons_zero, List.getElem_cons_succ, List.setIfInBounds_toArray, List.set_cons_zero, List.set_cons_succ]
          refine wpAnyH_ready (rs := [7]) (by kernel_rfl) (by simp) ?_
          refine AllReadyH.cons rfl (fun K hK => ?_) AllReadyH.nil
          go_simp
          go_at_call 18
          refine (hget w4).mono ?_
          rintro e w5 ⟨X, rfl, hX, hbq⟩
          have HB5 := Lib.hid (HB4.out.trans (hbq.mono HB4.out.size))
          have HA5 := Lib.hid (HA4.out.below hbq HA4.out.lt)
          have hXe := Lib.hid hX
          refine hK.out _ _ trivial (fun hHeld => ?_)
          clear hK K hbq hX
          try simp only [Act.put, List.getElem_toArray, List.getElem_cons_zero, List.getElem_cons_succ, List.setIfInBounds_toArray, List.set_cons_zero, List.set_cons_succ]
          refine wpAnyH_ready (rs := [9]) (by kernel_rfl) (by simp) ?_
          refine AllReadyH.cons rfl (fun K hK => ?_) AllReadyH.nil
          refine step_sfx (x := X) (y := fm0 0 0 0 0) rfl (.tmp 12) (.tmp 62) rfl rfl rfl HA5.out ?_
          refine hK.out _ _ trivial (fun hHeld => ?_)
          clear hK K
          try simp only [Act.put, List.getElem_toArray, List.getElem_cons_zero, List.getElem_cons_succ]
          refine wpAnyH_done (by kernel_rfl) ?_ _
          go_wp2_with fail
          go_meet
          exact ⟨a8, X, rfl, ha8, HA5.out.setRow _, hXe, below_setRow HB5.out _ _ ha8.out⟩
      case rest =>
        obtain ⟨k, X, rfl, hk, HR, hXe, HBc⟩ := hcut
        obtain ⟨e, he1, he2, he3⟩ : ∃ e : El, e.rd = greatN s ∧ fxc e.fm e.s e.c = fxc X 1 6 ∧ ∀ W R, ElIn W R e := ⟨⟨(greatN s).1, 1, 6, X.dA, X.dc, X.sA, X.sc⟩, rfl, by rw [hXe.out]; rfl, fun W R => bare_in _ rfl rfl⟩
        rw [← he2] at HR
        have HE3 := Lib.hid he3
        have HE1 := Lib.hid he1
        have hfin := HT.out _ _ _ (AllR.fault HU.out rfl)
        have HFin := Lib.hid hfin
        have HE2 := Lib.hid he2
        have HQ := Lib.hid (Row.new wc 47 (fxc e.fm e.s e.c))
        have hbq : Below wc.heap.size wc (wc.alloc (.cells (fxc e.fm e.s e.c) 47)) := (Below.refl _ _).alloc (Nat.le_refl _) _
        have HLq := Lib.hid ((HF.out.below HBc.out).below hbq)
        have HBq := Lib.hid ((HB.out.trans (HBc.out.mono HB.out.size)).trans (hbq.mono (Nat.le_trans HB.out.size HBc.out.size)))
        have hLl : L.length ≤ 1000000 := by have := HC.out; omega
        clear hfin he1 he2 he3 hmk hcv hadd hget HT HU hbq HF HB
        go_wp2_with (first | (refine wpList_fx rfl _ rfl rfl HR.out ?_) | (refine wpList_bs7 rfl _ rfl rfl ?_) | (at_builtin; refine wpList_app7 rfl (.tmp 63) (.tmp 65) rfl rfl HLq.out e _ rfl HQ.out (HE3.out _ _) hLl HBq.out.size (fun k h => h.elim) ?_; intro v9 w9 hL9 hF9 hN9; have HL9 := Lib.hid hL9; have HB9 := Lib.hid (HBq.out.trans (hF9.below (fun k hk _ => (OwS.lt HLq.out.own k hk).1) HBq.out.size)); clear hL9 hF9 hN9))
        refine bodyPost_ret (ret_3 rfl _ _ _ (.int .i64 0) (.bool true) rfl rfl rfl) rfl ?_
        exact ⟨L ++ [e], 0, true, _, by rw [List.map_append, List.map_cons, List.map_nil, HE1.out]; exact HFin.out, rfl, HL9.out, HB9.out⟩
    · rw [if_neg hbig] at HU
      have hbi : decide ((16393 : Int) < 9 + (M : Int)) = false := by have := HW.out; simp; omega
      by_cases hsh : s.length < wholeN s
      · rw [if_pos hsh] at HU
        have hsi : decide ((s.length : Int) < 9 + (M : Int)) = true := by have := HW.out; simp; omega
        have hfin := HT.out _ _ _ (AllR.stop HU.out)
        rw [List.append_nil] at hfin
        have HFin := Lib.hid hfin
        clear hfin HT HU
        go_wp2_with fail
        refine bodyPost_ret (ret_3 rfl _ _ _ (.int .i64 (s.length : Int)) (.bool false) rfl rfl rfl) rfl ?_
        exact ⟨L, s.length, false, _, HFin.out, rfl, HF.out, HB.out⟩
      · rw [if_neg hsh] at HU
        have hsi : decide ((s.length : Int) < 9 + (M : Int)) = false := by have := HW.out; simp; omega
        have hWn := HW.out
        obtain ⟨N, hN⟩ : ∃ N, N = wholeN s := ⟨_, rfl⟩
        rw [← hN] at HU hWn hsh hbig
        have hNs : N ≤ s.length := by omega
        have hupN : ∀ W : World, (Instr.slice 9 (.string (tb s)) none (some (.int .i64 (9 + (M : Int)))) none).run Tryd.prog W = .ok (.string (tb (s.take N))) W := fun W => by
          have := tb_upto s ((N : Nat) : Int) (by omega) (by omega) W
          rw [Int.toNat_natCast] at this
          rwa [show (9 + (M : Int)) = ((N : Nat) : Int) by omega]
        have hdrN : ∀ W : World, (Instr.slice 9 (.string (tb s)) (some (.int .i64 (9 + (M : Int)))) none none).run Tryd.prog W = .ok (.string (tb (s.drop N))) W := fun W => by
          have := tb_from s ((N : Nat) : Int) (by omega) (by omega) W
          rw [Int.toNat_natCast] at this
          rwa [show (9 + (M : Int)) = ((N : Nat) : Int) by omega]
        have hget := rget_any (l := s.take N) (by rw [List.length_take]; omega)
        have hdl : (s.drop N).length = s.length - N := List.length_drop
        have hN9 : 9 ≤ N := by omega
        generalize hRN : getN (s.take N) = RN at *
        generalize hD : s.drop N = d at *
        generalize s.take N = y at *
        have HDL := Lib.hid hdl
        have HNN := Lib.hid (And.intro hNs hN9)
        clear hWn hN hNs hRN hD hdl hsh hbig hN9
        go_wp2_with fail
        refine (hget _).mono ?_
        rintro e w2 ⟨X, rfl, hX, hb2⟩
        have HF2 := Lib.hid (HF.out.below hb2)
        have HB2 := Lib.hid (HB.out.trans (hb2.mono HB.out.size))
        obtain ⟨el, he1, he2, he3⟩ := FmR.el hX RN.2.1 RN.2.2
        have hin : ElIn w2 (fun k => k < w2.heap.size ∧ ¬ ob u7 k ∧ ¬ noX k) el := he3.imp fun k hk hl => ⟨hl, fun ho => by have := (OwS.lt HF.out.own k ho).2; omega, fun h => h⟩
        rw [← he2]
        have hsc : el.s = RN.2.1 ∧ el.c = RN.2.2 := by
          injection he1 with _ q
          injection q with q1 q2
          exact ⟨q1, q2⟩
        rw [← hsc.1, ← hsc.2]
        have HOB : Hid (¬ ob u7 w2.heap.size) := fun ho => by have := (OwS.lt HF2.out.own _ ho).2; omega
        have HE1 := Lib.hid he1
        have HZ3 : Hid (Row (w2.alloc (.cells #[.int .u8 0, .int .u8 0, .int .u32 0, .slice none 0 0, .int .i64 0, .int .u32 0, .int .u32 0, .int .u8 0, .bool false, .int .u32 0, .slice none 0 0, .int .u8 0, .int .u32 0] 47)) w2.heap.size 47 (fxc (fm0 0 0 0 0) 0 0)) := by show Row _ _ _ _; rw [fxz]; exact Row.made _ _ _ rfl
        have hbq : Below w2.heap.size w2 ((w2.alloc (.cells #[.int .u8 0, .int .u8 0, .int .u32 0, .slice none 0 0, .int .i64 0, .int .u32 0, .int .u32 0, .int .u8 0, .bool false, .int .u32 0, .slice none 0 0, .int .u8 0, .int .u32 0] 47)).setRow w2.heap.size (fxc el.fm el.s el.c)) := below_setRow ((Below.refl _ _).alloc (Nat.le_refl _) _) _ _ (Nat.le_refl _)
        have HR3 := Lib.hid (HZ3.out.setRow (fxc el.fm el.s el.c))
        have HF3 := Lib.hid (HF2.out.below hbq)
        have HB3 := Lib.hid (HB2.out.trans (hbq.mono HB2.out.size))
        have hin3 : ElIn ((w2.alloc (.cells #[.int .u8 0, .int .u8 0, .int .u32 0, .slice none 0 0, .int .i64 0, .int .u32 0, .int .u32 0, .int .u8 0, .bool false, .int .u32 0, .slice none 0 0, .int .u8 0, .int .u32 0] 47)).setRow w2.heap.size (fxc el.fm el.s el.c)) (fun k => k < ((w2.alloc (.cells #[.int .u8 0, .int .u8 0, .int .u32 0, .slice none 0 0, .int .i64 0, .int .u32 0, .int .u32 0, .int .u8 0, .bool false, .int .u32 0, .slice none 0 0, .int .u8 0, .int .u32 0] 47)).setRow w2.heap.size (fxc el.fm el.s el.c)).heap.size ∧ ¬ ob u7 k ∧ ¬ noX k) el := (hin.keep fun k hk => hbq.block k hk.1).imp fun k hk hl => ⟨hl, hk.2⟩
        have HIN3 := Lib.hid hin3
        clear hX hb2 he1 he2 he3 hin hsc hbq hin3 hget hupN HF HB
        go_upto_region 20 with (refine wpList_sfx (x := el.fm) (y := fm0 0 0 0 0) rfl _ _ rfl rfl rfl HZ3.out ?_)
        generalize (w2.alloc (.cells #[.int .u8 0, .int .u8 0, .int .u32 0, .slice none 0 0, .int .i64 0, .int .u32 0, .int .u32 0, .int .u8 0, .bool false, .int .u32 0, .slice none 0 0, .int .u8 0, .int .u32 0] 47)).setRow w2.heap.size (fxc el.fm el.s el.c) = w3 at *
        generalize w2.heap.size = q at *
        clear HZ3 HF2 HB2
        have hLl : L.length ≤ 1000000 := by have := HC.out; omega
        have hq1 := HR3.out.lt
        have hbq : Below w3.heap.size w3 (w3.alloc (.cells (fxc el.fm el.s el.c) 47)) := (Below.refl _ _).alloc (Nat.le_refl _) _
        have HQ := Lib.hid (Row.new w3 47 (fxc el.fm el.s el.c))
        have HR4 := Lib.hid (HR3.out.below hbq hq1)
        have HF4 := Lib.hid (HF3.out.below hbq)
        have HB4 := Lib.hid (HB3.out.trans (hbq.mono HB3.out.size))
        have hin4 : ElIn (w3.alloc (.cells (fxc el.fm el.s el.c) 47)) (fun k => k < (w3.alloc (.cells (fxc el.fm el.s el.c) 47)).heap.size ∧ ¬ ob u7 k ∧ ¬ noX k) el := (HIN3.out.keep fun k hk => hbq.block k hk.1).imp fun k hk hl => ⟨hl, hk.2⟩
        have HIN4 := Lib.hid hin4
        clear hbq hin4 HF3 HB3 HIN3
        go_upto_region 21 with (first | (refine wpList_fx rfl _ rfl rfl HR3.out ?_) | (refine wpList_bs7 rfl _ rfl rfl ?_) | (at_builtin; refine wpList_app7 rfl (.tmp 78) (.tmp 80) rfl rfl HF4.out el _ rfl HQ.out HIN4.out hLl HB4.out.size (fun k h => h.elim) ?_; intro v9 w9 hL9 hF9 hN9; have HL9 := Lib.hid hL9; have HB9 := Lib.hid (HB4.out.trans (hF9.below (fun k hk _ => (OwS.lt HF4.out.own k hk).1) HB4.out.size)); have HR9 := Lib.hid (hF9.row HOB.out HR4.out); clear hL9 hF9 hN9))
        have c11 : w9.cell? ⟨q, 11, none⟩ = some (.int .u8 (el.s : Int)) := fx_11 HR9.out
        have he : el.rd = RN := HE1.out
        have HE := Lib.hid he
        have hs1 : RN.2.1 = el.s := by rw [← he]; rfl
        clear he
        by_cases hx : el.s = 1
        · have hxi : ((el.s : Int) == 1) = true := by rw [hx]; rfl
          have hfin := HT.out _ _ _ (AllR.fault HU.out (hs1.trans hx))
          have HFin := Lib.hid hfin
          clear hfin HT HU hs1 hx
          go_wp2_with fail
          refine bodyPost_ret (ret_3 rfl _ _ _ (.int .i64 0) (.bool true) rfl rfl rfl) rfl ?_
          exact ⟨L ++ [el], 0, true, _, by rw [List.map_append, List.map_cons, List.map_nil, HE.out]; exact HFin.out, rfl, HL9.out, HB9.out⟩
        · have hxi : ((el.s : Int) == 1) = false := beq_eq_false_iff_ne.2 (by omega)
          have hT' : ∀ out n b, AllR d false out n b → AllR l true ((L ++ [el]).map El.rd ++ out) n b := fun out n b h => by
            have := HT.out _ _ _ (AllR.go HU.out (by rw [hs1]; exact hx) h)
            rw [List.map_append, List.map_cons, List.map_nil, HE.out, List.append_assoc]
            exact this
          have HT2 := Lib.hid hT'
          have hdl := HDL.out
          have hnn := HNN.out
          have hcn := HC.out
          have hm1 := tb_size d
          clear hT' HT HU hs1 hx
          go_wp2_with fail
          go_roundw
          case rel => exact ⟨d, L ++ [el], _, rfl, rfl, by rw [List.length_append, List.length_singleton]; omega, HL9, HB9, HT2⟩
          case measure => simp only [sLen, hsz, hm1]; omega

theorem all_any {l : List UInt8} (hl : l.length ≤ 1000000) (p : Bool) (w : World) : Calls Tryd.prog 10 #[.string (tb l), .bool p] w (AllPost w l p) := by
  cases p
  · exact all_bare hl w
  · by_cases hg : GreetP l
    · by_cases h24 : l.length < 24
      · exact all_short hl hg h24 w
      · exact all_long hl hg (by omega) w
    · exact all_wrong hl hg w
end Go.Proofs.YtnjnepploockiaaDoor
