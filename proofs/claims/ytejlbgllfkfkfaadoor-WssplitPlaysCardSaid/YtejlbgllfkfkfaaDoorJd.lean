/-
  On the way through a law: a splitter, the frames that it told, what it will tell. Conditions: those that each theorem names.
-/
import Derived.Test.YtejlbgllfkfkfaaDoorJt
import Derived.Test.YtejlbgllfkfkfaaDoorJfd
import Derived.Test.YtejlbgllfkfkfaaDoorJpl
namespace Go.Proofs.YtejlbgllfkfkfaaDoor
open Go.RowKit Go.WideShapes

def heldN (w : World) (g : Nat) : Nat := match w.cell? ⟨g, 0, none⟩ with
  | some (.slice _ n _) => n
  | _ => 0
theorem Sj.held {w : World} {base g : Nat} {v : Value} {m bad : Bool} {l : List UInt8} (h : Sj w base g v m l bad) : heldN w g = l.length := by
  obtain ⟨A, c, _, _, hc⟩ := h.form
  unfold heldN
  rw [hc]
theorem Sj.bad_nil {w : World} {base g : Nat} {v : Value} {m bad : Bool} {l : List UInt8} (h : Sj w base g v m l bad) (hb : bad = true) : l = [] := by
  rcases h with ⟨h0, _⟩ | ⟨_, h⟩
  · rw [h0] at hb; cases hb
  · exact h.nul.2
/-- A row of another type than those that a splitter and its frames lie in. -/
def OddJ (W : World) (r : Nat × TypeId × Array Value) : Prop := Row W r.1 r.2.1 r.2.2 ∧ r.2.1 ≠ 5 ∧ r.2.1 ≠ 47 ∧ r.2.1 ≠ 31
theorem OddJ.below {W W' : World} {r : Nat × TypeId × Array Value} (h : OddJ W r) (hb : Below W.heap.size W W') : OddJ W' r := ⟨h.1.below hb h.1.lt, h.2⟩
theorem Row.neJ {w : World} {a b : Nat} {t u : TypeId} {cs ds : Array Value} (h : Row w a t cs) (h' : Row w b u ds) (ht : t ≠ u) : a ≠ b := fun e => by
  subst e
  have h1 : w.heap[a]? = some (.cells cs t) := h
  have h2 : w.heap[a]? = some (.cells ds u) := h'
  rw [h1] at h2
  injection h2 with h2
  injection h2 with h2 h3
  exact ht h3
theorem OddJ.sj {W W' : World} {r : Nat × TypeId × Array Value} (h : OddJ W r) {base g : Nat} {v : Value} {m bad : Bool} {l : List UInt8} (hs : Sj W base g v m l bad) (hf : Fs (jvS g v) W W') : OddJ W' r :=
  ⟨hf.row (fun hk => by
    rcases hs with ⟨_, hs⟩ | ⟨_, hs⟩
    · exact hk.elim (Row.neJ h.1 hs.row h.2.2.1) (hs.own.neJ h.1 h.2.1)
    · exact hk.elim (Row.neJ h.1 hs.row h.2.2.1) (fun hk => by rw [hs.nul.1] at hk; cases hk)) h.1, h.2⟩
theorem OddJ.pl {W W' : World} {r : Nat × TypeId × Array Value} (h : OddJ W r) {base n : Nat} {v : Value} {cs : List Value} (hs : OwS W base 31 5 v n cs) (hf : Fs (ob v) W W') : OddJ W' r :=
  ⟨hf.row (OwS.neJ hs h.1 h.2.2.2) h.1, h.2⟩
/-- Behind world w, in which a splitter g was made: the slice gv of what it told of b0, what it holds; z is still to come. -/
structure DJ (R : List (Nat × TypeId × Array Value)) (w : World) (g : Nat) (m : Bool) (b0 z : List UInt8) (W : World) (gv v : Value) (L : List Pe) (l : List UInt8) (bad : Bool) (code : Nat) : Prop where
  pl : PL W g (jvS g v) gv L
  sj : Sj W g g v m l bad
  pt : PT b0 m (L.map Pe.p) (l ++ z) bad code
  bl : Below w.heap.size w W
  gl : GlobE W
  le : w.heap.size ≤ g
  ex : ∀ r ∈ R, OddJ W r
/-- .. and one more frame that was told, not yet laid there. -/
structure DJf (R : List (Nat × TypeId × Array Value)) (w : World) (g : Nat) (m : Bool) (b0 z : List UInt8) (W : World) (gv v : Value) (L : List Pe) (l : List UInt8) (e : Pe) (code : Nat) : Prop where
  pl : PL W g (jvS g v) gv L
  rd : RdS W (fun k => k < W.heap.size ∧ ¬ ob gv k ∧ ¬ jvS g v k) e.A (byc e.p.dat)
  sj : Sj W g g v m l false
  pt : PT b0 m (L.map Pe.p ++ [e.p]) (l ++ z) false code
  bl : Below w.heap.size w W
  gl : GlobE W
  le : w.heap.size ≤ g
  ex : ∀ r ∈ R, OddJ W r
section
variable {R : List (Nat × TypeId × Array Value)} {w W W' : World} {g : Nat} {m bad : Bool} {b0 z l : List UInt8} {gv v : Value} {L : List Pe} {code : Nat} {e : Pe}
theorem DJ.below (h : DJ R w g m b0 z W gv v L l bad code) (hb : Below W.heap.size W W') : DJ R w g m b0 z W' gv v L l bad code :=
  ⟨h.pl.below hb, h.sj.below hb, h.pt, h.bl.trans (hb.mono h.bl.size), h.gl.below hb, h.le, fun r hr => (h.ex r hr).below hb⟩
theorem DJf.below (h : DJf R w g m b0 z W gv v L l e code) (hb : Below W.heap.size W W') : DJf R w g m b0 z W' gv v L l e code :=
  ⟨h.pl.below hb, (h.rd.keep fun k hk => hb.block k hk.1).imp fun _ hk hl => ⟨hl, hk.2⟩, h.sj.below hb, h.pt, h.bl.trans (hb.mono h.bl.size), h.gl.below hb, h.le, fun r hr => (h.ex r hr).below hb⟩
theorem DJ.size (h : DJ R w g m b0 z W gv v L l bad code) : g < W.heap.size := h.sj.lts.1
/-- The frame is laid behind the others. -/
theorem DJf.app (h : DJf R w g m b0 z W gv v L l e code) {gv' : Value} (hp : PL W' g (jvS g v) gv' (L ++ [e])) (hf : Fs (ob gv) W W') : DJ R w g m b0 z W' gv' v (L ++ [e]) l false code := by
  refine ⟨hp, h.sj.fs hf (fun hk => h.pl.far g hk (.inl rfl)) (fun k hk hk2 => h.pl.far k hk2 (.inr hk)), ?_, h.bl.trans (hf.below (fun k hk _ => Nat.le_trans h.le (OwS.lt h.pl.own k hk).1) h.bl.size), h.gl.fsJ hf (fun hk => ?_), h.le, fun r hr => (h.ex r hr).pl h.pl.own hf⟩
  · rw [List.map_append]
    exact h.pt
  · have := (OwS.lt h.pl.own _ hk).1
    have := h.sj.lts.2.2.1
    omega
theorem DJ.len (h : DJ R w g m b0 z W gv v L l bad code) : L.length ≤ b0.length := by
  have := h.pt.len
  rwa [List.length_map] at this
theorem DJf.len (h : DJf R w g m b0 z W gv v L l e code) : L.length ≤ b0.length := by
  have := h.pt.len
  rw [List.length_append, List.length_map] at this
  omega
/-- What Next comes to here. -/
def NextD (R : List (Nat × TypeId × Array Value)) (w : World) (g : Nat) (m : Bool) (b0 z : List UInt8) (gv : Value) (L : List Pe) (l : List UInt8) (bad : Bool) (code : Nat) (e : Ending) (W' : World) : Prop :=
  (∃ A c v', e = .returned (.tuple #[.agg (pcA Pc.zero A c), .agg (ftI (scI 0) 0), .bool false]) ∧ DJ R w g m b0 z W' gv v' L l bad code ∧ (bad = true ∨ WaitJ m l)) ∨
  (∃ A c v' k, e = .returned (.tuple #[.agg (pcA Pc.zero A c), .agg (ftI 3 k), .bool true]) ∧ DJ R w g m b0 z W' gv v' L [] true k ∧ k ≠ 0 ∧ k ≤ 1009 ∧ bad = false ∧ 0 < l.length) ∨
  (∃ p A c v' l', e = .returned (.tuple #[.agg (pcA p A c), .agg (ftI (scI 0) 0), .bool true]) ∧ DJf R w g m b0 z W' gv v' L l' ⟨p, A, c⟩ code ∧ bad = false ∧ l'.length < l.length)
theorem DJ.next (h : DJ R w g m b0 z W gv v L l bad code) : Calls Tryd.prog 12 #[.pointer (some ⟨g, 0, none⟩)] W (NextD R w g m b0 z gv L l bad code) := by
  refine (jnext_any h.sj h.gl).mono ?_
  rintro e W' ⟨A, c, v', rfl, hd, _, hs, hf, hv⟩
  have hX : ∀ k, jvS g v' k → jvS g v k ∨ W.heap.size ≤ k := fun k hk => .inl (hk.imp id (hv k))
  have hpl := h.pl.move hf hX
  have hbl := h.bl.trans (h.sj.base_fs hf h.le h.bl.size)
  have hgl := h.sj.glob hf h.gl
  have hex : ∀ r ∈ R, OddJ W' r := fun r hr => (h.ex r hr).sj h.sj hf
  rcases nj_cases m l bad h.sj.bad_nil with ⟨h1, h2⟩ | ⟨hb, hc, h1, h2⟩ | ⟨hb, hg, h1, h2⟩
  · rw [h1] at hs ⊢
    exact .inl ⟨A, c, v', rfl, ⟨hpl, hs, h.pt, hbl, hgl, h.le, hex⟩, h2⟩
  · have hpt := h.pt
    rw [h1] at hs ⊢
    rw [hb] at hpt
    exact .inr (.inl ⟨A, c, v', (hdI m l).code, by rw [← scI_ne hc]; rfl, ⟨hpl, hs, hpt.fault hc _, hbl, hgl, h.le, hex⟩, hc, (hdI_small m l).2.2, hb, h2⟩)
  · have hpt := h.pt
    rw [h1] at hs hd ⊢
    rw [hb] at hpt
    refine .inr (.inr ⟨_, A, c, v', _, rfl, ⟨hpl, hd.imp fun k hk hl => ⟨hl, fun ho => ?_, fun hx => ?_⟩, hs, hpt.frame hg, hbl, hgl, h.le, hex⟩, hb, h2⟩)
    · have := (OwS.lt h.pl.own k ho).2
      have := hk.1
      omega
    · have h3 := h.sj.lts
      rcases hx with rfl | hx
      · have := hk.1; omega
      · have := (h3.2.1 k (hv k hx)).2
        have := hk.1
        omega
/-- What Feed comes to here. -/
def FeedD (R : List (Nat × TypeId × Array Value)) (w : World) (g : Nat) (m : Bool) (b0 z : List UInt8) (gv : Value) (L : List Pe) (l : List UInt8) (bad : Bool) (code n : Nat) (e : Ending) (W' : World) : Prop :=
  e = .returned (.int .i64 (n : Int)) ∧ ∃ v', DJ R w g m b0 z W' gv v' L l bad code
theorem DJ.feed {x z' : List UInt8} {n : Nat} {Ax : Option Addr} {B cx : Nat} (h : DJ R w g m b0 (x ++ z') W gv v L l false code) (hx : RdB W B Ax x) (hxc : x.length ≤ cx) (hn : n = min x.length (4110 - l.length)) :
    Calls Tryd.prog 11 #[.pointer (some ⟨g, 0, none⟩), .slice Ax x.length cx] W (FeedD R w g m b0 (x.drop n ++ z') gv L (l ++ x.take n) false code n) := by
  refine (jfeed_any h.sj hx hxc).mono ?_
  rintro e W' ⟨rfl, v', hs, hf, hnx⟩
  have e1 : fedJn l false x = n := by unfold fedJn; rw [if_neg (by simp)]; exact hn.symm
  have htk : x.take (4110 - l.length) = x.take n := by
    rcases Nat.lt_or_ge x.length (4110 - l.length) with h1 | h1
    · rw [show n = x.length by omega, List.take_length, List.take_of_length_le (by omega)]
    · rw [show n = 4110 - l.length by omega]
  have e2 : fedJ l false x = l ++ x.take n := by unfold fedJ; rw [if_neg (by simp), htk]
  rw [e1]
  rw [e2] at hs
  refine ⟨rfl, v', h.pl.move hf (fun k hk => ?_), hs, ?_, h.bl.trans (h.sj.base_fs hf h.le h.bl.size), h.sj.glob hf h.gl, h.le, fun r hr => (h.ex r hr).sj h.sj hf⟩
  · rcases hk with hk | hk
    · exact .inl (.inl hk)
    · exact (hnx.own hk).imp .inr id
  · have h1 := h.pt
    have e3 : l ++ x.take n ++ (x.drop n ++ z') = l ++ (x ++ z') := by
      rw [List.append_assoc, ← List.append_assoc (x.take n), List.take_append_drop]
    rw [e3]
    exact h1
/-- At New. -/
theorem DJ.start {w0 : World} (hb : Below w.heap.size w w0) (hs : Sj W w0.heap.size w0.heap.size (.slice none 0 0) m [] false) (hb2 : Below w0.heap.size w0 W) (hG : GlobE w) (b0 : List UInt8) : DJ [] w w0.heap.size m b0 b0 W (.slice none 0 0) (.slice none 0 0) [] [] false 0 :=
  ⟨PL.nil _ _ _, hs, PT.start b0 m, hb.trans (hb2.mono hb.size), (hG.below hb).below hb2, hb.size, fun r hr => (by cases hr)⟩
/-- A row of another type is watched, too. -/
theorem DJ.watch (h : DJ R w g m b0 z W gv v L l bad code) {r : Nat × TypeId × Array Value} (hr : OddJ W r) : DJ (r :: R) w g m b0 z W gv v L l bad code :=
  ⟨h.pl, h.sj, h.pt, h.bl, h.gl, h.le, fun r' h' => by
    rcases List.mem_cons.1 h' with rfl | h'
    · exact hr
    · exact h.ex r' h'⟩
/-- A bad one: what is still to come doesn't matter. -/
theorem DJ.badz (h : DJ R w g m b0 z W gv v L l true code) (z' : List UInt8) : DJ R w g m b0 z' W gv v L l true code := ⟨h.pl, h.sj, h.pt.badS _, h.bl, h.gl, h.le, h.ex⟩
/-- All that was told, where nothing else comes. -/
theorem DJ.done (h : DJ R w g m b0 [] W gv v L l bad code) (hw : bad = true ∨ WaitJ m l) : AllJ m b0 (L.map Pe.p) code l.length := by
  have h1 := h.pt
  rw [List.append_nil] at h1
  exact h1.done hw h.sj.bad_nil
theorem DJ.room (h : DJ R w g m b0 z W gv v L l bad code) (hw : bad = true ∨ WaitJ m l) : l.length < 4104 := by
  rcases hw with hw | hw
  · rw [h.sj.bad_nil hw]; simp
  · exact wait_J hw
theorem wpList_appD {ops : Array Oper} {rest : List Oper} {o : Oper} {a : Act} {Q : Exit → Act → World → Prop} (hgd : o.guard = none) (s x : Operand) (ho : o.op = .call { callee := .builtin .append, args := #[s, x], argTypes := #[26, 26] })
    (hs : a.eval s = gv) (h : DJf R w g m b0 z W gv v L l e code) (q : Nat) (hx : a.eval x = .slice (some ⟨q, 0, none⟩) 1 1) (hq : Row W q 31 (pcA e.p e.A e.c)) (hb0 : b0.length ≤ 1000000)
    (hk : ∀ gv' W', DJ R w g m b0 z W' gv' v (L ++ [e]) l false code → wpList Tryd.prog ops Q rest (a.put o.dst gv') W') : wpList Tryd.prog ops Q (o :: rest) a W := by
  have h3 := h.sj.lts
  refine wpList_appP hgd s x ho hs h.pl e q hx hq h.rd (Nat.le_trans h.len hb0) (Nat.le_of_lt h3.1) (fun k hk => ?_) (fun gv' W' h1 h2 _ => hk gv' W' (h.app h1 h2))
  rcases hk with rfl | hk
  · exact h3.1
  · exact (h3.2.1 k hk).2
end
/-- An append of a row of frames, behind a guard that lets it. -/
theorem wpList_catP {ops : Array Oper} {rest : List Oper} {o : Oper} {a : Act} {w : World} {Q : Exit → Act → World → Prop} (hw : Region.wanted o (yielded ops a.tmps) = true) (s x : Operand) (ho : o.op = .call { callee := .builtin .append, args := #[s, x], argTypes := #[26, 26] })
    {base : Nat} {v : Value} {L M : List Pe} (hs : a.eval s = v) (hown : OwS w base 31 5 v L.length (enl Pe.cs L)) {S : Nat → Prop} {A : Option Addr} {n c : Nat} (hx : a.eval x = .slice A n c) (hn : n = M.length) (hr : RdS w S A (enl Pe.cs M)) (hL : L.length ≤ 1000000) (hM : M.length ≤ 1000000) (hbase : base ≤ w.heap.size)
    (hk : ∀ v' w', OwS w' base 31 5 v' (L ++ M).length (enl Pe.cs (L ++ M)) → Fs (ob v) w w' → Nx w v v' → wpList Tryd.prog ops Q rest (a.put o.dst v') w') : wpList Tryd.prog ops Q (o :: rest) a w := by
  subst hn
  obtain ⟨i0, hi0, hz0, hz1, hz2⟩ := pe_parts
  refine BigFrame.wpList_want hw fun K hK => ?_
  have h1 : ∀ u ∈ enl Pe.cs M, u.oneCell' = true := enl_oneCell pe_one M
  obtain ⟨A', c', w', hrun, h2, h3, h4⟩ := run_appS_any (P := Tryd.prog) w base 26 o.type 31 i0 _ 5 32 Tryd.underlying26 hi0 hz0 hz1 hz2 rfl (by omega) hown (S := S) (A := A) M.length c (news := enl Pe.cs M) (enl_length pe_len M) hr h1 (by simp only [maxLen]; omega) (by omega) hbase
  unfold Oper.wp execOp
  simp only [ho, resolve, invoke, builtin, Sem.run_bind, Sem.run_pure, Result.andThen_ok, List.map_toArray, List.map_cons, List.map_nil, hs, hx, hrun]
  refine hK _ _ (hk _ w' ?_ (Fs.of_grown h3) (Nx.of_new h4))
  rw [enl_append, List.length_append]
  exact h2
theorem ftJ_ne0 (w : World) : (binOp .neq 33 (.agg #[.int .u8 0, .int .u32 0]) (.agg #[.int .u8 0, .int .u32 0])).run Tryd.prog w = .ok (.bool false) w := by kernel_rfl
theorem ftJ_ne3 (k : Nat) (w : World) : (binOp .neq 33 (.agg #[.int .u8 3, .int .u32 k]) (.agg #[.int .u8 0, .int .u32 0])).run Tryd.prog w = .ok (.bool true) w := by kernel_rfl
end Go.Proofs.YtejlbgllfkfkfaaDoor
