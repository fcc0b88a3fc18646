/-
  The document's answers for frames: a frame that is read, by value; fails, wrongStream, short, by their contracts. Conditions: those that each theorem names.
-/
import Derived.Test.YtooaajnkiokpnaaGreatDoorRlean
import Derived.Test.YtooaajnkiokpnaaGreatDoorFread
import Derived.Deep.MidRow
namespace Go.Proofs.YtooaajnkiokpnaaGreatDoor
open Go.RowKit Go.WideShapes

def fxc (x : Fm) (s c : Nat) : Array Value := #[.int .u8 x.ty, .int .u8 x.fl, .int .u32 x.st, .slice x.dA x.dn x.dc, .int .i64 x.pad, .int .u32 x.code, .int .u32 x.oth, .int .u8 x.wt, .bool x.al, .int .u32 x.win, .slice x.sA x.sn x.sc, .int .u8 s, .int .u32 c]
theorem fx_info : (Tryz.prog.info? 68).map (·.size) = some 13 := by kernel_rfl
theorem fxc_size (x : Fm) (s c : Nat) : (Tryz.prog.info? 68).map (·.size) = some (fxc x s c).size := fx_info
theorem fxc_one (x : Fm) (s c : Nat) : (fxc x s c).all (·.oneCell') = true := by unfold fxc; kernel_rfl
def putC (cs : Array Value) : Nat → List Value → Array Value
  | _, [] => cs
  | o, v :: r => putC (cs.setIfInBounds o v) (o + 1) r
theorem setCells_row {g : Nat} {t : TypeId} : ∀ (vs : List Value) (v : Value) (o : Nat) (w : World) (cs : Array Value), Row w g t cs → w.setCells g o (v :: vs) = w.setRow g (putC cs o (v :: vs))
  | [], v, o, w, cs, h => setCell_eq_setRow w g o cs t (0, 0) v h
  | u :: r, v, o, w, cs, h => by
    show (w.setCell ⟨g, o, none⟩ v).setCells g (o + 1) (u :: r) = _
    rw [setCells_row r u (o + 1) _ _ (h.stored o v), setCell_eq_setRow w g o cs t (0, 0) v h, setRow_setRow]
    rfl
theorem fx_put (x y : Fm) (s c : Nat) : putC (fxc y s c) 0 x.c.toList = fxc x s c := by
  unfold Fm.c fxc
  simp only [putC, List.setIfInBounds_toArray, List.set_cons_zero, List.set_cons_succ]
theorem fx_setCells {w : World} {g : Nat} {x y : Fm} {s c : Nat} (h : Row w g 68 (fxc y s c)) : w.setCells g 0 x.c.toList = w.setRow g (fxc x s c) := by
  have h1 : x.c.toList = .int .u8 x.ty :: [.int .u8 x.fl, .int .u32 x.st, .slice x.dA x.dn x.dc, .int .i64 x.pad, .int .u32 x.code, .int .u32 x.oth, .int .u8 x.wt, .bool x.al, .int .u32 x.win, .slice x.sA x.sn x.sc] := by unfold Fm.c; rfl
  rw [← fx_put x y s c, h1]
  exact setCells_row _ _ _ _ _ h
theorem fx_there {w : World} {g : Nat} {x y : Fm} {s c : Nat} (h : Row w g 68 (fxc y s c)) : w.there g 0 x.c.size := fun j hj => by
  have e11 : x.c.size = 11 := by unfold Fm.c; rfl
  have e13 : (fxc y s c).size = 13 := by unfold fxc; rfl
  have h13 : j < (fxc y s c).size := by omega
  refine ⟨?_, by rw [Nat.zero_add]; exact h.thawed j⟩
  rw [Nat.zero_add, h.cell (Array.getElem?_eq_getElem h13)]
  exact Option.isSome_some
section
variable {w : World} {g : Nat} {x y : Fm} {s c s0 c0 : Nat}
theorem wpList_fx {ops : Array Oper} {rest : List Oper} {o : Oper} {a : Act} {w : World} {Q : Exit → Act → World → Prop} (hgd : o.guard = none) (y : Operand) (ho : o.op = .load 68 y) {g : Nat} (hy : a.eval y = .pointer (some ⟨g, 0, none⟩)) {x : Fm} {s c : Nat} (h : Row w g 68 (fxc x s c))
    (hk : wpList Tryz.prog ops Q rest (a.put o.dst (.agg (fxc x s c))) w) : wpList Tryz.prog ops Q (o :: rest) a w :=
  wpList_load_row hgd 68 y ho g hy 68 (fxc x s c) (0, 0) _ h Tryz.underlying68 rfl (fxc_size x s c) hk
theorem wpList_sfx {ops : Array Oper} {rest : List Oper} {o : Oper} {a : Act} {w : World} {Q : Exit → Act → World → Prop} (hgd : o.guard = none) (p q : Operand) (ho : o.op = .store 68 p q) {g : Nat} (hp : a.eval p = .pointer (some ⟨g, 0, none⟩)) {x y : Fm} {s c s0 c0 : Nat} (hq : a.eval q = .agg (fxc x s c)) (h : Row w g 68 (fxc y s0 c0))
    (hk : wpList Tryz.prog ops Q rest (a.put o.dst undef) (w.setRow g (fxc x s c))) : wpList Tryz.prog ops Q (o :: rest) a w :=
  wpList_store_row hgd 68 p q ho g (fxc x s c) hp hq 68 (fxc y s0 c0) h (fxc_size x s c) rfl (fxc_one x s c) hk
/-- A frame, stored into the head of one that is read. -/
theorem wpList_sfh {ops : Array Oper} {rest : List Oper} {o : Oper} {a : Act} {w : World} {Q : Exit → Act → World → Prop} (hgd : o.guard = none) (p q : Operand) (ho : o.op = .store 66 p q) {g : Nat} (hp : a.eval p = .pointer (some ⟨g, 0, none⟩)) {x y : Fm} {s c : Nat} (hq : a.eval q = .agg x.c) (h : Row w g 68 (fxc y s c))
    (hk : wpList Tryz.prog ops Q rest (a.put o.dst undef) (w.setRow g (fxc x s c))) : wpList Tryz.prog ops Q (o :: rest) a w :=
  wpList_store_mid hgd 66 p q ho g 0 x.c hp hq (fx_there h) (Fm.size x) (Fm.one x) (by rw [fx_setCells h]; exact hk)
theorem ret_fx {fn : Func} {p : Tmp} (h : fn.results = #[.cell p 68]) (tmps : Array Value) (w : World) (g : Nat) (x : Fm) (s c : Nat) (hp : tmps.getD p undef = .pointer (some ⟨g, 0, none⟩)) (hR : Row w g 68 (fxc x s c)) :
    (results fn tmps).run Tryz.prog w = .ok (.agg (fxc x s c)) w := by
  have hl := run_loadVar_row (P := Tryz.prog) w g 68 68 (fxc x s c) (0, 0) _ hR Tryz.underlying68 rfl (fxc_size x s c)
  have hp' : tmps[p]?.getD undef = .pointer (some ⟨g, 0, none⟩) := by simpa using hp
  simp only [results, h]
  simp [hp', asAddr, hl]
end
theorem fxz : fxc (fm0 0 0 0 0) 0 0 = #[.int .u8 0, .int .u8 0, .int .u32 0, .slice none 0 0, .int .i64 0, .int .u32 0, .int .u32 0, .int .u8 0, .bool false, .int .u32 0, .slice none 0 0, .int .u8 0, .int .u32 0] := by unfold fxc; rfl
set_option maxRecDepth 100000 in
set_option maxHeartbeats 1000000 in
/-- The same frame, with a fault. -/
theorem rfails_any (x : Fm) (s c : Nat) (w : World) : Calls Tryz.prog 90 #[.agg (fxc x 0 0), .int .u8 s, .int .u32 c] w fun e w' => e = .returned (.agg (fxc x s c)) ∧ Below w.heap.size w w' := by
  have hf : Hid (∀ a b, fxc x a b = #[.int .u8 x.ty, .int .u8 x.fl, .int .u32 x.st, .slice x.dA x.dn x.dc, .int .i64 x.pad, .int .u32 x.code, .int .u32 x.oth, .int .u8 x.wt, .bool x.al, .int .u32 x.win, .slice x.sA x.sn x.sc, .int .u8 a, .int .u32 b]) := fun a b => by unfold fxc; rfl
  rw [hf.out 0 0]
  have HB := Lib.hid (Below.refl w.heap.size w)
  go_enter Tryz.func90, Tryz.ntmps90
  go_wp2_with fail
  refine bodyPost_ret (ret_fx rfl _ _ (w.heap.size + 1) x s c rfl (by rw [hf.out]; exact Row.made _ _ _ (by simp))) rfl ?_
  refine ⟨rfl, ?_⟩
  exact (HB.out.alloc (by simp) _).alloc (by simp) _
attribute [local irreducible] Fm.c fxc
set_option maxRecDepth 100000 in
set_option maxHeartbeats 2000000 in
theorem rwrong_any (x : Fm) (w : World) : Calls Tryz.prog 92 #[.agg x.c] w fun e w' => e = .returned (.bool (wrongB x.ty x.st)) ∧ Below w.heap.size w w' := by
  have c0 := Fm.k0 (Row.new w 66 x.c)
  have c2 := Fm.k2 (Row.new w 66 x.c)
  have hB : Below w.heap.size w (w.alloc (.cells x.c 66)) := (Below.refl _ _).alloc (Nat.le_refl _) _
  have HB := Lib.hid hB
  have hst : ((x.st : Int) == 0) = decide (x.st = 0) := by by_cases h : x.st = 0 <;> simp [h]
  clear hB
  generalize x.st = st at *
  generalize x.ty = ty at *
  have HC := Lib.hid c0
  clear c0
  by_cases h0 : ty = 0
  · subst h0
    have c0 := HC.out
    have hv : wrongB 0 st = decide (st = 0) := by unfold wrongB WrongP; simp
    rw [hv, ← hst]
    clear HC hst hv
    go_enter Tryz.func92, Tryz.ntmps92
    go_wp2_with fail
    go_ret
    exact ⟨rfl, HB.out⟩
  by_cases h1 : ty = 1
  · subst h1
    have c0 := HC.out
    have hv : wrongB 1 st = decide (st = 0) := by unfold wrongB WrongP; simp
    rw [hv, ← hst]
    clear HC hst hv
    go_enter Tryz.func92, Tryz.ntmps92
    go_wp2_with fail
    go_ret
    exact ⟨rfl, HB.out⟩
  by_cases h2 : ty = 2
  · subst h2
    have c0 := HC.out
    have hv : wrongB 2 st = decide (st = 0) := by unfold wrongB WrongP; simp
    rw [hv, ← hst]
    clear HC hst hv
    go_enter Tryz.func92, Tryz.ntmps92
    go_wp2_with fail
    go_ret
    exact ⟨rfl, HB.out⟩
  by_cases h3 : ty = 3
  · subst h3
    have c0 := HC.out
    have hv : wrongB 3 st = decide (st = 0) := by unfold wrongB WrongP; simp
    rw [hv, ← hst]
    clear HC hst hv
    go_enter Tryz.func92, Tryz.ntmps92
    go_wp2_with fail
    go_ret
    exact ⟨rfl, HB.out⟩
  by_cases h4 : ty = 4
  · subst h4
    have c0 := HC.out
    have hv : wrongB 4 st = !decide (st = 0) := by unfold wrongB WrongP; simp
    rw [hv, ← hst]
    clear HC hst hv
    go_enter Tryz.func92, Tryz.ntmps92
    go_wp2_with fail
    go_ret
    exact ⟨rfl, HB.out⟩
  by_cases h5 : ty = 5
  · subst h5
    have c0 := HC.out
    have hv : wrongB 5 st = decide (st = 0) := by unfold wrongB WrongP; simp
    rw [hv, ← hst]
    clear HC hst hv
    go_enter Tryz.func92, Tryz.ntmps92
    go_wp2_with fail
    go_ret
    exact ⟨rfl, HB.out⟩
  by_cases h6 : ty = 6
  · subst h6
    have c0 := HC.out
    have hv : wrongB 6 st = !decide (st = 0) := by unfold wrongB WrongP; simp
    rw [hv, ← hst]
    clear HC hst hv
    go_enter Tryz.func92, Tryz.ntmps92
    go_wp2_with fail
    go_ret
    exact ⟨rfl, HB.out⟩
  by_cases h7 : ty = 7
  · subst h7
    have c0 := HC.out
    have hv : wrongB 7 st = !decide (st = 0) := by unfold wrongB WrongP; simp
    rw [hv, ← hst]
    clear HC hst hv
    go_enter Tryz.func92, Tryz.ntmps92
    go_wp2_with fail
    go_ret
    exact ⟨rfl, HB.out⟩
  by_cases h9 : ty = 9
  · subst h9
    have c0 := HC.out
    have hv : wrongB 9 st = decide (st = 0) := by unfold wrongB WrongP; simp
    rw [hv, ← hst]
    clear HC hst hv
    go_enter Tryz.func92, Tryz.ntmps92
    go_wp2_with fail
    go_ret
    exact ⟨rfl, HB.out⟩
  have n0 : ((ty : Int) == 0) = false := ne_int (by omega)
  have n1 : ((ty : Int) == 1) = false := ne_int (by omega)
  have n2 : ((ty : Int) == 2) = false := ne_int (by omega)
  have n3 : ((ty : Int) == 3) = false := ne_int (by omega)
  have n4 : ((ty : Int) == 4) = false := ne_int (by omega)
  have n5 : ((ty : Int) == 5) = false := ne_int (by omega)
  have n6 : ((ty : Int) == 6) = false := ne_int (by omega)
  have n7 : ((ty : Int) == 7) = false := ne_int (by omega)
  have n9 : ((ty : Int) == 9) = false := ne_int (by omega)
  have c0 := HC.out
  have hv : wrongB ty st = false := decide_eq_false (by unfold WrongP; omega)
  rw [hv]
  clear hv HC h0 h1 h2 h3 h4 h5 h6 h7 h9 hst
  go_enter Tryz.func92, Tryz.ntmps92
  go_wp2_with fail
  go_ret
  exact ⟨rfl, HB.out⟩
set_option maxRecDepth 100000 in
set_option maxHeartbeats 2000000 in
theorem rshort_any (x : Fm) (hf : x.fl < 256) (n : Nat) (hn : n ≤ 100000) (w : World) : Calls Tryz.prog 94 #[.agg x.c, .int .i64 n] w fun e w' => e = .returned (.bool (!lenB x.ty x.fl n)) ∧ Below w.heap.size w w' := by
  have HX := Lib.hid (Row.new w 66 x.c)
  have c0 := Fm.k0 HX.out
  have c1 := Fm.k1 HX.out
  have hB : Below w.heap.size w (w.alloc (.cells x.c 66)) := (Below.refl _ _).alloc (Nat.le_refl _) _
  have HB := Lib.hid hB
  have hln := fun W => rleans_any x hf W
  clear hB
  by_cases h1 : x.ty = 1
  · rw [h1] at c0 hln ⊢
    have hle : leanB 1 x.fl = decide (x.fl / 32 % 2 = 1) := by unfold leanB LeanP; simp
    rw [hle] at hln
    have HL := Lib.hid hln
    clear hln c1
    by_cases hb : x.fl / 32 % 2 = 1
    · rw [decide_eq_true hb] at HL
      by_cases h5 : n < 5
      · have h5' : (n : Int) < 5 := by omega
        have hv : lenB 1 x.fl n = false := by unfold lenB LenP; simp [hb, h5]
        rw [hv]
        clear hb h1 hle h5 hv
        go_enter Tryz.func94, Tryz.ntmps94
        go_wp2_with (refine wpList_fm rfl _ rfl rfl HX.out ?_)
        refine (HL.out _).mono ?_
        rintro e w1 ⟨rfl, hb1⟩
        have HB1 := Lib.hid (HB.out.trans (hb1.mono HB.out.size))
        clear hb1 HL HX HB
        go_wp2_with fail
        go_ret
        exact ⟨by first | rfl | simp [bne, *], HB1.out⟩
      · have h5' : ¬ (n : Int) < 5 := by omega
        have hv : lenB 1 x.fl n = true := by unfold lenB LenP; simp; omega
        rw [hv]
        clear hb h1 hle h5 hv
        go_enter Tryz.func94, Tryz.ntmps94
        go_wp2_with (refine wpList_fm rfl _ rfl rfl HX.out ?_)
        refine (HL.out _).mono ?_
        rintro e w1 ⟨rfl, hb1⟩
        have HB1 := Lib.hid (HB.out.trans (hb1.mono HB.out.size))
        clear hb1 HL HX HB
        go_wp2_with fail
        go_ret
        exact ⟨by first | rfl | simp [bne, *], HB1.out⟩
    · rw [decide_eq_false hb] at HL
      have hv : lenB 1 x.fl n = true := by unfold lenB LenP; simp [hb]
      rw [hv]
      clear hb h1 hle hv
      go_enter Tryz.func94, Tryz.ntmps94
      go_wp2_with (refine wpList_fm rfl _ rfl rfl HX.out ?_)
      refine (HL.out _).mono ?_
      rintro e w1 ⟨rfl, hb1⟩
      have HB1 := Lib.hid (HB.out.trans (hb1.mono HB.out.size))
      clear hb1 HL HX HB
      go_wp2_with fail
      go_ret
      exact ⟨by first | rfl | simp [bne, *], HB1.out⟩
  clear hln HX
  by_cases h2 : x.ty = 2
  · rw [h2] at c0 ⊢
    clear c1
    by_cases hc : n = 5
    · have e2 : ((n : Int) == 5) = true := beq_iff_eq.2 (by omega)
      have hv : lenB 2 x.fl n = true := by unfold lenB LenP; simp [hc]
      rw [hv]
      clear hc hv
      go_enter Tryz.func94, Tryz.ntmps94
      go_wp2_with fail
      go_ret
      exact ⟨by first | rfl | simp [bne, *], HB.out⟩
    · have e2 : ((n : Int) == 5) = false := beq_eq_false_iff_ne.2 (by omega)
      have hv : lenB 2 x.fl n = false := by unfold lenB LenP; simp [hc]
      rw [hv]
      clear hc hv
      go_enter Tryz.func94, Tryz.ntmps94
      go_wp2_with fail
      go_ret
      exact ⟨by first | rfl | simp [bne, *], HB.out⟩
  by_cases h3 : x.ty = 3
  · rw [h3] at c0 ⊢
    clear c1
    by_cases hc : n = 4
    · have e3 : ((n : Int) == 4) = true := beq_iff_eq.2 (by omega)
      have hv : lenB 3 x.fl n = true := by unfold lenB LenP; simp [hc]
      rw [hv]
      clear hc hv
      go_enter Tryz.func94, Tryz.ntmps94
      go_wp2_with fail
      go_ret
      exact ⟨by first | rfl | simp [bne, *], HB.out⟩
    · have e3 : ((n : Int) == 4) = false := beq_eq_false_iff_ne.2 (by omega)
      have hv : lenB 3 x.fl n = false := by unfold lenB LenP; simp [hc]
      rw [hv]
      clear hc hv
      go_enter Tryz.func94, Tryz.ntmps94
      go_wp2_with fail
      go_ret
      exact ⟨by first | rfl | simp [bne, *], HB.out⟩
  by_cases h8 : x.ty = 8
  · rw [h8] at c0 ⊢
    clear c1
    by_cases hc : n = 4
    · have e8 : ((n : Int) == 4) = true := beq_iff_eq.2 (by omega)
      have hv : lenB 8 x.fl n = true := by unfold lenB LenP; simp [hc]
      rw [hv]
      clear hc hv
      go_enter Tryz.func94, Tryz.ntmps94
      go_wp2_with fail
      go_ret
      exact ⟨by first | rfl | simp [bne, *], HB.out⟩
    · have e8 : ((n : Int) == 4) = false := beq_eq_false_iff_ne.2 (by omega)
      have hv : lenB 8 x.fl n = false := by unfold lenB LenP; simp [hc]
      rw [hv]
      clear hc hv
      go_enter Tryz.func94, Tryz.ntmps94
      go_wp2_with fail
      go_ret
      exact ⟨by first | rfl | simp [bne, *], HB.out⟩
  by_cases h6 : x.ty = 6
  · rw [h6] at c0 ⊢
    clear c1
    by_cases hc : n = 8
    · have e6 : ((n : Int) == 8) = true := beq_iff_eq.2 (by omega)
      have hv : lenB 6 x.fl n = true := by unfold lenB LenP; simp [hc]
      rw [hv]
      clear hc hv
      go_enter Tryz.func94, Tryz.ntmps94
      go_wp2_with fail
      go_ret
      exact ⟨by first | rfl | simp [bne, *], HB.out⟩
    · have e6 : ((n : Int) == 8) = false := beq_eq_false_iff_ne.2 (by omega)
      have hv : lenB 6 x.fl n = false := by unfold lenB LenP; simp [hc]
      rw [hv]
      clear hc hv
      go_enter Tryz.func94, Tryz.ntmps94
      go_wp2_with fail
      go_ret
      exact ⟨by first | rfl | simp [bne, *], HB.out⟩
  by_cases h5 : x.ty = 5
  · rw [h5] at c0 ⊢
    clear c1
    by_cases hc : 4 ≤ n
    · have e5 : ¬ (n : Int) < 4 := by omega
      have hv : lenB 5 x.fl n = true := by unfold lenB LenP; simp [hc]
      rw [hv]
      clear hc hv
      go_enter Tryz.func94, Tryz.ntmps94
      go_wp2_with fail
      go_ret
      exact ⟨by first | rfl | simp [bne, *], HB.out⟩
    · have e5 : (n : Int) < 4 := by omega
      have hv : lenB 5 x.fl n = false := by unfold lenB LenP; simp [hc]
      rw [hv]
      clear hc hv
      go_enter Tryz.func94, Tryz.ntmps94
      go_wp2_with fail
      go_ret
      exact ⟨by first | rfl | simp [bne, *], HB.out⟩
  by_cases h7 : x.ty = 7
  · rw [h7] at c0 ⊢
    clear c1
    by_cases hc : 8 ≤ n
    · have e7 : ¬ (n : Int) < 8 := by omega
      have hv : lenB 7 x.fl n = true := by unfold lenB LenP; simp [hc]
      rw [hv]
      clear hc hv
      go_enter Tryz.func94, Tryz.ntmps94
      go_wp2_with fail
      go_ret
      exact ⟨by first | rfl | simp [bne, *], HB.out⟩
    · have e7 : (n : Int) < 8 := by omega
      have hv : lenB 7 x.fl n = false := by unfold lenB LenP; simp [hc]
      rw [hv]
      clear hc hv
      go_enter Tryz.func94, Tryz.ntmps94
      go_wp2_with fail
      go_ret
      exact ⟨by first | rfl | simp [bne, *], HB.out⟩
  by_cases h4 : x.ty = 4
  · rw [h4] at c0 ⊢
    have h6i : IntKind.i64.wrap ((n : Int) % 6) = (n : Int) % 6 := IntWalk.i64_in _ (by omega)
    by_cases h6 : n % 6 = 0
    · have h6a : ((n : Int) % 6 == 0) = true := by rw [show (n : Int) % 6 = 0 by omega]; rfl
      by_cases hb : x.fl % 2 = 1
      · have hba : ((x.fl : Int) % 2 == 1) = true := by rw [show (x.fl : Int) % 2 = 1 by omega]; rfl
        by_cases h0 : n = 0
        · subst h0
          have hv : lenB 4 x.fl 0 = true := by unfold lenB LenP; simp
          rw [hv]
          clear hv
          go_enter Tryz.func94, Tryz.ntmps94
          go_wp2_with fail
          go_ret
          exact ⟨by first | rfl | simp [bne, *], HB.out⟩
        · have h0' : (0 : Int) < n := by omega
          have h00 : 0 < n := by omega
          have hv : lenB 4 x.fl n = false := by unfold lenB LenP; simp [h6, hb, h0]
          rw [hv]
          clear hv
          go_enter Tryz.func94, Tryz.ntmps94
          go_wp2_with fail
          go_ret
          exact ⟨by first | rfl | simp [bne, *], HB.out⟩
      · have hba : ((x.fl : Int) % 2 == 1) = false := by rw [beq_eq_false_iff_ne]; omega
        have hv : lenB 4 x.fl n = true := by unfold lenB LenP; simp [h6, hb]
        rw [hv]
        clear hv
        go_enter Tryz.func94, Tryz.ntmps94
        go_wp2_with fail
        go_ret
        exact ⟨by first | rfl | simp [bne, *], HB.out⟩
    · have h6a : ((n : Int) % 6 == 0) = false := by rw [beq_eq_false_iff_ne]; omega
      have hv : lenB 4 x.fl n = false := by unfold lenB LenP; simp [h6]
      rw [hv]
      clear hv
      go_enter Tryz.func94, Tryz.ntmps94
      go_wp2_with fail
      go_ret
      exact ⟨by first | rfl | simp [bne, *], HB.out⟩
  have n1 : ((x.ty : Int) == 1) = false := ne_int (by omega)
  have n2 : ((x.ty : Int) == 2) = false := ne_int (by omega)
  have n3 : ((x.ty : Int) == 3) = false := ne_int (by omega)
  have n4 : ((x.ty : Int) == 4) = false := ne_int (by omega)
  have n5 : ((x.ty : Int) == 5) = false := ne_int (by omega)
  have n6 : ((x.ty : Int) == 6) = false := ne_int (by omega)
  have n7 : ((x.ty : Int) == 7) = false := ne_int (by omega)
  have n8 : ((x.ty : Int) == 8) = false := ne_int (by omega)
  have hv : lenB x.ty x.fl n = true := by unfold lenB LenP; simp [h1, h2, h3, h4, h5, h6, h7, h8]
  rw [hv]
  clear h1 h2 h3 h4 h5 h6 h7 h8 c1 hv
  go_enter Tryz.func94, Tryz.ntmps94
  go_wp2_with fail
  go_ret
  exact ⟨by first | rfl | simp [bne, *], HB.out⟩
end Go.Proofs.YtooaajnkiokpnaaGreatDoor
