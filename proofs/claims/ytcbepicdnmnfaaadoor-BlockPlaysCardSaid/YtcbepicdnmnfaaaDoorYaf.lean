/-
  What a gatherer's calls leave; add, where the block becomes too great, by its contract. Conditions: the gatherer lies behind the package's variables; the frame's data is read.
-/
import Derived.Test.YtcbepicdnmnfaaaDoorYsm
import Derived.Test.YtcbepicdnmnfaaaDoorLast
import Derived.Deep.RegionHeld3
import Derived.IntWalk
namespace Go.Proofs.YtcbepicdnmnfaaaDoor
open Go.RowKit Go.WideShapes

/-- The blocks that a gatherer's call may turn. -/
def gvS (g : Nat) (v : Value) : Nat → Prop := fun k => k = g ∨ ob v k
/-- What take leaves: the block that is whole, or none; the error, or none; the gatherer. -/
def TkP (w : World) (base g : Nat) (v : Value) (r : Gm × Bool × Gm) (e : Ending) (w' : World) : Prop :=
  ∃ (A' : Option Addr) (c' : Nat) (o : Option Nat), e = .returned (.tuple #[.agg (whc r.2.2.st A' r.2.2.blk.length c' r.2.2.en), .bool r.2.1, erv o]) ∧ Fs (gvS g v) w w' ∧
    Bo w' base 5 (.slice A' r.2.2.blk.length c') r.2.2.blk ∧ Nx w v (.slice A' r.2.2.blk.length c') ∧ (r.2.1 = false → A' = none ∧ c' = 0) ∧
    ((r.1.bad = 0 ∧ o = none ∧ ∃ A2 c2, Ga w' base g r.1 A2 c2 none ∧ Nx w v (.slice A2 r.1.blk.length c2)) ∨
     (r.1.bad ≠ 0 ∧ r.1.Ok ∧ ∃ p old, o = some p ∧ Row w' p 61 #[.int .u8 1, .int .u32 r.1.bad] ∧ Row w' g 51 old ∧ old.size = 6))
theorem Nx.none (w : World) (v : Value) : Nx w v (.slice none 0 0) := .inr fun k hk => by simp [Value.ownBlock] at hk
section
variable {w w' : World} {base g : Nat} {v : Value}
theorem TkP.fail {c p : Nat} {old : Array Value} (hc : c ≠ 0 ∧ c ≤ 11) (hf : Fs (gvS g v) w w') (hp : Row w' p 61 #[.int .u8 1, .int .u32 c]) (hr : Row w' g 51 old) (ho : old.size = 6) :
    TkP w base g v (gmF c, false, gm0) (.returned (.tuple #[.agg (whc 0 none 0 0 false), .bool false, erv (some p)])) w' :=
  ⟨none, 0, some p, rfl, hf, Bo.nil, Nx.none w v, fun _ => ⟨rfl, rfl⟩, .inr ⟨hc.1, gmF_ok hc.2, p, old, rfl, hp, hr, ho⟩⟩
theorem TkP.on {m : Gm} {A : Option Addr} {c : Nat} (hb : m.bad = 0) (hf : Fs (gvS g v) w w') (h : Ga w' base g m A c none) (hn : Nx w v (.slice A m.blk.length c)) :
    TkP w base g v (m, false, gm0) (.returned (.tuple #[.agg (whc 0 none 0 0 false), .bool false, erv none])) w' :=
  ⟨none, 0, none, rfl, hf, Bo.nil, Nx.none w v, fun _ => ⟨rfl, rfl⟩, .inl ⟨hb, rfl, A, c, h, hn⟩⟩
theorem TkP.whole {m : Gm} {A : Option Addr} {c : Nat} (hf : Fs (gvS g v) w w') (h : Ga w' base g gm0 none 0 none) (ho : Bo w' base 5 (.slice A m.blk.length c) m.blk) (hn : Nx w v (.slice A m.blk.length c)) :
    TkP w base g v (gm0, true, m) (.returned (.tuple #[.agg (whc m.st A m.blk.length c m.en), .bool true, erv none])) w' :=
  ⟨A, c, none, rfl, hf, ho, hn, (fun h => by cases h), .inl ⟨rfl, rfl, none, 0, h, Nx.none w v⟩⟩
end
/-- Handed back out of one variable, and two values. -/
theorem ret_avv {P : Program} {T : TypeId} {fn : Func} {p q r : Tmp} {v u : Value} {w : World} {g : Nat} {cs : Array Value} (h : fn.results = #[.cell p T, .tmp q, .tmp r]) (tmps : Array Value) (hp : tmps.getD p undef = .pointer (some ⟨g, 0, none⟩)) (hR : Row w g T cs) (hk : AgOk P T cs)
    (hq : tmps.getD q undef = v) (hr : tmps.getD r undef = u) : (results fn tmps).run P w = .ok (.tuple #[.agg cs, v, u]) w := by
  have hl := run_ld hk hR
  have hp' : tmps[p]?.getD undef = .pointer (some ⟨g, 0, none⟩) := by simpa using hp
  have hq' : tmps[q]?.getD undef = v := by simpa using hq
  have hr' : tmps[r]?.getD undef = u := by simpa using hr
  simp only [results, h]
  simp [hp', hq', hr', asAddr, hl]
theorem wh_zero : #[Value.int .u32 0, .slice none 0 0, .bool false] = whc 0 none 0 0 false := rfl
theorem fr_wh (w : World) (x : Fm) : ∃ w', (w.alloc (.cells x.c 32)).alloc (.cells #[.int .u32 0, .slice none 0 0, .bool false] 34) = w' ∧ Row w' w.heap.size 32 x.c ∧ Row w' (w.heap.size + 1) 34 (whc 0 none 0 0 false) ∧ Below w.heap.size w w' ∧ w'.heap.size = w.heap.size + 2 :=
  ⟨_, rfl, (Row.new w _ _).alloc _, by rw [wh_zero]; exact Row.made _ _ _ (by simp), ((Below.refl _ _).alloc (Nat.le_refl _) _).alloc (by simp) _, by simp⟩
theorem and4 : ∀ b : Fin 256, (bits .and .u8 (b.val : Int) 4) = ((b.val / 4 % 2 * 4 : Nat) : Int) := by decide +kernel
theorem and1 : ∀ b : Fin 256, (bits .and .u8 (b.val : Int) 1) = ((b.val % 2 : Nat) : Int) := by decide +kernel
theorem gac_c (st : Nat) (A : Option Addr) (n c : Nat) (en busy : Bool) (more : Nat) (o : Option Nat) : gac st A n c en busy more o = #[.int .u32 st, .slice A n c, .bool en, .bool busy, .int .i64 more, erv o] := rfl
theorem gac_sets (st : Nat) (A : Option Addr) (n c : Nat) (en busy : Bool) (more : Nat) (o : Option Nat) (A' : Option Addr) (n' c' : Nat) : (gac st A n c en busy more o).setIfInBounds 1 (.slice A' n' c') = gac st A' n' c' en busy more o := rfl
theorem ga_six (st : Nat) (A : Option Addr) (n c : Nat) (en busy : Bool) (more : Nat) (o : Option Nat) : (gac st A n c en busy more o).size = 6 := rfl
theorem ga_cells {w : World} {g st : Nat} {A : Option Addr} {n c : Nat} {en busy : Bool} {more : Nat} {o : Option Nat} (h : Row w g 51 (gac st A n c en busy more o)) : w.cell? ⟨g, 0, none⟩ = some (.int .u32 st) ∧ w.cell? ⟨g, 1, none⟩ = some (.slice A n c) ∧ w.cell? ⟨g, 2, none⟩ = some (.bool en) ∧ w.cell? ⟨g, 3, none⟩ = some (.bool busy) ∧ w.cell? ⟨g, 4, none⟩ = some (.int .i64 more) ∧ w.cell? ⟨g, 5, none⟩ = some (erv o) :=
  ⟨h.cell rfl, h.cell rfl, h.cell rfl, h.cell rfl, h.cell rfl, h.cell rfl⟩
theorem one_wh (w : World) (st : Nat) (A : Option Addr) (n c : Nat) (en : Bool) : ∃ w', (w.alloc (.cells #[.int .u32 0, .slice none 0 0, .bool false] 34)).setRow w.heap.size (whc st A n c en) = w' ∧ Row (w.alloc (.cells #[.int .u32 0, .slice none 0 0, .bool false] 34)) w.heap.size 34 (whc 0 none 0 0 false) ∧ Row w' w.heap.size 34 (whc st A n c en) ∧ Below w.heap.size w w' := by
  have h1 : Row (w.alloc (.cells #[.int .u32 0, .slice none 0 0, .bool false] 34)) w.heap.size 34 (whc 0 none 0 0 false) := by rw [wh_zero]; exact Row.new w _ _
  exact ⟨_, rfl, h1, h1.setRow _, below_setRow ((Below.refl _ _).alloc (Nat.le_refl _) _) _ _ (by omega)⟩
theorem ga_part {w : World} {g st : Nat} {A : Option Addr} {n c : Nat} {en busy : Bool} {more : Nat} {o : Option Nat} (h : Row w g 51 (gac st A n c en busy more o)) : w.rangeAt g 0 (whc st A n c en).toList := by
  refine h.range 0 _ fun j v hj => ?_
  rw [Nat.zero_add]
  match j, hj with
  | 0, hj => exact hj
  | 1, hj => exact hj
  | 2, hj => exact hj
  | j + 3, hj => simp [whc] at hj
theorem gfin_great {m : Gm} {fl : Nat} (h : 8192 < m.blk.length ∨ 16 < m.more) : gfin m fl = (gmF 11, false, gm0) := by unfold gfin; rw [if_pos h]
theorem gfin_end {m : Gm} {fl : Nat} (h : ¬ (8192 < m.blk.length ∨ 16 < m.more)) (h4 : fl / 4 % 2 = 1) : gfin m fl = (gm0, true, m) := by unfold gfin; rw [if_neg h, if_pos h4]
theorem gfin_on {m : Gm} {fl : Nat} (h : ¬ (8192 < m.blk.length ∨ 16 < m.more)) (h4 : fl / 4 % 2 ≠ 1) : gfin m fl = (m, false, gm0) := by unfold gfin; rw [if_neg h, if_neg h4]
theorem Row.set_far {w : World} {b k : Nat} {t : TypeId} {cs : Array Value} (h : Row w b t cs) (hk : b ≠ k) (j : Nat) (v : Value) : Row (w.setCell ⟨k, j, none⟩ v) b t cs := (Below.heap_setCell w _ v b hk).trans h
theorem Row.row_far {w : World} {b k : Nat} {t : TypeId} {cs : Array Value} (h : Row w b t cs) (hk : b ≠ k) (x : Array Value) : Row (w.setRow k x) b t cs := (setRow_other w k b x hk).trans h
theorem Bo.set_far {w : World} {base : Nat} {e : TypeId} {v : Value} {l : List UInt8} (h : Bo w base e v l) {k : Nat} (hk : ¬ ob v k) (j : Nat) (x : Value) : Bo (w.setCell ⟨k, j, none⟩ x) base e v l := OwS.setCell h (a := ⟨k, j, none⟩) hk x
theorem Bo.row_far {w : World} {base : Nat} {e : TypeId} {v : Value} {l : List UInt8} (h : Bo w base e v l) {k : Nat} (hk : ¬ ob v k) (x : Array Value) : Bo (w.setRow k x) base e v l := OwS.setRow h hk x
attribute [local irreducible] Fm.c whc gac gfin
set_option maxRecDepth 100000 in
set_option maxHeartbeats 4000000 in
theorem add_great {w : World} {base g st : Nat} {A : Option Addr} {c : Nat} {en : Bool} {more : Nat} {blk d : List UInt8} {x : Fm} (hR : Row w g 51 (gac st A blk.length c en true more none)) (hO : Bo w base 5 (.slice A blk.length c) blk)
    (hD : RdB w w.heap.size x.dA d) (hdn : x.dn = d.length) (_hfl : x.fl < 256) (_hlo : 0 < base ∧ base ≤ g) (hb : blk.length ≤ 8192) (hd : d.length ≤ 1000000000) (_hm : more ≤ 17) (h1 : 8192 < blk.length + x.dn) :
    Calls Tryd.prog 21 #[.pointer (some ⟨g, 0, none⟩), .agg x.c] w (TkP w base g (.slice A blk.length c) (gmF 11, false, gm0)) := by
  obtain ⟨w1, hw1, t1, t2, t3, t4⟩ := fr_wh w x
  have T7 := Lib.hid hw1
  have TX := Lib.hid t1
  have TW := Lib.hid t2
  have HR : Hid (Row w1 g 51 (gac st A blk.length c en true more none)) := hR.below t3 hR.lt
  have HD : Hid (RdB w1 w.heap.size x.dA d) := hD.below t3
  have HO : Hid (Bo w1 base 5 (.slice A blk.length c) blk) := OwS.below hO t3
  have HN := Lib.hid hdn
  have HF : Hid (Fs (gvS g (.slice A blk.length c)) w w1) := Fs.of_below t3
  have HSZ : Hid (w.heap.size < w1.heap.size) := by show _ < _; rw [t4]; omega
  have f1 := (ga_cells HR.out).2.1
  have f4 := (ga_cells HR.out).2.2.2.2.1
  have d3 : w1.cell? ⟨w.heap.size, 3, none⟩ = some (.slice x.dA x.dn x.dc) := (fm_cells TX.out).2.2.2.1
  clear hw1 t1 t2 t3 t4 hR hD hO _hlo _hfl
  obtain ⟨m, hm1⟩ : ∃ m : Nat, m = blk.length + x.dn := ⟨_, rfl⟩
  have hs : IntKind.i64.wrap ((blk.length : Int) + (x.dn : Int)) = (m : Int) := by rw [IntWalk.i64_in _ (by omega)]; omega
  rw [← hm1] at h1
  have h8 : (8192 : Int) < (m : Int) := by omega
  clear hm1 h1 hb hd _hm hdn
  go_enter Tryd.func21, Tryd.ntmps21
  go_upto_region 1 with fail
  rw [T7.out]
  clear T7
  refine wp_region_held_drew (S := fun w' => w'.cell? ⟨w.heap.size, 3, none⟩ = some (.slice x.dA x.dn x.dc) ∧ w'.cell? ⟨g, 1, none⟩ = some (.slice A blk.length c) ∧ w'.cell? ⟨g, 4, none⟩ = some (.int .i64 more)) (by kernel_rfl) ⟨d3, f1, f4⟩ (fun hHeld => ?_)
  refine wpAnyH_take (i := 0) (v := ?v0) rfl (by kernel_rfl) (by kernel_rfl) (by kernel_rfl) (fun _ _ _ h => h) (Or.inl ⟨by rfl, ?hy0⟩) (by assumption) ?rest0
  case hy0 => (intro w hSw; (try dsimp only at hSw); go_simp <;> with_reducible rfl)
  try simp only [Act.put, List.getElem_toArray, List.getElem_cons_zero, List.setIfInBounds_toArray, List.set_cons_zero, List.set_cons_succ]
  refine wpAnyH_take (i := 2) (v := ?v2) rfl (by kernel_rfl) (by kernel_rfl) (by kernel_rfl) (fun _ _ _ h => h) (Or.inl ⟨by rfl, ?hy2⟩) (by assumption) ?rest2
  case hy2 => (intro w hSw; (try dsimp only at hSw); go_simp <;> with_reducible rfl)
  try simp only [Act.put, List.getElem_toArray, List.getElem_cons_zero, List.getElem_cons_succ, List.setIfInBounds_toArray, List.set_cons_zero, List.set_cons_succ]
  refine wpAnyH_take (i := 3) (v := ?v3) rfl (by kernel_rfl) (by kernel_rfl) (by kernel_rfl) (fun _ _ _ h => h) (Or.inl ⟨by rfl, ?hy3⟩) (by assumption) ?rest3
  case hy3 => (intro w hSw; (try dsimp only at hSw); go_simp <;> with_reducible rfl)
  try simp only [Act.put, List.getElem_toArray, List.getElem_cons_zero, List.getElem_cons_succ, List.setIfInBounds_toArray, List.set_cons_zero, List.set_cons_succ]
  refine wpAnyH_take (i := 4) (v := ?v4) rfl (by kernel_rfl) (by kernel_rfl) (by kernel_rfl) (fun _ _ _ h => h) (Or.inl ⟨by rfl, ?hy4⟩) (by assumption) ?rest4
  case hy4 => (intro w hSw; (try dsimp only at hSw); go_simp <;> with_reducible rfl)
  try simp only [Act.put, List.getElem_toArray, List.getElem_cons_zero, List.getElem_cons_succ, List.setIfInBounds_toArray, List.set_cons_zero, List.set_cons_succ]
  refine wpAnyH_ready (rs := [1]) (by kernel_rfl) (by simp) ?_
  refine AllReadyH.cons rfl (fun K hK => ?_) AllReadyH.nil
  go_simp
  go_at_call 12
  refine (bheld_cell (w := w1.drew) f1).mono ?_
  rintro e w' ⟨rfl, rfl⟩
  refine hK.out _ _ ⟨d3, f1, f4⟩ (fun hHeld => ?_)
  clear hK K
  try simp only [Act.put, List.getElem_toArray, List.getElem_cons_zero, List.getElem_cons_succ, List.setIfInBounds_toArray, List.set_cons_zero, List.set_cons_succ]
  refine wpAnyH_take (i := 5) (v := ?v5q1) rfl (by kernel_rfl) (by kernel_rfl) (by kernel_rfl) (fun _ _ _ h => h) (Or.inl ⟨by rfl, ?hy5q1⟩) (by assumption) ?rest5q1
  case hy5q1 => (intro w hSw; (try dsimp only at hSw); go_simp <;> with_reducible rfl)
  try simp only [Act.put, List.getElem_toArray, List.getElem_cons_zero, List.getElem_cons_succ, List.setIfInBounds_toArray, List.set_cons_zero, List.set_cons_succ]
  refine wpAnyH_take (i := 6) (v := ?v6q1) rfl (by kernel_rfl) (by kernel_rfl) (by kernel_rfl) (fun _ _ _ h => h) (Or.inl ⟨by rfl, ?hy6q1⟩) (by assumption) ?rest6q1
  case hy6q1 => (intro w hSw; (try dsimp only at hSw); go_simp <;> with_reducible rfl)
  try simp only [Act.put, List.getElem_toArray, List.getElem_cons_zero, List.getElem_cons_succ, List.setIfInBounds_toArray, List.set_cons_zero, List.set_cons_succ]
  refine wpAnyH_take (i := 7) (v := ?v7q1) rfl (by kernel_rfl) (by kernel_rfl) (by kernel_rfl) (fun _ _ _ h => h) (Or.inl ⟨by rfl, ?hy7q1⟩) (by assumption) ?rest7q1
  case hy7q1 => (intro w hSw; (try dsimp only at hSw); go_simp <;> with_reducible rfl)
  try simp only [Act.put, List.getElem_toArray, List.getElem_cons_zero, List.getElem_cons_succ, List.setIfInBounds_toArray, List.set_cons_zero, List.set_cons_succ]
  refine wpAnyH_take (i := 8) (v := undef) rfl (by kernel_rfl) (by kernel_rfl) (by kernel_rfl) (fun _ _ _ h => h) (Or.inr ⟨by rfl, rfl⟩) (by assumption) ?rest8q1
  try simp only [Act.put, List.getElem_toArray, List.getElem_cons_zero, List.getElem_cons_succ, List.setIfInBounds_toArray, List.set_cons_zero, List.set_cons_succ]
  refine wpAnyH_take (i := 9) (v := undef) rfl (by kernel_rfl) (by kernel_rfl) (by kernel_rfl) (fun _ _ _ h => h) (Or.inr ⟨by rfl, rfl⟩) (by assumption) ?rest9q1
  try simp only [Act.put, List.getElem_toArray, List.getElem_cons_zero, List.getElem_cons_succ, List.setIfInBounds_toArray, List.set_cons_zero, List.set_cons_succ]
  refine wpAnyH_take (i := 10) (v := undef) rfl (by kernel_rfl) (by kernel_rfl) (by kernel_rfl) (fun _ _ _ h => h) (Or.inr ⟨by rfl, rfl⟩) (by assumption) ?rest10q1
  try simp only [Act.put, List.getElem_toArray, List.getElem_cons_zero, List.getElem_cons_succ, List.setIfInBounds_toArray, List.set_cons_zero, List.set_cons_succ]
  refine wpAnyH_take (i := 11) (v := undef) rfl (by kernel_rfl) (by kernel_rfl) (by kernel_rfl) (fun _ _ _ h => h) (Or.inr ⟨by rfl, rfl⟩) (by assumption) ?rest11q1
  try simp only [Act.put, List.getElem_toArray, List.getElem_cons_zero, List.getElem_cons_succ, List.setIfInBounds_toArray, List.set_cons_zero, List.set_cons_succ]
  refine wpAnyH_take (i := 12) (v := undef) rfl (by kernel_rfl) (by kernel_rfl) (by kernel_rfl) (fun _ _ _ h => h) (Or.inr ⟨by rfl, rfl⟩) (by assumption) ?rest12q1
  try simp only [Act.put, List.getElem_toArray, List.getElem_cons_zero, List.getElem_cons_succ, List.setIfInBounds_toArray, List.set_cons_zero, List.set_cons_succ]
  refine wpAnyH_take (i := 13) (v := ?v13q1) rfl (by kernel_rfl) (by kernel_rfl) (by kernel_rfl) (fun _ _ _ h => h) (Or.inl ⟨by rfl, ?hy13q1⟩) (by assumption) ?rest13q1
  case hy13q1 => (intro w hSw; (try dsimp only at hSw); go_simp <;> with_reducible rfl)
  try simp only [Act.put, List.getElem_toArray, List.getElem_cons_zero, List.getElem_cons_succ, List.setIfInBounds_toArray, List.set_cons_zero, List.set_cons_succ]
  refine wpAnyH_done (by kernel_rfl) ?_ _
  clear d3 f1 f4 hs
  have HR2 : Hid (Row w1.drew g 51 (gac st A blk.length c en true more none)) := HR.out
  have TW2 : Hid (Row w1.drew (w.heap.size + 1) 34 (whc 0 none 0 0 false)) := TW.out
  have HF2 : Hid (Fs (gvS g (.slice A blk.length c)) w w1.drew) := HF.out.drewN 1
  clear HR TW HF HO HD TX HN HSZ
  generalize w1.drew = w2 at *
  go_wp2_with (refine wpList_build_is rfl 34 _ rfl (whc 0 none 0 0 false) (by kernel_rfl) ?_)
  refine (conn_any 11 _).mono ?_
  rintro e w3 ⟨p, rfl, hr, hb3⟩
  have HR3 : Hid (Row w3 g 51 (gac st A blk.length c en true more none)) := HR2.out.below hb3 HR2.out.lt
  have TW3 : Hid (Row w3 (w.heap.size + 1) 34 (whc 0 none 0 0 false)) := TW2.out.below hb3 TW2.out.lt
  have HF3 : Hid (Fs (gvS g (.slice A blk.length c)) w w3) := HF2.out.then_below hb3
  have HP : Hid (Row w3 p 61 #[.int .u8 1, .int .u32 11]) := hr
  clear HR2 TW2 HF2 hr hb3
  go_wp2_with (refine wpList_sw (cs := whc 0 none 0 0 false) rfl _ _ rfl rfl rfl TW3.out (wh_sz _ _ _ _ _ _ _ _ _ _) (wh_ok _ _ _ _ _) ?_)
  exact bodyPost_ret (ret_avv rfl _ rfl (TW3.out.setRow _) (wh_ok _ _ _ _ _) rfl rfl) rfl (TkP.fail (by omega) (HF3.out.setRow (g := w.heap.size + 1) (fun h => absurd h (by omega)) _) (HP.out.row_far (Row.ne HP.out TW3.out (by decide)) _) (HR3.out.row_far (Row.ne HR3.out TW3.out (by decide)) _) (ga_six _ _ _ _ _ _ _ _))
set_option maxRecDepth 100000 in
set_option maxHeartbeats 4000000 in
theorem add_many {w : World} {base g st : Nat} {A : Option Addr} {c : Nat} {en : Bool} {more : Nat} {blk d : List UInt8} {x : Fm} (hR : Row w g 51 (gac st A blk.length c en true more none)) (hO : Bo w base 5 (.slice A blk.length c) blk)
    (hD : RdB w w.heap.size x.dA d) (hdn : x.dn = d.length) (_hfl : x.fl < 256) (_hlo : 0 < base ∧ base ≤ g) (_hb : blk.length ≤ 8192) (_hd : d.length ≤ 1000000000) (hm : more ≤ 17) (h1 : blk.length + x.dn ≤ 8192) (h2 : 16 < more) :
    Calls Tryd.prog 21 #[.pointer (some ⟨g, 0, none⟩), .agg x.c] w (TkP w base g (.slice A blk.length c) (gmF 11, false, gm0)) := by
  obtain ⟨w1, hw1, t1, t2, t3, t4⟩ := fr_wh w x
  have T7 := Lib.hid hw1
  have TX := Lib.hid t1
  have TW := Lib.hid t2
  have HR : Hid (Row w1 g 51 (gac st A blk.length c en true more none)) := hR.below t3 hR.lt
  have HD : Hid (RdB w1 w.heap.size x.dA d) := hD.below t3
  have HO : Hid (Bo w1 base 5 (.slice A blk.length c) blk) := OwS.below hO t3
  have HN := Lib.hid hdn
  have HF : Hid (Fs (gvS g (.slice A blk.length c)) w w1) := Fs.of_below t3
  have HSZ : Hid (w.heap.size < w1.heap.size) := by show _ < _; rw [t4]; omega
  have f1 := (ga_cells HR.out).2.1
  have f4 := (ga_cells HR.out).2.2.2.2.1
  have d3 : w1.cell? ⟨w.heap.size, 3, none⟩ = some (.slice x.dA x.dn x.dc) := (fm_cells TX.out).2.2.2.1
  clear hw1 t1 t2 t3 t4 hR hD hO _hlo _hfl
  obtain ⟨m, hm1⟩ : ∃ m : Nat, m = blk.length + x.dn := ⟨_, rfl⟩
  have hs : IntKind.i64.wrap ((blk.length : Int) + (x.dn : Int)) = (m : Int) := by rw [IntWalk.i64_in _ (by omega)]; omega
  rw [← hm1] at h1
  have g8 : decide ((8192 : Int) < (m : Int)) = false := decide_eq_false (by omega)
  have h16 : (16 : Int) < (more : Int) := by omega
  clear hm1 h1 h2 _hb _hd hm hdn
  go_enter Tryd.func21, Tryd.ntmps21
  go_upto_region 1 with fail
  rw [T7.out]
  clear T7
  refine wp_region_held_drew (S := fun w' => w'.cell? ⟨w.heap.size, 3, none⟩ = some (.slice x.dA x.dn x.dc) ∧ w'.cell? ⟨g, 1, none⟩ = some (.slice A blk.length c) ∧ w'.cell? ⟨g, 4, none⟩ = some (.int .i64 more)) (by kernel_rfl) ⟨d3, f1, f4⟩ (fun hHeld => ?_)
  refine wpAnyH_take (i := 0) (v := ?v0q2) rfl (by kernel_rfl) (by kernel_rfl) (by kernel_rfl) (fun _ _ _ h => h) (Or.inl ⟨by rfl, ?hy0q2⟩) (by assumption) ?rest0q2
  case hy0q2 => (intro w hSw; (try dsimp only at hSw); go_simp <;> with_reducible rfl)
  try simp only [Act.put, List.getElem_toArray, List.getElem_cons_zero, List.setIfInBounds_toArray, List.set_cons_zero, List.set_cons_succ]
  refine wpAnyH_take (i := 2) (v := ?v2q2) rfl (by kernel_rfl) (by kernel_rfl) (by kernel_rfl) (fun _ _ _ h => h) (Or.inl ⟨by rfl, ?hy2q2⟩) (by assumption) ?rest2q2
  case hy2q2 => (intro w hSw; (try dsimp only at hSw); go_simp <;> with_reducible rfl)
  try simp only [Act.put, List.getElem_toArray, List.getElem_cons_zero, List.getElem_cons_succ, List.setIfInBounds_toArray, List.set_cons_zero, List.set_cons_succ]
  refine wpAnyH_take (i := 3) (v := ?v3q2) rfl (by kernel_rfl) (by kernel_rfl) (by kernel_rfl) (fun _ _ _ h => h) (Or.inl ⟨by rfl, ?hy3q2⟩) (by assumption) ?rest3q2
  case hy3q2 => (intro w hSw; (try dsimp only at hSw); go_simp <;> with_reducible rfl)
  try simp only [Act.put, List.getElem_toArray, List.getElem_cons_zero, List.getElem_cons_succ, List.setIfInBounds_toArray, List.set_cons_zero, List.set_cons_succ]
  refine wpAnyH_take (i := 4) (v := ?v4q2) rfl (by kernel_rfl) (by kernel_rfl) (by kernel_rfl) (fun _ _ _ h => h) (Or.inl ⟨by rfl, ?hy4q2⟩) (by assumption) ?rest4q2
  case hy4q2 => (intro w hSw; (try dsimp only at hSw); go_simp <;> with_reducible rfl)
  try simp only [Act.put, List.getElem_toArray, List.getElem_cons_zero, List.getElem_cons_succ, List.setIfInBounds_toArray, List.set_cons_zero, List.set_cons_succ]
  refine wpAnyH_ready (rs := [1]) (by kernel_rfl) (by simp) ?_
  refine AllReadyH.cons rfl (fun K hK => ?_) AllReadyH.nil
  go_simp
  go_at_call 12
  refine (bheld_cell (w := w1.drew) f1).mono ?_
  rintro e w' ⟨rfl, rfl⟩
  refine hK.out _ _ ⟨d3, f1, f4⟩ (fun hHeld => ?_)
  clear hK K
  try simp only [Act.put, List.getElem_toArray, List.getElem_cons_zero, List.getElem_cons_succ, List.setIfInBounds_toArray, List.set_cons_zero, List.set_cons_succ]
  refine wpAnyH_take (i := 5) (v := ?v5q3) rfl (by kernel_rfl) (by kernel_rfl) (by kernel_rfl) (fun _ _ _ h => h) (Or.inl ⟨by rfl, ?hy5q3⟩) (by assumption) ?rest5q3
  case hy5q3 => (intro w hSw; (try dsimp only at hSw); go_simp <;> with_reducible rfl)
  try simp only [Act.put, List.getElem_toArray, List.getElem_cons_zero, List.getElem_cons_succ, List.setIfInBounds_toArray, List.set_cons_zero, List.set_cons_succ]
  refine wpAnyH_take (i := 6) (v := ?v6q3) rfl (by kernel_rfl) (by kernel_rfl) (by kernel_rfl) (fun _ _ _ h => h) (Or.inl ⟨by rfl, ?hy6q3⟩) (by assumption) ?rest6q3
  case hy6q3 => (intro w hSw; (try dsimp only at hSw); go_simp <;> with_reducible rfl)
  try simp only [Act.put, List.getElem_toArray, List.getElem_cons_zero, List.getElem_cons_succ, List.setIfInBounds_toArray, List.set_cons_zero, List.set_cons_succ]
  refine wpAnyH_take (i := 7) (v := ?v7q3) rfl (by kernel_rfl) (by kernel_rfl) (by kernel_rfl) (fun _ _ _ h => h) (Or.inl ⟨by rfl, ?hy7q3⟩) (by assumption) ?rest7q3
  case hy7q3 => (intro w hSw; (try dsimp only at hSw); go_simp <;> with_reducible rfl)
  try simp only [Act.put, List.getElem_toArray, List.getElem_cons_zero, List.getElem_cons_succ, List.setIfInBounds_toArray, List.set_cons_zero, List.set_cons_succ]
  refine wpAnyH_take (i := 8) (v := ?v8q3) rfl (by kernel_rfl) (by kernel_rfl) (by kernel_rfl) (fun _ _ _ h => h) (Or.inl ⟨by rfl, ?hy8q3⟩) (by assumption) ?rest8q3
  case hy8q3 => (intro w hSw; (try dsimp only at hSw); go_simp <;> with_reducible rfl)
  try simp only [Act.put, List.getElem_toArray, List.getElem_cons_zero, List.getElem_cons_succ, List.setIfInBounds_toArray, List.set_cons_zero, List.set_cons_succ]
  refine wpAnyH_take (i := 9) (v := ?v9q3) rfl (by kernel_rfl) (by kernel_rfl) (by kernel_rfl) (fun _ _ _ h => h) (Or.inl ⟨by rfl, ?hy9q3⟩) (by assumption) ?rest9q3
  case hy9q3 => (intro w hSw; (try dsimp only at hSw); go_simp <;> with_reducible rfl)
  try simp only [Act.put, List.getElem_toArray, List.getElem_cons_zero, List.getElem_cons_succ, List.setIfInBounds_toArray, List.set_cons_zero, List.set_cons_succ]
  refine wpAnyH_take (i := 10) (v := ?v10q3) rfl (by kernel_rfl) (by kernel_rfl) (by kernel_rfl) (fun _ _ _ h => h) (Or.inl ⟨by rfl, ?hy10q3⟩) (by assumption) ?rest10q3
  case hy10q3 => (intro w hSw; (try dsimp only at hSw); go_simp <;> with_reducible rfl)
  try simp only [Act.put, List.getElem_toArray, List.getElem_cons_zero, List.getElem_cons_succ, List.setIfInBounds_toArray, List.set_cons_zero, List.set_cons_succ]
  refine wpAnyH_take (i := 11) (v := ?v11q3) rfl (by kernel_rfl) (by kernel_rfl) (by kernel_rfl) (fun _ _ _ h => h) (Or.inl ⟨by rfl, ?hy11q3⟩) (by assumption) ?rest11q3
  case hy11q3 => (intro w hSw; (try dsimp only at hSw); go_simp <;> with_reducible rfl)
  try simp only [Act.put, List.getElem_toArray, List.getElem_cons_zero, List.getElem_cons_succ, List.setIfInBounds_toArray, List.set_cons_zero, List.set_cons_succ]
  refine wpAnyH_take (i := 12) (v := ?v12q3) rfl (by kernel_rfl) (by kernel_rfl) (by kernel_rfl) (fun _ _ _ h => h) (Or.inl ⟨by rfl, ?hy12q3⟩) (by assumption) ?rest12q3
  case hy12q3 => (intro w hSw; (try dsimp only at hSw); go_simp <;> with_reducible rfl)
  try simp only [Act.put, List.getElem_toArray, List.getElem_cons_zero, List.getElem_cons_succ, List.setIfInBounds_toArray, List.set_cons_zero, List.set_cons_succ]
  refine wpAnyH_take (i := 13) (v := ?v13q3) rfl (by kernel_rfl) (by kernel_rfl) (by kernel_rfl) (fun _ _ _ h => h) (Or.inl ⟨by rfl, ?hy13q3⟩) (by assumption) ?rest13q3
  case hy13q3 => (intro w hSw; (try dsimp only at hSw); go_simp <;> with_reducible rfl)
  try simp only [Act.put, List.getElem_toArray, List.getElem_cons_zero, List.getElem_cons_succ, List.setIfInBounds_toArray, List.set_cons_zero, List.set_cons_succ]
  refine wpAnyH_done (by kernel_rfl) ?_ _
  clear d3 f1 f4 hs
  have HR2 : Hid (Row w1.drew g 51 (gac st A blk.length c en true more none)) := HR.out
  have TW2 : Hid (Row w1.drew (w.heap.size + 1) 34 (whc 0 none 0 0 false)) := TW.out
  have HF2 : Hid (Fs (gvS g (.slice A blk.length c)) w w1.drew) := HF.out.drewN 1
  clear HR TW HF HO HD TX HN HSZ
  generalize w1.drew = w2 at *
  go_wp2_with (refine wpList_build_is rfl 34 _ rfl (whc 0 none 0 0 false) (by kernel_rfl) ?_)
  refine (conn_any 11 _).mono ?_
  rintro e w3 ⟨p, rfl, hr, hb3⟩
  have HR3 : Hid (Row w3 g 51 (gac st A blk.length c en true more none)) := HR2.out.below hb3 HR2.out.lt
  have TW3 : Hid (Row w3 (w.heap.size + 1) 34 (whc 0 none 0 0 false)) := TW2.out.below hb3 TW2.out.lt
  have HF3 : Hid (Fs (gvS g (.slice A blk.length c)) w w3) := HF2.out.then_below hb3
  have HP : Hid (Row w3 p 61 #[.int .u8 1, .int .u32 11]) := hr
  clear HR2 TW2 HF2 hr hb3
  go_wp2_with (refine wpList_sw (cs := whc 0 none 0 0 false) rfl _ _ rfl rfl rfl TW3.out (wh_sz _ _ _ _ _ _ _ _ _ _) (wh_ok _ _ _ _ _) ?_)
  exact bodyPost_ret (ret_avv rfl _ rfl (TW3.out.setRow _) (wh_ok _ _ _ _ _) rfl rfl) rfl (TkP.fail (by omega) (HF3.out.setRow (g := w.heap.size + 1) (fun h => absurd h (by omega)) _) (HP.out.row_far (Row.ne HP.out TW3.out (by decide)) _) (HR3.out.row_far (Row.ne HR3.out TW3.out (by decide)) _) (ga_six _ _ _ _ _ _ _ _))
end Go.Proofs.YtcbepicdnmnfaaaDoor
