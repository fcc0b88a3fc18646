/-
  Next of a socket's splitter, by its contract. Conditions: the splitter lies behind the package's variables; errors.errorType holds what the program's text lays.
-/
import Derived.Test.YtejlbgllfkfkfaaDoorJst
import Derived.Deep.RegionHeld3
namespace Go.Proofs.YtejlbgllfkfkfaaDoor
open Go.RowKit Go.WideShapes

/-- What Next hands back, out of two variables and a slot. -/
theorem retJ3 {fn : Func} {p q b : Tmp} {g g' : Nat} {y : Value} {T T' : TypeId} {cs cs' : Array Value} {w : World} (h : fn.results = #[.cell p T, .cell q T', .tmp b]) (tmps : Array Value) (hp : tmps.getD p undef = .pointer (some ⟨g, 0, none⟩)) (hR : Row w g T cs) (hk : AgOk Tryd.prog T cs)
    (hq : tmps.getD q undef = .pointer (some ⟨g', 0, none⟩)) (hR' : Row w g' T' cs') (hk' : AgOk Tryd.prog T' cs') (hb : tmps.getD b undef = y) :
    (results fn tmps).run Tryd.prog w = .ok (.tuple #[.agg cs, .agg cs', y]) w := by
  have hl := run_ld hk hR
  have hl' := run_ld hk' hR'
  have hp' : tmps[p]?.getD undef = .pointer (some ⟨g, 0, none⟩) := by simpa using hp
  have hq' : tmps[q]?.getD undef = .pointer (some ⟨g', 0, none⟩) := by simpa using hq
  have hb' : tmps[b]?.getD undef = y := by simpa using hb
  simp only [results, h]
  simp [hp', hq', hb', asAddr, hl, hl']
def zpJ : Array Value := pcC false 0 false 0 none 0 0
/-- What a splitter tells: a frame, a fault's code, whether it tells. -/
def toldJ : Option (Pc × Nat) → Pc × Nat × Bool
  | none => (Pc.zero, 0, false)
  | some q => (q.1, q.2, true)
def pcA (p : Pc) (A : Option Addr) (c : Nat) : Array Value := pcC p.fin p.op p.mask p.key A p.dat.length c
/-- What Next leaves. -/
def NxJ (w : World) (base g : Nat) (v : Value) (m : Bool) (r : Option (Pc × Nat) × List UInt8 × Bool) (e : Ending) (w' : World) : Prop :=
  ∃ A c v', e = .returned (.tuple #[.agg (pcA (toldJ r.1).1 A c), .agg (ftI (scI (toldJ r.1).2.1) (toldJ r.1).2.1), .bool (toldJ r.1).2.2]) ∧ RdS w' (fun k => w.heap.size ≤ k ∧ k < w'.heap.size) A (byc (toldJ r.1).1.dat) ∧ (toldJ r.1).1.dat.length ≤ c ∧
    Sj w' base g v' m r.2.1 r.2.2 ∧ Fs (jvS g v) w w' ∧ ∀ k, ob v' k → ob v k
theorem jz_sz (c : Array Value) (h : c.size = 5) : zpJ.size = c.size := h.symm
set_option maxRecDepth 100000 in
set_option maxHeartbeats 1000000 in
theorem jnext_none {pv : Value} {w : World} (hb : ∀ W : World, W = ((w.alloc (.cells #[.bool false, .int .u8 0, .bool false, .int .u32 0, .slice none 0 0] 31)).alloc (.cells #[.int .u8 0, .int .u32 0] 33)) → Calls Tryd.prog 9 #[pv] W fun e w' => e = .returned (.bool true) ∧ w' = W) :
    Calls Tryd.prog 12 #[pv] w fun e w' => e = .returned (.tuple #[.agg (pcA Pc.zero none 0), .agg (ftI (scI 0) 0), .bool false]) ∧ Below w.heap.size w w' := by
  have HR0 : Hid (Row ((w.alloc (.cells #[.bool false, .int .u8 0, .bool false, .int .u32 0, .slice none 0 0] 31)).alloc (.cells #[.int .u8 0, .int .u32 0] 33)) w.heap.size 31 zpJ) := (Row.new w 31 zpJ).alloc (.cells (ftI 0 0) 33)
  have HT0 : Hid (Row ((w.alloc (.cells #[.bool false, .int .u8 0, .bool false, .int .u32 0, .slice none 0 0] 31)).alloc (.cells #[.int .u8 0, .int .u32 0] 33)) (w.heap.size + 1) 33 (ftI 0 0)) := Row.made (w.alloc (.cells zpJ 31)) _ _ (by simp)
  have HB0 : Hid (Below w.heap.size w ((w.alloc (.cells #[.bool false, .int .u8 0, .bool false, .int .u32 0, .slice none 0 0] 31)).alloc (.cells #[.int .u8 0, .int .u32 0] 33))) := ((Below.refl _ _).alloc (Nat.le_refl _) _).alloc (by simp) _
  have hb1 := hb _ rfl
  clear hb
  go_enter Tryd.func12, Tryd.ntmps12
  go_upto_region 1 with fail
  generalize ((w.alloc (.cells #[.bool false, .int .u8 0, .bool false, .int .u32 0, .slice none 0 0] 31)).alloc (.cells #[.int .u8 0, .int .u32 0] 33)) = w1 at *
  go_wp2_with fail
  refine hb1.mono ?_
  rintro e w2 ⟨rfl, rfl⟩
  clear hb1
  have HT1 := Lib.hid (HT0.out.setRow' (k := w.heap.size) (by omega) zpJ)
  go_wp2_with (first
    | (refine wpList_sw (cs := zpJ) rfl _ _ rfl rfl rfl HR0.out rfl (pc_ok _ _ _ _ _ _ _) ?_)
    | (refine wpList_sw (cs := ftI 0 0) rfl _ _ rfl rfl rfl HT1.out (ftI_sz _ _ _ _) (ftI_ok _ _) ?_))
  refine bodyPost_ret (retJ3 (fn := Tryd.f12) rfl _ rfl ((HR0.out.setRow _).setRow' (k := w.heap.size + 1) (by omega) _) (pc_ok _ _ _ _ _ _ _) rfl (HT1.out.setRow _) (ftI_ok _ _) rfl) rfl ?_
  exact ⟨rfl, below_setRow (below_setRow HB0.out _ _ (Nat.le_refl _)) _ _ (Nat.le_succ _)⟩
theorem jnext_nil (w : World) : Calls Tryd.prog 12 #[.pointer none] w fun e w' => e = .returned (.tuple #[.agg (pcA Pc.zero none 0), .agg (ftI (scI 0) 0), .bool false]) ∧ Below w.heap.size w w' := jnext_none fun W _ => jbad_nil W
theorem jnext_bad {w : World} {base g : Nat} {v : Value} {m : Bool} {l : List UInt8} (h : Sj w base g v m l true) : Calls Tryd.prog 12 #[.pointer (some ⟨g, 0, none⟩)] w (NxJ w base g v m (njN m l true)) := by
  refine (jnext_none fun W hW => jbad_any (h.below ?_)).mono ?_
  · rw [hW]
    exact ((Below.refl _ _).alloc (Nat.le_refl _) _).alloc (by simp) _
  · rintro e w' ⟨rfl, hb⟩
    rw [nj_bad]
    rcases h with ⟨h0, _⟩ | ⟨_, h⟩
    · cases h0
    · obtain ⟨rfl, rfl⟩ := h.nul
      exact ⟨none, 0, _, rfl, RdS.nil, Nat.le_refl _, Sj.below (.inr ⟨rfl, h⟩) hb, Fs.of_below hb, fun _ h => h⟩

/-- On the way through Next: the splitter as it was, the two result variables. -/
structure NJ (w : World) (base g : Nat) (v : Value) (m : Bool) (l : List UInt8) (W : World) : Prop where
  jg : JG W base g v m l
  fs : Fs (jvS g v) w W
  rp : Row W w.heap.size 31 zpJ
  rt : Row W (w.heap.size + 1) 33 (ftI 0 0)
  gl : GlobE W
  lt : g < w.heap.size ∧ ∀ k, ob v k → k < w.heap.size
section
variable {w W W' : World} {base g : Nat} {v : Value} {m : Bool} {l : List UInt8}
theorem NJ.below (h : NJ w base g v m l W) (hb : Below W.heap.size W W') : NJ w base g v m l W' :=
  ⟨h.jg.keep (hb.block g h.jg.lts.1) fun k hk => hb.block k (h.jg.lts.2 k hk).2, h.fs.then_below hb, h.rp.below hb h.rp.lt, h.rt.below hb h.rt.lt, h.gl.below hb, h.lt⟩
theorem NJ.start (h : JG w base g v m l) (hG : GlobE w) : NJ w base g v m l ((w.alloc (.cells zpJ 31)).alloc (.cells (ftI 0 0) 33)) := by
  have hb : Below w.heap.size w ((w.alloc (.cells zpJ 31)).alloc (.cells (ftI 0 0) 33)) := ((Below.refl _ _).alloc (Nat.le_refl _) _).alloc (by simp) _
  exact ⟨h.keep (hb.block g h.lts.1) fun k hk => hb.block k (h.lts.2 k hk).2, Fs.of_below hb, (Row.new w _ _).alloc _, Row.made _ _ _ (by simp), hG.below hb, h.lts.1, fun k hk => (h.lts.2 k hk).2⟩
/-- A row of its own is written. -/
theorem NJ.far (h : NJ w base g v m l W) (cs : Array Value) {pf : Nat} (hp : w.heap.size + 2 ≤ pf) : NJ w base g v m l (W.setRow pf cs) := by
  have h1 := h.lt
  exact ⟨h.jg.keep (setRow_other _ _ _ _ (by omega)) fun k hk => setRow_other _ _ _ _ (by have := h1.2 k hk; omega), h.fs.setRow (fun h2 => by omega) cs, h.rp.setRow' (by omega) _, h.rt.setRow' (by omega) _, (by
    have h3 := blk_lt h.gl
    have h4 := h.jg.lo
    exact (setRow_cell _ _ (by omega)).trans h.gl), h.lt⟩
theorem NJ.drew (h : NJ w base g v m l W) : NJ w base g v m l W.drew := h.below (Below.refl _ _).drew
/-- What is handed back is laid into the result variables. -/
theorem NJ.res (h : NJ w base g v m l W) (cs ds : Array Value) : Row ((W.setRow w.heap.size cs).setRow (w.heap.size + 1) ds) w.heap.size 31 cs ∧ Row ((W.setRow w.heap.size cs).setRow (w.heap.size + 1) ds) (w.heap.size + 1) 33 ds ∧ Row (W.setRow w.heap.size cs) (w.heap.size + 1) 33 (ftI 0 0) ∧
    JG ((W.setRow w.heap.size cs).setRow (w.heap.size + 1) ds) base g v m l ∧ Fs (jvS g v) w ((W.setRow w.heap.size cs).setRow (w.heap.size + 1) ds) ∧ (∀ k, k ≠ w.heap.size → k ≠ w.heap.size + 1 → ((W.setRow w.heap.size cs).setRow (w.heap.size + 1) ds).heap[k]? = W.heap[k]?) ∧ ((W.setRow w.heap.size cs).setRow (w.heap.size + 1) ds).heap.size = W.heap.size := by
  have h1 := h.lt
  have hk : ∀ k, k ≠ w.heap.size → k ≠ w.heap.size + 1 → ((W.setRow w.heap.size cs).setRow (w.heap.size + 1) ds).heap[k]? = W.heap[k]? := fun k h2 h3 => (setRow_other _ _ k ds h3).trans (setRow_other _ _ k cs h2)
  refine ⟨(h.rp.setRow cs).setRow' (by omega) _, (h.rt.setRow' (by omega) _).setRow _, h.rt.setRow' (by omega) _, h.jg.keep (hk g (by omega) (by omega)) fun k h2 => hk k (by have := h1.2 k h2; omega) (by have := h1.2 k h2; omega), (h.fs.setRow (g := w.heap.size) (fun h2 => by omega) cs).setRow (g := w.heap.size + 1) (fun h2 => by omega) ds, hk, by simp⟩
end
end Go.Proofs.YtejlbgllfkfkfaaDoor
