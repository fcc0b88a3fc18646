/-
  hpack's putField, by its contract. Conditions: names and values of at most 9000 bytes, a most of at most 4096.
-/
import Derived.Test.YtfajffchnnalaaaKfld
namespace Go.Proofs.Ytfajffchnnalaaa
open Go.RowKit Go.WideShapes

attribute [local irreducible] tot shr sz first fndN fndB isN isB nmL vlL tab named numT hasT isBT isNT txtL numL litL addL putF tabF nOf hOf

section
variable {w w' : World} {B ge g : Nat} {v : Value} {L : List Fd} {M : Nat} {lim : Bool} {low : Nat} {S : Nat → Prop}
theorem En.lt (h : En w B ge g v L M lim low) : ge < w.heap.size := Row.lt h.e
theorem En.vlt (h : En w B ge g v L M lim low) {k : Nat} (hk : ob v k) : B ≤ k ∧ k < w.heap.size := h.t.row.lt k hk
theorem En.vg (h : En w B ge g v L M lim low) : ¬ ob v g := h.t.ne
theorem En.below (h : En w B ge g v L M lim low) (hb : Below w.heap.size w w') : En w' B ge g v L M lim low := ⟨h.t.below hb, h.e.below hb h.lt, h.ne, h.nv, h.lo⟩
/-- A step that leaves its blocks alone. -/
theorem En.apart (h : En w B ge g v L M lim low) (hF : Fs S w w') (h1 : ¬ S ge) (h2 : ¬ S g) (h3 : ∀ k, ob v k → ¬ S k) : En w' B ge g v L M lim low := ⟨hF.tb h.t h2 h3, hF.row h1 h.e, h.ne, h.nv, h.lo⟩
/-- A step on its table. -/
theorem En.stepT (h : En w B ge g v L M lim low) {v' : Value} {L' : List Fd} {M' : Nat} (hT : Tb w' B g v' L' M') (hF : Fs (fun k => k = g ∨ ob v k) w w') (hN : Nx w v v') : En w' B ge g v' L' M' lim low :=
  ⟨hT, hF.row (fun e => by rcases e with e | e; exact h.ne e; exact h.nv e) h.e, h.ne, hN.not h.lt h.nv, h.lo⟩
theorem En.c0 (h : En w B ge g v L M lim low) : w.cell? ⟨ge, 0, none⟩ = some (pt g) := h.e.cell (j := 0) rfl
theorem En.c1 (h : En w B ge g v L M lim low) : w.cell? ⟨ge, 1, none⟩ = some (.bool lim) := h.e.cell (j := 1) rfl
theorem En.c2 (h : En w B ge g v L M lim low) : w.cell? ⟨ge, 2, none⟩ = some (.int .u32 (low : Int)) := h.e.cell (j := 2) rfl
end

/-- What a call leaves that puts a field. -/
def MadeF (w : World) (base B ge g : Nat) (v bv : Value) (l : List UInt8) (L : List Fd) (M : Nat) (lim : Bool) (low : Nat) (e : Ending) (w' : World) : Prop :=
  ∃ bv' v', e = .returned bv' ∧ Bo w' base 5 bv' l ∧ En w' B ge g v' L M lim low ∧ (∀ k, ob bv' k → ¬ ob v' k) ∧ Fs (fun k => k = g ∨ ob v k ∨ ob bv k) w w' ∧ Nx w v v' ∧ Nx w bv bv'

theorem MadeF.last {w w1 w2 : World} {base B ge g : Nat} {v v1 bv bv2 : Value} {l2 : List UInt8} {L' : List Fd} {M : Nat} {lim : Bool} {low : Nat} (hE : En w1 B ge g v1 L' M lim low) (hF : Fs (fun k => k = g ∨ ob v k ∨ ob bv k) w w1) (hNv : Nx w v v1)
    (hlo : ∀ k, ob bv k → base ≤ k ∧ k < w.heap.size) (hd : ∀ k, ob bv k → ¬ ob v1 k) (hg1 : ge < base) (hg2 : g < base) (hO2 : Bo w2 base 5 bv2 l2) (hF2 : Fs (ob bv) w1 w2) (hN2 : Nx w1 bv bv2) :
    MadeF w base B ge g v bv l2 L' M lim low (.returned bv2) w2 := by
  refine ⟨bv2, v1, rfl, hO2, hE.apart hF2 (fun e => ?_) (fun e => ?_) (fun k hk e => hd k e hk), fun k hk e => ?_, hF.trans hF2 fun k hk e => .inr (.inr e), hNv, (Nx.refl w bv).trans hN2 hF.size⟩
  · have := (hlo _ e).1; omega
  · have := (hlo _ e).1; omega
  · rcases hN2.own hk with h1 | h1
    · exact hd k h1 e
    · have := (hE.vlt e).2; omega
theorem fv_cells (f : Fd) : fv f = .agg #[.string ⟨f.nm.toArray⟩, .string ⟨f.vl.toArray⟩, .bool f.nv] := rfl

set_option maxRecDepth 100000 in
set_option maxHeartbeats 2000000 in
theorem putField_any {base B ge g : Nat} {v bv : Value} {l : List UInt8} {L : List Fd} {M low : Nat} {lim : Bool} {f : Fd} {w : World} (hf1 : f.nm.length ≤ 9000) (hf2 : f.vl.length ≤ 9000) (hM : M ≤ 4096) (hL : tot L ≤ M)
    (h : En w B ge g v L M lim low) (hO : Bo w base 5 bv l) (hg1 : ge < base) (hg2 : g < base) (hd : ∀ k, ob bv k → ¬ ob v k) (hbase : base ≤ w.heap.size) (hl : l.length ≤ 137438953472) :
    Calls Try.prog 28 #[pt ge, bv, fv f] w (MadeF w base B ge g v bv (l ++ putF L f) (tabF M L f) M lim low) := by
  have hlen : L.length ≤ 128 := by have := tot_len L; omega
  have hfd := fun W (hT : Tb W B g v L M) => tfind_any f.nm f.vl hT (by omega)
  have hn := @nOf_le L f
  have hszf : sz f ≤ 18032 := by unfold sz; omega
  obtain ⟨C, hC⟩ : ∃ C : Obj, C = .cells #[.string ⟨f.nm.toArray⟩, .string ⟨f.vl.toArray⟩, .bool f.nv] 52 := ⟨_, rfl⟩
  have HE0 := Lib.hid (h.below ((Below.refl _ w).alloc (Nat.le_refl _) C))
  have HO0 := Lib.hid (hO.below ((Below.refl _ w).alloc (Nat.le_refl _) C))
  have HR0 : Hid (Row (w.alloc C) w.heap.size 52 #[.string ⟨f.nm.toArray⟩, .string ⟨f.vl.toArray⟩, .bool f.nv]) := by show Row _ _ _ _; rw [hC]; exact Row.new w _ _
  have HF0 : Hid (Fs (fun k => k = g ∨ ob v k ∨ ob bv k) w (w.alloc C)) := (Fs.refl _ w).alloc C
  have HLO : Hid (∀ k, ob bv k → base ≤ k ∧ k < w.heap.size) := fun k hk => hO.lt hk
  have HX : Hid (¬ ob v w.heap.size ∧ ¬ ob bv w.heap.size ∧ w.heap.size ≠ g ∧ w.heap.size ≠ ge) := by
    show _ ∧ _ ∧ _ ∧ _
    exact ⟨fun e => by have := (h.vlt e).2; omega, fun e => by have := (hO.lt e).2; omega, by omega, by omega⟩
  have hs0 : w.heap.size < (w.alloc C).heap.size := by simp
  unfold pt fv tx at *
  obtain ⟨Z, hZ⟩ : ∃ Z, Z = putF L f := ⟨_, rfl⟩
  obtain ⟨T, hT⟩ : ∃ T, T = tabF M L f := ⟨_, rfl⟩
  have HZ := Lib.hid hZ
  have HT := Lib.hid hT
  have HD := Lib.hid hd
  rw [← hZ, ← hT]
  clear hZ hT h hO hd
  have hnat : Hid (numT f.nm f.vl L.reverse = nOf L f ∧ hasT f.nm f.vl L.reverse = hOf L f) := by show _ ∧ _; unfold nOf hOf; exact ⟨rfl, rfl⟩
  rw [hnat.out.1, hnat.out.2] at hfd
  clear hnat
  go_enter Try.func28, Try.ntmps28
  go_wp2_with fail
  rw [← hC]
  generalize w.alloc C = w0 at *
  have e0 : w0.drew.cell? ⟨ge, 0, none⟩ = some (.pointer (some ⟨g, 0, none⟩)) := HE0.out.c0
  have f0 : w0.drew.cell? ⟨w.heap.size, 0, none⟩ = some (.string ⟨f.nm.toArray⟩) := HR0.out.cell (j := 0) rfl
  have f1 : w0.drew.cell? ⟨w.heap.size, 1, none⟩ = some (.string ⟨f.vl.toArray⟩) := HR0.out.cell (j := 1) rfl
  have hfd1 := hfd w0.drew (HE0.out.t.drewN 1)
  clear hfd
  go_region_held3 (fun w' => w'.cell? ⟨ge, 0, none⟩ = some (.pointer (some ⟨g, 0, none⟩)) ∧ w'.cell? ⟨w.heap.size, 0, none⟩ = some (.string ⟨f.nm.toArray⟩) ∧ w'.cell? ⟨w.heap.size, 1, none⟩ = some (.string ⟨f.vl.toArray⟩)) (first | exact ⟨g0, g1, g2⟩ | exact ⟨e0, f0, f1⟩)
    ((go_at_call 39; refine hfd1.mono ?_; rintro e w1 ⟨rfl, hb1⟩; have g0 := (hb1.cell (p := ⟨ge, 0, none⟩) (World.block_lt_of_cell? _ _ e0)).trans e0; have g1 := (hb1.cell (p := ⟨w.heap.size, 0, none⟩) (World.block_lt_of_cell? _ _ f0)).trans f0; have g2 := (hb1.cell (p := ⟨w.heap.size, 1, none⟩) (World.block_lt_of_cell? _ _ f1)).trans f1; have HB1 : Hid (Below w0.heap.size w0 w1) := (((Below.refl _ w0).drew).trans hb1); clear hb1))
  clear hfd1 e0 f0 f1
  have HE1 := Lib.hid (HE0.out.below HB1.out)
  have HO1 := Lib.hid (HO0.out.below HB1.out)
  have HR1 := Lib.hid (HR0.out.below HB1.out hs0)
  have HF1 := Lib.hid (HF0.out.then_below HB1.out)
  have hs1 : w.heap.size < w1.heap.size := by have := HB1.out.size; omega
  clear HE0 HO0 HR0 HF0 HB1 g0 g1 g2 hs0
  have c0 := HR1.out.cell (j := 0) rfl
  have c1 := HR1.out.cell (j := 1) rfl
  have c2 := HR1.out.cell (j := 2) rfl
  have hfvt := fv_cells f
  cases hnv : f.nv with
  | true =>
    have HZ2 : Hid (Z = litL 16 (nOf L f) f ∧ T = L) := by show _ ∧ _; rw [HZ.out, HT.out]; unfold putF tabF; rw [hnv]; exact ⟨rfl, rfl⟩
    rw [hnv] at c2 hfvt
    have hpt := putTexts_any (k := 16) (f := f) (w := w1) (by unfold isKind; omega) (show nOf L f ≤ 268435456 by omega) hf1 hf2 HO1.out (by omega) (by omega)
    rw [hfvt] at hpt
    clear HZ HT hnv hfvt
    generalize f.nv = nv at *
    go_wp2_with fail
    refine hpt.mono ?_
    rintro e w2 ⟨bv2, rfl, hO2, hF2, hN2⟩
    have HM : Hid (MadeF w base B ge g v bv (l ++ Z) T M lim low (.returned bv2) w2) := by
      show MadeF _ _ _ _ _ _ _ _ _ _ _ _ _ _
      rw [HZ2.out.1, HZ2.out.2]
      exact MadeF.last HE1.out HF1.out (Nx.refl w v) HLO.out HD.out hg1 hg2 hO2 hF2 hN2
    clear hO2 hF2 hN2 hpt
    go_wp2_with fail
    go_ret
    exact HM.out
  | false =>
    cases hhs : hOf L f with
    | true =>
      have HZ2 : Hid (Z = numL 128 (nOf L f) ∧ T = L) := by show _ ∧ _; rw [HZ.out, HT.out]; unfold putF tabF; rw [hnv, hhs]; exact ⟨rfl, rfl⟩
      rw [hnv] at c2
      have hpt := putNumber_any (k := 128) (w := w1) (by unfold isKind; omega) (show nOf L f ≤ 268435456 by omega) HO1.out (by omega) (by omega)
      clear HZ HT hnv hfvt
      generalize f.nv = nv at *
      go_wp2_with fail
      refine hpt.mono ?_
      rintro e w2 ⟨bv2, rfl, hO2, hF2, hN2⟩
      have HM : Hid (MadeF w base B ge g v bv (l ++ Z) T M lim low (.returned bv2) w2) := by
        show MadeF _ _ _ _ _ _ _ _ _ _ _ _ _ _
        rw [HZ2.out.1, HZ2.out.2]
        exact MadeF.last HE1.out HF1.out (Nx.refl w v) HLO.out HD.out hg1 hg2 hO2 hF2 hN2
      clear hO2 hF2 hN2 hpt
      go_wp2_with fail
      go_ret
      exact HM.out
    | false =>
      have HZ2 : Hid (Z = litL 64 (nOf L f) f ∧ T = addL M f L) := by show _ ∧ _; rw [HZ.out, HT.out]; unfold putF tabF; rw [hnv, hhs]; exact ⟨rfl, rfl⟩
      have hadd := fun W (hT : Tb W B g v L M) => add_any f (by omega) (by omega) (by omega) (fun x hx => by have := mem_tot hx; omega) hT
      rw [hfvt, hnv] at hadd
      rw [hnv] at c2 hfvt
      have hpt : ∀ W, Bo W base 5 bv l → base ≤ W.heap.size → _ := fun W h1 h2 => putTexts_any (k := 64) (n := nOf L f) (f := f) (w := W) (by unfold isKind; omega) (by omega) hf1 hf2 h1 h2 (by omega)
      rw [hfvt] at hpt
      have HRx : Hid (Row w1 w.heap.size 52 #[.string ⟨f.nm.toArray⟩, .string ⟨f.vl.toArray⟩, .bool false]) := by have := HR1.out; rw [hnv] at this; exact this
      unfold pt at hadd
      clear HZ HT hnv hfvt HR1
      generalize f.nv = nv at *
      go_wp2_with fail
      have e0 : w1.drew.cell? ⟨ge, 0, none⟩ = some (.pointer (some ⟨g, 0, none⟩)) := HE1.out.c0
      have f0 : w1.drew.cell? ⟨w.heap.size, 0, none⟩ = some (.string ⟨f.nm.toArray⟩) := HRx.out.cell (j := 0) rfl
      have f1 : w1.drew.cell? ⟨w.heap.size, 1, none⟩ = some (.string ⟨f.vl.toArray⟩) := HRx.out.cell (j := 1) rfl
      have f2 : w1.drew.cell? ⟨w.heap.size, 2, none⟩ = some (.bool false) := HRx.out.cell (j := 2) rfl
      have hadd1 := hadd w1.drew (HE1.out.t.drewN 1)
      clear hadd c0 c1 c2
      go_region_held3 (fun w' => w'.cell? ⟨ge, 0, none⟩ = some (.pointer (some ⟨g, 0, none⟩)) ∧ w'.cell? ⟨w.heap.size, 0, none⟩ = some (.string ⟨f.nm.toArray⟩) ∧ w'.cell? ⟨w.heap.size, 1, none⟩ = some (.string ⟨f.vl.toArray⟩) ∧ w'.cell? ⟨w.heap.size, 2, none⟩ = some (.bool false)) (first | exact ⟨g0, g1, g2, g3⟩ | exact ⟨e0, f0, f1, f2⟩)
        ((go_at_call 41; refine hadd1.mono ?_; rintro e w2 ⟨rfl, v2, hT2, hF2, hN2⟩; have HF2 : Hid (Fs (fun k => k = g ∨ ob v k) w1 w2) := ((Fs.refl _ w1).drewN 1).trans (Fs.of_fr hF2) fun _ _ h => h; have HN2 : Hid (Nx w1 v v2) := hN2; have HT2 := Lib.hid hT2; have hRn := HF2.out.row (fun e => by rcases e with e | e; exact HX.out.2.2.1 e; exact HX.out.1 e) HRx.out; have g0 : w2.cell? ⟨ge, 0, none⟩ = some (.pointer (some ⟨g, 0, none⟩)) := (HE1.out.stepT hT2 HF2.out HN2.out).c0; have g1 := hRn.cell (j := 0) rfl; have g2 := hRn.cell (j := 1) rfl; have g3 := hRn.cell (j := 2) rfl; have HR2 := Lib.hid hRn; clear hRn hT2 hF2 hN2))
      clear hadd1 e0 f0 f1 f2
      have HO2 : Hid (Bo w2 base 5 bv l) := HF2.out.owns HO1.out fun k hk e => by
        rcases e with e | e
        · have := (HLO.out k hk).1; omega
        · exact HD.out k hk e
      have HE2 := Lib.hid (HE1.out.stepT HT2.out HF2.out HN2.out)
      have HF3 := Lib.hid (HF1.out.trans HF2.out fun k _ e => by
        rcases e with e | e
        · exact .inl e
        · exact .inr (.inl e))
      have HN3 := Lib.hid ((Nx.refl w v).trans HN2.out HF1.out.size)
      have hs2 : base ≤ w2.heap.size := by have := HF3.out.size; omega
      have HD2 : Hid (∀ k, ob bv k → ¬ ob v2 k) := fun k hk e => by
        rcases HN3.out.own e with h1 | h1
        · exact HD.out k hk h1
        · have := (HLO.out k hk).2; omega
      have hpt2 := hpt w2 HO2.out hs2
      clear hpt HF2 HN2 HT2 HO1 HE1 HF1 HRx
      go_wp2_with fail
      refine hpt2.mono ?_
      rintro e w3 ⟨bv2, rfl, hO2, hF2, hN2⟩
      have HM : Hid (MadeF w base B ge g v bv (l ++ Z) T M lim low (.returned bv2) w3) := by
        show MadeF _ _ _ _ _ _ _ _ _ _ _ _ _ _
        rw [HZ2.out.1, HZ2.out.2]
        exact MadeF.last HE2.out HF3.out HN3.out HLO.out HD2.out hg1 hg2 hO2 hF2 hN2
      clear hO2 hF2 hN2 hpt2
      go_wp2_with fail
      go_ret
      exact HM.out
end Go.Proofs.Ytfajffchnnalaaa
