/-
  hpack's putTexts, putField, by their contracts; the encoder in memory. Conditions: names and values of at most 9000 bytes, a most of at most 4096.
-/
import Derived.Test.YtfajffchnnalaaaKput
import Derived.Test.YtfajffchnnalaaaDfind
import Derived.Deep.RegionHeld3
namespace Go.Proofs.Ytfajffchnnalaaa
open Go.RowKit Go.WideShapes

theorem Nx.not {w : World} {v v' : Value} (h : Nx w v v') {g : Nat} (hg : g < w.heap.size) (hn : ¬ ob v g) : ¬ ob v' g := fun e => by
  rcases h.own e with h1 | h1
  · exact hn h1
  · omega
theorem Bo.lt {w : World} {base : Nat} {e : TypeId} {v : Value} {l : List UInt8} (h : Bo w base e v l) {g : Nat} (hg : ob v g) : base ≤ g ∧ g < w.heap.size := OwS.lt h g hg

/-- The encoder in block ge, its table in block g. -/
structure En (w : World) (base ge g : Nat) (v : Value) (L : List Fd) (M : Nat) (lim : Bool) (low : Nat) : Prop where
  t : Tb w base g v L M
  e : Row w ge 63 #[pt g, .bool lim, .int .u32 (low : Int)]
  ne : ge ≠ g
  nv : ¬ ob v ge
  lo : base ≤ ge

theorem num_le {a b : List UInt8} {R : List Fd} : numT a b R ≤ 61 + R.length := by
  have h1 : fndN a b ≤ 61 := by
    unfold fndN
    have := first_le (p := isB a b) 61
    have := first_le (p := isN a) 61
    split <;> omega
  have h2 := first_le (p := isNT a R) R.length
  have h3 := first_le (p := isBT a b R) R.length
  unfold numT
  repeat (first | omega | split)
theorem nOf_le {L : List Fd} {f : Fd} : nOf L f ≤ 61 + L.length := by
  have := num_le (a := f.nm) (b := f.vl) (R := L.reverse)
  unfold nOf
  simpa using this

attribute [local irreducible] tot shr sz first fndN fndB isN isB nmL vlL tab named numT hasT isBT isNT txtL numL addL putF tabF nOf hOf

set_option maxRecDepth 100000 in
set_option maxHeartbeats 1000000 in
theorem putTexts_any {k n base : Nat} {v : Value} {l : List UInt8} {f : Fd} {w : World} (hk : isKind k) (hn : n ≤ 268435456) (hf1 : f.nm.length ≤ 9000) (hf2 : f.vl.length ≤ 9000) (hO : Bo w base 5 v l) (hbase : base ≤ w.heap.size) (hl : l.length ≤ 274877906944) :
    Calls Try.prog 40 #[v, .int .u8 (k : Int), .int .i64 (n : Int), fv f] w (MadeB w base v (l ++ litL k n f)) := by
  have hp1 : ∀ {bs : Nat} {u : Value} {m : List UInt8} {W : World}, Bo W bs 5 u m → bs ≤ W.heap.size → m.length ≤ 549755813888 → Calls Try.prog 59 #[u, tx f.nm] W (MadeB W bs u (m ++ txtL f.nm)) := fun a b c => putText_any hf1 a b c
  have hp2 : ∀ {bs : Nat} {u : Value} {m : List UInt8} {W : World}, Bo W bs 5 u m → bs ≤ W.heap.size → m.length ≤ 549755813888 → Calls Try.prog 59 #[u, tx f.vl] W (MadeB W bs u (m ++ txtL f.vl)) := fun a b c => putText_any hf2 a b c
  have hx1 := txt_len f.nm
  have hnl := num_len k n
  have hnot : ¬ ob v w.heap.size := fun e => by have := (hO.lt e).2; omega
  have HO0 := Lib.hid (hO.below ((Below.refl _ _).alloc (Nat.le_refl _) (.cells #[tx f.nm, tx f.vl, .bool f.nv] 52)))
  have HR0 := Lib.hid (Row.new w 52 #[tx f.nm, tx f.vl, .bool f.nv])
  have HF0 : Hid (Fs (ob v) w (w.alloc (.cells #[tx f.nm, tx f.vl, .bool f.nv] 52))) := (Fs.refl _ w).alloc _
  have hs0 : w.heap.size < (w.alloc (.cells #[tx f.nm, tx f.vl, .bool f.nv] 52)).heap.size := by simp
  obtain ⟨Z, hZ⟩ : ∃ Z, Z = litL k n f := ⟨_, rfl⟩
  rw [← hZ]
  unfold litL at hZ
  unfold fv tx at *
  clear hO
  generalize f.nm = a at *
  generalize f.vl = b at *
  generalize f.nv = nv at *
  generalize hSa : txtL a = Sa at *
  generalize hSb : txtL b = Sb at *
  clear hSa hSb
  have HZ := Lib.hid hZ
  clear hZ
  go_enter Try.func40, Try.ntmps40
  go_wp2_with fail
  generalize w.alloc (.cells #[.string ⟨a.toArray⟩, .string ⟨b.toArray⟩, .bool nv] 52) = w0 at *
  refine (putNumber_any hk hn HO0.out (by omega) (by omega)).mono ?_
  rintro e w1 ⟨v1, rfl, hO1, hF1, hN1⟩
  have HR1 := Lib.hid (hF1.row hnot HR0.out)
  have HF1 := Lib.hid (HF0.out.trans hF1 fun _ _ h => h)
  have HN1 := Lib.hid ((Nx.refl w v).trans hN1 HF0.out.size)
  have HO1 := Lib.hid hO1
  have hnot1 := HN1.out
  have hn1 : ¬ ob v1 w.heap.size := hN1.not hs0 hnot
  have hs1 : w.heap.size < w1.heap.size := by have := hF1.size; omega
  have c0 := HR1.out.cell (j := 0) rfl
  have c1 := HR1.out.cell (j := 1) rfl
  clear hF1 hN1 hO1 HR0 HF0 HO0 hnot1 hnot
  by_cases hn0 : n = 0
  · subst hn0
    go_wp2_with fail
    refine (hp1 HO1.out (by omega) (by rw [List.length_append]; omega)).mono ?_
    rintro e w2 ⟨v2, rfl, hO2, hF2, hN2⟩
    have HR2 := Lib.hid (hF2.row hn1 HR1.out)
    have HF2 := Lib.hid (HF1.out.next HN1.out hF2)
    have HN2 := Lib.hid (HN1.out.trans hN2 HF1.out.size)
    have HO2 := Lib.hid hO2
    have hs2 : w.heap.size < w2.heap.size := by have := hF2.size; omega
    have c1 := HR2.out.cell (j := 1) rfl
    clear hF2 hN2 hO2 HR1 HF1 HN1 HO1 c0
    go_wp2_with fail
    refine (hp2 HO2.out (by omega) (by rw [List.length_append, List.length_append]; omega)).mono ?_
    rintro e w3 ⟨v3, rfl, hO3, hF3, hN3⟩
    have HF3 := Lib.hid (HF2.out.next HN2.out hF3)
    have HN3 := Lib.hid (HN2.out.trans hN3 HF2.out.size)
    have HO3 := Lib.hid hO3
    clear hF3 hN3 hO3 HR2 HF2 HN2 HO2
    go_wp2_with fail
    go_ret
    refine ⟨v3, rfl, ?_, HF3.out, HN3.out⟩
    have := HO3.out
    rw [HZ.out]
    simpa using this
  · have hz : ((n : Int) == 0) = false := by rw [beq_eq_false_iff_ne]; omega
    go_wp2_with fail
    refine (hp2 HO1.out (by omega) (by rw [List.length_append]; omega)).mono ?_
    rintro e w3 ⟨v3, rfl, hO3, hF3, hN3⟩
    have HF3 := Lib.hid (HF1.out.next HN1.out hF3)
    have HN3 := Lib.hid (HN1.out.trans hN3 HF1.out.size)
    have HO3 := Lib.hid hO3
    clear hF3 hN3 hO3 HR1 HF1 HN1 HO1
    go_wp2_with fail
    go_ret
    refine ⟨v3, rfl, ?_, HF3.out, HN3.out⟩
    have := HO3.out
    rw [HZ.out]
    simpa [hn0] using this

end Go.Proofs.Ytfajffchnnalaaa
