/-
  step: Drop, by contract. Conditions: the rings are the model's.
-/
import Derived.Test.YtplohgaecoobaaaUs0
namespace Go.Proofs.Ytplohgaecoobaaa
open Go.RowKit Go.WideShapes

/-- The program's call first: the document's streams are read on. -/
theorem RgS.fs {w w1 w2 : World} {F F' : Nat → Prop} {A : Option Addr} {c : Nat} {L : List Sn} (h : RgS w1 (S0 w F) A c L) (hlt : ∀ k, F k → k < w.heap.size) (hF : Fs F w1 w2) (hN : ∀ k, F' k → F k ∨ w1.heap.size ≤ k) : RgS w2 (fun b => S0 w F b ∧ ¬ F' b) A c L := by
  have hno : ∀ b, S0 w F b → ¬ F b := fun b h hFb => by
    rcases h with h | h
    · exact h.2 hFb
    · have := hlt b hFb; omega
  refine ⟨(h.rd.keep fun b hb' => hF.block b hb'.2 (hno b hb'.1)).imp fun b hb' _ => ⟨⟨hb'.1, fun h2 => ?_⟩, Nat.lt_of_lt_of_le hb'.2 hF.size⟩, h.len, h.bd⟩
  rcases hN b h2 with h1 | h1
  · exact hno b hb'.1 h1
  · have := hb'.2; omega
/-- Both rings, where the document's call comes last. -/
theorem st_end2 {w w1 w2 w3 : World} {F F' : Nat → Prop} {g : Nat} {m' : Rm} {A : Option Addr} {c : Nat} (hlt : ∀ k, F k → k < w.heap.size) (hb1 : Below w.heap.size w w1) (h3 : w.heap.size + 3 ≤ w1.heap.size) (hF : Fs F w1 w2) (hN : ∀ k, F' k → F k ∨ w1.heap.size ≤ k) (hT : Tr w2 F' g m') (hb : Below w2.heap.size w2 w3)
    (hR : RgS w3 (fun b => (S0 w F b ∧ ¬ F' b) ∨ w2.heap.size ≤ b) A c (rot m'.l m'.t)) (x : Array Value) : StP w F g m' (.returned (.tuple #[.bool true, .agg (rrc A m'.l.length c m'.t m'.w)])) (w3.setRow (w.heap.size + 2) x) := by
  have hs1 := hb1.size
  have hs2 := hF.size
  have hs3 := hb.size
  have h2 : ∀ b, F' b → b ≠ w.heap.size + 2 := fun b h e => by
    rcases hN b h with h1 | h1
    · have := hlt b h1; omega
    · omega
  refine ⟨A, c, F', rfl, ⟨(hR.rd.keep fun b hb' => setRow_other w3 (w.heap.size + 2) b x ?_).imp fun b hb' _ => ⟨fun h => ?_, ?_⟩, hR.len, hR.bd⟩, (hT.below hb).keep fun k hk => setRow_other w3 (w.heap.size + 2) k x (h2 k hk), ?_, fun k hk => ?_⟩
  · rcases hb'.1 with ⟨h | h, _⟩ | h <;> omega
  · rcases hb'.1 with ⟨_, h1⟩ | h1
    · exact h1 h
    · have := hT.lts b h; omega
  · have := hb'.2
    simp
    omega
  · exact (((Fs.of_below (S := F) (w := w) (w' := w1) hb1).trans (S' := F) hF (fun k _ h => h)).then_below hb).setRow (fun h => by omega) x
  · rcases hN k hk with h1 | h1
    · exact .inl h1
    · exact .inr (by omega)
attribute [local irreducible] snc rrc ovc rmDrop
set_option maxRecDepth 100000 in
set_option maxHeartbeats 4000000 in
theorem step_drop {w : World} {F : Nat → Prop} {g : Nat} {m : Rm} {A : Option Addr} {c : Nat} (hT : Tr w F g m) (hm : m.Ok) (hs : m.Sm) (hR : RgS w (fun b => ¬ F b) A c (rot m.l m.t)) (o : Ov) (hk : o.kd ≠ 0 ∧ o.kd ≠ 1 ∧ o.kd ≠ 2 ∧ o.kd ≠ 3 ∧ o.kd ≠ 4) :
    Calls Try.prog 12 #[.pointer (some ⟨g, 0, none⟩), .agg (rrc A m.l.length c m.t m.w), .agg (ovc o)] w (StP w F g (rmDrop m o.st)) := by
  obtain ⟨w0, hw0, t1, t2, t3, t4, t5⟩ := three_ref w (rrc A m.l.length c m.t m.w) (ovc o) #[.slice none 0 0, .int .i64 0, .int .i64 0, .bool false] 31 36 31
  have HW := Lib.hid hw0
  rw [rr_zero] at t3
  have T1 := Lib.hid t1
  have T2 := Lib.hid t2
  have T3 := Lib.hid t3
  have T4 := Lib.hid t4
  have HLT := Lib.hid hT.lts
  have HT0 := Lib.hid (hT.below t4)
  have HR0 := Lib.hid (hR.begin t4)
  have HW3 : Hid (w.heap.size + 3 ≤ w0.heap.size) := by show _ ≤ _; omega
  obtain ⟨c0, c1, _, _, _, _, _⟩ := ov_cells t2
  have HOP := Lib.hid (fun (W : World) (S : Nat → Prop) (h : RgS W S A c (rot m.l m.t)) => dropM hm h o.st)
  have HTO := Lib.hid (fun (W : World) (h : Tr W F g m) => tdrop_any h hm hs o.st)
  obtain ⟨k0, k1, k2, k3, k4⟩ := hk
  have e0 : (o.kd == 0) = false := beq_eq_false_iff_ne.2 k0
  have e1 : (o.kd == 1) = false := beq_eq_false_iff_ne.2 k1
  have e2 : (o.kd == 2) = false := beq_eq_false_iff_ne.2 k2
  have e3 : (o.kd == 3) = false := beq_eq_false_iff_ne.2 k3
  have e4 : (o.kd == 4) = false := beq_eq_false_iff_ne.2 k4
  clear hw0 t1 t2 t3 t4 t5 hT hR hm hs k0 k1 k2 k3 k4
  go_enter Try.func12, Try.ntmps12
  go_upto_region 1 with fail
  rw [HW.out]
  clear HW
  generalize rmDrop m o.st = m' at *
  go_wp2_with fail
  refine (HTO.out _ HT0.out).mono ?_
  rintro e w2 ⟨rfl, F', hT2, hF2, hN2⟩
  have hlt := HLT.out
  have hnF : ∀ k, w.heap.size ≤ k → ¬ F k := fun k h1 h2 => by have := hlt k h2; omega
  have T12 := Lib.hid (hF2.row (hnF _ (by omega)) T1.out)
  have T22 := Lib.hid (hF2.row (hnF _ (by omega)) T2.out)
  have T32 := Lib.hid (hF2.row (hnF _ (by omega)) T3.out)
  have HR2 := Lib.hid (HR0.out.fs hlt hF2 hN2)
  have HT2 := Lib.hid hT2
  have HF2 := Lib.hid hF2
  have HN2 : Hid (∀ k, F' k → F k ∨ w0.heap.size ≤ k) := hN2
  have d1 := (ov_cells T22.out).2.1
  clear hT2 hF2 hN2 hnF hlt T1 T2 T3 HT0 HR0 c0 c1 HTO e0 e1 e2 e3 e4
  go_wp2_with (refine wpList_ld rfl _ rfl rfl T12.out (rr_ok _ _ _ _ _) ?_)
  refine (HOP.out _ _ HR2.out).mono ?_
  rintro e w3 ⟨A3, c3, rfl, hR3, hb3⟩
  have T33 := Lib.hid (T32.out.below hb3 T32.out.lt)
  have HST := Lib.hid (st_end2 HLT.out T4.out HW3.out HF2.out HN2.out HT2.out hb3 hR3 (rrc A3 m'.l.length c3 m'.t m'.w))
  clear hb3 hR3 T12 T22 T32 HR2 HT2 HF2 HN2 T4 HW3 d1 HOP
  go_wp2_with (refine wpList_sw (cs := rrc A3 m'.l.length c3 m'.t m'.w) rfl _ _ rfl rfl rfl T33.out (rr_sz _ _ _ _ _ _ _ _ _ _) (rr_ok _ _ _ _ _) ?_)
  exact bodyPost_ret (ret_vag (v := .bool true) rfl _ rfl rfl (T33.out.setRow _) (rr_ok _ _ _ _ _)) rfl HST.out
end Go.Proofs.Ytplohgaecoobaaa
