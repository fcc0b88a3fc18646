/-
  A text goes on with a frame (reads), a message begins (begin), by their contracts. Conditions: those that each theorem names.
-/
import Derived.Test.YtdegpchofhnipaaDoorMcl
namespace Go.Proofs.YtdegpchofhnipaaDoor
open Go.RowKit Go.WideShapes

/-- Whether a text may go on so, or end so. -/
def okR (fin : Bool) (o : Option Ut) : Bool := if fin = true then whV o else o.isSome
theorem ckN_some (s : Ut) (l : List Nat) : ckN (some s) l = goN s l := rfl
set_option maxRecDepth 100000 in
set_option maxHeartbeats 2000000 in
theorem reads_any {w : World} {k : Nat} {s : Ut} (h : Ck w k (some s)) {fin mask : Bool} {op key c : Nat} {A : Option Addr} {d : List UInt8} (hr : RdN w k A d) (hl : d.length ≤ 1000000) :
    Calls Tryd.prog 41 #[.pointer (some ⟨k, 0, none⟩), .agg (pcC fin op mask key A d.length c)] w fun e w' => e = .returned (.bool (okR fin (goN s (nats d)).2)) ∧ Ck w' k (goN s (nats d)).2 ∧ Fs (fun j => j = k) w w' := by
  have hb0 : Below w.heap.size w (w.alloc (.cells (pcC fin op mask key A d.length c) 32)) := (Below.refl _ _).alloc (Nat.le_refl _) _
  have hF0 : Fs (fun j => j = k) w (w.alloc (.cells (pcC fin op mask key A d.length c) 32)) := Fs.of_below hb0
  have HR0 := Lib.hid (Row.new w 32 (pcC fin op mask key A d.length c))
  have hfd := feed_any (c := c) (h.below hb0) (hr.keep hF0) hl
  rw [ckN_some] at hfd
  have HF0 := Lib.hid hF0
  obtain ⟨c0, c1, c2, c3, c4⟩ := pc_cells HR0.out
  have hkl : k < w.heap.size := h.lt
  have hne : w.heap.size ≠ k := by omega
  generalize (goN s (nats d)).2 = o at *
  generalize (goN s (nats d)).1 = j at *
  clear hb0 hF0 h hr hl c1 c2 c3
  go_enter Tryd.func41, Tryd.ntmps41
  go_wp2_with fail
  refine hfd.mono ?_
  rintro e w2 ⟨rfl, hc, hf⟩
  have HF2 := Lib.hid (HF0.out.trans hf fun _ _ h => h)
  have hR2 := hf.row hne HR0.out
  have c0 : w2.cell? ⟨w.heap.size, 0, none⟩ = some (.bool fin) := hR2.cell rfl
  have hwh := vwhole_any hc
  have hbd := vbad_any hc
  have HC := Lib.hid hc
  clear hfd hf hR2 hc c4 HF0 HR0
  cases fin
  · have HE : Hid (okR false o = o.isSome) := rfl
    go_wp2_with fail
    refine hbd.mono ?_
    rintro e w3 ⟨rfl, rfl⟩
    go_wp2_with fail
    go_ret
    exact ⟨congrArg (fun b => Ending.returned (.bool b)) HE.out.symm, HC.out, HF2.out⟩
  · have HE : Hid (okR true o = whV o) := rfl
    go_wp2_with fail
    refine hwh.mono ?_
    rintro e w3 ⟨rfl, rfl⟩
    go_wp2_with fail
    go_ret
    exact ⟨congrArg (fun b => Ending.returned (.bool b)) HE.out.symm, HC.out, HF2.out⟩
/-- A text that is begun goes on. -/
theorem more_text {b d : List UInt8} {s : Ut} {fin : Bool} (hs : (goN ut0 (nats b)).2 = some s) (hl : (b ++ d).length ≤ 4096) :
    moreM true (b ++ d) fin = if okR fin (goN s (nats d)).2 = false then badM 1007 else if fin = true then (gg0, some ⟨1, true, 0, b ++ d⟩) else (⟨b ++ d, true, true, false⟩, none) := by
  have hn : nats (b ++ d) = nats b ++ nats d := by simp [nats]
  have hg := go_app (nats b) (nats d) ut0 s hs
  rw [← hn, nats_len] at hg
  have ht : txtB (nats (b ++ d)) = whV (goN s (nats d)).2 := by unfold txtB whV; rw [hg]
  unfold moreM
  rw [if_neg (by omega), hg, ht, List.length_append]
  cases ho : (goN s (nats d)).2 with
  | none =>
    have h1 := go_lt _ _ ho
    rw [nats_len] at h1
    rw [if_pos ⟨rfl, .inl (by show b.length + _ < _; omega)⟩, if_pos (by unfold okR; cases fin <;> rfl)]
  | some u =>
    have h1 := go_some_len _ _ _ ho
    rw [nats_len] at h1
    have h2 : ¬ (b.length + (goN s (nats d)).1 < b.length + d.length) := by omega
    cases fin
    · rw [if_neg (by
        rintro ⟨_, h | h⟩
        · exact h2 h
        · exact absurd h.1 (by simp))]
      simp [okR]
    · cases hw : whV (some u)
      · rw [if_pos ⟨rfl, .inr ⟨rfl, rfl⟩⟩, if_pos (by simp [okR, hw])]
      · rw [if_neg (by
          rintro ⟨_, h | h⟩
          · exact h2 h
          · cases h.2)]
        simp [okR, hw]
theorem more_plain {B : List UInt8} {fin : Bool} (hl : B.length ≤ 4096) : moreM false B fin = if fin = true then (gg0, some ⟨1, false, 0, B⟩) else (⟨B, true, false, false⟩, none) := by
  unfold moreM
  rw [if_neg (by omega), if_neg (by simp)]
theorem more_great {t : Bool} {B : List UInt8} {fin : Bool} (hl : 4096 < B.length) : moreM t B fin = badM 1009 := by
  unfold moreM
  rw [if_pos hl]
/-! ### begin -/
theorem Mg.idle_all {w : World} {base g : Nat} {v : Value} {t : Option Nat} {x : Gg} (h : Mg w base g v t x) (hb : x.busy = false) : x.b = [] ∧ x.text = false ∧ t = none := by
  obtain ⟨h1, h2⟩ := h.idle hb
  refine ⟨h1, h2, ?_⟩
  cases t with
  | none => rfl
  | some k => have := h.chk.1; rw [h2] at this; cases this
/-- What begin leaves. -/
def BegP (w : World) (base g : Nat) (v : Value) (text : Bool) (e : Ending) (w' : World) : Prop :=
  e = .returned (.tuple #[]) ∧ ∃ t', Mg w' base g v t' ⟨[], true, text, false⟩ ∧ Fs (fun k => k = g) w w' ∧ ∀ k, t' = some k → w.heap.size ≤ k
set_option maxRecDepth 100000 in
set_option maxHeartbeats 2000000 in
theorem begin_any {w : World} {base g : Nat} {v : Value} {t : Option Nat} {x : Gg} (h : Mg w base g v t x) (hb : x.busy = false) (ho : x.over = false) (text : Bool) :
    Calls Tryd.prog 33 #[.pointer (some ⟨g, 0, none⟩), .bool text] w (BegP w base g v text) := by
  obtain ⟨hx1, hx2, rfl⟩ := h.idle_all hb
  have hrow := h.row
  have hown := h.own
  rw [hb, ho] at hrow
  rw [hx1] at hown
  have hlo := h.lo
  have hf := h.far
  have hth := hrow.thawed 1
  have c1 : w.cell? ⟨g, 1, none⟩ = some (.bool false) := hrow.cell rfl
  have HR1 : Hid (Row (w.setCell ⟨g, 1, none⟩ (.bool true)) g 56 (mgc v true (.pointer none) false)) := hrow.stored 1 (.bool true)
  have HO1 : Hid (Bo (w.setCell ⟨g, 1, none⟩ (.bool true)) base 5 v []) := OwS.setCell hown (a := ⟨g, 1, none⟩) hf _
  have HF1 : Hid (Fs (fun k => k = g) w (w.setCell ⟨g, 1, none⟩ (.bool true))) := fs_one w g 1 _
  have HLO := Lib.hid hlo
  clear h hb ho hx1 hx2 hrow hown hlo hf
  cases text
  · have HM : Hid (Mg (w.setCell ⟨g, 1, none⟩ (.bool true)) base g v none ⟨[], true, false, false⟩) := ⟨HR1.out, HO1.out, rfl, by simp, HLO.out, fun _ => ⟨rfl, rfl⟩, fun h => (by cases h)⟩
    go_enter Tryd.func33, Tryd.ntmps33
    go_wp2_with fail
    refine bodyPost_ret (results_none rfl _ _ _) rfl ?_
    exact ⟨rfl, none, HM.out, HF1.out, fun k hk => (by cases hk)⟩
  · go_enter Tryd.func33, Tryd.ntmps33
    go_upto_region 2 with fail
    generalize w.setCell ⟨g, 1, none⟩ (.bool true) = w1 at *
    clear hth c1
    go_wp2_with fail
    refine (vnew_any _).mono ?_
    rintro e w2 ⟨k, rfl, hc, hb, hk⟩
    have hR2 := HR1.out.upM hb
    have hO2 := HO1.out.below hb
    have hth := hR2.thawed 2
    have c2 : w2.cell? ⟨g, 2, none⟩ = some (.pointer none) := hR2.cell rfl
    have hkg : k ≠ g := by have := HR1.out.lt; omega
    have HF2 : Hid (Fs (fun k => k = g) w (w2.setCell ⟨g, 2, none⟩ (.pointer (some ⟨k, 0, none⟩)))) := (HF1.out.then_below hb).setCell (g := g) (fun _ => rfl) 2 _
    have HM : Hid (Mg (w2.setCell ⟨g, 2, none⟩ (.pointer (some ⟨k, 0, none⟩))) base g v (some k) ⟨[], true, true, false⟩) :=
      ⟨hR2.stored 2 _, OwS.setCell hO2 (a := ⟨g, 2, none⟩) (hO2.neJ hR2 (by decide)) _, ⟨rfl, by have := HR1.out.lt; have := HLO.out.2; omega, ut0, hc.keep (Below.heap_setCell w2 ⟨g, 2, none⟩ _ k hkg), rfl⟩, by simp, HLO.out, fun h => (by cases h), fun h => (by cases h)⟩
    have HK : Hid (w.heap.size ≤ k) := by have := HF1.out.size; show _ ≤ _; omega
    clear hR2 hO2 hc hb hk hkg HR1 HO1 HF1 HLO
    go_wp2_with fail
    refine bodyPost_ret (results_none rfl _ _ _) rfl ?_
    exact ⟨rfl, some k, HM.out, HF2.out, fun j hj => by injection hj with hj; subst hj; exact HK.out⟩
end Go.Proofs.YtdegpchofhnipaaDoor
