/-
  hpack's encoder: NewEncoder, Limit, Table, putLimits, by their contracts. Conditions: a most of at most 4096.
-/
import Derived.Test.YtfajffchnnalaaaKpf
import Derived.Test.YtfajffchnnalaaaDadd
namespace Go.Proofs.Ytfajffchnnalaaa
open Go.RowKit Go.WideShapes

attribute [local irreducible] tot shr sz txtL numL litL addL putF tabF nOf hOf putA tabA

set_option maxRecDepth 100000 in
theorem newE_any (m : Nat) (hm : m < 4294967296) (w : World) (base : Nat) (hb : base ≤ w.heap.size) : Calls Try.prog 11 #[.int .u32 (m : Int)] w fun e w' => ∃ ge g, e = .returned (pt ge) ∧ En w' base ge g (.slice none 0 0) [] (min m 4096) false 0 ∧ w.heap.size ≤ ge ∧ w.heap.size ≤ g ∧ Below w.heap.size w w' := by
  have hat := fun W => atMost_any m hm W
  have hmm : min m 4096 < 4294967296 := by omega
  have hnew := fun W => new_any (min m 4096) hmm W
  unfold pt at *
  generalize min m 4096 = M at *
  go_enter Try.func11, Try.ntmps11
  go_wp2_with fail
  refine (hat _).mono ?_
  rintro e w1 ⟨rfl, rfl⟩
  go_wp2_with fail
  refine (hnew _).mono ?_
  rintro e w1 ⟨rfl, hw1⟩
  have hT : Tb w1 base w.heap.size (.slice none 0 0) [] M := by rw [hw1]; exact Tb.new w M hb
  have hW : Below w.heap.size w w1 := by rw [hw1]; exact (Below.refl _ _).alloc (Nat.le_refl _) _
  have hs := hT.lt
  clear hw1 hat hnew
  have HT := Lib.hid hT
  have HW := Lib.hid hW
  clear hT hW
  go_wp2_with fail
  go_ret
  refine ⟨w1.heap.size, w.heap.size, rfl, ⟨HT.out.alloc _, Row.new w1 63 _, by omega, by simp [ob, Value.ownBlock], by omega⟩, by omega, Nat.le_refl _, HW.out.alloc (by omega) _⟩

set_option maxRecDepth 100000 in
theorem etable_any {w : World} {B ge g : Nat} {v : Value} {L : List Fd} {M : Nat} {lim : Bool} {low : Nat} (h : En w B ge g v L M lim low) : Calls Try.prog 19 #[pt ge] w fun e w' => e = .returned (.int .i64 (tot L : Int)) ∧ w = w' := by
  have c0 := h.c0
  have hts := tsize_any h.t.own
  unfold pt at *
  clear h
  go_enter Try.func19, Try.ntmps19
  go_wp2_with fail
  refine hts.mono ?_
  rintro e w1 ⟨rfl, hw⟩
  subst hw
  go_wp2_with fail
  go_ret
  exact ⟨rfl, rfl⟩
theorem ntable_any (w : World) : Calls Try.prog 19 #[.pointer none] w fun e w' => e = .returned (.int .i64 0) ∧ w = w' := by
  go_enter Try.func19, Try.ntmps19
  go_wp2_with fail
  go_ret
  exact ⟨rfl, rfl⟩
theorem nlimitE_any (n : Int) (w : World) : Calls Try.prog 14 #[.pointer none, .int .u32 n] w fun e w' => e = .returned (.tuple #[]) ∧ w = w' := by
  go_enter Try.func14, Try.ntmps14
  go_wp2_with fail
  refine bodyPost_ret (results_none rfl _ _ _) rfl ⟨rfl, rfl⟩
theorem nput_any (A : Option Addr) (n c : Nat) (w : World) : Calls Try.prog 15 #[.pointer none, .slice A n c] w fun e w' => e = .returned (.slice none 0 0) ∧ w = w' := by
  go_enter Try.func15, Try.ntmps15
  go_wp2_with fail
  go_ret
  exact ⟨rfl, rfl⟩

set_option maxRecDepth 100000 in
set_option maxHeartbeats 1000000 in
theorem putLimits_any {w : World} {B ge g : Nat} {v : Value} {L : List Fd} {M : Nat} {lim : Bool} {low : Nat} (h : En w B ge g v L M lim low) (hM : M ≤ 4096) (hlow : low ≤ 4096) :
    Calls Try.prog 27 #[pt ge, .slice none 0 0] w fun e w' => ∃ bv, e = .returned bv ∧ Bo w' w.heap.size 5 bv (limL lim low M) ∧ En w' B ge g v L M false low ∧ Fs (fun k => k = ge) w w' := by
  have c1 := h.c1
  unfold limL
  cases lim with
  | false =>
    have H := Lib.hid h
    unfold pt at *
    clear h
    go_enter Try.func27, Try.ntmps27
    go_wp2_with fail
    go_ret
    exact ⟨.slice none 0 0, rfl, Bo.nil, H.out, Fs.refl _ _⟩
  | true =>
    have hth := Row.thawed h.e 1
    have HE1 : Hid (En (w.setCell ⟨ge, 1, none⟩ (.bool false)) B ge g v L M false low) :=
      ⟨h.t.keep (Below.heap_setCell w _ _ g (fun e => h.ne e.symm)) fun k hk => Below.heap_setCell w _ _ k (fun e => h.nv (by subst e; exact hk)), Row.stored h.e 1 _, h.ne, h.nv, h.lo⟩
    have HF1 : Hid (Fs (fun k => k = ge) w (w.setCell ⟨ge, 1, none⟩ (.bool false))) := (Fs.refl (fun k => k = ge) w).setCell (fun _ => rfl) _ _
    have hmo := tmost_any HE1.out.t.own
    have e0 := HE1.out.c0
    have e2 := HE1.out.c2
    have hgl := h.lt
    have hgg := h.t.lt
    have hvl := fun k hk => (h.vlt (k := k) hk).2
    have hss : (w.setCell ⟨ge, 1, none⟩ (.bool false)).heap.size = w.heap.size := by simp [World.setCell]
    have HVL := Lib.hid hvl
    have HSS := Lib.hid hss
    unfold pt at *
    clear h hvl hss
    by_cases hlt : low < M
    · simp only [if_pos hlt, if_true]
      have hlt2 : (low : Int) < (M : Int) := by omega
      have hp1 := putNumber_any (k := 32) (n := low) (l := []) (base := w.heap.size) (v := .slice none 0 0) (w := w.setCell ⟨ge, 1, none⟩ (.bool false)) (by unfold isKind; omega) (by omega) Bo.nil (by rw [HSS.out]; exact Nat.le_refl _) (by simp)
      rw [List.nil_append] at hp1
      generalize hX : numL 32 low = X at *
      have hXl : X.length ≤ 5 := by rw [← hX]; exact num_len _ _
      clear hX
      go_enter Try.func27, Try.ntmps27
      go_wp2_with fail
      generalize w.setCell ⟨ge, 1, none⟩ (.bool false) = w1 at *
      refine hmo.mono ?_
      rintro e w1' ⟨rfl, hw⟩
      subst hw
      go_wp2_with fail
      refine hp1.mono ?_
      rintro e w2 ⟨bv, rfl, hO2, hF2, hN2⟩
      have hob : ∀ k, ¬ ob (.slice none 0 0) k := fun k e => by simp [ob, Value.ownBlock] at e
      have HE2 := Lib.hid (HE1.out.apart hF2 (hob _) (hob _) fun k _ => hob k)
      have HF2 := Lib.hid (HF1.out.trans hF2 fun k _ e => absurd e (hob k))
      have HO2 := Lib.hid hO2
      have hs2 : w.heap.size ≤ w2.heap.size := HF2.out.size
      clear hF2 hN2 hO2 hp1 hmo HE1 HF1 e0 e2
      go_wp2_with fail
      refine (putNumber_any (k := 32) (n := M) (by unfold isKind; omega) (by omega) HO2.out hs2 (by omega)).mono ?_
      rintro e w3 ⟨bv3, rfl, hO3, hF3, hN3⟩
      have hapart : ∀ k, k < w.heap.size → ¬ ob bv k := fun k hk e => by have := (HO2.out.lt e).1; omega
      have HE3 := Lib.hid (HE2.out.apart hF3 (hapart _ hgl) (hapart _ hgg) fun k hk => hapart k (HVL.out k hk))
      have HF3 := Lib.hid (HF2.out.trans hF3 fun k hk e => absurd e (hapart k hk))
      have HO3 := Lib.hid hO3
      clear hO3 hF3 hN3 HE2 HF2 HO2
      go_wp2_with fail
      go_ret
      exact ⟨bv3, rfl, HO3.out, HE3.out, HF3.out⟩
    · simp only [if_neg hlt, if_true, List.nil_append]
      have hlt2 : decide ((low : Int) < (M : Int)) = false := by simp; omega
      have hp1 := putNumber_any (k := 32) (n := M) (l := []) (base := w.heap.size) (v := .slice none 0 0) (w := w.setCell ⟨ge, 1, none⟩ (.bool false)) (by unfold isKind; omega) (by omega) Bo.nil (by rw [HSS.out]; exact Nat.le_refl _) (by simp)
      rw [List.nil_append] at hp1
      go_enter Try.func27, Try.ntmps27
      go_wp2_with fail
      generalize w.setCell ⟨ge, 1, none⟩ (.bool false) = w1 at *
      refine hmo.mono ?_
      rintro e w1' ⟨rfl, hw⟩
      subst hw
      go_wp2_with fail
      refine hp1.mono ?_
      rintro e w2 ⟨bv, rfl, hO2, hF2, hN2⟩
      have hob : ∀ k, ¬ ob (.slice none 0 0) k := fun k e => by simp [ob, Value.ownBlock] at e
      have HE2 := Lib.hid (HE1.out.apart hF2 (hob _) (hob _) fun k _ => hob k)
      have HF2 := Lib.hid (HF1.out.trans hF2 fun k _ e => absurd e (hob k))
      have HO2 := Lib.hid hO2
      clear hF2 hN2 hO2 hp1 hmo HE1 HF1 e0 e2
      go_wp2_with fail
      go_ret
      exact ⟨bv, rfl, HO2.out, HE2.out, HF2.out⟩
end Go.Proofs.Ytfajffchnnalaaa
