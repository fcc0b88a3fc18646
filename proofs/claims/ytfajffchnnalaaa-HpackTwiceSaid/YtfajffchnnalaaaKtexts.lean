/-
  A reading's texts and limit, by their contracts. Conditions: at most 12000 bytes, a table of at most 2^31 fields.
-/
import Derived.Test.YtfajffchnnalaaaKname
import Derived.Test.YtfajffchnnalaaaDadd
namespace Go.Proofs.Ytfajffchnnalaaa
open Go.RowKit Go.WideShapes

/-- What texts answers. -/
def TextsE (w : World) (S : Nat → Prop) (gr pf : Nat) (d fw sv : Value) (o : Option (Fd × List UInt8)) (e : Ending) (w' : World) : Prop :=
  Fs (fun k => k = gr ∨ k = pf) w w' ∧ match o with
    | none => e = .returned (.bool false)
    | some (f, r) => e = .returned (.bool true) ∧ Rs w' S gr d fw sv r ∧ Row w' pf 52 #[tx f.nm, tx f.vl, .bool f.nv]

theorem Rs.setOther {w : World} {S : Nat → Prop} {gr pf j : Nat} {d fw sv x : Value} {l : List UInt8} (h : Rs w S gr d fw sv l) (hp : pf ≠ gr) (hS : ∀ k, S k → k < w.heap.size ∧ k ≠ pf) : Rs (w.setCell ⟨pf, j, none⟩ x) S gr d fw sv l :=
  h.apart (T := fun k => k = pf) ((Fs.refl (fun k => k = pf) w).setCell (fun _ => rfl) _ _) (fun e => hp e.symm) (fun k hk e => (hS k hk).2 e) fun k hk => (hS k hk).1

attribute [local irreducible] getL decL textR atT tot sz shr nameR

set_option maxRecDepth 100000 in
set_option maxHeartbeats 2000000 in
theorem texts_any {w : World} {base bd : Nat} {S : Nat → Prop} {gr gd g pf : Nat} {v fw sv : Value} {L : List Fd} {M cap : Nat} {l : List UInt8} {x0 x1 : Value} {nv : Bool} (n : Nat) (hn : n ≤ 268435456) (hl : l.length ≤ 12000) (hL : L.length ≤ 2147483648) (h : Rx w base bd S gr gd g v fw sv L M cap l)
    (hp : Row w pf 52 #[x0, x1, .bool nv]) (hpb : base ≤ pf) (hpg : pf ≠ gr) :
    Calls Try.prog 47 #[pt gr, pt pf, .int .i64 (n : Int)] w (TextsE w S gr pf (pt gd) fw sv (textsR L n nv l)) := by
  have hnm := name_any n hn hl hL h
  have hlts := h.lts
  have hSb := h.s
  have hrest : ∀ a r, nameR L n l = some (a, r) → r.length ≤ 12000 := fun a r e => by have := nameR_rest e; omega
  have HTR : Hid (∀ X, X = nameR L n l → textsR L n nv l = (match X with
      | none => none
      | some (a, r) => match textR r with
        | none => none
        | some (b, r') => some (⟨a, b, nv⟩, r'))) := fun X e => by subst e; rfl
  obtain ⟨X, hX⟩ : ∃ X, X = nameR L n l := ⟨_, rfl⟩
  obtain ⟨Z, hZ⟩ : ∃ Z, Z = textsR L n nv l := ⟨_, rfl⟩
  rw [← hX] at hnm hrest
  rw [← hZ]
  have HZ := Lib.hid (hZ.trans (HTR.out X hX))
  have HPS : Hid (∀ k, S k → k < w.heap.size ∧ k ≠ pf) := fun k hk => ⟨hlts k hk, by have := (hSb k hk).1; omega⟩
  have HP := Lib.hid hp
  have HLT := Lib.hid hlts
  clear hX hZ HTR h hp hlts hSb
  unfold pt at *
  go_enter Try.func47, Try.ntmps47
  go_wp2_with fail
  refine hnm.mono ?_
  intro e w1 he
  cases X with
  | none =>
    obtain ⟨hF, s, rfl⟩ := he
    have hZ : Z = none := HZ.out
    subst hZ
    have hp1 := hF.row hpg HP.out
    have c0 := hp1.cell (j := 0) rfl
    have z0 := hp1.thawed 0
    have HF2 : Hid (Fs (fun k => k = gr ∨ k = pf) w (w1.setCell ⟨pf, 0, none⟩ (.string s))) := (hF.mono (S' := fun k => k = gr ∨ k = pf) fun k _ e => .inl e).setCell (fun _ => .inr rfl) _ _
    clear hF hp1 hnm
    go_wp2_with fail
    go_ret
    exact ⟨HF2.out, rfl⟩
  | some x =>
    obtain ⟨a, r⟩ := x
    obtain ⟨hF, rfl, hr⟩ := he
    have hp1 := hF.row hpg HP.out
    have c0 := hp1.cell (j := 0) rfl
    have z0 := hp1.thawed 0
    have hs1 := hF.size
    have HF2 : Hid (Fs (fun k => k = gr ∨ k = pf) w (w1.setCell ⟨pf, 0, none⟩ (tx a))) := (hF.mono (S' := fun k => k = gr ∨ k = pf) fun k _ e => .inl e).setCell (fun _ => .inr rfl) _ _
    have hS1 : ∀ k, S k → k < w1.heap.size ∧ k ≠ pf := fun k hk => ⟨by have := (HPS.out k hk).1; omega, (HPS.out k hk).2⟩
    have hr2 := hr.setOther (j := 0) (x := tx a) hpg hS1
    have hS2 : ∀ k, S k → k < (w1.setCell ⟨pf, 0, none⟩ (tx a)).heap.size := fun k hk => by have := (hS1 k hk).1; simpa [World.setCell] using this
    have htx := text_any (hrest a r rfl) hr2 hS2
    have HP2 : Hid (Row (w1.setCell ⟨pf, 0, none⟩ (tx a)) pf 52 #[tx a, x1, .bool nv]) := Row.stored hp1 0 _
    have HZ2 : Hid (Z = match textR r with
        | none => none
        | some (b, r') => some (⟨a, b, nv⟩, r')) := HZ.out
    generalize textR r = Y at *
    unfold tx pt at *
    clear hF hp1 hnm hr hr2 hS1 hrest HZ HP
    go_wp2_with fail
    generalize w1.setCell ⟨pf, 0, none⟩ (.string ⟨a.toArray⟩) = w2 at *
    refine htx.mono ?_
    intro e w3 he
    cases Y with
    | none =>
      obtain ⟨hF, s, rfl⟩ := he
      have hZ : Z = none := HZ2.out
      subst hZ
      have hp3 := hF.row hpg HP2.out
      have c1 := hp3.cell (j := 1) rfl
      have z1 := hp3.thawed 1
      have HF3 : Hid (Fs (fun k => k = gr ∨ k = pf) w (w3.setCell ⟨pf, 1, none⟩ (.string s))) := (HF2.out.trans hF fun k _ e => .inl e).setCell (fun _ => .inr rfl) _ _
      clear hF hp3 htx c0 z0
      go_wp2_with fail
      go_ret
      exact ⟨HF3.out, rfl⟩
    | some y =>
      obtain ⟨b, r'⟩ := y
      obtain ⟨hF, rfl, hr⟩ := he
      have hZ : Z = some (⟨a, b, nv⟩, r') := HZ2.out
      subst hZ
      have hp3 := hF.row hpg HP2.out
      have c1 := hp3.cell (j := 1) rfl
      have z1 := hp3.thawed 1
      have HF3 : Hid (Fs (fun k => k = gr ∨ k = pf) w (w3.setCell ⟨pf, 1, none⟩ (tx b))) := (HF2.out.trans hF fun k _ e => .inl e).setCell (fun _ => .inr rfl) _ _
      have HR3 := Lib.hid (hr.setOther (j := 1) (x := tx b) hpg fun k hk => ⟨by have := hS2 k hk; have := hF.size; omega, (HPS.out k hk).2⟩)
      have HP3 : Hid (Row (w3.setCell ⟨pf, 1, none⟩ (tx b)) pf 52 #[tx a, tx b, .bool nv]) := Row.stored hp3 1 _
      unfold tx at *
      clear hF hp3 htx hr c0 z0
      go_wp2_with fail
      go_ret
      exact ⟨HF3.out, rfl, HR3.out, HP3.out⟩

/-- What limit answers. -/
def LimE (w : World) (base bd : Nat) (S : Nat → Prop) (gr gd g : Nat) (v fw sv : Value) (L : List Fd) (cap : Nat) (l : List UInt8) (no : Prop) (n : Nat) (e : Ending) (w' : World) : Prop :=
  (no ∧ e = .returned (.bool false) ∧ w = w') ∨ (¬ no ∧ e = .returned (.bool true) ∧ ∃ v', Rx w' base bd S gr gd g v' fw sv (shr (n : Int) L) n cap l ∧ Fs (fun k => k = g ∨ ob v k) w w' ∧ Nx w v v')

set_option maxRecDepth 100000 in
set_option maxHeartbeats 2000000 in
theorem limit_any6 {w : World} {base bd : Nat} {S : Nat → Prop} {gr gd g : Nat} {v fw : Value} {z : Nat} {L : List Fd} {M cap : Nat} {l : List UInt8} (n : Nat) (hn : n ≤ 268435456) (_hcap : cap ≤ 4096) (hM : M ≤ 4096) (hL : tot L ≤ M) (h : Rx w base bd S gr gd g v fw (.int .i64 (z : Int)) L M cap l) :
    Calls Try.prog 45 #[pt gr, .int .i64 (n : Int)] w (LimE w base bd S gr gd g v fw (.int .i64 (z : Int)) L cap l (0 < z ∨ cap < n) n) := by
  have hlim := limit_any n (by omega) (by omega) (fun f hf => by have := mem_tot hf; omega) h.d.t
  obtain ⟨A, c, hR, hc, hA, hns⟩ := h.r
  have r0 := hR.cell (j := 0) rfl
  have r3 := hR.cell (j := 3) rfl
  have d0 := h.d.c0
  have d1 := h.d.c1
  have H := Lib.hid h
  clear hR hA h
  unfold pt at *
  by_cases hz : 0 < z
  · have hz1 : decide (0 < z) = true := by simp [hz]
    go_enter Try.func45, Try.ntmps45
    go_wp2_with fail
    go_ret
    exact .inl ⟨.inl hz, rfl, rfl⟩
  · have hz1 : decide (0 < z) = false := by simp; omega
    by_cases hcn : cap < n
    · have hc1 : decide (cap < n) = true := by simp [hcn]
      go_enter Try.func45, Try.ntmps45
      go_wp2_with fail
      go_ret
      exact .inl ⟨.inr hcn, rfl, rfl⟩
    · have hc1 : decide ((cap : Int) < (n : Int)) = false := by simp; omega
      have hc2 : decide (cap < n) = false := by simp; omega
      have hno : Hid (¬ (0 < z ∨ cap < n)) := by show ¬ _; omega
      clear hcn hz
      go_enter Try.func45, Try.ntmps45
      go_wp2_with fail
      refine hlim.mono ?_
      rintro e w1 ⟨rfl, v1, hT, hF, ho⟩
      have hN : Nx w v v1 := .inl ho
      have HF := Lib.hid (Fs.of_fr hF)
      have HD := Lib.hid (H.out.d.stepT hT HF.out hN)
      have HX : Hid (Rx w1 base bd S gr gd g v1 fw (.int .i64 (z : Int)) (shr (n : Int) L) n cap l) :=
        ⟨H.out.r.apart HF.out (fun e => H.out.ap (.inr e)) (fun k hk e => (H.out.s k hk).2 (.inr e)) H.out.lts, HD.out, fun k hk => ⟨(H.out.s k hk).1, fun e => by
          rcases EB.next hN e with e1 | e1
          · exact (H.out.s k hk).2 e1
          · have := H.out.lts k hk; omega⟩, H.out.lo, fun e => by
          rcases EB.next hN e with e1 | e1
          · exact H.out.ap e1
          · have := H.out.r.lt; omega⟩
      have HN := Lib.hid hN
      clear hT hF ho hN hlim HD
      go_wp2_with fail
      go_ret
      exact .inr ⟨hno.out, rfl, v1, HX.out, HF.out, HN.out⟩
end Go.Proofs.Ytfajffchnnalaaa
