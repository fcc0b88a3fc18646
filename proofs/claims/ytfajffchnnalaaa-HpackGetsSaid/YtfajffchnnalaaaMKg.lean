/-
  hpack's decoder: NewDecoder, Table, Get, by their contracts. Conditions: blocks of at most 12000 bytes, a most of at most 4096.
  A reading's texts and limit, by their contracts. Conditions: at most 12000 bytes, a table of at most 2^31 fields.
  A reading's take, by its contract. Conditions: a field of fewer than 2^31 bytes, at most 2^30 fields.
  A reading's piece, by its contract. Conditions: at most 12000 bytes, a most of at most 4096.
-/
import Derived.Test.YtfajffchnnalaaaKname
import Derived.Test.YtfajffchnnalaaaDadd
import Derived.Test.YtfajffchnnalaaaLast
import Derived.Test.YtfajffchnnalaaaKback

namespace Go.Proofs.Ytfajffchnnalaaa
open Go.RowKit Go.WideShapes

/-- What texts answers. -/
def TextsE (w : World) (S : Nat → Prop) (gr pf : Nat) (d fw sv : Value) (o : Option (Fd × List UInt8)) (e : Ending) (w' : World) : Prop :=
  Fs (fun k => k = gr ∨ k = pf) w w' ∧ match o with
    | none => e = .returned (.bool false)
    | some (f, r) => e = .returned (.bool true) ∧ Rs w' S gr d fw sv r ∧ Row w' pf 52 #[tx f.nm, tx f.vl, .bool f.nv]

theorem Rs.setOther {w : World} {S : Nat → Prop} {gr pf j : Nat} {d fw sv x : Value} {l : List UInt8} (h : Rs w S gr d fw sv l) (hp : pf ≠ gr) (hS : ∀ k, S k → k < w.heap.size ∧ k ≠ pf) : Rs (w.setCell ⟨pf, j, none⟩ x) S gr d fw sv l :=
  h.apart (T := fun k => k = pf) ((Fs.refl (fun k => k = pf) w).setCell (fun _ => rfl) _ _) (fun e => hp e.symm) (fun k hk e => (hS k hk).2 e) fun k hk => (hS k hk).1

attribute [local irreducible] getL decL textR atT tot sz shr nameR

set_option maxRecDepth 100000 in
set_option maxHeartbeats 2000000 in
theorem texts_any {w : World} {base bd : Nat} {S : Nat → Prop} {gr gd g pf : Nat} {v fw sv : Value} {L : List Fd} {M cap : Nat} {l : List UInt8} {x0 x1 : Value} {nv : Bool} (n : Nat) (hn : n ≤ 268435456) (hl : l.length ≤ 12000) (hL : L.length ≤ 2147483648) (h : Rx w base bd S gr gd g v fw sv L M cap l)
    (hp : Row w pf 52 #[x0, x1, .bool nv]) (hpb : base ≤ pf) (hpg : pf ≠ gr) :
    Calls Try.prog 47 #[pt gr, pt pf, .int .i64 (n : Int)] w (TextsE w S gr pf (pt gd) fw sv (textsR L n nv l)) := by
  have hnm := name_any n hn hl hL h
  have hlts := h.lts
  have hSb := h.s
  have hrest : ∀ a r, nameR L n l = some (a, r) → r.length ≤ 12000 := fun a r e => by have := nameR_rest e; omega
  have HTR : Hid (∀ X, X = nameR L n l → textsR L n nv l = (match X with
      | none => none
      | some (a, r) => match textR r with
        | none => none
        | some (b, r') => some (⟨a, b, nv⟩, r'))) := fun X e => by subst e; rfl
  obtain ⟨X, hX⟩ : ∃ X, X = nameR L n l := ⟨_, rfl⟩
  obtain ⟨Z, hZ⟩ : ∃ Z, Z = textsR L n nv l := ⟨_, rfl⟩
  rw [← hX] at hnm hrest
  rw [← hZ]
  have HZ := Lib.hid (hZ.trans (HTR.out X hX))
  have HPS : Hid (∀ k, S k → k < w.heap.size ∧ k ≠ pf) := fun k hk => ⟨hlts k hk, by have := (hSb k hk).1; omega⟩
  have HP := Lib.hid hp
  have HLT := Lib.hid hlts
  clear hX hZ HTR h hp hlts hSb
  unfold pt at *
  go_enter Try.func47, Try.ntmps47
  go_wp2_with fail
  refine hnm.mono ?_
  intro e w1 he
  cases X with
  | none =>
    obtain ⟨hF, s, rfl⟩ := he
    have hZ : Z = none := HZ.out
    subst hZ
    have hp1 := hF.row hpg HP.out
    have c0 := hp1.cell (j := 0) rfl
    have z0 := hp1.thawed 0
    have HF2 : Hid (Fs (fun k => k = gr ∨ k = pf) w (w1.setCell ⟨pf, 0, none⟩ (.string s))) := (hF.mono (S' := fun k => k = gr ∨ k = pf) fun k _ e => .inl e).setCell (fun _ => .inr rfl) _ _
    clear hF hp1 hnm
    go_wp2_with fail
    go_ret
    exact ⟨HF2.out, rfl⟩
  | some x =>
    obtain ⟨a, r⟩ := x
    obtain ⟨hF, rfl, hr⟩ := he
    have hp1 := hF.row hpg HP.out
    have c0 := hp1.cell (j := 0) rfl
    have z0 := hp1.thawed 0
    have hs1 := hF.size
    have HF2 : Hid (Fs (fun k => k = gr ∨ k = pf) w (w1.setCell ⟨pf, 0, none⟩ (tx a))) := (hF.mono (S' := fun k => k = gr ∨ k = pf) fun k _ e => .inl e).setCell (fun _ => .inr rfl) _ _
    have hS1 : ∀ k, S k → k < w1.heap.size ∧ k ≠ pf := fun k hk => ⟨by have := (HPS.out k hk).1; omega, (HPS.out k hk).2⟩
    have hr2 := hr.setOther (j := 0) (x := tx a) hpg hS1
    have hS2 : ∀ k, S k → k < (w1.setCell ⟨pf, 0, none⟩ (tx a)).heap.size := fun k hk => by have := (hS1 k hk).1; simpa [World.setCell] using this
    have htx := text_any (hrest a r rfl) hr2 hS2
    have HP2 : Hid (Row (w1.setCell ⟨pf, 0, none⟩ (tx a)) pf 52 #[tx a, x1, .bool nv]) := Row.stored hp1 0 _
    have HZ2 : Hid (Z = match textR r with
        | none => none
        | some (b, r') => some (⟨a, b, nv⟩, r')) := HZ.out
    generalize textR r = Y at *
    unfold tx pt at *
    clear hF hp1 hnm hr hr2 hS1 hrest HZ HP
    go_wp2_with fail
    generalize w1.setCell ⟨pf, 0, none⟩ (.string ⟨a.toArray⟩) = w2 at *
    refine htx.mono ?_
    intro e w3 he
    cases Y with
    | none =>
      obtain ⟨hF, s, rfl⟩ := he
      have hZ : Z = none := HZ2.out
      subst hZ
      have hp3 := hF.row hpg HP2.out
      have c1 := hp3.cell (j := 1) rfl
      have z1 := hp3.thawed 1
      have HF3 : Hid (Fs (fun k => k = gr ∨ k = pf) w (w3.setCell ⟨pf, 1, none⟩ (.string s))) := (HF2.out.trans hF fun k _ e => .inl e).setCell (fun _ => .inr rfl) _ _
      clear hF hp3 htx c0 z0
      go_wp2_with fail
      go_ret
      exact ⟨HF3.out, rfl⟩
    | some y =>
      obtain ⟨b, r'⟩ := y
      obtain ⟨hF, rfl, hr⟩ := he
      have hZ : Z = some (⟨a, b, nv⟩, r') := HZ2.out
      subst hZ
      have hp3 := hF.row hpg HP2.out
      have c1 := hp3.cell (j := 1) rfl
      have z1 := hp3.thawed 1
      have HF3 : Hid (Fs (fun k => k = gr ∨ k = pf) w (w3.setCell ⟨pf, 1, none⟩ (tx b))) := (HF2.out.trans hF fun k _ e => .inl e).setCell (fun _ => .inr rfl) _ _
      have HR3 := Lib.hid (hr.setOther (j := 1) (x := tx b) hpg fun k hk => ⟨by have := hS2 k hk; have := hF.size; omega, (HPS.out k hk).2⟩)
      have HP3 : Hid (Row (w3.setCell ⟨pf, 1, none⟩ (tx b)) pf 52 #[tx a, tx b, .bool nv]) := Row.stored hp3 1 _
      unfold tx at *
      clear hF hp3 htx hr c0 z0
      go_wp2_with fail
      go_ret
      exact ⟨HF3.out, rfl, HR3.out, HP3.out⟩

/-- What limit answers. -/
def LimE (w : World) (base bd : Nat) (S : Nat → Prop) (gr gd g : Nat) (v fw sv : Value) (L : List Fd) (cap : Nat) (l : List UInt8) (no : Prop) (n : Nat) (e : Ending) (w' : World) : Prop :=
  (no ∧ e = .returned (.bool false) ∧ w = w') ∨ (¬ no ∧ e = .returned (.bool true) ∧ ∃ v', Rx w' base bd S gr gd g v' fw sv (shr (n : Int) L) n cap l ∧ Fs (fun k => k = g ∨ ob v k) w w' ∧ Nx w v v')

set_option maxRecDepth 100000 in
set_option maxHeartbeats 2000000 in
theorem limit_any6 {w : World} {base bd : Nat} {S : Nat → Prop} {gr gd g : Nat} {v fw : Value} {z : Nat} {L : List Fd} {M cap : Nat} {l : List UInt8} (n : Nat) (hn : n ≤ 268435456) (_hcap : cap ≤ 4096) (hM : M ≤ 4096) (hL : tot L ≤ M) (h : Rx w base bd S gr gd g v fw (.int .i64 (z : Int)) L M cap l) :
    Calls Try.prog 45 #[pt gr, .int .i64 (n : Int)] w (LimE w base bd S gr gd g v fw (.int .i64 (z : Int)) L cap l (0 < z ∨ cap < n) n) := by
  have hlim := limit_any n (by omega) (by omega) (fun f hf => by have := mem_tot hf; omega) h.d.t
  obtain ⟨A, c, hR, hc, hA, hns⟩ := h.r
  have r0 := hR.cell (j := 0) rfl
  have r3 := hR.cell (j := 3) rfl
  have d0 := h.d.c0
  have d1 := h.d.c1
  have H := Lib.hid h
  clear hR hA h
  unfold pt at *
  by_cases hz : 0 < z
  · have hz1 : decide (0 < z) = true := by simp [hz]
    go_enter Try.func45, Try.ntmps45
    go_wp2_with fail
    go_ret
    exact .inl ⟨.inl hz, rfl, rfl⟩
  · have hz1 : decide (0 < z) = false := by simp; omega
    by_cases hcn : cap < n
    · have hc1 : decide (cap < n) = true := by simp [hcn]
      go_enter Try.func45, Try.ntmps45
      go_wp2_with fail
      go_ret
      exact .inl ⟨.inr hcn, rfl, rfl⟩
    · have hc1 : decide ((cap : Int) < (n : Int)) = false := by simp; omega
      have hc2 : decide (cap < n) = false := by simp; omega
      have hno : Hid (¬ (0 < z ∨ cap < n)) := by show ¬ _; omega
      clear hcn hz
      go_enter Try.func45, Try.ntmps45
      go_wp2_with fail
      refine hlim.mono ?_
      rintro e w1 ⟨rfl, v1, hT, hF, ho⟩
      have hN : Nx w v v1 := .inl ho
      have HF := Lib.hid (Fs.of_fr hF)
      have HD := Lib.hid (H.out.d.stepT hT HF.out hN)
      have HX : Hid (Rx w1 base bd S gr gd g v1 fw (.int .i64 (z : Int)) (shr (n : Int) L) n cap l) :=
        ⟨H.out.r.apart HF.out (fun e => H.out.ap (.inr e)) (fun k hk e => (H.out.s k hk).2 (.inr e)) H.out.lts, HD.out, fun k hk => ⟨(H.out.s k hk).1, fun e => by
          rcases EB.next hN e with e1 | e1
          · exact (H.out.s k hk).2 e1
          · have := H.out.lts k hk; omega⟩, H.out.lo, fun e => by
          rcases EB.next hN e with e1 | e1
          · exact H.out.ap e1
          · have := H.out.r.lt; omega⟩
      have HN := Lib.hid hN
      clear hT hF ho hN hlim HD
      go_wp2_with fail
      go_ret
      exact .inr ⟨hno.out, rfl, v1, HX.out, HF.out, HN.out⟩
end Go.Proofs.Ytfajffchnnalaaa

namespace Go.Proofs.Ytfajffchnnalaaa
open Go.RowKit Go.WideShapes

/-- The list as far as it was taken: whole, or too great. -/
def Fl (w : World) (base : Nat) (fw sv : Value) (out : List Fd) : Prop :=
  ∃ z : Nat, sv = .int .i64 (z : Int) ∧ z ≤ 4294967296 ∧ ((z = tot out ∧ OwS w base 52 3 fw out.length (enl fdc out)) ∨ (4096 < z ∧ 4096 < tot out)) ∧ ∀ k, ob fw k → base ≤ k ∧ k < w.heap.size
def TakeE (w : World) (base : Nat) (S : Nat → Prop) (gr : Nat) (d fw : Value) (l : List UInt8) (out : List Fd) (e : Ending) (w' : World) : Prop :=
  e = .returned (.tuple #[]) ∧ ∃ fw' sv', Rs w' S gr d fw' sv' l ∧ Fl w' base fw' sv' out ∧ Fs (fun k => k = gr ∨ ob fw k) w w' ∧ Nx w fw fw' ∧ ¬ ob fw' gr

attribute [local irreducible] tot sz

set_option maxRecDepth 100000 in
set_option maxHeartbeats 4000000 in
theorem take_any {w : World} {base : Nat} {S : Nat → Prop} {gr : Nat} {d fw sv : Value} {l : List UInt8} {out : List Fd} (f : Fd) (hf : sz f ≤ 2147483648) (hr : Rs w S gr d fw sv l) (hS : ∀ k, S k → k < w.heap.size) (hSb : ∀ k, S k → k < base) (hlo : base ≤ gr) (hfl : Fl w base fw sv out) (hap : ¬ ob fw gr) (hn : out.length ≤ 1073741824) :
    Calls Try.prog 48 #[pt gr, fv f] w (TakeE w base S gr d fw l (out ++ [f])) := by
  obtain ⟨z, rfl, hz, hcase, hfb⟩ := hfl
  have hgl := hr.lt
  obtain ⟨A, c, hR, hc, hA, hns⟩ := hr
  have hts := tot_snoc out f
  obtain ⟨C, hC⟩ : ∃ C : Obj, C = .cells #[.string ⟨f.nm.toArray⟩, .string ⟨f.vl.toArray⟩, .bool f.nv] 52 := ⟨_, rfl⟩
  have hb0 := (Below.refl w.heap.size w).alloc (Nat.le_refl _) C
  have hR0 := hR.below hb0 hgl
  have HR0 := Lib.hid hR0
  have HA0 : Hid (RdS (w.alloc C) S A (byc l)) := hA.keep fun g hg => hb0.block g (hS g hg)
  have HB0 : Hid (Row (w.alloc C) w.heap.size 52 #[.string ⟨f.nm.toArray⟩, .string ⟨f.vl.toArray⟩, .bool f.nv]) := by show Row _ _ _ _; rw [hC]; exact Row.new w _ _
  have HF0 : Hid (Fs (fun k => k = gr ∨ ob fw k) w (w.alloc C)) := Fs.of_below hb0
  have HFB := Lib.hid hfb
  have hs0 : w.heap.size < (w.alloc C).heap.size := by simp
  have r3 := hR0.cell (j := 3) rfl
  unfold pt fv tx at *
  subst hC
  by_cases hg : 4096 < z
  · have hg1 : (4096 : Int) < (z : Int) := by omega
    have hov : Hid (4096 < z ∧ 4096 < tot (out ++ [f])) := by
      show _ ∧ _
      refine ⟨hg, ?_⟩
      rcases hcase with h1 | h1 <;> omega
    clear hcase hR hA hR0 hb0
    go_enter Try.func48, Try.ntmps48
    go_wp2_with fail
    generalize w.alloc (.cells #[.string ⟨f.nm.toArray⟩, .string ⟨f.vl.toArray⟩, .bool f.nv] 52) = w0 at *
    refine bodyPost_ret (results_none rfl _ _ _) rfl ?_
    exact ⟨rfl, fw, .int .i64 (z : Int), ⟨A, c, HR0.out, hc, HA0.out, hns⟩, ⟨z, rfl, hz, .inr hov.out, fun k hk => ⟨(HFB.out k hk).1, by have := (HFB.out k hk).2; omega⟩⟩, HF0.out, Nx.refl w fw, hap⟩
  · have hg1 : decide ((4096 : Int) < (z : Int)) = false := by simp; omega
    obtain ⟨hzt, hO⟩ : z = tot out ∧ OwS w base 52 3 fw out.length (enl fdc out) := by
      rcases hcase with h1 | h1
      · exact h1
      · exact absurd h1.1 hg
    have HO0 := Lib.hid (hO.below hb0)
    have hsz := size_any f hf
    obtain ⟨i0, hi0, hz0, hz1, hz2⟩ := field_parts
    obtain ⟨T, hT⟩ : ∃ T, T = tot (out ++ [f]) := ⟨_, rfl⟩
    have HT := Lib.hid hT
    rw [← hT, ← hzt] at hts
    unfold fv tx at hsz
    have HZ := Lib.hid hzt
    clear hcase hR hA hR0 hb0 hO hT hzt
    go_enter Try.func48, Try.ntmps48
    go_wp2_with fail
    generalize w.alloc (.cells #[.string ⟨f.nm.toArray⟩, .string ⟨f.vl.toArray⟩, .bool f.nv] 52) = w0 at *
    have e3 : w0.drew.cell? ⟨gr, 3, none⟩ = some (.int .i64 (z : Int)) := HR0.out.cell (j := 3) rfl
    have b0 : w0.drew.cell? ⟨w.heap.size, 0, none⟩ = some (.string ⟨f.nm.toArray⟩) := HB0.out.cell (j := 0) rfl
    have b1 : w0.drew.cell? ⟨w.heap.size, 1, none⟩ = some (.string ⟨f.vl.toArray⟩) := HB0.out.cell (j := 1) rfl
    have b2 : w0.drew.cell? ⟨w.heap.size, 2, none⟩ = some (.bool f.nv) := HB0.out.cell (j := 2) rfl
    refine wp_region_E 9 (fun w' => w'.cell? ⟨gr, 3, none⟩ = some (.int .i64 (z : Int)) ∧ w'.cell? ⟨w.heap.size, 0, none⟩ = some (.string ⟨f.nm.toArray⟩) ∧ w'.cell? ⟨w.heap.size, 1, none⟩ = some (.string ⟨f.vl.toArray⟩) ∧ w'.cell? ⟨w.heap.size, 2, none⟩ = some (.bool f.nv)) (by kernel_rfl) ⟨e3, b0, b1, b2⟩ (fun hHeld => ?_)
    refine wpAnyE_take (i := 0) (v := ?v0) rfl (by kernel_rfl) (by kernel_rfl) (by kernel_rfl) (by kernel_rfl) (fun _ _ _ h => h) (Or.inl ⟨by rfl, ?hy0⟩) (by assumption) ?rest0
    case hy0 => (intro w hSw; (try dsimp only at hSw); go_simp <;> with_reducible rfl)
    try simp only [Act.put, List.getElem_toArray, List.getElem_cons_zero, List.setIfInBounds_toArray, List.set_cons_zero, List.set_cons_succ]
    refine wpAnyE_take (i := 1) (v := ?v1) rfl (by kernel_rfl) (by kernel_rfl) (by kernel_rfl) (by kernel_rfl) (fun _ _ _ h => h) (Or.inl ⟨by rfl, ?hy1⟩) (by assumption) ?rest1
    case hy1 => (intro w hSw; (try dsimp only at hSw); go_simp <;> with_reducible rfl)
    try simp only [Act.put, List.getElem_toArray, List.getElem_cons_zero, List.getElem_cons_succ, List.setIfInBounds_toArray, List.set_cons_zero, List.set_cons_succ]
    refine wpAnyE_take (i := 2) (v := ?v2) rfl (by kernel_rfl) (by kernel_rfl) (by kernel_rfl) (by kernel_rfl) (fun _ _ _ h => h) (Or.inl ⟨by rfl, ?hy2⟩) (by assumption) ?rest2
    case hy2 => (intro w hSw; (try dsimp only at hSw); go_simp <;> with_reducible rfl)
    try simp only [Act.put, List.getElem_toArray, List.getElem_cons_zero, List.getElem_cons_succ, List.setIfInBounds_toArray, List.set_cons_zero, List.set_cons_succ]
    refine wpAnyE_take (i := 3) (v := ?v3) rfl (by kernel_rfl) (by kernel_rfl) (by kernel_rfl) (by kernel_rfl) (fun _ _ _ h => h) (Or.inl ⟨by rfl, ?hy3⟩) (by assumption) ?rest3
    case hy3 => (intro w hSw; (try dsimp only at hSw); go_simp <;> with_reducible rfl)
    try simp only [Act.put, List.getElem_toArray, List.getElem_cons_zero, List.getElem_cons_succ, List.setIfInBounds_toArray, List.set_cons_zero, List.set_cons_succ]
    refine wpAnyE_take (i := 4) (v := ?v4) rfl (by kernel_rfl) (by kernel_rfl) (by kernel_rfl) (by kernel_rfl) (fun _ _ _ h => h) (Or.inl ⟨by rfl, ?hy4⟩) (by assumption) ?rest4
    case hy4 => (intro w hSw; (try dsimp only at hSw); go_simp <;> with_reducible rfl)
    try simp only [Act.put, List.getElem_toArray, List.getElem_cons_zero, List.getElem_cons_succ, List.setIfInBounds_toArray, List.set_cons_zero, List.set_cons_succ]
    refine wpAnyE_next (i := 5) (by kernel_rfl) rfl (fun K hK => ?_)
    go_simp
    go_at_call 54
    refine (hsz _).mono ?_
    rintro e w1 ⟨rfl, hb1⟩
    have k0 := (hb1.cell (p := ⟨gr, 3, none⟩) (World.block_lt_of_cell? _ _ e3)).trans e3
    have k1 := (hb1.cell (p := ⟨w.heap.size, 0, none⟩) (World.block_lt_of_cell? _ _ b0)).trans b0
    have k2 := (hb1.cell (p := ⟨w.heap.size, 1, none⟩) (World.block_lt_of_cell? _ _ b1)).trans b1
    have k3 := (hb1.cell (p := ⟨w.heap.size, 2, none⟩) (World.block_lt_of_cell? _ _ b2)).trans b2
    have hB : Below w0.heap.size w0 w1 := ((Below.refl _ w0).drew).trans hb1
    have HR1 := Lib.hid (HR0.out.below hB HR0.out.lt)
    have HB1 := Lib.hid (HB0.out.below hB HB0.out.lt)
    have HO1 := Lib.hid (HO0.out.below hB)
    have HF1 := Lib.hid (HF0.out.then_below hB)
    have HA1 : Hid (RdS w1 S A (byc l)) := HA0.out.keep fun g hg => hB.block g (by have := hS g hg; omega)
    have hs1 : w.heap.size < w1.heap.size := by have := hB.size; omega
    clear hb1 hB HR0 HB0 HO0 HF0 HA0 hsz
    go_simp
    refine hK.out _ _ ⟨k0, k1, k2, k3⟩ (fun hHeld => ?_)
    clear hK K
    try simp only [Act.put, List.getElem_toArray, List.getElem_cons_zero, List.getElem_cons_succ, List.setIfInBounds_toArray, List.set_cons_zero, List.set_cons_succ]
    refine wpAnyE_take (i := 6) (v := ?v6q1) rfl (by kernel_rfl) (by kernel_rfl) (by kernel_rfl) (by kernel_rfl) (fun _ _ _ h => h) (Or.inl ⟨by rfl, ?hy6q1⟩) (by assumption) ?rest6q1
    case hy6q1 => (intro w hSw; (try dsimp only at hSw); go_simp <;> with_reducible rfl)
    try simp only [Act.put, List.getElem_toArray, List.getElem_cons_zero, List.getElem_cons_succ, List.setIfInBounds_toArray, List.set_cons_zero, List.set_cons_succ]
    refine wpAnyE_take (i := 7) (v := ?v7q1) rfl (by kernel_rfl) (by kernel_rfl) (by kernel_rfl) (by kernel_rfl) (fun _ _ _ h => h) (Or.inl ⟨by rfl, ?hy7q1⟩) (by assumption) ?rest7q1
    case hy7q1 => (intro w hSw; (try dsimp only at hSw); go_simp <;> with_reducible rfl)
    try simp only [Act.put, List.getElem_toArray, List.getElem_cons_zero, List.getElem_cons_succ, List.setIfInBounds_toArray, List.set_cons_zero, List.set_cons_succ]
    refine wpAnyE_take (i := 8) (v := ?v8q1) rfl (by kernel_rfl) (by kernel_rfl) (by kernel_rfl) (by kernel_rfl) (fun _ _ _ h => h) (Or.inl ⟨by rfl, ?hy8q1⟩) (by assumption) ?rest8q1
    case hy8q1 => (intro w hSw; (try dsimp only at hSw); go_simp <;> with_reducible rfl)
    try simp only [Act.put, List.getElem_toArray, List.getElem_cons_zero, List.getElem_cons_succ, List.setIfInBounds_toArray, List.set_cons_zero, List.set_cons_succ]
    have hth3 := HR1.out.thawed 3
    refine wpAnyE_last (by kernel_rfl) rfl (by kernel_rfl) (fun K hK => ?_)
    go_simp
    refine hK.out _ _ ?_
    clear hK K
    have hsum : IntKind.i64.wrap ((z : Int) + (sz f : Int)) = (T : Int) := by rw [IntWalk.i64_in _ (by omega)]; omega
    try simp only [Act.put, List.getElem_toArray, List.getElem_cons_zero, List.getElem_cons_succ, List.setIfInBounds_toArray, List.set_cons_zero, List.set_cons_succ]
    rw [hsum]
    have HR2 : Hid (Row (w1.setCell ⟨gr, 3, none⟩ (.int .i64 (T : Int))) gr 70 #[d, .slice A l.length c, fw, .int .i64 (T : Int)]) := Row.stored HR1.out 3 _
    have HFs : Hid (Fs (fun k => k = gr) w1 (w1.setCell ⟨gr, 3, none⟩ (.int .i64 (T : Int)))) := (Fs.refl (fun k => k = gr) w1).setCell (fun _ => rfl) _ _
    have HB2 := Lib.hid (HFs.out.row (b := w.heap.size) (fun e => by omega) HB1.out)
    have HO2 := Lib.hid (HFs.out.owns HO1.out fun k hk e => hap (by rw [← e]; exact hk))
    have HF2 : Hid (Fs (fun k => k = gr ∨ ob fw k) w (w1.setCell ⟨gr, 3, none⟩ (.int .i64 (T : Int)))) := HF1.out.trans HFs.out fun k _ e => .inl e
    have HA2 : Hid (RdS (w1.setCell ⟨gr, 3, none⟩ (.int .i64 (T : Int))) S A (byc l)) := HFs.out.reads HA1.out fun k hk => ⟨by have := hS k hk; omega, fun e => hns (by rw [← e]; exact hk)⟩
    have hs2 : w.heap.size < (w1.setCell ⟨gr, 3, none⟩ (.int .i64 (T : Int))).heap.size := by simpa [World.setCell] using hs1
    clear HR1 HFs HB1 HO1 HF1 HA1 hth3 k0 k1 k2 k3 e3 b0 b1 b2 r3
    generalize w1.setCell ⟨gr, 3, none⟩ (.int .i64 (T : Int)) = w2 at *
    go_wp2_with fail
    obtain ⟨Aw, cw, rfl, hw1, hw2⟩ := HO2.out.shape
    have e0 : w2.drew.cell? ⟨gr, 2, none⟩ = some (.slice Aw out.length cw) := HR2.out.cell (j := 2) rfl
    have d0 : w2.drew.cell? ⟨w.heap.size, 0, none⟩ = some (.string ⟨f.nm.toArray⟩) := HB2.out.cell (j := 0) rfl
    have d1 : w2.drew.cell? ⟨w.heap.size, 1, none⟩ = some (.string ⟨f.vl.toArray⟩) := HB2.out.cell (j := 1) rfl
    have d2 : w2.drew.cell? ⟨w.heap.size, 2, none⟩ = some (.bool f.nv) := HB2.out.cell (j := 2) rfl
    refine wp_region_E 10 (fun w' => w'.cell? ⟨gr, 2, none⟩ = some (.slice Aw out.length cw) ∧ w'.cell? ⟨w.heap.size, 0, none⟩ = some (.string ⟨f.nm.toArray⟩) ∧ w'.cell? ⟨w.heap.size, 1, none⟩ = some (.string ⟨f.vl.toArray⟩) ∧ w'.cell? ⟨w.heap.size, 2, none⟩ = some (.bool f.nv)) (by kernel_rfl) ⟨e0, d0, d1, d2⟩ (fun hHeld => ?_)
    refine wpAnyE_take (i := 0) (v := ?v0q2) rfl (by kernel_rfl) (by kernel_rfl) (by kernel_rfl) (by kernel_rfl) (fun _ _ _ h => h) (Or.inl ⟨by rfl, ?hy0q2⟩) (by assumption) ?rest0q2
    case hy0q2 => (intro w hSw; (try dsimp only at hSw); go_simp <;> with_reducible rfl)
    try simp only [Act.put, List.getElem_toArray, List.getElem_cons_zero, List.setIfInBounds_toArray, List.set_cons_zero, List.set_cons_succ]
    refine wpAnyE_take (i := 1) (v := ?v1q2) rfl (by kernel_rfl) (by kernel_rfl) (by kernel_rfl) (by kernel_rfl) (fun _ _ _ h => h) (Or.inl ⟨by rfl, ?hy1q2⟩) (by assumption) ?rest1q2
    case hy1q2 => (intro w hSw; (try dsimp only at hSw); go_simp <;> with_reducible rfl)
    try simp only [Act.put, List.getElem_toArray, List.getElem_cons_zero, List.getElem_cons_succ, List.setIfInBounds_toArray, List.set_cons_zero, List.set_cons_succ]
    refine wpAnyE_take (i := 2) (v := ?v2q2) rfl (by kernel_rfl) (by kernel_rfl) (by kernel_rfl) (by kernel_rfl) (fun _ _ _ h => h) (Or.inl ⟨by rfl, ?hy2q2⟩) (by assumption) ?rest2q2
    case hy2q2 => (intro w hSw; (try dsimp only at hSw); go_simp <;> with_reducible rfl)
    try simp only [Act.put, List.getElem_toArray, List.getElem_cons_zero, List.getElem_cons_succ, List.setIfInBounds_toArray, List.set_cons_zero, List.set_cons_succ]
    refine wpAnyE_take (i := 3) (v := ?v3q2) rfl (by kernel_rfl) (by kernel_rfl) (by kernel_rfl) (by kernel_rfl) (fun _ _ _ h => h) (Or.inl ⟨by rfl, ?hy3q2⟩) (by assumption) ?rest3q2
    case hy3q2 => (intro w hSw; (try dsimp only at hSw); go_simp <;> with_reducible rfl)
    try simp only [Act.put, List.getElem_toArray, List.getElem_cons_zero, List.getElem_cons_succ, List.setIfInBounds_toArray, List.set_cons_zero, List.set_cons_succ]
    refine wpAnyE_take (i := 4) (v := ?v4q2) rfl (by kernel_rfl) (by kernel_rfl) (by kernel_rfl) (by kernel_rfl) (fun _ _ _ h => h) (Or.inl ⟨by rfl, ?hy4q2⟩) (by assumption) ?rest4q2
    case hy4q2 => (intro w hSw; (try dsimp only at hSw); go_simp <;> with_reducible rfl)
    try simp only [Act.put, List.getElem_toArray, List.getElem_cons_zero, List.getElem_cons_succ, List.setIfInBounds_toArray, List.set_cons_zero, List.set_cons_succ]
    refine wpAnyE_take (i := 5) (v := ?v5q2) rfl (by kernel_rfl) (by kernel_rfl) (by kernel_rfl) (by kernel_rfl) (fun _ _ _ h => h) (Or.inl ⟨by rfl, ?hy5q2⟩) (by assumption) ?rest5q2
    case hy5q2 => (intro w hSw; (try dsimp only at hSw); go_simp <;> with_reducible rfl)
    try simp only [Act.put, List.getElem_toArray, List.getElem_cons_zero, List.getElem_cons_succ, List.setIfInBounds_toArray, List.set_cons_zero, List.set_cons_succ]
    refine wpAnyE_next (i := 6) (by kernel_rfl) rfl (fun K hK => ?_)
    go_simp
    have m0 : (w2.alloc (.cells #[.string ⟨f.nm.toArray⟩, .string ⟨f.vl.toArray⟩, .bool f.nv] 52)).drew.cell? ⟨gr, 2, none⟩ = some (.slice Aw out.length cw) := (World.cell?_alloc_lt w2 (.cells #[.string ⟨f.nm.toArray⟩, .string ⟨f.vl.toArray⟩, .bool f.nv] 52) ⟨gr, 2, none⟩ (World.block_lt_of_cell? _ _ e0)).trans e0
    have m1 : (w2.alloc (.cells #[.string ⟨f.nm.toArray⟩, .string ⟨f.vl.toArray⟩, .bool f.nv] 52)).drew.cell? ⟨w.heap.size, 0, none⟩ = some (.string ⟨f.nm.toArray⟩) := (World.cell?_alloc_lt w2 (.cells #[.string ⟨f.nm.toArray⟩, .string ⟨f.vl.toArray⟩, .bool f.nv] 52) ⟨w.heap.size, 0, none⟩ (World.block_lt_of_cell? _ _ d0)).trans d0
    have m2 : (w2.alloc (.cells #[.string ⟨f.nm.toArray⟩, .string ⟨f.vl.toArray⟩, .bool f.nv] 52)).drew.cell? ⟨w.heap.size, 1, none⟩ = some (.string ⟨f.vl.toArray⟩) := (World.cell?_alloc_lt w2 (.cells #[.string ⟨f.nm.toArray⟩, .string ⟨f.vl.toArray⟩, .bool f.nv] 52) ⟨w.heap.size, 1, none⟩ (World.block_lt_of_cell? _ _ d1)).trans d1
    have m3 : (w2.alloc (.cells #[.string ⟨f.nm.toArray⟩, .string ⟨f.vl.toArray⟩, .bool f.nv] 52)).drew.cell? ⟨w.heap.size, 2, none⟩ = some (.bool f.nv) := (World.cell?_alloc_lt w2 (.cells #[.string ⟨f.nm.toArray⟩, .string ⟨f.vl.toArray⟩, .bool f.nv] 52) ⟨w.heap.size, 2, none⟩ (World.block_lt_of_cell? _ _ d2)).trans d2
    have hB : Below w2.heap.size w2 (w2.alloc (.cells #[.string ⟨f.nm.toArray⟩, .string ⟨f.vl.toArray⟩, .bool f.nv] 52)).drew := ((Below.refl _ w2).alloc (Nat.le_refl _) _).drew
    have HR3 := Lib.hid (HR2.out.below hB HR2.out.lt)
    have HO3 := Lib.hid (HO2.out.below hB)
    have HF3 := Lib.hid (HF2.out.then_below hB)
    have HA3 : Hid (RdS (w2.alloc (.cells #[.string ⟨f.nm.toArray⟩, .string ⟨f.vl.toArray⟩, .bool f.nv] 52)).drew S A (byc l)) := HA2.out.keep fun g hg => hB.block g (by have := hS g hg; omega)
    have HN3 : Hid (∀ j u, (fdc f)[j]? = some u → (w2.alloc (.cells #[.string ⟨f.nm.toArray⟩, .string ⟨f.vl.toArray⟩, .bool f.nv] 52)).drew.cell? ((⟨w2.heap.size, 0, none⟩ : Addr).add j) = some u) := World.news_of_block (heap_alloc_last w2 (.cells #[.string ⟨f.nm.toArray⟩, .string ⟨f.vl.toArray⟩, .bool f.nv] 52))
    have hs3 : w2.heap.size < (w2.alloc (.cells #[.string ⟨f.nm.toArray⟩, .string ⟨f.vl.toArray⟩, .bool f.nv] 52)).drew.heap.size := by simp [World.drew]
    clear HR2 HO2 HF2 HA2 hB
    refine hK.out _ _ ⟨m0, m1, m2, m3⟩ (fun hHeld => ?_)
    clear hK K
    try simp only [Act.put, List.getElem_toArray, List.getElem_cons_zero, List.getElem_cons_succ, List.setIfInBounds_toArray, List.set_cons_zero, List.set_cons_succ]
    generalize (w2.alloc (.cells #[.string ⟨f.nm.toArray⟩, .string ⟨f.vl.toArray⟩, .bool f.nv] 52)).drew = w5 at *
    refine wpAnyE_next (i := 7) (by kernel_rfl) rfl (fun K hK => ?_)
    refine step_appS rfl (.tmp 22) (.tmp 24) 31 rfl base 52 i0 _ 3 40 Try.underlying31 hi0 hz0 hz1 hz2 rfl (.slice Aw out.length cw) out.length (enl fdc out) rfl HO3.out ⟨w2.heap.size, 0, none⟩ 1 1 (fdc f) rfl rfl HN3.out (fdc_one _) (by omega) (by simp only [maxLen]; omega) (by omega) (by omega) ?_
    intro A6 c6 w6 hO6 hg6 hb6
    have hFg : Fs (ob (.slice Aw out.length cw)) w5 w6 := Fs.of_grown hg6
    have hN6 : Nx w5 (.slice Aw out.length cw) (.slice A6 (out.length + 1) c6) := Nx.of_new hb6
    have hR6 := hFg.row hap HR3.out
    have n0 := hR6.cell (j := 2) rfl
    have hbn : some w.heap.size ≠ (Value.slice Aw out.length cw).ownBlock := fun e => by
      have := (HFB.out w.heap.size e.symm).2
      omega
    have n1 := (hg6.cell_far ⟨w.heap.size, 0, none⟩ (World.block_lt_of_cell? _ _ m1) hbn).trans m1
    have n2 := (hg6.cell_far ⟨w.heap.size, 1, none⟩ (World.block_lt_of_cell? _ _ m2) hbn).trans m2
    have n3 := (hg6.cell_far ⟨w.heap.size, 2, none⟩ (World.block_lt_of_cell? _ _ m3) hbn).trans m3
    have hap6 : ¬ ob (.slice A6 (out.length + 1) c6) gr := hN6.not (by have := HF3.out.size; omega) hap
    have hthaw := hR6.thawed 2
    have HR7 : Hid (Row (w6.setCell ⟨gr, 2, none⟩ (.slice A6 (out.length + 1) c6)) gr 70 #[d, .slice A l.length c, .slice A6 (out.length + 1) c6, .int .i64 (T : Int)]) := Row.stored hR6 2 _
    have hFs : Fs (fun k => k = gr) w6 (w6.setCell ⟨gr, 2, none⟩ (.slice A6 (out.length + 1) c6)) := (Fs.refl (fun k => k = gr) w6).setCell (fun _ => rfl) _ _
    have HF7 : Hid (Fs (fun k => k = gr ∨ ob (.slice Aw out.length cw) k) w (w6.setCell ⟨gr, 2, none⟩ (.slice A6 (out.length + 1) c6))) := (HF3.out.trans hFg fun k _ e => .inr e).trans hFs fun k _ e => .inl e
    have HO7 := Lib.hid (hFs.owns hO6 fun k hk e => hap6 (by rw [← e]; exact hk))
    have HA7 : Hid (RdS (w6.setCell ⟨gr, 2, none⟩ (.slice A6 (out.length + 1) c6)) S A (byc l)) := hFs.reads (hFg.reads HA3.out fun k hk => ⟨by have := hS k hk; omega, fun e => by have := (HFB.out k e).1; have := hSb k hk; omega⟩) fun k hk => ⟨by have := hS k hk; have := hFg.size; omega, fun e => hns (by rw [← e]; exact hk)⟩
    have HN7 : Hid (Nx w (.slice Aw out.length cw) (.slice A6 (out.length + 1) c6)) := (Nx.refl w _).trans hN6 (by have := HF3.out.size; omega)
    have HAP := Lib.hid hap6
    have HFB7 : Hid (∀ k, ob (.slice A6 (out.length + 1) c6) k → base ≤ k ∧ k < (w6.setCell ⟨gr, 2, none⟩ (.slice A6 (out.length + 1) c6)).heap.size) := fun k hk => HO7.out.lt k hk
    refine hK.out _ _ ⟨n0, n1, n2, n3⟩ (fun hHeld => ?_)
    clear hK K hap6 hN6 hFg hFs hg6 hb6 hO6 HR3 HO3 HF3 HA3 HN3 m0 m1 m2 m3 e0 d0 d1 d2
    try simp only [Act.put, List.getElem_toArray, List.getElem_cons_zero, List.getElem_cons_succ, List.setIfInBounds_toArray, List.set_cons_zero, List.set_cons_succ]
    refine wpAnyE_take (i := 8) (v := ?v8q3) rfl (by kernel_rfl) (by kernel_rfl) (by kernel_rfl) (by kernel_rfl) (fun _ _ _ h => h) (Or.inl ⟨by rfl, ?hy8q3⟩) (by assumption) ?rest8q3
    case hy8q3 => (intro w hSw; (try dsimp only at hSw); go_simp <;> with_reducible rfl)
    try simp only [Act.put, List.getElem_toArray, List.getElem_cons_zero, List.getElem_cons_succ, List.setIfInBounds_toArray, List.set_cons_zero, List.set_cons_succ]
    refine wpAnyE_take (i := 9) (v := ?v9q3) rfl (by kernel_rfl) (by kernel_rfl) (by kernel_rfl) (by kernel_rfl) (fun _ _ _ h => h) (Or.inl ⟨by rfl, ?hy9q3⟩) (by assumption) ?rest9q3
    case hy9q3 => (intro w hSw; (try dsimp only at hSw); go_simp <;> with_reducible rfl)
    try simp only [Act.put, List.getElem_toArray, List.getElem_cons_zero, List.getElem_cons_succ, List.setIfInBounds_toArray, List.set_cons_zero, List.set_cons_succ]
    refine wpAnyE_last (by kernel_rfl) rfl (by kernel_rfl) (fun K hK => ?_)
    go_simp
    refine hK.out _ _ ?_
    clear hK K
    try simp only [Act.put, List.getElem_toArray, List.getElem_cons_zero, List.getElem_cons_succ, List.setIfInBounds_toArray, List.set_cons_zero, List.set_cons_succ]
    generalize w6.setCell ⟨gr, 2, none⟩ (.slice A6 (out.length + 1) c6) = w7 at *
    clear hthaw n0 n1 n2 n3 hR6
    go_wp2_with fail
    refine bodyPost_ret (results_none rfl _ _ _) rfl ?_
    refine ⟨rfl, .slice A6 (out.length + 1) c6, .int .i64 (T : Int), ⟨A, c, HR7.out, hc, HA7.out, hns⟩, ⟨T, rfl, by omega, .inl ⟨HT.out, ?_⟩, HFB7.out⟩, HF7.out, HN7.out, HAP.out⟩
    rw [List.length_append, enl_append, enl_one]
    exact HO7.out
end Go.Proofs.Ytfajffchnnalaaa

namespace Go.Proofs.Ytfajffchnnalaaa
open Go.RowKit Go.WideShapes

/-- A reading, its decoder, its list so far. -/
structure Rg (w : World) (base bd : Nat) (S : Nat → Prop) (gr gd g : Nat) (v fw sv : Value) (L : List Fd) (M cap : Nat) (l : List UInt8) (out : List Fd) : Prop where
  x : Rx w base bd S gr gd g v fw sv L M cap l
  f : Fl w base fw sv out
  fr : ¬ ob fw gr
  fe : ∀ k, ob fw k → ¬ EB gd g v k
/-- What piece answers. -/
def PieceE (w : World) (base bd : Nat) (S : Nat → Prop) (gr gd g : Nat) (v fw : Value) (cap : Nat) (o : Option (Rd × List UInt8)) (e : Ending) (w' : World) : Prop :=
  Fs (fun k => k = gr ∨ EB gd g v k ∨ ob fw k) w w' ∧ match o with
    | none => e = .returned (.bool false)
    | some (s, r) => e = .returned (.bool true) ∧ ∃ v' fw' sv', Rg w' base bd S gr gd g v' fw' sv' s.tb s.mx cap r s.out ∧ Nx w v v' ∧ Nx w fw fw'

theorem Fl.below {w w' : World} {base : Nat} {fw sv : Value} {out : List Fd} (h : Fl w base fw sv out) (hb : Below w.heap.size w w') : Fl w' base fw sv out := by
  obtain ⟨z, h1, h2, h3, h4⟩ := h
  refine ⟨z, h1, h2, ?_, fun k hk => ⟨(h4 k hk).1, by have := (h4 k hk).2; have := hb.size; omega⟩⟩
  rcases h3 with h3 | h3
  · exact .inl ⟨h3.1, h3.2.below hb⟩
  · exact .inr h3
theorem Fl.apart {w w' : World} {base : Nat} {fw sv : Value} {out : List Fd} {T : Nat → Prop} (h : Fl w base fw sv out) (hF : Fs T w w') (hT : ∀ k, ob fw k → ¬ T k) : Fl w' base fw sv out := by
  obtain ⟨z, h1, h2, h3, h4⟩ := h
  refine ⟨z, h1, h2, ?_, fun k hk => ⟨(h4 k hk).1, by have := (h4 k hk).2; have := hF.size; omega⟩⟩
  rcases h3 with h3 | h3
  · exact .inl ⟨h3.1, hF.owns h3.2 hT⟩
  · exact .inr h3
theorem Rg.below {w w' : World} {base bd : Nat} {S : Nat → Prop} {gr gd g : Nat} {v fw sv : Value} {L : List Fd} {M cap : Nat} {l : List UInt8} {out : List Fd} (h : Rg w base bd S gr gd g v fw sv L M cap l out) (hb : Below w.heap.size w w') : Rg w' base bd S gr gd g v fw sv L M cap l out :=
  ⟨h.x.below hb, h.f.below hb, h.fr, h.fe⟩
/-- A step on the reading's own block. -/
theorem Rg.text {w w' : World} {base bd : Nat} {S : Nat → Prop} {gr gd g : Nat} {v fw sv : Value} {L : List Fd} {M cap : Nat} {l l' : List UInt8} {out : List Fd} (h : Rg w base bd S gr gd g v fw sv L M cap l out) (hF : Fs (fun k => k = gr) w w') (hr : Rs w' S gr (pt gd) fw sv l') : Rg w' base bd S gr gd g v fw sv L M cap l' out :=
  ⟨h.x.text hF hr, h.f.apart hF fun k hk e => h.fr (by rw [← e]; exact hk), h.fr, h.fe⟩

/-- A step on the reading's own block and a variable's. -/
theorem Rg.texts {w w' : World} {base bd : Nat} {S : Nat → Prop} {gr gd g pf : Nat} {v fw sv : Value} {L : List Fd} {M cap : Nat} {l l' : List UInt8} {out : List Fd} (h : Rg w base bd S gr gd g v fw sv L M cap l out) (hF : Fs (fun k => k = gr ∨ k = pf) w w') (hr : Rs w' S gr (pt gd) fw sv l') (hp1 : ¬ EB gd g v pf) (hp2 : ¬ ob fw pf) : Rg w' base bd S gr gd g v fw sv L M cap l' out :=
  ⟨⟨hr, h.x.d.dis hF fun k hk e => by
      rcases e with e | e
      · exact h.x.ap (by rw [← e]; exact hk)
      · exact hp1 (by rw [← e]; exact hk), h.x.s, h.x.lo, h.x.ap⟩, h.f.apart hF fun k hk e => by
      rcases e with e | e
      · exact h.fr (by rw [← e]; exact hk)
      · exact hp2 (by rw [← e]; exact hk), h.fr, h.fe⟩
theorem Rg.fwlt {w : World} {base bd : Nat} {S : Nat → Prop} {gr gd g : Nat} {v fw sv : Value} {L : List Fd} {M cap : Nat} {l : List UInt8} {out : List Fd} (h : Rg w base bd S gr gd g v fw sv L M cap l out) {k : Nat} (hk : ob fw k) : base ≤ k ∧ k < w.heap.size := by
  obtain ⟨z, _, _, _, h4⟩ := h.f
  exact h4 k hk
/-- A step on the table. -/
theorem Rg.add {w w' : World} {base bd : Nat} {S : Nat → Prop} {gr gd g : Nat} {v v' fw sv : Value} {L L' : List Fd} {M M' cap : Nat} {l : List UInt8} {out : List Fd} (h : Rg w base bd S gr gd g v fw sv L M cap l out) (hT : Tb w' bd g v' L' M') (hF : Fs (fun k => k = g ∨ ob v k) w w') (hN : Nx w v v') : Rg w' base bd S gr gd g v' fw sv L' M' cap l out := by
  refine ⟨⟨h.x.r.apart hF (fun e => h.x.ap (.inr e)) (fun k hk e => (h.x.s k hk).2 (.inr e)) h.x.lts, h.x.d.stepT hT hF hN, fun k hk => ⟨(h.x.s k hk).1, fun e => ?_⟩, h.x.lo, fun e => ?_⟩, h.f.apart hF fun k hk e => h.fe k hk (.inr e), h.fr, fun k hk e => ?_⟩
  · rcases EB.next hN e with e1 | e1
    · exact (h.x.s k hk).2 e1
    · have := h.x.lts k hk; omega
  · rcases EB.next hN e with e1 | e1
    · exact h.x.ap e1
    · have := h.x.r.lt; omega
  · rcases EB.next hN e with e1 | e1
    · exact h.fe k hk e1
    · have := (h.fwlt hk).2; omega
theorem Rg.take {w w' : World} {base bd : Nat} {S : Nat → Prop} {gr gd g : Nat} {v fw sv : Value} {L : List Fd} {M cap : Nat} {l : List UInt8} {out out' : List Fd} {e : Ending} (h : Rg w base bd S gr gd g v fw sv L M cap l out) (ht : TakeE w base S gr (pt gd) fw l out' e w') :
    e = .returned (.tuple #[]) ∧ ∃ fw' sv', Rg w' base bd S gr gd g v fw' sv' L M cap l out' ∧ Fs (fun k => k = gr ∨ ob fw k) w w' ∧ Nx w fw fw' := by
  obtain ⟨he, fw', sv', h1, h2, h3, h4, h5⟩ := ht
  refine ⟨he, fw', sv', ⟨⟨h1, h.x.d.dis h3 fun k hk e => ?_, h.x.s, h.x.lo, h.x.ap⟩, h2, h5, fun k hk e => ?_⟩, h3, h4⟩
  · rcases e with e | e
    · exact h.x.ap (by rw [← e]; exact hk)
    · exact h.fe k e hk
  · rcases h4.own hk with h6 | h6
    · exact h.fe k h6 e
    · have := (h.x.d.eb e).2; omega
/-- A step on a variable's block alone. -/
theorem Rg.other {w w' : World} {base bd : Nat} {S : Nat → Prop} {gr gd g pf : Nat} {v fw sv : Value} {L : List Fd} {M cap : Nat} {l : List UInt8} {out : List Fd} (h : Rg w base bd S gr gd g v fw sv L M cap l out) (hF : Fs (fun k => k = pf) w w') (hp1 : ¬ EB gd g v pf) (hp2 : ¬ ob fw pf) (hp3 : pf ≠ gr) (hp4 : base ≤ pf) : Rg w' base bd S gr gd g v fw sv L M cap l out :=
  h.texts (pf := pf) (hF.mono fun k _ e => .inr e) (h.x.r.apart hF (fun e => hp3 e.symm) (fun k hk e => by have := (h.x.s k hk).1; omega) h.x.lts) hp1 hp2
theorem PieceE.of {w w3 w' : World} {base bd : Nat} {S : Nat → Prop} {gr gd g : Nat} {v v' fw sv : Value} {L : List Fd} {M cap : Nat} {m : List UInt8} {out out' : List Fd} {e : Ending} (hF : Fs (fun k => k = gr ∨ EB gd g v k ∨ ob fw k) w w3) (h : Rg w3 base bd S gr gd g v' fw sv L M cap m out) (hN : Nx w v v') (ht : TakeE w3 base S gr (pt gd) fw m out' e w') :
    e = .returned (.tuple #[]) ∧ PieceE w base bd S gr gd g v fw cap (some (⟨L, M, out'⟩, m)) (.returned (.bool true)) w' := by
  obtain ⟨he, fw', sv', h1, h2, h3⟩ := h.take ht
  refine ⟨he, hF.trans h2 fun k _ e => ?_, rfl, v', fw', sv', h1, hN, (Nx.refl w fw).trans h3 hF.size⟩
  rcases e with e | e
  · exact .inl e
  · exact .inr (.inr e)
/-- What the list's size tells. -/
theorem Fl.some {w : World} {base : Nat} {fw sv : Value} {out : List Fd} (h : Fl w base fw sv out) : ∃ z : Nat, sv = .int .i64 (z : Int) ∧ (0 < z ↔ out ≠ []) := by
  obtain ⟨z, h1, _, h3, _⟩ := h
  refine ⟨z, h1, ?_⟩
  have h0 := @tot_nil out
  rcases h3 with h3 | h3
  · rw [h3.1]
    constructor
    · intro h4 h5
      rw [h0.2 h5] at h4
      omega
    · intro h4
      rcases Nat.eq_zero_or_pos (tot out) with h5 | h5
      · exact absurd (h0.1 h5) h4
      · exact h5
  · constructor
    · intro _ h5
      rw [h0.2 h5] at h3
      omega
    · intro _; omega

theorem kindN_is (b : Nat) : kindN b = 128 ∨ kindN b = 64 ∨ kindN b = 32 ∨ kindN b = 16 ∨ kindN b = 0 := by unfold kindN; repeat (first | omega | split)
theorem decL_len {l s : List UInt8} (h : decL l = some s) : s.length ≤ 2 * l.length := by
  have h1 := enc_dec h
  have h2 := encL_len s
  rw [h1] at h2
  have h3 := (bitsN_bd s).1
  omega
theorem textR_len {l a r : List UInt8} (h : textR l = some (a, r)) : a.length ≤ 2 * l.length := by
  unfold textR at h
  split at h
  · cases h
  · split at h
    · cases h
    · split at h
      · split at h
        · cases h
        · rename_i s hs
          injection h with h; injection h with h1 h2; subst h1
          have := decL_len hs
          simp only [List.length_take, List.length_drop] at this
          omega
      · injection h with h; injection h with h1 h2; subst h1
        simp only [List.length_take, List.length_drop]
        omega
theorem tab_bd : ∀ j : Fin 61, (nmL j.val).length + (vlL j.val).length ≤ 100 := by decide +kernel
theorem atT_sz {L : List Fd} {n : Nat} {f : Fd} (h : atT L n = some f) (hL : tot L ≤ 4096) : sz f ≤ 4096 := by
  unfold atT at h
  split at h
  · cases h
  · split at h
    · injection h with h
      subst h
      have := tab_bd ⟨n - 1, by omega⟩
      simp only at this
      show (nmL (n - 1)).length + (vlL (n - 1)).length + 32 ≤ 4096
      omega
    · have hm := List.mem_of_getElem? h
      rw [List.mem_reverse] at hm
      have := mem_tot hm
      omega
theorem textsR_sz {L : List Fd} {n : Nat} {nv : Bool} {l r : List UInt8} {f : Fd} (h : textsR L n nv l = some (f, r)) (hL : tot L ≤ 4096) : sz f ≤ 4 * l.length + 4128 := by
  unfold textsR at h
  split at h
  · cases h
  · rename_i a r1 h1
    split at h
    · cases h
    · rename_i b r2 h2
      injection h with h; injection h with h3 h4
      subst h3
      have e2 := textR_len h2
      have e0 := nameR_rest h1
      have e1 : a.length ≤ 2 * l.length + 4096 := by
        unfold nameR at h1
        split at h1
        · have := textR_len h1; omega
        · split at h1
          · cases h1
          · rename_i f hf
            injection h1 with h1; injection h1 with h5 h6
            subst h5
            have := atT_sz hf hL
            unfold sz at this
            omega
      unfold sz
      show a.length + b.length + 32 ≤ _
      omega

attribute [local irreducible] getL decL textR atT tot sz shr nameR textsR addL

set_option maxRecDepth 100000 in
set_option maxHeartbeats 4000000 in
theorem piece_any {w : World} {base bd : Nat} {S : Nat → Prop} {gr gd g : Nat} {v fw sv : Value} {L : List Fd} {M cap : Nat} {l : List UInt8} {out : List Fd} (h : Rg w base bd S gr gd g v fw sv L M cap l out) (hl0 : l ≠ []) (hl : l.length ≤ 12000) (hcap : cap ≤ 4096) (hM : M ≤ 4096) (hL : tot L ≤ M) (hn : out.length ≤ 1000000) :
    Calls Try.prog 30 #[pt gr] w (PieceE w base bd S gr gd g v fw cap (pieceR cap ⟨L, M, out⟩ l)) := by
  obtain ⟨b, r, rfl⟩ : ∃ b r, l = b :: r := by
    cases l with
    | nil => exact absurd rfl hl0
    | cons b r => exact ⟨b, r, rfl⟩
  have hko := fun W => kindOf_any b.toNat b.toNat_lt W
  have hki := kindN_is b.toNat
  obtain ⟨A, c, hR, hc, hA, hns⟩ := h.x.r
  obtain ⟨g0, o0, hAe, hSg0, hcel⟩ := hA (by simp [byc])
  subst hAe
  have f0 : w.cell? ⟨g0, o0, none⟩ = some (.int .u8 (b.toNat : Int)) := hcel 0 _ (by simp [byc])
  have c1 : w.cell? ⟨gr, 1, none⟩ = some (.slice (some ⟨g0, o0, none⟩) (b :: r).length c) := hR.cell (j := 1) rfl
  have hl1 : 0 < (b :: r).length := by simp
  have hnum := fun k h1 h8 => number_any (w := w) k h1 h8 (by omega) h.x.r h.x.lts
  obtain ⟨X, hX⟩ : ∃ X, X = pieceR cap ⟨L, M, out⟩ (b :: r) := ⟨_, rfl⟩
  obtain ⟨K, hK⟩ : ∃ K, K = kindN b.toNat := ⟨_, rfl⟩
  have hspec := pieceR_spec (cap := cap) (L := L) (M := M) (out := out) (l := b :: r) (K := K) (by rw [hK]; rfl)
  rw [← hX] at hspec ⊢
  rw [← hK] at hki hko
  have hnum2 := hnum (pfxN K) (by have := @pfx_bd K; omega) (by have := @pfx_bd K; omega)
  have hdl : ((b :: r).drop (getL (pfxN K) (b :: r)).2.1).length ≤ 12000 := by rw [List.length_drop]; omega
  have hgb := getL_bd (k := pfxN K) (by have := @pfx_bd K; omega) (by have := @pfx_bd K; omega) (b :: r)
  generalize (b :: r).drop (getL (pfxN K) (b :: r)).2.1 = m at *
  generalize getL (pfxN K) (b :: r) = G at *
  obtain ⟨n, u, z⟩ := G
  simp only at hspec hnum2 hgb
  have HX := Lib.hid hspec
  have H := Lib.hid h
  clear hR hA hcel h hX hspec hK hnum
  generalize (b :: r).length = ln at *
  unfold pt at *
  have hpo := fun (hk : isKind K) W => prefixOf_any hk W
  go_enter Try.func30, Try.ntmps30
  go_wp2_with fail
  refine (hko _).mono ?_
  rintro e w1 ⟨rfl, rfl⟩
  go_wp2_with fail
  refine (hpo (by unfold isKind; omega) _).mono ?_
  rintro e w1 ⟨rfl, rfl⟩
  go_wp2_with fail
  refine hnum2.mono ?_
  rintro e w1 ⟨rfl, hRs, hF1, hs1⟩
  have HF1 : Hid (Fs (fun k => k = gr ∨ EB gd g v k ∨ ob fw k) w w1) := hF1.mono fun k _ e => .inl e
  have HG1 := Lib.hid (H.out.text hF1 hRs)
  have HS1 := Lib.hid hs1
  clear hRs hF1 H hnum2 hpo hko f0 c1 hs1
  by_cases hz : z = 0
  · subst hz
    have hpfE : Hid (¬ EB gd g v w1.heap.size ∧ ¬ ob fw w1.heap.size ∧ w1.heap.size ≠ gr ∧ base ≤ w1.heap.size) := by
      show _ ∧ _ ∧ _ ∧ _
      have h3 := HG1.out.x.r.lt
      have h4 := HG1.out.x.lo
      exact ⟨fun e => by have := (HG1.out.x.d.eb e).2; omega, fun e => by have := (HG1.out.fwlt e).2; omega, by omega, by omega⟩
    have hb2 := (Below.refl w1.heap.size w1).alloc (Nat.le_refl _) (.cells #[.string ⟨#[]⟩, .string ⟨#[]⟩, .bool false] 52)
    have HG2 := Lib.hid (HG1.out.below hb2)
    have HF2 := Lib.hid (HF1.out.then_below hb2)
    have HP2 := Lib.hid (Row.new w1 52 #[.string ⟨#[]⟩, .string ⟨#[]⟩, .bool false])
    have hs2 : w1.heap.size < (w1.alloc (.cells #[.string ⟨#[]⟩, .string ⟨#[]⟩, .bool false] 52)).heap.size := by simp
    clear hb2
    rcases hki with rfl | rfl | rfl | rfl | rfl
    · -- a field of the table
      have hat := tat_any HG2.out.x.d.t n (by omega) (by have := tot_len L; omega)
      have HX2 : Hid (X = (atT L n).map fun f => (⟨L, M, out ++ [f]⟩, m)) := HX.out.2.2.1 rfl rfl
      have hsz := fun f (e : atT L n = some f) => atT_sz e (by omega)
      obtain ⟨A2, cA2, hR2, _, _, _⟩ := HG2.out.x.r
      have r0 := hR2.cell (j := 0) rfl
      have d0 := HG2.out.x.d.c0
      unfold AtV fv at hat
      unfold tx at hat
      generalize atT L n = Y at *
      clear HX hR2
      unfold pt at *
      cases Y with
      | none =>
        have hX : X = none := HX2.out
        subst hX
        simp only [Option.getD_none, Option.isSome_none] at hat
        go_wp2_with fail
        generalize w1.alloc (.cells #[.string ⟨#[]⟩, .string ⟨#[]⟩, .bool false] 52) = w2 at *
        refine hat.mono ?_
        rintro e w3 ⟨rfl, hb3⟩
        have HF3 := Lib.hid (HF2.out.then_below hb3)
        have hp3 := HP2.out.below hb3 hs2
        have p0 := hp3.cell (j := 0) rfl
        have p1 := hp3.cell (j := 1) rfl
        have p2 := hp3.cell (j := 2) rfl
        have q0 := hp3.thawed 0
        have q1 := hp3.thawed 1
        have q2 := hp3.thawed 2
        have HF6 : Hid (Fs (fun k => k = gr ∨ EB gd g v k ∨ ob fw k) w (((w3.setCell ⟨w1.heap.size, 0, none⟩ (.string ⟨#[]⟩)).setCell ⟨w1.heap.size, 1, none⟩ (.string ⟨#[]⟩)).setCell ⟨w1.heap.size, 2, none⟩ (.bool false))) :=
          ((HF3.out.setCell (fun e => by have := HS1.out; omega) _ _).setCell (fun e => by have := HS1.out; omega) _ _).setCell (fun e => by have := HS1.out; omega) _ _
        clear hb3 hat hp3 HG2 HF2 HP2 HF3
        go_wp2_with fail
        go_ret
        exact ⟨HF6.out, rfl⟩
      | some f =>
        have hX : X = some (⟨L, M, out ++ [f]⟩, m) := HX2.out
        subst hX
        simp only [Option.getD_some, Option.isSome_some] at hat
        go_wp2_with fail
        generalize w1.alloc (.cells #[.string ⟨#[]⟩, .string ⟨#[]⟩, .bool false] 52) = w2 at *
        refine hat.mono ?_
        rintro e w3 ⟨rfl, hb3⟩
        have HF3 := Lib.hid (HF2.out.then_below hb3)
        have HG3 := Lib.hid (HG2.out.below hb3)
        have hp3 := HP2.out.below hb3 hs2
        have p0 := hp3.cell (j := 0) rfl
        have p1 := hp3.cell (j := 1) rfl
        have p2 := hp3.cell (j := 2) rfl
        have q0 := hp3.thawed 0
        have q1 := hp3.thawed 1
        have q2 := hp3.thawed 2
        have HF6 : Hid (Fs (fun k => k = gr ∨ EB gd g v k ∨ ob fw k) w (((w3.setCell ⟨w1.heap.size, 0, none⟩ (.string ⟨f.nm.toArray⟩)).setCell ⟨w1.heap.size, 1, none⟩ (.string ⟨f.vl.toArray⟩)).setCell ⟨w1.heap.size, 2, none⟩ (.bool f.nv))) :=
          ((HF3.out.setCell (fun e => by have := HS1.out; omega) _ _).setCell (fun e => by have := HS1.out; omega) _ _).setCell (fun e => by have := HS1.out; omega) _ _
        have HG6 := Lib.hid (HG3.out.other (pf := w1.heap.size) ((((Fs.refl (fun k => k = w1.heap.size) w3).setCell (fun _ => rfl) 0 (.string ⟨f.nm.toArray⟩)).setCell (fun _ => rfl) 1 (.string ⟨f.vl.toArray⟩)).setCell (fun _ => rfl) 2 (.bool f.nv)) hpfE.out.1 hpfE.out.2.1 hpfE.out.2.2.1 hpfE.out.2.2.2)
        have htk := take_any f (by have := hsz f rfl; omega) HG6.out.x.r HG6.out.x.lts (fun k hk => (HG6.out.x.s k hk).1) HG6.out.x.lo HG6.out.f HG6.out.fr (by omega)
        unfold fv tx pt at htk
        clear hb3 hat hp3 HG2 HF2 HP2 HF3 HG3 hsz
        go_wp2_with fail
        generalize ((w3.setCell ⟨w1.heap.size, 0, none⟩ (.string ⟨f.nm.toArray⟩)).setCell ⟨w1.heap.size, 1, none⟩ (.string ⟨f.vl.toArray⟩)).setCell ⟨w1.heap.size, 2, none⟩ (.bool f.nv) = w6 at *
        refine htk.mono ?_
        intro e w7 he
        obtain ⟨rfl, hP⟩ := PieceE.of HF6.out HG6.out (Nx.refl w v) he
        have HP := Lib.hid hP
        clear hP he htk HF6 HG6
        go_wp2_with fail
        go_ret
        exact HP.out
    · -- a literal, kind 64
      have hkk : ((64 : Nat) == 16) = false := rfl
      have HX2 : Hid (X = (textsR L n false m).map fun p => (⟨addL M p.1 L, M, out ++ [p.1]⟩, p.2)) := HX.out.2.2.2 rfl (by omega) (by omega)
      have hsz := fun f r (e : textsR L n false m = some (f, r)) => textsR_sz e (by omega)
      have HP2b := HP2
      have HG2b := HG2
      have HF2b := HF2
      have hs2b := hs2
      clear HP2 HG2 HF2 hs2
      have htx := texts_any n (by omega) hdl (by have := tot_len L; omega) HG2b.out.x HP2b.out hpfE.out.2.2.2 hpfE.out.2.2.1
      clear HX
      generalize textsR L n false m = Y at *
      unfold pt at *
      go_wp2_with fail
      generalize w1.alloc (.cells #[.string ⟨#[]⟩, .string ⟨#[]⟩, .bool false] 52) = w2 at *
      refine htx.mono ?_
      intro e w3 he
      cases Y with
      | none =>
        have hX : X = none := HX2.out
        subst hX
        obtain ⟨hF, rfl⟩ := he
        have HF3 : Hid (Fs (fun k => k = gr ∨ EB gd g v k ∨ ob fw k) w w3) := HF2b.out.trans hF fun k hk e => by
          rcases e with e | e
          · exact .inl e
          · have := HS1.out; omega
        clear hF htx HF2b
        go_wp2_with fail
        go_ret
        exact ⟨HF3.out, rfl⟩
      | some y =>
        obtain ⟨f, r2⟩ := y
        have hX : X = some (⟨addL M f L, M, out ++ [f]⟩, r2) := HX2.out
        subst hX
        obtain ⟨hF, rfl, hr, hp⟩ := he
        have HF3 : Hid (Fs (fun k => k = gr ∨ EB gd g v k ∨ ob fw k) w w3) := HF2b.out.trans hF fun k hk e => by
          rcases e with e | e
          · exact .inl e
          · have := HS1.out; omega
        have HG3 := Lib.hid (HG2b.out.texts hF hr hpfE.out.1 hpfE.out.2.1)
        have hszf := hsz f r2 rfl
        have hp3 := hp
        have hadd := add_any f (by omega) (by omega) (by omega) (fun x hx => by have := mem_tot hx; omega) (HG3.out.x.d.t.drewN 1)
        obtain ⟨A3, cA3, hR3, _, _, _⟩ := HG3.out.x.r
        have r0 : w3.drew.cell? ⟨gr, 0, none⟩ = some (.pointer (some ⟨gd, 0, none⟩)) := hR3.cell (j := 0) rfl
        have d0 : w3.drew.cell? ⟨gd, 0, none⟩ = some (.pointer (some ⟨g, 0, none⟩)) := HG3.out.x.d.c0
        have f0 : w3.drew.cell? ⟨w1.heap.size, 0, none⟩ = some (.string ⟨f.nm.toArray⟩) := hp3.cell (j := 0) rfl
        have f1 : w3.drew.cell? ⟨w1.heap.size, 1, none⟩ = some (.string ⟨f.vl.toArray⟩) := hp3.cell (j := 1) rfl
        have f2 : w3.drew.cell? ⟨w1.heap.size, 2, none⟩ = some (.bool f.nv) := hp3.cell (j := 2) rfl
        have HP3 := Lib.hid hp3
        have hs3 : w1.heap.size < w3.heap.size := by have := hF.size; omega
        have hszg : sz f ≤ 2147483648 := by omega
        unfold fv tx pt at *
        clear hF hr hp hp3 hR3 htx HF2b HG2b HP2b hsz hszf
        go_wp2_with fail
        go_region_held3 (fun w' => w'.cell? ⟨gr, 0, none⟩ = some (.pointer (some ⟨gd, 0, none⟩)) ∧ w'.cell? ⟨gd, 0, none⟩ = some (.pointer (some ⟨g, 0, none⟩)) ∧ w'.cell? ⟨w1.heap.size, 0, none⟩ = some (.string ⟨f.nm.toArray⟩) ∧ w'.cell? ⟨w1.heap.size, 1, none⟩ = some (.string ⟨f.vl.toArray⟩) ∧ w'.cell? ⟨w1.heap.size, 2, none⟩ = some (.bool f.nv)) (first | exact ⟨k0, k1, k2, k3, k4⟩ | exact ⟨r0, d0, f0, f1, f2⟩)
          ((go_at_call 41; refine hadd.mono ?_; rintro e w4 ⟨rfl, v4, hT4, hF4, hN4⟩; have HF4 : Hid (Fs (fun k => k = g ∨ ob v k) w3 w4) := ((Fs.refl _ w3).drewN 1).trans (Fs.of_fr hF4) fun _ _ h => h; have HN4 : Hid (Nx w3 v v4) := hN4; have HG4 := Lib.hid (HG3.out.add hT4 HF4.out HN4.out); obtain ⟨A4, cA4, hR4, _, _, _⟩ := HG4.out.x.r; have k0 := hR4.cell (j := 0) rfl; have k1 := HG4.out.x.d.c0; have hP4 := HF4.out.row (fun e => hpfE.out.1 (.inr e)) HP3.out; have k2 := hP4.cell (j := 0) rfl; have k3 := hP4.cell (j := 1) rfl; have k4 := hP4.cell (j := 2) rfl; have HP4 := Lib.hid hP4; clear hT4 hF4 hN4 hR4 hP4))
        have HF5 := Lib.hid (HF3.out.trans HF4.out fun k _ e => .inr (.inl (.inr e)))
        have HN5 := Lib.hid ((Nx.refl w v).trans HN4.out HF3.out.size)
        have htk := take_any f hszg HG4.out.x.r HG4.out.x.lts (fun k hk => (HG4.out.x.s k hk).1) HG4.out.x.lo HG4.out.f HG4.out.fr (by omega)
        unfold fv tx pt at htk
        clear hadd HF4 HN4 HG3 HF3 HP3 r0 d0 f0 f1 f2 k0 k1
        go_wp2_with fail
        refine htk.mono ?_
        intro e w7 he
        obtain ⟨rfl, hP⟩ := PieceE.of HF5.out HG4.out HN5.out he
        have HP := Lib.hid hP
        clear hP he htk HF5 HG4
        go_wp2_with fail
        go_ret
        exact HP.out
    · -- a most
      obtain ⟨z0, hz0, hz1⟩ := HG2.out.f.some
      subst hz0
      have hlim := limit_any6 n (by omega) hcap hM hL HG2.out.x
      have HX2 : Hid (X = if out ≠ [] ∨ cap < n then none else some (⟨shr (n : Int) L, n, out⟩, m)) := HX.out.2.1 rfl rfl
      have HZ := Lib.hid hz1
      clear HX hz1
      unfold pt at hlim
      go_wp2_with fail
      generalize w1.alloc (.cells #[.string ⟨#[]⟩, .string ⟨#[]⟩, .bool false] 52) = w2 at *
      refine hlim.mono ?_
      intro e w3 he
      rcases he with ⟨hno, rfl, rfl⟩ | ⟨hno, rfl, v', hRx, hF, hN⟩
      · have hX : X = none := by rw [HX2.out, if_pos (by rcases hno with h1 | h1; exact .inl (HZ.out.1 h1); exact .inr h1)]
        subst hX
        clear hno hlim
        go_wp2_with fail
        go_ret
        exact ⟨HF2.out, rfl⟩
      · have hX : X = some (⟨shr (n : Int) L, n, out⟩, m) := by rw [HX2.out, if_neg (by intro h1; rcases h1 with h1 | h1; exact hno (.inl (HZ.out.2 h1)); exact hno (.inr h1))]
        subst hX
        have HP : Hid (PieceE w base bd S gr gd g v fw cap (some (⟨shr (n : Int) L, n, out⟩, m)) (.returned (.bool true)) w3) := by
          refine ⟨HF2.out.trans hF fun k _ e => .inr (.inl (by rcases e with e | e; exact .inr (.inl e); exact .inr (.inr e))), rfl, v', fw, .int .i64 (z0 : Int), ⟨hRx, HG2.out.f.apart hF fun k hk e => HG2.out.fe k hk (.inr e), HG2.out.fr, fun k hk e => ?_⟩, (Nx.refl w v).trans hN HF2.out.size, Nx.refl w fw⟩
          rcases EB.next hN e with e1 | e1
          · exact HG2.out.fe k hk e1
          · have := (HG2.out.fwlt hk).2; omega
        clear hRx hF hN hno hlim
        go_wp2_with fail
        go_ret
        exact HP.out
    · -- a literal, kind 16
      have hkk : ((16 : Nat) == 16) = true := rfl
      have HX2 : Hid (X = (textsR L n true m).map fun p => (⟨L, M, out ++ [p.1]⟩, p.2)) := HX.out.2.2.2 rfl (by omega) (by omega)
      have hsz := fun f r (e : textsR L n true m = some (f, r)) => textsR_sz e (by omega)
      have hb2 := (Below.refl w1.heap.size w1).alloc (Nat.le_refl _) (.cells #[.string ⟨#[]⟩, .string ⟨#[]⟩, .bool true] 52)
      have HP2b := Lib.hid (Row.new w1 52 #[.string ⟨#[]⟩, .string ⟨#[]⟩, .bool true])
      have HG2b := Lib.hid (HG1.out.below hb2)
      have HF2b := Lib.hid (HF1.out.then_below hb2)
      have hs2b : w1.heap.size < (w1.alloc (.cells #[.string ⟨#[]⟩, .string ⟨#[]⟩, .bool true] 52)).heap.size := by simp
      clear HP2 HG2 HF2 hs2 hb2
      have htx := texts_any n (by omega) hdl (by have := tot_len L; omega) HG2b.out.x HP2b.out hpfE.out.2.2.2 hpfE.out.2.2.1
      clear HX
      generalize textsR L n true m = Y at *
      unfold pt at *
      go_wp2_with fail
      generalize w1.alloc (.cells #[.string ⟨#[]⟩, .string ⟨#[]⟩, .bool true] 52) = w2 at *
      refine htx.mono ?_
      intro e w3 he
      cases Y with
      | none =>
        have hX : X = none := HX2.out
        subst hX
        obtain ⟨hF, rfl⟩ := he
        have HF3 : Hid (Fs (fun k => k = gr ∨ EB gd g v k ∨ ob fw k) w w3) := HF2b.out.trans hF fun k hk e => by
          rcases e with e | e
          · exact .inl e
          · have := HS1.out; omega
        clear hF htx HF2b
        go_wp2_with fail
        go_ret
        exact ⟨HF3.out, rfl⟩
      | some y =>
        obtain ⟨f, r2⟩ := y
        have hX : X = some (⟨L, M, out ++ [f]⟩, r2) := HX2.out
        subst hX
        obtain ⟨hF, rfl, hr, hp⟩ := he
        have HF3 : Hid (Fs (fun k => k = gr ∨ EB gd g v k ∨ ob fw k) w w3) := HF2b.out.trans hF fun k hk e => by
          rcases e with e | e
          · exact .inl e
          · have := HS1.out; omega
        have HG3 := Lib.hid (HG2b.out.texts hF hr hpfE.out.1 hpfE.out.2.1)
        have hszf := hsz f r2 rfl
        have htk := take_any f (by omega) HG3.out.x.r HG3.out.x.lts (fun k hk => (HG3.out.x.s k hk).1) HG3.out.x.lo HG3.out.f HG3.out.fr (by omega)
        have p0 := hp.cell (j := 0) rfl
        have p1 := hp.cell (j := 1) rfl
        have p2 := hp.cell (j := 2) rfl
        unfold fv tx pt at *
        clear hF hr hp htx HF2b HG2b HP2b hsz hszf
        go_wp2_with fail
        refine htk.mono ?_
        intro e w7 he
        obtain ⟨rfl, hP⟩ := PieceE.of HF3.out HG3.out (Nx.refl w v) he
        have HP := Lib.hid hP
        clear hP he htk HF3 HG3
        go_wp2_with fail
        go_ret
        exact HP.out
    · -- a literal, kind 0
      have hkk : ((0 : Nat) == 16) = false := rfl
      have HX2 : Hid (X = (textsR L n false m).map fun p => (⟨L, M, out ++ [p.1]⟩, p.2)) := HX.out.2.2.2 rfl (by omega) (by omega)
      have hsz := fun f r (e : textsR L n false m = some (f, r)) => textsR_sz e (by omega)
      have HP2b := HP2
      have HG2b := HG2
      have HF2b := HF2
      have hs2b := hs2
      clear HP2 HG2 HF2 hs2
      have htx := texts_any n (by omega) hdl (by have := tot_len L; omega) HG2b.out.x HP2b.out hpfE.out.2.2.2 hpfE.out.2.2.1
      clear HX
      generalize textsR L n false m = Y at *
      unfold pt at *
      go_wp2_with fail
      generalize w1.alloc (.cells #[.string ⟨#[]⟩, .string ⟨#[]⟩, .bool false] 52) = w2 at *
      refine htx.mono ?_
      intro e w3 he
      cases Y with
      | none =>
        have hX : X = none := HX2.out
        subst hX
        obtain ⟨hF, rfl⟩ := he
        have HF3 : Hid (Fs (fun k => k = gr ∨ EB gd g v k ∨ ob fw k) w w3) := HF2b.out.trans hF fun k hk e => by
          rcases e with e | e
          · exact .inl e
          · have := HS1.out; omega
        clear hF htx HF2b
        go_wp2_with fail
        go_ret
        exact ⟨HF3.out, rfl⟩
      | some y =>
        obtain ⟨f, r2⟩ := y
        have hX : X = some (⟨L, M, out ++ [f]⟩, r2) := HX2.out
        subst hX
        obtain ⟨hF, rfl, hr, hp⟩ := he
        have HF3 : Hid (Fs (fun k => k = gr ∨ EB gd g v k ∨ ob fw k) w w3) := HF2b.out.trans hF fun k hk e => by
          rcases e with e | e
          · exact .inl e
          · have := HS1.out; omega
        have HG3 := Lib.hid (HG2b.out.texts hF hr hpfE.out.1 hpfE.out.2.1)
        have hszf := hsz f r2 rfl
        have htk := take_any f (by omega) HG3.out.x.r HG3.out.x.lts (fun k hk => (HG3.out.x.s k hk).1) HG3.out.x.lo HG3.out.f HG3.out.fr (by omega)
        have p0 := hp.cell (j := 0) rfl
        have p1 := hp.cell (j := 1) rfl
        have p2 := hp.cell (j := 2) rfl
        unfold fv tx pt at *
        clear hF hr hp htx HF2b HG2b HP2b hsz hszf
        go_wp2_with fail
        refine htk.mono ?_
        intro e w7 he
        obtain ⟨rfl, hP⟩ := PieceE.of HF3.out HG3.out (Nx.refl w v) he
        have HP := Lib.hid hP
        clear hP he htk HF3 HG3
        go_wp2_with fail
        go_ret
        exact HP.out
  · have hX : X = none := HX.out.1 hz
    subst hX
    have hzd : decide (z = 0) = false := by simp [hz]
    go_wp2_with fail
    go_ret
    exact ⟨HF1.out, rfl⟩
end Go.Proofs.Ytfajffchnnalaaa

namespace Go.Proofs.Ytfajffchnnalaaa
open Go.RowKit Go.WideShapes

theorem ret_vf {fn : Func} {p u : Tmp} (h : fn.results = #[.tmp u, .cell p 41]) (tmps : Array Value) (w : World) (g : Nat) (cs : Array Value) (hp : tmps.getD p undef = .pointer (some ⟨g, 0, none⟩)) (hR : Row w g 41 cs) (hc : cs.size = 2) :
    (results fn tmps).run Try.prog w = .ok (.tuple #[tmps.getD u undef, .agg cs]) w := by
  have hl := run_loadVar_row w g 41 41 cs (0, 0) _ hR Try.underlying41 rfl (fault_cells cs hc)
  have hp' : tmps[p]?.getD undef = .pointer (some ⟨g, 0, none⟩) := by simpa using hp
  simp only [results, h]
  simp [Result.andThen, hp', asAddr, hl]

set_option maxRecDepth 100000 in
theorem newD_any (m : Nat) (hm : m < 4294967296) (w : World) (base : Nat) (hb : base ≤ w.heap.size) : Calls Try.prog 12 #[.int .u32 (m : Int)] w fun e w' => ∃ gd g, e = .returned (pt gd) ∧ Dn w' base gd g (.slice none 0 0) [] (min m 4096) (min m 4096) ∧ w.heap.size ≤ gd ∧ w.heap.size ≤ g ∧ Below w.heap.size w w' := by
  have hat := fun W => atMost_any m hm W
  have hmm : min m 4096 < 4294967296 := by omega
  have hnew := fun W => new_any (min m 4096) hmm W
  unfold pt at *
  generalize min m 4096 = M at *
  go_enter Try.func12, Try.ntmps12
  go_wp2_with fail
  refine (hat _).mono ?_
  rintro e w1 ⟨rfl, rfl⟩
  go_wp2_with fail
  refine (hnew _).mono ?_
  rintro e w1 ⟨rfl, hw1⟩
  have hT : Tb w1 base w.heap.size (.slice none 0 0) [] M := by rw [hw1]; exact Tb.new w M hb
  have hW : Below w.heap.size w w1 := by rw [hw1]; exact (Below.refl _ _).alloc (Nat.le_refl _) _
  have hs := hT.lt
  clear hw1 hat hnew
  have HT := Lib.hid hT
  have HW := Lib.hid hW
  clear hT hW
  go_wp2_with fail
  go_ret
  refine ⟨w1.heap.size, w.heap.size, rfl, ⟨HT.out.alloc _, Row.new w1 65 _, by omega, by simp [ob, Value.ownBlock], by omega⟩, by omega, Nat.le_refl _, HW.out.alloc (by omega) _⟩

set_option maxRecDepth 100000 in
theorem dtable_any {w : World} {base gd g : Nat} {v : Value} {L : List Fd} {M cap : Nat} (h : Dn w base gd g v L M cap) : Calls Try.prog 20 #[pt gd] w fun e w' => e = .returned (.int .i64 (tot L : Int)) ∧ w = w' := by
  have c0 := h.c0
  have hts := tsize_any h.t.own
  unfold pt at *
  clear h
  go_enter Try.func20, Try.ntmps20
  go_wp2_with fail
  refine hts.mono ?_
  rintro e w1 ⟨rfl, hw⟩
  subst hw
  go_wp2_with fail
  go_ret
  exact ⟨rfl, rfl⟩

theorem pieceR_inv {cap : Nat} {L : List Fd} {M : Nat} {out : List Fd} {l r : List UInt8} {s : Rd} (h : pieceR cap ⟨L, M, out⟩ l = some (s, r)) (hL : tot L ≤ M) (hM : M ≤ 4096) (hcap : cap ≤ 4096) :
    tot s.tb ≤ s.mx ∧ s.mx ≤ 4096 ∧ r.length < l.length ∧ s.out.length ≤ out.length + 1 := by
  obtain ⟨h1, h2, h3, h4⟩ := pieceR_spec (cap := cap) (L := L) (M := M) (out := out) (l := l) (K := kindN (l.headD 0).toNat) rfl
  generalize kindN (l.headD 0).toNat = K at *
  by_cases hz : (getL (pfxN K) l).2.2 = 0
  · have hu := getL_used hz
    have hdl : (l.drop (getL (pfxN K) l).2.1).length < l.length := by rw [List.length_drop]; omega
    by_cases e1 : K = 32
    · rw [h2 hz e1] at h
      split at h
      · cases h
      · rename_i hno
        injection h with h
        injection h with ha hb
        subst ha hb
        refine ⟨?_, by show (getL (pfxN K) l).1 ≤ 4096; omega, hdl, by show out.length ≤ _; omega⟩
        have := shr_le ((getL (pfxN K) l).1 : Int) (by omega) L
        show tot (shr _ L) ≤ (getL (pfxN K) l).1
        omega
    · by_cases e2 : K = 128
      · rw [h3 hz e2] at h
        cases ha : atT L (getL (pfxN K) l).1 with
        | none => rw [ha] at h; cases h
        | some f =>
          rw [ha] at h
          injection h with h
          injection h with hb hc
          subst hb hc
          exact ⟨hL, hM, hdl, by simp⟩
      · rw [h4 hz e1 e2] at h
        cases ha : textsR L (getL (pfxN K) l).1 (K == 16) (l.drop (getL (pfxN K) l).2.1) with
        | none => rw [ha] at h; cases h
        | some p =>
          obtain ⟨f, r'⟩ := p
          rw [ha] at h
          injection h with h
          injection h with hb hc
          subst hb hc
          have hr := (textsR_rest ha).1
          refine ⟨?_, hM, by show r'.length < _; omega, by simp⟩
          show tot (if K = 64 then addL M f L else L) ≤ M
          split
          · exact addL_le
          · exact hL
  · rw [h1 hz] at h; cases h

/-- What Get answers. -/
def GetE (w : World) (base gd g : Nat) (v : Value) (cap : Nat) (o : Option Rd) (e : Ending) (w' : World) : Prop :=
  Fs (EB gd g v) w w' ∧ match o with
    | none => e = .returned (.tuple #[.slice none 0 0, .agg #[.int .u8 1, .int .u32 9]])
    | some s => (∃ v', Dn w' base gd g v' s.tb s.mx cap ∧ Nx w v v' ∧ tot s.tb ≤ s.mx ∧ s.mx ≤ 4096 ∧
        ((4096 < tot s.out ∧ e = .returned (.tuple #[.slice none 0 0, .agg #[.int .u8 1, .int .u32 11]])) ∨
          (tot s.out ≤ 4096 ∧ ∃ A c, e = .returned (.tuple #[.slice A s.out.length c, .agg #[.int .u8 0, .int .u32 0]]) ∧ OwS w' w.heap.size 52 3 (.slice A s.out.length c) s.out.length (enl fdc s.out) ∧
            ∀ k, ob (.slice A s.out.length c) k → w.heap.size ≤ k ∧ ¬ EB gd g v' k)))

/-- How the loop of Get stands. -/
structure Gt (w2 wr : World) (base bd : Nat) (S : Nat → Prop) (gr gd g : Nat) (v : Value) (cap N : Nat) (R : Option Rd) (fuel : Nat) (s : Rd) (l : List UInt8) (v' fw sv : Value) : Prop where
  rg : Rg wr base bd S gr gd g v' fw sv s.tb s.mx cap l s.out
  eq : blockR cap fuel s l = R
  fu : l.length ≤ fuel
  tm : tot s.tb ≤ s.mx ∧ s.mx ≤ 4096
  ct : s.out.length + l.length ≤ N
  fs : Fs (fun k => k = gr ∨ EB gd g v k) w2 wr
  nv : Nx w2 v v'
  nf : ∀ k, ob fw k → w2.heap.size ≤ k

attribute [local irreducible] tot sz shr pieceR blockR

set_option maxRecDepth 100000 in
set_option maxHeartbeats 4000000 in
theorem get6_any {w : World} {base gd g : Nat} {v : Value} {L : List Fd} {M cap : Nat} {S : Nat → Prop} {A : Option Addr} {c : Nat} {l : List UInt8} (h : Dn w base gd g v L M cap) (hcap : cap ≤ 4096) (hM : M ≤ 4096) (hL : tot L ≤ M) (_hb : base ≤ w.heap.size)
    (hR : RdS w S A (byc l)) (hc : l.length ≤ c) (hS : ∀ k, S k → k < w.heap.size ∧ ¬ EB gd g v k) (hl : l.length ≤ 12000) :
    Calls Try.prog 16 #[pt gd, .slice A l.length c] w (GetE w base gd g v cap (blockR cap l.length ⟨L, M, []⟩ l)) := by
  obtain ⟨R, hRe⟩ : ∃ R, R = blockR cap l.length ⟨L, M, []⟩ l := ⟨_, rfl⟩
  rw [← hRe]
  have hb1 := (Below.refl w.heap.size w).alloc (Nat.le_refl _) (.cells #[.int .u8 0, .int .u32 0] 41)
  have hb2 := (Below.refl (w.heap.size + 1) (w.alloc (.cells #[.int .u8 0, .int .u32 0] 41))).alloc (by simp) (.cells #[pt gd, .slice A l.length c, .slice none 0 0, .int .i64 0] 70)
  have hbb : Below w.heap.size w ((w.alloc (.cells #[.int .u8 0, .int .u32 0] 41)).alloc (.cells #[pt gd, .slice A l.length c, .slice none 0 0, .int .i64 0] 70)) := hb1.trans (hb2.mono (by omega))
  have HB := Lib.hid hbb
  have HRr : Row ((w.alloc (.cells #[.int .u8 0, .int .u32 0] 41)).alloc (.cells #[pt gd, .slice A l.length c, .slice none 0 0, .int .i64 0] 70)) (w.heap.size + 1) 70 #[pt gd, .slice A l.length c, .slice none 0 0, .int .i64 0] := Row.made _ _ _ (by simp)
  have HFr : Hid (Row ((w.alloc (.cells #[.int .u8 0, .int .u32 0] 41)).alloc (.cells #[pt gd, .slice A l.length c, .slice none 0 0, .int .i64 0] 70)) w.heap.size 41 #[.int .u8 0, .int .u32 0]) := (Row.new w 41 #[.int .u8 0, .int .u32 0]).below hb2 (by omega)
  have hs2 : ((w.alloc (.cells #[.int .u8 0, .int .u32 0] 41)).alloc (.cells #[pt gd, .slice A l.length c, .slice none 0 0, .int .i64 0] 70)).heap.size = w.heap.size + 2 := by simp
  have HG0 : Hid (Gt ((w.alloc (.cells #[.int .u8 0, .int .u32 0] 41)).alloc (.cells #[pt gd, .slice A l.length c, .slice none 0 0, .int .i64 0] 70)) ((w.alloc (.cells #[.int .u8 0, .int .u32 0] 41)).alloc (.cells #[pt gd, .slice A l.length c, .slice none 0 0, .int .i64 0] 70)) w.heap.size base S (w.heap.size + 1) gd g v cap l.length R l.length ⟨L, M, []⟩ l v (.slice none 0 0) (.int .i64 0)) := by
    have hSl : ∀ k, S k → k < w.heap.size := fun k hk => (hS k hk).1
    refine ⟨⟨⟨⟨A, c, HRr, hc, hR.keep fun k hk => hbb.block k (hSl k hk), fun e => by have := hSl _ e; omega⟩, h.below hbb, hS, by omega, fun e => by have := (h.eb e).2; omega⟩, ⟨0, rfl, by omega, .inl ⟨tot_nil0.symm, OwS.nil⟩, fun k hk => by simp [ob, Value.ownBlock] at hk⟩, by simp [ob, Value.ownBlock], fun k hk => by simp [ob, Value.ownBlock] at hk⟩, hRe.symm, Nat.le_refl _, ⟨hL, hM⟩, by simp, Fs.refl _ _, Nx.refl _ _, fun k hk => by simp [ob, Value.ownBlock] at hk⟩
  have HEB : Hid (∀ k, EB gd g v k → k < w.heap.size) := fun k hk => (h.eb hk).2
  have hcf9 := fun W => connFault_any 9 W
  have hcf11 := fun W => connFault_any 11 W
  clear h hR hRe hb1 hb2 hbb HRr
  unfold pt at *
  go_enter Try.func16, Try.ntmps16
  go_wp2_with fail
  have hgl : w.heap.size + 1 < ((w.alloc (.cells #[.int .u8 0, .int .u32 0] 41)).alloc (.cells #[.pointer (some ⟨gd, 0, none⟩), .slice A l.length c, .slice none 0 0, .int .i64 0] 70)).heap.size := by simp
  have HS2 := Lib.hid hs2
  clear hs2
  generalize (w.alloc (.cells #[.int .u8 0, .int .u32 0] 41)).alloc (.cells #[.pointer (some ⟨gd, 0, none⟩), .slice A l.length c, .slice none 0 0, .int .i64 0] 70) = w2 at *
  go_loopw [14] (fun _ wr => ∃ (fuel : Nat) (s : Rd) (m : List UInt8) (v' fw sv : Value), Hid (Gt w2 wr w.heap.size base S (w.heap.size + 1) gd g v cap l.length R fuel s m v' fw sv) ∧ Hid (∃ A c, wr.cell? ⟨w.heap.size + 1, 1, none⟩ = some (.slice A m.length c)))
    (fun _ wr => match wr.cell? ⟨w.heap.size + 1, 1, none⟩ with | some (.slice _ n _) => n | _ => 0)
  case atStart => exact ⟨l.length, ⟨L, M, []⟩, l, v, _, _, HG0, by obtain ⟨A, c, h1, _⟩ := HG0.out.rg.x.r; exact ⟨A, c, h1.cell (j := 1) rfl⟩⟩
  case round =>
    clear HG0
    obtain ⟨fuel, s, m, v', fw, sv, hG, hC⟩ := hrel
    obtain ⟨A1, c1, hc1⟩ := hC.out
    have HFr2 : Hid (Row wr w.heap.size 41 #[.int .u8 0, .int .u32 0]) := hG.out.fs.row (fun e => by
      rcases e with e | e
      · omega
      · have := HEB.out _ e; omega) HFr.out
    by_cases hm : m = []
    · -- the end
      subst hm
      have hRs : R = some s := by rw [← hG.out.eq]; exact block_nil _ _ _
      subst hRs
      obtain ⟨A2, c2, hR2, _, _, _⟩ := hG.out.rg.x.r
      obtain ⟨z, rfl, hz, hcs, hfb⟩ := hG.out.rg.f
      have HFF : Hid (Fs (EB gd g v) w wr) := (Fs.of_below (S := EB gd g v) HB.out).trans hG.out.fs fun k hk e => by
        rcases e with e | e
        · omega
        · exact e
      have r2 := hR2.cell (j := 2) rfl
      have r3 := hR2.cell (j := 3) rfl
      have HNv : Hid (Nx w v v') := (Nx.refl w v).trans hG.out.nv (by have := HS2.out; omega)
      by_cases hgt : 4096 < z
      · have hg1 : (4096 : Int) < (z : Int) := by omega
        have hto : 4096 < tot s.out := by rcases hcs with h1 | h1 <;> omega
        clear hcs hR2 hcf9
        go_wp2_with fail
        refine (hcf11 _).mono ?_
        rintro e w4 ⟨rfl, hb4⟩
        have hR4 := HFr2.out.below hb4 HFr2.out.lt
        have HR4 := Lib.hid hR4
        have HD4 := Lib.hid (hG.out.rg.x.d.below hb4)
        have HF4 := Lib.hid (HFF.out.then_below hb4)
        have p0 := hR4.cell (j := 0) rfl
        have p1 := hR4.cell (j := 1) rfl
        have z0 := hR4.thawed 0
        have z1 := hR4.thawed 1
        clear hR4 hb4 hcf11 hc1 r2 r3
        go_wp2_with fail
        refine bodyPost_ret (ret_vf rfl _ _ w.heap.size #[.int .u8 1, .int .u32 11] rfl (Row.stored (Row.stored HR4.out 0 (.int .u8 1)) 1 (.int .u32 11)) rfl) rfl ?_
        have hFs : Fs (fun k => k = w.heap.size) w4 ((w4.setCell ⟨w.heap.size, 0, none⟩ (.int .u8 1)).setCell ⟨w.heap.size, 1, none⟩ (.int .u32 11)) := ((Fs.refl (fun k => k = w.heap.size) w4).setCell (fun _ => rfl) _ _).setCell (fun _ => rfl) _ _
        refine ⟨HF4.out.trans hFs fun k hk e => by omega, v', HD4.out.dis hFs fun k hk e => ?_, HNv.out, hG.out.tm.1, hG.out.tm.2, .inl ⟨hto, rfl⟩⟩
        rcases EB.next hG.out.nv hk with e1 | e1
        · have := HEB.out _ e1; omega
        · have := HS2.out; omega
      · have hg1 : decide ((4096 : Int) < (z : Int)) = false := by simp; omega
        obtain ⟨hzt, hO⟩ : z = tot s.out ∧ OwS wr w.heap.size 52 3 fw s.out.length (enl fdc s.out) := by
          rcases hcs with h1 | h1
          · exact h1
          · exact absurd h1.1 hgt
        have hto : tot s.out ≤ 4096 := by omega
        obtain ⟨A5, c5, rfl, hw1, hw2⟩ := hO.shape
        have HO := Lib.hid hO
        have HZ := Lib.hid hzt
        have p0 := HFr2.out.cell (j := 0) rfl
        have p1 := HFr2.out.cell (j := 1) rfl
        have z0 := HFr2.out.thawed 0
        have z1 := HFr2.out.thawed 1
        clear hcs hR2 hcf9 hcf11 hO hzt
        go_wp2_with fail
        refine bodyPost_ret (ret_vf rfl _ _ w.heap.size #[.int .u8 0, .int .u32 0] rfl (Row.stored (Row.stored HFr2.out 0 (.int .u8 0)) 1 (.int .u32 0)) rfl) rfl ?_
        have hFs : Fs (fun k => k = w.heap.size) wr ((wr.setCell ⟨w.heap.size, 0, none⟩ (.int .u8 0)).setCell ⟨w.heap.size, 1, none⟩ (.int .u32 0)) := ((Fs.refl (fun k => k = w.heap.size) wr).setCell (fun _ => rfl) _ _).setCell (fun _ => rfl) _ _
        refine ⟨HFF.out.trans hFs fun k hk e => by omega, v', hG.out.rg.x.d.dis hFs fun k hk e => ?_, HNv.out, hG.out.tm.1, hG.out.tm.2, .inr ⟨hto, A5, c5, rfl, hFs.owns HO.out fun k hk e => ?_, fun k hk => ⟨?_, hG.out.rg.fe k hk⟩⟩⟩
        · rcases EB.next hG.out.nv hk with e1 | e1
          · have := HEB.out _ e1; omega
          · have := HS2.out; omega
        · have h1 := hG.out.nf k hk
          have h2 := HS2.out
          omega
        · have h1 := hG.out.nf k hk
          have h2 := HS2.out
          omega
    · have h0 : 0 < m.length := List.length_pos_iff.2 hm
      have hml : m.length ≤ 12000 := by have := hG.out.ct; omega
      have hpc := piece_any hG.out.rg hm hml hcap hG.out.tm.2 hG.out.tm.1 (by have := hG.out.ct; omega)
      have hse : (⟨s.tb, s.mx, s.out⟩ : Rd) = s := rfl
      rw [hse] at hpc
      have hbn := block_none (cap := cap) (s := s) hm hG.out.fu
      have hbs := fun s' r n => block_some (cap := cap) (n := n) (s := s) (s' := s') (l := m) (r := r) hm
      have hiv := fun s' r (e : pieceR cap s m = some (s', r)) => pieceR_inv (cap := cap) (L := s.tb) (M := s.mx) (out := s.out) (l := m) (r := r) (s := s') e hG.out.tm.1 hG.out.tm.2 hcap
      generalize pieceR cap s m = P at *
      unfold pt at hpc
      clear hcf11
      go_wp2_with fail
      refine hpc.mono ?_
      intro e w3 he
      cases P with
      | none =>
        obtain ⟨hF, rfl⟩ := he
        have hRn : R = none := by rw [← hG.out.eq]; exact hbn rfl
        subst hRn
        have HFF : Hid (Fs (EB gd g v) w w3) := ((Fs.of_below (S := EB gd g v) HB.out).trans hG.out.fs fun k hk e => by
          rcases e with e | e
          · omega
          · exact e).trans hF fun k hk e => by
          rcases e with e | e | e
          · omega
          · rcases EB.next hG.out.nv e with e1 | e1
            · exact e1
            · have := HS2.out; omega
          · have h1 := hG.out.nf k e; have h2 := HS2.out; omega
        have hR3 := hF.row (fun e => by
          rcases e with e | e | e
          · omega
          · rcases EB.next hG.out.nv e with e1 | e1
            · have := HEB.out _ e1; omega
            · have := HS2.out; omega
          · have h1 := hG.out.nf _ e; have h2 := HS2.out; omega) HFr2.out
        have HR3 := Lib.hid hR3
        clear hF hR3 hpc hbn hbs hiv hG hC hc1
        go_wp2_with fail
        refine (hcf9 _).mono ?_
        rintro e w4 ⟨rfl, hb4⟩
        have hR4 := HR3.out.below hb4 HR3.out.lt
        have HR4 := Lib.hid hR4
        have HF4 := Lib.hid (HFF.out.then_below hb4)
        have p0 := hR4.cell (j := 0) rfl
        have p1 := hR4.cell (j := 1) rfl
        have z0 := hR4.thawed 0
        have z1 := hR4.thawed 1
        clear hR4 hb4 hcf9
        go_wp2_with fail
        refine bodyPost_ret (ret_vf rfl _ _ w.heap.size #[.int .u8 1, .int .u32 9] rfl (Row.stored (Row.stored HR4.out 0 (.int .u8 1)) 1 (.int .u32 9)) rfl) rfl ?_
        have hFs : Fs (fun k => k = w.heap.size) w4 ((w4.setCell ⟨w.heap.size, 0, none⟩ (.int .u8 1)).setCell ⟨w.heap.size, 1, none⟩ (.int .u32 9)) := ((Fs.refl (fun k => k = w.heap.size) w4).setCell (fun _ => rfl) _ _).setCell (fun _ => rfl) _ _
        exact ⟨HF4.out.trans hFs fun k hk e => by omega, rfl⟩
      | some p =>
        obtain ⟨s', r⟩ := p
        obtain ⟨hF, rfl, v'', fw', sv', hRg, hN, hNf⟩ := he
        obtain ⟨i1, i2, i3, i4⟩ := hiv s' r rfl
        obtain ⟨n, hn⟩ : ∃ n, fuel = n + 1 := ⟨fuel - 1, by have := hG.out.fu; omega⟩
        have HG3 : Hid (Gt w2 w3 w.heap.size base S (w.heap.size + 1) gd g v cap l.length R n s' r v'' fw' sv') := by
          refine ⟨hRg, ?_, by have := hG.out.fu; omega, ⟨i1, i2⟩, by have := hG.out.ct; omega, hG.out.fs.trans hF fun k hk e => ?_, hG.out.nv.trans hN hG.out.fs.size, fun k hk => ?_⟩
          · rw [← hG.out.eq, hn]; exact (hbs s' r n rfl).symm
          · rcases e with e | e | e
            · exact .inl e
            · rcases EB.next hG.out.nv e with e1 | e1
              · exact .inr e1
              · omega
            · have h1 := hG.out.nf k e; omega
          · rcases hNf.own hk with h1 | h1
            · exact hG.out.nf k h1
            · have := hG.out.fs.size; omega
        have HC3 : Hid (∃ A c, w3.cell? ⟨w.heap.size + 1, 1, none⟩ = some (.slice A r.length c)) := by obtain ⟨A, c, h1, _⟩ := HG3.out.rg.x.r; exact ⟨A, c, h1.cell (j := 1) rfl⟩
        clear hF hRg hN hNf hpc hbn hbs hiv hG hC
        go_wp2_with fail
        go_roundw
        case rel => exact ⟨n, s', r, v'', fw', sv', HG3, HC3⟩
        case measure =>
          obtain ⟨A3, c3, hc3⟩ := HC3.out
          rw [hc1, hc3]
          exact i3
end Go.Proofs.Ytfajffchnnalaaa
