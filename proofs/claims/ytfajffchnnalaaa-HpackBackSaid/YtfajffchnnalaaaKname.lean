/-
  hpack's decoder in memory; the field of a number, a reading's name and texts, by their contracts. Conditions: at most 12000 bytes, a table of at most 2^31 fields.
-/
import Derived.Test.YtfajffchnnalaaaKnum
import Derived.Test.YtfajffchnnalaaaDat
import Derived.Test.YtfajffchnnalaaaKtwo
namespace Go.Proofs.Ytfajffchnnalaaa
open Go.RowKit Go.WideShapes

/-- The decoder in block gd, its table in block g. -/
structure Dn (w : World) (base gd g : Nat) (v : Value) (L : List Fd) (M cap : Nat) : Prop where
  t : Tb w base g v L M
  d : Row w gd 65 #[pt g, .int .i64 (cap : Int)]
  ne : gd ≠ g
  nv : ¬ ob v gd
  lo : base ≤ gd
section
variable {w w' : World} {base gd g : Nat} {v v' : Value} {L : List Fd} {M cap : Nat} {S : Nat → Prop}
theorem Dn.lt (h : Dn w base gd g v L M cap) : gd < w.heap.size := Row.lt h.d
theorem Dn.vlt (h : Dn w base gd g v L M cap) {k : Nat} (hk : ob v k) : base ≤ k ∧ k < w.heap.size := h.t.row.lt k hk
theorem Dn.eb (h : Dn w base gd g v L M cap) {k : Nat} (hk : EB gd g v k) : base ≤ k ∧ k < w.heap.size := by
  rcases hk with rfl | rfl | hk
  · exact ⟨h.lo, h.lt⟩
  · exact ⟨h.t.low, h.t.lt⟩
  · exact h.vlt hk
theorem Dn.below (h : Dn w base gd g v L M cap) (hb : Below w.heap.size w w') : Dn w' base gd g v L M cap := ⟨h.t.below hb, h.d.below hb h.lt, h.ne, h.nv, h.lo⟩
theorem Dn.dis (h : Dn w base gd g v L M cap) (hF : Fs S w w') (hd : Dis (EB gd g v) S) : Dn w' base gd g v L M cap :=
  ⟨hF.tb h.t (hd _ (.inr (.inl rfl))) fun k hk => hd k (.inr (.inr hk)), hF.row (hd _ (.inl rfl)) h.d, h.ne, h.nv, h.lo⟩
theorem Dn.stepT (h : Dn w base gd g v L M cap) {L' : List Fd} {M' : Nat} (hT : Tb w' base g v' L' M') (hF : Fs (fun k => k = g ∨ ob v k) w w') (hN : Nx w v v') : Dn w' base gd g v' L' M' cap :=
  ⟨hT, hF.row (fun e => by rcases e with e | e; exact h.ne e; exact h.nv e) h.d, h.ne, hN.not h.lt h.nv, h.lo⟩
theorem Dn.c0 (h : Dn w base gd g v L M cap) : w.cell? ⟨gd, 0, none⟩ = some (pt g) := h.d.cell (j := 0) rfl
theorem Dn.c1 (h : Dn w base gd g v L M cap) : w.cell? ⟨gd, 1, none⟩ = some (.int .i64 (cap : Int)) := h.d.cell (j := 1) rfl
end

/-- What At answers. -/
def AtV (o : Option Fd) : Value := .tuple #[fv (o.getD ⟨[], [], false⟩), .bool o.isSome]
theorem tat_any {w : World} {base g : Nat} {v : Value} {L : List Fd} {M : Nat} (h : Tb w base g v L M) (n : Nat) (hn : n ≤ 1099511627776) (hL : L.length ≤ 2147483648) :
    Calls Try.prog 46 #[pt g, .int .i64 (n : Int)] w fun e w' => e = .returned (AtV (atT L n)) ∧ Below w.heap.size w w' := by
  unfold atT AtV
  by_cases h0 : n = 0
  · subst h0
    exact (tat_low (pt g) 0 (by omega) w).mono fun e w' he => he
  · rw [if_neg h0]
    by_cases h1 : n ≤ 61
    · rw [if_pos h1]
      obtain ⟨k, rfl⟩ : ∃ k, n = k + 1 := ⟨n - 1, by omega⟩
      have := tat_known (pt g) k (by omega) w
      rw [show ((k + 1 : Nat) : Int) = (k : Int) + 1 by omega]
      exact this.mono fun e w' he => he
    · rw [if_neg h1]
      by_cases h2 : n - 62 < L.length
      · obtain ⟨i, rfl⟩ : ∃ i, n = 62 + i := ⟨n - 62, by omega⟩
        have hi : i < L.length := by omega
        have := tat_dyn h i hi hL
        rw [show 62 + i - 62 = i by omega, List.getElem?_eq_getElem (by simpa using hi), List.getElem_reverse]
        rw [show ((62 + i : Nat) : Int) = 62 + (i : Int) by omega]
        exact this.mono fun e w' he => he
      · rw [List.getElem?_eq_none (by simp; omega)]
        exact (tat_far h (n : Int) (by omega) (by omega)).mono fun e w' he => he

/-- A reading and its decoder, apart. -/
structure Rx (w : World) (base bd : Nat) (S : Nat → Prop) (gr gd g : Nat) (v fw sv : Value) (L : List Fd) (M cap : Nat) (l : List UInt8) : Prop where
  r : Rs w S gr (pt gd) fw sv l
  d : Dn w bd gd g v L M cap
  s : ∀ k, S k → k < base ∧ ¬ EB gd g v k
  lo : base ≤ gr
  ap : ¬ EB gd g v gr

theorem Rx.text {w w' : World} {base bd : Nat} {S : Nat → Prop} {gr gd g : Nat} {v fw sv : Value} {L : List Fd} {M cap : Nat} {l l' : List UInt8} (h : Rx w base bd S gr gd g v fw sv L M cap l) (hF : Fs (fun k => k = gr) w w') (hr : Rs w' S gr (pt gd) fw sv l') : Rx w' base bd S gr gd g v fw sv L M cap l' :=
  ⟨hr, h.d.dis hF fun k hk e => h.ap (by rw [← e]; exact hk), h.s, h.lo, h.ap⟩
theorem Rx.lts {w : World} {base bd : Nat} {S : Nat → Prop} {gr gd g : Nat} {v fw sv : Value} {L : List Fd} {M cap : Nat} {l : List UInt8} (h : Rx w base bd S gr gd g v fw sv L M cap l) : ∀ k, S k → k < w.heap.size := fun k hk => by
  have := (h.s k hk).1
  have := h.lo
  have := h.r.lt
  omega
theorem Rx.below {w w' : World} {base bd : Nat} {S : Nat → Prop} {gr gd g : Nat} {v fw sv : Value} {L : List Fd} {M cap : Nat} {l : List UInt8} (h : Rx w base bd S gr gd g v fw sv L M cap l) (hb : Below w.heap.size w w') : Rx w' base bd S gr gd g v fw sv L M cap l :=
  ⟨h.r.below hb h.lts, h.d.below hb, h.s, h.lo, h.ap⟩

attribute [local irreducible] getL decL textR atT tot sz shr

set_option maxRecDepth 100000 in
set_option maxHeartbeats 1000000 in
theorem name_any {w : World} {base bd : Nat} {S : Nat → Prop} {gr gd g : Nat} {v fw sv : Value} {L : List Fd} {M cap : Nat} {l : List UInt8} (n : Nat) (hn : n ≤ 268435456) (hl : l.length ≤ 12000) (hL : L.length ≤ 2147483648) (h : Rx w base bd S gr gd g v fw sv L M cap l) :
    Calls Try.prog 64 #[pt gr, .int .i64 (n : Int)] w (TextE w S gr (pt gd) fw sv (nameR L n l)) := by
  by_cases h0 : n = 0
  · subst h0
    have htx := text_any hl h.r h.lts
    unfold nameR
    rw [if_pos rfl]
    generalize textR l = X at *
    unfold pt at *
    have HX : Hid (TextE w S gr (.pointer (some ⟨gd, 0, none⟩)) fw sv X = TextE w S gr (.pointer (some ⟨gd, 0, none⟩)) fw sv X) := rfl
    go_enter Try.func64, Try.ntmps64
    go_wp2_with fail
    refine htx.mono ?_
    intro e w1 he
    cases X with
    | none =>
      obtain ⟨hF, s, rfl⟩ := he
      go_wp2_with fail
      go_ret2
      exact ⟨hF, s, rfl⟩
    | some x =>
      obtain ⟨a, r⟩ := x
      obtain ⟨hF, rfl, hr⟩ := he
      unfold tx
      have HF := Lib.hid hF
      have HR := Lib.hid hr
      clear hF hr
      go_wp2_with fail
      go_ret2
      exact ⟨HF.out, rfl, HR.out⟩
  · have hat := tat_any h.d.t n (by omega) hL
    obtain ⟨A, c, hR, hc, hA, hns⟩ := h.r
    have r0 := hR.cell (j := 0) rfl
    have d0 := h.d.c0
    have hz : ((n : Int) == 0) = false := by rw [beq_eq_false_iff_ne]; omega
    have HH := Lib.hid h
    unfold nameR
    rw [if_neg h0]
    unfold AtV at hat
    obtain ⟨X, hX⟩ : ∃ X, X = atT L n := ⟨_, rfl⟩
    rw [← hX] at hat ⊢
    have HX := Lib.hid hX
    clear hX h hR hA
    unfold pt fv tx at *
    cases X with
    | none =>
      simp only [Option.getD_none, Option.isSome_none] at hat
      go_enter Try.func64, Try.ntmps64
      go_wp2_with fail
      refine hat.mono ?_
      rintro e w1 ⟨rfl, hb1⟩
      have HB1 := Lib.hid hb1
      clear hb1 hat
      go_wp2_with fail
      go_ret2
      exact ⟨Fs.of_below (HB1.out.alloc HB1.out.size _), _, rfl⟩
    | some f =>
      simp only [Option.getD_some, Option.isSome_some] at hat
      go_enter Try.func64, Try.ntmps64
      go_wp2_with fail
      refine hat.mono ?_
      rintro e w1 ⟨rfl, hb1⟩
      have HB1 := Lib.hid hb1
      clear hb1 hat
      go_wp2_with fail
      go_ret2
      exact ⟨Fs.of_below (HB1.out.alloc HB1.out.size _), rfl, (HH.out.below (HB1.out.alloc HB1.out.size _)).r⟩
end Go.Proofs.Ytfajffchnnalaaa
