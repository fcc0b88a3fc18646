/-
  What a decoder's Get and the document's Get answer, in one form for all ways; the decoder and the document's decoder side by side. Over plain worlds. Conditions: those that each theorem names.
  The document's decoder: New, kind, text, literal, by their contracts. Conditions: blocks of at most 12000 bytes.
  The document's literal, by its contract. Conditions: blocks of at most 12000 bytes.
  The document's field, by its contract. Conditions: blocks of at most 12000 bytes, a most of at most 4096.
  The document's Get of a block, by its contract. Conditions: blocks of at most 12000 bytes, a most of at most 4096.
-/
import Derived.Test.YtfajffchnnalaaaKname
import Derived.Test.YtfajffchnnalaaaMRa
import Derived.Test.YtfajffchnnalaaaMRb
import Derived.Test.YtfajffchnnalaaaKback
import Derived.Test.YtfajffchnnalaaaMKg
import Derived.Deep.RegionHeld
import Derived.Deep.RegionHeld3
import Derived.Test.YtfajffchnnalaaaKtwo

namespace Go.Proofs.Ytfajffchnnalaaa
open Go.RowKit Go.WideShapes

/-- The document's decoder, by value: its table, its cap. -/
def dv (A : Option Addr) (n c M cap : Nat) : Value := .agg #[.slice A n c, .int .i64 (M : Int), .int .i64 (cap : Int)]
theorem d6_size : (Try.prog.info? 35).map (·.size) = some 3 := by kernel_rfl
theorem d6_cells (cs : Array Value) (h : cs.size = 3) : (Try.prog.info? 35).map (·.size) = some cs.size := by rw [h]; exact d6_size

set_option maxRecDepth 100000 in
theorem rnew6_any (m : Nat) (hm : m < 4294967296) (w : World) : Calls Try.prog 13 #[.int .u32 (m : Int)] w fun e w' => e = .returned (dv none 0 0 (min m 4096) (min m 4096)) ∧ Below w.heap.size w w' := by
  have h : min (m : Int) 4096 = ((min m 4096 : Nat) : Int) := by omega
  have hb : ((min m 4096 : Nat) : Int) ≤ 4096 := by omega
  unfold dv
  generalize min m 4096 = M at *
  go_enter Try.func13, Try.ntmps13
  go_wp2_with fail
  refine bodyPost_ret (ret_row rfl Try.underlying35 _ _ w.heap.size #[.slice none 0 0, .int .i64 (M : Int), .int .i64 (M : Int)] rfl ?_ (d6_cells _ rfl)) rfl ⟨rfl, ?_⟩
  · exact Row.new w _ _
  · exact (Below.refl _ _).alloc (Nat.le_refl _) _

/-- The document's number of a kind. -/
def kindR (b : Nat) : Nat := if 128 ≤ b then 0 else if 64 ≤ b then 1 else if 32 ≤ b then 2 else if 16 ≤ b then 3 else 4
theorem rkind6_any (b : Nat) (w : World) : Calls Try.prog 31 #[.int .u8 (b : Int)] w fun e w' => e = .returned (.int .i64 (kindR b : Int)) ∧ w = w' := by
  obtain ⟨K, hK⟩ : ∃ K, K = kindR b := ⟨_, rfl⟩
  have HK := Lib.hid hK
  rw [← hK]
  clear hK
  by_cases h1 : 128 ≤ b
  · have hk : K = 0 := by rw [HK.out]; unfold kindR; repeat (first | omega | split)
    subst hk
    have d1 : decide ((128 : Int) ≤ (b : Int)) = true := by simp; omega
    have e1 : decide (128 ≤ b) = true := by simp; omega
    go_enter Try.func31, Try.ntmps31
    go_wp2_with fail
    go_ret
    exact ⟨rfl, rfl⟩
  · have d1 : decide ((128 : Int) ≤ (b : Int)) = false := by simp; omega
    by_cases h2 : 64 ≤ b
    · have hk : K = 1 := by rw [HK.out]; unfold kindR; repeat (first | omega | split)
      subst hk
      have d2 : decide ((64 : Int) ≤ (b : Int)) = true := by simp; omega
      go_enter Try.func31, Try.ntmps31
      go_wp2_with fail
      go_ret
      exact ⟨rfl, rfl⟩
    · have d2 : decide ((64 : Int) ≤ (b : Int)) = false := by simp; omega
      by_cases h3 : 32 ≤ b
      · have hk : K = 2 := by rw [HK.out]; unfold kindR; repeat (first | omega | split)
        subst hk
        have d3 : decide ((32 : Int) ≤ (b : Int)) = true := by simp; omega
        go_enter Try.func31, Try.ntmps31
        go_wp2_with fail
        go_ret
        exact ⟨rfl, rfl⟩
      · have d3 : decide ((32 : Int) ≤ (b : Int)) = false := by simp; omega
        by_cases h4 : 16 ≤ b
        · have hk : K = 3 := by rw [HK.out]; unfold kindR; repeat (first | omega | split)
          subst hk
          have d4 : decide ((16 : Int) ≤ (b : Int)) = true := by simp; omega
          go_enter Try.func31, Try.ntmps31
          go_wp2_with fail
          go_ret
          exact ⟨rfl, rfl⟩
        · have hk : K = 4 := by rw [HK.out]; unfold kindR; repeat (first | omega | split)
          subst hk
          have d4 : decide ((16 : Int) ≤ (b : Int)) = false := by simp; omega
          go_enter Try.func31, Try.ntmps31
          go_wp2_with fail
          go_ret
          exact ⟨rfl, rfl⟩

/-- 's[a + u : a + u + n]', where it reads as bytes. -/
theorem cut_mid {w : World} {B : Nat} {A : Option Addr} {l : List UInt8} {c a u n : Nat} (h : RdB w B A l) (hc : l.length ≤ c) (hp : a + u + n ≤ l.length) :
    ∃ A', (∀ W, (Instr.slice 38 (.slice A l.length c) (some (.int .i64 ((a : Int) + u))) (some (.int .i64 ((a : Int) + u + n))) none).run Try.prog W = .ok (.slice A' n (c - (a + u))) W) ∧ RdB w B A' ((l.drop (a + u)).take n) := by
  obtain ⟨i0, hi0, hz0, hz1, hz2⟩ := info_parts u8_info
  have ht' : Try.prog.underlying 38 = some (.slice (Try.prog.elem 38)) := by simp [Program.elem, Try.underlying38]
  have he : Try.prog.elem 38 = 5 := by simp [Program.elem, Try.underlying38]
  have e1 : ((a : Int) + u).toNat = a + u := by omega
  have e2 : ((a : Int) + u + n).toNat = a + u + n := by omega
  refine ⟨if c = a + u then A else A.map (·.add (a + u)), fun W => ?_, fun hne => ?_⟩
  · rw [run_slice_lh W 38 A l.length c ht' .i64 .i64 ((a : Int) + u) ((a : Int) + u + n) (by omega) (by omega) (by omega), he]
    simp [sizeOf, typeInfo, hi0, hz1, sliced, Result.andThen, e1, e2]
  · have hlt : a + u < l.length := by
      rcases Nat.lt_or_ge (a + u) l.length with h1 | h1
      · exact h1
      · rw [List.drop_of_length_le h1] at hne; simp at hne
    obtain ⟨g, o, rfl, hg, hcell⟩ := h (by rintro rfl; simp at hlt)
    refine ⟨g, o + (a + u), by rw [if_neg (by omega)]; simp [add_plain], hg, fun j hj => ?_⟩
    rw [List.getElem_take, List.getElem_drop]
    have := hcell (a + u + j) (by simp at hj; omega)
    simpa [Nat.add_assoc] using this

theorem three_eq {a b : Value} {m n : Int} {s t : Bool} (h1 : a = b) (h2 : m = n) (h3 : s = t) : Ending.returned (.tuple #[a, .int .i64 m, .bool s]) = .returned (.tuple #[b, .int .i64 n, .bool t]) := by rw [h1, h2, h3]
/-- What the document's text answers: the text and where it ends. -/
def RtE (l : List UInt8) (o : Option (List UInt8 × List UInt8)) (e : Ending) : Prop := match o with
  | none => ∃ s n, e = .returned (.tuple #[.string s, .int .i64 n, .bool false])
  | some (a, r) => ∃ p : Nat, e = .returned (.tuple #[tx a, .int .i64 (p : Int), .bool true]) ∧ l.drop p = r ∧ p ≤ l.length

attribute [local irreducible] getL decL

set_option maxRecDepth 100000 in
set_option maxHeartbeats 2000000 in
theorem rtext_any {w : World} {A : Option Addr} {c at_ : Nat} {l : List UInt8} (hl : l.length ≤ 12000) (hc : l.length ≤ c) (hr : RdB w w.heap.size A l) (ha : at_ ≤ l.length) :
    Calls Try.prog 67 #[.slice A l.length c, .int .i64 (at_ : Int)] w fun e w' => RtE l (textR (l.drop at_)) e ∧ Below w.heap.size w w' := by
  obtain ⟨i0, hi0, hz0, hz1, hz2⟩ := info_parts u8_info
  obtain ⟨A2, hfr, hr2⟩ := cut_from (P := Try.prog) Try.underlying38 hi0 hz1 hr hc ha
  have hdl : (l.drop at_).length = l.length - at_ := List.length_drop
  have hget := rget_any 7 (by omega) (by omega) A2 (c - at_) (l.drop at_) (by omega) w w.heap.size hr2
  rw [hdl] at hget
  unfold Three at hget
  have hu : (getL 7 (l.drop at_)).2.2 = 0 → 1 ≤ (getL 7 (l.drop at_)).2.1 ∧ (getL 7 (l.drop at_)).2.1 ≤ l.length - at_ := fun h => by have := getL_used h; omega
  have hbd := getL_bd (k := 7) (by omega) (by omega) (l.drop at_)
  have HTx : Hid (textR (l.drop at_) = if (getL 7 (l.drop at_)).2.2 ≠ 0 then none else if ((l.drop at_).drop (getL 7 (l.drop at_)).2.1).length < (getL 7 (l.drop at_)).1 then none
      else if hiB (l.drop at_) then (match decL (((l.drop at_).drop (getL 7 (l.drop at_)).2.1).take (getL 7 (l.drop at_)).1) with
        | none => none
        | some s => some (s, ((l.drop at_).drop (getL 7 (l.drop at_)).2.1).drop (getL 7 (l.drop at_)).1))
      else some (((l.drop at_).drop (getL 7 (l.drop at_)).2.1).take (getL 7 (l.drop at_)).1, ((l.drop at_).drop (getL 7 (l.drop at_)).2.1).drop (getL 7 (l.drop at_)).1)) := rfl
  obtain ⟨X, hX⟩ : ∃ X, X = textR (l.drop at_) := ⟨_, rfl⟩
  obtain ⟨t, ht⟩ : ∃ t, t = hiB (l.drop at_) := ⟨_, rfl⟩
  rw [← hX] at HTx ⊢
  rw [← ht] at HTx
  rw [List.drop_drop] at HTx
  generalize getL 7 (l.drop at_) = G at *
  obtain ⟨n, u, z⟩ := G
  simp only at hget hu hbd HTx
  unfold RtE tx
  go_enter Try.func67, Try.ntmps67
  go_wp2_with fail
  refine hget.mono ?_
  rintro e w1 ⟨rfl, rfl⟩
  by_cases hz : z = 0
  · subst hz
    have hu0 := hu rfl
    by_cases hlt : l.length < at_ + u + n
    · have hXn : X = none := by rw [HTx.out, if_neg (by omega), if_pos (by rw [List.length_drop]; omega)]
      subst hXn
      have hd1 : (l.length : Int) < (at_ : Int) + u + n := by omega
      have hd2 : decide (l.length < at_ + u + n) = true := by simp; omega
      go_wp2_with fail
      go_ret3
      exact ⟨⟨_, _, rfl⟩, Below.refl _ _⟩
    · have hd1 : decide ((l.length : Int) < (at_ : Int) + u + n) = false := by simp; omega
      have hd2 : decide (l.length < at_ + u + n) = false := by simp; omega
      obtain ⟨A3, hmid, hr3⟩ := cut_mid (n := n) hr hc (show at_ + u + n ≤ l.length by omega)
      have hal : at_ < l.length := by omega
      obtain ⟨g, o, hAe, hg, hcell⟩ := hr (by rintro rfl; simp at hal)
      have f0 := hcell at_ hal
      have htl : ((l.drop (at_ + u)).take n).length = n := by rw [List.length_take, List.length_drop]; omega
      have hT : t = decide (128 ≤ l[at_].toNat) := by rw [ht, List.drop_eq_getElem_cons hal]; rfl
      have hdd : (l.drop (at_ + u)).drop n = l.drop (at_ + u + n) := List.drop_drop
      have HX : Hid (X = if t then (match decL ((l.drop (at_ + u)).take n) with
        | none => none
        | some s => some (s, l.drop (at_ + u + n)))
      else some ((l.drop (at_ + u)).take n, l.drop (at_ + u + n))) := by
        show _ = _
        rw [HTx.out, if_neg (by omega), if_neg (by rw [List.length_drop]; omega), hdd]
      have htx := run_text (P := Try.prog) (c := c - (at_ + u)) Try.underlying38 Try.underlying5 Try.underlying9 hr3
      rw [htl] at htx
      have hdc := rdec_any A3 (c - (at_ + u)) ((l.drop (at_ + u)).take n) (by omega) w hr3
      rw [htl] at hdc
      subst hAe
      have hb := l[at_].toNat_lt
      have hpos : ((at_ + u + n : Nat) : Int) = (at_ : Int) + u + n := by omega
      have HPos := Lib.hid hpos
      have hz1' : ((0 : Nat) : Int) = 0 := rfl
      generalize l[at_].toNat = bb at *
      generalize (l.drop (at_ + u)).take n = mt at *
      clear hdl hr2 hcell ht HTx hdd hr3 hpos hr hget hfr
      by_cases hbb : bb < 128
      · have ht0 : t = false := by rw [hT]; simp; omega
        subst ht0
        have hXs : X = some (mt, l.drop (at_ + u + n)) := HX.out
        subst hXs
        have hb1 : decide ((bb : Int) < 128) = true := by simp; omega
        clear hT hdc HX
        go_wp2_with fail
        go_ret3
        refine ⟨⟨at_ + u + n, three_eq rfl HPos.out.symm rfl, rfl, by omega⟩, Below.refl _ _⟩
      · have ht0 : t = true := by rw [hT]; simp; omega
        subst ht0
        have hb1 : decide ((bb : Int) < 128) = false := by simp; omega
        have HX2 : Hid (X = match decL mt with
          | none => none
          | some s => some (s, l.drop (at_ + u + n))) := HX.out
        clear hT htx HX
        generalize decL mt = D at *
        unfold DecE at hdc
        cases D with
        | none =>
          have hXs : X = none := HX2.out
          subst hXs
          simp only [Option.isSome_none, Option.getD_none] at hdc
          go_wp2_with fail
          refine hdc.mono ?_
          rintro e w3 ⟨rfl, hb3⟩
          have HB3 := Lib.hid hb3
          clear hb3 hdc
          go_wp2_with fail
          go_ret3
          exact ⟨⟨_, _, rfl⟩, HB3.out⟩
        | some x =>
          have hXs : X = some (x, l.drop (at_ + u + n)) := HX2.out
          subst hXs
          simp only [Option.isSome_some, Option.getD_some] at hdc
          go_wp2_with fail
          refine hdc.mono ?_
          rintro e w3 ⟨rfl, hb3⟩
          have HB3 := Lib.hid hb3
          clear hb3 hdc
          go_wp2_with fail
          go_ret3
          exact ⟨⟨at_ + u + n, three_eq rfl HPos.out.symm rfl, rfl, by omega⟩, HB3.out⟩
  · have hXn : X = none := by rw [HTx.out, if_pos hz]
    subst hXn
    have hzi : ((z : Int) == 0) = false := by rw [beq_eq_false_iff_ne]; omega
    have hzi2 : ((z : Int) != 0) = true := by unfold bne; rw [hzi]; rfl
    go_wp2_with fail
    go_ret3
    exact ⟨⟨_, _, rfl⟩, Below.refl _ _⟩
end Go.Proofs.Ytfajffchnnalaaa

namespace Go.Proofs.Ytfajffchnnalaaa
open Go.RowKit Go.WideShapes

theorem ret_lit {fn : Func} {p u v : Tmp} (h : fn.results = #[.cell p 52, .tmp u, .tmp v]) (tmps : Array Value) (w : World) (g : Nat) (cs : Array Value) (hp : tmps.getD p undef = .pointer (some ⟨g, 0, none⟩)) (hR : Row w g 52 cs) (hc : cs.size = 3) :
    (results fn tmps).run Try.prog w = .ok (.tuple #[.agg cs, tmps.getD u undef, tmps.getD v undef]) w := by
  have hl := run_loadVar_row w g 52 52 cs (0, 0) _ hR Try.underlying52 rfl (field_cells cs hc)
  have hp' : tmps[p]?.getD undef = .pointer (some ⟨g, 0, none⟩) := by simpa using hp
  simp only [results, h]
  simp [Result.andThen, hp', asAddr, hl]

/-- The document's At, over any number. -/
theorem rtat_any {w : World} {A : Option Addr} {c M : Nat} {L : List Fd} (hR : RdS w (· < w.heap.size) A (enl fdc L.reverse)) (n : Nat) (hn : n ≤ 1099511627776) (hL : L.length ≤ 2147483648) :
    Calls Try.prog 51 #[tv A L.reverse.length c M, .int .i64 (n : Int)] w fun e w' => e = .returned (AtV (atT L n)) ∧ Below w.heap.size w w' := by
  unfold atT AtV
  by_cases h0 : n = 0
  · subst h0
    exact (rtat_low 0 (by omega)).mono fun e w' he => he
  · rw [if_neg h0]
    by_cases h1 : n ≤ 61
    · rw [if_pos h1]
      obtain ⟨k, rfl⟩ : ∃ k, n = k + 1 := ⟨n - 1, by omega⟩
      have := rtat_known (w := w) (A := A) (n := L.reverse.length) (c := c) (M := M) k (by omega)
      rw [show ((k + 1 : Nat) : Int) = (k : Int) + 1 by omega]
      exact this.mono fun e w' he => he
    · rw [if_neg h1]
      by_cases h2 : n - 62 < L.reverse.length
      · obtain ⟨i, rfl⟩ : ∃ i, n = 62 + i := ⟨n - 62, by omega⟩
        have hi : i < L.reverse.length := by omega
        have := rtat_dyn (c := c) (M := M) hR i hi (by simpa using hL)
        rw [show 62 + i - 62 = i by omega, List.getElem?_eq_getElem hi]
        rw [show ((62 + i : Nat) : Int) = 62 + (i : Int) by omega]
        exact this.mono fun e w' he => he
      · rw [List.getElem?_eq_none (by omega)]
        exact (rtat_far (n : Int) (by omega) (by omega)).mono fun e w' he => he

/-- A literal whose number has so many bits. -/
def litR (L : List Fd) (k : Nat) (m : List UInt8) : Option (Fd × List UInt8) := if (getL k m).2.2 ≠ 0 then none else textsR L (getL k m).1 false (m.drop (getL k m).2.1)
/-- What the document's literal answers: the field and where it ends. -/
def LitE (l : List UInt8) (o : Option (Fd × List UInt8)) (e : Ending) : Prop := match o with
  | none => ∃ f n, e = .returned (.tuple #[fv f, .int .i64 n, .bool false])
  | some (f, r) => ∃ p : Nat, e = .returned (.tuple #[fv f, .int .i64 (p : Int), .bool true]) ∧ l.drop p = r ∧ p ≤ l.length
theorem textsR_0 {L : List Fd} {l : List UInt8} : textsR L 0 false l = (match textR l with
    | none => none
    | some (a, r) => match textR r with
      | none => none
      | some (b, r') => some (⟨a, b, false⟩, r')) := rfl
theorem textsR_n {L : List Fd} {n : Nat} {l : List UInt8} (h : n ≠ 0) : textsR L n false l = (match atT L n with
    | none => none
    | some g => match textR l with
      | none => none
      | some (b, r') => some (⟨g.nm, b, false⟩, r')) := by
  unfold textsR nameR
  rw [if_neg h]
  cases atT L n <;> rfl

attribute [local irreducible] getL decL textR atT tot sz shr textsR

def zeroF : Array Value := #[.string ⟨#[]⟩, .string ⟨#[]⟩, .bool false]

set_option maxRecDepth 100000 in
set_option maxHeartbeats 4000000 in
theorem rliteral_any {w : World} {A B : Option Addr} {c d at_ M cap : Nat} {l : List UInt8} {L : List Fd} (k : Nat) (h1 : 1 ≤ k) (h8 : k ≤ 8) (hl : l.length ≤ 12000) (hc : l.length ≤ c) (hr : RdB w w.heap.size A l) (ha : at_ ≤ l.length)
    (hT : RdS w (· < w.heap.size) B (enl fdc L.reverse)) (hL : L.length ≤ 2147483648) :
    Calls Try.prog 52 #[dv B L.reverse.length d M cap, .slice A l.length c, .int .i64 (at_ : Int), .int .i64 (k : Int)] w fun e w' => LitE l (litR L k (l.drop at_)) e ∧ Below w.heap.size w w' := by
  obtain ⟨i0, hi0, hz0, hz1, hz2⟩ := info_parts u8_info
  obtain ⟨A2, hfr, hr2⟩ := cut_from (P := Try.prog) Try.underlying38 hi0 hz1 hr hc ha
  have hdl : (l.drop at_).length = l.length - at_ := List.length_drop
  have hget := fun W (h : Below w.heap.size w W) => rget_any k h1 h8 A2 (c - at_) (l.drop at_) (by omega) W W.heap.size ((hr2.below h).more h.size)
  rw [hdl] at hget
  unfold Three at hget
  have hu : (getL k (l.drop at_)).2.2 = 0 → (getL k (l.drop at_)).2.1 ≤ l.length - at_ := fun h => by have := (getL_used h).2; omega
  have hbd := getL_bd h1 h8 (l.drop at_)
  have HTx : Hid (litR L k (l.drop at_) = if (getL k (l.drop at_)).2.2 ≠ 0 then none else textsR L (getL k (l.drop at_)).1 false ((l.drop at_).drop (getL k (l.drop at_)).2.1)) := rfl
  rw [List.drop_drop] at HTx
  obtain ⟨X, hX⟩ : ∃ X, X = litR L k (l.drop at_) := ⟨_, rfl⟩
  rw [← hX] at HTx ⊢
  generalize getL k (l.drop at_) = G at *
  obtain ⟨n, u, z⟩ := G
  simp only at hget hu hbd HTx
  have htx : ∀ (W : World) (p : Nat), Below w.heap.size w W → p ≤ l.length → Calls Try.prog 67 #[.slice A l.length c, .int .i64 (p : Int)] W fun e w' => RtE l (textR (l.drop p)) e ∧ Below W.heap.size W w' := fun W p hW hp => rtext_any hl hc ((hr.below hW).more hW.size) hp
  have hat : ∀ (W : World), Below w.heap.size w W → Calls Try.prog 51 #[tv B L.reverse.length d M, .int .i64 (n : Int)] W fun e w' => e = .returned (AtV (atT L n)) ∧ Below W.heap.size W w' := fun W hW => rtat_any (hT.up hW) n (by omega) hL
  have hs0 := (Below.refl w.heap.size w)
  have hW1 := hs0.alloc (Nat.le_refl _) (.cells #[.slice B L.reverse.length d, .int .i64 (M : Int), .int .i64 (cap : Int)] 35)
  have hW2 := hW1.alloc (by simp) (.cells zeroF 52)
  have hW3 := hW2.alloc (by simp; omega) (.cells zeroF 52)
  have HW := Lib.hid hW3
  have HB : Hid (Row (((w.alloc (.cells #[.slice B L.reverse.length d, .int .i64 (M : Int), .int .i64 (cap : Int)] 35)).alloc (.cells zeroF 52)).alloc (.cells zeroF 52)) w.heap.size 35 #[.slice B L.reverse.length d, .int .i64 (M : Int), .int .i64 (cap : Int)]) := ((Row.new w 35 _).alloc _).alloc _
  have HR : Hid (Row (((w.alloc (.cells #[.slice B L.reverse.length d, .int .i64 (M : Int), .int .i64 (cap : Int)] 35)).alloc (.cells zeroF 52)).alloc (.cells zeroF 52)) (w.heap.size + 1) 52 zeroF) := by
    show Row _ _ _ _
    exact (Row.made _ _ _ (by simp)).alloc _
  have HN : Hid (Row (((w.alloc (.cells #[.slice B L.reverse.length d, .int .i64 (M : Int), .int .i64 (cap : Int)] 35)).alloc (.cells zeroF 52)).alloc (.cells zeroF 52)) (w.heap.size + 2) 52 zeroF) := by
    show Row _ _ _ _
    exact Row.made _ _ _ (by simp)
  have hsz : (((w.alloc (.cells #[.slice B L.reverse.length d, .int .i64 (M : Int), .int .i64 (cap : Int)] 35)).alloc (.cells zeroF 52)).alloc (.cells zeroF 52)).heap.size = w.heap.size + 3 := by simp
  have HSZ := Lib.hid hsz
  clear hs0 hW1 hW2 hW3 hsz hX hdl hr2
  generalize hRL : L.reverse.length = RL at *
  unfold zeroF at *
  unfold dv
  go_enter Try.func52, Try.ntmps52
  go_wp2_with fail
  generalize ((w.alloc (.cells #[.slice B RL d, .int .i64 (M : Int), .int .i64 (cap : Int)] 35)).alloc (.cells #[.string ⟨#[]⟩, .string ⟨#[]⟩, .bool false] 52)).alloc (.cells #[.string ⟨#[]⟩, .string ⟨#[]⟩, .bool false] 52) = w0 at *
  refine (hget _ HW.out).mono ?_
  rintro e w1 ⟨rfl, rfl⟩
  have hs0 : w.heap.size + 2 < w0.heap.size := by have := HSZ.out; omega
  have n0 := HN.out.cell (j := 0) rfl
  have n1 := HN.out.cell (j := 1) rfl
  have n2 := HN.out.cell (j := 2) rfl
  have r0 := HR.out.cell (j := 0) rfl
  have r1 := HR.out.cell (j := 1) rfl
  have r2 := HR.out.cell (j := 2) rfl
  have z0 := HR.out.thawed 0
  have z1 := HR.out.thawed 1
  have z2 := HR.out.thawed 2
  clear hget
  by_cases hz : z = 0
  · subst hz
    have hu0 := hu rfl
    have HX : Hid (X = textsR L n false (l.drop (at_ + u))) := by show _ = _; rw [HTx.out, if_neg (by omega)]
    have hb1 := (Below.refl w0.heap.size w0).alloc (Nat.le_refl _) (.cells #[.string ⟨#[]⟩, .string ⟨#[]⟩, .bool false] 52)
    have HW1 := Lib.hid (HW.out.trans (hb1.mono HW.out.size))
    have HB1 := Lib.hid (HB.out.below hb1 HB.out.lt)
    have HR1 := Lib.hid (HR.out.below hb1 HR.out.lt)
    have HN1 := Lib.hid (HN.out.below hb1 HN.out.lt)
    have HF1 := Lib.hid (Row.new w0 52 #[.string ⟨#[]⟩, .string ⟨#[]⟩, .bool false])
    have hs1 : (w0.alloc (.cells #[.string ⟨#[]⟩, .string ⟨#[]⟩, .bool false] 52)).heap.size = w0.heap.size + 1 := by simp
    have HS1 := Lib.hid hs1
    have hpos : ((at_ + u : Nat) : Int) = (at_ : Int) + u := by omega
    clear hb1 hs1 HTx hu n0 n1 n2 r0 r1 r2 z0 z1 z2
    by_cases hn0 : n = 0
    · subst hn0
      have htx1 := htx _ (at_ + u) HW1.out (by omega)
      rw [hpos] at htx1
      rw [textsR_0] at HX
      generalize textR (l.drop (at_ + u)) = Y at *
      unfold RtE tx at htx1
      go_wp2_with fail
      generalize w0.alloc (.cells #[.string ⟨#[]⟩, .string ⟨#[]⟩, .bool false] 52) = w2 at *
      refine htx1.mono ?_
      rintro e w3 ⟨he, hb3⟩
      have HW3 := Lib.hid (HW1.out.trans (hb3.mono HW1.out.size))
      have HR3 := Lib.hid (HR1.out.below hb3 HR1.out.lt)
      have HN3 := Lib.hid (HN1.out.below hb3 HN1.out.lt)
      have HF3 := Lib.hid (HF1.out.below hb3 HF1.out.lt)
      clear hb3 htx1 hat HB1 HW1 HR1 HN1 HF1
      cases Y with
      | none =>
        have hXn : X = none := HX.out
        subst hXn
        obtain ⟨s, p, rfl⟩ := he
        have n0 := HN3.out.cell (j := 0) rfl
        have n1 := HN3.out.cell (j := 1) rfl
        have n2 := HN3.out.cell (j := 2) rfl
        have r0 := HR3.out.cell (j := 0) rfl
        have r1 := HR3.out.cell (j := 1) rfl
        have r2 := HR3.out.cell (j := 2) rfl
        have z0 := HR3.out.thawed 0
        have z1 := HR3.out.thawed 1
        have z2 := HR3.out.thawed 2
        go_wp2_with fail
        refine bodyPost_ret (ret_lit rfl _ _ (w.heap.size + 1) #[.string ⟨#[]⟩, .string ⟨#[]⟩, .bool false] rfl (Row.stored (Row.stored (Row.stored HR3.out 0 (.string ⟨#[]⟩)) 1 (.string ⟨#[]⟩)) 2 (.bool false)) rfl) rfl ?_
        exact ⟨⟨⟨[], [], false⟩, _, rfl⟩, ((HW3.out.setCell (p := ⟨w.heap.size + 1, 0, none⟩) (by simp) _).setCell (p := ⟨w.heap.size + 1, 1, none⟩) (by simp) _).setCell (p := ⟨w.heap.size + 1, 2, none⟩) (by simp) _⟩
      | some y =>
        obtain ⟨a, rr⟩ := y
        obtain ⟨p, rfl, hpr, hpl⟩ := he
        have f0 := HF3.out.cell (j := 0) rfl
        have y0 := HF3.out.thawed 0
        have HF4 : Hid (Row (w3.setCell ⟨w0.heap.size, 0, none⟩ (.string ⟨a.toArray⟩)) w0.heap.size 52 #[.string ⟨a.toArray⟩, .string ⟨#[]⟩, .bool false]) := Row.stored HF3.out 0 _
        have HXx : Hid (X = match textR (l.drop p) with
          | none => none
          | some (b, r') => some (⟨a, b, false⟩, r')) := by show _ = _; rw [HX.out, hpr]
        clear HX
        have HR4 : Hid (Row (w3.setCell ⟨w0.heap.size, 0, none⟩ (.string ⟨a.toArray⟩)) (w.heap.size + 1) 52 #[.string ⟨#[]⟩, .string ⟨#[]⟩, .bool false]) := (Below.heap_setCell w3 _ _ (w.heap.size + 1) (fun e => by simp at e; omega)).trans HR3.out
        have HW4 := Lib.hid (HW3.out.setCell (p := ⟨w0.heap.size, 0, none⟩) (by simp; omega) (.string ⟨a.toArray⟩))
        have htx2 := htx _ p HW4.out hpl
        generalize textR (l.drop p) = Z at *
        unfold RtE tx at htx2
        clear htx HR3 HW3 HF3
        skip
        go_wp2_with fail
        generalize w3.setCell ⟨w0.heap.size, 0, none⟩ (.string ⟨a.toArray⟩) = w4 at *
        refine htx2.mono ?_
        rintro e w5 ⟨he, hb5⟩
        have HW5 := Lib.hid (HW4.out.trans (hb5.mono HW4.out.size))
        have hR5 := HR4.out.below hb5 HR4.out.lt
        have hF5 := HF4.out.below hb5 HF4.out.lt
        have HR5 := Lib.hid hR5
        have r0 := hR5.cell (j := 0) rfl
        have r1 := hR5.cell (j := 1) rfl
        have r2 := hR5.cell (j := 2) rfl
        have z0 := hR5.thawed 0
        have z1 := hR5.thawed 1
        have z2 := hR5.thawed 2
        have f0' := hF5.cell (j := 0) rfl
        have f1 := hF5.cell (j := 1) rfl
        have f2 := hF5.cell (j := 2) rfl
        have y1 := hF5.thawed 1
        have hne : w0.heap.size ≠ w.heap.size + 1 := by omega
        have hne' : w.heap.size + 1 ≠ w0.heap.size := by omega
        have hle1 : w.heap.size ≤ w0.heap.size := by omega
        clear hb5 hR5 hF5 htx2 HR4 HF4 HW4 f0 y0
        cases Z with
        | none =>
          have hXn : X = none := HXx.out
          subst hXn
          obtain ⟨s2, p2, rfl⟩ := he
          have HR6 : Hid (Row (w5.setCell ⟨w0.heap.size, 1, none⟩ (.string s2)) (w.heap.size + 1) 52 #[.string ⟨#[]⟩, .string ⟨#[]⟩, .bool false]) := (Below.heap_setCell w5 _ _ (w.heap.size + 1) (fun e => by simp at e; omega)).trans HR5.out
          have HW6 := Lib.hid (HW5.out.setCell (p := ⟨w0.heap.size, 1, none⟩) (by simp; omega) (.string s2))
          go_wp2_with fail
          refine bodyPost_ret (ret_lit rfl _ _ (w.heap.size + 1) #[.string ⟨a.toArray⟩, .string s2, .bool false] rfl (Row.stored (Row.stored (Row.stored HR6.out 0 (.string ⟨a.toArray⟩)) 1 (.string s2)) 2 (.bool false)) rfl) rfl ?_
          refine ⟨⟨⟨a, s2.data.toList, false⟩, _, by unfold fv tx; simp; rfl⟩, ((HW6.out.setCell (p := ⟨w.heap.size + 1, 0, none⟩) (by simp) _).setCell (p := ⟨w.heap.size + 1, 1, none⟩) (by simp) _).setCell (p := ⟨w.heap.size + 1, 2, none⟩) (by simp) _⟩
        | some y2 =>
          obtain ⟨b, r'⟩ := y2
          obtain ⟨p2, rfl, hpr2, hpl2⟩ := he
          have hXs : X = some (⟨a, b, false⟩, r') := HXx.out
          subst hXs
          have HR6 : Hid (Row (w5.setCell ⟨w0.heap.size, 1, none⟩ (.string ⟨b.toArray⟩)) (w.heap.size + 1) 52 #[.string ⟨#[]⟩, .string ⟨#[]⟩, .bool false]) := (Below.heap_setCell w5 _ _ (w.heap.size + 1) (fun e => by simp at e; omega)).trans HR5.out
          have HW6 := Lib.hid (HW5.out.setCell (p := ⟨w0.heap.size, 1, none⟩) (by simp; omega) (.string ⟨b.toArray⟩))
          go_wp2_with fail
          refine bodyPost_ret (ret_lit rfl _ _ (w.heap.size + 1) #[.string ⟨a.toArray⟩, .string ⟨b.toArray⟩, .bool false] rfl (Row.stored (Row.stored (Row.stored HR6.out 0 (.string ⟨a.toArray⟩)) 1 (.string ⟨b.toArray⟩)) 2 (.bool false)) rfl) rfl ?_
          refine ⟨⟨p2, rfl, hpr2, hpl2⟩, ((HW6.out.setCell (p := ⟨w.heap.size + 1, 0, none⟩) (by simp) _).setCell (p := ⟨w.heap.size + 1, 1, none⟩) (by simp) _).setCell (p := ⟨w.heap.size + 1, 2, none⟩) (by simp) _⟩
    · have hnz : ((n : Int) == 0) = false := by rw [beq_eq_false_iff_ne]; omega
      have hat1 := hat _ HW1.out
      have b0 := HB1.out.cell (j := 0) rfl
      have b1 := HB1.out.cell (j := 1) rfl
      have HXa : Hid (X = match atT L n with
        | none => none
        | some g => match textR (l.drop (at_ + u)) with
          | none => none
          | some (b, r') => some (⟨g.nm, b, false⟩, r')) := by show _ = _; rw [HX.out, textsR_n hn0]
      generalize atT L n = Y at *
      unfold AtV fv tv tx at hat1
      clear HX
      go_wp2_with fail
      generalize w0.alloc (.cells #[.string ⟨#[]⟩, .string ⟨#[]⟩, .bool false] 52) = w2 at *
      refine hat1.mono ?_
      rintro e w3' ⟨rfl, hb3⟩
      cases Y with
      | none =>
        have hXn : X = none := HXa.out
        subst hXn
        have hba := (Below.refl w3'.heap.size w3').alloc (Nat.le_refl _) (.cells #[.string ⟨#[]⟩, .string ⟨#[]⟩, .bool false] 52)
        have hbb := hb3.trans (hba.mono hb3.size)
        have HW3 := Lib.hid (HW1.out.trans (hbb.mono HW1.out.size))
        have HR3 := Lib.hid (HR1.out.below hbb HR1.out.lt)
        have HN3 := Lib.hid (HN1.out.below hbb HN1.out.lt)
        simp only [Option.getD_none, Option.isSome_none]
        clear hb3 hba hbb hat1 htx HB1 HW1 HR1 HN1 HF1 b0 b1
        have n0 := HN3.out.cell (j := 0) rfl
        have n1 := HN3.out.cell (j := 1) rfl
        have n2 := HN3.out.cell (j := 2) rfl
        have r0 := HR3.out.cell (j := 0) rfl
        have r1 := HR3.out.cell (j := 1) rfl
        have r2 := HR3.out.cell (j := 2) rfl
        have z0 := HR3.out.thawed 0
        have z1 := HR3.out.thawed 1
        have z2 := HR3.out.thawed 2
        go_wp2_with fail
        refine bodyPost_ret (ret_lit rfl _ _ (w.heap.size + 1) #[.string ⟨#[]⟩, .string ⟨#[]⟩, .bool false] rfl (Row.stored (Row.stored (Row.stored HR3.out 0 (.string ⟨#[]⟩)) 1 (.string ⟨#[]⟩)) 2 (.bool false)) rfl) rfl ?_
        exact ⟨⟨⟨[], [], false⟩, _, rfl⟩, ((HW3.out.setCell (p := ⟨w.heap.size + 1, 0, none⟩) (by simp) _).setCell (p := ⟨w.heap.size + 1, 1, none⟩) (by simp) _).setCell (p := ⟨w.heap.size + 1, 2, none⟩) (by simp) _⟩
      | some g =>
        simp only [Option.getD_some, Option.isSome_some]
        have hba := (Below.refl w3'.heap.size w3').alloc (Nat.le_refl _) (.cells #[.string ⟨g.nm.toArray⟩, .string ⟨g.vl.toArray⟩, .bool g.nv] 52)
        have hbb := hb3.trans (hba.mono hb3.size)
        have HW3 := Lib.hid (HW1.out.trans (hbb.mono HW1.out.size))
        have HR3 := Lib.hid (HR1.out.below hbb HR1.out.lt)
        have HF3 := Lib.hid (HF1.out.below hbb HF1.out.lt)
        have HXx : Hid (X = match textR (l.drop (at_ + u)) with
          | none => none
          | some (b, r') => some (⟨g.nm, b, false⟩, r')) := HXa.out
        have hpl : at_ + u ≤ l.length := by omega
        obtain ⟨p, hp⟩ : ∃ p, p = at_ + u := ⟨_, rfl⟩
        rw [← hp] at HXx hpl hpos
        generalize g.nm = a at *
        have f0 := HF3.out.cell (j := 0) rfl
        have y0 := HF3.out.thawed 0
        have HF4 : Hid (Row ((w3'.alloc (.cells #[.string ⟨a.toArray⟩, .string ⟨g.vl.toArray⟩, .bool g.nv] 52)).setCell ⟨w0.heap.size, 0, none⟩ (.string ⟨a.toArray⟩)) w0.heap.size 52 #[.string ⟨a.toArray⟩, .string ⟨#[]⟩, .bool false]) := Row.stored HF3.out 0 _
        have HP := Lib.hid hp
        clear hb3 hba hbb hat1 HB1 HW1 HR1 HN1 HF1 b0 b1 HXa hp
        have HR4 : Hid (Row ((w3'.alloc (.cells #[.string ⟨a.toArray⟩, .string ⟨g.vl.toArray⟩, .bool g.nv] 52)).setCell ⟨w0.heap.size, 0, none⟩ (.string ⟨a.toArray⟩)) (w.heap.size + 1) 52 #[.string ⟨#[]⟩, .string ⟨#[]⟩, .bool false]) := (Below.heap_setCell (w3'.alloc (.cells #[.string ⟨a.toArray⟩, .string ⟨g.vl.toArray⟩, .bool g.nv] 52)) _ _ (w.heap.size + 1) (fun e => by simp at e; omega)).trans HR3.out
        have HW4 := Lib.hid (HW3.out.setCell (p := ⟨w0.heap.size, 0, none⟩) (by simp; omega) (.string ⟨a.toArray⟩))
        have htx2 := htx _ p HW4.out hpl
        generalize textR (l.drop p) = Z at *
        unfold RtE tx at htx2
        clear htx HR3 HW3 HF3
        rw [hpos] at htx2
        go_wp2_with fail
        generalize (w3'.alloc (.cells #[.string ⟨a.toArray⟩, .string ⟨g.vl.toArray⟩, .bool g.nv] 52)).setCell ⟨w0.heap.size, 0, none⟩ (.string ⟨a.toArray⟩) = w4 at *
        refine htx2.mono ?_
        rintro e w5 ⟨he, hb5⟩
        have HW5 := Lib.hid (HW4.out.trans (hb5.mono HW4.out.size))
        have hR5 := HR4.out.below hb5 HR4.out.lt
        have hF5 := HF4.out.below hb5 HF4.out.lt
        have HR5 := Lib.hid hR5
        have r0 := hR5.cell (j := 0) rfl
        have r1 := hR5.cell (j := 1) rfl
        have r2 := hR5.cell (j := 2) rfl
        have z0 := hR5.thawed 0
        have z1 := hR5.thawed 1
        have z2 := hR5.thawed 2
        have f0' := hF5.cell (j := 0) rfl
        have f1 := hF5.cell (j := 1) rfl
        have f2 := hF5.cell (j := 2) rfl
        have y1 := hF5.thawed 1
        have hne : w0.heap.size ≠ w.heap.size + 1 := by omega
        have hne' : w.heap.size + 1 ≠ w0.heap.size := by omega
        have hle1 : w.heap.size ≤ w0.heap.size := by omega
        clear hb5 hR5 hF5 htx2 HR4 HF4 HW4 f0 y0
        cases Z with
        | none =>
          have hXn : X = none := HXx.out
          subst hXn
          obtain ⟨s2, p2, rfl⟩ := he
          have HR6 : Hid (Row (w5.setCell ⟨w0.heap.size, 1, none⟩ (.string s2)) (w.heap.size + 1) 52 #[.string ⟨#[]⟩, .string ⟨#[]⟩, .bool false]) := (Below.heap_setCell w5 _ _ (w.heap.size + 1) (fun e => by simp at e; omega)).trans HR5.out
          have HW6 := Lib.hid (HW5.out.setCell (p := ⟨w0.heap.size, 1, none⟩) (by simp; omega) (.string s2))
          go_wp2_with fail
          refine bodyPost_ret (ret_lit rfl _ _ (w.heap.size + 1) #[.string ⟨a.toArray⟩, .string s2, .bool false] rfl (Row.stored (Row.stored (Row.stored HR6.out 0 (.string ⟨a.toArray⟩)) 1 (.string s2)) 2 (.bool false)) rfl) rfl ?_
          refine ⟨⟨⟨a, s2.data.toList, false⟩, _, by unfold fv tx; simp; rfl⟩, ((HW6.out.setCell (p := ⟨w.heap.size + 1, 0, none⟩) (by simp) _).setCell (p := ⟨w.heap.size + 1, 1, none⟩) (by simp) _).setCell (p := ⟨w.heap.size + 1, 2, none⟩) (by simp) _⟩
        | some y2 =>
          obtain ⟨b, r'⟩ := y2
          obtain ⟨p2, rfl, hpr2, hpl2⟩ := he
          have hXs : X = some (⟨a, b, false⟩, r') := HXx.out
          subst hXs
          have HR6 : Hid (Row (w5.setCell ⟨w0.heap.size, 1, none⟩ (.string ⟨b.toArray⟩)) (w.heap.size + 1) 52 #[.string ⟨#[]⟩, .string ⟨#[]⟩, .bool false]) := (Below.heap_setCell w5 _ _ (w.heap.size + 1) (fun e => by simp at e; omega)).trans HR5.out
          have HW6 := Lib.hid (HW5.out.setCell (p := ⟨w0.heap.size, 1, none⟩) (by simp; omega) (.string ⟨b.toArray⟩))
          go_wp2_with fail
          refine bodyPost_ret (ret_lit rfl _ _ (w.heap.size + 1) #[.string ⟨a.toArray⟩, .string ⟨b.toArray⟩, .bool false] rfl (Row.stored (Row.stored (Row.stored HR6.out 0 (.string ⟨a.toArray⟩)) 1 (.string ⟨b.toArray⟩)) 2 (.bool false)) rfl) rfl ?_
          refine ⟨⟨p2, rfl, hpr2, hpl2⟩, ((HW6.out.setCell (p := ⟨w.heap.size + 1, 0, none⟩) (by simp) _).setCell (p := ⟨w.heap.size + 1, 1, none⟩) (by simp) _).setCell (p := ⟨w.heap.size + 1, 2, none⟩) (by simp) _⟩
  · have hXn : X = none := by rw [HTx.out, if_pos hz]
    subst hXn
    have hzi : ((z : Int) == 0) = false := by rw [beq_eq_false_iff_ne]; omega
    have hzi2 : ((z : Int) != 0) = true := by unfold bne; rw [hzi]; rfl
    go_wp2_with fail
    refine bodyPost_ret (ret_lit rfl _ _ (w.heap.size + 1) #[.string ⟨#[]⟩, .string ⟨#[]⟩, .bool false] rfl (Row.stored (Row.stored (Row.stored HR.out 0 (.string ⟨#[]⟩)) 1 (.string ⟨#[]⟩)) 2 (.bool false)) rfl) rfl ?_
    exact ⟨⟨⟨[], [], false⟩, _, rfl⟩, ((HW.out.setCell (p := ⟨w.heap.size + 1, 0, none⟩) (by simp) _).setCell (p := ⟨w.heap.size + 1, 1, none⟩) (by simp) _).setCell (p := ⟨w.heap.size + 1, 2, none⟩) (by simp) _⟩
end Go.Proofs.Ytfajffchnnalaaa

namespace Go.Proofs.Ytfajffchnnalaaa
open Go.RowKit Go.WideShapes

/-- Three cells of a block are written: another block's row stays; its own is these. -/
def set3 (w : World) (g : Nat) (x0 x1 x2 : Value) : World := ((w.setCell ⟨g, 0, none⟩ x0).setCell ⟨g, 1, none⟩ x1).setCell ⟨g, 2, none⟩ x2
section
variable {w : World} {g h : Nat} {t : TypeId} {cs : Array Value} {x0 x1 x2 a b c : Value}
theorem set3_other (hne : h ≠ g) (hr : Row w h t cs) : Row (set3 w g x0 x1 x2) h t cs :=
  ((Below.heap_setCell _ _ _ h hne).trans ((Below.heap_setCell _ _ _ h hne).trans (Below.heap_setCell w _ _ h hne))).trans hr
theorem set3_own (hr : Row w g t #[a, b, c]) : Row (set3 w g x0 x1 x2) g t #[x0, x1, x2] := ((hr.stored 0 x0).stored 1 x1).stored 2 x2
theorem set3_below {B : Nat} {v : World} (h : Below B v w) (hg : B ≤ g) : Below B v (set3 w g x0 x1 x2) :=
  ((h.setCell (p := ⟨g, 0, none⟩) hg x0).setCell (p := ⟨g, 1, none⟩) hg x1).setCell (p := ⟨g, 2, none⟩) hg x2
theorem set3_rds {S : Nat → Prop} {A : Option Addr} {l : List Value} (hr : RdS w S A l) (hS : ∀ b, S b → b ≠ g) : RdS (set3 w g x0 x1 x2) S A l :=
  hr.keep fun b hb => (Below.heap_setCell _ _ _ b (hS b hb)).trans ((Below.heap_setCell _ _ _ b (hS b hb)).trans (Below.heap_setCell w _ _ b (hS b hb)))
theorem set3_size : (set3 w g x0 x1 x2).heap.size = w.heap.size := by simp [set3, World.setCell]
end

/-- What the document's field answers. -/
def FldE (w w' : World) (T : Nat → Prop) (l : List UInt8) (out : List Fd) (cap : Nat) (o : Option (Rd × List UInt8)) (e : Ending) : Prop := match o with
  | none => ∃ (f : Fd) (n : Int) (A' : Option Addr) (m' c' : Nat) (M' C' : Int), e = .returned (.tuple #[fv f, .int .i64 n, .agg #[.slice A' m' c', .int .i64 M', .int .i64 C'], .bool false])
  | some (s, r) => ∃ (p : Nat) (f : Fd) (A' : Option Addr) (c' : Nat), e = .returned (.tuple #[fv f, .int .i64 (p : Int), dv A' s.tb.reverse.length c' s.mx cap, .bool true]) ∧ l.drop p = r ∧ p ≤ l.length ∧ s.out = out ++ [f] ∧ RdS w' (fun b => T b ∨ (w.heap.size ≤ b ∧ b < w'.heap.size)) A' (enl fdc s.tb.reverse) ∧ s.tb.reverse.length ≤ c'
theorem ret_fld {fn : Func} {p q u v : Tmp} (h : fn.results = #[.cell p 52, .tmp u, .cell q 35, .tmp v]) (tmps : Array Value) (w : World) (g g' : Nat) (cs ds : Array Value) (hp : tmps.getD p undef = .pointer (some ⟨g, 0, none⟩)) (hq : tmps.getD q undef = .pointer (some ⟨g', 0, none⟩)) (hR : Row w g 52 cs) (hc : cs.size = 3) (hR' : Row w g' 35 ds) (hd : ds.size = 3) :
    (results fn tmps).run Try.prog w = .ok (.tuple #[.agg cs, tmps.getD u undef, .agg ds, tmps.getD v undef]) w := by
  have hl := run_loadVar_row w g 52 52 cs (0, 0) _ hR Try.underlying52 rfl (field_cells cs hc)
  have hl' := run_loadVar_row w g' 35 35 ds (0, 0) _ hR' Try.underlying35 rfl (d6_cells ds hd)
  have hp' : tmps[p]?.getD undef = .pointer (some ⟨g, 0, none⟩) := by simpa using hp
  have hq' : tmps[q]?.getD undef = .pointer (some ⟨g', 0, none⟩) := by simpa using hq
  simp only [results, h]
  simp [Sem.run_bind, Result.andThen, hp', hq', asAddr, hl, hl']
theorem kindR_of {b K : Nat} (h : kindN b = K) : (K = 128 → kindR b = 0) ∧ (K = 64 → kindR b = 1) ∧ (K = 32 → kindR b = 2) ∧ (K = 16 → kindR b = 3) ∧ (K = 0 → kindR b = 4) := by
  unfold kindN at h
  unfold kindR
  by_cases h1 : 128 ≤ b <;> by_cases h2 : 64 ≤ b <;> by_cases h3 : 32 ≤ b <;> by_cases h4 : 16 ≤ b <;> simp only [h1, h2, h3, h4, if_true, if_false] at h ⊢ <;> first | omega | (subst h; simp)

theorem set2_other {w : World} {g h : Nat} {t : TypeId} {cs : Array Value} {x0 x1 : Value} (hne : h ≠ g) (hr : Row w h t cs) : Row ((w.setCell ⟨g, 0, none⟩ x0).setCell ⟨g, 1, none⟩ x1) h t cs :=
  ((Below.heap_setCell _ _ _ h hne).trans (Below.heap_setCell w _ _ h hne)).trans hr
theorem tot_mem {L : List Fd} {f : Fd} (h : f ∈ L) : sz f ≤ tot L := by
  induction L with
  | nil => cases h
  | cons a L ih =>
    have e : tot (a :: L) = sz a + tot L := by simp [tot]
    cases h with
    | head => omega
    | tail _ h => have := ih h; omega
theorem textsR_set {L : List Fd} {n : Nat} {nv : Bool} {l : List UInt8} : textsR L n nv l = (textsR L n false l).map fun p => (⟨p.1.nm, p.1.vl, nv⟩, p.2) := by
  unfold textsR
  cases nameR L n l with
  | none => rfl
  | some q =>
    obtain ⟨a, r⟩ := q
    dsimp only
    cases textR r with
    | none => rfl
    | some q => rfl
/-- The piece, by its literal. -/
theorem pieceR_lit {cap : Nat} {L : List Fd} {M : Nat} {out : List Fd} {l : List UInt8} {K : Nat} (hk : kindN (l.headD 0).toNat = K) (h1 : K ≠ 32) (h2 : K ≠ 128) :
    pieceR cap ⟨L, M, out⟩ l = (litR L (pfxN K) l).map fun p => (⟨if K = 64 then addL M ⟨p.1.nm, p.1.vl, K == 16⟩ L else L, M, out ++ [⟨p.1.nm, p.1.vl, K == 16⟩]⟩, p.2) := by
  obtain ⟨s1, _, _, s4⟩ := pieceR_spec (cap := cap) (L := L) (M := M) (out := out) hk
  unfold litR
  by_cases hz : (getL (pfxN K) l).2.2 = 0
  · rw [s4 hz h1 h2, if_neg (by omega), textsR_set]
    cases textsR L (getL (pfxN K) l).1 false (l.drop (getL (pfxN K) l).2.1) with
    | none => rfl
    | some q => rfl
  · rw [s1 hz, if_pos hz]; rfl
theorem litR_sz {L : List Fd} {k : Nat} {m r : List UInt8} {f : Fd} (h : litR L k m = some (f, r)) (hL : tot L ≤ 4096) (hm : m.length ≤ 12000) : sz f ≤ 60000 ∧ f.nv = false := by
  unfold litR at h
  split at h
  · cases h
  · have h9 := textsR_sz h hL
    rw [List.length_drop] at h9
    exact ⟨by omega, (textsR_rest h).2⟩

attribute [local irreducible] getL decL textR atT tot sz shr textsR litR pieceR addL raddL

set_option maxRecDepth 100000 in
set_option maxHeartbeats 4000000 in
theorem rfield_any {w : World} {A B : Option Addr} {c d at_ M cap : Nat} {l : List UInt8} {L out : List Fd} (hl : l.length ≤ 12000) (hc : l.length ≤ c) (hr : RdB w w.heap.size A l) (ha : at_ < l.length)
    {T : Nat → Prop} (hT0 : RdS w T B (enl fdc L.reverse)) (hTl : ∀ b, T b → b < w.heap.size) (hd : L.reverse.length ≤ d) (hM : M ≤ 4096) (hL : tot L ≤ M) (_hcap : cap ≤ 4096) (hk : kindN l[at_].toNat ≠ 32) :
    Calls Try.prog 34 #[dv B L.reverse.length d M cap, .slice A l.length c, .int .i64 (at_ : Int)] w fun e w' => FldE w w' T l out cap (pieceR cap ⟨L, M, out⟩ (l.drop at_)) e ∧ Below w.heap.size w w' := by
  have hT : RdS w (· < w.heap.size) B (enl fdc L.reverse) := hT0.imp fun b hb _ => hTl b hb
  have hLl : L.length ≤ 2147483648 := by have := tot_len L; omega
  have hkd := fun W => rkind6_any l[at_].toNat W
  have hki := kindN_is l[at_].toNat
  obtain ⟨K, hK⟩ : ∃ K, kindN l[at_].toNat = K := ⟨_, rfl⟩
  have hkr := kindR_of hK
  have hhd : ((l.drop at_).headD 0).toNat = l[at_].toNat := by rw [List.drop_eq_getElem_cons ha]; rfl
  have hspec := pieceR_spec (cap := cap) (L := L) (M := M) (out := out) (l := l.drop at_) (K := K) (by rw [hhd]; exact hK)
  rw [hK] at hki hk
  obtain ⟨X, hX⟩ : ∃ X, X = pieceR cap ⟨L, M, out⟩ (l.drop at_) := ⟨_, rfl⟩
  rw [← hX] at hspec ⊢
  obtain ⟨g0, o0, hAe, hg0, hcel⟩ := hr (by rintro rfl; simp at ha)
  have f0 := hcel at_ ha
  have HSP := Lib.hid hspec
  have hpl := fun (h1 : K ≠ 32) (h2 : K ≠ 128) => hX.trans (pieceR_lit (cap := cap) (L := L) (M := M) (out := out) (l := l.drop at_) (K := K) (by rw [hhd]; exact hK) h1 h2)
  have HPL := Lib.hid hpl
  have hlit := fun (k : Nat) (h1 : 1 ≤ k) (h8 : k ≤ 8) (W : World) (h : Below w.heap.size w W) => rliteral_any (M := M) (cap := cap) (d := d) k h1 h8 hl hc ((hr.below h).more h.size) (Nat.le_of_lt ha) (hT.up h) hLl
  have HLIT := Lib.hid hlit
  have hW1 := (Below.refl w.heap.size w).alloc (Nat.le_refl _) (.cells #[.slice B L.reverse.length d, .int .i64 (M : Int), .int .i64 (cap : Int)] 35)
  have hW2 := hW1.alloc (by simp) (.cells zeroF 52)
  have hW3 := hW2.alloc (by simp; omega) (.cells #[.slice none 0 0, .int .i64 0, .int .i64 0] 35)
  have HW := Lib.hid hW3
  have HB : Hid (Row (((w.alloc (.cells #[.slice B L.reverse.length d, .int .i64 (M : Int), .int .i64 (cap : Int)] 35)).alloc (.cells zeroF 52)).alloc (.cells #[.slice none 0 0, .int .i64 0, .int .i64 0] 35)) w.heap.size 35 #[.slice B L.reverse.length d, .int .i64 (M : Int), .int .i64 (cap : Int)]) := ((Row.new w 35 _).alloc _).alloc _
  have HR : Hid (Row (((w.alloc (.cells #[.slice B L.reverse.length d, .int .i64 (M : Int), .int .i64 (cap : Int)] 35)).alloc (.cells zeroF 52)).alloc (.cells #[.slice none 0 0, .int .i64 0, .int .i64 0] 35)) (w.heap.size + 1) 52 zeroF) := by
    show Row _ _ _ _
    exact (Row.made _ _ _ (by simp)).alloc _
  have HD : Hid (Row (((w.alloc (.cells #[.slice B L.reverse.length d, .int .i64 (M : Int), .int .i64 (cap : Int)] 35)).alloc (.cells zeroF 52)).alloc (.cells #[.slice none 0 0, .int .i64 0, .int .i64 0] 35)) (w.heap.size + 2) 35 #[.slice none 0 0, .int .i64 0, .int .i64 0]) := by
    show Row _ _ _ _
    exact Row.made _ _ _ (by simp)
  have hsz : (((w.alloc (.cells #[.slice B L.reverse.length d, .int .i64 (M : Int), .int .i64 (cap : Int)] 35)).alloc (.cells zeroF 52)).alloc (.cells #[.slice none 0 0, .int .i64 0, .int .i64 0] 35)).heap.size = w.heap.size + 3 := by simp
  have HSZ := Lib.hid hsz
  have HRB := Lib.hid hr
  subst hAe
  have hae : (at_ : Int) < (l.length : Int) := by omega
  generalize kindR l[at_].toNat = KR at *
  generalize l[at_].toNat = bb at *
  have f1 := (hW3.cell (p := ⟨g0, o0 + at_, none⟩) hg0).trans f0
  have HF0 := Lib.hid f0
  clear hspec hpl hX hcel hlit hW1 hW2 hW3 hsz hhd hK hr f0
  have hRL0 : L.reverse.length = L.length := List.length_reverse
  generalize hRL : L.reverse.length = RL at *
  have HRL := Lib.hid hRL
  have HRL0 := Lib.hid hRL0
  clear hRL hRL0
  unfold zeroF at *
  unfold dv at *
  go_enter Try.func34, Try.ntmps34
  go_wp2_with fail
  generalize ((w.alloc (.cells #[.slice B RL d, .int .i64 (M : Int), .int .i64 (cap : Int)] 35)).alloc (.cells #[.string ⟨#[]⟩, .string ⟨#[]⟩, .bool false] 52)).alloc (.cells #[.slice none 0 0, .int .i64 0, .int .i64 0] 35) = w0 at *
  refine (hkd _).mono ?_
  rintro e w1 ⟨rfl, rfl⟩
  have hs0 : w.heap.size + 2 < w0.heap.size := by have := HSZ.out; omega
  have b0 := HB.out.cell (j := 0) rfl
  have b1 := HB.out.cell (j := 1) rfl
  have b2 := HB.out.cell (j := 2) rfl
  have r0 := HR.out.cell (j := 0) rfl
  have r1 := HR.out.cell (j := 1) rfl
  have r2 := HR.out.cell (j := 2) rfl
  have z0 := HR.out.thawed 0
  have z1 := HR.out.thawed 1
  have z2 := HR.out.thawed 2
  have q0 := HD.out.cell (j := 0) rfl
  have q1 := HD.out.cell (j := 1) rfl
  have q2 := HD.out.cell (j := 2) rfl
  have y0 := HD.out.thawed 0
  have y1 := HD.out.thawed 1
  have y2 := HD.out.thawed 2
  obtain ⟨k1, k2, k3, k4, k5⟩ := hkr
  rcases hki with rfl | rfl | rfl | rfl | rfl
  · -- a field of the table
    obtain rfl : KR = 0 := k1 rfl
    obtain ⟨i0, hi0, hz0, hz1, hz2⟩ := info_parts u8_info
    obtain ⟨A2, hfr, hr2⟩ := cut_from (P := Try.prog) Try.underlying38 hi0 hz1 HRB.out hc (Nat.le_of_lt ha)
    have hdl : (l.drop at_).length = l.length - at_ := List.length_drop
    have hget := rget_any 7 (by omega) (by omega) A2 (c - at_) (l.drop at_) (by omega) w0 w0.heap.size ((hr2.below HW.out).more HW.out.size)
    rw [hdl] at hget
    unfold Three at hget
    have hu : (getL 7 (l.drop at_)).2.2 = 0 → (getL 7 (l.drop at_)).2.1 ≤ l.length - at_ := fun h => by have := (getL_used h).2; omega
    have hub := fun h : (getL 7 (l.drop at_)).2.2 ≠ 0 => getL_bad h
    have hbd := getL_bd (k := 7) (by omega) (by omega) (l.drop at_)
    have h1 := HSP.out.1
    have h3 := HSP.out.2.2.1
    rw [show pfxN 128 = 7 from rfl] at h1 h3
    rw [List.drop_drop] at h3
    generalize getL 7 (l.drop at_) = G at *
    obtain ⟨n, u, z⟩ := G
    simp only at hget hu hbd h1 h3 hub
    have H1 := Lib.hid h1
    have H3 := Lib.hid h3
    have hat := rtat_any (w := w0) (c := d) (M := M) (hT.up HW.out) n (by omega) hLl
    rw [HRL.out] at hat
    unfold tv AtV fv tx at hat
    clear h1 h3 hdl hr2 HSP HLIT HPL k1 k2 k3 k4 k5 hkd
    go_wp2_with fail
    refine hget.mono ?_
    rintro e w1 ⟨rfl, rfl⟩
    go_wp2_with fail
    refine hat.mono ?_
    rintro e w1 ⟨rfl, hb1⟩
    have hcase : (atT L n = none ∧ X = none) ∨ ∃ f, atT L n = some f ∧ X = some (⟨L, M, out ++ [f]⟩, l.drop (at_ + u)) ∧ z = 0 := by
      cases hY : atT L n with
      | none =>
        refine .inl ⟨rfl, ?_⟩
        by_cases hz : z = 0
        · rw [H3.out hz trivial, hY]; rfl
        · exact H1.out hz
      | some f =>
        have hz : z = 0 := by
          refine Classical.byContradiction fun h => ?_
          have h5 := (hub h).1
          rw [h5] at hY
          unfold atT at hY
          rw [if_pos rfl] at hY
          cases hY
        exact .inr ⟨f, rfl, by rw [H3.out hz trivial, hY]; rfl, hz⟩
    rcases hcase with ⟨hY, hXn⟩ | ⟨f, hY, hXs, hz⟩
    · subst hXn
      rw [hY]
      simp only [Option.getD_none, Option.isSome_none]
      have hba := (Below.refl w1.heap.size w1).alloc (Nat.le_refl _) (.cells #[.string ⟨#[]⟩, .string ⟨#[]⟩, .bool false] 52)
      have hbb := hb1.trans (hba.mono hb1.size)
      have HW2 := Lib.hid (HW.out.trans (hbb.mono HW.out.size))
      have HB2 := Lib.hid (HB.out.below hbb HB.out.lt)
      have HR2 := Lib.hid (HR.out.below hbb HR.out.lt)
      have HD2 := Lib.hid (HD.out.below hbb HD.out.lt)
      have HF2 := Lib.hid (Row.new w1 52 #[.string ⟨#[]⟩, .string ⟨#[]⟩, .bool false])
      have hs1 := hb1.size
      have hsa : (w1.alloc (.cells #[.string ⟨#[]⟩, .string ⟨#[]⟩, .bool false] 52)).heap.size = w1.heap.size + 1 := by simp
      have HSA := Lib.hid hsa
      clear hb1 hba hbb HB HR HD hat hget hsa b0 b1 b2 r0 r1 r2 z0 z1 z2 q0 q1 q2 y0 y1 y2
      go_wp2_with fail
      generalize w1.alloc (.cells #[.string ⟨#[]⟩, .string ⟨#[]⟩, .bool false] 52) = w2 at *
      have HBx : Hid (Row w2.drew w.heap.size 35 #[.slice B RL d, .int .i64 (M : Int), .int .i64 (cap : Int)]) := HB2.out
      have HFx : Hid (Row w2.drew w1.heap.size 52 #[.string ⟨#[]⟩, .string ⟨#[]⟩, .bool false]) := HF2.out
      have HB3 : Hid (Row (set3 w2.drew (w.heap.size + 1) (.string ⟨#[]⟩) (.string ⟨#[]⟩) (.bool false)) w.heap.size 35 #[.slice B RL d, .int .i64 (M : Int), .int .i64 (cap : Int)]) := set3_other (by omega) HBx.out
      have HF3 : Hid (Row (set3 w2.drew (w.heap.size + 1) (.string ⟨#[]⟩) (.string ⟨#[]⟩) (.bool false)) w1.heap.size 52 #[.string ⟨#[]⟩, .string ⟨#[]⟩, .bool false]) := set3_other (by omega) HFx.out
      have HR3 : Hid (Row (set3 w2.drew (w.heap.size + 1) (.string ⟨#[]⟩) (.string ⟨#[]⟩) (.bool false)) (w.heap.size + 1) 52 #[.string ⟨#[]⟩, .string ⟨#[]⟩, .bool false]) := set3_own HR2.out
      have HQ3 : Hid (Row (set3 w2.drew (w.heap.size + 1) (.string ⟨#[]⟩) (.string ⟨#[]⟩) (.bool false)) (w.heap.size + 2) 35 #[.slice none 0 0, .int .i64 0, .int .i64 0]) := set3_other (by omega) HD2.out
      have HW3 : Hid (Below w.heap.size w (set3 w2.drew (w.heap.size + 1) (.string ⟨#[]⟩) (.string ⟨#[]⟩) (.bool false))) := set3_below (HW2.out.drew) (by omega)
      have HS3 : Hid ((set3 w2.drew (w.heap.size + 1) (.string ⟨#[]⟩) (.string ⟨#[]⟩) (.bool false)).heap.size = w2.heap.size) := by show _ = _; rw [set3_size]; rfl
      refine wp_region_held_drew (S := fun w' => w'.cell? ⟨w.heap.size, 0, none⟩ = some (.slice B RL d) ∧ w'.cell? ⟨w.heap.size, 1, none⟩ = some (.int .i64 (M : Int)) ∧ w'.cell? ⟨w.heap.size, 2, none⟩ = some (.int .i64 (cap : Int)) ∧ w'.cell? ⟨w1.heap.size, 0, none⟩ = some (.string ⟨#[]⟩) ∧ w'.cell? ⟨w1.heap.size, 1, none⟩ = some (.string ⟨#[]⟩) ∧ w'.cell? ⟨w1.heap.size, 2, none⟩ = some (.bool false)) (by kernel_rfl) ⟨HBx.out.cell (j := 0) rfl, HBx.out.cell (j := 1) rfl, HBx.out.cell (j := 2) rfl, HFx.out.cell (j := 0) rfl, HFx.out.cell (j := 1) rfl, HFx.out.cell (j := 2) rfl⟩ (fun hHeld => ?_)
      have e0 : w2.cell? ⟨w.heap.size + 1, 0, none⟩ = some (.string ⟨#[]⟩) := HR2.out.cell (j := 0) rfl
      have e1 : w2.cell? ⟨w.heap.size + 1, 1, none⟩ = some (.string ⟨#[]⟩) := HR2.out.cell (j := 1) rfl
      have e2 : w2.cell? ⟨w.heap.size + 1, 2, none⟩ = some (.bool false) := HR2.out.cell (j := 2) rfl
      have t0 : w2.frozen? ⟨w.heap.size + 1, 0, none⟩ = false := HR2.out.thawed 0
      have t1 : w2.frozen? ⟨w.heap.size + 1, 1, none⟩ = false := HR2.out.thawed 1
      have t2 : w2.frozen? ⟨w.heap.size + 1, 2, none⟩ = false := HR2.out.thawed 2
      refine wpAnyH_take (i := 0) (v := ?v0) rfl (by kernel_rfl) (by kernel_rfl) (by kernel_rfl) (fun _ _ _ h => h) (Or.inl ⟨by rfl, ?hy0⟩) (by assumption) ?rest0
      case hy0 => (intro w hSw; (try dsimp only at hSw); go_simp <;> with_reducible rfl)
      try simp only [Act.put, List.getElem_toArray, List.getElem_cons_zero, List.setIfInBounds_toArray, List.set_cons_zero, List.set_cons_succ]
      refine wpAnyH_take (i := 1) (v := ?v1) rfl (by kernel_rfl) (by kernel_rfl) (by kernel_rfl) (fun _ _ _ h => h) (Or.inl ⟨by rfl, ?hy1⟩) (by assumption) ?rest1
      case hy1 => (intro w hSw; (try dsimp only at hSw); go_simp <;> with_reducible rfl)
      try simp only [Act.put, List.getElem_toArray, List.getElem_cons_zero, List.getElem_cons_succ, List.setIfInBounds_toArray, List.set_cons_zero, List.set_cons_succ]
      refine wpAnyH_take (i := 2) (v := ?v2) rfl (by kernel_rfl) (by kernel_rfl) (by kernel_rfl) (fun _ _ _ h => h) (Or.inl ⟨by rfl, ?hy2⟩) (by assumption) ?rest2
      case hy2 => (intro w hSw; (try dsimp only at hSw); go_simp <;> with_reducible rfl)
      try simp only [Act.put, List.getElem_toArray, List.getElem_cons_zero, List.getElem_cons_succ, List.setIfInBounds_toArray, List.set_cons_zero, List.set_cons_succ]
      refine wpAnyH_take (i := 3) (v := ?v3) rfl (by kernel_rfl) (by kernel_rfl) (by kernel_rfl) (fun _ _ _ h => h) (Or.inl ⟨by rfl, ?hy3⟩) (by assumption) ?rest3
      case hy3 => (intro w hSw; (try dsimp only at hSw); go_simp <;> with_reducible rfl)
      try simp only [Act.put, List.getElem_toArray, List.getElem_cons_zero, List.getElem_cons_succ, List.setIfInBounds_toArray, List.set_cons_zero, List.set_cons_succ]
      refine wpAnyH_take (i := 4) (v := ?v4) rfl (by kernel_rfl) (by kernel_rfl) (by kernel_rfl) (fun _ _ _ h => h) (Or.inl ⟨by rfl, ?hy4⟩) (by assumption) ?rest4
      case hy4 => (intro w hSw; (try dsimp only at hSw); go_simp <;> with_reducible rfl)
      try simp only [Act.put, List.getElem_toArray, List.getElem_cons_zero, List.getElem_cons_succ, List.setIfInBounds_toArray, List.set_cons_zero, List.set_cons_succ]
      refine wpAnyH_take (i := 5) (v := ?v5) rfl (by kernel_rfl) (by kernel_rfl) (by kernel_rfl) (fun _ _ _ h => h) (Or.inl ⟨by rfl, ?hy5⟩) (by assumption) ?rest5
      case hy5 => (intro w hSw; (try dsimp only at hSw); go_simp <;> with_reducible rfl)
      try simp only [Act.put, List.getElem_toArray, List.getElem_cons_zero, List.getElem_cons_succ, List.setIfInBounds_toArray, List.set_cons_zero, List.set_cons_succ]
      refine wpAnyH_take (i := 6) (v := ?v6) rfl (by kernel_rfl) (by kernel_rfl) (by kernel_rfl) (fun _ _ _ h => h) (Or.inl ⟨by rfl, ?hy6⟩) (by assumption) ?rest6
      case hy6 => (intro w hSw; (try dsimp only at hSw); go_simp <;> with_reducible rfl)
      try simp only [Act.put, List.getElem_toArray, List.getElem_cons_zero, List.getElem_cons_succ, List.setIfInBounds_toArray, List.set_cons_zero, List.set_cons_succ]
      refine wpAnyH_take (i := 7) (v := undef) rfl (by kernel_rfl) (by kernel_rfl) (by kernel_rfl) (fun _ _ _ h => h) (Or.inr ⟨by rfl, rfl⟩) (by assumption) ?rest7
      try simp only [Act.put, List.getElem_toArray, List.getElem_cons_zero, List.getElem_cons_succ, List.setIfInBounds_toArray, List.set_cons_zero, List.set_cons_succ]
      refine wpAnyH_take (i := 8) (v := undef) rfl (by kernel_rfl) (by kernel_rfl) (by kernel_rfl) (fun _ _ _ h => h) (Or.inr ⟨by rfl, rfl⟩) (by assumption) ?rest8
      try simp only [Act.put, List.getElem_toArray, List.getElem_cons_zero, List.getElem_cons_succ, List.setIfInBounds_toArray, List.set_cons_zero, List.set_cons_succ]
      refine wpAnyH_take (i := 9) (v := ?v9) rfl (by kernel_rfl) (by kernel_rfl) (by kernel_rfl) (fun _ _ _ h => h) (Or.inl ⟨by rfl, ?hy9⟩) (by assumption) ?rest9
      case hy9 => (intro w hSw; (try dsimp only at hSw); go_simp <;> with_reducible rfl)
      try simp only [Act.put, List.getElem_toArray, List.getElem_cons_zero, List.getElem_cons_succ, List.setIfInBounds_toArray, List.set_cons_zero, List.set_cons_succ]
      refine wpAnyH_ready (rs := [10]) (by kernel_rfl) (by simp) ?_
      refine AllReadyH.cons rfl (fun K hK => ?_) AllReadyH.nil
      go_simp
      change K _ (set3 w2.drew (w.heap.size + 1) (.string ⟨#[]⟩) (.string ⟨#[]⟩) (.bool false))
      clear e0 e1 e2 t0 t1 t2 hHeld
      generalize set3 w2.drew (w.heap.size + 1) (.string ⟨#[]⟩) (.string ⟨#[]⟩) (.bool false) = w7 at *
      refine hK.out _ _ ⟨HB3.out.cell (j := 0) rfl, HB3.out.cell (j := 1) rfl, HB3.out.cell (j := 2) rfl, HF3.out.cell (j := 0) rfl, HF3.out.cell (j := 1) rfl, HF3.out.cell (j := 2) rfl⟩ (fun hHeld => ?_)
      clear hK K HBx HFx
      try simp only [Act.put, List.getElem_toArray, List.getElem_cons_zero, List.getElem_cons_succ, List.setIfInBounds_toArray, List.set_cons_zero, List.set_cons_succ]
      refine wpAnyH_take (i := 11) (v := ?v11q1) rfl (by kernel_rfl) (by kernel_rfl) (by kernel_rfl) (fun _ _ _ h => h) (Or.inl ⟨by rfl, ?hy11q1⟩) (by assumption) ?rest11q1
      case hy11q1 => (intro w hSw; (try dsimp only at hSw); go_simp <;> with_reducible rfl)
      try simp only [Act.put, List.getElem_toArray, List.getElem_cons_zero, List.getElem_cons_succ, List.setIfInBounds_toArray, List.set_cons_zero, List.set_cons_succ]
      have HB4 : Hid (Row (set3 w7 (w.heap.size + 2) (.slice B RL d) (.int .i64 (M : Int)) (.int .i64 (cap : Int))) w.heap.size 35 #[.slice B RL d, .int .i64 (M : Int), .int .i64 (cap : Int)]) := set3_other (by omega) HB3.out
      have HF4 : Hid (Row (set3 w7 (w.heap.size + 2) (.slice B RL d) (.int .i64 (M : Int)) (.int .i64 (cap : Int))) w1.heap.size 52 #[.string ⟨#[]⟩, .string ⟨#[]⟩, .bool false]) := set3_other (by omega) HF3.out
      have HR4 : Hid (Row (set3 w7 (w.heap.size + 2) (.slice B RL d) (.int .i64 (M : Int)) (.int .i64 (cap : Int))) (w.heap.size + 1) 52 #[.string ⟨#[]⟩, .string ⟨#[]⟩, .bool false]) := set3_other (by omega) HR3.out
      have HQ4 : Hid (Row (set3 w7 (w.heap.size + 2) (.slice B RL d) (.int .i64 (M : Int)) (.int .i64 (cap : Int))) (w.heap.size + 2) 35 #[.slice B RL d, .int .i64 (M : Int), .int .i64 (cap : Int)]) := set3_own HQ3.out
      have HW4 : Hid (Below w.heap.size w (set3 w7 (w.heap.size + 2) (.slice B RL d) (.int .i64 (M : Int)) (.int .i64 (cap : Int)))) := set3_below HW3.out (by omega)
      have e0 := HQ3.out.cell (j := 0) rfl
      have e1 := HQ3.out.cell (j := 1) rfl
      have e2 := HQ3.out.cell (j := 2) rfl
      have t0 := HQ3.out.thawed 0
      have t1 := HQ3.out.thawed 1
      have t2 := HQ3.out.thawed 2
      refine wpAnyH_ready (rs := [12]) (by kernel_rfl) (by simp) ?_
      refine AllReadyH.cons rfl (fun K hK => ?_) AllReadyH.nil
      go_simp
      change K _ (set3 w7 (w.heap.size + 2) (.slice B RL d) (.int .i64 (M : Int)) (.int .i64 (cap : Int)))
      clear e0 e1 e2 t0 t1 t2 hHeld HB3 HF3 HR3 HQ3
      have HS4 : Hid ((set3 w7 (w.heap.size + 2) (.slice B RL d) (.int .i64 (M : Int)) (.int .i64 (cap : Int))).heap.size = w7.heap.size) := by show _ = _; rw [set3_size]
      generalize set3 w7 (w.heap.size + 2) (.slice B RL d) (.int .i64 (M : Int)) (.int .i64 (cap : Int)) = w8 at *
      refine hK.out _ _ ⟨HB4.out.cell (j := 0) rfl, HB4.out.cell (j := 1) rfl, HB4.out.cell (j := 2) rfl, HF4.out.cell (j := 0) rfl, HF4.out.cell (j := 1) rfl, HF4.out.cell (j := 2) rfl⟩ (fun hHeld => ?_)
      clear hK K
      try simp only [Act.put, List.getElem_toArray, List.getElem_cons_zero, List.getElem_cons_succ, List.setIfInBounds_toArray, List.set_cons_zero, List.set_cons_succ]
      refine wpAnyH_take (i := 13) (v := ?v13q2) rfl (by kernel_rfl) (by kernel_rfl) (by kernel_rfl) (fun _ _ _ h => h) (Or.inl ⟨by rfl, ?hy13q2⟩) (by assumption) ?rest13q2
      case hy13q2 => (intro w hSw; (try dsimp only at hSw); go_simp <;> with_reducible rfl)
      try simp only [Act.put, List.getElem_toArray, List.getElem_cons_zero, List.getElem_cons_succ, List.setIfInBounds_toArray, List.set_cons_zero, List.set_cons_succ]
      refine wpAnyH_done (by kernel_rfl) ?_ _
      go_wp2_with fail
      refine bodyPost_ret (ret_fld rfl _ _ (w.heap.size + 1) (w.heap.size + 2) #[.string ⟨#[]⟩, .string ⟨#[]⟩, .bool false] #[.slice B RL d, .int .i64 (M : Int), .int .i64 (cap : Int)] rfl rfl HR4.out rfl HQ4.out rfl) rfl ?_
      exact ⟨⟨⟨[], [], false⟩, _, _, _, _, _, _, rfl⟩, HW4.out⟩
    · subst hXs hz
      rw [hY]
      simp only [Option.getD_some, Option.isSome_some]
      have hun := hu rfl
      have hpos : IntKind.i64.wrap ((at_ : Int) + (u : Int)) = ((at_ + u : Nat) : Int) := by rw [IntWalk.i64_in _ (by omega)]; omega
      have hba := (Below.refl w1.heap.size w1).alloc (Nat.le_refl _) (.cells #[.string ⟨f.nm.toArray⟩, .string ⟨f.vl.toArray⟩, .bool f.nv] 52)
      have hbb := hb1.trans (hba.mono hb1.size)
      have HW2 := Lib.hid (HW.out.trans (hbb.mono HW.out.size))
      have HB2 := Lib.hid (HB.out.below hbb HB.out.lt)
      have HR2 := Lib.hid (HR.out.below hbb HR.out.lt)
      have HD2 := Lib.hid (HD.out.below hbb HD.out.lt)
      have HF2 := Lib.hid (Row.new w1 52 #[.string ⟨f.nm.toArray⟩, .string ⟨f.vl.toArray⟩, .bool f.nv])
      have hs1 := hb1.size
      have hsa : (w1.alloc (.cells #[.string ⟨f.nm.toArray⟩, .string ⟨f.vl.toArray⟩, .bool f.nv] 52)).heap.size = w1.heap.size + 1 := by simp
      have HSA := Lib.hid hsa
      clear hb1 hba hbb HB HR HD hat hget hsa b0 b1 b2 r0 r1 r2 z0 z1 z2 q0 q1 q2 y0 y1 y2
      go_wp2_with fail
      generalize w1.alloc (.cells #[.string ⟨f.nm.toArray⟩, .string ⟨f.vl.toArray⟩, .bool f.nv] 52) = w2 at *
      have HBx : Hid (Row w2.drew w.heap.size 35 #[.slice B RL d, .int .i64 (M : Int), .int .i64 (cap : Int)]) := HB2.out
      have HFx : Hid (Row w2.drew w1.heap.size 52 #[.string ⟨f.nm.toArray⟩, .string ⟨f.vl.toArray⟩, .bool f.nv]) := HF2.out
      have HB3 : Hid (Row (set3 w2.drew (w.heap.size + 1) (.string ⟨f.nm.toArray⟩) (.string ⟨f.vl.toArray⟩) (.bool f.nv)) w.heap.size 35 #[.slice B RL d, .int .i64 (M : Int), .int .i64 (cap : Int)]) := set3_other (by omega) HBx.out
      have HF3 : Hid (Row (set3 w2.drew (w.heap.size + 1) (.string ⟨f.nm.toArray⟩) (.string ⟨f.vl.toArray⟩) (.bool f.nv)) w1.heap.size 52 #[.string ⟨f.nm.toArray⟩, .string ⟨f.vl.toArray⟩, .bool f.nv]) := set3_other (by omega) HFx.out
      have HR3 : Hid (Row (set3 w2.drew (w.heap.size + 1) (.string ⟨f.nm.toArray⟩) (.string ⟨f.vl.toArray⟩) (.bool f.nv)) (w.heap.size + 1) 52 #[.string ⟨f.nm.toArray⟩, .string ⟨f.vl.toArray⟩, .bool f.nv]) := set3_own HR2.out
      have HQ3 : Hid (Row (set3 w2.drew (w.heap.size + 1) (.string ⟨f.nm.toArray⟩) (.string ⟨f.vl.toArray⟩) (.bool f.nv)) (w.heap.size + 2) 35 #[.slice none 0 0, .int .i64 0, .int .i64 0]) := set3_other (by omega) HD2.out
      have HW3 : Hid (Below w.heap.size w (set3 w2.drew (w.heap.size + 1) (.string ⟨f.nm.toArray⟩) (.string ⟨f.vl.toArray⟩) (.bool f.nv))) := set3_below (HW2.out.drew) (by omega)
      have HS3 : Hid ((set3 w2.drew (w.heap.size + 1) (.string ⟨f.nm.toArray⟩) (.string ⟨f.vl.toArray⟩) (.bool f.nv)).heap.size = w2.heap.size) := by show _ = _; rw [set3_size]; rfl
      refine wp_region_held_drew (S := fun w' => w'.cell? ⟨w.heap.size, 0, none⟩ = some (.slice B RL d) ∧ w'.cell? ⟨w.heap.size, 1, none⟩ = some (.int .i64 (M : Int)) ∧ w'.cell? ⟨w.heap.size, 2, none⟩ = some (.int .i64 (cap : Int)) ∧ w'.cell? ⟨w1.heap.size, 0, none⟩ = some (.string ⟨f.nm.toArray⟩) ∧ w'.cell? ⟨w1.heap.size, 1, none⟩ = some (.string ⟨f.vl.toArray⟩) ∧ w'.cell? ⟨w1.heap.size, 2, none⟩ = some (.bool f.nv)) (by kernel_rfl) ⟨HBx.out.cell (j := 0) rfl, HBx.out.cell (j := 1) rfl, HBx.out.cell (j := 2) rfl, HFx.out.cell (j := 0) rfl, HFx.out.cell (j := 1) rfl, HFx.out.cell (j := 2) rfl⟩ (fun hHeld => ?_)
      have e0 : w2.cell? ⟨w.heap.size + 1, 0, none⟩ = some (.string ⟨#[]⟩) := HR2.out.cell (j := 0) rfl
      have e1 : w2.cell? ⟨w.heap.size + 1, 1, none⟩ = some (.string ⟨#[]⟩) := HR2.out.cell (j := 1) rfl
      have e2 : w2.cell? ⟨w.heap.size + 1, 2, none⟩ = some (.bool false) := HR2.out.cell (j := 2) rfl
      have t0 : w2.frozen? ⟨w.heap.size + 1, 0, none⟩ = false := HR2.out.thawed 0
      have t1 : w2.frozen? ⟨w.heap.size + 1, 1, none⟩ = false := HR2.out.thawed 1
      have t2 : w2.frozen? ⟨w.heap.size + 1, 2, none⟩ = false := HR2.out.thawed 2
      refine wpAnyH_take (i := 0) (v := ?v0q3) rfl (by kernel_rfl) (by kernel_rfl) (by kernel_rfl) (fun _ _ _ h => h) (Or.inl ⟨by rfl, ?hy0q3⟩) (by assumption) ?rest0q3
      case hy0q3 => (intro w hSw; (try dsimp only at hSw); go_simp <;> with_reducible rfl)
      try simp only [Act.put, List.getElem_toArray, List.getElem_cons_zero, List.setIfInBounds_toArray, List.set_cons_zero, List.set_cons_succ]
      refine wpAnyH_take (i := 1) (v := ?v1q3) rfl (by kernel_rfl) (by kernel_rfl) (by kernel_rfl) (fun _ _ _ h => h) (Or.inl ⟨by rfl, ?hy1q3⟩) (by assumption) ?rest1q3
      case hy1q3 => (intro w hSw; (try dsimp only at hSw); go_simp <;> with_reducible rfl)
      try simp only [Act.put, List.getElem_toArray, List.getElem_cons_zero, List.getElem_cons_succ, List.setIfInBounds_toArray, List.set_cons_zero, List.set_cons_succ]
      refine wpAnyH_take (i := 2) (v := ?v2q3) rfl (by kernel_rfl) (by kernel_rfl) (by kernel_rfl) (fun _ _ _ h => h) (Or.inl ⟨by rfl, ?hy2q3⟩) (by assumption) ?rest2q3
      case hy2q3 => (intro w hSw; (try dsimp only at hSw); go_simp <;> with_reducible rfl)
      try simp only [Act.put, List.getElem_toArray, List.getElem_cons_zero, List.getElem_cons_succ, List.setIfInBounds_toArray, List.set_cons_zero, List.set_cons_succ]
      refine wpAnyH_take (i := 3) (v := ?v3q3) rfl (by kernel_rfl) (by kernel_rfl) (by kernel_rfl) (fun _ _ _ h => h) (Or.inl ⟨by rfl, ?hy3q3⟩) (by assumption) ?rest3q3
      case hy3q3 => (intro w hSw; (try dsimp only at hSw); go_simp <;> with_reducible rfl)
      try simp only [Act.put, List.getElem_toArray, List.getElem_cons_zero, List.getElem_cons_succ, List.setIfInBounds_toArray, List.set_cons_zero, List.set_cons_succ]
      refine wpAnyH_take (i := 4) (v := ?v4q3) rfl (by kernel_rfl) (by kernel_rfl) (by kernel_rfl) (fun _ _ _ h => h) (Or.inl ⟨by rfl, ?hy4q3⟩) (by assumption) ?rest4q3
      case hy4q3 => (intro w hSw; (try dsimp only at hSw); go_simp <;> with_reducible rfl)
      try simp only [Act.put, List.getElem_toArray, List.getElem_cons_zero, List.getElem_cons_succ, List.setIfInBounds_toArray, List.set_cons_zero, List.set_cons_succ]
      refine wpAnyH_take (i := 5) (v := ?v5q3) rfl (by kernel_rfl) (by kernel_rfl) (by kernel_rfl) (fun _ _ _ h => h) (Or.inl ⟨by rfl, ?hy5q3⟩) (by assumption) ?rest5q3
      case hy5q3 => (intro w hSw; (try dsimp only at hSw); go_simp <;> with_reducible rfl)
      try simp only [Act.put, List.getElem_toArray, List.getElem_cons_zero, List.getElem_cons_succ, List.setIfInBounds_toArray, List.set_cons_zero, List.set_cons_succ]
      refine wpAnyH_take (i := 6) (v := ?v6q3) rfl (by kernel_rfl) (by kernel_rfl) (by kernel_rfl) (fun _ _ _ h => h) (Or.inl ⟨by rfl, ?hy6q3⟩) (by assumption) ?rest6q3
      case hy6q3 => (intro w hSw; (try dsimp only at hSw); go_simp <;> with_reducible rfl)
      try simp only [Act.put, List.getElem_toArray, List.getElem_cons_zero, List.getElem_cons_succ, List.setIfInBounds_toArray, List.set_cons_zero, List.set_cons_succ]
      refine wpAnyH_take (i := 7) (v := ?v7q3) rfl (by kernel_rfl) (by kernel_rfl) (by kernel_rfl) (fun _ _ _ h => h) (Or.inl ⟨by rfl, ?hy7q3⟩) (by assumption) ?rest7q3
      case hy7q3 => (intro w hSw; (try dsimp only at hSw); go_simp <;> with_reducible rfl)
      try simp only [Act.put, List.getElem_toArray, List.getElem_cons_zero, List.getElem_cons_succ, List.setIfInBounds_toArray, List.set_cons_zero, List.set_cons_succ]
      refine wpAnyH_take (i := 8) (v := ?v8q3) rfl (by kernel_rfl) (by kernel_rfl) (by kernel_rfl) (fun _ _ _ h => h) (Or.inl ⟨by rfl, ?hy8q3⟩) (by assumption) ?rest8q3
      case hy8q3 => (intro w hSw; (try dsimp only at hSw); go_simp <;> with_reducible rfl)
      try simp only [Act.put, List.getElem_toArray, List.getElem_cons_zero, List.getElem_cons_succ, List.setIfInBounds_toArray, List.set_cons_zero, List.set_cons_succ]
      refine wpAnyH_take (i := 9) (v := ?v9q3) rfl (by kernel_rfl) (by kernel_rfl) (by kernel_rfl) (fun _ _ _ h => h) (Or.inl ⟨by rfl, ?hy9q3⟩) (by assumption) ?rest9q3
      case hy9q3 => (intro w hSw; (try dsimp only at hSw); go_simp <;> with_reducible rfl)
      try simp only [Act.put, List.getElem_toArray, List.getElem_cons_zero, List.getElem_cons_succ, List.setIfInBounds_toArray, List.set_cons_zero, List.set_cons_succ]
      refine wpAnyH_ready (rs := [10]) (by kernel_rfl) (by simp) ?_
      refine AllReadyH.cons rfl (fun K hK => ?_) AllReadyH.nil
      go_simp
      change K _ (set3 w2.drew (w.heap.size + 1) (.string ⟨f.nm.toArray⟩) (.string ⟨f.vl.toArray⟩) (.bool f.nv))
      clear e0 e1 e2 t0 t1 t2 hHeld
      generalize set3 w2.drew (w.heap.size + 1) (.string ⟨f.nm.toArray⟩) (.string ⟨f.vl.toArray⟩) (.bool f.nv) = w7 at *
      refine hK.out _ _ ⟨HB3.out.cell (j := 0) rfl, HB3.out.cell (j := 1) rfl, HB3.out.cell (j := 2) rfl, HF3.out.cell (j := 0) rfl, HF3.out.cell (j := 1) rfl, HF3.out.cell (j := 2) rfl⟩ (fun hHeld => ?_)
      clear hK K HBx HFx
      try simp only [Act.put, List.getElem_toArray, List.getElem_cons_zero, List.getElem_cons_succ, List.setIfInBounds_toArray, List.set_cons_zero, List.set_cons_succ]
      refine wpAnyH_take (i := 11) (v := ?v11q4) rfl (by kernel_rfl) (by kernel_rfl) (by kernel_rfl) (fun _ _ _ h => h) (Or.inl ⟨by rfl, ?hy11q4⟩) (by assumption) ?rest11q4
      case hy11q4 => (intro w hSw; (try dsimp only at hSw); go_simp <;> with_reducible rfl)
      try simp only [Act.put, List.getElem_toArray, List.getElem_cons_zero, List.getElem_cons_succ, List.setIfInBounds_toArray, List.set_cons_zero, List.set_cons_succ]
      have HB4 : Hid (Row (set3 w7 (w.heap.size + 2) (.slice B RL d) (.int .i64 (M : Int)) (.int .i64 (cap : Int))) w.heap.size 35 #[.slice B RL d, .int .i64 (M : Int), .int .i64 (cap : Int)]) := set3_other (by omega) HB3.out
      have HF4 : Hid (Row (set3 w7 (w.heap.size + 2) (.slice B RL d) (.int .i64 (M : Int)) (.int .i64 (cap : Int))) w1.heap.size 52 #[.string ⟨f.nm.toArray⟩, .string ⟨f.vl.toArray⟩, .bool f.nv]) := set3_other (by omega) HF3.out
      have HR4 : Hid (Row (set3 w7 (w.heap.size + 2) (.slice B RL d) (.int .i64 (M : Int)) (.int .i64 (cap : Int))) (w.heap.size + 1) 52 #[.string ⟨f.nm.toArray⟩, .string ⟨f.vl.toArray⟩, .bool f.nv]) := set3_other (by omega) HR3.out
      have HQ4 : Hid (Row (set3 w7 (w.heap.size + 2) (.slice B RL d) (.int .i64 (M : Int)) (.int .i64 (cap : Int))) (w.heap.size + 2) 35 #[.slice B RL d, .int .i64 (M : Int), .int .i64 (cap : Int)]) := set3_own HQ3.out
      have HW4 : Hid (Below w.heap.size w (set3 w7 (w.heap.size + 2) (.slice B RL d) (.int .i64 (M : Int)) (.int .i64 (cap : Int)))) := set3_below HW3.out (by omega)
      have e0 := HQ3.out.cell (j := 0) rfl
      have e1 := HQ3.out.cell (j := 1) rfl
      have e2 := HQ3.out.cell (j := 2) rfl
      have t0 := HQ3.out.thawed 0
      have t1 := HQ3.out.thawed 1
      have t2 := HQ3.out.thawed 2
      refine wpAnyH_ready (rs := [12]) (by kernel_rfl) (by simp) ?_
      refine AllReadyH.cons rfl (fun K hK => ?_) AllReadyH.nil
      go_simp
      change K _ (set3 w7 (w.heap.size + 2) (.slice B RL d) (.int .i64 (M : Int)) (.int .i64 (cap : Int)))
      clear e0 e1 e2 t0 t1 t2 hHeld HB3 HF3 HR3 HQ3
      have HS4 : Hid ((set3 w7 (w.heap.size + 2) (.slice B RL d) (.int .i64 (M : Int)) (.int .i64 (cap : Int))).heap.size = w7.heap.size) := by show _ = _; rw [set3_size]
      generalize set3 w7 (w.heap.size + 2) (.slice B RL d) (.int .i64 (M : Int)) (.int .i64 (cap : Int)) = w8 at *
      refine hK.out _ _ ⟨HB4.out.cell (j := 0) rfl, HB4.out.cell (j := 1) rfl, HB4.out.cell (j := 2) rfl, HF4.out.cell (j := 0) rfl, HF4.out.cell (j := 1) rfl, HF4.out.cell (j := 2) rfl⟩ (fun hHeld => ?_)
      clear hK K
      try simp only [Act.put, List.getElem_toArray, List.getElem_cons_zero, List.getElem_cons_succ, List.setIfInBounds_toArray, List.set_cons_zero, List.set_cons_succ]
      refine wpAnyH_take (i := 13) (v := ?v13q5) rfl (by kernel_rfl) (by kernel_rfl) (by kernel_rfl) (fun _ _ _ h => h) (Or.inl ⟨by rfl, ?hy13q5⟩) (by assumption) ?rest13q5
      case hy13q5 => (intro w hSw; (try dsimp only at hSw); go_simp <;> with_reducible rfl)
      try simp only [Act.put, List.getElem_toArray, List.getElem_cons_zero, List.getElem_cons_succ, List.setIfInBounds_toArray, List.set_cons_zero, List.set_cons_succ]
      refine wpAnyH_done (by kernel_rfl) ?_ _
      go_wp2_with fail
      refine bodyPost_ret (ret_fld rfl _ _ (w.heap.size + 1) (w.heap.size + 2) #[.string ⟨f.nm.toArray⟩, .string ⟨f.vl.toArray⟩, .bool f.nv] #[.slice B RL d, .int .i64 (M : Int), .int .i64 (cap : Int)] rfl rfl HR4.out rfl HQ4.out rfl) rfl ?_
      refine ⟨⟨at_ + u, f, B, d, ?_, rfl, by omega, rfl, ((hT0.keep fun b hb => HW4.out.block b (hTl b hb)).imp fun b hb _ => .inl hb), by rw [HRL.out]; exact hd⟩, HW4.out⟩
      rw [HRL.out]
      rfl
  · -- a field that comes into the table
    obtain rfl : KR = 1 := k2 rfl
    have hli := HLIT.out 6 (by omega) (by omega) w0 HW.out
    have hpl : X = (litR L 6 (l.drop at_)).map fun p => (⟨addL M ⟨p.1.nm, p.1.vl, false⟩ L, M, out ++ [⟨p.1.nm, p.1.vl, false⟩]⟩, p.2) := HPL.out (by decide) (by decide)
    generalize hY : litR L 6 (l.drop at_) = Y at *
    have hYf : ∀ f r, Y = some (f, r) → sz f ≤ 60000 ∧ f.nv = false := fun f r h => litR_sz (hY.trans h) (by omega) (by rw [List.length_drop]; omega)
    clear hY HSP HLIT HPL k1 k2 k3 k4 k5
    go_wp2_with fail
    refine hli.mono ?_
    rintro e w1 ⟨he, hb1⟩
    cases Y with
    | none =>
      obtain ⟨f, n, rfl⟩ := he
      obtain rfl : X = none := hpl
      obtain ⟨nm, vl, nv⟩ := f
      unfold fv tx
      simp only
      have hba := (Below.refl w1.heap.size w1).alloc (Nat.le_refl _) (.cells #[.string ⟨nm.toArray⟩, .string ⟨vl.toArray⟩, .bool nv] 52)
      have hbb := hb1.trans (hba.mono hb1.size)
      have HW2 := Lib.hid (HW.out.trans (hbb.mono HW.out.size))
      have HB2 := Lib.hid (HB.out.below hbb HB.out.lt)
      have HR2 := Lib.hid (HR.out.below hbb HR.out.lt)
      have HD2 := Lib.hid (HD.out.below hbb HD.out.lt)
      have HF2 := Lib.hid (Row.new w1 52 #[.string ⟨nm.toArray⟩, .string ⟨vl.toArray⟩, .bool nv])
      have hs1 := hb1.size
      have hsa : (w1.alloc (.cells #[.string ⟨nm.toArray⟩, .string ⟨vl.toArray⟩, .bool nv] 52)).heap.size = w1.heap.size + 1 := by simp
      have HSA := Lib.hid hsa
      clear hb1 hba hbb HB HR HD hkd hli hsa b0 b1 b2 r0 r1 r2 z0 z1 z2 q0 q1 q2 y0 y1 y2
      go_wp2_with fail
      generalize w1.alloc (.cells #[.string ⟨nm.toArray⟩, .string ⟨vl.toArray⟩, .bool nv] 52) = w2 at *
      have HBx : Hid (Row w2.drew w.heap.size 35 #[.slice B RL d, .int .i64 (M : Int), .int .i64 (cap : Int)]) := HB2.out
      have HFx : Hid (Row w2.drew w1.heap.size 52 #[.string ⟨nm.toArray⟩, .string ⟨vl.toArray⟩, .bool nv]) := HF2.out
      have HB3 : Hid (Row (set3 w2.drew (w.heap.size + 1) (.string ⟨nm.toArray⟩) (.string ⟨vl.toArray⟩) (.bool nv)) w.heap.size 35 #[.slice B RL d, .int .i64 (M : Int), .int .i64 (cap : Int)]) := set3_other (by omega) HBx.out
      have HF3 : Hid (Row (set3 w2.drew (w.heap.size + 1) (.string ⟨nm.toArray⟩) (.string ⟨vl.toArray⟩) (.bool nv)) w1.heap.size 52 #[.string ⟨nm.toArray⟩, .string ⟨vl.toArray⟩, .bool nv]) := set3_other (by omega) HFx.out
      have HR3 : Hid (Row (set3 w2.drew (w.heap.size + 1) (.string ⟨nm.toArray⟩) (.string ⟨vl.toArray⟩) (.bool nv)) (w.heap.size + 1) 52 #[.string ⟨nm.toArray⟩, .string ⟨vl.toArray⟩, .bool nv]) := set3_own HR2.out
      have HQ3 : Hid (Row (set3 w2.drew (w.heap.size + 1) (.string ⟨nm.toArray⟩) (.string ⟨vl.toArray⟩) (.bool nv)) (w.heap.size + 2) 35 #[.slice none 0 0, .int .i64 0, .int .i64 0]) := set3_other (by omega) HD2.out
      have HW3 : Hid (Below w.heap.size w (set3 w2.drew (w.heap.size + 1) (.string ⟨nm.toArray⟩) (.string ⟨vl.toArray⟩) (.bool nv))) := set3_below (HW2.out.drew) (by omega)
      have HS3 : Hid ((set3 w2.drew (w.heap.size + 1) (.string ⟨nm.toArray⟩) (.string ⟨vl.toArray⟩) (.bool nv)).heap.size = w2.heap.size) := by show _ = _; rw [set3_size]; rfl
      refine wp_region_held_drew (S := fun w' => w'.cell? ⟨w.heap.size, 0, none⟩ = some (.slice B RL d) ∧ w'.cell? ⟨w.heap.size, 1, none⟩ = some (.int .i64 (M : Int)) ∧ w'.cell? ⟨w.heap.size, 2, none⟩ = some (.int .i64 (cap : Int)) ∧ w'.cell? ⟨w1.heap.size, 0, none⟩ = some (.string ⟨nm.toArray⟩) ∧ w'.cell? ⟨w1.heap.size, 1, none⟩ = some (.string ⟨vl.toArray⟩) ∧ w'.cell? ⟨w1.heap.size, 2, none⟩ = some (.bool nv)) (by kernel_rfl) ⟨HBx.out.cell (j := 0) rfl, HBx.out.cell (j := 1) rfl, HBx.out.cell (j := 2) rfl, HFx.out.cell (j := 0) rfl, HFx.out.cell (j := 1) rfl, HFx.out.cell (j := 2) rfl⟩ (fun hHeld => ?_)
      have e0 : w2.cell? ⟨w.heap.size + 1, 0, none⟩ = some (.string ⟨#[]⟩) := HR2.out.cell (j := 0) rfl
      have e1 : w2.cell? ⟨w.heap.size + 1, 1, none⟩ = some (.string ⟨#[]⟩) := HR2.out.cell (j := 1) rfl
      have e2 : w2.cell? ⟨w.heap.size + 1, 2, none⟩ = some (.bool false) := HR2.out.cell (j := 2) rfl
      have t0 : w2.frozen? ⟨w.heap.size + 1, 0, none⟩ = false := HR2.out.thawed 0
      have t1 : w2.frozen? ⟨w.heap.size + 1, 1, none⟩ = false := HR2.out.thawed 1
      have t2 : w2.frozen? ⟨w.heap.size + 1, 2, none⟩ = false := HR2.out.thawed 2
      refine wpAnyH_take (i := 0) (v := ?v0q6) rfl (by kernel_rfl) (by kernel_rfl) (by kernel_rfl) (fun _ _ _ h => h) (Or.inl ⟨by rfl, ?hy0q6⟩) (by assumption) ?rest0q6
      case hy0q6 => (intro w hSw; (try dsimp only at hSw); go_simp <;> with_reducible rfl)
      try simp only [Act.put, List.getElem_toArray, List.getElem_cons_zero, List.setIfInBounds_toArray, List.set_cons_zero, List.set_cons_succ]
      refine wpAnyH_take (i := 1) (v := ?v1q6) rfl (by kernel_rfl) (by kernel_rfl) (by kernel_rfl) (fun _ _ _ h => h) (Or.inl ⟨by rfl, ?hy1q6⟩) (by assumption) ?rest1q6
      case hy1q6 => (intro w hSw; (try dsimp only at hSw); go_simp <;> with_reducible rfl)
      try simp only [Act.put, List.getElem_toArray, List.getElem_cons_zero, List.getElem_cons_succ, List.setIfInBounds_toArray, List.set_cons_zero, List.set_cons_succ]
      refine wpAnyH_take (i := 2) (v := ?v2q6) rfl (by kernel_rfl) (by kernel_rfl) (by kernel_rfl) (fun _ _ _ h => h) (Or.inl ⟨by rfl, ?hy2q6⟩) (by assumption) ?rest2q6
      case hy2q6 => (intro w hSw; (try dsimp only at hSw); go_simp <;> with_reducible rfl)
      try simp only [Act.put, List.getElem_toArray, List.getElem_cons_zero, List.getElem_cons_succ, List.setIfInBounds_toArray, List.set_cons_zero, List.set_cons_succ]
      refine wpAnyH_take (i := 3) (v := ?v3q6) rfl (by kernel_rfl) (by kernel_rfl) (by kernel_rfl) (fun _ _ _ h => h) (Or.inl ⟨by rfl, ?hy3q6⟩) (by assumption) ?rest3q6
      case hy3q6 => (intro w hSw; (try dsimp only at hSw); go_simp <;> with_reducible rfl)
      try simp only [Act.put, List.getElem_toArray, List.getElem_cons_zero, List.getElem_cons_succ, List.setIfInBounds_toArray, List.set_cons_zero, List.set_cons_succ]
      refine wpAnyH_ready (rs := [4]) (by kernel_rfl) (by simp) ?_
      refine AllReadyH.cons rfl (fun K hK => ?_) AllReadyH.nil
      go_simp
      change K _ (set3 w2.drew (w.heap.size + 1) (.string ⟨nm.toArray⟩) (.string ⟨vl.toArray⟩) (.bool nv))
      clear e0 e1 e2 t0 t1 t2 hHeld
      generalize set3 w2.drew (w.heap.size + 1) (.string ⟨nm.toArray⟩) (.string ⟨vl.toArray⟩) (.bool nv) = w7 at *
      refine hK.out _ _ ⟨HB3.out.cell (j := 0) rfl, HB3.out.cell (j := 1) rfl, HB3.out.cell (j := 2) rfl, HF3.out.cell (j := 0) rfl, HF3.out.cell (j := 1) rfl, HF3.out.cell (j := 2) rfl⟩ (fun hHeld => ?_)
      clear hK K HBx HFx
      try simp only [Act.put, List.getElem_toArray, List.getElem_cons_zero, List.getElem_cons_succ, List.setIfInBounds_toArray, List.set_cons_zero, List.set_cons_succ]
      refine wpAnyH_take (i := 5) (v := ?v5q7) rfl (by kernel_rfl) (by kernel_rfl) (by kernel_rfl) (fun _ _ _ h => h) (Or.inl ⟨by rfl, ?hy5q7⟩) (by assumption) ?rest5q7
      case hy5q7 => (intro w hSw; (try dsimp only at hSw); go_simp <;> with_reducible rfl)
      try simp only [Act.put, List.getElem_toArray, List.getElem_cons_zero, List.getElem_cons_succ, List.setIfInBounds_toArray, List.set_cons_zero, List.set_cons_succ]
      have HB4 : Hid (Row (set3 w7 (w.heap.size + 2) (.slice B RL d) (.int .i64 (M : Int)) (.int .i64 (cap : Int))) w.heap.size 35 #[.slice B RL d, .int .i64 (M : Int), .int .i64 (cap : Int)]) := set3_other (by omega) HB3.out
      have HF4 : Hid (Row (set3 w7 (w.heap.size + 2) (.slice B RL d) (.int .i64 (M : Int)) (.int .i64 (cap : Int))) w1.heap.size 52 #[.string ⟨nm.toArray⟩, .string ⟨vl.toArray⟩, .bool nv]) := set3_other (by omega) HF3.out
      have HR4 : Hid (Row (set3 w7 (w.heap.size + 2) (.slice B RL d) (.int .i64 (M : Int)) (.int .i64 (cap : Int))) (w.heap.size + 1) 52 #[.string ⟨nm.toArray⟩, .string ⟨vl.toArray⟩, .bool nv]) := set3_other (by omega) HR3.out
      have HQ4 : Hid (Row (set3 w7 (w.heap.size + 2) (.slice B RL d) (.int .i64 (M : Int)) (.int .i64 (cap : Int))) (w.heap.size + 2) 35 #[.slice B RL d, .int .i64 (M : Int), .int .i64 (cap : Int)]) := set3_own HQ3.out
      have HW4 : Hid (Below w.heap.size w (set3 w7 (w.heap.size + 2) (.slice B RL d) (.int .i64 (M : Int)) (.int .i64 (cap : Int)))) := set3_below HW3.out (by omega)
      have e0 := HQ3.out.cell (j := 0) rfl
      have e1 := HQ3.out.cell (j := 1) rfl
      have e2 := HQ3.out.cell (j := 2) rfl
      have t0 := HQ3.out.thawed 0
      have t1 := HQ3.out.thawed 1
      have t2 := HQ3.out.thawed 2
      refine wpAnyH_ready (rs := [6]) (by kernel_rfl) (by simp) ?_
      refine AllReadyH.cons rfl (fun K hK => ?_) AllReadyH.nil
      go_simp
      change K _ (set3 w7 (w.heap.size + 2) (.slice B RL d) (.int .i64 (M : Int)) (.int .i64 (cap : Int)))
      clear e0 e1 e2 t0 t1 t2 hHeld HB3 HF3 HR3 HQ3
      have HS4 : Hid ((set3 w7 (w.heap.size + 2) (.slice B RL d) (.int .i64 (M : Int)) (.int .i64 (cap : Int))).heap.size = w7.heap.size) := by show _ = _; rw [set3_size]
      generalize set3 w7 (w.heap.size + 2) (.slice B RL d) (.int .i64 (M : Int)) (.int .i64 (cap : Int)) = w8 at *
      refine hK.out _ _ ⟨HB4.out.cell (j := 0) rfl, HB4.out.cell (j := 1) rfl, HB4.out.cell (j := 2) rfl, HF4.out.cell (j := 0) rfl, HF4.out.cell (j := 1) rfl, HF4.out.cell (j := 2) rfl⟩ (fun hHeld => ?_)
      clear hK K
      try simp only [Act.put, List.getElem_toArray, List.getElem_cons_zero, List.getElem_cons_succ, List.setIfInBounds_toArray, List.set_cons_zero, List.set_cons_succ]
      refine wpAnyH_take (i := 7) (v := ?v7q8) rfl (by kernel_rfl) (by kernel_rfl) (by kernel_rfl) (fun _ _ _ h => h) (Or.inl ⟨by rfl, ?hy7q8⟩) (by assumption) ?rest7q8
      case hy7q8 => (intro w hSw; (try dsimp only at hSw); go_simp <;> with_reducible rfl)
      try simp only [Act.put, List.getElem_toArray, List.getElem_cons_zero, List.getElem_cons_succ, List.setIfInBounds_toArray, List.set_cons_zero, List.set_cons_succ]
      refine wpAnyH_done (by kernel_rfl) ?_ _
      go_wp2_with fail
      refine bodyPost_ret (ret_fld rfl _ _ (w.heap.size + 1) (w.heap.size + 2) #[.string ⟨nm.toArray⟩, .string ⟨vl.toArray⟩, .bool nv] #[.slice B RL d, .int .i64 (M : Int), .int .i64 (cap : Int)] rfl rfl HR4.out rfl HQ4.out rfl) rfl ?_
      exact ⟨⟨⟨nm, vl, nv⟩, _, _, _, _, _, _, rfl⟩, HW4.out⟩
    | some y =>
      obtain ⟨f, r⟩ := y
      obtain ⟨hf1, hf2⟩ := hYf f r rfl
      obtain ⟨p, rfl, hp1, hp2⟩ := he
      obtain ⟨nm, vl, nv⟩ := f
      obtain rfl : nv = false := hf2
      obtain rfl : X = some ((⟨addL M (⟨nm, vl, false⟩ : Fd) L, M, out ++ [(⟨nm, vl, false⟩ : Fd)]⟩ : Rd), r) := hpl
      have hadd := fun (W : World) (h : Below w.heap.size w W) => radd_any (w := W) (c := d) M ⟨nm, vl, false⟩ (by omega) (by omega) (hT.up h) (by rw [tot_reverse]; omega) (fun g hg => by have := tot_mem hg; rw [tot_reverse] at this; omega) (by rw [HRL.out]; exact hd)
      rw [raddL_reverse] at hadd
      obtain ⟨AL, hAL⟩ : ∃ AL, AL = (addL M ⟨nm, vl, false⟩ L).reverse := ⟨_, rfl⟩
      rw [← hAL] at hadd
      have HAL := Lib.hid hAL
      clear hAL
      unfold MadeT at hadd
      unfold tv fv tx at hadd
      rw [HRL.out] at hadd
      unfold fv tx
      simp only at hadd ⊢
      have hba := (Below.refl w1.heap.size w1).alloc (Nat.le_refl _) (.cells #[.string ⟨nm.toArray⟩, .string ⟨vl.toArray⟩, .bool false] 52)
      have hbb := hb1.trans (hba.mono hb1.size)
      have HW2 := Lib.hid (HW.out.trans (hbb.mono HW.out.size))
      have HB2 := Lib.hid (HB.out.below hbb HB.out.lt)
      have HR2 := Lib.hid (HR.out.below hbb HR.out.lt)
      have HD2 := Lib.hid (HD.out.below hbb HD.out.lt)
      have HF2 := Lib.hid (Row.new w1 52 #[.string ⟨nm.toArray⟩, .string ⟨vl.toArray⟩, .bool false])
      have hs1 := hb1.size
      have hsa : (w1.alloc (.cells #[.string ⟨nm.toArray⟩, .string ⟨vl.toArray⟩, .bool false] 52)).heap.size = w1.heap.size + 1 := by simp
      have HSA := Lib.hid hsa
      have m0 := HB2.out.cell (j := 0) rfl
      have m1 := HB2.out.cell (j := 1) rfl
      have m2 := HB2.out.cell (j := 2) rfl
      clear hb1 hba hbb HB HR HD hkd hli hsa b0 b1 b2 r0 r1 r2 z0 z1 z2 q0 q1 q2 y0 y1 y2
      go_wp2_with fail
      clear m0 m1 m2
      generalize w1.alloc (.cells #[.string ⟨nm.toArray⟩, .string ⟨vl.toArray⟩, .bool false] 52) = w2 at *
      refine (hadd _ HW2.out).mono ?_
      rintro e w3 ⟨A', c', rfl, hR3, hc3, hb3⟩
      have hs3 := hb3.size
      have HB4a := Lib.hid (HB2.out.below hb3 HB2.out.lt)
      have HF4a := Lib.hid (HF2.out.below hb3 HF2.out.lt)
      have HR4a := Lib.hid (HR2.out.below hb3 HR2.out.lt)
      have HD4a := Lib.hid (HD2.out.below hb3 HD2.out.lt)
      have HW4a := Lib.hid (HW2.out.trans (hb3.mono HW2.out.size))
      have g0 := HB4a.out.cell (j := 0) rfl
      have g1 := HB4a.out.cell (j := 1) rfl
      have g2 := HB4a.out.thawed 0
      have g3 := HB4a.out.thawed 1
      clear HB2 HF2 HR2 HD2 HW2 hb3 hadd
      go_wp2_with fail
      have HB5 : Hid (Row ((w3.setCell ⟨w.heap.size, 0, none⟩ (.slice A' AL.length c')).setCell ⟨w.heap.size, 1, none⟩ (.int .i64 (M : Int))) w.heap.size 35 #[.slice A' AL.length c', .int .i64 (M : Int), .int .i64 (cap : Int)]) := (HB4a.out.stored 0 _).stored 1 _
      have HF5 : Hid (Row ((w3.setCell ⟨w.heap.size, 0, none⟩ (.slice A' AL.length c')).setCell ⟨w.heap.size, 1, none⟩ (.int .i64 (M : Int))) w1.heap.size 52 #[.string ⟨nm.toArray⟩, .string ⟨vl.toArray⟩, .bool false]) := set2_other (by omega) HF4a.out
      have HR5 : Hid (Row ((w3.setCell ⟨w.heap.size, 0, none⟩ (.slice A' AL.length c')).setCell ⟨w.heap.size, 1, none⟩ (.int .i64 (M : Int))) (w.heap.size + 1) 52 #[.string ⟨#[]⟩, .string ⟨#[]⟩, .bool false]) := set2_other (by omega) HR4a.out
      have HD5 : Hid (Row ((w3.setCell ⟨w.heap.size, 0, none⟩ (.slice A' AL.length c')).setCell ⟨w.heap.size, 1, none⟩ (.int .i64 (M : Int))) (w.heap.size + 2) 35 #[.slice none 0 0, .int .i64 0, .int .i64 0]) := set2_other (by omega) HD4a.out
      have HW5 : Hid (Below w.heap.size w ((w3.setCell ⟨w.heap.size, 0, none⟩ (.slice A' AL.length c')).setCell ⟨w.heap.size, 1, none⟩ (.int .i64 (M : Int)))) := (HW4a.out.setCell (p := ⟨w.heap.size, 0, none⟩) (Nat.le_refl _) _).setCell (p := ⟨w.heap.size, 1, none⟩) (Nat.le_refl _) _
      have HS5 : Hid (((w3.setCell ⟨w.heap.size, 0, none⟩ (.slice A' AL.length c')).setCell ⟨w.heap.size, 1, none⟩ (.int .i64 (M : Int))).heap.size = w3.heap.size) := by show _ = _; simp [World.setCell]
      have HXs : Hid (w.heap.size + 3 ≤ w2.heap.size) := by have h1 := HSZ.out; have h2 := HSA.out; show _ ≤ _; omega
      have hXs := HXs.out
      have HR5x : Hid (RdS ((w3.setCell ⟨w.heap.size, 0, none⟩ (.slice A' AL.length c')).setCell ⟨w.heap.size, 1, none⟩ (.int .i64 (M : Int))) (fun b => w2.heap.size ≤ b ∧ b < w3.heap.size) A' (enl fdc AL)) := hR3.keep fun b hb => (Below.heap_setCell _ _ _ b (by have := hb.1; show b ≠ w.heap.size; omega)).trans (Below.heap_setCell _ _ _ b (by have := hb.1; show b ≠ w.heap.size; omega))
      clear g0 g1 g2 g3 HB4a HF4a HR4a HD4a HW4a
      generalize (w3.setCell ⟨w.heap.size, 0, none⟩ (.slice A' AL.length c')).setCell ⟨w.heap.size, 1, none⟩ (.int .i64 (M : Int)) = w5 at *
      have HBx : Hid (Row w5.drew w.heap.size 35 #[.slice A' AL.length c', .int .i64 (M : Int), .int .i64 (cap : Int)]) := HB5.out
      have HFx : Hid (Row w5.drew w1.heap.size 52 #[.string ⟨nm.toArray⟩, .string ⟨vl.toArray⟩, .bool false]) := HF5.out
      have HB3 : Hid (Row (set3 w5.drew (w.heap.size + 1) (.string ⟨nm.toArray⟩) (.string ⟨vl.toArray⟩) (.bool false)) w.heap.size 35 #[.slice A' AL.length c', .int .i64 (M : Int), .int .i64 (cap : Int)]) := set3_other (by omega) HBx.out
      have HF3 : Hid (Row (set3 w5.drew (w.heap.size + 1) (.string ⟨nm.toArray⟩) (.string ⟨vl.toArray⟩) (.bool false)) w1.heap.size 52 #[.string ⟨nm.toArray⟩, .string ⟨vl.toArray⟩, .bool false]) := set3_other (by omega) HFx.out
      have HR3 : Hid (Row (set3 w5.drew (w.heap.size + 1) (.string ⟨nm.toArray⟩) (.string ⟨vl.toArray⟩) (.bool false)) (w.heap.size + 1) 52 #[.string ⟨nm.toArray⟩, .string ⟨vl.toArray⟩, .bool false]) := set3_own HR5.out
      have HQ3 : Hid (Row (set3 w5.drew (w.heap.size + 1) (.string ⟨nm.toArray⟩) (.string ⟨vl.toArray⟩) (.bool false)) (w.heap.size + 2) 35 #[.slice none 0 0, .int .i64 0, .int .i64 0]) := set3_other (by omega) HD5.out
      have HW3 : Hid (Below w.heap.size w (set3 w5.drew (w.heap.size + 1) (.string ⟨nm.toArray⟩) (.string ⟨vl.toArray⟩) (.bool false))) := set3_below (HW5.out.drew) (by omega)
      have HX3 : Hid (RdS (set3 w5.drew (w.heap.size + 1) (.string ⟨nm.toArray⟩) (.string ⟨vl.toArray⟩) (.bool false)) (fun b => w2.heap.size ≤ b ∧ b < w3.heap.size) A' (enl fdc AL)) := set3_rds (HR5x.out.keep fun _ _ => rfl) (fun b hb => by have := hb.1; omega)
      have HS3 : Hid ((set3 w5.drew (w.heap.size + 1) (.string ⟨nm.toArray⟩) (.string ⟨vl.toArray⟩) (.bool false)).heap.size = w5.heap.size) := by show _ = _; rw [set3_size]; rfl
      refine wp_region_held_drew (S := fun w' => w'.cell? ⟨w.heap.size, 0, none⟩ = some (.slice A' AL.length c') ∧ w'.cell? ⟨w.heap.size, 1, none⟩ = some (.int .i64 (M : Int)) ∧ w'.cell? ⟨w.heap.size, 2, none⟩ = some (.int .i64 (cap : Int)) ∧ w'.cell? ⟨w1.heap.size, 0, none⟩ = some (.string ⟨nm.toArray⟩) ∧ w'.cell? ⟨w1.heap.size, 1, none⟩ = some (.string ⟨vl.toArray⟩) ∧ w'.cell? ⟨w1.heap.size, 2, none⟩ = some (.bool false)) (by kernel_rfl) ⟨HBx.out.cell (j := 0) rfl, HBx.out.cell (j := 1) rfl, HBx.out.cell (j := 2) rfl, HFx.out.cell (j := 0) rfl, HFx.out.cell (j := 1) rfl, HFx.out.cell (j := 2) rfl⟩ (fun hHeld => ?_)
      have e0 : w5.cell? ⟨w.heap.size + 1, 0, none⟩ = some (.string ⟨#[]⟩) := HR5.out.cell (j := 0) rfl
      have e1 : w5.cell? ⟨w.heap.size + 1, 1, none⟩ = some (.string ⟨#[]⟩) := HR5.out.cell (j := 1) rfl
      have e2 : w5.cell? ⟨w.heap.size + 1, 2, none⟩ = some (.bool false) := HR5.out.cell (j := 2) rfl
      have t0 : w5.frozen? ⟨w.heap.size + 1, 0, none⟩ = false := HR5.out.thawed 0
      have t1 : w5.frozen? ⟨w.heap.size + 1, 1, none⟩ = false := HR5.out.thawed 1
      have t2 : w5.frozen? ⟨w.heap.size + 1, 2, none⟩ = false := HR5.out.thawed 2
      refine wpAnyH_take (i := 0) (v := ?v0q9) rfl (by kernel_rfl) (by kernel_rfl) (by kernel_rfl) (fun _ _ _ h => h) (Or.inl ⟨by rfl, ?hy0q9⟩) (by assumption) ?rest0q9
      case hy0q9 => (intro w hSw; (try dsimp only at hSw); go_simp <;> with_reducible rfl)
      try simp only [Act.put, List.getElem_toArray, List.getElem_cons_zero, List.setIfInBounds_toArray, List.set_cons_zero, List.set_cons_succ]
      refine wpAnyH_take (i := 1) (v := ?v1q9) rfl (by kernel_rfl) (by kernel_rfl) (by kernel_rfl) (fun _ _ _ h => h) (Or.inl ⟨by rfl, ?hy1q9⟩) (by assumption) ?rest1q9
      case hy1q9 => (intro w hSw; (try dsimp only at hSw); go_simp <;> with_reducible rfl)
      try simp only [Act.put, List.getElem_toArray, List.getElem_cons_zero, List.getElem_cons_succ, List.setIfInBounds_toArray, List.set_cons_zero, List.set_cons_succ]
      refine wpAnyH_take (i := 2) (v := ?v2q9) rfl (by kernel_rfl) (by kernel_rfl) (by kernel_rfl) (fun _ _ _ h => h) (Or.inl ⟨by rfl, ?hy2q9⟩) (by assumption) ?rest2q9
      case hy2q9 => (intro w hSw; (try dsimp only at hSw); go_simp <;> with_reducible rfl)
      try simp only [Act.put, List.getElem_toArray, List.getElem_cons_zero, List.getElem_cons_succ, List.setIfInBounds_toArray, List.set_cons_zero, List.set_cons_succ]
      refine wpAnyH_take (i := 3) (v := ?v3q9) rfl (by kernel_rfl) (by kernel_rfl) (by kernel_rfl) (fun _ _ _ h => h) (Or.inl ⟨by rfl, ?hy3q9⟩) (by assumption) ?rest3q9
      case hy3q9 => (intro w hSw; (try dsimp only at hSw); go_simp <;> with_reducible rfl)
      try simp only [Act.put, List.getElem_toArray, List.getElem_cons_zero, List.getElem_cons_succ, List.setIfInBounds_toArray, List.set_cons_zero, List.set_cons_succ]
      refine wpAnyH_ready (rs := [4]) (by kernel_rfl) (by simp) ?_
      refine AllReadyH.cons rfl (fun K hK => ?_) AllReadyH.nil
      go_simp
      change K _ (set3 w5.drew (w.heap.size + 1) (.string ⟨nm.toArray⟩) (.string ⟨vl.toArray⟩) (.bool false))
      clear e0 e1 e2 t0 t1 t2 hHeld
      generalize set3 w5.drew (w.heap.size + 1) (.string ⟨nm.toArray⟩) (.string ⟨vl.toArray⟩) (.bool false) = w7 at *
      refine hK.out _ _ ⟨HB3.out.cell (j := 0) rfl, HB3.out.cell (j := 1) rfl, HB3.out.cell (j := 2) rfl, HF3.out.cell (j := 0) rfl, HF3.out.cell (j := 1) rfl, HF3.out.cell (j := 2) rfl⟩ (fun hHeld => ?_)
      clear hK K HBx HFx
      try simp only [Act.put, List.getElem_toArray, List.getElem_cons_zero, List.getElem_cons_succ, List.setIfInBounds_toArray, List.set_cons_zero, List.set_cons_succ]
      refine wpAnyH_take (i := 5) (v := ?v5q10) rfl (by kernel_rfl) (by kernel_rfl) (by kernel_rfl) (fun _ _ _ h => h) (Or.inl ⟨by rfl, ?hy5q10⟩) (by assumption) ?rest5q10
      case hy5q10 => (intro w hSw; (try dsimp only at hSw); go_simp <;> with_reducible rfl)
      try simp only [Act.put, List.getElem_toArray, List.getElem_cons_zero, List.getElem_cons_succ, List.setIfInBounds_toArray, List.set_cons_zero, List.set_cons_succ]
      have HB4 : Hid (Row (set3 w7 (w.heap.size + 2) (.slice A' AL.length c') (.int .i64 (M : Int)) (.int .i64 (cap : Int))) w.heap.size 35 #[.slice A' AL.length c', .int .i64 (M : Int), .int .i64 (cap : Int)]) := set3_other (by omega) HB3.out
      have HF4 : Hid (Row (set3 w7 (w.heap.size + 2) (.slice A' AL.length c') (.int .i64 (M : Int)) (.int .i64 (cap : Int))) w1.heap.size 52 #[.string ⟨nm.toArray⟩, .string ⟨vl.toArray⟩, .bool false]) := set3_other (by omega) HF3.out
      have HR4 : Hid (Row (set3 w7 (w.heap.size + 2) (.slice A' AL.length c') (.int .i64 (M : Int)) (.int .i64 (cap : Int))) (w.heap.size + 1) 52 #[.string ⟨nm.toArray⟩, .string ⟨vl.toArray⟩, .bool false]) := set3_other (by omega) HR3.out
      have HQ4 : Hid (Row (set3 w7 (w.heap.size + 2) (.slice A' AL.length c') (.int .i64 (M : Int)) (.int .i64 (cap : Int))) (w.heap.size + 2) 35 #[.slice A' AL.length c', .int .i64 (M : Int), .int .i64 (cap : Int)]) := set3_own HQ3.out
      have HW4 : Hid (Below w.heap.size w (set3 w7 (w.heap.size + 2) (.slice A' AL.length c') (.int .i64 (M : Int)) (.int .i64 (cap : Int)))) := set3_below HW3.out (by omega)
      have HX4 : Hid (RdS (set3 w7 (w.heap.size + 2) (.slice A' AL.length c') (.int .i64 (M : Int)) (.int .i64 (cap : Int))) (fun b => w2.heap.size ≤ b ∧ b < w3.heap.size) A' (enl fdc AL)) := set3_rds HX3.out (fun b hb => by have := hb.1; omega)
      have e0 := HQ3.out.cell (j := 0) rfl
      have e1 := HQ3.out.cell (j := 1) rfl
      have e2 := HQ3.out.cell (j := 2) rfl
      have t0 := HQ3.out.thawed 0
      have t1 := HQ3.out.thawed 1
      have t2 := HQ3.out.thawed 2
      refine wpAnyH_ready (rs := [6]) (by kernel_rfl) (by simp) ?_
      refine AllReadyH.cons rfl (fun K hK => ?_) AllReadyH.nil
      go_simp
      change K _ (set3 w7 (w.heap.size + 2) (.slice A' AL.length c') (.int .i64 (M : Int)) (.int .i64 (cap : Int)))
      clear e0 e1 e2 t0 t1 t2 hHeld HB3 HF3 HR3 HQ3
      have HS4 : Hid ((set3 w7 (w.heap.size + 2) (.slice A' AL.length c') (.int .i64 (M : Int)) (.int .i64 (cap : Int))).heap.size = w7.heap.size) := by show _ = _; rw [set3_size]
      generalize set3 w7 (w.heap.size + 2) (.slice A' AL.length c') (.int .i64 (M : Int)) (.int .i64 (cap : Int)) = w8 at *
      refine hK.out _ _ ⟨HB4.out.cell (j := 0) rfl, HB4.out.cell (j := 1) rfl, HB4.out.cell (j := 2) rfl, HF4.out.cell (j := 0) rfl, HF4.out.cell (j := 1) rfl, HF4.out.cell (j := 2) rfl⟩ (fun hHeld => ?_)
      clear hK K
      try simp only [Act.put, List.getElem_toArray, List.getElem_cons_zero, List.getElem_cons_succ, List.setIfInBounds_toArray, List.set_cons_zero, List.set_cons_succ]
      refine wpAnyH_take (i := 7) (v := ?v7q11) rfl (by kernel_rfl) (by kernel_rfl) (by kernel_rfl) (fun _ _ _ h => h) (Or.inl ⟨by rfl, ?hy7q11⟩) (by assumption) ?rest7q11
      case hy7q11 => (intro w hSw; (try dsimp only at hSw); go_simp <;> with_reducible rfl)
      try simp only [Act.put, List.getElem_toArray, List.getElem_cons_zero, List.getElem_cons_succ, List.setIfInBounds_toArray, List.set_cons_zero, List.set_cons_succ]
      refine wpAnyH_done (by kernel_rfl) ?_ _
      go_wp2_with fail
      refine bodyPost_ret (ret_fld rfl _ _ (w.heap.size + 1) (w.heap.size + 2) #[.string ⟨nm.toArray⟩, .string ⟨vl.toArray⟩, .bool false] #[.slice A' AL.length c', .int .i64 (M : Int), .int .i64 (cap : Int)] rfl rfl HR4.out rfl HQ4.out rfl) rfl ?_
      have hAL := HAL.out
      subst hAL
      exact ⟨⟨p, ⟨nm, vl, false⟩, A', c', rfl, hp1, hp2, rfl, HX4.out.imp (fun b hb _ => .inr (by have h0 := hb.1; have h1 := hb.2; have h2 := HS5.out; have h3 := HS3.out; have h4 := HS4.out; have h5 := HXs.out; exact ⟨by omega, by omega⟩)), hc3⟩, HW4.out⟩
  · exact absurd rfl hk
  · -- a literal that stays out, kind 16
    obtain rfl : KR = 3 := k4 rfl
    have hli := HLIT.out 4 (by omega) (by omega) w0 HW.out
    have hpl : X = (litR L 4 (l.drop at_)).map fun p => (⟨L, M, out ++ [⟨p.1.nm, p.1.vl, true⟩]⟩, p.2) := HPL.out (by decide) (by decide)
    generalize hY : litR L 4 (l.drop at_) = Y at *
    clear hY HSP HLIT HPL k1 k2 k3 k4 k5
    go_wp2_with fail
    refine hli.mono ?_
    rintro e w1 ⟨he, hb1⟩
    have hx : ∃ (f : Fd) (p : Int) (o : Bool), e = .returned (.tuple #[fv f, .int .i64 p, .bool o]) ∧ (o = false → X = none) ∧ (o = true → ∃ (n : Nat) (r : List UInt8), p = n ∧ l.drop n = r ∧ n ≤ l.length ∧ X = some ((⟨L, M, out ++ [(⟨f.nm, f.vl, true⟩ : Fd)]⟩ : Rd), r)) := by
      cases Y with
      | none =>
        obtain ⟨f, n, rfl⟩ := he
        exact ⟨f, n, false, rfl, (fun _ => hpl), (fun h => by cases h)⟩
      | some y =>
        obtain ⟨f, r⟩ := y
        obtain ⟨p, rfl, hp1, hp2⟩ := he
        exact ⟨f, p, true, rfl, (fun h => by cases h), fun _ => ⟨p, r, rfl, hp1, hp2, hpl⟩⟩
    obtain ⟨⟨nm, vl, nv⟩, p, o, rfl, ho1, ho2⟩ := hx
    have HO := Lib.hid (And.intro ho1 ho2)
    clear ho1 ho2 he hpl
    unfold fv tx
    simp only
    have hba := (Below.refl w1.heap.size w1).alloc (Nat.le_refl _) (.cells #[.string ⟨nm.toArray⟩, .string ⟨vl.toArray⟩, .bool nv] 52)
    have hbb := hb1.trans (hba.mono hb1.size)
    have HW2 := Lib.hid (HW.out.trans (hbb.mono HW.out.size))
    have HB2 := Lib.hid (HB.out.below hbb HB.out.lt)
    have HR2 := Lib.hid (HR.out.below hbb HR.out.lt)
    have HD2 := Lib.hid (HD.out.below hbb HD.out.lt)
    have HF2 := Lib.hid (Row.new w1 52 #[.string ⟨nm.toArray⟩, .string ⟨vl.toArray⟩, .bool nv])
    have hs1 := hb1.size
    have hsa : (w1.alloc (.cells #[.string ⟨nm.toArray⟩, .string ⟨vl.toArray⟩, .bool nv] 52)).heap.size = w1.heap.size + 1 := by simp
    have HSA := Lib.hid hsa
    clear hb1 hba hbb HB HR HD hli hsa b0 b1 b2 r0 r1 r2 z0 z1 z2 q0 q1 q2 y0 y1 y2
    have f2 := (HW2.out.cell (p := ⟨g0, o0 + at_, none⟩) hg0).trans HF0.out
    go_wp2_with fail
    generalize w1.alloc (.cells #[.string ⟨nm.toArray⟩, .string ⟨vl.toArray⟩, .bool nv] 52) = w2 at *
    refine (hkd _).mono ?_
    rintro e w3 ⟨rfl, hw3⟩
    subst w3
    have n2 := HF2.out.cell (j := 2) rfl
    have n3 := HF2.out.thawed 2
    clear hkd
    go_wp2_with fail
    have HB5 : Hid (Row (w2.setCell ⟨w1.heap.size, 2, none⟩ (.bool true)) w.heap.size 35 #[.slice B RL d, .int .i64 (M : Int), .int .i64 (cap : Int)]) := (Below.heap_setCell _ _ _ _ (by show _ ≠ w1.heap.size; have := HW.out.size; have := HSZ.out; omega)).trans HB2.out
    have HF5 : Hid (Row (w2.setCell ⟨w1.heap.size, 2, none⟩ (.bool true)) w1.heap.size 52 #[.string ⟨nm.toArray⟩, .string ⟨vl.toArray⟩, .bool true]) := HF2.out.stored 2 _
    have HR5 : Hid (Row (w2.setCell ⟨w1.heap.size, 2, none⟩ (.bool true)) (w.heap.size + 1) 52 #[.string ⟨#[]⟩, .string ⟨#[]⟩, .bool false]) := (Below.heap_setCell _ _ _ _ (by show _ ≠ w1.heap.size; omega)).trans HR2.out
    have HD5 : Hid (Row (w2.setCell ⟨w1.heap.size, 2, none⟩ (.bool true)) (w.heap.size + 2) 35 #[.slice none 0 0, .int .i64 0, .int .i64 0]) := (Below.heap_setCell _ _ _ _ (by show _ ≠ w1.heap.size; omega)).trans HD2.out
    have HW5 : Hid (Below w.heap.size w (w2.setCell ⟨w1.heap.size, 2, none⟩ (.bool true))) := HW2.out.setCell (p := ⟨w1.heap.size, 2, none⟩) (by show _ ≤ w1.heap.size; omega) _
    clear n2 n3 f2 HB2 HF2 HR2 HD2 HW2
    generalize w2.setCell ⟨w1.heap.size, 2, none⟩ (.bool true) = w5 at *
    have HBx : Hid (Row w5.drew w.heap.size 35 #[.slice B RL d, .int .i64 (M : Int), .int .i64 (cap : Int)]) := HB5.out
    have HFx : Hid (Row w5.drew w1.heap.size 52 #[.string ⟨nm.toArray⟩, .string ⟨vl.toArray⟩, .bool true]) := HF5.out
    have HB3 : Hid (Row (set3 w5.drew (w.heap.size + 1) (.string ⟨nm.toArray⟩) (.string ⟨vl.toArray⟩) (.bool true)) w.heap.size 35 #[.slice B RL d, .int .i64 (M : Int), .int .i64 (cap : Int)]) := set3_other (by omega) HBx.out
    have HF3 : Hid (Row (set3 w5.drew (w.heap.size + 1) (.string ⟨nm.toArray⟩) (.string ⟨vl.toArray⟩) (.bool true)) w1.heap.size 52 #[.string ⟨nm.toArray⟩, .string ⟨vl.toArray⟩, .bool true]) := set3_other (by omega) HFx.out
    have HR3 : Hid (Row (set3 w5.drew (w.heap.size + 1) (.string ⟨nm.toArray⟩) (.string ⟨vl.toArray⟩) (.bool true)) (w.heap.size + 1) 52 #[.string ⟨nm.toArray⟩, .string ⟨vl.toArray⟩, .bool true]) := set3_own HR5.out
    have HQ3 : Hid (Row (set3 w5.drew (w.heap.size + 1) (.string ⟨nm.toArray⟩) (.string ⟨vl.toArray⟩) (.bool true)) (w.heap.size + 2) 35 #[.slice none 0 0, .int .i64 0, .int .i64 0]) := set3_other (by omega) HD5.out
    have HW3 : Hid (Below w.heap.size w (set3 w5.drew (w.heap.size + 1) (.string ⟨nm.toArray⟩) (.string ⟨vl.toArray⟩) (.bool true))) := set3_below (HW5.out.drew) (by omega)
    have HS3 : Hid ((set3 w5.drew (w.heap.size + 1) (.string ⟨nm.toArray⟩) (.string ⟨vl.toArray⟩) (.bool true)).heap.size = w5.heap.size) := by show _ = _; rw [set3_size]; rfl
    refine wp_region_held_drew (S := fun w' => w'.cell? ⟨w.heap.size, 0, none⟩ = some (.slice B RL d) ∧ w'.cell? ⟨w.heap.size, 1, none⟩ = some (.int .i64 (M : Int)) ∧ w'.cell? ⟨w.heap.size, 2, none⟩ = some (.int .i64 (cap : Int)) ∧ w'.cell? ⟨w1.heap.size, 0, none⟩ = some (.string ⟨nm.toArray⟩) ∧ w'.cell? ⟨w1.heap.size, 1, none⟩ = some (.string ⟨vl.toArray⟩) ∧ w'.cell? ⟨w1.heap.size, 2, none⟩ = some (.bool true)) (by kernel_rfl) ⟨HBx.out.cell (j := 0) rfl, HBx.out.cell (j := 1) rfl, HBx.out.cell (j := 2) rfl, HFx.out.cell (j := 0) rfl, HFx.out.cell (j := 1) rfl, HFx.out.cell (j := 2) rfl⟩ (fun hHeld => ?_)
    have e0 : w5.cell? ⟨w.heap.size + 1, 0, none⟩ = some (.string ⟨#[]⟩) := HR5.out.cell (j := 0) rfl
    have e1 : w5.cell? ⟨w.heap.size + 1, 1, none⟩ = some (.string ⟨#[]⟩) := HR5.out.cell (j := 1) rfl
    have e2 : w5.cell? ⟨w.heap.size + 1, 2, none⟩ = some (.bool false) := HR5.out.cell (j := 2) rfl
    have t0 : w5.frozen? ⟨w.heap.size + 1, 0, none⟩ = false := HR5.out.thawed 0
    have t1 : w5.frozen? ⟨w.heap.size + 1, 1, none⟩ = false := HR5.out.thawed 1
    have t2 : w5.frozen? ⟨w.heap.size + 1, 2, none⟩ = false := HR5.out.thawed 2
    refine wpAnyH_take (i := 0) (v := ?v0q12) rfl (by kernel_rfl) (by kernel_rfl) (by kernel_rfl) (fun _ _ _ h => h) (Or.inl ⟨by rfl, ?hy0q12⟩) (by assumption) ?rest0q12
    case hy0q12 => (intro w hSw; (try dsimp only at hSw); go_simp <;> with_reducible rfl)
    try simp only [Act.put, List.getElem_toArray, List.getElem_cons_zero, List.setIfInBounds_toArray, List.set_cons_zero, List.set_cons_succ]
    refine wpAnyH_take (i := 1) (v := ?v1q12) rfl (by kernel_rfl) (by kernel_rfl) (by kernel_rfl) (fun _ _ _ h => h) (Or.inl ⟨by rfl, ?hy1q12⟩) (by assumption) ?rest1q12
    case hy1q12 => (intro w hSw; (try dsimp only at hSw); go_simp <;> with_reducible rfl)
    try simp only [Act.put, List.getElem_toArray, List.getElem_cons_zero, List.getElem_cons_succ, List.setIfInBounds_toArray, List.set_cons_zero, List.set_cons_succ]
    refine wpAnyH_take (i := 2) (v := ?v2q12) rfl (by kernel_rfl) (by kernel_rfl) (by kernel_rfl) (fun _ _ _ h => h) (Or.inl ⟨by rfl, ?hy2q12⟩) (by assumption) ?rest2q12
    case hy2q12 => (intro w hSw; (try dsimp only at hSw); go_simp <;> with_reducible rfl)
    try simp only [Act.put, List.getElem_toArray, List.getElem_cons_zero, List.getElem_cons_succ, List.setIfInBounds_toArray, List.set_cons_zero, List.set_cons_succ]
    refine wpAnyH_take (i := 3) (v := ?v3q12) rfl (by kernel_rfl) (by kernel_rfl) (by kernel_rfl) (fun _ _ _ h => h) (Or.inl ⟨by rfl, ?hy3q12⟩) (by assumption) ?rest3q12
    case hy3q12 => (intro w hSw; (try dsimp only at hSw); go_simp <;> with_reducible rfl)
    try simp only [Act.put, List.getElem_toArray, List.getElem_cons_zero, List.getElem_cons_succ, List.setIfInBounds_toArray, List.set_cons_zero, List.set_cons_succ]
    refine wpAnyH_ready (rs := [4]) (by kernel_rfl) (by simp) ?_
    refine AllReadyH.cons rfl (fun K hK => ?_) AllReadyH.nil
    go_simp
    change K _ (set3 w5.drew (w.heap.size + 1) (.string ⟨nm.toArray⟩) (.string ⟨vl.toArray⟩) (.bool true))
    clear e0 e1 e2 t0 t1 t2 hHeld
    generalize set3 w5.drew (w.heap.size + 1) (.string ⟨nm.toArray⟩) (.string ⟨vl.toArray⟩) (.bool true) = w7 at *
    refine hK.out _ _ ⟨HB3.out.cell (j := 0) rfl, HB3.out.cell (j := 1) rfl, HB3.out.cell (j := 2) rfl, HF3.out.cell (j := 0) rfl, HF3.out.cell (j := 1) rfl, HF3.out.cell (j := 2) rfl⟩ (fun hHeld => ?_)
    clear hK K HBx HFx
    try simp only [Act.put, List.getElem_toArray, List.getElem_cons_zero, List.getElem_cons_succ, List.setIfInBounds_toArray, List.set_cons_zero, List.set_cons_succ]
    refine wpAnyH_take (i := 5) (v := ?v5q13) rfl (by kernel_rfl) (by kernel_rfl) (by kernel_rfl) (fun _ _ _ h => h) (Or.inl ⟨by rfl, ?hy5q13⟩) (by assumption) ?rest5q13
    case hy5q13 => (intro w hSw; (try dsimp only at hSw); go_simp <;> with_reducible rfl)
    try simp only [Act.put, List.getElem_toArray, List.getElem_cons_zero, List.getElem_cons_succ, List.setIfInBounds_toArray, List.set_cons_zero, List.set_cons_succ]
    have HB4 : Hid (Row (set3 w7 (w.heap.size + 2) (.slice B RL d) (.int .i64 (M : Int)) (.int .i64 (cap : Int))) w.heap.size 35 #[.slice B RL d, .int .i64 (M : Int), .int .i64 (cap : Int)]) := set3_other (by omega) HB3.out
    have HF4 : Hid (Row (set3 w7 (w.heap.size + 2) (.slice B RL d) (.int .i64 (M : Int)) (.int .i64 (cap : Int))) w1.heap.size 52 #[.string ⟨nm.toArray⟩, .string ⟨vl.toArray⟩, .bool true]) := set3_other (by omega) HF3.out
    have HR4 : Hid (Row (set3 w7 (w.heap.size + 2) (.slice B RL d) (.int .i64 (M : Int)) (.int .i64 (cap : Int))) (w.heap.size + 1) 52 #[.string ⟨nm.toArray⟩, .string ⟨vl.toArray⟩, .bool true]) := set3_other (by omega) HR3.out
    have HQ4 : Hid (Row (set3 w7 (w.heap.size + 2) (.slice B RL d) (.int .i64 (M : Int)) (.int .i64 (cap : Int))) (w.heap.size + 2) 35 #[.slice B RL d, .int .i64 (M : Int), .int .i64 (cap : Int)]) := set3_own HQ3.out
    have HW4 : Hid (Below w.heap.size w (set3 w7 (w.heap.size + 2) (.slice B RL d) (.int .i64 (M : Int)) (.int .i64 (cap : Int)))) := set3_below HW3.out (by omega)
    have e0 := HQ3.out.cell (j := 0) rfl
    have e1 := HQ3.out.cell (j := 1) rfl
    have e2 := HQ3.out.cell (j := 2) rfl
    have t0 := HQ3.out.thawed 0
    have t1 := HQ3.out.thawed 1
    have t2 := HQ3.out.thawed 2
    refine wpAnyH_ready (rs := [6]) (by kernel_rfl) (by simp) ?_
    refine AllReadyH.cons rfl (fun K hK => ?_) AllReadyH.nil
    go_simp
    change K _ (set3 w7 (w.heap.size + 2) (.slice B RL d) (.int .i64 (M : Int)) (.int .i64 (cap : Int)))
    clear e0 e1 e2 t0 t1 t2 hHeld HB3 HF3 HR3 HQ3
    have HS4 : Hid ((set3 w7 (w.heap.size + 2) (.slice B RL d) (.int .i64 (M : Int)) (.int .i64 (cap : Int))).heap.size = w7.heap.size) := by show _ = _; rw [set3_size]
    generalize set3 w7 (w.heap.size + 2) (.slice B RL d) (.int .i64 (M : Int)) (.int .i64 (cap : Int)) = w8 at *
    refine hK.out _ _ ⟨HB4.out.cell (j := 0) rfl, HB4.out.cell (j := 1) rfl, HB4.out.cell (j := 2) rfl, HF4.out.cell (j := 0) rfl, HF4.out.cell (j := 1) rfl, HF4.out.cell (j := 2) rfl⟩ (fun hHeld => ?_)
    clear hK K
    try simp only [Act.put, List.getElem_toArray, List.getElem_cons_zero, List.getElem_cons_succ, List.setIfInBounds_toArray, List.set_cons_zero, List.set_cons_succ]
    refine wpAnyH_take (i := 7) (v := ?v7q14) rfl (by kernel_rfl) (by kernel_rfl) (by kernel_rfl) (fun _ _ _ h => h) (Or.inl ⟨by rfl, ?hy7q14⟩) (by assumption) ?rest7q14
    case hy7q14 => (intro w hSw; (try dsimp only at hSw); go_simp <;> with_reducible rfl)
    try simp only [Act.put, List.getElem_toArray, List.getElem_cons_zero, List.getElem_cons_succ, List.setIfInBounds_toArray, List.set_cons_zero, List.set_cons_succ]
    refine wpAnyH_done (by kernel_rfl) ?_ _
    go_wp2_with fail
    refine bodyPost_ret (ret_fld rfl _ _ (w.heap.size + 1) (w.heap.size + 2) #[.string ⟨nm.toArray⟩, .string ⟨vl.toArray⟩, .bool true] #[.slice B RL d, .int .i64 (M : Int), .int .i64 (cap : Int)] rfl rfl HR4.out rfl HQ4.out rfl) rfl ?_
    cases o with
    | false =>
      obtain rfl : X = none := HO.out.1 rfl
      exact ⟨⟨⟨nm, vl, true⟩, _, _, _, _, _, _, rfl⟩, HW4.out⟩
    | true =>
      obtain ⟨n, r, rfl, hn1, hn2, hX⟩ := HO.out.2 rfl
      subst hX
      refine ⟨⟨n, ⟨nm, vl, true⟩, B, d, ?_, hn1, hn2, rfl, ((hT0.keep fun b hb => HW4.out.block b (hTl b hb)).imp fun b hb _ => .inl hb), by rw [HRL.out]; exact hd⟩, HW4.out⟩
      rw [HRL.out]
      rfl
  · -- a literal that stays out, kind 0
    obtain rfl : KR = 4 := k5 rfl
    have hli := HLIT.out 4 (by omega) (by omega) w0 HW.out
    have hpl : X = (litR L 4 (l.drop at_)).map fun p => (⟨L, M, out ++ [⟨p.1.nm, p.1.vl, false⟩]⟩, p.2) := HPL.out (by decide) (by decide)
    generalize hY : litR L 4 (l.drop at_) = Y at *
    clear hY HSP HLIT HPL k1 k2 k3 k4 k5
    go_wp2_with fail
    refine hli.mono ?_
    rintro e w1 ⟨he, hb1⟩
    have hx : ∃ (f : Fd) (p : Int) (o : Bool), e = .returned (.tuple #[fv f, .int .i64 p, .bool o]) ∧ (o = false → X = none) ∧ (o = true → ∃ (n : Nat) (r : List UInt8), p = n ∧ l.drop n = r ∧ n ≤ l.length ∧ X = some ((⟨L, M, out ++ [(⟨f.nm, f.vl, false⟩ : Fd)]⟩ : Rd), r)) := by
      cases Y with
      | none =>
        obtain ⟨f, n, rfl⟩ := he
        exact ⟨f, n, false, rfl, (fun _ => hpl), (fun h => by cases h)⟩
      | some y =>
        obtain ⟨f, r⟩ := y
        obtain ⟨p, rfl, hp1, hp2⟩ := he
        exact ⟨f, p, true, rfl, (fun h => by cases h), fun _ => ⟨p, r, rfl, hp1, hp2, hpl⟩⟩
    obtain ⟨⟨nm, vl, nv⟩, p, o, rfl, ho1, ho2⟩ := hx
    have HO := Lib.hid (And.intro ho1 ho2)
    clear ho1 ho2 he hpl
    unfold fv tx
    simp only
    have hba := (Below.refl w1.heap.size w1).alloc (Nat.le_refl _) (.cells #[.string ⟨nm.toArray⟩, .string ⟨vl.toArray⟩, .bool nv] 52)
    have hbb := hb1.trans (hba.mono hb1.size)
    have HW2 := Lib.hid (HW.out.trans (hbb.mono HW.out.size))
    have HB2 := Lib.hid (HB.out.below hbb HB.out.lt)
    have HR2 := Lib.hid (HR.out.below hbb HR.out.lt)
    have HD2 := Lib.hid (HD.out.below hbb HD.out.lt)
    have HF2 := Lib.hid (Row.new w1 52 #[.string ⟨nm.toArray⟩, .string ⟨vl.toArray⟩, .bool nv])
    have hs1 := hb1.size
    have hsa : (w1.alloc (.cells #[.string ⟨nm.toArray⟩, .string ⟨vl.toArray⟩, .bool nv] 52)).heap.size = w1.heap.size + 1 := by simp
    have HSA := Lib.hid hsa
    clear hb1 hba hbb HB HR HD hli hsa b0 b1 b2 r0 r1 r2 z0 z1 z2 q0 q1 q2 y0 y1 y2
    have f2 := (HW2.out.cell (p := ⟨g0, o0 + at_, none⟩) hg0).trans HF0.out
    go_wp2_with fail
    generalize w1.alloc (.cells #[.string ⟨nm.toArray⟩, .string ⟨vl.toArray⟩, .bool nv] 52) = w2 at *
    refine (hkd _).mono ?_
    rintro e w3 ⟨rfl, hw3⟩
    subst w3
    have n2 := HF2.out.cell (j := 2) rfl
    have n3 := HF2.out.thawed 2
    clear hkd
    go_wp2_with fail
    have HB5 : Hid (Row (w2.setCell ⟨w1.heap.size, 2, none⟩ (.bool false)) w.heap.size 35 #[.slice B RL d, .int .i64 (M : Int), .int .i64 (cap : Int)]) := (Below.heap_setCell _ _ _ _ (by show _ ≠ w1.heap.size; have := HW.out.size; have := HSZ.out; omega)).trans HB2.out
    have HF5 : Hid (Row (w2.setCell ⟨w1.heap.size, 2, none⟩ (.bool false)) w1.heap.size 52 #[.string ⟨nm.toArray⟩, .string ⟨vl.toArray⟩, .bool false]) := HF2.out.stored 2 _
    have HR5 : Hid (Row (w2.setCell ⟨w1.heap.size, 2, none⟩ (.bool false)) (w.heap.size + 1) 52 #[.string ⟨#[]⟩, .string ⟨#[]⟩, .bool false]) := (Below.heap_setCell _ _ _ _ (by show _ ≠ w1.heap.size; omega)).trans HR2.out
    have HD5 : Hid (Row (w2.setCell ⟨w1.heap.size, 2, none⟩ (.bool false)) (w.heap.size + 2) 35 #[.slice none 0 0, .int .i64 0, .int .i64 0]) := (Below.heap_setCell _ _ _ _ (by show _ ≠ w1.heap.size; omega)).trans HD2.out
    have HW5 : Hid (Below w.heap.size w (w2.setCell ⟨w1.heap.size, 2, none⟩ (.bool false))) := HW2.out.setCell (p := ⟨w1.heap.size, 2, none⟩) (by show _ ≤ w1.heap.size; omega) _
    clear n2 n3 f2 HB2 HF2 HR2 HD2 HW2
    generalize w2.setCell ⟨w1.heap.size, 2, none⟩ (.bool false) = w5 at *
    have HBx : Hid (Row w5.drew w.heap.size 35 #[.slice B RL d, .int .i64 (M : Int), .int .i64 (cap : Int)]) := HB5.out
    have HFx : Hid (Row w5.drew w1.heap.size 52 #[.string ⟨nm.toArray⟩, .string ⟨vl.toArray⟩, .bool false]) := HF5.out
    have HB3 : Hid (Row (set3 w5.drew (w.heap.size + 1) (.string ⟨nm.toArray⟩) (.string ⟨vl.toArray⟩) (.bool false)) w.heap.size 35 #[.slice B RL d, .int .i64 (M : Int), .int .i64 (cap : Int)]) := set3_other (by omega) HBx.out
    have HF3 : Hid (Row (set3 w5.drew (w.heap.size + 1) (.string ⟨nm.toArray⟩) (.string ⟨vl.toArray⟩) (.bool false)) w1.heap.size 52 #[.string ⟨nm.toArray⟩, .string ⟨vl.toArray⟩, .bool false]) := set3_other (by omega) HFx.out
    have HR3 : Hid (Row (set3 w5.drew (w.heap.size + 1) (.string ⟨nm.toArray⟩) (.string ⟨vl.toArray⟩) (.bool false)) (w.heap.size + 1) 52 #[.string ⟨nm.toArray⟩, .string ⟨vl.toArray⟩, .bool false]) := set3_own HR5.out
    have HQ3 : Hid (Row (set3 w5.drew (w.heap.size + 1) (.string ⟨nm.toArray⟩) (.string ⟨vl.toArray⟩) (.bool false)) (w.heap.size + 2) 35 #[.slice none 0 0, .int .i64 0, .int .i64 0]) := set3_other (by omega) HD5.out
    have HW3 : Hid (Below w.heap.size w (set3 w5.drew (w.heap.size + 1) (.string ⟨nm.toArray⟩) (.string ⟨vl.toArray⟩) (.bool false))) := set3_below (HW5.out.drew) (by omega)
    have HS3 : Hid ((set3 w5.drew (w.heap.size + 1) (.string ⟨nm.toArray⟩) (.string ⟨vl.toArray⟩) (.bool false)).heap.size = w5.heap.size) := by show _ = _; rw [set3_size]; rfl
    refine wp_region_held_drew (S := fun w' => w'.cell? ⟨w.heap.size, 0, none⟩ = some (.slice B RL d) ∧ w'.cell? ⟨w.heap.size, 1, none⟩ = some (.int .i64 (M : Int)) ∧ w'.cell? ⟨w.heap.size, 2, none⟩ = some (.int .i64 (cap : Int)) ∧ w'.cell? ⟨w1.heap.size, 0, none⟩ = some (.string ⟨nm.toArray⟩) ∧ w'.cell? ⟨w1.heap.size, 1, none⟩ = some (.string ⟨vl.toArray⟩) ∧ w'.cell? ⟨w1.heap.size, 2, none⟩ = some (.bool false)) (by kernel_rfl) ⟨HBx.out.cell (j := 0) rfl, HBx.out.cell (j := 1) rfl, HBx.out.cell (j := 2) rfl, HFx.out.cell (j := 0) rfl, HFx.out.cell (j := 1) rfl, HFx.out.cell (j := 2) rfl⟩ (fun hHeld => ?_)
    have e0 : w5.cell? ⟨w.heap.size + 1, 0, none⟩ = some (.string ⟨#[]⟩) := HR5.out.cell (j := 0) rfl
    have e1 : w5.cell? ⟨w.heap.size + 1, 1, none⟩ = some (.string ⟨#[]⟩) := HR5.out.cell (j := 1) rfl
    have e2 : w5.cell? ⟨w.heap.size + 1, 2, none⟩ = some (.bool false) := HR5.out.cell (j := 2) rfl
    have t0 : w5.frozen? ⟨w.heap.size + 1, 0, none⟩ = false := HR5.out.thawed 0
    have t1 : w5.frozen? ⟨w.heap.size + 1, 1, none⟩ = false := HR5.out.thawed 1
    have t2 : w5.frozen? ⟨w.heap.size + 1, 2, none⟩ = false := HR5.out.thawed 2
    refine wpAnyH_take (i := 0) (v := ?v0q15) rfl (by kernel_rfl) (by kernel_rfl) (by kernel_rfl) (fun _ _ _ h => h) (Or.inl ⟨by rfl, ?hy0q15⟩) (by assumption) ?rest0q15
    case hy0q15 => (intro w hSw; (try dsimp only at hSw); go_simp <;> with_reducible rfl)
    try simp only [Act.put, List.getElem_toArray, List.getElem_cons_zero, List.setIfInBounds_toArray, List.set_cons_zero, List.set_cons_succ]
    refine wpAnyH_take (i := 1) (v := ?v1q15) rfl (by kernel_rfl) (by kernel_rfl) (by kernel_rfl) (fun _ _ _ h => h) (Or.inl ⟨by rfl, ?hy1q15⟩) (by assumption) ?rest1q15
    case hy1q15 => (intro w hSw; (try dsimp only at hSw); go_simp <;> with_reducible rfl)
    try simp only [Act.put, List.getElem_toArray, List.getElem_cons_zero, List.getElem_cons_succ, List.setIfInBounds_toArray, List.set_cons_zero, List.set_cons_succ]
    refine wpAnyH_take (i := 2) (v := ?v2q15) rfl (by kernel_rfl) (by kernel_rfl) (by kernel_rfl) (fun _ _ _ h => h) (Or.inl ⟨by rfl, ?hy2q15⟩) (by assumption) ?rest2q15
    case hy2q15 => (intro w hSw; (try dsimp only at hSw); go_simp <;> with_reducible rfl)
    try simp only [Act.put, List.getElem_toArray, List.getElem_cons_zero, List.getElem_cons_succ, List.setIfInBounds_toArray, List.set_cons_zero, List.set_cons_succ]
    refine wpAnyH_take (i := 3) (v := ?v3q15) rfl (by kernel_rfl) (by kernel_rfl) (by kernel_rfl) (fun _ _ _ h => h) (Or.inl ⟨by rfl, ?hy3q15⟩) (by assumption) ?rest3q15
    case hy3q15 => (intro w hSw; (try dsimp only at hSw); go_simp <;> with_reducible rfl)
    try simp only [Act.put, List.getElem_toArray, List.getElem_cons_zero, List.getElem_cons_succ, List.setIfInBounds_toArray, List.set_cons_zero, List.set_cons_succ]
    refine wpAnyH_ready (rs := [4]) (by kernel_rfl) (by simp) ?_
    refine AllReadyH.cons rfl (fun K hK => ?_) AllReadyH.nil
    go_simp
    change K _ (set3 w5.drew (w.heap.size + 1) (.string ⟨nm.toArray⟩) (.string ⟨vl.toArray⟩) (.bool false))
    clear e0 e1 e2 t0 t1 t2 hHeld
    generalize set3 w5.drew (w.heap.size + 1) (.string ⟨nm.toArray⟩) (.string ⟨vl.toArray⟩) (.bool false) = w7 at *
    refine hK.out _ _ ⟨HB3.out.cell (j := 0) rfl, HB3.out.cell (j := 1) rfl, HB3.out.cell (j := 2) rfl, HF3.out.cell (j := 0) rfl, HF3.out.cell (j := 1) rfl, HF3.out.cell (j := 2) rfl⟩ (fun hHeld => ?_)
    clear hK K HBx HFx
    try simp only [Act.put, List.getElem_toArray, List.getElem_cons_zero, List.getElem_cons_succ, List.setIfInBounds_toArray, List.set_cons_zero, List.set_cons_succ]
    refine wpAnyH_take (i := 5) (v := ?v5q16) rfl (by kernel_rfl) (by kernel_rfl) (by kernel_rfl) (fun _ _ _ h => h) (Or.inl ⟨by rfl, ?hy5q16⟩) (by assumption) ?rest5q16
    case hy5q16 => (intro w hSw; (try dsimp only at hSw); go_simp <;> with_reducible rfl)
    try simp only [Act.put, List.getElem_toArray, List.getElem_cons_zero, List.getElem_cons_succ, List.setIfInBounds_toArray, List.set_cons_zero, List.set_cons_succ]
    have HB4 : Hid (Row (set3 w7 (w.heap.size + 2) (.slice B RL d) (.int .i64 (M : Int)) (.int .i64 (cap : Int))) w.heap.size 35 #[.slice B RL d, .int .i64 (M : Int), .int .i64 (cap : Int)]) := set3_other (by omega) HB3.out
    have HF4 : Hid (Row (set3 w7 (w.heap.size + 2) (.slice B RL d) (.int .i64 (M : Int)) (.int .i64 (cap : Int))) w1.heap.size 52 #[.string ⟨nm.toArray⟩, .string ⟨vl.toArray⟩, .bool false]) := set3_other (by omega) HF3.out
    have HR4 : Hid (Row (set3 w7 (w.heap.size + 2) (.slice B RL d) (.int .i64 (M : Int)) (.int .i64 (cap : Int))) (w.heap.size + 1) 52 #[.string ⟨nm.toArray⟩, .string ⟨vl.toArray⟩, .bool false]) := set3_other (by omega) HR3.out
    have HQ4 : Hid (Row (set3 w7 (w.heap.size + 2) (.slice B RL d) (.int .i64 (M : Int)) (.int .i64 (cap : Int))) (w.heap.size + 2) 35 #[.slice B RL d, .int .i64 (M : Int), .int .i64 (cap : Int)]) := set3_own HQ3.out
    have HW4 : Hid (Below w.heap.size w (set3 w7 (w.heap.size + 2) (.slice B RL d) (.int .i64 (M : Int)) (.int .i64 (cap : Int)))) := set3_below HW3.out (by omega)
    have e0 := HQ3.out.cell (j := 0) rfl
    have e1 := HQ3.out.cell (j := 1) rfl
    have e2 := HQ3.out.cell (j := 2) rfl
    have t0 := HQ3.out.thawed 0
    have t1 := HQ3.out.thawed 1
    have t2 := HQ3.out.thawed 2
    refine wpAnyH_ready (rs := [6]) (by kernel_rfl) (by simp) ?_
    refine AllReadyH.cons rfl (fun K hK => ?_) AllReadyH.nil
    go_simp
    change K _ (set3 w7 (w.heap.size + 2) (.slice B RL d) (.int .i64 (M : Int)) (.int .i64 (cap : Int)))
    clear e0 e1 e2 t0 t1 t2 hHeld HB3 HF3 HR3 HQ3
    have HS4 : Hid ((set3 w7 (w.heap.size + 2) (.slice B RL d) (.int .i64 (M : Int)) (.int .i64 (cap : Int))).heap.size = w7.heap.size) := by show _ = _; rw [set3_size]
    generalize set3 w7 (w.heap.size + 2) (.slice B RL d) (.int .i64 (M : Int)) (.int .i64 (cap : Int)) = w8 at *
    refine hK.out _ _ ⟨HB4.out.cell (j := 0) rfl, HB4.out.cell (j := 1) rfl, HB4.out.cell (j := 2) rfl, HF4.out.cell (j := 0) rfl, HF4.out.cell (j := 1) rfl, HF4.out.cell (j := 2) rfl⟩ (fun hHeld => ?_)
    clear hK K
    try simp only [Act.put, List.getElem_toArray, List.getElem_cons_zero, List.getElem_cons_succ, List.setIfInBounds_toArray, List.set_cons_zero, List.set_cons_succ]
    refine wpAnyH_take (i := 7) (v := ?v7q17) rfl (by kernel_rfl) (by kernel_rfl) (by kernel_rfl) (fun _ _ _ h => h) (Or.inl ⟨by rfl, ?hy7q17⟩) (by assumption) ?rest7q17
    case hy7q17 => (intro w hSw; (try dsimp only at hSw); go_simp <;> with_reducible rfl)
    try simp only [Act.put, List.getElem_toArray, List.getElem_cons_zero, List.getElem_cons_succ, List.setIfInBounds_toArray, List.set_cons_zero, List.set_cons_succ]
    refine wpAnyH_done (by kernel_rfl) ?_ _
    go_wp2_with fail
    refine bodyPost_ret (ret_fld rfl _ _ (w.heap.size + 1) (w.heap.size + 2) #[.string ⟨nm.toArray⟩, .string ⟨vl.toArray⟩, .bool false] #[.slice B RL d, .int .i64 (M : Int), .int .i64 (cap : Int)] rfl rfl HR4.out rfl HQ4.out rfl) rfl ?_
    cases o with
    | false =>
      obtain rfl : X = none := HO.out.1 rfl
      exact ⟨⟨⟨nm, vl, false⟩, _, _, _, _, _, _, rfl⟩, HW4.out⟩
    | true =>
      obtain ⟨n, r, rfl, hn1, hn2, hX⟩ := HO.out.2 rfl
      subst hX
      refine ⟨⟨n, ⟨nm, vl, false⟩, B, d, ?_, hn1, hn2, rfl, ((hT0.keep fun b hb => HW4.out.block b (hTl b hb)).imp fun b hb _ => .inl hb), by rw [HRL.out]; exact hd⟩, HW4.out⟩
      rw [HRL.out]
      rfl
end Go.Proofs.Ytfajffchnnalaaa

namespace Go.Proofs.Ytfajffchnnalaaa
open Go.RowKit Go.WideShapes

theorem ret_vdc {fn : Func} {q u v : Tmp} (h : fn.results = #[.tmp u, .cell q 35, .tmp v]) (tmps : Array Value) (w : World) (g' : Nat) (ds : Array Value) (hq : tmps.getD q undef = .pointer (some ⟨g', 0, none⟩)) (hR' : Row w g' 35 ds) (hd : ds.size = 3) :
    (results fn tmps).run Try.prog w = .ok (.tuple #[tmps.getD u undef, .agg ds, tmps.getD v undef]) w := by
  have hl' := run_loadVar_row w g' 35 35 ds (0, 0) _ hR' Try.underlying35 rfl (d6_cells ds hd)
  have hq' : tmps[q]?.getD undef = .pointer (some ⟨g', 0, none⟩) := by simpa using hq
  simp only [results, h]
  simp [Result.andThen, hq', asAddr, hl']

/-- What the document's Get answers. -/
def RGetE (w w' : World) (T : Nat → Prop) (cap : Nat) (o : Option Rd) (e : Ending) : Prop := match o with
  | none => ∃ (n : Option Addr) (c' : Nat) (A' : Option Addr) (m' d' : Nat) (M' C' : Int), e = .returned (.tuple #[.slice n 0 c', .agg #[.slice A' m' d', .int .i64 M', .int .i64 C'], .int .i64 9])
  | some s => tot s.tb ≤ s.mx ∧ s.mx ≤ 4096 ∧ ((4096 < tot s.out ∧ ∃ (n : Option Addr) (c' : Nat) (A' : Option Addr) (m' d' : Nat) (M' C' : Int), e = .returned (.tuple #[.slice n 0 c', .agg #[.slice A' m' d', .int .i64 M', .int .i64 C'], .int .i64 11])) ∨
      (tot s.out ≤ 4096 ∧ ∃ A1 c1 B' d', e = .returned (.tuple #[.slice A1 s.out.length c1, dv B' s.tb.reverse.length d' s.mx cap, .int .i64 0]) ∧ RdS w' (fun b => w.heap.size ≤ b ∧ b < w'.heap.size) A1 (enl fdc s.out) ∧
        RdS w' (fun b => T b ∨ (w.heap.size ≤ b ∧ b < w'.heap.size)) B' (enl fdc s.tb.reverse) ∧ s.tb.reverse.length ≤ d'))
theorem pieceR_sz {cap : Nat} {L : List Fd} {M : Nat} {out : List Fd} {l r : List UInt8} {s : Rd} (h : pieceR cap ⟨L, M, out⟩ l = some (s, r)) (hL : tot L ≤ 4096) (hl : l.length ≤ 12000) : tot s.out ≤ tot out + 60000 ∧ ∀ f, s.out = out ++ [f] → sz f ≤ 60000 := by
  have key : s.out = out ∨ ∃ f, s.out = out ++ [f] ∧ sz f ≤ 60000 := by
    obtain ⟨h1, h2, h3, h4⟩ := pieceR_spec (cap := cap) (L := L) (M := M) (out := out) (l := l) (K := kindN (l.headD 0).toNat) rfl
    generalize kindN (l.headD 0).toNat = K at *
    by_cases hz : (getL (pfxN K) l).2.2 = 0
    · by_cases e1 : K = 32
      · rw [h2 hz e1] at h
        split at h
        · cases h
        · injection h with h
          injection h with ha hb
          subst ha
          exact .inl rfl
      · by_cases e2 : K = 128
        · rw [h3 hz e2] at h
          cases ha : atT L (getL (pfxN K) l).1 with
          | none => rw [ha] at h; cases h
          | some f =>
            rw [ha] at h
            injection h with h
            injection h with hb hc
            subst hb
            have := atT_sz ha hL
            exact .inr ⟨f, rfl, by omega⟩
        · rw [h4 hz e1 e2] at h
          cases ha : textsR L (getL (pfxN K) l).1 (K == 16) (l.drop (getL (pfxN K) l).2.1) with
          | none => rw [ha] at h; cases h
          | some p =>
            obtain ⟨f, r'⟩ := p
            rw [ha] at h
            injection h with h
            injection h with hb hc
            subst hb
            have h9 := textsR_sz ha hL
            rw [List.length_drop] at h9
            exact .inr ⟨f, rfl, by omega⟩
    · rw [h1 hz] at h; cases h
  rcases key with e | ⟨f, e, hf⟩
  · refine ⟨by rw [e]; omega, fun f hf => ?_⟩
    have := congrArg List.length (e.symm.trans hf)
    simp at this
  · refine ⟨by rw [e, tot_snoc]; omega, fun g hg => ?_⟩
    have := e.symm.trans hg
    simp at this
    rw [← this]; exact hf

/-- How the loop stands. -/
structure G6 (w wr : World) (T : Nat → Prop) (cap : Nat) (l : List UInt8) (R : Option Rd) (s : Rd) (at_ : Nat) (B : Option Addr) (d : Nat) (Ao : Option Addr) (co : Nat) : Prop where
  rd : Row wr w.heap.size 35 #[.slice B s.tb.reverse.length d, .int .i64 (s.mx : Int), .int .i64 (cap : Int)]
  rr : Row wr (w.heap.size + 1) 35 #[.slice none 0 0, .int .i64 0, .int .i64 0]
  tb : RdS wr (fun b => (T b ∨ (w.heap.size + 4 ≤ b ∧ b < wr.heap.size)) ∧ (Value.slice Ao s.out.length co).ownBlock ≠ some b) B (enl fdc s.tb.reverse)
  td : s.tb.reverse.length ≤ d
  ow : OwS wr (w.heap.size + 3) 52 3 (.slice Ao s.out.length co) s.out.length (enl fdc s.out)
  eq : blk cap s (l.drop at_) = R
  tm : tot s.tb ≤ s.mx ∧ s.mx ≤ 4096
  al : at_ ≤ l.length ∧ s.out.length ≤ at_ ∧ tot s.out ≤ at_ * 60000
  be : Below w.heap.size w wr
  gt : w.heap.size + 4 ≤ wr.heap.size

theorem blk_no {cap : Nat} {s : Rd} {l : List UInt8} (hl : l ≠ []) (h : pieceR cap s l = none) : blk cap s l = none := block_none hl (Nat.le_refl _) h
theorem kindR_ne {b : Nat} (h : kindN b ≠ 32) : kindR b ≠ 2 := by
  rcases kindN_is b with e | e | e | e | e <;> obtain ⟨k1, k2, k3, k4, k5⟩ := kindR_of e
  · have := k1 rfl; omega
  · have := k2 rfl; omega
  · exact absurd e h
  · have := k4 rfl; omega
  · have := k5 rfl; omega
theorem three_of {d : Array Value} (h : d.size = 3) : ∃ x y z, d = #[x, y, z] := by
  obtain ⟨l⟩ := d
  match l, h with
  | [x, y, z], _ => exact ⟨x, y, z, rfl⟩
theorem G6.lim {w wr w3 : World} {T : Nat → Prop} {cap : Nat} {l : List UInt8} {R : Option Rd} {s : Rd} {at_ at' : Nat} {B A' : Option Addr} {d c' : Nat} {Ao : Option Addr} {co : Nat} {tb : List Fd} {mx : Nat} (h : G6 w wr T cap l R s at_ B d Ao co)
    (hb : Below wr.heap.size wr w3) (hR : RdS w3 (fun b => wr.heap.size ≤ b ∧ b < w3.heap.size) A' (enl fdc tb.reverse)) (hc : tb.reverse.length ≤ c') (hp : pieceR cap s (l.drop at_) = some (⟨tb, mx, s.out⟩, l.drop at')) (h1 : at_ ≤ at') (h2 : at' ≤ l.length) (hcap : cap ≤ 4096) :
    G6 w ((w3.setCell ⟨w.heap.size, 0, none⟩ (.slice A' tb.reverse.length c')).setCell ⟨w.heap.size, 1, none⟩ (.int .i64 (mx : Int))) T cap l R ⟨tb, mx, s.out⟩ at' A' c' Ao co := by
  have hgt := h.gt
  have hsz := hb.size
  have hown := fun g hg => h.ow.lt g hg
  have hiv := pieceR_inv (cap := cap) (L := s.tb) (M := s.mx) (out := s.out) hp h.tm.1 h.tm.2 hcap
  have hss : ((w3.setCell ⟨w.heap.size, 0, none⟩ (.slice A' tb.reverse.length c')).setCell ⟨w.heap.size, 1, none⟩ (.int .i64 (mx : Int))).heap.size = w3.heap.size := by simp [World.setCell]
  refine ⟨((h.rd.below hb h.rd.lt).stored 0 _).stored 1 _, set2_other (by omega) (h.rr.below hb h.rr.lt), ?_, hc, ?_, ?_, ⟨hiv.1, hiv.2.1⟩, ⟨h2, Nat.le_trans h.al.2.1 h1, Nat.le_trans h.al.2.2 (Nat.mul_le_mul_right _ h1)⟩, ?_, by omega⟩
  · refine (hR.keep fun b hb2 => ?_).imp fun b hb2 _ => ⟨.inr ⟨by omega, by omega⟩, fun e => by have := (hown b e).2; omega⟩
    have := hb2.1
    exact (Below.heap_setCell _ _ _ b (by show b ≠ w.heap.size; omega)).trans (Below.heap_setCell _ _ _ b (by show b ≠ w.heap.size; omega))
  · exact ((h.ow.below hb).setCell (fun e => by have := (hown _ e).1; simp only at this; omega) _).setCell (fun e => by have := (hown _ e).1; simp only at this; omega) _
  · rw [← h.eq]; exact (blk_step hp).symm
  · exact ((h.be.trans (hb.mono h.be.size)).setCell (p := ⟨w.heap.size, 0, none⟩) (Nat.le_refl _) _).setCell (p := ⟨w.heap.size, 1, none⟩) (Nat.le_refl _) _

theorem G6.fld {w wr w3 w4 w5 w6 w7 : World} {T : Nat → Prop} {cap : Nat} {l : List UInt8} {R : Option Rd} {s s' : Rd} {at_ p : Nat} {B A' : Option Addr} {d c' : Nat} {Ao A6 : Option Addr} {co c6 : Nat} (h : G6 w wr T cap l R s at_ B d Ao co)
    (hTl : ∀ b, T b → b < w.heap.size) (hb3 : Below wr.heap.size wr w3)
    (hR : RdS w3 (fun b => ((T b ∨ (w.heap.size + 4 ≤ b ∧ b < wr.heap.size)) ∧ (Value.slice Ao s.out.length co).ownBlock ≠ some b) ∨ (wr.heap.size ≤ b ∧ b < w3.heap.size)) A' (enl fdc s'.tb.reverse)) (hc : s'.tb.reverse.length ≤ c')
    (hb4 : Below w3.heap.size w3 w4) (hb5 : Below (set3 w4 w.heap.size (.slice A' s'.tb.reverse.length c') (.int .i64 (s'.mx : Int)) (.int .i64 (cap : Int))).heap.size (set3 w4 w.heap.size (.slice A' s'.tb.reverse.length c') (.int .i64 (s'.mx : Int)) (.int .i64 (cap : Int))) w5)
    (hg : w5.grownBy w6 (Value.slice Ao s.out.length co).ownBlock) (hO : OwS w6 (w.heap.size + 3) 52 3 (.slice A6 s'.out.length c6) s'.out.length (enl fdc s'.out))
    (hn : (Value.slice A6 s'.out.length c6).ownBlock = (Value.slice Ao s.out.length co).ownBlock ∨ (Value.slice A6 s'.out.length c6).ownBlock = some w5.heap.size) (hb7 : Below w6.heap.size w6 w7)
    (heq : blk cap s' (l.drop p) = R) (htm : tot s'.tb ≤ s'.mx ∧ s'.mx ≤ 4096) (hal : p ≤ l.length ∧ s'.out.length ≤ p ∧ tot s'.out ≤ p * 60000) : G6 w w7 T cap l R s' p A' c' A6 c6 := by
  have hgt := h.gt
  have hs3 := hb3.size
  have hs4 := hb4.size
  have hs5 := hb5.size
  rw [set3_size] at hs5
  have hown := fun g hg => h.ow.lt g hg
  have F57 : Fs (ob (.slice Ao s.out.length co)) (set3 w4 w.heap.size (.slice A' s'.tb.reverse.length c') (.int .i64 (s'.mx : Int)) (.int .i64 (cap : Int))) w7 := ((Fs.of_below (S := ob (.slice Ao s.out.length co)) hb5).trans (Fs.of_grown hg) (fun _ _ h => h)).then_below hb7
  have F45 : Fs (fun k => k = w.heap.size) w4 (set3 w4 w.heap.size (.slice A' s'.tb.reverse.length c') (.int .i64 (s'.mx : Int)) (.int .i64 (cap : Int))) := (((Fs.refl (fun k => k = w.heap.size) w4).setCell (fun _ => rfl) 0 _).setCell (fun _ => rfl) 1 _).setCell (fun _ => rfl) 2 _
  have F37 : Fs (fun k => k = w.heap.size ∨ ob (.slice Ao s.out.length co) k) w3 w7 := ((Fs.of_below (S := fun k => k = w.heap.size ∨ ob (.slice Ao s.out.length co) k) hb4).trans F45 (fun _ _ h => .inl h)).trans F57 (fun _ _ h => .inr h)
  have F07 : Fs (fun k => k = w.heap.size ∨ ob (.slice Ao s.out.length co) k) wr w7 := (Fs.of_below (S := fun k => k = w.heap.size ∨ ob (.slice Ao s.out.length co) k) hb3).trans F37 (fun _ _ h => h)
  have hs7 := F37.size
  refine ⟨?_, ?_, ?_, hc, OwS.below hO hb7, heq, htm, hal, ?_, by omega⟩
  · exact F57.row (fun e => by have := (hown _ e).1; omega) (set3_own ((h.rd.below hb3 h.rd.lt).below hb4 (by have := h.rd.lt; omega)))
  · exact F07.row (fun e => e.elim (fun e => by omega) (fun e => by have := (hown _ e).1; omega)) h.rr
  · refine (F37.reads hR fun k hk => ?_).imp fun b hb _ => ?_
    · rcases hk with ⟨hk, ho⟩ | hk
      · refine ⟨hk.elim (fun h => by have := hTl k h; omega) (fun h => by omega), fun e => e.elim (fun e => ?_) (fun e => ho e)⟩
        exact hk.elim (fun h => by have := hTl k h; omega) (fun h => by omega)
      · exact ⟨hk.2, fun e => e.elim (fun e => by omega) (fun e => by have := (hown _ e).2; omega)⟩
    · rcases hb with ⟨hk, ho⟩ | hk
      · have hlt : b < wr.heap.size := hk.elim (fun h => by have := hTl b h; omega) (fun h => h.2)
        refine ⟨hk.elim .inl (fun h => .inr ⟨h.1, by omega⟩), fun e => ?_⟩
        rcases hn with hn | hn
        · exact ho (hn.symm.trans e)
        · have := hn.symm.trans e
          injection this
          omega
      · refine ⟨.inr ⟨by omega, by omega⟩, fun e => ?_⟩
        rcases hn with hn | hn
        · have := (hown b (hn.symm.trans e)).2
          omega
        · have := hn.symm.trans e
          injection this
          omega
  · exact h.be.trans (F07.below (fun k hk hl => hk.elim (fun e => by omega) (fun e => by have := (hown _ e).1; omega)) h.be.size)

attribute [local irreducible] getL decL textR atT tot sz shr textsR litR pieceR blockR blk addL raddL

set_option maxRecDepth 100000 in
set_option maxHeartbeats 4000000 in
theorem rget6_any {w : World} {A B : Option Addr} {c d M cap : Nat} {l : List UInt8} {L : List Fd} (hl : l.length ≤ 12000) (hc : l.length ≤ c) (hr : RdB w w.heap.size A l)
    {T : Nat → Prop} (hT0 : RdS w T B (enl fdc L.reverse)) (hTl : ∀ b, T b → b < w.heap.size) (hd : L.reverse.length ≤ d) (hM : M ≤ 4096) (hL : tot L ≤ M) (hcap : cap ≤ 4096) :
    Calls Try.prog 17 #[dv B L.reverse.length d M cap, .slice A l.length c] w fun e w' => RGetE w w' T cap (blk cap ⟨L, M, []⟩ l) e ∧ Below w.heap.size w w' := by
  obtain ⟨R, hRe⟩ : ∃ R, R = blk cap ⟨L, M, []⟩ l := ⟨_, rfl⟩
  rw [← hRe]
  have hW1 := (Below.refl w.heap.size w).alloc (Nat.le_refl _) (.cells #[.slice B L.reverse.length d, .int .i64 (M : Int), .int .i64 (cap : Int)] 35)
  have hW2 := hW1.alloc (by simp) (.cells #[.slice none 0 0, .int .i64 0, .int .i64 0] 35)
  have hW3 := hW2.alloc (by simp; omega) (.cells #[] 52)
  have hW4 := hW3.alloc (by simp; omega) (.cells #[] 52)
  have hsz : ((((w.alloc (.cells #[.slice B L.reverse.length d, .int .i64 (M : Int), .int .i64 (cap : Int)] 35)).alloc (.cells #[.slice none 0 0, .int .i64 0, .int .i64 0] 35)).alloc (.cells #[] 52)).alloc (.cells #[] 52)).heap.size = w.heap.size + 4 := by simp
  have HG0 : Hid (G6 w ((((w.alloc (.cells #[.slice B L.reverse.length d, .int .i64 (M : Int), .int .i64 (cap : Int)] 35)).alloc (.cells #[.slice none 0 0, .int .i64 0, .int .i64 0] 35)).alloc (.cells #[] 52)).alloc (.cells #[] 52)) T cap l R ⟨L, M, []⟩ 0 B d (some ⟨w.heap.size + 3, 0, none⟩) 0) := by
    have h3 : (((w.alloc (.cells #[.slice B L.reverse.length d, .int .i64 (M : Int), .int .i64 (cap : Int)] 35)).alloc (.cells #[.slice none 0 0, .int .i64 0, .int .i64 0] 35)).alloc (.cells #[] 52)).heap.size = w.heap.size + 3 := by simp
    have ho := OwS.lit ((((w.alloc (.cells #[.slice B L.reverse.length d, .int .i64 (M : Int), .int .i64 (cap : Int)] 35)).alloc (.cells #[.slice none 0 0, .int .i64 0, .int .i64 0] 35)).alloc (.cells #[] 52))) 52 3 0 #[] rfl (by simp [maxLen]) (Nat.le_of_eq h3.symm)
    rw [h3] at ho
    refine ⟨(((Row.new w 35 _).alloc _).alloc _).alloc _, ((Row.made _ _ _ (by simp)).alloc _).alloc _, (hT0.keep fun b hb => hW4.block b (hTl b hb)).imp (fun b hb _ => ⟨.inl hb, fun e => ?_⟩), hd, ho, by rw [List.drop_zero]; exact hRe.symm, ⟨hL, hM⟩, ⟨by omega, by simp, by simp [tot_nil0]⟩, hW4, Nat.le_of_eq hsz.symm⟩
    have h1 := hTl b hb
    simp only [Value.ownBlock] at e
    injection e with e
    omega
  have HTl := Lib.hid hTl
  have HR := Lib.hid hr
  have HSZ := Lib.hid hsz
  clear hW1 hW2 hW3 hW4 hT0 hTl hRe hr hsz hL hM hd
  generalize L.reverse.length = RL at *
  unfold dv at *
  go_enter Try.func17, Try.ntmps17
  go_wp2_with fail
  generalize (((w.alloc (.cells #[.slice B RL d, .int .i64 (M : Int), .int .i64 (cap : Int)] 35)).alloc (.cells #[.slice none 0 0, .int .i64 0, .int .i64 0] 35)).alloc (.cells #[] 52)).alloc (.cells #[] 52) = w0 at *
  go_loopw [8, 9, 10] (fun o a z wr => ∃ (s : Rd) (at_ : Nat) (B : Option Addr) (d : Nat) (Ao : Option Addr) (co T0 n0 : Nat), o = .slice Ao n0 co ∧ a = .int .i64 (at_ : Int) ∧ z = .int .i64 (T0 : Int) ∧ Hid (T0 = tot s.out) ∧ Hid (n0 = s.out.length) ∧ at_ ≤ l.length ∧ T0 ≤ at_ * 60000 ∧ n0 ≤ at_ ∧ Hid (G6 w wr T cap l R s at_ B d Ao co))
    (fun _ a _ _ => l.length - (intOf a).toNat)
  case atStart => exact ⟨⟨L, M, []⟩, 0, B, d, _, _, 0, 0, rfl, rfl, rfl, tot_nil0.symm, rfl, by omega, by omega, by omega, HG0⟩
  case round =>
    clear HG0
    obtain ⟨s, at_, B, d, Ao, co, T0, n0, rfl, rfl, rfl, hT0, hn0, hal, hTb, hnb, hG⟩ := hrel
    have hgt := hG.out.gt
    by_cases hlt : at_ < l.length
    · -- a piece
      obtain ⟨g0, o0, hAe, hg0, hcel⟩ := HR.out (by rintro rfl; simp at hlt)
      have f1 := (hG.out.be.cell (p := ⟨g0, o0 + at_, none⟩) hg0).trans (hcel at_ hlt)
      have hae : (at_ : Int) < (l.length : Int) := by omega
      have hkd := fun W => rkind6_any l[at_].toNat W
      subst hAe
      have hhd : ((l.drop at_).headD 0).toNat = l[at_].toNat := by rw [List.drop_eq_getElem_cons hlt]; rfl
      have hdl : (l.drop at_).length = l.length - at_ := List.length_drop
      have hdn : l.drop at_ ≠ [] := fun e => by rw [e] at hdl; simp at hdl; omega
      have hno : pieceR cap s (l.drop at_) = none → R = none := fun e => by rw [← hG.out.eq]; exact blk_no hdn e
      have HNO := Lib.hid hno
      obtain ⟨RL', hRL'⟩ : ∃ RL', RL' = s.tb.reverse.length := ⟨_, rfl⟩
      have HD0 := Lib.hid hG.out.rd
      have HR0 := Lib.hid hG.out.rr
      have HW0 := Lib.hid hG.out.be
      rw [← hRL'] at HD0
      have HRL := Lib.hid hRL'
      have HCE := Lib.hid hcel
      have d0 := HD0.out.cell (j := 0) rfl
      have d1 := HD0.out.cell (j := 1) rfl
      have d2 := HD0.out.cell (j := 2) rfl
      have x0 := HD0.out.thawed 0
      have x1 := HD0.out.thawed 1
      have x2 := HD0.out.thawed 2
      clear hno hRL' hcel
      by_cases hk : kindN l[at_].toNat = 32
      · -- a new most
        have hkr2 : kindR l[at_].toNat = 2 := (kindR_of hk).2.2.1 rfl
        rw [hkr2] at hkd
        obtain ⟨i0, hi0, hz0, hz1, hz2⟩ := info_parts u8_info
        obtain ⟨A2, hfr, hr2⟩ := cut_from (P := Try.prog) Try.underlying38 hi0 hz1 HR.out hc (Nat.le_of_lt hlt)
        have hget := rget_any 5 (by omega) (by omega) A2 (c - at_) (l.drop at_) (by omega) wr wr.heap.size ((hr2.below hG.out.be).more hG.out.be.size)
        rw [hdl] at hget
        unfold Three at hget
        obtain ⟨s1, s2, _, _⟩ := pieceR_spec (cap := cap) (L := s.tb) (M := s.mx) (out := s.out) (l := l.drop at_) (K := 32) (by rw [hhd]; exact hk)
        rw [show pfxN 32 = 5 from rfl] at s1 s2
        rw [List.drop_drop] at s2
        have hu : (getL 5 (l.drop at_)).2.2 = 0 → 1 ≤ (getL 5 (l.drop at_)).2.1 ∧ (getL 5 (l.drop at_)).2.1 ≤ l.length - at_ := fun h => by have := getL_used h; omega
        have hbd := getL_bd (k := 5) (by omega) (by omega) (l.drop at_)
        generalize getL 5 (l.drop at_) = G at *
        obtain ⟨n, u, z⟩ := G
        simp only at hget hu hbd s1 s2
        have HS1 := Lib.hid s1
        have HS2 := Lib.hid s2
        have hlim := fun hn => rlimit_any (w := wr) (A := B) (c := d) (M := s.mx) (R := s.tb.reverse) n hn (hG.out.tb.imp fun b _ hb => hb) (by rw [tot_reverse]; have := hG.out.tm; omega) (fun g hg => by have h1 := tot_mem hg; rw [tot_reverse] at h1; have := hG.out.tm; omega) hG.out.td
        rw [← HRL.out, wit_shr] at hlim
        obtain ⟨SL, hSL⟩ : ∃ SL, SL = (shr (n : Int) s.tb).reverse.length := ⟨_, rfl⟩
        unfold MadeT tv at hlim
        rw [← hSL] at hlim
        have HSL := Lib.hid hSL
        have HLIM := Lib.hid hlim
        clear s1 s2 hlim hSL hr2 hdl hhd hdn
        go_wp2_with fail
        refine (hkd _).mono ?_
        rintro e w1 ⟨rfl, hw⟩
        subst w1
        go_wp2_with fail
        refine hget.mono ?_
        rintro e w1 ⟨rfl, hw⟩
        subst w1
        by_cases hz : z = 0
        · subst hz
          obtain ⟨hu1, hu2⟩ := hu rfl
          by_cases ho : n0 = 0
          · by_cases hn : n ≤ cap
            · have hn1 : decide ((cap : Int) < (n : Int)) = false := by simp; omega
              subst ho
              go_wp2_with fail
              refine (HLIM.out (by omega)).mono ?_
              rintro e w3 ⟨A', c', rfl, hR3, hc3, hb3⟩
              have hoo : s.out = [] := List.eq_nil_of_length_eq_zero hn0.out.symm
              have hp : pieceR cap s (l.drop at_) = some (⟨shr (n : Int) s.tb, n, s.out⟩, l.drop (at_ + u)) := by rw [HS2.out trivial trivial, if_neg (fun h => h.elim (fun h => h hoo) (fun h => by omega))]
              have HG' : Hid (G6 w ((w3.setCell ⟨w.heap.size, 0, none⟩ (.slice A' SL c')).setCell ⟨w.heap.size, 1, none⟩ (.int .i64 (n : Int))) T cap l R ⟨shr (n : Int) s.tb, n, s.out⟩ (at_ + u) A' c' Ao co) := by
                have h9 := G6.lim hG.out hb3 hR3 (by rw [← HSL.out]; exact hc3) hp (by omega) (by omega) hcap
                rw [← HSL.out] at h9
                exact h9
              have HD3 := HD0.out.below hb3 HD0.out.lt
              have y0 := HD3.cell (j := 0) rfl
              have y1 := HD3.cell (j := 1) rfl
              have z0 := HD3.thawed 0
              have z1 := HD3.thawed 1
              clear hR3 hb3 hp hoo HD3 d0 d1 d2 x0 x1 x2
              go_wp2_with fail
              go_roundw
              case rel => exact ⟨⟨shr (n : Int) s.tb, n, s.out⟩, at_ + u, A', c', Ao, co, T0, 0, rfl, by go_num, rfl, hT0, hn0, by omega, Nat.le_trans hTb (Nat.mul_le_mul_right _ (Nat.le_add_right _ _)), by omega, HG'⟩
              case measure => simp [intOf]; omega
            · have hn1 : decide ((cap : Int) < (n : Int)) = true := by simp; omega
              subst ho
              go_wp2_with fail
              have HBx : Hid (Row wr.drew w.heap.size 35 #[.slice B RL' d, .int .i64 (s.mx : Int), .int .i64 (cap : Int)]) := HD0.out
              have HB3 : Hid (Row (set3 wr.drew (w.heap.size + 1) (.slice B RL' d) (.int .i64 (s.mx : Int)) (.int .i64 (cap : Int))) w.heap.size 35 #[.slice B RL' d, .int .i64 (s.mx : Int), .int .i64 (cap : Int)]) := set3_other (by omega) HBx.out
              have HR3 : Hid (Row (set3 wr.drew (w.heap.size + 1) (.slice B RL' d) (.int .i64 (s.mx : Int)) (.int .i64 (cap : Int))) (w.heap.size + 1) 35 #[.slice B RL' d, .int .i64 (s.mx : Int), .int .i64 (cap : Int)]) := set3_own HR0.out
              have HW3 : Hid (Below w.heap.size w (set3 wr.drew (w.heap.size + 1) (.slice B RL' d) (.int .i64 (s.mx : Int)) (.int .i64 (cap : Int)))) := set3_below (HW0.out.drew) (by omega)
              have HS3 : Hid ((set3 wr.drew (w.heap.size + 1) (.slice B RL' d) (.int .i64 (s.mx : Int)) (.int .i64 (cap : Int))).heap.size = wr.heap.size) := by show _ = _; rw [set3_size]; rfl
              refine wp_region_held_drew (S := fun w' => w'.cell? ⟨w.heap.size, 0, none⟩ = some (.slice B RL' d) ∧ w'.cell? ⟨w.heap.size, 1, none⟩ = some (.int .i64 (s.mx : Int)) ∧ w'.cell? ⟨w.heap.size, 2, none⟩ = some (.int .i64 (cap : Int))) (by kernel_rfl) ⟨HBx.out.cell (j := 0) rfl, HBx.out.cell (j := 1) rfl, HBx.out.cell (j := 2) rfl⟩ (fun hHeld => ?_)
              have e0 : wr.cell? ⟨w.heap.size + 1, 0, none⟩ = some (.slice none 0 0) := HR0.out.cell (j := 0) rfl
              have t0 : wr.frozen? ⟨w.heap.size + 1, 0, none⟩ = false := HR0.out.thawed 0
              have e1 : wr.cell? ⟨w.heap.size + 1, 1, none⟩ = some (.int .i64 0) := HR0.out.cell (j := 1) rfl
              have t1 : wr.frozen? ⟨w.heap.size + 1, 1, none⟩ = false := HR0.out.thawed 1
              have e2 : wr.cell? ⟨w.heap.size + 1, 2, none⟩ = some (.int .i64 0) := HR0.out.cell (j := 2) rfl
              have t2 : wr.frozen? ⟨w.heap.size + 1, 2, none⟩ = false := HR0.out.thawed 2
              refine wpAnyH_take (i := 0) (v := ?v0) rfl (by kernel_rfl) (by kernel_rfl) (by kernel_rfl) (fun _ _ _ h => h) (Or.inl ⟨by rfl, ?hy0⟩) (by assumption) ?rest0
              case hy0 => (intro w hSw; (try dsimp only at hSw); go_simp <;> with_reducible rfl)
              try simp only [Act.put, List.getElem_toArray, List.getElem_cons_zero, List.setIfInBounds_toArray, List.set_cons_zero, List.set_cons_succ]
              refine wpAnyH_take (i := 1) (v := ?v1) rfl (by kernel_rfl) (by kernel_rfl) (by kernel_rfl) (fun _ _ _ h => h) (Or.inl ⟨by rfl, ?hy1⟩) (by assumption) ?rest1
              case hy1 => (intro w hSw; (try dsimp only at hSw); go_simp <;> with_reducible rfl)
              try simp only [Act.put, List.getElem_toArray, List.getElem_cons_zero, List.getElem_cons_succ, List.setIfInBounds_toArray, List.set_cons_zero, List.set_cons_succ]
              refine wpAnyH_take (i := 2) (v := ?v2) rfl (by kernel_rfl) (by kernel_rfl) (by kernel_rfl) (fun _ _ _ h => h) (Or.inl ⟨by rfl, ?hy2⟩) (by assumption) ?rest2
              case hy2 => (intro w hSw; (try dsimp only at hSw); go_simp <;> with_reducible rfl)
              try simp only [Act.put, List.getElem_toArray, List.getElem_cons_zero, List.getElem_cons_succ, List.setIfInBounds_toArray, List.set_cons_zero, List.set_cons_succ]
              refine wpAnyH_ready (rs := [3]) (by kernel_rfl) (by simp) ?_
              refine AllReadyH.cons rfl (fun K hK => ?_) AllReadyH.nil
              go_simp
              change K _ (set3 wr.drew (w.heap.size + 1) (.slice B RL' d) (.int .i64 (s.mx : Int)) (.int .i64 (cap : Int)))
              clear e0 e1 e2 t0 t1 t2 hHeld
              generalize (set3 wr.drew (w.heap.size + 1) (.slice B RL' d) (.int .i64 (s.mx : Int)) (.int .i64 (cap : Int))) = w7 at *
              refine hK.out _ _ ⟨HB3.out.cell (j := 0) rfl, HB3.out.cell (j := 1) rfl, HB3.out.cell (j := 2) rfl⟩ (fun hHeld => ?_)
              clear hK K HBx
              try simp only [Act.put, List.getElem_toArray, List.getElem_cons_zero, List.getElem_cons_succ, List.setIfInBounds_toArray, List.set_cons_zero, List.set_cons_succ]
              refine wpAnyH_take (i := 4) (v := ?v4q1) rfl (by kernel_rfl) (by kernel_rfl) (by kernel_rfl) (fun _ _ _ h => h) (Or.inl ⟨by rfl, ?hy4q1⟩) (by assumption) ?rest4q1
              case hy4q1 => (intro w hSw; (try dsimp only at hSw); go_simp <;> with_reducible rfl)
              try simp only [Act.put, List.getElem_toArray, List.getElem_cons_zero, List.getElem_cons_succ, List.setIfInBounds_toArray, List.set_cons_zero, List.set_cons_succ]
              refine wpAnyH_done (by kernel_rfl) ?_ _
              go_wp2_with fail
              refine bodyPost_ret (ret_vdc rfl _ _ (w.heap.size + 1) #[.slice B RL' d, .int .i64 (s.mx : Int), .int .i64 (cap : Int)] rfl HR3.out rfl) rfl ?_
              obtain rfl : R = none := HNO.out (by rw [HS2.out trivial trivial, if_pos (.inr (by omega))])
              exact ⟨⟨_, _, _, _, _, _, _, rfl⟩, HW3.out⟩
          · have ho1 : decide ((0 : Int) < (n0 : Int)) = true := by simp; omega
            go_wp2_with fail
            have HBx : Hid (Row wr.drew w.heap.size 35 #[.slice B RL' d, .int .i64 (s.mx : Int), .int .i64 (cap : Int)]) := HD0.out
            have HB3 : Hid (Row (set3 wr.drew (w.heap.size + 1) (.slice B RL' d) (.int .i64 (s.mx : Int)) (.int .i64 (cap : Int))) w.heap.size 35 #[.slice B RL' d, .int .i64 (s.mx : Int), .int .i64 (cap : Int)]) := set3_other (by omega) HBx.out
            have HR3 : Hid (Row (set3 wr.drew (w.heap.size + 1) (.slice B RL' d) (.int .i64 (s.mx : Int)) (.int .i64 (cap : Int))) (w.heap.size + 1) 35 #[.slice B RL' d, .int .i64 (s.mx : Int), .int .i64 (cap : Int)]) := set3_own HR0.out
            have HW3 : Hid (Below w.heap.size w (set3 wr.drew (w.heap.size + 1) (.slice B RL' d) (.int .i64 (s.mx : Int)) (.int .i64 (cap : Int)))) := set3_below (HW0.out.drew) (by omega)
            have HS3 : Hid ((set3 wr.drew (w.heap.size + 1) (.slice B RL' d) (.int .i64 (s.mx : Int)) (.int .i64 (cap : Int))).heap.size = wr.heap.size) := by show _ = _; rw [set3_size]; rfl
            refine wp_region_held_drew (S := fun w' => w'.cell? ⟨w.heap.size, 0, none⟩ = some (.slice B RL' d) ∧ w'.cell? ⟨w.heap.size, 1, none⟩ = some (.int .i64 (s.mx : Int)) ∧ w'.cell? ⟨w.heap.size, 2, none⟩ = some (.int .i64 (cap : Int))) (by kernel_rfl) ⟨HBx.out.cell (j := 0) rfl, HBx.out.cell (j := 1) rfl, HBx.out.cell (j := 2) rfl⟩ (fun hHeld => ?_)
            have e0 : wr.cell? ⟨w.heap.size + 1, 0, none⟩ = some (.slice none 0 0) := HR0.out.cell (j := 0) rfl
            have t0 : wr.frozen? ⟨w.heap.size + 1, 0, none⟩ = false := HR0.out.thawed 0
            have e1 : wr.cell? ⟨w.heap.size + 1, 1, none⟩ = some (.int .i64 0) := HR0.out.cell (j := 1) rfl
            have t1 : wr.frozen? ⟨w.heap.size + 1, 1, none⟩ = false := HR0.out.thawed 1
            have e2 : wr.cell? ⟨w.heap.size + 1, 2, none⟩ = some (.int .i64 0) := HR0.out.cell (j := 2) rfl
            have t2 : wr.frozen? ⟨w.heap.size + 1, 2, none⟩ = false := HR0.out.thawed 2
            refine wpAnyH_take (i := 0) (v := ?v0q2) rfl (by kernel_rfl) (by kernel_rfl) (by kernel_rfl) (fun _ _ _ h => h) (Or.inl ⟨by rfl, ?hy0q2⟩) (by assumption) ?rest0q2
            case hy0q2 => (intro w hSw; (try dsimp only at hSw); go_simp <;> with_reducible rfl)
            try simp only [Act.put, List.getElem_toArray, List.getElem_cons_zero, List.setIfInBounds_toArray, List.set_cons_zero, List.set_cons_succ]
            refine wpAnyH_take (i := 1) (v := ?v1q2) rfl (by kernel_rfl) (by kernel_rfl) (by kernel_rfl) (fun _ _ _ h => h) (Or.inl ⟨by rfl, ?hy1q2⟩) (by assumption) ?rest1q2
            case hy1q2 => (intro w hSw; (try dsimp only at hSw); go_simp <;> with_reducible rfl)
            try simp only [Act.put, List.getElem_toArray, List.getElem_cons_zero, List.getElem_cons_succ, List.setIfInBounds_toArray, List.set_cons_zero, List.set_cons_succ]
            refine wpAnyH_take (i := 2) (v := ?v2q2) rfl (by kernel_rfl) (by kernel_rfl) (by kernel_rfl) (fun _ _ _ h => h) (Or.inl ⟨by rfl, ?hy2q2⟩) (by assumption) ?rest2q2
            case hy2q2 => (intro w hSw; (try dsimp only at hSw); go_simp <;> with_reducible rfl)
            try simp only [Act.put, List.getElem_toArray, List.getElem_cons_zero, List.getElem_cons_succ, List.setIfInBounds_toArray, List.set_cons_zero, List.set_cons_succ]
            refine wpAnyH_ready (rs := [3]) (by kernel_rfl) (by simp) ?_
            refine AllReadyH.cons rfl (fun K hK => ?_) AllReadyH.nil
            go_simp
            change K _ (set3 wr.drew (w.heap.size + 1) (.slice B RL' d) (.int .i64 (s.mx : Int)) (.int .i64 (cap : Int)))
            clear e0 e1 e2 t0 t1 t2 hHeld
            generalize (set3 wr.drew (w.heap.size + 1) (.slice B RL' d) (.int .i64 (s.mx : Int)) (.int .i64 (cap : Int))) = w7 at *
            refine hK.out _ _ ⟨HB3.out.cell (j := 0) rfl, HB3.out.cell (j := 1) rfl, HB3.out.cell (j := 2) rfl⟩ (fun hHeld => ?_)
            clear hK K HBx
            try simp only [Act.put, List.getElem_toArray, List.getElem_cons_zero, List.getElem_cons_succ, List.setIfInBounds_toArray, List.set_cons_zero, List.set_cons_succ]
            refine wpAnyH_take (i := 4) (v := ?v4q3) rfl (by kernel_rfl) (by kernel_rfl) (by kernel_rfl) (fun _ _ _ h => h) (Or.inl ⟨by rfl, ?hy4q3⟩) (by assumption) ?rest4q3
            case hy4q3 => (intro w hSw; (try dsimp only at hSw); go_simp <;> with_reducible rfl)
            try simp only [Act.put, List.getElem_toArray, List.getElem_cons_zero, List.getElem_cons_succ, List.setIfInBounds_toArray, List.set_cons_zero, List.set_cons_succ]
            refine wpAnyH_done (by kernel_rfl) ?_ _
            go_wp2_with fail
            refine bodyPost_ret (ret_vdc rfl _ _ (w.heap.size + 1) #[.slice B RL' d, .int .i64 (s.mx : Int), .int .i64 (cap : Int)] rfl HR3.out rfl) rfl ?_
            obtain rfl : R = none := HNO.out (by rw [HS2.out trivial trivial, if_pos (.inl (fun e => ho (by rw [hn0.out, e]; rfl)))])
            exact ⟨⟨_, _, _, _, _, _, _, rfl⟩, HW3.out⟩
        · go_wp2_with fail
          have HBx : Hid (Row wr.drew w.heap.size 35 #[.slice B RL' d, .int .i64 (s.mx : Int), .int .i64 (cap : Int)]) := HD0.out
          have HB3 : Hid (Row (set3 wr.drew (w.heap.size + 1) (.slice B RL' d) (.int .i64 (s.mx : Int)) (.int .i64 (cap : Int))) w.heap.size 35 #[.slice B RL' d, .int .i64 (s.mx : Int), .int .i64 (cap : Int)]) := set3_other (by omega) HBx.out
          have HR3 : Hid (Row (set3 wr.drew (w.heap.size + 1) (.slice B RL' d) (.int .i64 (s.mx : Int)) (.int .i64 (cap : Int))) (w.heap.size + 1) 35 #[.slice B RL' d, .int .i64 (s.mx : Int), .int .i64 (cap : Int)]) := set3_own HR0.out
          have HW3 : Hid (Below w.heap.size w (set3 wr.drew (w.heap.size + 1) (.slice B RL' d) (.int .i64 (s.mx : Int)) (.int .i64 (cap : Int)))) := set3_below (HW0.out.drew) (by omega)
          have HS3 : Hid ((set3 wr.drew (w.heap.size + 1) (.slice B RL' d) (.int .i64 (s.mx : Int)) (.int .i64 (cap : Int))).heap.size = wr.heap.size) := by show _ = _; rw [set3_size]; rfl
          refine wp_region_held_drew (S := fun w' => w'.cell? ⟨w.heap.size, 0, none⟩ = some (.slice B RL' d) ∧ w'.cell? ⟨w.heap.size, 1, none⟩ = some (.int .i64 (s.mx : Int)) ∧ w'.cell? ⟨w.heap.size, 2, none⟩ = some (.int .i64 (cap : Int))) (by kernel_rfl) ⟨HBx.out.cell (j := 0) rfl, HBx.out.cell (j := 1) rfl, HBx.out.cell (j := 2) rfl⟩ (fun hHeld => ?_)
          have e0 : wr.cell? ⟨w.heap.size + 1, 0, none⟩ = some (.slice none 0 0) := HR0.out.cell (j := 0) rfl
          have t0 : wr.frozen? ⟨w.heap.size + 1, 0, none⟩ = false := HR0.out.thawed 0
          have e1 : wr.cell? ⟨w.heap.size + 1, 1, none⟩ = some (.int .i64 0) := HR0.out.cell (j := 1) rfl
          have t1 : wr.frozen? ⟨w.heap.size + 1, 1, none⟩ = false := HR0.out.thawed 1
          have e2 : wr.cell? ⟨w.heap.size + 1, 2, none⟩ = some (.int .i64 0) := HR0.out.cell (j := 2) rfl
          have t2 : wr.frozen? ⟨w.heap.size + 1, 2, none⟩ = false := HR0.out.thawed 2
          refine wpAnyH_take (i := 0) (v := ?v0q4) rfl (by kernel_rfl) (by kernel_rfl) (by kernel_rfl) (fun _ _ _ h => h) (Or.inl ⟨by rfl, ?hy0q4⟩) (by assumption) ?rest0q4
          case hy0q4 => (intro w hSw; (try dsimp only at hSw); go_simp <;> with_reducible rfl)
          try simp only [Act.put, List.getElem_toArray, List.getElem_cons_zero, List.setIfInBounds_toArray, List.set_cons_zero, List.set_cons_succ]
          refine wpAnyH_take (i := 1) (v := ?v1q4) rfl (by kernel_rfl) (by kernel_rfl) (by kernel_rfl) (fun _ _ _ h => h) (Or.inl ⟨by rfl, ?hy1q4⟩) (by assumption) ?rest1q4
          case hy1q4 => (intro w hSw; (try dsimp only at hSw); go_simp <;> with_reducible rfl)
          try simp only [Act.put, List.getElem_toArray, List.getElem_cons_zero, List.getElem_cons_succ, List.setIfInBounds_toArray, List.set_cons_zero, List.set_cons_succ]
          refine wpAnyH_take (i := 2) (v := ?v2q4) rfl (by kernel_rfl) (by kernel_rfl) (by kernel_rfl) (fun _ _ _ h => h) (Or.inl ⟨by rfl, ?hy2q4⟩) (by assumption) ?rest2q4
          case hy2q4 => (intro w hSw; (try dsimp only at hSw); go_simp <;> with_reducible rfl)
          try simp only [Act.put, List.getElem_toArray, List.getElem_cons_zero, List.getElem_cons_succ, List.setIfInBounds_toArray, List.set_cons_zero, List.set_cons_succ]
          refine wpAnyH_ready (rs := [3]) (by kernel_rfl) (by simp) ?_
          refine AllReadyH.cons rfl (fun K hK => ?_) AllReadyH.nil
          go_simp
          change K _ (set3 wr.drew (w.heap.size + 1) (.slice B RL' d) (.int .i64 (s.mx : Int)) (.int .i64 (cap : Int)))
          clear e0 e1 e2 t0 t1 t2 hHeld
          generalize (set3 wr.drew (w.heap.size + 1) (.slice B RL' d) (.int .i64 (s.mx : Int)) (.int .i64 (cap : Int))) = w7 at *
          refine hK.out _ _ ⟨HB3.out.cell (j := 0) rfl, HB3.out.cell (j := 1) rfl, HB3.out.cell (j := 2) rfl⟩ (fun hHeld => ?_)
          clear hK K HBx
          try simp only [Act.put, List.getElem_toArray, List.getElem_cons_zero, List.getElem_cons_succ, List.setIfInBounds_toArray, List.set_cons_zero, List.set_cons_succ]
          refine wpAnyH_take (i := 4) (v := ?v4q5) rfl (by kernel_rfl) (by kernel_rfl) (by kernel_rfl) (fun _ _ _ h => h) (Or.inl ⟨by rfl, ?hy4q5⟩) (by assumption) ?rest4q5
          case hy4q5 => (intro w hSw; (try dsimp only at hSw); go_simp <;> with_reducible rfl)
          try simp only [Act.put, List.getElem_toArray, List.getElem_cons_zero, List.getElem_cons_succ, List.setIfInBounds_toArray, List.set_cons_zero, List.set_cons_succ]
          refine wpAnyH_done (by kernel_rfl) ?_ _
          go_wp2_with fail
          refine bodyPost_ret (ret_vdc rfl _ _ (w.heap.size + 1) #[.slice B RL' d, .int .i64 (s.mx : Int), .int .i64 (cap : Int)] rfl HR3.out rfl) rfl ?_
          obtain rfl : R = none := HNO.out (HS1.out hz)
          exact ⟨⟨_, _, _, _, _, _, _, rfl⟩, HW3.out⟩
      · -- a field
        have hkn := kindR_ne hk
        have hfld := rfield_any (w := wr) (A := some ⟨g0, o0, none⟩) (B := B) (c := c) (d := d) (at_ := at_) (M := s.mx) (cap := cap) (l := l) (L := s.tb) (out := s.out) hl hc ((HR.out.below hG.out.be).more hG.out.be.size) hlt hG.out.tb (fun b hb => hb.1.elim (fun h => by have := HTl.out b h; omega) (fun h => h.2)) hG.out.td hG.out.tm.2 hG.out.tm.1 hcap hk
        rw [← HRL.out] at hfld
        have hst : (⟨s.tb, s.mx, s.out⟩ : Rd) = s := rfl
        rw [hst] at hfld
        have HSZP := Lib.hid (fun s' r (e : pieceR cap s (l.drop at_) = some (s', r)) => pieceR_sz (cap := cap) (L := s.tb) (M := s.mx) (out := s.out) e (by have := hG.out.tm; omega) (by rw [hdl]; omega))
        have HINV := Lib.hid (fun s' r (e : pieceR cap s (l.drop at_) = some (s', r)) => pieceR_inv (cap := cap) (L := s.tb) (M := s.mx) (out := s.out) (l := l.drop at_) (r := r) (s := s') e hG.out.tm.1 hG.out.tm.2 hcap)
        have HEQ := Lib.hid (fun s' r (e : pieceR cap s (l.drop at_) = some (s', r)) => (blk_step e).symm.trans hG.out.eq)
        generalize pieceR cap s (l.drop at_) = P at *
        unfold dv at hfld
        generalize kindR l[at_].toNat = KR at *
        have hk1 : decide ((KR : Int) = 2) = false := by simp; omega
        have hk2 : ¬ (KR : Int) = 2 := by omega
        clear hst hhd hdl hdn
        go_wp2_with fail
        refine (hkd _).mono ?_
        rintro e w1 ⟨rfl, hw⟩
        subst w1
        go_wp2_with fail
        refine hfld.mono ?_
        rintro e w3 ⟨he, hb3⟩
        clear hkd hfld d0 d1 d2 x0 x1 x2
        cases P with
        | none =>
          obtain ⟨f, n, y0, y1, y2, y3, y4, rfl⟩ := he
          obtain ⟨nm, vl, nv⟩ := f
          unfold fv tx
          simp only
          have hb4 := ((Below.refl w3.heap.size w3).alloc (Nat.le_refl _) (.cells #[.string ⟨nm.toArray⟩, .string ⟨vl.toArray⟩, .bool nv] 52)).alloc (by simp) (.cells #[.slice y0 y1 y2, .int .i64 y3, .int .i64 y4] 35)
          have hbw := hb3.trans (hb4.mono hb3.size)
          have HD4 := Lib.hid (HD0.out.below hbw HD0.out.lt)
          have HR4 := Lib.hid (HR0.out.below hbw HR0.out.lt)
          have HW4 := Lib.hid (HW0.out.trans (hbw.mono HW0.out.size))
          clear hb4 hbw hb3
          go_wp2_with fail
          generalize (w3.alloc (.cells #[.string ⟨nm.toArray⟩, .string ⟨vl.toArray⟩, .bool nv] 52)).alloc (.cells #[.slice y0 y1 y2, .int .i64 y3, .int .i64 y4] 35) = w4 at *
          have HBx : Hid (Row w4.drew w.heap.size 35 #[.slice B RL' d, .int .i64 (s.mx : Int), .int .i64 (cap : Int)]) := HD4.out
          have HB3 : Hid (Row (set3 w4.drew (w.heap.size + 1) (.slice B RL' d) (.int .i64 (s.mx : Int)) (.int .i64 (cap : Int))) w.heap.size 35 #[.slice B RL' d, .int .i64 (s.mx : Int), .int .i64 (cap : Int)]) := set3_other (by omega) HBx.out
          have HR3 : Hid (Row (set3 w4.drew (w.heap.size + 1) (.slice B RL' d) (.int .i64 (s.mx : Int)) (.int .i64 (cap : Int))) (w.heap.size + 1) 35 #[.slice B RL' d, .int .i64 (s.mx : Int), .int .i64 (cap : Int)]) := set3_own HR4.out
          have HW3 : Hid (Below w.heap.size w (set3 w4.drew (w.heap.size + 1) (.slice B RL' d) (.int .i64 (s.mx : Int)) (.int .i64 (cap : Int)))) := set3_below (HW4.out.drew) (by omega)
          have HS3 : Hid ((set3 w4.drew (w.heap.size + 1) (.slice B RL' d) (.int .i64 (s.mx : Int)) (.int .i64 (cap : Int))).heap.size = w4.heap.size) := by show _ = _; rw [set3_size]; rfl
          refine wp_region_held_drew (S := fun w' => w'.cell? ⟨w.heap.size, 0, none⟩ = some (.slice B RL' d) ∧ w'.cell? ⟨w.heap.size, 1, none⟩ = some (.int .i64 (s.mx : Int)) ∧ w'.cell? ⟨w.heap.size, 2, none⟩ = some (.int .i64 (cap : Int))) (by kernel_rfl) ⟨HBx.out.cell (j := 0) rfl, HBx.out.cell (j := 1) rfl, HBx.out.cell (j := 2) rfl⟩ (fun hHeld => ?_)
          have e0 : w4.cell? ⟨w.heap.size + 1, 0, none⟩ = some (.slice none 0 0) := HR4.out.cell (j := 0) rfl
          have t0 : w4.frozen? ⟨w.heap.size + 1, 0, none⟩ = false := HR4.out.thawed 0
          have e1 : w4.cell? ⟨w.heap.size + 1, 1, none⟩ = some (.int .i64 0) := HR4.out.cell (j := 1) rfl
          have t1 : w4.frozen? ⟨w.heap.size + 1, 1, none⟩ = false := HR4.out.thawed 1
          have e2 : w4.cell? ⟨w.heap.size + 1, 2, none⟩ = some (.int .i64 0) := HR4.out.cell (j := 2) rfl
          have t2 : w4.frozen? ⟨w.heap.size + 1, 2, none⟩ = false := HR4.out.thawed 2
          refine wpAnyH_take (i := 0) (v := ?v0q6) rfl (by kernel_rfl) (by kernel_rfl) (by kernel_rfl) (fun _ _ _ h => h) (Or.inl ⟨by rfl, ?hy0q6⟩) (by assumption) ?rest0q6
          case hy0q6 => (intro w hSw; (try dsimp only at hSw); go_simp <;> with_reducible rfl)
          try simp only [Act.put, List.getElem_toArray, List.getElem_cons_zero, List.setIfInBounds_toArray, List.set_cons_zero, List.set_cons_succ]
          refine wpAnyH_take (i := 1) (v := ?v1q6) rfl (by kernel_rfl) (by kernel_rfl) (by kernel_rfl) (fun _ _ _ h => h) (Or.inl ⟨by rfl, ?hy1q6⟩) (by assumption) ?rest1q6
          case hy1q6 => (intro w hSw; (try dsimp only at hSw); go_simp <;> with_reducible rfl)
          try simp only [Act.put, List.getElem_toArray, List.getElem_cons_zero, List.getElem_cons_succ, List.setIfInBounds_toArray, List.set_cons_zero, List.set_cons_succ]
          refine wpAnyH_take (i := 2) (v := ?v2q6) rfl (by kernel_rfl) (by kernel_rfl) (by kernel_rfl) (fun _ _ _ h => h) (Or.inl ⟨by rfl, ?hy2q6⟩) (by assumption) ?rest2q6
          case hy2q6 => (intro w hSw; (try dsimp only at hSw); go_simp <;> with_reducible rfl)
          try simp only [Act.put, List.getElem_toArray, List.getElem_cons_zero, List.getElem_cons_succ, List.setIfInBounds_toArray, List.set_cons_zero, List.set_cons_succ]
          refine wpAnyH_ready (rs := [3]) (by kernel_rfl) (by simp) ?_
          refine AllReadyH.cons rfl (fun K hK => ?_) AllReadyH.nil
          go_simp
          change K _ (set3 w4.drew (w.heap.size + 1) (.slice B RL' d) (.int .i64 (s.mx : Int)) (.int .i64 (cap : Int)))
          clear e0 e1 e2 t0 t1 t2 hHeld
          generalize (set3 w4.drew (w.heap.size + 1) (.slice B RL' d) (.int .i64 (s.mx : Int)) (.int .i64 (cap : Int))) = w7 at *
          refine hK.out _ _ ⟨HB3.out.cell (j := 0) rfl, HB3.out.cell (j := 1) rfl, HB3.out.cell (j := 2) rfl⟩ (fun hHeld => ?_)
          clear hK K HBx
          try simp only [Act.put, List.getElem_toArray, List.getElem_cons_zero, List.getElem_cons_succ, List.setIfInBounds_toArray, List.set_cons_zero, List.set_cons_succ]
          refine wpAnyH_take (i := 4) (v := ?v4q7) rfl (by kernel_rfl) (by kernel_rfl) (by kernel_rfl) (fun _ _ _ h => h) (Or.inl ⟨by rfl, ?hy4q7⟩) (by assumption) ?rest4q7
          case hy4q7 => (intro w hSw; (try dsimp only at hSw); go_simp <;> with_reducible rfl)
          try simp only [Act.put, List.getElem_toArray, List.getElem_cons_zero, List.getElem_cons_succ, List.setIfInBounds_toArray, List.set_cons_zero, List.set_cons_succ]
          refine wpAnyH_done (by kernel_rfl) ?_ _
          go_wp2_with fail
          refine bodyPost_ret (ret_vdc rfl _ _ (w.heap.size + 1) #[.slice B RL' d, .int .i64 (s.mx : Int), .int .i64 (cap : Int)] rfl HR3.out rfl) rfl ?_
          obtain rfl : R = none := HNO.out (trivial)
          exact ⟨⟨_, _, _, _, _, _, _, rfl⟩, HW3.out⟩
        | some y =>
          obtain ⟨s', r⟩ := y
          obtain ⟨p, f, A', c', rfl, hp1, hp2, hso, hR3, hc3⟩ := he
          obtain ⟨nm, vl, nv⟩ := f
          unfold fv tx dv
          simp only
          obtain ⟨SL, hSL⟩ : ∃ SL, SL = s'.tb.reverse.length := ⟨_, rfl⟩
          rw [← hSL]
          have HSL := Lib.hid hSL
          clear hSL
          have hf2 := (HSZP.out s' r rfl).2 ⟨nm, vl, nv⟩ hso
          have hti := (HSZP.out s' r rfl).1
          have hT1 : tot s'.out = tot s.out + sz ⟨nm, vl, nv⟩ := by rw [hso, tot_snoc]
          have hn1 : s'.out.length = n0 + 1 := by rw [hso, List.length_append, hn0.out]; rfl
          have hrl := (HINV.out s' r rfl).2.2.1
          have hpp : at_ < p := by rw [← hp1, List.length_drop, List.length_drop] at hrl; omega
          have hsz := fun W => rsize_any ⟨nm, vl, nv⟩ (by omega) W
          unfold fv tx at hsz
          simp only at hsz
          have hsb : sz ⟨nm, vl, nv⟩ ≤ 60000 := hf2
          generalize sz ⟨nm, vl, nv⟩ = Z at *
          have HT1 := Lib.hid hT1
          have HN1 := Lib.hid hn1
          have hb4 := ((Below.refl w3.heap.size w3).alloc (Nat.le_refl _) (.cells #[.string ⟨nm.toArray⟩, .string ⟨vl.toArray⟩, .bool nv] 52)).alloc (by simp) (.cells #[.slice A' SL c', .int .i64 (s'.mx : Int), .int .i64 (cap : Int)] 35)
          have hD4 := (HD0.out.below hb3 HD0.out.lt).below hb4 (by have := HD0.out.lt; have := hb3.size; omega)
          have HD4 := Lib.hid hD4
          have h5 : ((((((w3.alloc (.cells #[.string ⟨nm.toArray⟩, .string ⟨vl.toArray⟩, .bool nv] 52)).alloc (.cells #[.slice A' SL c', .int .i64 (s'.mx : Int), .int .i64 (cap : Int)] 35))).setCell ⟨w.heap.size, 0, none⟩ (.slice A' SL c')).setCell ⟨w.heap.size, 1, none⟩ (.int .i64 (s'.mx : Int))).setCell ⟨w.heap.size, 2, none⟩ (.int .i64 (cap : Int))).heap.size = w3.heap.size + 1 + 1 := by simp [World.setCell]
          have hb6 : Below ((((((w3.alloc (.cells #[.string ⟨nm.toArray⟩, .string ⟨vl.toArray⟩, .bool nv] 52)).alloc (.cells #[.slice A' SL c', .int .i64 (s'.mx : Int), .int .i64 (cap : Int)] 35))).setCell ⟨w.heap.size, 0, none⟩ (.slice A' SL c')).setCell ⟨w.heap.size, 1, none⟩ (.int .i64 (s'.mx : Int))).setCell ⟨w.heap.size, 2, none⟩ (.int .i64 (cap : Int))).heap.size ((((((w3.alloc (.cells #[.string ⟨nm.toArray⟩, .string ⟨vl.toArray⟩, .bool nv] 52)).alloc (.cells #[.slice A' SL c', .int .i64 (s'.mx : Int), .int .i64 (cap : Int)] 35))).setCell ⟨w.heap.size, 0, none⟩ (.slice A' SL c')).setCell ⟨w.heap.size, 1, none⟩ (.int .i64 (s'.mx : Int))).setCell ⟨w.heap.size, 2, none⟩ (.int .i64 (cap : Int))) (((((((w3.alloc (.cells #[.string ⟨nm.toArray⟩, .string ⟨vl.toArray⟩, .bool nv] 52)).alloc (.cells #[.slice A' SL c', .int .i64 (s'.mx : Int), .int .i64 (cap : Int)] 35))).setCell ⟨w.heap.size, 0, none⟩ (.slice A' SL c')).setCell ⟨w.heap.size, 1, none⟩ (.int .i64 (s'.mx : Int))).setCell ⟨w.heap.size, 2, none⟩ (.int .i64 (cap : Int))).alloc (.cells #[.string ⟨nm.toArray⟩, .string ⟨vl.toArray⟩, .bool nv] 52)) := (Below.refl _ _).alloc (Nat.le_refl _) _
          have HF6 : Hid (Fs (fun k => k = w.heap.size) w3 (((((((w3.alloc (.cells #[.string ⟨nm.toArray⟩, .string ⟨vl.toArray⟩, .bool nv] 52)).alloc (.cells #[.slice A' SL c', .int .i64 (s'.mx : Int), .int .i64 (cap : Int)] 35))).setCell ⟨w.heap.size, 0, none⟩ (.slice A' SL c')).setCell ⟨w.heap.size, 1, none⟩ (.int .i64 (s'.mx : Int))).setCell ⟨w.heap.size, 2, none⟩ (.int .i64 (cap : Int))).alloc (.cells #[.string ⟨nm.toArray⟩, .string ⟨vl.toArray⟩, .bool nv] 52))) := ((((Fs.of_below (S := fun k => k = w.heap.size) hb4).setCell (fun _ => rfl) 0 _).setCell (fun _ => rfl) 1 _).setCell (fun _ => rfl) 2 _).then_below hb6
          have HO6 : Hid (OwS (((((((w3.alloc (.cells #[.string ⟨nm.toArray⟩, .string ⟨vl.toArray⟩, .bool nv] 52)).alloc (.cells #[.slice A' SL c', .int .i64 (s'.mx : Int), .int .i64 (cap : Int)] 35))).setCell ⟨w.heap.size, 0, none⟩ (.slice A' SL c')).setCell ⟨w.heap.size, 1, none⟩ (.int .i64 (s'.mx : Int))).setCell ⟨w.heap.size, 2, none⟩ (.int .i64 (cap : Int))).alloc (.cells #[.string ⟨nm.toArray⟩, .string ⟨vl.toArray⟩, .bool nv] 52)) (w.heap.size + 3) 52 3 (.slice Ao s.out.length co) s.out.length (enl fdc s.out)) := HF6.out.owns (hG.out.ow.below hb3) (fun k hk e => by have := (hG.out.ow.lt k hk).1; omega)
          rw [← hn0.out] at HO6
          have HN6 : Hid (∀ j u, #[.string ⟨nm.toArray⟩, .string ⟨vl.toArray⟩, .bool nv].toList[j]? = some u → (((((((w3.alloc (.cells #[.string ⟨nm.toArray⟩, .string ⟨vl.toArray⟩, .bool nv] 52)).alloc (.cells #[.slice A' SL c', .int .i64 (s'.mx : Int), .int .i64 (cap : Int)] 35))).setCell ⟨w.heap.size, 0, none⟩ (.slice A' SL c')).setCell ⟨w.heap.size, 1, none⟩ (.int .i64 (s'.mx : Int))).setCell ⟨w.heap.size, 2, none⟩ (.int .i64 (cap : Int))).alloc (.cells #[.string ⟨nm.toArray⟩, .string ⟨vl.toArray⟩, .bool nv] 52)).cell? ((⟨w3.heap.size + 1 + 1, 0, none⟩ : Addr).add j) = some u) := by
            have h9 := World.news_of_block (heap_alloc_last ((((((w3.alloc (.cells #[.string ⟨nm.toArray⟩, .string ⟨vl.toArray⟩, .bool nv] 52)).alloc (.cells #[.slice A' SL c', .int .i64 (s'.mx : Int), .int .i64 (cap : Int)] 35))).setCell ⟨w.heap.size, 0, none⟩ (.slice A' SL c')).setCell ⟨w.heap.size, 1, none⟩ (.int .i64 (s'.mx : Int))).setCell ⟨w.heap.size, 2, none⟩ (.int .i64 (cap : Int))) (.cells #[.string ⟨nm.toArray⟩, .string ⟨vl.toArray⟩, .bool nv] 52))
            rw [h5] at h9
            exact h9
          have HRF : Hid (Row (((((((w3.alloc (.cells #[.string ⟨nm.toArray⟩, .string ⟨vl.toArray⟩, .bool nv] 52)).alloc (.cells #[.slice A' SL c', .int .i64 (s'.mx : Int), .int .i64 (cap : Int)] 35))).setCell ⟨w.heap.size, 0, none⟩ (.slice A' SL c')).setCell ⟨w.heap.size, 1, none⟩ (.int .i64 (s'.mx : Int))).setCell ⟨w.heap.size, 2, none⟩ (.int .i64 (cap : Int))).alloc (.cells #[.string ⟨nm.toArray⟩, .string ⟨vl.toArray⟩, .bool nv] 52)) w3.heap.size 52 #[.string ⟨nm.toArray⟩, .string ⟨vl.toArray⟩, .bool nv]) := ((set3_other (show w3.heap.size ≠ w.heap.size by have := hb3.size; omega) ((Row.new w3 52 #[.string ⟨nm.toArray⟩, .string ⟨vl.toArray⟩, .bool nv]).alloc (.cells #[.slice A' SL c', .int .i64 (s'.mx : Int), .int .i64 (cap : Int)] 35))).alloc _ : Row ((set3 ((w3.alloc (.cells #[.string ⟨nm.toArray⟩, .string ⟨vl.toArray⟩, .bool nv] 52)).alloc (.cells #[.slice A' SL c', .int .i64 (s'.mx : Int), .int .i64 (cap : Int)] 35)) w.heap.size (.slice A' SL c') (.int .i64 (s'.mx : Int)) (.int .i64 (cap : Int))).alloc (.cells #[.string ⟨nm.toArray⟩, .string ⟨vl.toArray⟩, .bool nv] 52)) w3.heap.size 52 #[.string ⟨nm.toArray⟩, .string ⟨vl.toArray⟩, .bool nv])
          have HB6 := Lib.hid hb6
          have HB4 := Lib.hid hb4
          have v0 := HD4.out.cell (j := 0) rfl
          have v1 := HD4.out.cell (j := 1) rfl
          have v2 := HD4.out.cell (j := 2) rfl
          have q0 := HD4.out.thawed 0
          have q1 := HD4.out.thawed 1
          have q2 := HD4.out.thawed 2
          have hs3 := hb3.size
          have HB3 := Lib.hid hb3
          have HR3 := Lib.hid hR3
          have HO3 := Lib.hid hso
          have HOL : Hid (∀ k, ob (.slice Ao n0 co) k → k < wr.heap.size) := fun k hk => by
            have h8 := hG.out.ow.lt k
            rw [← hn0.out] at h8
            exact (h8 hk).2
          obtain ⟨i0, hi0, hz0, hz1, hz2⟩ := field_parts
          clear hb4 hb6 hb3 hR3 hso h5 hD4 hT1 hn1 hrl hti hf2
          go_wp2_with (at_builtin; go_loud (refine wpList_appS rfl (.tmp 78) (.tmp 80) 31 rfl (w.heap.size + 3) 52 i0 _ 3 40 Try.underlying31 hi0 hz0 hz1 hz2 rfl (.slice Ao n0 co) n0 (enl fdc s.out) rfl HO6.out ⟨w3.heap.size + 1 + 1, 0, none⟩ 1 1 [.string ⟨nm.toArray⟩, .string ⟨vl.toArray⟩, .bool nv] rfl rfl (by simpa using HN6.out) (by intro u hu; simp only [List.mem_cons, List.not_mem_nil, or_false] at hu; rcases hu with rfl | rfl | rfl <;> rfl) (by omega) (by simp only [maxLen]; omega) (by omega) (by simp; omega) ?_; intro A6 c6 w6 hO6 hg6 hb6; have hne6 : some w3.heap.size ≠ (Value.slice Ao n0 co).ownBlock := (fun e => by have := HOL.out w3.heap.size e.symm; omega); have hRF6 := (Fs.of_grown hg6).row (b := w3.heap.size) (fun e => hne6 e.symm) HRF.out; have m0 := hRF6.cell (j := 0) rfl; have m1 := hRF6.cell (j := 1) rfl; have m2 := hRF6.cell (j := 2) rfl; have HG6 := Lib.hid hg6; have HO66 := Lib.hid hO6; have HB66 := Lib.hid hb6; clear hg6 hO6 hb6 hne6 hRF6))
          refine (hsz _).mono ?_
          rintro e w7 ⟨rfl, hb7⟩
          have h60 : T0 + Z ≤ p * 60000 := by
            have h1 := Nat.mul_le_mul_right 60000 (show at_ + 1 ≤ p from hpp)
            rw [Nat.succ_mul] at h1
            exact Nat.le_trans (Nat.add_le_add hTb hsb) h1
          have hT9 : T0 ≤ 720000000 := Nat.le_trans hTb (Nat.le_trans (Nat.mul_le_mul_right 60000 (show at_ ≤ 12000 by omega)) (by decide))
          have HG7 : Hid (G6 w w7 T cap l R s' p A' c' A6 c6) := by
            have e1 := HSL.out
            subst e1
            have e2 := hn0.out
            subst e2
            exact G6.fld hG.out HTl.out HB3.out HR3.out hc3 HB4.out HB6.out HG6.out (by rw [HN1.out, HO3.out, enl_append, enl_one]; exact HO66.out) (by rw [HN1.out]; exact HB66.out) hb7 (by rw [hp1]; exact HEQ.out s' r rfl) ⟨(HINV.out s' r rfl).1, (HINV.out s' r rfl).2.1⟩ ⟨hp2, by rw [HN1.out]; omega, by rw [HT1.out, ← hT0.out]; exact h60⟩
          have HT7 : Hid (T0 + Z = tot s'.out) := by show _ = _; rw [HT1.out, hT0.out]
          have HN7 : Hid (n0 + 1 = s'.out.length) := HN1.out.symm
          have H60 := Lib.hid h60
          have HTB := Lib.hid hTb
          clear hb7 h60 hTb m0 m1 m2 hsz
          go_wp2_with fail
          go_roundw
          case rel => exact ⟨s', p, A', c', A6, c6, T0 + Z, n0 + 1, rfl, by go_num, by go_num, HT7, HN7, hp2, H60.out, by omega, HG7⟩
          case measure => simp [intOf]; omega
    · obtain rfl : at_ = l.length := by omega
      have hRs : R = some s := by rw [← hG.out.eq, List.drop_length]; exact blk_nil _ _
      subst hRs
      obtain ⟨RL', hRL'⟩ : ∃ RL', RL' = s.tb.reverse.length := ⟨_, rfl⟩
      have HD0 := Lib.hid hG.out.rd
      have HR0 := Lib.hid hG.out.rr
      have HW0 := Lib.hid hG.out.be
      rw [← hRL'] at HD0
      have HRL := Lib.hid hRL'
      clear hRL'
      by_cases hgt : 4096 < T0
      · go_wp2_with fail
        have HBx : Hid (Row wr.drew w.heap.size 35 #[.slice B RL' d, .int .i64 (s.mx : Int), .int .i64 (cap : Int)]) := HD0.out
        have HB3 : Hid (Row (set3 wr.drew (w.heap.size + 1) (.slice B RL' d) (.int .i64 (s.mx : Int)) (.int .i64 (cap : Int))) w.heap.size 35 #[.slice B RL' d, .int .i64 (s.mx : Int), .int .i64 (cap : Int)]) := set3_other (by omega) HBx.out
        have HR3 : Hid (Row (set3 wr.drew (w.heap.size + 1) (.slice B RL' d) (.int .i64 (s.mx : Int)) (.int .i64 (cap : Int))) (w.heap.size + 1) 35 #[.slice B RL' d, .int .i64 (s.mx : Int), .int .i64 (cap : Int)]) := set3_own HR0.out
        have HW3 : Hid (Below w.heap.size w (set3 wr.drew (w.heap.size + 1) (.slice B RL' d) (.int .i64 (s.mx : Int)) (.int .i64 (cap : Int)))) := set3_below (HW0.out.drew) (by omega)
        have HS3 : Hid ((set3 wr.drew (w.heap.size + 1) (.slice B RL' d) (.int .i64 (s.mx : Int)) (.int .i64 (cap : Int))).heap.size = wr.heap.size) := by show _ = _; rw [set3_size]; rfl
        refine wp_region_held_drew (S := fun w' => w'.cell? ⟨w.heap.size, 0, none⟩ = some (.slice B RL' d) ∧ w'.cell? ⟨w.heap.size, 1, none⟩ = some (.int .i64 (s.mx : Int)) ∧ w'.cell? ⟨w.heap.size, 2, none⟩ = some (.int .i64 (cap : Int))) (by kernel_rfl) ⟨HBx.out.cell (j := 0) rfl, HBx.out.cell (j := 1) rfl, HBx.out.cell (j := 2) rfl⟩ (fun hHeld => ?_)
        have e0 : wr.cell? ⟨w.heap.size + 1, 0, none⟩ = some (.slice none 0 0) := HR0.out.cell (j := 0) rfl
        have t0 : wr.frozen? ⟨w.heap.size + 1, 0, none⟩ = false := HR0.out.thawed 0
        have e1 : wr.cell? ⟨w.heap.size + 1, 1, none⟩ = some (.int .i64 0) := HR0.out.cell (j := 1) rfl
        have t1 : wr.frozen? ⟨w.heap.size + 1, 1, none⟩ = false := HR0.out.thawed 1
        have e2 : wr.cell? ⟨w.heap.size + 1, 2, none⟩ = some (.int .i64 0) := HR0.out.cell (j := 2) rfl
        have t2 : wr.frozen? ⟨w.heap.size + 1, 2, none⟩ = false := HR0.out.thawed 2
        refine wpAnyH_take (i := 0) (v := ?v0q8) rfl (by kernel_rfl) (by kernel_rfl) (by kernel_rfl) (fun _ _ _ h => h) (Or.inl ⟨by rfl, ?hy0q8⟩) (by assumption) ?rest0q8
        case hy0q8 => (intro w hSw; (try dsimp only at hSw); go_simp <;> with_reducible rfl)
        try simp only [Act.put, List.getElem_toArray, List.getElem_cons_zero, List.setIfInBounds_toArray, List.set_cons_zero, List.set_cons_succ]
        refine wpAnyH_take (i := 1) (v := ?v1q8) rfl (by kernel_rfl) (by kernel_rfl) (by kernel_rfl) (fun _ _ _ h => h) (Or.inl ⟨by rfl, ?hy1q8⟩) (by assumption) ?rest1q8
        case hy1q8 => (intro w hSw; (try dsimp only at hSw); go_simp <;> with_reducible rfl)
        try simp only [Act.put, List.getElem_toArray, List.getElem_cons_zero, List.getElem_cons_succ, List.setIfInBounds_toArray, List.set_cons_zero, List.set_cons_succ]
        refine wpAnyH_take (i := 2) (v := ?v2q8) rfl (by kernel_rfl) (by kernel_rfl) (by kernel_rfl) (fun _ _ _ h => h) (Or.inl ⟨by rfl, ?hy2q8⟩) (by assumption) ?rest2q8
        case hy2q8 => (intro w hSw; (try dsimp only at hSw); go_simp <;> with_reducible rfl)
        try simp only [Act.put, List.getElem_toArray, List.getElem_cons_zero, List.getElem_cons_succ, List.setIfInBounds_toArray, List.set_cons_zero, List.set_cons_succ]
        refine wpAnyH_ready (rs := [3]) (by kernel_rfl) (by simp) ?_
        refine AllReadyH.cons rfl (fun K hK => ?_) AllReadyH.nil
        go_simp
        change K _ (set3 wr.drew (w.heap.size + 1) (.slice B RL' d) (.int .i64 (s.mx : Int)) (.int .i64 (cap : Int)))
        clear e0 e1 e2 t0 t1 t2 hHeld
        generalize (set3 wr.drew (w.heap.size + 1) (.slice B RL' d) (.int .i64 (s.mx : Int)) (.int .i64 (cap : Int))) = w7 at *
        refine hK.out _ _ ⟨HB3.out.cell (j := 0) rfl, HB3.out.cell (j := 1) rfl, HB3.out.cell (j := 2) rfl⟩ (fun hHeld => ?_)
        clear hK K HBx
        try simp only [Act.put, List.getElem_toArray, List.getElem_cons_zero, List.getElem_cons_succ, List.setIfInBounds_toArray, List.set_cons_zero, List.set_cons_succ]
        refine wpAnyH_take (i := 4) (v := ?v4q9) rfl (by kernel_rfl) (by kernel_rfl) (by kernel_rfl) (fun _ _ _ h => h) (Or.inl ⟨by rfl, ?hy4q9⟩) (by assumption) ?rest4q9
        case hy4q9 => (intro w hSw; (try dsimp only at hSw); go_simp <;> with_reducible rfl)
        try simp only [Act.put, List.getElem_toArray, List.getElem_cons_zero, List.getElem_cons_succ, List.setIfInBounds_toArray, List.set_cons_zero, List.set_cons_succ]
        refine wpAnyH_done (by kernel_rfl) ?_ _
        go_wp2_with fail
        refine bodyPost_ret (ret_vdc rfl _ _ (w.heap.size + 1) #[.slice B RL' d, .int .i64 (s.mx : Int), .int .i64 (cap : Int)] rfl HR3.out rfl) rfl ?_
        exact ⟨⟨hG.out.tm.1, hG.out.tm.2, .inl ⟨by rw [← hT0.out]; exact hgt, _, _, _, _, _, _, _, rfl⟩⟩, HW3.out⟩
      · go_wp2_with fail
        have HBx : Hid (Row wr.drew w.heap.size 35 #[.slice B RL' d, .int .i64 (s.mx : Int), .int .i64 (cap : Int)]) := HD0.out
        have HB3 : Hid (Row (set3 wr.drew (w.heap.size + 1) (.slice B RL' d) (.int .i64 (s.mx : Int)) (.int .i64 (cap : Int))) w.heap.size 35 #[.slice B RL' d, .int .i64 (s.mx : Int), .int .i64 (cap : Int)]) := set3_other (by omega) HBx.out
        have HR3 : Hid (Row (set3 wr.drew (w.heap.size + 1) (.slice B RL' d) (.int .i64 (s.mx : Int)) (.int .i64 (cap : Int))) (w.heap.size + 1) 35 #[.slice B RL' d, .int .i64 (s.mx : Int), .int .i64 (cap : Int)]) := set3_own HR0.out
        have HW3 : Hid (Below w.heap.size w (set3 wr.drew (w.heap.size + 1) (.slice B RL' d) (.int .i64 (s.mx : Int)) (.int .i64 (cap : Int)))) := set3_below (HW0.out.drew) (by omega)
        have HS3 : Hid ((set3 wr.drew (w.heap.size + 1) (.slice B RL' d) (.int .i64 (s.mx : Int)) (.int .i64 (cap : Int))).heap.size = wr.heap.size) := by show _ = _; rw [set3_size]; rfl
        have HO3 : Hid (RdS (set3 wr.drew (w.heap.size + 1) (.slice B RL' d) (.int .i64 (s.mx : Int)) (.int .i64 (cap : Int))) (fun b => w.heap.size + 3 ≤ b ∧ b < wr.heap.size) Ao (enl fdc s.out)) := set3_rds (hG.out.ow.up.keep fun _ _ => rfl) (fun b hb => by have := hb.1; omega)
        have HT3 : Hid (RdS (set3 wr.drew (w.heap.size + 1) (.slice B RL' d) (.int .i64 (s.mx : Int)) (.int .i64 (cap : Int))) (fun b => (T b ∨ (w.heap.size + 4 ≤ b ∧ b < wr.heap.size)) ∧ (Value.slice Ao s.out.length co).ownBlock ≠ some b) B (enl fdc s.tb.reverse)) := set3_rds (hG.out.tb.keep fun _ _ => rfl) (fun b hb => hb.1.elim (fun h => by have := HTl.out b h; omega) (fun h => by omega))
        refine wp_region_held_drew (S := fun w' => w'.cell? ⟨w.heap.size, 0, none⟩ = some (.slice B RL' d) ∧ w'.cell? ⟨w.heap.size, 1, none⟩ = some (.int .i64 (s.mx : Int)) ∧ w'.cell? ⟨w.heap.size, 2, none⟩ = some (.int .i64 (cap : Int))) (by kernel_rfl) ⟨HBx.out.cell (j := 0) rfl, HBx.out.cell (j := 1) rfl, HBx.out.cell (j := 2) rfl⟩ (fun hHeld => ?_)
        have e0 : wr.cell? ⟨w.heap.size + 1, 0, none⟩ = some (.slice none 0 0) := HR0.out.cell (j := 0) rfl
        have t0 : wr.frozen? ⟨w.heap.size + 1, 0, none⟩ = false := HR0.out.thawed 0
        have e1 : wr.cell? ⟨w.heap.size + 1, 1, none⟩ = some (.int .i64 0) := HR0.out.cell (j := 1) rfl
        have t1 : wr.frozen? ⟨w.heap.size + 1, 1, none⟩ = false := HR0.out.thawed 1
        have e2 : wr.cell? ⟨w.heap.size + 1, 2, none⟩ = some (.int .i64 0) := HR0.out.cell (j := 2) rfl
        have t2 : wr.frozen? ⟨w.heap.size + 1, 2, none⟩ = false := HR0.out.thawed 2
        refine wpAnyH_take (i := 0) (v := ?v0q10) rfl (by kernel_rfl) (by kernel_rfl) (by kernel_rfl) (fun _ _ _ h => h) (Or.inl ⟨by rfl, ?hy0q10⟩) (by assumption) ?rest0q10
        case hy0q10 => (intro w hSw; (try dsimp only at hSw); go_simp <;> with_reducible rfl)
        try simp only [Act.put, List.getElem_toArray, List.getElem_cons_zero, List.setIfInBounds_toArray, List.set_cons_zero, List.set_cons_succ]
        refine wpAnyH_take (i := 1) (v := ?v1q10) rfl (by kernel_rfl) (by kernel_rfl) (by kernel_rfl) (fun _ _ _ h => h) (Or.inl ⟨by rfl, ?hy1q10⟩) (by assumption) ?rest1q10
        case hy1q10 => (intro w hSw; (try dsimp only at hSw); go_simp <;> with_reducible rfl)
        try simp only [Act.put, List.getElem_toArray, List.getElem_cons_zero, List.getElem_cons_succ, List.setIfInBounds_toArray, List.set_cons_zero, List.set_cons_succ]
        refine wpAnyH_take (i := 2) (v := ?v2q10) rfl (by kernel_rfl) (by kernel_rfl) (by kernel_rfl) (fun _ _ _ h => h) (Or.inl ⟨by rfl, ?hy2q10⟩) (by assumption) ?rest2q10
        case hy2q10 => (intro w hSw; (try dsimp only at hSw); go_simp <;> with_reducible rfl)
        try simp only [Act.put, List.getElem_toArray, List.getElem_cons_zero, List.getElem_cons_succ, List.setIfInBounds_toArray, List.set_cons_zero, List.set_cons_succ]
        refine wpAnyH_ready (rs := [3]) (by kernel_rfl) (by simp) ?_
        refine AllReadyH.cons rfl (fun K hK => ?_) AllReadyH.nil
        go_simp
        change K _ (set3 wr.drew (w.heap.size + 1) (.slice B RL' d) (.int .i64 (s.mx : Int)) (.int .i64 (cap : Int)))
        clear e0 e1 e2 t0 t1 t2 hHeld
        generalize (set3 wr.drew (w.heap.size + 1) (.slice B RL' d) (.int .i64 (s.mx : Int)) (.int .i64 (cap : Int))) = w7 at *
        refine hK.out _ _ ⟨HB3.out.cell (j := 0) rfl, HB3.out.cell (j := 1) rfl, HB3.out.cell (j := 2) rfl⟩ (fun hHeld => ?_)
        clear hK K HBx
        try simp only [Act.put, List.getElem_toArray, List.getElem_cons_zero, List.getElem_cons_succ, List.setIfInBounds_toArray, List.set_cons_zero, List.set_cons_succ]
        refine wpAnyH_take (i := 4) (v := ?v4q11) rfl (by kernel_rfl) (by kernel_rfl) (by kernel_rfl) (fun _ _ _ h => h) (Or.inl ⟨by rfl, ?hy4q11⟩) (by assumption) ?rest4q11
        case hy4q11 => (intro w hSw; (try dsimp only at hSw); go_simp <;> with_reducible rfl)
        try simp only [Act.put, List.getElem_toArray, List.getElem_cons_zero, List.getElem_cons_succ, List.setIfInBounds_toArray, List.set_cons_zero, List.set_cons_succ]
        refine wpAnyH_done (by kernel_rfl) ?_ _
        go_wp2_with fail
        refine bodyPost_ret (ret_vdc rfl _ _ (w.heap.size + 1) #[.slice B RL' d, .int .i64 (s.mx : Int), .int .i64 (cap : Int)] rfl HR3.out rfl) rfl ?_
        have hz := HS3.out
        refine ⟨⟨hG.out.tm.1, hG.out.tm.2, .inr ⟨by rw [← hT0.out]; omega, Ao, co, B, d, ?_, HO3.out.imp fun b hb _ => ⟨by omega, by omega⟩, HT3.out.imp fun b hb _ => ?_, hG.out.td⟩⟩, HW3.out⟩
        · have h1 := HRL.out; have h2 := hn0.out; subst h1 h2; rfl
        · rcases hb.1 with h | h
          · exact .inl h
          · exact .inr ⟨by omega, by omega⟩
end Go.Proofs.Ytfajffchnnalaaa

namespace Go.Proofs.Ytfajffchnnalaaa
open Go.RowKit Go.WideShapes

attribute [local irreducible] tot sz shr pieceR blockR blk

theorem GetE.gen {w w' : World} {base gd g : Nat} {v : Value} {cap : Nat} {R : Option Rd} {e : Ending} (h : GetE w base gd g v cap R e w') :
    ∃ (Ag : Option Addr) (ng cg fa fb : Nat) (v' : Value), e = .returned (.tuple #[.slice Ag ng cg, .agg #[.int .u8 (fa : Int), .int .u32 (fb : Int)]]) ∧ Fs (EB gd g v) w w' ∧ Nx w v v' ∧
      (R = none → ng = 0 ∧ fa = 1 ∧ fb = 9) ∧
      (∀ s, R = some s → Dn w' base gd g v' s.tb s.mx cap ∧ tot s.tb ≤ s.mx ∧ s.mx ≤ 4096 ∧ (4096 < tot s.out → ng = 0 ∧ fa = 1 ∧ fb = 11) ∧
        (tot s.out ≤ 4096 → ng = s.out.length ∧ fa = 0 ∧ fb = 0 ∧ RdS w' (fun b => w.heap.size ≤ b ∧ b < w'.heap.size ∧ ¬ EB gd g v' b) Ag (enl fdc s.out))) := by
  obtain ⟨hF, hm⟩ := h
  cases R with
  | none =>
    subst hm
    exact ⟨none, 0, 0, 1, 9, v, rfl, hF, Nx.refl _ _, fun _ => ⟨rfl, rfl, rfl⟩, fun s e => by cases e⟩
  | some s =>
    obtain ⟨v', hD, hN, h1, h2, h3⟩ := hm
    rcases h3 with ⟨h3, rfl⟩ | ⟨h3, A, c, rfl, hO, hx⟩
    · refine ⟨none, 0, 0, 1, 11, v', rfl, hF, hN, fun e => by (cases e), fun s' e => ?_⟩
      cases e
      exact ⟨hD, h1, h2, fun _ => ⟨rfl, rfl, rfl⟩, fun h => by omega⟩
    · refine ⟨A, s.out.length, c, 0, 0, v', rfl, hF, hN, fun e => by (cases e), fun s' e => ?_⟩
      cases e
      refine ⟨hD, h1, h2, fun h => by omega, fun _ => ⟨rfl, rfl, rfl, hO.reads.imp fun b hb hl => ?_⟩⟩
      have := hx b hb
      exact ⟨this.1, hl, this.2⟩

theorem RGetE.gen {w w' : World} {T : Nat → Prop} {cap : Nat} {R : Option Rd} {e : Ending} (h : RGetE w w' T cap R e) :
    ∃ (A1 : Option Addr) (n1 c1 : Nat) (A' : Option Addr) (m' d' : Nat) (M' C' : Int) (code : Nat), e = .returned (.tuple #[.slice A1 n1 c1, .agg #[.slice A' m' d', .int .i64 M', .int .i64 C'], .int .i64 (code : Int)]) ∧
      (R = none → code = 9) ∧ (∀ s, R = some s → tot s.tb ≤ s.mx ∧ s.mx ≤ 4096 ∧ (4096 < tot s.out → code = 11) ∧ (tot s.out ≤ 4096 → code = 0 ∧ n1 = s.out.length ∧ m' = s.tb.reverse.length ∧ M' = (s.mx : Int) ∧ C' = (cap : Int) ∧
        RdS w' (fun b => w.heap.size ≤ b ∧ b < w'.heap.size) A1 (enl fdc s.out) ∧ RdS w' (fun b => T b ∨ (w.heap.size ≤ b ∧ b < w'.heap.size)) A' (enl fdc s.tb.reverse) ∧ s.tb.reverse.length ≤ d')) := by
  cases R with
  | none =>
    obtain ⟨n, c', A', m', d', M', C', rfl⟩ := h
    exact ⟨n, 0, c', A', m', d', M', C', 9, rfl, fun _ => rfl, fun s e => by cases e⟩
  | some s =>
    obtain ⟨h1, h2, h3⟩ := h
    rcases h3 with ⟨h3, n, c', A', m', d', M', C', rfl⟩ | ⟨h3, A1, c1, B', d', rfl, k1, k2, k3⟩
    · refine ⟨n, 0, c', A', m', d', M', C', 11, rfl, fun e => by (cases e), fun s' e => ?_⟩
      cases e
      exact ⟨h1, h2, fun _ => rfl, fun h => by omega⟩
    · refine ⟨A1, s.out.length, c1, B', s.tb.reverse.length, d', s.mx, cap, 0, rfl, fun e => by (cases e), fun s' e => ?_⟩
      cases e
      exact ⟨h1, h2, fun h => by omega, fun _ => ⟨rfl, rfl, rfl, rfl, rfl, k1, k2, k3⟩⟩

/-- A decoder and the document's, side by side. -/
structure G7 (w wr : World) (gd g : Nat) (v : Value) (gm : Nat) (L : List Fd) (M cap : Nat) (B : Option Addr) (RL d : Nat) : Prop where
  dn : Dn wr w.heap.size gd g v L M cap
  ro : Row wr gm 35 #[.slice B RL d, .int .i64 (M : Int), .int .i64 (cap : Int)]
  rl : RL = L.reverse.length
  tb : RdS wr (fun b => b < wr.heap.size ∧ b ≠ gm ∧ ¬ EB gd g v b) B (enl fdc L.reverse)
  td : L.reverse.length ≤ d
  tm : tot L ≤ M ∧ M ≤ 4096
  be : Below w.heap.size w wr
  ne : ¬ EB gd g v gm
  lo : w.heap.size ≤ gm

theorem G7.start {w w2 w3 : World} {gd g : Nat} {M : Nat} (hD : Dn w2 w.heap.size gd g (.slice none 0 0) [] M M) (h2 : Below w.heap.size w w2) (h3 : Below w2.heap.size w2 w3) (hM : M ≤ 4096) :
    G7 w (w3.alloc (.cells #[.slice none 0 0, .int .i64 (M : Int), .int .i64 (M : Int)] 35)) gd g (.slice none 0 0) w3.heap.size [] M M none 0 0 :=
  ⟨(hD.below h3).below ((Below.refl _ _).alloc (Nat.le_refl _) _), Row.new w3 _ _, rfl, RdS.nil, Nat.le_refl _, ⟨by rw [tot_nil0]; exact Nat.zero_le _, hM⟩, (h2.trans (h3.mono h2.size)).alloc (by have := h2.size; have := h3.size; omega) _, fun e => by have := (hD.eb e).2; have := h3.size; omega, by have := h2.size; have := h3.size; omega⟩

/-- One round: the decoder read (to w3), something of the round's own turned (to w7), the document read (to w8), its decoder was kept (w9, w10). -/
theorem G7.step {w wr w3 w7 w8 w9 : World} {gd g : Nat} {v v' : Value} {gm : Nat} {L L' : List Fd} {M M' cap : Nat} {B A' : Option Addr} {RL d d' : Nat} (h : G7 w wr gd g v gm L M cap B RL d)
    (hF3 : Fs (fun k => EB gd g v k ∨ wr.heap.size ≤ k) wr w3) (hN : Nx wr v v') (hD : Dn w3 w.heap.size gd g v' L' M' cap) {S : Nat → Prop} (hF7 : Fs S w3 w7) (hS : ∀ k, S k → wr.heap.size ≤ k ∧ ¬ EB gd g v' k)
    (h8 : Below w7.heap.size w7 w8) (hT : RdS w8 (fun b => (b < w7.heap.size ∧ b ≠ gm ∧ ¬ EB gd g v' b) ∨ (w7.heap.size ≤ b ∧ b < w8.heap.size)) A' (enl fdc L'.reverse)) (hd : L'.reverse.length ≤ d') (htm : tot L' ≤ M' ∧ M' ≤ 4096) (h9 : Below w8.heap.size w8 w9) :
    G7 w (set3 w9 gm (.slice A' L'.reverse.length d') (.int .i64 (M' : Int)) (.int .i64 (cap : Int))) gd g v' gm L' M' cap A' L'.reverse.length d' := by
  have hgm := h.ro.lt
  have hs3 := hF3.size
  have hs7 := hF7.size
  have hs8 := h8.size
  have hs9 := h9.size
  have hne' : ¬ EB gd g v' gm := fun e => by
    rcases EB.next hN e with e | e
    · exact h.ne e
    · omega
  have F9 : Fs (fun k => k = gm) w9 (set3 w9 gm (.slice A' L'.reverse.length d') (.int .i64 (M' : Int)) (.int .i64 (cap : Int))) := (((Fs.refl (fun k => k = gm) w9).setCell (fun _ => rfl) 0 _).setCell (fun _ => rfl) 1 _).setCell (fun _ => rfl) 2 _
  have hrow : Row w9 gm 35 #[.slice B RL d, .int .i64 (M : Int), .int .i64 (cap : Int)] := by
    have r3 := hF3.row (fun e => e.elim h.ne (fun e => by omega)) h.ro
    have r7 := hF7.row (fun e => by have := (hS _ e).1; omega) r3
    exact (r7.below h8 (by omega)).below h9 (by omega)
  refine ⟨(((hD.dis hF7 fun k h1 h2 => (hS k h2).2 h1).below h8).below h9).dis F9 (fun k h1 h2 => by subst h2; exact hne' h1), set3_own hrow, rfl, ?_, hd, htm, ?_, hne', h.lo⟩
  · refine (set3_rds (hT.keep fun b hb => h9.block b (by rcases hb with hb | hb; have := hb.1; omega; exact hb.2)) (fun b hb => by rcases hb with hb | hb; exact hb.2.1; omega)).imp fun b hb hl => ?_
    rcases hb with hb | hb
    · exact ⟨hl, hb.2.1, hb.2.2⟩
    · exact ⟨hl, by omega, fun e => by have := (hD.eb e).2; omega⟩
  · have b3 : Below w.heap.size w w3 := h.be.trans (hF3.below (fun k hk hl => hk.elim (fun e => (h.dn.eb e).1) (fun e => by have := h.be.size; omega)) h.be.size)
    have b7 := b3.trans (hF7.below (fun k hk _ => by have := (hS k hk).1; have := h.be.size; omega) b3.size)
    have b8 := b7.trans (h8.mono b7.size)
    have b9 := b8.trans (h9.mono b8.size)
    exact b9.trans (F9.below (fun k hk _ => by subst hk; exact h.lo) b9.size)
theorem G7.then {w wr w' : World} {gd g : Nat} {v : Value} {gm : Nat} {L : List Fd} {M cap : Nat} {B : Option Addr} {RL d : Nat} (h : G7 w wr gd g v gm L M cap B RL d) (hb : Below wr.heap.size wr w') : G7 w w' gd g v gm L M cap B RL d :=
  ⟨h.dn.below hb, h.ro.below hb h.ro.lt, h.rl, (h.tb.keep fun b hk => hb.block b hk.1).imp fun b hk _ => ⟨by have := hk.1; have := hb.size; omega, hk.2.1, hk.2.2⟩, h.td, h.tm, h.be.trans (hb.mono h.be.size), h.ne, h.lo⟩
end Go.Proofs.Ytfajffchnnalaaa
