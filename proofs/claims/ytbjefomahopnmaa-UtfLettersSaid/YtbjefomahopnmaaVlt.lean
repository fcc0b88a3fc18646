/-
  UtfLetters: the law's walk; a row of letters as it comes in. No conditions.
-/
import Derived.Test.YtbjefomahopnmaaVnl
import Derived.Test.YtbjefomahopnmaaVrb
import Derived.Test.YtbjefomahopnmaaCpy
import Derived.Test.YtbjefomahopnmaaOpenS
import Derived.Laws.Runes
namespace Go.Proofs.Ytbjefomahopnmaa
open Go.RowKit Go.WideShapes Go.ChangeShapes Go.Deep

/-- A number of four bytes. -/
structure N32 where
  v : Int
  hv : -2147483648 ≤ v ∧ v ≤ 2147483647
def nc32 (o : N32) : List Value := [.int .i32 o.v]
theorem nc32_len (o : N32) : (nc32 o).length = 1 := rfl
theorem RdS.n32 {w : World} {S : Nat → Prop} {A : Option Addr} {O : List N32} (h : RdS w S A (enl nc32 O)) {i : Nat} (hi : i < O.length) : ∃ b q, A = some ⟨b, q, none⟩ ∧ S b ∧ w.cell? ⟨b, q + i, none⟩ = some (.int .i32 O[i].v) := by
  have hne : enl nc32 O ≠ [] := by
    intro e
    have := enl_length nc32_len O
    rw [e] at this
    simp at this
    omega
  obtain ⟨b, q, hA, hb, hc⟩ := h hne
  have h0 := hc (i * 1 + 0) _ (by rw [enl_at nc32_len hi (by omega)]; rfl)
  exact ⟨b, q, hA, hb, by simpa using h0⟩
section
variable {H : Type} {hc : TypeId × Value → H}
theorem cells_i32 : Try.prog.cellsOf 21 = 1 := by kernel_rfl
theorem wf_i32 {x : Int} (h : (Lit.int .i32 x).wf = true) : -2147483648 ≤ x ∧ x ≤ 2147483647 := by
  have h1 : IntKind.i32.min = -2147483648 := rfl
  have h2 : IntKind.i32.max = 2147483647 := rfl
  simp only [Lit.wf, Bool.and_eq_true, decide_eq_true_eq] at h
  omega
set_option maxRecDepth 100000 in
theorem open_runes {W : World} {base : Nat} {v : Value} {d : DataW H} {p : List MemPlace} (hv : Value.okWide Try.prog W .any base 31 v) (h : DataW.Trod hc Try.prog W 0 (fun _ => true) true 31 v d p) :
    ∃ (A : Option Addr) (c : Nat) (L : List N32), v = .slice A L.length c ∧ L.length ≤ c ∧ c ≤ maxLen ∧ RdS W (· < W.heap.size) A (enl nc32 L) :=
  open_rows nc32_len (by omega) Try.underlying31 cells_i32 (fun _ cs _ h => by
    obtain ⟨n0, e0, _, w0⟩ := DataW.trod_int Try.underlying21 h
    have b0 := wf_i32 w0
    exact ⟨⟨n0, by omega⟩, e0⟩) hv h
end
theorem enc_is {n : Nat} (h : LetP n) : Utf8.encode (n : Int) = txb (lwB n) := by
  have hv : Utf8.valid (n : Int) = true := by
    unfold Utf8.valid
    obtain ⟨h1, h2⟩ := h
    simp only [Bool.or_eq_true, Bool.and_eq_true, decide_eq_true_eq]
    omega
  unfold Utf8.encode lwB lwN txb
  simp only [hv, if_true, Int.toNat_natCast]
  (repeat' split) <;> first | rfl | omega
theorem rune_str {n : Nat} (h : LetP n) (W : World) : (convert 21 9 (.int .i32 (n : Int))).run Try.prog W = .ok (.string (txb (lwB n))) W := by
  rw [run_convert_int_string W 21 9 .i32 (n : Int) (by rw [Try.underlying21]; rfl) Try.underlying9, enc_is h]
/-- The letters' bytes. -/
def ltB (l : List Nat) : List UInt8 := l.flatMap lwB
theorem ltB_len (l : List Nat) : (ltB l).length ≤ 4 * l.length := by
  induction l with
  | nil => simp [ltB]
  | cons n l ih =>
    have := wr_len n
    simp only [ltB, List.flatMap_cons, List.length_append, lwB_len, List.length_cons] at ih ⊢
    omega
theorem ltB_snoc (l : List Nat) (n : Nat) : ltB (l ++ [n]) = ltB l ++ lwB n := by simp [ltB]
theorem nats_lt {l : List Nat} (h : ∀ n ∈ l, LetP n) : nats (ltB l) = l.flatMap lwN := by
  induction l with
  | nil => rfl
  | cons n l ih =>
    show nats (lwB n ++ ltB l) = lwN n ++ l.flatMap lwN
    rw [nats_app, nats_lw (h n (List.mem_cons_self ..)).1, ih fun m hm => h m (List.mem_cons_of_mem _ hm)]
theorem lt_whole {l : List Nat} (h : ∀ n ∈ l, LetP n) : goN ut0 (nats (ltB l)) = ((ltB l).length, some ut0) := by
  have := txt_letters l h
  rw [← nats_lt h, nats_len] at this
  exact this
/-- One byte of a text more. -/
theorem one_more {b : List UInt8} (hb : (goN ut0 (nats b)).2.isSome) {k : Nat} (hk : k < b.length) {t : Ut} (h : (goN ut0 (nats (b.take k))).2 = some t) : ∃ u, ckN (some t) (nats ((b.drop k).take 1)) = (1, some u) ∧ (goN ut0 (nats (b.take (k + 1)))).2 = some u := by
  have e3 : b.take (k + 1) = b.take k ++ (b.drop k).take 1 := List.take_add ..
  have h1 := go_app (nats (b.take k)) (nats ((b.drop k).take 1)) ut0 t h
  rw [← nats_app, ← e3] at h1
  have hp : (nats (b.take (k + 1))) <+: nats b := by
    have : nats (b.take (k + 1)) = (nats b).take (k + 1) := by simp [nats, List.map_take]
    rw [this]
    exact List.take_prefix _ _
  have h2 := go_pre hp hb
  cases h3 : (goN ut0 (nats (b.take (k + 1)))).2 with
  | none => rw [h3] at h2; cases h2
  | some u =>
    refine ⟨u, ?_, rfl⟩
    rw [h1] at h3
    have h4 := go_some h3
    have hl : (nats ((b.drop k).take 1)).length = 1 := by rw [nats_len, List.length_take, List.length_drop]; omega
    rw [hl] at h4
    exact h4
/-- The loop over the letters. -/
structure LtI (w0 wr : World) (v : Value) (k : Nat) (m : List Nat) : Prop where
  b : Below w0.heap.size w0 wr
  o : Bo wr w0.heap.size 5 v (ltB m)
  l : m.length = k
  v : ∀ n ∈ m, LetP n
/-- The loop over their bytes. -/
structure LtJ (w0 wr : World) (g B : Nat) (A : Option Addr) (b : List UInt8) (k : Nat) (t : Ut) : Prop where
  hb : Below w0.heap.size w0 wr
  hc : Ck wr g (some t)
  hr : RdB wr B A b
  ht : (goN ut0 (nats (b.take k))).2 = some t
set_option maxRecDepth 100000 in
set_option maxHeartbeats 4000000 in
theorem letters_law (A1 : Option Addr) (c1 : Nat) (L : List N32) (w : World) (h1 : RdS w (· < w.heap.size) A1 (enl nc32 L)) : Calls Try.prog 4 #[.slice A1 L.length c1] w fun e w' => e = .returned (.bool true) ∧ Below w.heap.size w w' := by
  by_cases hla : L.length ≤ 1000
  case neg =>
    have d1 : (1000 : Int) < (L.length : Int) := by omega
    clear hla h1
    go_enter Try.func4, Try.ntmps4
    go_wp2_with fail
    refine (fixed15_any _).mono ?_
    rintro e w1 ⟨rfl, hb⟩
    have HB1 := Lib.hid hb
    clear hb
    go_wp2_with fail
    go_ret
    exact ⟨rfl, HB1.out⟩
  have d1 : ¬ (1000 : Int) < (L.length : Int) := by omega
  have H1 := Lib.hid h1
  clear h1
  obtain ⟨i0, hi0, hz0, hz1, hz2⟩ := info_partsV u8_infoV
  obtain ⟨w1, hw1⟩ : ∃ w1, w1 = w := ⟨w, rfl⟩
  suffices H : Calls Try.prog 4 #[.slice A1 L.length c1] w1 fun e w' => e = .returned (.bool true) ∧ Below w.heap.size w w' by rw [hw1] at H; exact H
  have HI : Hid (LtI w w1 (.slice none 0 0) 0 []) := ⟨by rw [hw1]; exact Below.refl _ _, Bo.nil, rfl, fun n h => by cases h⟩
  clear hw1
  go_enter Try.func4, Try.ntmps4
  go_upto_region 5 with fail
  go_loopw [3, 5, 14] (fun v a5 i wr => ∃ (k : Nat) (m : List Nat) (v0 : Value), v = v0 ∧ a5 = a5 ∧ k ≤ L.length ∧ i = .int .i64 k ∧ Hid (LtI w wr v0 k m))
    (fun _ _ i _ => L.length - (intOf i).toNat)
  case atStart => exact ⟨0, [], _, rfl, rfl, Nat.zero_le _, rfl, HI⟩
  case round =>
    clear HI
    obtain ⟨k, m, v0, rfl, _, hk, rfl, HI⟩ := hrel
    by_cases hlt : k < L.length
    · have e1 : (k : Int) < (L.length : Int) := by omega
      obtain ⟨bb, q, rfl, _, hcell⟩ := (H1.out.below HI.out.b).n32 hlt
      have hrv := L[k].hv
      generalize L[k].v = r at *
      by_cases h0 : r < 0
      · have f1 : decide (r < 0) = true := decide_eq_true h0
        clear h0
        go_wp2_with fail
        refine (fixed15_any _).mono ?_
        rintro e w3 ⟨rfl, hb⟩
        have HB3 := Lib.hid (HI.out.b.trans (hb.mono HI.out.b.size))
        clear hb HI
        go_wp2_with fail
        go_ret
        exact ⟨rfl, HB3.out⟩
      have f1 : decide (r < 0) = false := decide_eq_false h0
      obtain ⟨n, rfl⟩ := Int.eq_ofNat_of_zero_le (show 0 ≤ r by omega)
      by_cases h2 : n < 1114112
      case neg =>
        have f2 : decide ((1114111 : Int) < n) = true := by simp; omega
        clear h0 h2
        go_wp2_with fail
        refine (fixed15_any _).mono ?_
        rintro e w3 ⟨rfl, hb⟩
        have HB3 := Lib.hid (HI.out.b.trans (hb.mono HI.out.b.size))
        clear hb HI
        go_wp2_with fail
        go_ret
        exact ⟨rfl, HB3.out⟩
      case pos =>
      have f2 : decide ((1114111 : Int) < n) = false := by simp; omega
      by_cases h3 : n < 55296 ∨ 57343 < n
      case neg =>
        have f3 : decide ((55296 : Int) ≤ n) = true := by simp; omega
        have f4 : decide ((n : Int) < 57344) = true := by simp; omega
        clear h0 h2 h3
        go_wp2_with fail
        refine (fixed15_any _).mono ?_
        rintro e w3 ⟨rfl, hb⟩
        have HB3 := Lib.hid (HI.out.b.trans (hb.mono HI.out.b.size))
        clear hb HI
        go_wp2_with fail
        go_ret
        exact ⟨rfl, HB3.out⟩
      case pos =>
      have hlp : LetP n := ⟨h2, h3⟩
      have HLP := Lib.hid hlp
      have hst := rune_str hlp
      have hbl := ltB_len m
      have hml := HI.out.l
      have hwl : (lwB n).length ≤ 4 := by rw [lwB_len]; have := wr_len n; omega
      have f34 : (decide ((55296 : Int) ≤ n) = false) ∨ (decide ((55296 : Int) ≤ n) = true ∧ decide ((n : Int) < 57344) = false) := by simp; omega
      have HTX : Hid (txb (lwB n) = ⟨(lwB n).toArray⟩) := rfl
      have HSN := Lib.hid (ltB_snoc m n)
      have hbs : w.heap.size ≤ wr.heap.size := HI.out.b.size
      have HBS := Lib.hid hbs
      have HWL := Lib.hid hwl
      have HBL := Lib.hid hbl
      clear h0 h2 h3 hlp hbl hwl hbs
      generalize txb (lwB n) = y at *
      rcases f34 with f3 | ⟨f3, f4⟩
      all_goals
        go_wp2_with (at_builtin; go_loud (refine wpList_appStr rfl _ _ 22 9 rfl w.heap.size 5 i0 Try.underlying22 Try.underlying9 hi0 hz0 hz1 hz2 _ (ltB m) rfl HI.out.o (lwB n) (by rw [← HTX.out]; rfl) (by have := HWL.out; have := HBL.out; omega) HBS.out ?_))
        intro v' w4 ho hf hn
        have HI4 : Hid (LtI w w4 v' (k + 1) (m ++ [n])) := ⟨HI.out.b.trans (hf.below (fun k hk _ => (HI.out.o.lt k hk).1) HBS.out), by rw [HSN.out]; exact ho, by simp [hml], fun x hx => by
          rcases List.mem_append.1 hx with h | h
          · exact HI.out.v x h
          · simp at h; subst h; exact HLP.out⟩
        clear ho hf hn HI hml HSN HTX
        go_wp2_with fail
        go_roundw
        · exact ⟨k + 1, m ++ [n], v', rfl, trivial, by omega, by go_num, HI4⟩
        · simp [intOf] <;> omega
    · obtain rfl : k = L.length := by omega
      obtain ⟨A, c, rfl, hlc⟩ := HI.out.o.shape
      have hw0 := lt_whole HI.out.v
      have hbl := ltB_len m
      have hml := HI.out.l
      have hrd := HI.out.o.reads
      have HB := Lib.hid HI.out.b
      generalize ltB m = b at *
      have hb4 : b.length ≤ 4000 := by omega
      have HRD := Lib.hid hrd
      have hso : (goN ut0 (nats b)).2.isSome = true := by rw [hw0]; rfl
      have HSO := Lib.hid hso
      have HW0 := Lib.hid hw0
      have HIF : Hid (Try.prog.info? 5 = some i0 ∧ i0.size = 1) := ⟨hi0, hz1⟩
      clear HI hw0 hbl hml hrd hso hi0 hz0 hz1 hz2
      obtain ⟨Bz, hBz⟩ : ∃ Bz, Bz = wr.heap.size := ⟨_, rfl⟩
      have HBz := Lib.hid hBz
      rw [← hBz] at HRD
      clear hBz
      go_wp2_with fail
      refine (vnew_any _).mono ?_
      rintro e w2 ⟨g, rfl, hc, hb, hg⟩
      have HG : Hid (Bz ≤ g ∧ w.heap.size ≤ g) := ⟨by rw [HBz.out]; exact hg, Nat.le_trans HB.out.size hg⟩
      have HJ : Hid (LtJ w w2 g Bz A b 0 ut0) := ⟨HB.out.trans (hb.mono HB.out.size), hc, HRD.out.below (by rw [HBz.out]; exact hb), rfl⟩
      have HBL : Hid (∀ W t k, LtJ w W g Bz A b k t → RdB W W.heap.size A b) := fun W t k h => h.hr.more (by have := h.hc.lt; have := HG.out; omega)
      clear hc hb hg HB HRD HBz
      go_wp2_with fail
      go_loopw [7, 41] (fun a7 i wr => ∃ (k : Nat) (t : Ut), a7 = a7 ∧ k ≤ b.length ∧ i = .int .i64 k ∧ Hid (LtJ w wr g Bz A b k t))
        (fun _ i _ => b.length - (intOf i).toNat)
      case atStart => exact ⟨0, ut0, rfl, Nat.zero_le _, rfl, HJ⟩
      case round =>
        clear HJ
        obtain ⟨k, t, _, hk, rfl, HJ⟩ := hrel
        by_cases hlt : k < b.length
        · have e1 : (k : Int) < (b.length : Int) := by omega
          obtain ⟨A2, hcu, hrd, _⟩ := cut_both (P := Try.prog) (i := k) (j := k + 1) Try.underlying22 HIF.out.1 HIF.out.2 HJ.out.hr hlc (by omega) (by omega)
          rw [show k + 1 - k = 1 by omega] at hcu hrd
          obtain ⟨u, hu1, hu2⟩ := one_more HSO.out hlt HJ.out.ht
          have hfe := feed_any (c := c - k) HJ.out.hc (hrd.toN HG.out.1) (by rw [List.length_take]; omega)
          rw [hu1, show ((b.drop k).take 1).length = 1 by rw [List.length_take, List.length_drop]; omega] at hfe
          have HFE := Lib.hid hfe
          have HU2 := Lib.hid hu2
          simp only [Int.natCast_add, Int.natCast_one] at hcu
          clear hrd hu1 hu2 hfe
          go_wp2_with fail
          refine HFE.out.mono ?_
          rintro e w3 ⟨rfl, hc, hf⟩
          have HJ2 : Hid (LtJ w w3 g Bz A b (k + 1) u) := ⟨HJ.out.hb.trans (hf.below (fun k hk _ => by subst hk; exact HG.out.2) HJ.out.hb.size), hc, HJ.out.hr.keep (fun p hp => by
            have hlt2 := HJ.out.hc.lt
            have := hf.block p.block (by have := HG.out; omega) (by have := HG.out; omega)
            unfold World.cell?
            rw [this]), HU2.out⟩
          clear hc hf HJ HFE HU2
          go_wp2_with fail
          go_roundw
          case rel => exact ⟨k + 1, u, trivial, by omega, by go_num, HJ2⟩
          case measure => simp [intOf] <;> omega
        · obtain rfl : k = b.length := by omega
          have ht : t = ut0 := by
            have h1 := HJ.out.ht
            rw [List.take_length, HW0.out] at h1
            exact (Option.some.inj h1).symm
          subst ht
          have hwt : whV (some ut0) = true := by decide
          have HTT : Hid (txtB (nats b) = true) := by show _ = _; unfold txtB; rw [HW0.out]; exact decide_eq_true rfl
          go_wp2_with fail
          refine (fixed15_any _).mono ?_
          rintro e w5 ⟨rfl, hb⟩
          have HJ5 : Hid (LtJ w w5 g Bz A b b.length ut0) := ⟨HJ.out.hb.trans (hb.mono HJ.out.hb.size), HJ.out.hc.below hb, HJ.out.hr.below ⟨hb.os, hb.tape, hb.output, hb.size, fun k hk => hb.block k (by have := HJ.out.hc.lt; have := HG.out; omega)⟩, HJ.out.ht⟩
          have hw := vwhole_any HJ5.out.hc
          rw [hwt] at hw
          have HW := Lib.hid hw
          have hv := valid_any (c := c) (HBL.out _ _ _ HJ5.out) (by omega)
          rw [HTT.out] at hv
          have HV := Lib.hid hv
          clear hb HJ hw hv hwt
          go_wp2_with fail
          refine HW.out.mono ?_
          rintro e w6 ⟨rfl, rfl⟩
          go_wp2_with fail
          refine HV.out.mono ?_
          rintro e w7 ⟨rfl, hb⟩
          have HB7 := Lib.hid (HJ5.out.hb.trans (hb.mono HJ5.out.hb.size))
          clear hb HV HW
          go_wp2_with fail
          go_ret
          exact ⟨rfl, HB7.out⟩
end Go.Proofs.Ytbjefomahopnmaa
