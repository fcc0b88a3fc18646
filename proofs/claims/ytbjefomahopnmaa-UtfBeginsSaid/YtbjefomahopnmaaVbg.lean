/-
  UtfBegins: the law's walk. No conditions.
-/
import Derived.Test.YtbjefomahopnmaaVnl
import Derived.Test.YtbjefomahopnmaaCpy
import Derived.Deep.RegionHeld3
namespace Go.Proofs.Ytbjefomahopnmaa
open Go.RowKit Go.WideShapes

/-- What the law's region keeps: the checker's state; what was there. -/
def VS (B : Nat) (w0 : World) (g : Nat) (o : Option Ut) (w : World) : Prop := Ck w g o ∧ Below B w0 w
theorem VS.on {B : Nat} {w0 w w' : World} {g : Nat} {o : Option Ut} (h : VS B w0 g o w) (hb : Below w.heap.size w w') (hB : B ≤ w.heap.size) : VS B w0 g o w' := ⟨h.1.below hb, h.2.trans (hb.mono hB)⟩
theorem VS.drew {B : Nat} {w0 w : World} {g : Nat} {o : Option Ut} (h : VS B w0 g o w) : VS B w0 g o w.drew := ⟨h.1.keep rfl, h.2.drew⟩
theorem VS.c {B : Nat} {w0 w : World} {g : Nat} {o : Option Ut} (h : VS B w0 g o w) : Ck w g o := h.1
theorem VS.b {B : Nat} {w0 w : World} {g : Nat} {o : Option Ut} (h : VS B w0 g o w) : Below B w0 w := h.2
set_option maxRecDepth 100000 in
set_option maxHeartbeats 2000000 in
theorem begins_law (A1 : Option Addr) (c1 : Nat) (b : List UInt8) (hc1 : b.length ≤ c1) (at_ : Nat) (hat : at_ < 65536) (w : World) (h1 : RdB w w.heap.size A1 b) : Calls Try.prog 7 #[.slice A1 b.length c1, .int .u16 (at_ : Int)] w fun e w' => e = .returned (.bool true) ∧ Below w.heap.size w w' := by
  by_cases hla : b.length ≤ 3000
  case neg =>
    have d1 : decide ((3000 : Int) < (b.length : Int)) = true := by simp; omega
    clear hla h1
    go_enter Try.func7, Try.ntmps7
    go_wp2_with fail
    refine (fixed15_any _).mono ?_
    rintro e w1 ⟨rfl, hb⟩
    have HB1 := Lib.hid hb
    clear hb
    go_wp2_with fail
    go_ret
    exact ⟨rfl, HB1.out⟩
  have d1 : decide ((3000 : Int) < (b.length : Int)) = false := by simp; omega
  have HVA := Lib.hid (valid_any (c := c1) h1 (by omega))
  have H1 := Lib.hid h1
  clear h1
  cases hta : txtB (nats b) with
  | false =>
    rw [hta] at HVA
    clear hta
    go_enter Try.func7, Try.ntmps7
    go_wp2_with fail
    refine HVA.out.mono ?_
    rintro e w1 ⟨rfl, hb⟩
    have HB1 := Lib.hid hb
    clear hb HVA H1
    go_wp2_with fail
    refine (fixed15_any _).mono ?_
    rintro e w2 ⟨rfl, hb⟩
    have HB2 := Lib.hid (HB1.out.trans (hb.mono HB1.out.size))
    clear hb HB1
    go_wp2_with fail
    go_ret
    exact ⟨rfl, HB2.out⟩
  | true =>
    rw [hta] at HVA
    obtain ⟨n, hn⟩ : ∃ n, n = at_ % (b.length + 1) := ⟨_, rfl⟩
    have hnl : n ≤ b.length := by have := Nat.mod_lt at_ (show 0 < b.length + 1 by omega); omega
    have hq : (at_ : Int).tmod ((b.length : Int) + 1) = (n : Int) := by rw [hn, Int.tmod_eq_emod_of_nonneg (by omega)]; rfl
    have hgo : (goN ut0 (nats b)).2 = some ut0 := of_decide_eq_true hta
    have hgs := go_some hgo
    obtain ⟨t, ht1, ht2⟩ := go_yes (l := nats b) (n := n) (s := ut0) (by rw [nats_len]; exact hnl) (by rw [hgs]; rw [nats_len]; exact hnl)
    rw [hgs, nats_len] at ht2
    have e1 : (nats b).take n = nats (b.take n) := by simp [nats, List.map_take]
    have e2 : (nats b).drop n = nats (b.drop n) := by simp [nats, List.map_drop]
    rw [e1] at ht1
    rw [e2] at ht2
    injection ht2 with ht2 ht3
    have hlen : (b.take n).length = n := by rw [List.length_take]; omega
    have hlen2 : (b.drop n).length = b.length - n := List.length_drop ..
    obtain ⟨i0, hi0, hz0, hz1, hz2⟩ := info_partsV u8_infoV
    have HCU := Lib.hid (fun (W : World) (h : RdB W w.heap.size A1 b) => cut_upto (P := Try.prog) (k := n) Try.underlying22 hi0 hz1 h hc1 hnl)
    obtain ⟨hcu, _⟩ := HCU.out w H1.out
    obtain ⟨A3, hcf, hrf⟩ := cut_from (P := Try.prog) (k := n) Try.underlying22 hi0 hz1 H1.out hc1 hnl
    have HA3 : Hid (∀ W, Below w.heap.size w W → RdB W w.heap.size A3 (b.drop n)) := fun W hW => hrf.below hW
    have HA2 : Hid (∀ W, Below w.heap.size w W → RdB W w.heap.size A1 (b.take n)) := fun W hW => (HCU.out W (H1.out.below hW)).2
    have HF1 : Hid (∀ W g, Below w.heap.size w W → w.heap.size ≤ g → Ck W g (some ut0) → Calls Try.prog 12 #[.pointer (some ⟨g, 0, none⟩), .slice A1 n c1] W fun e w' => e = .returned (.int .i64 (n : Int)) ∧ Ck w' g (some t) ∧ Fs (fun k => k = g) W w') := fun W g hW hg hC => by
      have := feed_any (c := c1) hC ((HA2.out W hW).toN hg) (by omega)
      rw [hlen] at this
      simpa only [ckN, ht1] using this
    have HV1 : Hid (∀ W, Below w.heap.size w W → Calls Try.prog 14 #[.slice A1 n c1] W fun e w' => e = .returned (.bool (whV (some t))) ∧ Below W.heap.size W w') := fun W hW => by
      have := valid_any (c := c1) ((HA2.out W hW).more hW.size) (by omega)
      rw [hlen, show txtB (nats (b.take n)) = whV (some t) by unfold txtB; rw [ht1]; rfl] at this
      exact this
    have HF2 : Hid (∀ W g, Below w.heap.size w W → w.heap.size ≤ g → Ck W g (some t) → Calls Try.prog 12 #[.pointer (some ⟨g, 0, none⟩), .slice A3 (b.length - n) (c1 - n)] W fun e w' => e = .returned (.int .i64 ((b.length : Int) - (n : Int))) ∧ Ck w' g (some ut0) ∧ Fs (fun k => k = g) W w') := fun W g hW hg hC => by
      have := feed_any (c := c1 - n) hC ((HA3.out W hW).toN hg) (by omega)
      rw [hlen2] at this
      simp only [ckN] at this
      rw [← ht3, show (((goN t (nats (b.drop n))).1 : Nat) : Int) = (b.length : Int) - n by omega] at this
      exact this
    have hw0 : whV (some ut0) = true := by decide
    clear hta hgo hgs ht1 ht2 ht3 e1 e2 hlen hlen2 HCU HA2 HA3 hrf H1 hn hi0 hz0 hz1 hz2
    go_enter Try.func7, Try.ntmps7
    go_wp2_with fail
    refine HVA.out.mono ?_
    rintro e w1 ⟨rfl, hb⟩
    have HB1 := Lib.hid hb
    clear hb HVA
    go_wp2_with fail
    refine (vnew_any _).mono ?_
    rintro e w2 ⟨g, rfl, hc, hb, hg⟩
    have HC2 := Lib.hid hc
    have HB2 := Lib.hid (HB1.out.trans (hb.mono HB1.out.size))
    have HG : Hid (w.heap.size ≤ g) := Nat.le_trans HB1.out.size hg
    clear hc hb hg HB1
    go_wp2_with fail
    refine (HF1.out _ _ HB2.out HG.out HC2.out).mono ?_
    rintro e w3 ⟨rfl, hc, hf⟩
    have HS3 : Hid (VS w.heap.size w g (some t) w3) := ⟨hc, HB2.out.trans (hf.below (fun k hk _ => by subst hk; exact HG.out) HB2.out.size)⟩
    clear hc hf HB2 HC2 HF1
    have hbb : (whV (some t) != whV (some t)) = false := by simp
    have HWH := Lib.hid (fun (W : World) (h : Ck W g (some t)) => vwhole_any h)
    generalize whV (some t) = tt at *
    go_wp2_with fail
    have HSD : VS w.heap.size w g (some t) w3.drew := HS3.out.drew
    clear HS3
    go_region_held3 (fun w' => VS w.heap.size w g (some t) w') (first | exact h9 | exact HSD) ((first
      | (go_at_call 11; refine (vbad_any (VS.c (by assumption))).mono ?_; rintro e w4 ⟨rfl, rfl⟩)
      | (go_at_call 13; refine (HWH.out _ (VS.c (by assumption))).mono ?_; rintro e w4 ⟨rfl, rfl⟩)
      | (go_at_call 14; refine (HV1.out _ (VS.b (by assumption))).mono ?_; rintro e w4 ⟨rfl, hb4⟩; have h9 := VS.on (by assumption) hb4 (Below.size (VS.b (by assumption))); clear hb4)))
    have HS4 := Lib.hid h9
    clear h9 HSD hbb HV1 HWH
    go_wp2_with fail
    refine (fixed15_any _).mono ?_
    rintro e w5 ⟨rfl, hb5⟩
    have HS5 := Lib.hid (HS4.out.on hb5 HS4.out.b.size)
    clear hb5 HS4
    go_wp2_with fail
    refine (HF2.out _ _ HS5.out.b HG.out HS5.out.c).mono ?_
    rintro e w6 ⟨rfl, hc, hf⟩
    have hw := vwhole_any hc
    rw [hw0] at hw
    have HW := Lib.hid hw
    have HB6 := Lib.hid (HS5.out.b.trans (hf.below (fun k hk _ => by subst hk; exact HG.out) HS5.out.b.size))
    clear hw hc hf HS5 HF2 hw0
    go_wp2_with fail
    refine HW.out.mono ?_
    rintro e w7 ⟨rfl, rfl⟩
    go_wp2_with fail
    go_ret
    exact ⟨rfl, HB6.out⟩
theorem begins_law2 (A1 : Option Addr) (c1 : Nat) (b : List UInt8) (hc1 : b.length ≤ c1) {x : Int} (hx : 0 ≤ x ∧ x < 65536) (w : World) (h1 : RdB w w.heap.size A1 b) : Calls Try.prog 7 #[.slice A1 b.length c1, .int .u16 x] w fun e w' => e = .returned (.bool true) ∧ Below w.heap.size w w' := by
  obtain ⟨n, rfl⟩ := Int.eq_ofNat_of_zero_le hx.1
  exact begins_law A1 c1 b hc1 n (by omega) w h1
end Go.Proofs.Ytbjefomahopnmaa
