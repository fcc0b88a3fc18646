/-
  UtfFeeds: the law's walk. No conditions.
-/
import Derived.Test.YtbjefomahopnmaaVnl
import Derived.Test.YtbjefomahopnmaaVrg
import Derived.Test.YtbjefomahopnmaaCpy
namespace Go.Proofs.Ytbjefomahopnmaa
open Go.RowKit Go.WideShapes

/-- The checker behind the bytes ahead of k: how far all goes, and what is left. -/
def FdI (l : List UInt8) (k : Nat) (o : Option Ut) : Prop :=
  (ckN (some ut0) (nats (l.take k))).2 = o
theorem fd_zero (l : List UInt8) : FdI l 0 (some ut0) := rfl
/-- A piece of m bytes comes. -/
theorem fd_next {l : List UInt8} {k m : Nat} {o : Option Ut} (h : FdI l k o) (hm : k + m ≤ l.length) : FdI l (k + m) (ckN o (nats ((l.drop k).take m))).2 ∧
    (o = none → (ckN o (nats ((l.drop k).take m))) = (0, none)) ∧
    (o ≠ none → k ≤ (goN ut0 (nats l)).1 ∧ (ckN o (nats ((l.drop k).take m))).1 = min m ((goN ut0 (nats l)).1 - k) ∧ ((ckN o (nats ((l.drop k).take m))).2.isNone = decide ((goN ut0 (nats l)).1 < k + m))) := by
  have hk : k ≤ l.length := by omega
  have e1 : nats (l.take k) = (nats l).take k := by simp [nats, List.map_take]
  have e2 : nats ((l.drop k).take m) = ((nats l).drop k).take m := by simp [nats, List.map_take, List.map_drop]
  have e3 : l.take (k + m) = l.take k ++ (l.drop k).take m := List.take_add ..
  have hnl := nats_len l
  unfold FdI at *
  simp only [ckN] at h
  cases o with
  | none =>
    refine ⟨?_, fun _ => rfl, fun h => absurd rfl h⟩
    show (goN ut0 (nats (l.take (k + m)))).2 = none
    rw [e3, nats_app, go_none _ _ _ h]
    exact h
  | some t =>
    refine ⟨?_, (fun h => by cases h), fun _ => ?_⟩
    · show (goN ut0 (nats (l.take (k + m)))).2 = (goN t (nats ((l.drop k).take m))).2
      rw [e3, nats_app, go_app _ _ _ t h]
    · have hle : k ≤ (goN ut0 (nats l)).1 := by
        have h3 := go_app (nats (l.take k)) ((nats l).drop k) ut0 t h
        rw [e1, List.take_append_drop, List.length_take, hnl, Nat.min_eq_left hk] at h3
        rw [h3]
        exact Nat.le_add_right _ _
      have h3 := go_app (nats (l.take k)) ((nats l).drop k) ut0 t h
      rw [e1, List.take_append_drop, List.length_take, hnl, Nat.min_eq_left hk] at h3
      refine ⟨hle, ?_⟩
      have h31 := congrArg Prod.fst h3
      have h32 := congrArg Prod.snd h3
      simp only at h31 h32
      rw [e2]
      show (goN t (((nats l).drop k).take m)).1 = _ ∧ (goN t (((nats l).drop k).take m)).2.isNone = _
      have hdl : m ≤ ((nats l).drop k).length := by rw [List.length_drop, hnl]; omega
      by_cases hy : m ≤ (goN t ((nats l).drop k)).1
      · obtain ⟨u, hu1, _⟩ := go_yes hdl hy
        rw [hu1]
        refine ⟨by show m = _; omega, ?_⟩
        show false = _
        rw [eq_comm, decide_eq_false_iff_not]
        omega
      · obtain ⟨hu1, _⟩ := go_no hdl hy
        rw [hu1]
        refine ⟨by show _ = _; omega, ?_⟩
        show true = _
        rw [eq_comm, decide_eq_true_iff]
        omega
theorem fd_end {l : List UInt8} {o : Option Ut} (h : FdI l l.length o) : (goN ut0 (nats l)).2 = o := by
  unfold FdI at h
  rw [List.take_length] at h
  exact h
theorem none_lt {l : List Nat} {s : Ut} : (goN s l).2.isNone = decide ((goN s l).1 < l.length) := by
  cases h : (goN s l).2 with
  | none => rw [eq_comm]; exact decide_eq_true (go_lt l s h)
  | some t => rw [eq_comm]; refine decide_eq_false ?_; rw [go_some_len l s t h]; exact Nat.lt_irrefl _
/-- The law's state. -/
structure FdW (w0 wr : World) (g : Nat) (l : List UInt8) (k : Nat) (o : Option Ut) (A1 : Option Addr) : Prop where
  c : Ck wr g o
  b : Below w0.heap.size w0 wr
  f : FdI l k o
  r : RdB wr w0.heap.size A1 (l.drop k)
set_option maxRecDepth 100000 in
set_option maxHeartbeats 4000000 in
theorem feeds_law (A1 A2 : Option Addr) (c1 c2 : Nat) (b z : List UInt8) (hc1 : b.length ≤ c1) (w : World) (h1 : RdB w w.heap.size A1 b) (h2 : RdB w w.heap.size A2 z) : Calls Try.prog 3 #[.slice A1 b.length c1, .slice A2 z.length c2] w fun e w' => e = .returned (.bool true) ∧ Below w.heap.size w w' := by
  by_cases hla : b.length ≤ 3000
  case neg =>
    have d1 : decide ((3000 : Int) < (b.length : Int)) = true := by simp; omega
    clear hla h1 h2
    go_enter Try.func3, Try.ntmps3
    go_wp2_with fail
    refine (fixed15_any _).mono ?_
    rintro e w1 ⟨rfl, hb⟩
    have HB1 := Lib.hid hb
    clear hb
    go_wp2_with fail
    go_ret
    exact ⟨rfl, HB1.out⟩
  have d1 : decide ((3000 : Int) < (b.length : Int)) = false := by simp; omega
  by_cases hlb : z.length ≤ 3000
  case neg =>
    have d2 : decide ((3000 : Int) < (z.length : Int)) = true := by simp; omega
    clear hla hlb h1 h2
    go_enter Try.func3, Try.ntmps3
    go_wp2_with fail
    refine (fixed15_any _).mono ?_
    rintro e w1 ⟨rfl, hb⟩
    have HB1 := Lib.hid hb
    clear hb
    go_wp2_with fail
    go_ret
    exact ⟨rfl, HB1.out⟩
  have d2 : decide ((3000 : Int) < (z.length : Int)) = false := by simp; omega
  have htx : (convert 22 9 (.slice A1 b.length c1)).run Try.prog w = .ok (.string (txb b)) w := run_text Try.underlying22 Try.underlying5 Try.underlying9 h1
  have HGO := Lib.hid (fun W => rgood_any (l := b) (by omega) W)
  have H1 := Lib.hid h1
  have H2 := Lib.hid h2
  have HVV : Hid (∀ W, Below w.heap.size w W → Calls Try.prog 14 #[.slice A1 b.length c1] W fun e w' => e = .returned (.bool (txtB (nats b))) ∧ Below W.heap.size W w') := fun W hW => valid_any ((H1.out.below hW).more hW.size) (by omega)
  have hgle : (goN ut0 (nats b)).1 ≤ b.length := by have := go_le (nats b) ut0; rw [nats_len] at this; exact this
  have hnlt : (goN ut0 (nats b)).2.isNone = decide ((goN ut0 (nats b)).1 < b.length) := by rw [none_lt, nats_len]
  have HN := Lib.hid hnlt
  have hfd := fun (k m : Nat) (o : Option Ut) => @fd_next b k m o
  have hend : ∀ o, FdI b b.length o → (goN ut0 (nats b)).2 = o := fun o => fd_end
  have HTT : Hid (txtB (nats b) = whV (goN ut0 (nats b)).2) := rfl
  have HFD := Lib.hid hfd
  have HEND := Lib.hid hend
  obtain ⟨G, hG⟩ : ∃ G, G = goN ut0 (nats b) := ⟨_, rfl⟩
  rw [← hG] at HGO hgle HN HTT HFD HEND
  obtain ⟨gd, oe⟩ := G
  simp only at HGO hgle HN HTT HFD HEND
  generalize txtB (nats b) = tt at *
  generalize txb b = yb at *
  clear h1 h2 hnlt hfd hend hG
  obtain ⟨i0, hi0, hz0, hz1, hz2⟩ := info_partsV u8_infoV
  have HI : Hid (Try.prog.info? 5 = some i0 ∧ i0.size = 1) := ⟨hi0, hz1⟩
  clear hi0 hz0 hz1 hz2
  go_enter Try.func3, Try.ntmps3
  go_wp2_with fail
  refine (HGO.out _).mono ?_
  rintro e w1 ⟨rfl, hb⟩
  have HB1 := Lib.hid hb
  clear hb HGO
  go_wp2_with fail
  refine (vnew_any _).mono ?_
  rintro e w2 ⟨g, rfl, hc, hb, hg⟩
  have HB2 := Lib.hid (HB1.out.trans (hb.mono HB1.out.size))
  have HG : Hid (w.heap.size ≤ g) := Nat.le_trans HB1.out.size hg
  have HF : Hid (FdW w w2 g b 0 (some ut0) A1) := ⟨hc, HB2.out, fd_zero b, H1.out.below HB2.out⟩
  clear hc hb hg HB1 HB2
  go_upto_region 8 with fail
  go_loopw [8, 9, 10, 11, 12, 13] (fun s n i a11 a12 a13 wr => ∃ (k j q cc : Nat) (A : Option Addr) (o : Option Ut), k + q = b.length ∧ q ≤ cc ∧ s = .slice A q cc ∧ n = .int .i64 k ∧ i = .int .i64 j ∧ j ≤ z.length + 1 ∧ (z.length < j → k = b.length) ∧ a11 = a11 ∧ a12 = a12 ∧ a13 = a13 ∧ Hid (FdW w wr g b k o A))
    (fun _ _ i _ _ _ _ => 4000 - (intOf i).toNat)
  case atStart => exact ⟨0, 0, b.length, c1, A1, some ut0, by omega, hc1, rfl, rfl, rfl, by omega, by omega, rfl, rfl, rfl, HF⟩
  case round =>
    clear HF
    obtain ⟨k, j, q, cc, A, o, hk, hqc, rfl, rfl, rfl, hj, hjk, _, _, _, HF⟩ := hrel
    by_cases hlt : 0 < q
    · have e1 : (0 : Int) < (q : Int) := by omega
      have hbd : (b.drop k).length = q := by rw [List.length_drop]; omega
      have H2w := Lib.hid (H2.out.below HF.out.b)
      obtain ⟨m, hmq, hmz, hmi⟩ : ∃ m, m ≤ q ∧ (z.length ≤ j → m = q) ∧ (∀ h : j < z.length, min (q : Int) (z[j].toNat : Int) = (m : Int)) := by
        by_cases h : j < z.length
        · exact ⟨min q z[j].toNat, Nat.min_le_left _ _, fun h2 => by omega, fun _ => by omega⟩
        · exact ⟨q, Nat.le_refl _, fun _ => rfl, fun h2 => absurd h2 h⟩
      have HMZ : Hid (z.length ≤ j → m = q) := hmz
      obtain ⟨hcu, hru⟩ := cut_upto (P := Try.prog) (k := m) Try.underlying22 HI.out.1 HI.out.2 HF.out.r (c := cc) (by omega) (by rw [hbd]; exact hmq)
      obtain ⟨A4, hcf, hrf⟩ := cut_from (P := Try.prog) (k := m) Try.underlying22 HI.out.1 HI.out.2 HF.out.r (c := cc) (by omega) (by rw [hbd]; exact hmq)
      rw [hbd] at hcu hcf
      rw [List.drop_drop] at hrf
      have HRF := Lib.hid hrf
      have hfe := feed_any (c := cc) HF.out.c (hru.toN HG.out) (by rw [List.length_take]; omega)
      rw [show ((b.drop k).take m).length = m by rw [List.length_take, hbd]; omega] at hfe
      have HFE := Lib.hid hfe
      have hfn := HFD.out k m o HF.out.f (by omega)
      have HFN := Lib.hid hfn
      have HBA := Lib.hid (vbad_any HF.out.c)
      have HC := Lib.hid HF.out.c
      have HB := Lib.hid HF.out.b
      clear hru hrf hfe hfn hbd hmz HF
      generalize ckN o (nats ((b.drop k).take m)) = R at *
      obtain ⟨x, o'⟩ := R
      simp only at HFE HFN
      by_cases hjz : j < z.length
      · have e2 : (j : Int) < (z.length : Int) := by omega
        have hmi2 := hmi hjz
        obtain ⟨gz, oz, rfl, _, hcz⟩ := H2w.out (by rintro rfl; simp at hjz)
        have hcell := hcz j hjz
        have hz256 := z[j].toNat_lt
        generalize z[j].toNat = zj at *
        clear hcz H2w hmi
        go_wp2_with fail
        refine HBA.out.mono ?_
        rintro e w4 ⟨rfl, hw4⟩
        go_wp2_with fail
        refine HFE.out.mono ?_
        rintro e w5 ⟨rfl, hc, hf⟩
        have HB5 := Lib.hid (HB.out.trans (hf.below (fun k hk _ => by subst hk; exact HG.out) HB.out.size))
        have HBA2 := Lib.hid (vbad_any hc)
        have HF5 : Hid (FdW w w5 g b (k + m) o' A4) := ⟨hc, HB5.out, HFN.out.1, HRF.out.keep fun p hp => by
          have := hf.block p.block (Nat.lt_of_lt_of_le hp HB.out.size) (by have := HG.out; omega)
          unfold World.cell?
          rw [this]⟩
        clear hc hf HB5 HB HC HRF HBA HFE
        cases o with
        | none =>
          have hxz : (x, o') = (0, none) := HFN.out.2.1 rfl
          injection hxz with hx0 ho0
          subst hx0 ho0
          clear HFN HBA2
          go_wp2_with fail
          go_roundw
          · exact ⟨k + m, j + 1, q - m, cc - m, A4, none, by omega, by omega, rfl, by go_num, by go_num, by omega, (fun h => by have := HMZ.out (by omega); omega), trivial, trivial, trivial, HF5⟩
          · simp [intOf] <;> omega
        | some t =>
          obtain ⟨hn1, hn2, hn3⟩ := HFN.out.2.2 (by simp)
          have hmn : min (m : Int) ((gd : Int) - (k : Int)) = (x : Int) := by omega
          have hdd : decide ((gd : Int) < (k : Int) + (m : Int)) = o'.isNone := by rw [hn3, decide_eq_decide]; omega
          have hbn : ∀ y : Bool, (y != y) = false := fun y => by simp
          have hbn2 := hbn o'.isNone
          have hxx : ((x : Int) != (x : Int)) = false := by simp
          clear hn1 hn2 hn3 hbn HFN
          obtain ⟨bb, hbb⟩ : ∃ bb, bb = o'.isNone := ⟨_, rfl⟩
          rw [← hbb] at HBA2 hdd hbn2
          clear hbb
          go_wp2_with fail
          refine HBA2.out.mono ?_
          rintro e w6 ⟨rfl, rfl⟩
          go_wp2_with fail
          go_roundw
          · exact ⟨k + m, j + 1, q - m, cc - m, A4, o', by omega, by omega, rfl, by go_num, by go_num, by omega, (fun h => by have := HMZ.out (by omega); omega), trivial, trivial, trivial, HF5⟩
          · simp [intOf] <;> omega
      · have e2 : ¬ (j : Int) < (z.length : Int) := by omega
        obtain rfl := HMZ.out (by omega)
        clear hmi H2w
        go_wp2_with fail
        refine HBA.out.mono ?_
        rintro e w4 ⟨rfl, hw4⟩
        go_wp2_with fail
        refine HFE.out.mono ?_
        rintro e w5 ⟨rfl, hc, hf⟩
        have HB5 := Lib.hid (HB.out.trans (hf.below (fun k hk _ => by subst hk; exact HG.out) HB.out.size))
        have HBA2 := Lib.hid (vbad_any hc)
        have HF5 : Hid (FdW w w5 g b (k + m) o' A4) := ⟨hc, HB5.out, HFN.out.1, HRF.out.keep fun p hp => by
          have := hf.block p.block (Nat.lt_of_lt_of_le hp HB.out.size) (by have := HG.out; omega)
          unfold World.cell?
          rw [this]⟩
        clear hc hf HB5 HB HC HRF HBA HFE
        cases o with
        | none =>
          have hxz : (x, o') = (0, none) := HFN.out.2.1 rfl
          injection hxz with hx0 ho0
          subst hx0 ho0
          clear HFN HBA2
          go_wp2_with fail
          go_roundw
          · exact ⟨k + m, j + 1, 0, cc - m, A4, none, by omega, by omega, rfl, by go_num, by go_num, by omega, (fun h => by have := HMZ.out (by omega); omega), trivial, trivial, trivial, HF5⟩
          · simp [intOf] <;> omega
        | some t =>
          obtain ⟨hn1, hn2, hn3⟩ := HFN.out.2.2 (by simp)
          have hmn : min (m : Int) ((gd : Int) - (k : Int)) = (x : Int) := by omega
          have hdd : decide ((gd : Int) < (k : Int) + (m : Int)) = o'.isNone := by rw [hn3, decide_eq_decide]; omega
          have hbn : ∀ y : Bool, (y != y) = false := fun y => by simp
          have hbn2 := hbn o'.isNone
          have hxx : ((x : Int) != (x : Int)) = false := by simp
          clear hn1 hn2 hn3 hbn HFN
          obtain ⟨bb, hbb⟩ : ∃ bb, bb = o'.isNone := ⟨_, rfl⟩
          rw [← hbb] at HBA2 hdd hbn2
          clear hbb
          go_wp2_with fail
          refine HBA2.out.mono ?_
          rintro e w6 ⟨rfl, rfl⟩
          go_wp2_with fail
          go_roundw
          · exact ⟨k + m, j + 1, 0, cc - m, A4, o', by omega, by omega, rfl, by go_num, by go_num, by omega, (fun h => by have := HMZ.out (by omega); omega), trivial, trivial, trivial, HF5⟩
          · simp [intOf] <;> omega
    · obtain rfl : q = 0 := by omega
      obtain rfl : k = b.length := by omega
      have hoe : oe = o := HEND.out o HF.out.f
      subst hoe
      have HC := Lib.hid HF.out.c
      have HB := Lib.hid HF.out.b
      have HBA := Lib.hid (fun W (h : Ck W g oe) => vbad_any h)
      have hw := fun W (h : Ck W g oe) => vwhole_any h
      have HN2 : Hid (oe.isNone = decide (gd < b.length)) := HN.out
      rw [← HTT.out] at hw
      have HW := Lib.hid hw
      have hbb : ∀ x : Bool, (x == x) = true := fun x => beq_self_eq_true x
      obtain ⟨bb, hb0⟩ : ∃ bb, decide (gd < b.length) = bb := ⟨_, rfl⟩
      obtain ⟨h1, h2⟩ : (tt == tt) = true ∧ (bb == bb) = true := ⟨hbb _, hbb _⟩
      rw [HN2.out, hb0] at HBA
      clear hw hbb HN2 HF HN HTT HEND HFD
      go_wp2_with fail
      refine (fixed15_any _).mono ?_
      rintro e w5 ⟨rfl, hb⟩
      have HC5 := Lib.hid (HC.out.below hb)
      have HB5 := Lib.hid (HB.out.trans (hb.mono HB.out.size))
      clear hb HC HB
      go_wp2_with fail
      refine (HW.out _ HC5.out).mono ?_
      rintro e w6 ⟨rfl, rfl⟩
      go_wp2_with fail
      refine (HBA.out _ HC5.out).mono ?_
      rintro e w6 ⟨rfl, rfl⟩
      go_wp2_with fail
      refine (HVV.out _ HB5.out).mono ?_
      rintro e w7 ⟨rfl, hb⟩
      have HB7 := Lib.hid (HB5.out.trans (hb.mono HB5.out.size))
      clear hb
      go_wp2_with fail
      go_ret
      exact ⟨rfl, HB7.out⟩
end Go.Proofs.Ytbjefomahopnmaa
