/-
  The law's play, by its contract: what is fed in pieces is told as all frames. Conditions: a splitter that holds nothing; what is fed lies neither in it nor in its buffer; at most 100000 bytes.
  All frames of bytes: there are such, how many and how great. No program is spoken of.
-/
import Derived.Test.YtnjnepploockiaaDoorSpm
import Derived.Test.YtnjnepploockiaaDoorFin
import Derived.Test.YtnjnepploockiaaDoorMGd
import Derived.Deep.RegionHeld3

namespace Go.Proofs.YtnjnepploockiaaDoor

theorem AllR.total : ∀ (k : Nat) (l : List UInt8) (w : Bool), l.length ≤ k → ∃ out n b, AllR l w out n b
  | k, l, w, hk => by
    obtain ⟨o, r, w', h⟩ : ∃ o r w', nxN l w = (o, r, w') := ⟨_, _, _, rfl⟩
    cases o with
    | none => exact ⟨_, _, _, .stop h⟩
    | some x =>
      by_cases hx : x.2.1 = 1
      · exact ⟨_, _, _, .fault h hx⟩
      · have hl := (nx_some h).2 hx
        match k, hk with
        | k + 1, hk =>
          obtain ⟨out, n, b, h2⟩ := AllR.total k r w' (by omega)
          exact ⟨_, _, _, .go h hx h2⟩
        | 0, hk => omega
theorem AllB.total (l : List UInt8) (w bad : Bool) : ∃ out n b, AllB l w bad out n b := by
  unfold AllB
  split
  · exact ⟨[], 0, true, rfl, rfl, rfl⟩
  · exact AllR.total _ l w (Nat.le_refl _)
theorem AllR.len {l : List UInt8} {w : Bool} {out : List Rd} {n : Nat} {b : Bool} (h : AllR l w out n b) : out.length ≤ l.length + 1 := by
  induction h with
  | stop _ => simp
  | fault _ _ => simp
  | go e hx _ ih =>
    have := (nx_some e).2 hx
    rw [List.length_cons]
    omega
theorem nf_bd {l r : List UInt8} {x : Rd} (h : nfN l = (some x, r)) : x.1.dat.length ≤ l.length ∧ x.1.sets.length ≤ l.length ∧ r.length ≤ l.length := by
  unfold nfN at h
  split at h
  · cases h
  · split at h
    · cases h; exact ⟨Nat.zero_le _, Nat.zero_le _, Nat.le_refl _⟩
    · split at h
      · cases h
      · cases h
        have := getN_le (l.take (wholeN l))
        rw [List.length_take] at this
        exact ⟨by omega, by omega, by rw [List.length_drop]; omega⟩
theorem nx_bd {l r : List UInt8} {w w' : Bool} {x : Rd} (h : nxN l w = (some x, r, w')) : x.1.dat.length ≤ l.length ∧ x.1.sets.length ≤ l.length ∧ r.length ≤ l.length := by
  unfold nxN at h
  split at h
  · split at h
    · cases h; exact ⟨Nat.zero_le _, Nat.zero_le _, Nat.le_refl _⟩
    · split at h
      · cases h
      · injection h with e1 e2
        injection e2 with e2 e3
        have := nf_bd (l := l.drop 24) (r := r) (x := x) (Prod.ext e1 e2)
        rw [List.length_drop] at this
        omega
  · injection h with e1 e2
    injection e2 with e2 e3
    exact nf_bd (l := l) (r := r) (x := x) (Prod.ext e1 e2)
theorem AllR.bd {l : List UInt8} {w : Bool} {out : List Rd} {n : Nat} {b : Bool} (h : AllR l w out n b) : ∀ x ∈ out, x.1.dat.length ≤ l.length ∧ x.1.sets.length ≤ l.length := by
  induction h with
  | stop _ => intro x hx; cases hx
  | fault e _ =>
    intro y hy
    rw [List.mem_singleton.1 hy]
    have := nx_bd e
    exact ⟨this.1, this.2.1⟩
  | go e _ _ ih =>
    have h1 := nx_bd e
    intro y hy
    rcases List.mem_cons.1 hy with rfl | hy
    · exact ⟨h1.1, h1.2.1⟩
    · have := ih y hy
      exact ⟨by omega, by omega⟩
end Go.Proofs.YtnjnepploockiaaDoor

namespace Go.Proofs.YtnjnepploockiaaDoor
open Go.RowKit Go.WideShapes

def fullN (l : List UInt8) : Nat := if l.length = 16393 then 1 else 0
theorem fullN_le (l : List UInt8) : fullN l ≤ 1 := by unfold fullN; split <;> omega
/-- What is told so far, and what all else will tell. -/
def PlayT (b0 : List UInt8) (p : Bool) (L : List El) (s : List UInt8) (wt bad : Bool) : Prop := ∀ out m b', AllB s wt bad out m b' → AllR b0 p (L.map El.rd ++ out) m b'
theorem PlayT.len {b0 s : List UInt8} {p wt bad : Bool} {L : List El} (h : PlayT b0 p L s wt bad) : L.length ≤ b0.length + 1 := by
  obtain ⟨out, n, b, h1⟩ := AllB.total s wt bad
  have := (h _ _ _ h1).len
  rw [List.length_append, List.length_map] at this
  omega
def slN : Value → Nat
  | .slice _ n _ => n
  | _ => 0
theorem FL.slN {w : World} {base : Nat} {X : Nat → Prop} {v : Value} {L : List El} (h : FL w base X v L) : slN v = L.length := by
  obtain ⟨A, c, rfl, _⟩ := h.own.shape
  rfl
/-- What play leaves. -/
def PlayPost (w : World) (g b : Nat) (b0 : List UInt8) (p : Bool) (e : Ending) (w' : World) : Prop :=
  ∃ (L : List El) (v : Value) (l : List UInt8) (wt bad : Bool), e = .returned (.tuple #[v, .bool true]) ∧ FL w' w.heap.size (gbS g b) v L ∧ Spl w' g b l wt bad ∧ AllR b0 p (L.map El.rd) l.length bad ∧ nsN l wt bad = (none, l, wt, bad) ∧ Fs (gbS g b) w w'
attribute [local irreducible] Fm.c ftc fxc enl

set_option maxRecDepth 100000 in
set_option maxHeartbeats 16000000 in
theorem play_any {b0 zs : List UInt8} {A Z : Option Addr} {cb cz often g b : Nat} {p : Bool} {w : World} (h : Spl w g b [] p false) (hG : GlobE w) (hlb : 0 < b) (hR : RdS w (fun k => k < w.heap.size ∧ k ≠ g ∧ k ≠ b) A (byc b0)) (hc : b0.length ≤ cb) (hZ : RdS w (fun k => k < w.heap.size ∧ k ≠ g ∧ k ≠ b) Z (byc zs)) (hzl : zs.length ≤ 100000) (hbl : b0.length ≤ 100000) (hof : often < 256) :
    Calls Tryd.prog 9 #[.pointer (some ⟨g, 0, none⟩), .slice A b0.length cb, .slice Z zs.length cz, .int .u8 often] w (PlayPost w g b b0 p) := by
  obtain ⟨i0, hi0, hz0, hz1, hz2⟩ := info_parts u8_info
  have hlts := h.lts
  have HF0 : Hid (FL (w.alloc (.cells #[] 47)) w.heap.size (gbS g b) (.slice (some ⟨w.heap.size, 0, none⟩) 0 0) []) := FL.made w _ (Nat.le_refl _) (fun k h => by rcases h with h | h <;> omega)
  have hb0 : Below w.heap.size w (w.alloc (.cells #[] 47)) := (Below.refl _ _).alloc (Nat.le_refl _) _
  have H0 := Lib.hid (h.below hb0)
  have HS0 : Hid (Fs (gbS g b) w (w.alloc (.cells #[] 47))) := Fs.of_below hb0
  have HR0 : Hid (RdS (w.alloc (.cells #[] 47)) (fun k => k < w.heap.size ∧ k ≠ g ∧ k ≠ b) A (byc b0)) := hR.keep fun k hk => hb0.block k hk.1
  have HZ := Lib.hid hZ
  have HG := Lib.hid hG
  have HT0 : Hid (PlayT b0 p [] ([] ++ b0) p false) := fun out m b' h => by unfold AllB at h; rw [if_neg (by simp)] at h; exact h
  have HN0 : Hid (b0 = [] → nsN [] p false = (none, [], p, false)) := fun _ => nsN_none (nx_nil p)
  obtain ⟨hgl, hbl2, hne, hlg⟩ := hlts
  have HZL := Lib.hid hzl
  have HBL := Lib.hid hbl
  clear h hG hR hZ hb0 hzl
  go_enter Tryd.func9, Tryd.ntmps9
  go_wp2_with fail
  go_loopw [1, 10, 11] (fun bb o i wr => ∃ (rest : List UInt8) (L : List El) (A' : Option Addr) (c' : Nat) (v : Value) (l : List UInt8) (wt bad : Bool) (n : Nat), bb = .slice A' rest.length c' ∧ rest.length ≤ c' ∧ o = v ∧ i = .int .i64 n ∧ n + 2 * rest.length + fullN l ≤ 2 * b0.length ∧ Hid (RdS wr (fun k => k < w.heap.size ∧ k ≠ g ∧ k ≠ b) A' (byc rest)) ∧ Hid (FL wr w.heap.size (gbS g b) v L) ∧ Hid (Spl wr g b l wt bad) ∧ Hid (Fs (gbS g b) w wr) ∧ Hid (PlayT b0 p L (l ++ rest) wt bad) ∧ Hid (rest = [] → nsN l wt bad = (none, l, wt, bad))) (fun _ _ i _ => 2 * b0.length + 1 - (intOf i).toNat)
  case atStart => exact ⟨b0, [], A, cb, _, [], p, false, 0, rfl, hc, rfl, rfl, by simp [fullN], HR0, HF0, H0, HS0, HT0, HN0⟩
  case round =>
    obtain ⟨rest, L, A', c', v, l, wt, bad, n, rfl, hc', rfl, rfl, hcnt, HR, HF, HS, HW, HT, HN⟩ := hrel
    clear HF0 H0 HS0 HR0 HT0 HN0
    have HCN := Lib.hid hcnt
    by_cases hr0 : rest.length = 0
    · have he : rest = [] := List.eq_nil_of_length_eq_zero hr0
      subst he
      have hns := HN.out rfl
      have hab := (ns_none hns).2.2
      have hfin := HT.out [] _ _ (by rw [List.append_nil]; exact hab)
      rw [List.append_nil] at hfin
      have HFin := Lib.hid hfin
      have HNS := Lib.hid hns
      clear hfin hab hns HN HT HCN hcnt hr0 hbl
      go_wp2_with fail
      go_ret2
      exact ⟨L, _, l, wt, bad, rfl, HF.out, HS.out, HFin.out, HNS.out, HW.out⟩
    · have hrp : (0 : Int) < (rest.length : Int) := by omega
      have hrl : rest.length ≤ 100000 := by omega
      have hnl : n ≤ 200000 := by omega
      clear hcnt hr0 HN
      go_upto_if 28 with fail
      go_cut [12] from 20 to 111 (fun v wx => ∃ m : Nat, v = .int .i64 m ∧ 1 ≤ m ∧ m ≤ rest.length ∧ Hid (wx = wr))
      case first =>
        by_cases hi : n < zs.length
        · have hii : decide ((n : Int) < (zs.length : Int)) = true := by simp; omega
          have hni : (n : Int) < (zs.length : Int) := by omega
          obtain ⟨gz, oz, rfl, hgz, hcz⟩ := HZ.out (by intro e; have := congrArg List.length e; rw [byc_length] at this; simp at this; rw [this] at hi; simp at hi)
          have hzv : w.cell? ⟨gz, oz + n, none⟩ = some (.int .u8 (zs[n].toNat : Int)) := hcz n _ (byc_at hi)
          have hzw : wr.cell? ⟨gz, oz + n, none⟩ = some (.int .u8 (zs[n].toNat : Int)) := (World.cell?_of_block (a := ⟨gz, oz + n, none⟩) (HW.out.block gz hgz.1 (fun e => by rcases e with e | e; exact hgz.2.1 e; exact hgz.2.2 e))).trans hzv
          have hzb := zs[n].toNat_lt
          generalize zs[n].toNat = zn at *
          obtain ⟨m, hm⟩ : ∃ m, m = min rest.length (1 + zn) := ⟨_, rfl⟩
          have hmin : min (rest.length : Int) (1 + (zn : Int)) = (m : Int) := by omega
          have hm1 : 1 ≤ m := by omega
          have hm2 : m ≤ rest.length := by omega
          clear hzv hcz HR HF HS HW HT hm
          go_wp2_with fail
          go_meet
          exact ⟨m, rfl, hm1, hm2, rfl⟩
        · have hii : decide ((n : Int) < (zs.length : Int)) = false := by simp; omega
          clear HR HF HS HW HT
          go_wp2_with fail
          go_meet
          exact ⟨rest.length, rfl, by omega, Nat.le_refl _, rfl⟩
      case rest =>
        obtain ⟨m, rfl, hm1, hm2, hwx⟩ := hcut
        have hwx : wc = wr := hwx.out
        subst hwx
        cases bad with
        | true =>
          have hlw : l = [] ∧ wt = false := by
            rcases HS.out with ⟨h0, _⟩ | ⟨_, h1, h2, _⟩
            · cases h0
            · exact ⟨h2, h1⟩
          obtain ⟨rfl, rfl⟩ := hlw
          have hxl : (rest.take m).length = m := by rw [List.length_take]; omega
          obtain ⟨hcut, hRm⟩ := cut_uptoS (P := Tryd.prog) Tryd.underlying22 hi0 hz1 HR.out (c := c') (k := m) hc' hm2
          have HRm := Lib.hid hRm
          have HG1 := Lib.hid (HG.out.fs HW.out (gbS_glob hlg hlb))
          have hhd := hld_any HS.out
          clear hRm
          go_wp2_with fail
          refine hhd.mono ?_
          rintro e w1' ⟨rfl, q1, rfl⟩
          have HS1 : Hid (Spl (wc.drewN q1) g b [] false true) := HS.out.keep (Nat.le_refl _) rfl rfl
          have HF1 := Lib.hid (HF.out.drewN q1)
          have HW1 : Hid (Fs (gbS g b) w (wc.drewN q1)) := HW.out.drewN q1
          have HR1 : Hid (RdS (wc.drewN q1) (fun k => k < w.heap.size ∧ k ≠ g ∧ k ≠ b) A' (byc rest)) := HR.out
          have HRm1 : Hid (RdS (wc.drewN q1) (fun k => k < w.heap.size ∧ k ≠ g ∧ k ≠ b) A' (byc (rest.take m))) := HRm.out
          have HG2 : Hid (GlobE (wc.drewN q1)) := HG1.out
          clear hhd HS HF HW HR HRm HG1
          generalize wc.drewN q1 = w1 at *
          have hfeed := feed_any (c := c') (x := rest.take m) HS1.out (HRm1.out.imp fun k hk hl => ⟨hl, hk.2⟩)
          have hfe : fedN [] true (rest.take m) = 0 := rfl
          rw [hxl, hfe] at hfeed
          go_wp2_with fail
          refine hfeed.mono ?_
          rintro e w2 ⟨rfl, hS2, hF2⟩
          have HS2 := Lib.hid hS2
          have HF2 := Lib.hid (HF1.out.fs hF2)
          have HW2 := Lib.hid (HW1.out.trans hF2 (fun k _ e => e))
          have HR2 : Hid (RdS w2 (fun k => k < w.heap.size ∧ k ≠ g ∧ k ≠ b) A' (byc rest)) := hF2.reads HR1.out (fun k hk => ⟨Nat.lt_of_lt_of_le hk.1 HW1.out.size, fun e => by rcases e with e | e; exact hk.2.1 e; exact hk.2.2 e⟩)
          have HG3 := Lib.hid (HG2.out.fs hF2 (gbS_glob hlg hlb))
          clear hfeed hS2 hF2 HS1 HF1 HW1 HR1 HRm1 HG2 hcut
          obtain ⟨mm, hmm⟩ : ∃ mm, mm = min m 16393 := ⟨_, rfl⟩
          have hmin : min (m : Int) 16393 = (mm : Int) := by omega
          obtain ⟨A3, hcut3, _⟩ := cut_fromS (P := Tryd.prog) Tryd.underlying22 hi0 hz1 HR2.out (c := c') (k := 0) hc' (Nat.zero_le _)
          have hfin := HT.out [] 0 true (by unfold AllB; rw [if_pos rfl]; exact ⟨rfl, rfl, rfl⟩)
          rw [List.append_nil] at hfin
          have HFin := Lib.hid hfin
          have HS3 : Hid (Spl w2 g b [] false true) := HS2.out
          clear hmm hfin HT HS2
          have hbd := bad_any HS3.out
          have hhd := hld_any HS3.out
          go_wp2_with fail
          refine hbd.mono ?_
          rintro e w3' ⟨rfl, rfl⟩
          go_wp2_with fail
          refine hhd.mono ?_
          rintro e w3 ⟨rfl, q2, rfl⟩
          have HS4 : Hid (Spl (w3'.drewN q2) g b [] false true) := HS3.out.keep (Nat.le_refl _) rfl rfl
          have HF4 := Lib.hid (HF2.out.drewN q2)
          have HW4 : Hid (Fs (gbS g b) w (w3'.drewN q2)) := HW2.out.drewN q2
          clear hhd HS3 HF2 HW2 HR2 HG3 hbd
          generalize w3'.drewN q2 = w4 at *
          have hbd := bad_any HS4.out
          go_wp2_with fail
          refine hbd.mono ?_
          rintro e w5' ⟨rfl, rfl⟩
          clear hbd
          go_wp2_with fail
          go_ret2
          exact ⟨L, _, [], false, true, rfl, HF4.out, HS4.out, HFin.out, rfl, HW4.out⟩
        | false =>
          have hxl : (rest.take m).length = m := by rw [List.length_take]; omega
          obtain ⟨hcut, hRm⟩ := cut_uptoS (P := Tryd.prog) Tryd.underlying22 hi0 hz1 HR.out (c := c') (k := m) hc' hm2
          have HRm := Lib.hid hRm
          have HG1 := Lib.hid (HG.out.fs HW.out (gbS_glob hlg hlb))
          have hhd := hld_any HS.out
          clear hRm
          go_wp2_with fail
          refine hhd.mono ?_
          rintro e w1' ⟨rfl, q1, rfl⟩
          have HS1 : Hid (Spl (wc.drewN q1) g b l wt false) := HS.out.keep (Nat.le_refl _) rfl rfl
          have HF1 := Lib.hid (HF.out.drewN q1)
          have HW1 : Hid (Fs (gbS g b) w (wc.drewN q1)) := HW.out.drewN q1
          have HR1 : Hid (RdS (wc.drewN q1) (fun k => k < w.heap.size ∧ k ≠ g ∧ k ≠ b) A' (byc rest)) := HR.out
          have HRm1 : Hid (RdS (wc.drewN q1) (fun k => k < w.heap.size ∧ k ≠ g ∧ k ≠ b) A' (byc (rest.take m))) := HRm.out
          have HG2 : Hid (GlobE (wc.drewN q1)) := HG1.out
          clear hhd HS HF HW HR HRm HG1
          generalize wc.drewN q1 = w1 at *
          have hfeed := feed_any (c := c') (x := rest.take m) HS1.out (HRm1.out.imp fun k hk hl => ⟨hl, hk.2⟩)
          obtain ⟨kk, hkk⟩ : ∃ kk, kk = min m (16393 - l.length) := ⟨_, rfl⟩
          have hfe : fedN l false (rest.take m) = kk := by unfold fedN; rw [if_neg (by simp), hxl, hkk]
          have hll := HS1.out.le
          have hl2 : fedL l false (rest.take m) = l ++ rest.take kk := by
            unfold fedL
            rw [if_neg (by simp), List.take_take, hkk, Nat.min_comm]
          rw [hxl, hfe, hl2] at hfeed
          have hmin : min (m : Int) (16393 - (l.length : Int)) = (kk : Int) := by omega
          have HK := Lib.hid hkk
          have hkm : kk ≤ m := by omega
          have hk1 : kk ≤ 16393 - l.length := by omega
          clear hkk hfe hl2
          go_wp2_with fail
          refine hfeed.mono ?_
          rintro e w2 ⟨rfl, hS2, hF2⟩
          have HS2 := Lib.hid hS2
          have HF2 := Lib.hid (HF1.out.fs hF2)
          have HW2 := Lib.hid (HW1.out.trans hF2 (fun k _ e => e))
          have HR2 : Hid (RdS w2 (fun k => k < w.heap.size ∧ k ≠ g ∧ k ≠ b) A' (byc rest)) := hF2.reads HR1.out (fun k hk => ⟨Nat.lt_of_lt_of_le hk.1 HW1.out.size, fun e => by rcases e with e | e; exact hk.2.1 e; exact hk.2.2 e⟩)
          have HG3 := Lib.hid (HG2.out.fs hF2 (gbS_glob hlg hlb))
          clear hfeed hS2 hF2 HS1 HF1 HW1 HR1 HRm1 HG2 hcut
          obtain ⟨A3, hcut3, hR3⟩ := cut_fromS (P := Tryd.prog) Tryd.underlying22 hi0 hz1 HR2.out (c := c') (k := kk) hc' (by omega)
          have hl2 : (l ++ rest.take kk).length = l.length + kk := by rw [List.length_append, List.length_take]; omega
          have hdl : (rest.drop kk).length = rest.length - kk := List.length_drop
          have hT3 : PlayT b0 p L ((l ++ rest.take kk) ++ rest.drop kk) wt false := by rw [List.append_assoc, List.take_append_drop]; exact HT.out
          rw [← hdl] at hcut3
          have HR3 := Lib.hid hR3
          have HT3 := Lib.hid hT3
          have HL2 := Lib.hid hl2
          have HDL := Lib.hid hdl
          have hrk : rest.length - kk ≤ c' - kk := by omega
          have hd3 : decide ((16393 : Int) < ((l ++ rest.take kk).length : Int)) = false := by rw [hl2]; simp; omega
          have HML := Lib.hid (And.intro hm1 (And.intro hm2 (And.intro hkm (And.intro hk1 hll))))
          clear hR3 hT3 HT hl2 HR2
          generalize l ++ rest.take kk = l2 at *
          generalize rest.drop kk = r2 at *
          have hbd := bad_any HS2.out
          have hhd := hld_any HS2.out
          go_wp2_with fail
          refine hbd.mono ?_
          rintro e w3' ⟨rfl, rfl⟩
          go_wp2_with fail
          refine hhd.mono ?_
          rintro e w3 ⟨rfl, q2, rfl⟩
          have HS4 : Hid (Spl (w3'.drewN q2) g b l2 wt false) := HS2.out.keep (Nat.le_refl _) rfl rfl
          have HF4 := Lib.hid (HF2.out.drewN q2)
          have HW4 : Hid (Fs (gbS g b) w (w3'.drewN q2)) := HW2.out.drewN q2
          have HR4 : Hid (RdS (w3'.drewN q2) (fun k => k < w.heap.size ∧ k ≠ g ∧ k ≠ b) A3 (byc r2)) := HR3.out
          have HG4 : Hid (GlobE (w3'.drewN q2)) := HG3.out
          clear hhd HS2 HF2 HW2 HR3 HG3 hbd
          generalize w3'.drewN q2 = w4 at *
          have hbd := bad_any HS4.out
          go_wp2_with fail
          refine hbd.mono ?_
          rintro e w5' ⟨rfl, rfl⟩
          clear hbd hcut3 hd3 hmin
          go_wp2_with fail
          obtain ⟨C, hC⟩ : ∃ C : Bool, C = (decide (kk < m) || decide (often = 0) || decide ((n + 1) % often = 0) || decide (r2.length = 0)) := ⟨_, rfl⟩
          have HC := Lib.hid hC
          have hLl := HT3.out.len
          clear hC
          go_loopw [10] (fun o wr => ∃ (L : List El) (v : Value) (l : List UInt8) (wt bad : Bool), v = o ∧ Hid (FL wr w.heap.size (gbS g b) v L) ∧ Hid (Spl wr g b l wt bad) ∧ Hid (Fs (gbS g b) w wr) ∧ Hid (PlayT b0 p L (l ++ r2) wt bad) ∧ Hid (RdS wr (fun k => k < w.heap.size ∧ k ≠ g ∧ k ≠ b) A3 (byc r2))) (fun o _ => b0.length + 2 - slN o)
          case atStart => exact ⟨L, _, l2, wt, false, rfl, HF4, HS4, HW4, HT3, HR4⟩
          case round =>
            obtain ⟨L5, v5, l5, wt5, bad5, rfl, HF5, HS5, HW5, HT5, HR5⟩ := hrel
            clear HF4 HS4 HW4 HT3 HR4 hLl
            go_upto_region 18 with fail
            go_cut [85] from 67 to 102 (fun v wx => v = .bool C ∧ Hid (wx = wr))
            case first =>
              have hnl2 := HDL.out
              clear HF5 HS5 HW5 HT5 HR5 HG4 HML HL2
              by_cases c1 : kk < m
              · have hd1 : decide ((kk : Int) < (m : Int)) = true := by simp; omega
                have HCt : Hid (C = true) := by show C = true; rw [HC.out]; simp [c1]
                go_wp2_with fail
                go_meet
                exact ⟨by rw [HCt.out], rfl⟩
              · have hd1 : decide ((kk : Int) < (m : Int)) = false := by simp; omega
                by_cases c2 : often = 0
                · have hd2 : ((often : Int) == 0) = true := by rw [c2]; rfl
                  have HCt : Hid (C = true) := by show C = true; rw [HC.out]; simp [c2]
                  go_wp2_with fail
                  go_meet
                  exact ⟨by rw [HCt.out], rfl⟩
                · have hd2 : ((often : Int) == 0) = false := beq_eq_false_iff_ne.2 (by omega)
                  have hne0 : ¬ (often : Int) = 0 := by omega
                  have hm0 : ((n : Int) + 1) % (often : Int) = (((n + 1) % often : Nat) : Int) := rfl
                  have HM0 := Lib.hid hm0
                  clear hm0
                  by_cases c3 : (n + 1) % often = 0
                  · have hd3 : ((n : Int) + 1) % (often : Int) = 0 := by rw [HM0.out, c3]; rfl
                    have HCt : Hid (C = true) := by show C = true; rw [HC.out]; simp [c3]
                    clear hnl2 c3
                    go_wp2_with fail
                    go_meet
                    exact ⟨by rw [HCt.out], rfl⟩
                  · have hd3 : ¬ ((n : Int) + 1) % (often : Int) = 0 := by rw [HM0.out]; omega
                    by_cases c4 : r2.length = 0
                    · have hd4 : (((rest.length - kk : Nat) : Int) == 0) = true := by rw [← hnl2, c4]; rfl
                      have HCt : Hid (C = true) := by show C = true; rw [HC.out]; simp [c4]
                      clear hnl2 c3 c4
                      go_wp2_with fail
                      go_meet
                      exact ⟨by rw [HCt.out], rfl⟩
                    · have hd4 : (((rest.length - kk : Nat) : Int) == 0) = false := beq_eq_false_iff_ne.2 (by omega)
                      have HCt : Hid (C = false) := by show C = false; rw [HC.out]; simp [c1, c2, c3, c4]
                      have hd5 : kk < rest.length := by omega
                      have hd6 : ¬ rest.length ≤ kk := by omega
                      have hd7 : ¬ rest.length - kk = 0 := by omega
                      clear hnl2 c3 c4
                      go_wp2_with fail
                      go_meet
                      exact ⟨by rw [HCt.out]; simp [hd3], rfl⟩
            case rest =>
              obtain ⟨rfl, hwx⟩ := hcut
              have hwx := hwx.out
              subst hwx
              have hdl2 := HDL.out
              cases C with
              | false =>
                have hkm0 : ¬ kk < m := fun h => by have := HC.out; simp [h] at this
                have hr20 : ¬ r2.length = 0 := fun h => by have := HC.out; simp [h] at this
                have hd1 : decide ((kk : Int) < (m : Int)) = false := by simp; omega
                have hpot : n + 1 + 2 * r2.length + fullN l5 ≤ 2 * b0.length := by
                  have h1 := HCN.out
                  have h2 := HML.out
                  have h3 := fullN_le l5
                  omega
                have hms : n < 2 * b0.length := by have := HCN.out; omega
                have HPOT := Lib.hid hpot
                have HR20 := Lib.hid hr20
                clear hr20 hpot hdl2
                go_wp2_with fail
                go_roundw
                case rel => exact ⟨r2, L5, A3, c' - kk, _, l5, wt5, bad5, n + 1, by rw [HDL.out], by have := HDL.out; omega, rfl, rfl, HPOT.out, HR5, HF5, HS5, HW5, HT5, fun e => absurd (by rw [e]; rfl) HR20.out⟩
                case measure => simp [intOf]; omega
              | true =>
                have hGn := HG.out.fs HW5.out (gbS_glob hlg hlb)
                have hn := Next_any HS5.out hGn
                obtain ⟨o, r, w', b', hns⟩ : ∃ o r w' b', nsN l5 wt5 bad5 = (o, r, w', b') := ⟨_, _, _, _, rfl⟩
                rw [hns] at hn
                have HNS := Lib.hid hns
                have hLl := HT5.out.len
                clear hns hGn hdl2
                go_wp2_with fail
                refine hn.mono ?_
                rintro e w5 ⟨vv, rfl, ⟨X, s, c, ok, rfl, hT⟩, hS6, hF6⟩
                have HS6 := Lib.hid hS6
                have HF6 := Lib.hid (HF5.out.fs hF6)
                have HW6 := Lib.hid (HW5.out.trans hF6 (fun k _ e => e))
                have HR6 : Hid (RdS w5 (fun k => k < w.heap.size ∧ k ≠ g ∧ k ≠ b) A3 (byc r2)) := hF6.reads HR5.out (fun k hk => ⟨Nat.lt_of_lt_of_le hk.1 HW5.out.size, fun e => by rcases e with e | e; exact hk.2.1 e; exact hk.2.2 e⟩)
                have HTo := Lib.hid hT
                have HSZ : Hid (wc.heap.size ≤ w5.heap.size) := hF6.size
                have HOB : Hid (∀ k, ob v5 k → k < wc.heap.size) := fun k hk => (OwS.lt HF5.out.own k hk).2
                have HXG : Hid (g < wc.heap.size ∧ b < wc.heap.size) := ⟨HS5.out.lts.1, HS5.out.lts.2.1⟩
                clear hn hS6 hF6 hT HS5 HF5 HW5 HR5
                have HXe : Hid (Row ((w5.alloc (.cells #[.int .u8 0, .int .u8 0, .int .u32 0, .slice none 0 0, .int .i64 0, .int .u32 0, .int .u32 0, .int .u8 0, .bool false, .int .u32 0, .slice none 0 0] 36)).alloc (.cells #[.int .u8 0, .int .u32 0] 38)) w5.heap.size 36 (fm0 0 0 0 0).c) := by show Row _ _ _ _; rw [z_c]; exact (Row.new w5 _ _).alloc _
                have HTe : Hid (Row ((w5.alloc (.cells #[.int .u8 0, .int .u8 0, .int .u32 0, .slice none 0 0, .int .i64 0, .int .u32 0, .int .u32 0, .int .u8 0, .bool false, .int .u32 0, .slice none 0 0] 36)).alloc (.cells #[.int .u8 0, .int .u32 0] 38)) (w5.heap.size + 1) 38 (ftc 0 0)) := by show Row _ _ _ _; rw [ftc_eq]; exact Row.made _ _ _ (by simp)
                have HBe : Hid (Below w5.heap.size w5 ((w5.alloc (.cells #[.int .u8 0, .int .u8 0, .int .u32 0, .slice none 0 0, .int .i64 0, .int .u32 0, .int .u32 0, .int .u8 0, .bool false, .int .u32 0, .slice none 0 0] 36)).alloc (.cells #[.int .u8 0, .int .u32 0] 38))) := ((Below.refl _ _).alloc (Nat.le_refl _) _).alloc (by simp) _
                have HSe : Hid (((w5.alloc (.cells #[.int .u8 0, .int .u8 0, .int .u32 0, .slice none 0 0, .int .i64 0, .int .u32 0, .int .u32 0, .int .u8 0, .bool false, .int .u32 0, .slice none 0 0] 36)).alloc (.cells #[.int .u8 0, .int .u32 0] 38)).heap.size = w5.heap.size + 2) := by show _ = _; simp
                cases o with
                | none =>
                  obtain ⟨rfl, rfl, rfl, rfl⟩ := HTo.out
                  have hnn := ns_none HNS.out
                  have HNN := Lib.hid hnn
                  have hT7 : PlayT b0 p L5 (r ++ r2) w' b' := fun out m b'' h => HT5.out _ _ _ (ns_wait HNS.out h)
                  have HT7 := Lib.hid hT7
                  have hrl := hnn.1
                  clear hnn hT7 HTo HNS
                  go_upto_region 20 with (first | (refine wpList_sfm (x := (fm0 0 0 0 0)) rfl _ _ rfl rfl rfl HXe.out ?_) | (refine wpList_sft (s := 0) (c := 0) rfl _ _ rfl rfl rfl (HTe.out.setRow' (k := w5.heap.size) (by omega) (Fm.c (fm0 0 0 0 0))) ?_))
                  have HXf := Lib.hid ((HXe.out.setRow (Fm.c (fm0 0 0 0 0))).setRow' (k := w5.heap.size + 1) (by omega) (ftc 0 0))
                  have HTf := Lib.hid ((HTe.out.setRow' (k := w5.heap.size) (by omega) (Fm.c (fm0 0 0 0 0))).setRow (ftc 0 0))
                  have HZw := Lib.hid (((Fs.of_below (S := fun k => k = w5.heap.size ∨ k = w5.heap.size + 1) HBe.out).setRow (g := w5.heap.size) (fun _ => .inl rfl) (Fm.c (fm0 0 0 0 0))).setRow (g := w5.heap.size + 1) (fun _ => .inr rfl) (ftc 0 0))
                  have HBw := Lib.hid (HZw.out.below (B := w5.heap.size) (fun k hk _ => by omega) (Nat.le_refl _))
                  have HS8 := Lib.hid (HS6.out.below HBw.out)
                  have HF8 := Lib.hid (HF6.out.below HBw.out)
                  have HW8 := Lib.hid (HW6.out.then_below HBw.out)
                  have HR8 := Lib.hid (HR6.out.keep (fun k hk => HBw.out.block k (Nat.lt_of_lt_of_le hk.1 HW6.out.size)))
                  generalize ((((w5.alloc (.cells #[.int .u8 0, .int .u8 0, .int .u32 0, .slice none 0 0, .int .i64 0, .int .u32 0, .int .u32 0, .int .u8 0, .bool false, .int .u32 0, .slice none 0 0] 36)).alloc (.cells #[.int .u8 0, .int .u32 0] 38)).setRow w5.heap.size (Fm.c (fm0 0 0 0 0))).setRow (w5.heap.size + 1) (ftc 0 0)) = w8 at *
                  clear HXe HTe HBe HSe HZw HBw HS6 HF6 HW6 HR6 HXf HTf
                  have hpot : n + 1 + 2 * r2.length + fullN r ≤ 2 * b0.length := by
                    have h1 := HCN.out
                    have h2 := HML.out
                    have h3 : fullN r = 0 := by unfold fullN; rw [if_neg (by omega)]
                    have h4 := HK.out
                    have h5 := HDL.out
                    by_cases hf : l.length = 16393
                    · have : fullN l = 1 := by unfold fullN; rw [if_pos hf]
                      omega
                    · have : fullN l = 0 := by unfold fullN; rw [if_neg hf]
                      omega
                  have hms : n < 2 * b0.length := by have := HCN.out; omega
                  have HPOT := Lib.hid hpot
                  have hd8 : decide ((16393 : Int) ≤ (r.length : Int)) = false := by simp; omega
                  clear hpot
                  by_cases c1 : kk < m
                  · have hd1 : decide ((kk : Int) < (m : Int)) = true := by simp; omega
                    have hhd := hld_any HS8.out
                    go_wp2_with fail
                    refine hhd.mono ?_
                    rintro e w9 ⟨rfl, q9, rfl⟩
                    have HS9 : Hid (Spl (w8.drewN q9) g b r w' b') := HS8.out.keep (Nat.le_refl _) rfl rfl
                    have HF9 := Lib.hid (HF8.out.drewN q9)
                    have HW9 : Hid (Fs (gbS g b) w (w8.drewN q9)) := HW8.out.drewN q9
                    have HR9 : Hid (RdS (w8.drewN q9) (fun k => k < w.heap.size ∧ k ≠ g ∧ k ≠ b) A3 (byc r2)) := HR8.out
                    clear hhd HS8 HF8 HW8 HR8
                    generalize w8.drewN q9 = w9 at *
                    go_wp2_with fail
                    go_roundw
                    case rel => exact ⟨r2, L5, A3, c' - kk, _, r, w', b', n + 1, by rw [HDL.out], by have := HDL.out; omega, rfl, rfl, HPOT.out, HR9, HF9, HS9, HW9, HT7, fun _ => HNN.out.2.1⟩
                    case measure => simp [intOf]; omega
                  · have hd1 : decide ((kk : Int) < (m : Int)) = false := by simp; omega
                    go_wp2_with fail
                    go_roundw
                    case rel => exact ⟨r2, L5, A3, c' - kk, _, r, w', b', n + 1, by rw [HDL.out], by have := HDL.out; omega, rfl, rfl, HPOT.out, HR8, HF8, HS8, HW8, HT7, fun _ => HNN.out.2.1⟩
                    case measure => simp [intOf]; omega
                | some x =>
                  obtain ⟨rfl, rfl, rfl, hX⟩ := HTo.out
                  obtain ⟨el, he1, he2, he3⟩ := FmIs.el hX x.2.1 x.2.2
                  have hsc : x.2.1 = el.s ∧ x.2.2 = el.c := by
                    injection he1 with _ q
                    injection q with q1 q2
                    exact ⟨q1.symm, q2.symm⟩
                  have he1x : el.rd = x := he1
                  have HE := Lib.hid he1x
                  have hw5 := HSZ.out
                  have hxg := HXG.out
                  have hin : ElIn w5 (fun k => k < w5.heap.size ∧ ¬ ob v5 k ∧ ¬ gbS g b k) el := he3.imp fun k hk hl => ⟨hl, fun ho => by have := HOB.out k ho; omega, fun h => by rcases h with h | h <;> omega⟩
                  have HI5 := Lib.hid hin
                  rw [← he2, hsc.1, hsc.2]
                  clear he1 he2 he3 hsc he1x hin hX HTo HOB HSZ HXG hw5 hxg
                  go_upto_region 20 with (first | (refine wpList_sfm (x := el.fm) rfl _ _ rfl rfl rfl HXe.out ?_) | (refine wpList_sft (s := el.s) (c := el.c) rfl _ _ rfl rfl rfl (HTe.out.setRow' (k := w5.heap.size) (by omega) (Fm.c el.fm)) ?_))
                  have HXf := Lib.hid ((HXe.out.setRow (Fm.c el.fm)).setRow' (k := w5.heap.size + 1) (by omega) (ftc el.s el.c))
                  have HTf := Lib.hid ((HTe.out.setRow' (k := w5.heap.size) (by omega) (Fm.c el.fm)).setRow (ftc el.s el.c))
                  have HZw := Lib.hid (((Fs.of_below (S := fun k => k = w5.heap.size ∨ k = w5.heap.size + 1) HBe.out).setRow (g := w5.heap.size) (fun _ => .inl rfl) (Fm.c el.fm)).setRow (g := w5.heap.size + 1) (fun _ => .inr rfl) (ftc el.s el.c))
                  have HBw := Lib.hid (HZw.out.below (B := w5.heap.size) (fun k hk _ => by omega) (Nat.le_refl _))
                  have HS8 := Lib.hid (HS6.out.below HBw.out)
                  have HF8 := Lib.hid (HF6.out.below HBw.out)
                  have HW8 := Lib.hid (HW6.out.then_below HBw.out)
                  have HR8 := Lib.hid (HR6.out.keep (fun k hk => HBw.out.block k (Nat.lt_of_lt_of_le hk.1 HW6.out.size)))
                  have HI8 := Lib.hid (HI5.out.keep (fun k hk => HBw.out.block k hk.1))
                  generalize ((((w5.alloc (.cells #[.int .u8 0, .int .u8 0, .int .u32 0, .slice none 0 0, .int .i64 0, .int .u32 0, .int .u32 0, .int .u8 0, .bool false, .int .u32 0, .slice none 0 0] 36)).alloc (.cells #[.int .u8 0, .int .u32 0] 38)).setRow w5.heap.size (Fm.c el.fm)).setRow (w5.heap.size + 1) (ftc el.s el.c)) = w8 at *
                  have ct0 : w8.cell? ⟨w5.heap.size + 1, 0, none⟩ = some (.int .u8 (el.s : Int)) := HTf.out.cell (by rw [ftc_eq]; rfl)
                  have ct1 : w8.cell? ⟨w5.heap.size + 1, 1, none⟩ = some (.int .u32 (el.c : Int)) := HTf.out.cell (by rw [ftc_eq]; rfl)
                  have hbq : Below w8.heap.size w8 (w8.alloc (.cells (fxc el.fm el.s el.c) 47)) := (Below.refl _ _).alloc (Nat.le_refl _) _
                  have HQ := Lib.hid (Row.new w8 47 (fxc el.fm el.s el.c))
                  have HFq := Lib.hid (HF8.out.below hbq)
                  have HSq := Lib.hid (HS8.out.below hbq)
                  have HWq := Lib.hid (HW8.out.then_below hbq)
                  have HRq := Lib.hid (HR8.out.keep (fun k hk => hbq.block k (Nat.lt_of_lt_of_le hk.1 HW8.out.size)))
                  have hbw := HBw.out.size
                  have hIq : ElIn (w8.alloc (.cells (fxc el.fm el.s el.c) 47)) (fun k => k < (w8.alloc (.cells (fxc el.fm el.s el.c) 47)).heap.size ∧ ¬ ob v5 k ∧ ¬ gbS g b k) el := (HI8.out.keep fun k hk => hbq.block k (by omega)).imp fun k hk hl => ⟨hl, hk.2⟩
                  have HIq := Lib.hid hIq
                  have hL1 : L5.length ≤ 1000000 := by omega
                  have hXq : ∀ k, gbS g b k → k < (w8.alloc (.cells (fxc el.fm el.s el.c) 47)).heap.size := fun k h => by
                    have := HSq.out.lts
                    rcases h with h | h <;> omega
                  have HXq := Lib.hid hXq
                  have hT9 : PlayT b0 p (L5 ++ [el]) (r ++ r2) w' b' := fun out m b'' h => by
                    have := HT5.out _ _ _ (ns_step HNS.out h)
                    rw [List.map_append, List.map_cons, List.map_nil, HE.out, List.append_assoc]
                    exact this
                  have HT9 := Lib.hid hT9
                  clear hbq hIq hXq hT9 hbw HXe HTe HBe HSe HZw HS6 HF6 HW6 HR6 HI5 HI8 HF8 HS8 HW8 HR8 HT5 HNS HBw
                  go_wp2_with (first | (refine wpList_fm rfl _ rfl rfl HXf.out ?_) | (refine wpList_b73 rfl _ _ _ rfl rfl rfl rfl ?_) | (refine wpList_bs7 rfl _ rfl rfl ?_) | (at_builtin; go_loud (refine wpList_app7 rfl (.tmp 94) (.tmp 101) rfl rfl HFq.out el _ rfl HQ.out HIq.out hL1 HWq.out.size HXq.out ?_; intro v9 w9 hL9 hF9 hN9; have HL9 := Lib.hid hL9; have HS9 := Lib.hid (HSq.out.fs hF9 (fun h => HFq.out.far _ h (.inl rfl)) (fun h => HFq.out.far _ h (.inr rfl))); have HW9 := Lib.hid (HWq.out.trans hF9 (fun k hk h => by have := (OwS.lt HFq.out.own k h).1; omega)); have HR9 := Lib.hid (HRq.out.keep (fun k hk => hF9.block k (Nat.lt_of_lt_of_le hk.1 HWq.out.size) (fun h => by have := (OwS.lt HFq.out.own k h).1; omega))); clear hL9 hF9 hN9)))
                  have hs9 := HL9.out.slN
                  have hs5 := HFq.out.slN
                  have hl9 := HT9.out.len
                  rw [List.length_append, List.length_singleton] at hs9 hl9
                  go_roundw
                  case rel => exact ⟨L5 ++ [el], _, r, w', b', rfl, HL9, HS9, HW9, HT9, HR9⟩
                  case measure => simp only [hs9, hs5]; omega
end Go.Proofs.YtnjnepploockiaaDoor
