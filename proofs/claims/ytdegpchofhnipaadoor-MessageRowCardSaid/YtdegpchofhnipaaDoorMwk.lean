/-
  MessageCuts: the law's walk. Conditions: the bytes are read; errors.errorType holds what the program's text lays.
-/
import Derived.Test.YtdegpchofhnipaaDoorMlp
import Derived.Test.YtdegpchofhnipaaDoorVrg
import Derived.Lib.SlBytesConst
namespace Go.Proofs.YtdegpchofhnipaaDoor
open Go.RowKit Go.WideShapes

theorem LP.other {w0 W W1 : World} {g lo hi : Nat} {A A' : Option Addr} {L : List Pe} {x : Gg} (h : LP w0 g lo hi A L x W) (hb : Below W.heap.size W W1) {fin mask : Bool} {op key c : Nat} {d : List UInt8} (hd : RdS W1 (fun k => W.heap.size ≤ k ∧ k < W1.heap.size) A' (byc d)) (hl : d.length ≤ 100000) (hc : d.length ≤ c) :
    Calls Tryd.prog 12 #[.pointer (some ⟨g, 0, none⟩), .agg (pcC fin op mask key A' d.length c)] W1 (TakeL w0 g lo hi A L W1 (takeM x op fin d)) := by
  refine ((h.gx.made hb).take (fin := fin) (mask := mask) (op := op) (key := key) (hd.imp fun k hk hl => ⟨hl, .inr (.inr hk)⟩) (fun k hk => by have := h.top; have := hb.size; omega) hl hc).mono ?_
  rintro e W' ⟨A2, c2, rfl, hO, _, hX, hk, ho, hs⟩
  have h1 := h.below hb
  exact ⟨A2, c2, rfl, Bo.reads hO, ⟨hX.sub fun k _ hk => .inl (.inl hk), RdS.keep h1.el fun k hk' => hk k (.inl hk'), fun e he => RdS.keep (h1.ins e he) fun k hk' => hk k (.inl hk'), Nat.le_trans h1.top hs, h.ok⟩, ho⟩
def stR (l : List (Nat × Bool × List UInt8)) (t : Bool) (i : Nat) : Gg := if i = 0 ∨ i = l.length then gg0 else ⟨catM (l.take i), true, t, false⟩
theorem right_step {n : Nat} {t : Bool} {b : List UInt8} {l : List (Nat × Bool × List UInt8)} (h : CutM n (opcM t) b l) (hr : RightM t b) {i : Nat} (hi : i < l.length) : takeM (stR l t i) l[i].1 l[i].2.1 l[i].2.2 = (stR l t (i + 1), if i + 1 = l.length then some ⟨1, t, 0, b⟩ else none) := by
  have h1 := h.step hr (g := gg0) ⟨rfl, rfl⟩ hi
  have e : stR l t i = if i = 0 then gg0 else ⟨catM (l.take i), true, t, false⟩ := by
    unfold stR
    by_cases h0 : i = 0
    · rw [if_pos h0, if_pos (.inl h0)]
    · rw [if_neg h0, if_neg (by omega)]
  rw [e, h1]
  by_cases he : i + 1 = l.length
  · rw [if_pos he, if_pos he]
    have : stR l t (i + 1) = gg0 := if_pos (.inr he)
    rw [this]
  · rw [if_neg he, if_neg he]
    have : stR l t (i + 1) = ⟨catM (l.take (i + 1)), true, t, false⟩ := if_neg (by omega)
    rw [this]
def xC : Array Value := (byc [120]).toArray
theorem x_rd (w : World) : RdS (w.alloc (.cells xC 5 (1, 2))) (fun k => w.heap.size ≤ k ∧ k < (w.alloc (.cells xC 5 (1, 2))).heap.size) (some ⟨w.heap.size, 0, none⟩) (byc [120]) := fun _ => ⟨w.heap.size, 0, rfl, ⟨Nat.le_refl _, by simp⟩, fun j u hj => by
  rw [World.cell?_alloc_mark w xC 5 (1, 2), Nat.zero_add]
  show (byc [120]).toArray[j]? = _
  rw [List.getElem?_toArray]
  exact hj⟩
set_option maxRecDepth 100000 in
set_option maxHeartbeats 4000000 in
theorem mwcuts_big {text : Bool} {A : Option Addr} {n c : Nat} {most : Int} {pings : Nat} {w : World} (hG : GlobE w) (hbig : 9000 < n) : Calls Tryd.prog 4 #[.bool text, .slice A n c, .int .i64 most, .int .u8 (pings : Int)] w fun e w' => e = .returned (.bool true) ∧ Below w.heap.size w w' := by
  have hfx := fixed18_any w hG
  have hd1 : decide ((9000 : Int) < (n : Int)) = true := decide_eq_true (by omega)
  have hd2 : decide (9000 < n) = true := decide_eq_true hbig
  go_enter Tryd.func4, Tryd.ntmps4
  go_wp2_with fail
  refine hfx.mono ?_
  rintro e w1 ⟨rfl, hb1⟩
  go_wp2_with fail
  go_ret
  exact ⟨rfl, hb1⟩
set_option maxRecDepth 100000 in
set_option maxHeartbeats 16000000 in
theorem mwcuts_small {text : Bool} {A : Option Addr} {b : List UInt8} {c : Nat} {most : Int} {pings : Nat} {w : World} (hra : RdB w w.heap.size A b) (hca : b.length ≤ c) (hp : pings < 256) (hG : GlobE w) (hbl : b.length ≤ 9000) :
    Calls Tryd.prog 4 #[.bool text, .slice A b.length c, .int .i64 most, .int .u8 (pings : Int)] w fun e w' => e = .returned (.bool true) ∧ Below w.heap.size w w' := by
  have hd1 : decide ((9000 : Int) < (b.length : Int)) = false := decide_eq_false (by omega)
  have hd2 : decide (9000 < b.length) = false := decide_eq_false (by omega)
  have hcut := mcut_any (text := text) (most := most) (by omega) hra hca
  have HRA := Lib.hid hra
  have HG := Lib.hid hG
  have HBL := Lib.hid hbl
  clear hra hca hG hbl
  go_enter Tryd.func4, Tryd.ntmps4
  go_wp2_with fail
  refine hcut.mono ?_
  rintro e w2 ⟨A2, c2, L, rfl, hcu, hok, hpl, hb2⟩
  have HCU := Lib.hid hcu
  have HOK := Lib.hid hok
  have HEL : Hid (RdS w2 (fun k => w.heap.size ≤ k ∧ k < w2.heap.size) A2 (enl Pe.cs L)) := (OwS.reads hpl.own).imp fun k hk _ => OwS.lt hpl.own k hk
  have HIN : Hid (∀ e ∈ L, RdS w2 (fun k => w.heap.size ≤ k ∧ k < w2.heap.size) e.A (byc e.p.dat)) := fun e he => (hpl.ins e he).imp fun k hk _ => ⟨Nat.le_of_not_lt hk.2.2, hk.1⟩
  have HB2 := Lib.hid hb2
  clear hcut hcu hok hpl hb2 hd1 hd2
  obtain ⟨s1, hs1⟩ : ∃ s1 : Int, s1 = if most < 1 then 1 else most := ⟨_, rfl⟩
  have HS1 := Lib.hid hs1
  have hs2 : (sizeM most : Int) = if 4096 < s1 then 4096 else s1 := by rw [hs1]; unfold sizeM; (repeat' split) <;> omega
  obtain ⟨sz, hsz⟩ : ∃ sz, sz = sizeM most := ⟨_, rfl⟩
  rw [← hsz] at HCU hs2
  have HS2 := Lib.hid hs2
  have HSZ : Hid (1 ≤ sz ∧ sz ≤ 4096) := by rw [hsz]; exact sizeM_in most
  clear hs1 hs2 hsz
  go_upto_if 34 with fail
  go_cut [10] from 34 to 34 (fun v wx => v = .int .i64 s1 ∧ Hid (wx = w2))
  case first =>
    by_cases h : most < 1
    · have h1 : s1 = 1 := by rw [HS1.out, if_pos h]
      have H1 := Lib.hid h1
      clear h1
      go_wp2_with fail
      go_meet
      exact ⟨by rw [H1.out], rfl⟩
    · have h1 : s1 = most := by rw [HS1.out, if_neg h]
      have H1 := Lib.hid h1
      clear h1
      go_wp2_with fail
      go_meet
      exact ⟨by rw [H1.out], rfl⟩
  case rest =>
    obtain ⟨rfl, hwx⟩ := hcut
    have hwx : wc = w2 := hwx.out
    subst hwx
    go_upto_if 36 with fail
    go_cut [10] from 36 to 36 (fun v wx => v = .int .i64 (sz : Int) ∧ Hid (wx = wc))
    case first =>
      by_cases h : 4096 < s1
      · have h1 : (sz : Int) = 4096 := by rw [HS2.out, if_pos h]
        have H1 := Lib.hid h1
        clear h1
        go_wp2_with fail
        go_meet
        exact ⟨by rw [H1.out], rfl⟩
      · have h1 : (sz : Int) = s1 := by rw [HS2.out, if_neg h]
        have H1 := Lib.hid h1
        clear h1
        go_wp2_with fail
        go_meet
        exact ⟨by rw [H1.out], rfl⟩
    case rest =>
      obtain ⟨rfl, hwx⟩ := hcut
      have hwx := hwx.out
      subst hwx
      clear HS1 HS2
      have htx : (convert 30 9 (.slice A b.length c)).run Tryd.prog wc = .ok (.string (txb b)) wc := run_text (P := Tryd.prog) (c := c) Tryd.underlying30 Tryd.underlying5 Tryd.underlying9 (HRA.out.below HB2.out)
      have hgd := rgood_any (l := b) (by have := HBL.out; omega) wc
      have htxa : ∀ W, Below w.heap.size w W → (convert 30 9 (.slice A b.length c)).run Tryd.prog W = .ok (.string (txb b)) W := fun W hW => run_text (P := Tryd.prog) (c := c) Tryd.underlying30 Tryd.underlying5 Tryd.underlying9 (HRA.out.below hW)
      have HTA := Lib.hid htxa
      clear htxa
      generalize (goN ut0 (nats b)).1 = gn at *
      obtain ⟨q2, hq2⟩ : ∃ q2, q2 = txtB (nats b) := ⟨_, rfl⟩
      have HQ2 := Lib.hid hq2
      rw [← hq2] at hgd
      clear hq2
      obtain ⟨y, hy⟩ : ∃ y, y = txb b := ⟨_, rfl⟩
      have HYB := Lib.hid hy
      rw [← hy] at htx hgd HTA
      clear hy
      go_wp2_with fail
      refine hgd.mono ?_
      rintro e w3 ⟨rfl, hb3⟩
      have HB3 := Lib.hid (HB2.out.trans (hb3.mono HB2.out.size))
      have hlow : ∀ k, k < wc.heap.size → w3.heap[k]? = wc.heap[k]? := fun k hk => hb3.block k hk
      have HEL3 : Hid (RdS w3 (fun k => w.heap.size ≤ k ∧ k < wc.heap.size) A2 (enl Pe.cs L)) := RdS.keep HEL.out fun k hk => hlow k hk.2
      have HIN3 : Hid (∀ e ∈ L, RdS w3 (fun k => w.heap.size ≤ k ∧ k < wc.heap.size) e.A (byc e.p.dat)) := fun e he => RdS.keep (HIN.out e he) fun k hk => hlow k hk.2
      have HSZ3 : Hid (wc.heap.size ≤ w3.heap.size) := hb3.size
      clear hb3 hlow hgd htx HEL HIN HB2
      generalize wc.heap.size = hi at *
      obtain ⟨q1, hq1⟩ : ∃ q1, q1 = decide (b.length ≤ 4096) := ⟨_, rfl⟩
      have hd3 : decide ((b.length : Int) ≤ 4096) = q1 := by rw [hq1, decide_eq_decide]; omega
      have hd4 : decide (b.length ≤ 4096) = q1 := hq1.symm
      have HQ1 := Lib.hid hq1
      clear hq1
      go_upto_region 10 with fail
      go_cut [13] from 43 to 52 (fun v wx => v = .bool (q1 && (!text || q2)) ∧ Hid (wx = w3))
      case first =>
        clear HQ1 HQ2
        cases q1
        · go_wp2_with fail
          go_meet
          exact ⟨rfl, rfl⟩
        · cases text
          · go_wp2_with fail
            go_meet
            exact ⟨rfl, rfl⟩
          · go_wp2_with fail
            go_meet
            exact ⟨rfl, rfl⟩
      case rest =>
        obtain ⟨rfl, hwx⟩ := hcut
        have hwx := hwx.out
        subst hwx
        clear hd3 hd4
        obtain ⟨R, hR⟩ : ∃ R, R = (q1 && (!text || q2)) := ⟨_, rfl⟩
        rw [← hR]
        have HRM : Hid (R = true → RightM text b) := fun h => by
          rw [hR, HQ1.out, HQ2.out] at h
          simp only [Bool.and_eq_true, Bool.or_eq_true, Bool.not_eq_true', decide_eq_true_eq] at h
          exact ⟨h.1, fun ht => by rcases h.2 with h2 | h2; · rw [ht] at h2; cases h2
                                   · exact h2⟩
        clear hR HQ1 HQ2
        go_wp2_with fail
        refine (mnew_any _ (HG.out.below HB3.out)).mono ?_
        rintro e w4 ⟨rfl, hmg, hb⟩
        have hgx := GX.start HB3.out hmg hb HG.out
        have HLP : Hid (LP w wc.heap.size w.heap.size hi A2 L gg0 w4) :=
          ⟨hgx.sub fun k _ hk => Nat.lt_of_lt_of_le hk.2 HSZ3.out, RdS.keep HEL3.out fun k hk => hb.block k (Nat.lt_of_lt_of_le hk.2 HSZ3.out), fun e he => RdS.keep (HIN3.out e he) fun k hk => hb.block k (Nat.lt_of_lt_of_le hk.2 HSZ3.out), Nat.le_trans HSZ3.out hb.size, HOK.out⟩
        clear hmg hb hgx HEL3 HIN3 HSZ3 HB3 HOK
        generalize wc.heap.size = g at *
        have HLN : Hid ((L.map Pe.key3).length = L.length) := List.length_map ..
        have hcnt := HCU.out.count HSZ.out.1
        have HCN : Hid (L.length ≤ 9001) := by show _ ≤ _; rw [HLN.out] at hcnt; have := HBL.out; omega
        have HPOS : Hid (0 < L.length) := by show _ < _; rw [← HLN.out]; exact HCU.out.cat.2
        have HEND : Hid (catM ((L.map Pe.key3).take L.length) = b) := by show _ = _; rw [← HLN.out, List.take_length]; exact HCU.out.cat.1
        have HLE : Hid (∀ j, (catM ((L.map Pe.key3).take j)).length ≤ 9000) := fun j => by
          have h1 := catM_take_le (L.map Pe.key3) j
          rw [HCU.out.cat.1] at h1
          have := HBL.out
          omega
        have HST : Hid (∀ j (hj : j < L.length), L[j].p.op = (if j = 0 then opcM text else 0) ∧ L[j].p.fin = decide (j + 1 = L.length) ∧ L[j].p.dat.length ≤ sz ∧ (j + 1 < L.length → L[j].p.dat.length = sz) ∧ (j + 1 = L.length → 0 < j → ¬ L[j].p.dat.length = 0) ∧ catM ((L.map Pe.key3).take (j + 1)) = catM ((L.map Pe.key3).take j) ++ L[j].p.dat ∧
            (R = true → takeM (stR (L.map Pe.key3) text j) L[j].p.op L[j].p.fin L[j].p.dat = (stR (L.map Pe.key3) text (j + 1), if j + 1 = L.length then some ⟨1, text, 0, b⟩ else none))) := fun j hj => by
          have hj' : j < (L.map Pe.key3).length := by rw [HLN.out]; exact hj
          obtain ⟨h1, h2, h3, h4, h5⟩ := HCU.out.get j hj'
          have h6 := catM_snoc (L.map Pe.key3) hj'
          have h7 := fun h : R = true => right_step HCU.out (HRM.out h) hj'
          rw [HLN.out] at h2 h4 h5 h7
          simp only [List.getElem_map] at h1 h2 h3 h4 h5 h6 h7
          exact ⟨h1, h2, h3, h4, fun ha hb h0 => h5 ha hb (List.eq_nil_of_length_eq_zero h0), h6, h7⟩
        have HS0 : Hid ((if R = true then stR (L.map Pe.key3) text 0 else gg0) = gg0) := by show _ = _; split <;> rfl
        have HOK : Hid (∀ e ∈ L, PeN e) := HLP.out.ok
        rw [← HS0.out] at HLP
        clear HCU hcnt HRM HSZ HS0
        generalize L.map Pe.key3 = l at *
        go_upto_region 14 with fail
        go_loopw [56, 15] (fun i s wr => ∃ j : Nat, j ≤ L.length ∧ i = .int .i64 j ∧ s = .string (txb (catM (l.take j))) ∧ Hid (LP w g w.heap.size hi A2 L (if R = true then stR l text j else gg0) wr)) (fun i _ _ => L.length - (intOf i).toNat)
        case atStart => exact ⟨0, Nat.zero_le _, rfl, rfl, HLP⟩
        case round =>
          clear HLP
          obtain ⟨j, hj, rfl, rfl, HLP⟩ := hrel
          by_cases hlt : j < L.length
          · have hjn : (j : Int) < (L.length : Int) := by omega
            obtain ⟨bb, q, rfl, hbb, hr⟩ := HLP.out.at_ hlt
            obtain ⟨s1', s2', s3', s4', s5', s6', s7'⟩ := HST.out j hlt
            have hok := HOK.out _ (List.getElem_mem hlt)
            have hle := HLE.out (j + 1)
            have hle0 := HLE.out j
            have hdat : RdB wr hi L[j].A L[j].p.dat := RdB.ofS (HLP.out.ins _ (List.getElem_mem hlt)) fun k hk _ => hk.2
            have htk : ∀ W x, LP w g w.heap.size hi (some ⟨bb, q, none⟩) L x W → Calls Tryd.prog 12 #[.pointer (some ⟨g, 0, none⟩), .agg (pcA L[j].p L[j].A L[j].c)] W (TakeL w g w.heap.size hi (some ⟨bb, q, none⟩) L W (takeM x L[j].p.op L[j].p.fin L[j].p.dat)) := fun W x hW => hW.take hlt (by rw [s6', List.length_append] at hle; omega)
            obtain ⟨e, he⟩ : ∃ e, e = L[j] := ⟨_, rfl⟩
            rw [← he] at hr s1' s2' s3' s4' s5' s6' s7' hok hdat htk
            have HTK := Lib.hid htk
            have HJL := Lib.hid hlt
            obtain ⟨hp1, hp2, hp3⟩ := pieceM wr (pcA e.p e.A e.c)
            have HP1 := Lib.hid hp1
            have HP4 := Lib.hid hp2
            have HL4 := Lib.hid (HLP.out.below hp3)
            have HD4 := Lib.hid (hdat.below (hp3.mono HLP.out.top))
            have hw1 : IntKind.i64.wrap ((j : Int) + 1) = (j : Int) + 1 := IntWalk.i64_in _ (by have := HCN.out; omega)
            have hw2 : IntKind.i64.wrap ((L.length : Int) - 1) = (L.length : Int) - 1 := IntWalk.i64_in _ (by have := HCN.out; omega)
            obtain ⟨la, hla⟩ : ∃ la, la = decide (j + 1 = L.length) := ⟨_, rfl⟩
            have hlast : ((j : Int) == (L.length : Int) - 1) = la := by
              rw [hla]
              by_cases h : j + 1 = L.length
              · rw [decide_eq_true h]; exact beq_iff_eq.2 (by omega)
              · rw [decide_eq_false h]; exact beq_eq_false_iff_ne.2 (by omega)
            rw [← hla] at s2'
            have HLA := Lib.hid hla
            have HS := Lib.hid (And.intro s1' (And.intro s2' (And.intro s3' (And.intro s4' (And.intro s5' (And.intro s6' (And.intro s7' hok)))))))
            have HLL := Lib.hid (And.intro hle hle0)
            clear hp1 hp2 hp3 he htk hbb HLP hlt s1' s2' s3' s4' s5' s6' s7' hok hle hle0 hdat hla
            go_upto_region 16 with (first
              | (refine wpList_ldm rfl _ rfl rfl hr (pcA_ok _ _ _) ?_)
              | (refine wpList_sw (cs := pcA e.p e.A e.c) rfl _ _ rfl rfl rfl HP1.out rfl (pcA_ok _ _ _) ?_))
            rw [zp_eq]
            clear HP1 hr
            generalize (wr.alloc (.cells zpJ 32)).setRow wr.heap.size (pcA e.p e.A e.c) = w5 at *
            generalize wr.heap.size = p17 at *
            go_upto_if 66 with fail
            clear hlast hw2
            go_cut [19] from 66 to 66 (fun v wx => v = .int .u8 (opcM text : Int) ∧ Hid (wx = w5))
            case first =>
              cases text
              · go_wp2_with fail
                go_meet
                exact ⟨rfl, rfl⟩
              · go_wp2_with fail
                go_meet
                exact ⟨rfl, rfl⟩
            case rest =>
              obtain ⟨rfl, hwx⟩ := hcut
              have hwx := hwx.out
              subst hwx
              go_upto_if 68 with fail
              go_cut [19] from 67 to 68 (fun v wx => v = .int .u8 (e.p.op : Int) ∧ Hid (wx = wc))
              case first =>
                by_cases h0 : 0 < j
                · have d0 : decide ((0 : Int) < (j : Int)) = true := decide_eq_true (by omega)
                  have d0' : decide (0 < j) = true := decide_eq_true h0
                  have H0 : Hid (e.p.op = 0) := by show _ = _; rw [HS.out.1, if_neg (by omega)]
                  go_wp2_with fail
                  go_meet
                  exact ⟨by rw [H0.out]; rfl, rfl⟩
                · have d0 : decide ((0 : Int) < (j : Int)) = false := decide_eq_false (by omega)
                  have d0' : decide (0 < j) = false := decide_eq_false h0
                  have H0 : Hid (e.p.op = opcM text) := by show _ = _; rw [HS.out.1, if_pos (by omega)]
                  go_wp2_with fail
                  go_meet
                  exact ⟨by rw [H0.out], rfl⟩
              case rest =>
                obtain ⟨rfl, hwx⟩ := hcut
                have hwx := hwx.out
                subst hwx
                obtain ⟨hok1, hok2, _⟩ := HS.out.2.2.2.2.2.2.2
                have p0 : wc.cell? ⟨p17, 0, none⟩ = some (.bool la) := by rw [← HS.out.2.1]; exact (pc_cells HP4.out).1
                have p1 : wc.cell? ⟨p17, 1, none⟩ = some (.int .u8 (e.p.op : Int)) := (pc_cells HP4.out).2.1
                have p2 : wc.cell? ⟨p17, 2, none⟩ = some (.bool false) := by rw [← hok1]; exact (pc_cells HP4.out).2.2.1
                have p3 : wc.cell? ⟨p17, 3, none⟩ = some (.int .u32 0) := by
                  have h := (pc_cells HP4.out).2.2.2.1
                  rw [hok2] at h
                  exact h
                have p4 : wc.cell? ⟨p17, 4, none⟩ = some (.slice e.A e.p.dat.length e.c) := (pc_cells HP4.out).2.2.2.2
                obtain ⟨dl, hdl⟩ : ∃ dl, dl = e.p.dat.length := ⟨_, rfl⟩
                rw [← hdl] at p4
                have HDL := Lib.hid hdl
                obtain ⟨op, hop⟩ : ∃ op, op = e.p.op := ⟨_, rfl⟩
                rw [← hop] at p1 ⊢
                have hx1 : ((op : Int) != (op : Int)) = false := by simp
                have hx2 : (la != la) = false := by simp
                have hx3 : decide ((sz : Int) < (dl : Int)) = false := decide_eq_false (by have := HS.out.2.2.1; omega)
                have hx3' : decide (sz < dl) = false := decide_eq_false (by have := HS.out.2.2.1; omega)
                clear hok1 hok2 hdl hop
                go_upto_region 22 with fail
                go_cut [118] from 69 to 118 (fun v wx => v = .bool false ∧ Hid (wx = wc))
                case first =>
                  by_cases hl1 : j + 1 = L.length
                  · have hla : la = true := by rw [HLA.out]; exact decide_eq_true hl1
                    subst hla
                    by_cases h0 : 0 < j
                    · have d0 : decide ((0 : Int) < (j : Int)) = true := decide_eq_true (by omega)
                      have d0' : decide (0 < j) = true := decide_eq_true h0
                      have hnz : ¬ dl = 0 := by rw [HDL.out]; exact HS.out.2.2.2.2.1 hl1 h0
                      have hz : ((dl : Int) == 0) = false := beq_eq_false_iff_ne.2 (by omega)
                      clear hnz
                      clear HLA hl1
                      go_wp2_with fail
                      go_meet
                      exact ⟨rfl, rfl⟩
                    · have d0 : decide ((0 : Int) < (j : Int)) = false := decide_eq_false (by omega)
                      have d0' : decide (0 < j) = false := decide_eq_false h0
                      clear HLA hl1
                      go_wp2_with fail
                      go_meet
                      exact ⟨rfl, rfl⟩
                  · have hla : la = false := by rw [HLA.out]; exact decide_eq_false hl1
                    subst hla
                    have hdz : dl = sz := by rw [HDL.out]; exact HS.out.2.2.2.1 (by have := HJL.out; omega)
                    subst hdz
                    have hz : ((dl : Int) != (dl : Int)) = false := by simp
                    clear HLA hl1
                    go_wp2_with fail
                    go_meet
                    exact ⟨rfl, rfl⟩
                case rest =>
                  obtain ⟨rfl, hwx⟩ := hcut
                  have hwx := hwx.out
                  subst hwx
                  clear p0 p1 p2 p3 hx1 hx2 hx3 hx3'
                  have htx4 : (convert 30 9 (.slice e.A dl e.c)).run Tryd.prog wc = .ok (.string (txb e.p.dat)) wc := by
                    have h := run_text (P := Tryd.prog) (c := e.c) Tryd.underlying30 Tryd.underlying5 Tryd.underlying9 HD4.out
                    rw [← HDL.out] at h
                    exact h
                  have hadd := txb_add (catM (l.take j)) e.p.dat (by have := HLL.out; omega) (by have := HS.out.2.2.1; have := HLL.out; have h6 := congrArg List.length HS.out.2.2.2.2.2.1; rw [List.length_append] at h6; omega)
                  rw [← HS.out.2.2.2.2.2.1] at hadd
                  obtain ⟨y1, hy1⟩ : ∃ y1, y1 = txb (catM (l.take j)) := ⟨_, rfl⟩
                  obtain ⟨y2, hy2⟩ : ∃ y2, y2 = txb e.p.dat := ⟨_, rfl⟩
                  obtain ⟨y3, hy3⟩ : ∃ y3, y3 = txb (catM (l.take (j + 1))) := ⟨_, rfl⟩
                  rw [← hy1, ← hy2, ← hy3] at hadd
                  rw [← hy2] at htx4
                  rw [← hy1]
                  have HY3 := Lib.hid hy3
                  clear hy1 hy2 hy3
                  by_cases hR : R = true
                  · have HLR : Hid (LP w g w.heap.size hi (some ⟨bb, q, none⟩) L (stR l text j) wc) := by
                      have h := HL4.out
                      rw [if_pos hR] at h
                      exact h
                    have HRR := Lib.hid hR
                    go_upto_region 26 with fail
                    clear htx4 hadd p4 hR HL4 HD4
                    go_cut [134] from 126 to 134 (fun v wx => ∃ qv : Bool, v = .bool qv ∧ Hid (wx = wc))
                    case first =>
                      by_cases hp0 : 0 < pings
                      · have d0 : decide ((0 : Int) < (pings : Int)) = true := decide_eq_true (by omega)
                        have d0' : decide (0 < pings) = true := decide_eq_true hp0
                        obtain ⟨r, hr⟩ : ∃ r, r = j % pings := ⟨_, rfl⟩
                        have e1 : (j : Int).tmod (pings : Int) = (r : Int) := by rw [hr]; rfl
                        have e2 : (j : Int) % (pings : Int) = (r : Int) := by rw [hr]; rfl
                        have e3 : ((r : Int) == 0) = decide (r = 0) := by
                          by_cases h : r = 0
                          · rw [decide_eq_true h]; exact beq_iff_eq.2 (by omega)
                          · rw [decide_eq_false h]; exact beq_eq_false_iff_ne.2 (by omega)
                        have e4 : ¬ (pings : Int) = 0 := by omega
                        clear hr
                        generalize decide (r = 0) = z at *
                        go_wp2_with fail
                        go_meet
                        exact ⟨z, rfl, rfl⟩
                      · have d0 : decide ((0 : Int) < (pings : Int)) = false := decide_eq_false (by omega)
                        have d0' : decide (0 < pings) = false := decide_eq_false hp0
                        go_wp2_with fail
                        go_meet
                        exact ⟨false, rfl, rfl⟩
                    case rest =>
                      obtain ⟨qv, rfl, hwx⟩ := hcut
                      have hwx := hwx.out
                      subst hwx
                      go_upto_if 134 with fail
                      go_cut [20, 21] from 135 to 155 (fun _ _ wx => Hid (LP w g w.heap.size hi (some ⟨bb, q, none⟩) L (stR l text j) wx) ∧ Hid (Row wx p17 32 (pcA e.p e.A e.c)))
                      case first =>
                        cases qv
                        · go_wp2_with fail
                          go_meet
                          exact ⟨HLR, HP4⟩
                        · have hcv : (convert 30 30 (.slice (some ⟨wc.heap.size, 0, none⟩) 1 1)).run Tryd.prog (wc.alloc (.cells #[.int .u8 120] 5)) = .ok (.slice (some ⟨wc.heap.size, 0, none⟩) 1 1) (wc.alloc (.cells xC 5 (1, 2))) :=
                            Lib.run_convert_bytes_const (P := Tryd.prog) wc 30 5 _ 1 1 Tryd.underlying30 Tryd.underlying5
                          have hbx : Below wc.heap.size wc (wc.alloc (.cells xC 5 (1, 2))) := (Below.refl _ _).alloc (Nat.le_refl _) _
                          have hso : (stR l text j).over = false := by unfold stR; split <;> rfl
                          have htkx := HLR.out.other hbx (fin := true) (mask := false) (op := 9) (key := 0) (c := 1) (x_rd wc) (by simp) (by simp)
                          rw [take_ping hso (.inl rfl)] at htkx
                          have HP5 := Lib.hid (HP4.out.upM hbx)
                          clear hso hbx HLR HP4
                          go_wp2_with fail
                          clear hcv
                          generalize wc.alloc (.cells xC 5 (1, 2)) = w6 at *
                          generalize wc.heap.size = px at *
                          refine htkx.mono ?_
                          rintro e6 w7 ⟨A7, c7, rfl, hrd, hlp, hodd⟩
                          obtain ⟨hn1, hn2, hn3⟩ := noteM w7 (ntc 2 false A7 1 c7 0)
                          have HN1 := Lib.hid hn1
                          have HN6 : Hid (Row _ w7.heap.size 34 (ntc 2 false A7 1 c7 0)) := Lib.hid hn2
                          have HP6 := Lib.hid ((hodd _ _ _ HP5.out (by decide) (by decide) (by decide)).upM hn3)
                          have HL6 := Lib.hid (hlp.below hn3)
                          have HRD6 : Hid (RdB _ w7.heap.size A7 [120]) := hrd.below hn3
                          clear hn1 hn2 hn3 hlp hodd hrd HP5 htkx
                          go_upto_region 28 with (refine wpList_sw (cs := ntc 2 false A7 1 c7 0) rfl _ _ rfl rfl rfl HN1.out rfl (nt_ok _ _ _ _ _ _) ?_)
                          rw [nt0_eq]
                          clear HN1
                          generalize (w7.alloc (.cells (ntc 0 false none 0 0 0) 34)).setRow w7.heap.size (ntc 2 false A7 1 c7 0) = w8 at *
                          generalize w7.heap.size = p20 at *
                          have c0 : w8.cell? ⟨p20, 0, none⟩ = some (.int .u8 2) := (nt_cells HN6.out).1
                          have c2' : w8.cell? ⟨p20, 2, none⟩ = some (.slice A7 1 c7) := (nt_cells HN6.out).2.2.1
                          have htx8 : (convert 30 9 (.slice A7 1 c7)).run Tryd.prog w8 = .ok (.string ⟨#[120]⟩) w8 := run_text (P := Tryd.prog) (c := c7) Tryd.underlying30 Tryd.underlying5 Tryd.underlying9 HRD6.out
                          go_wp2_with fail
                          go_meet
                          exact ⟨HL6, HP6⟩
                      case rest =>
                        obtain ⟨HLR, HP4⟩ := hcut
                        have htk := HTK.out _ _ HLR.out
                        rw [HS.out.2.2.2.2.2.2.1 HRR.out] at htk
                        have HPC : Hid (∀ x, LP w g w.heap.size hi (some ⟨bb, q, none⟩) L (stR l text (j + 1)) x → LP w g w.heap.size hi (some ⟨bb, q, none⟩) L (if R = true then stR l text (j + 1) else gg0) x) := fun x hx => by rw [if_pos HRR.out]; exact hx
                        have hx2 : (la != la) = false := by simp
                        have hxt : (text != text) = false := by simp
                        have hyy : (y.toList == y.toList) = true := by simp
                        clear HTK HLR
                        go_wp2_with (refine wpList_ld (cs := pcA e.p e.A e.c) rfl _ rfl rfl HP4.out (pcA_ok _ _ _) ?_)
                        refine htk.mono ?_
                        clear htk
                        by_cases hl1 : j + 1 = L.length
                        · have hla : la = true := by rw [HLA.out]; exact decide_eq_true hl1
                          subst hla
                          rw [if_pos hl1]
                          rintro e6 w7 ⟨A7, c7, rfl, hrd, hlp, hodd⟩
                          obtain ⟨hn1, hn2, hn3⟩ := noteM w7 (ntc 1 text A7 b.length c7 0)
                          have HN1 := Lib.hid hn1
                          have HN6 : Hid (Row _ w7.heap.size 34 (ntc 1 text A7 b.length c7 0)) := Lib.hid hn2
                          have HL6 := Lib.hid (hlp.below hn3)
                          have HRD6 : Hid (RdB _ w7.heap.size A7 b) := hrd.below hn3
                          clear hn1 hn2 hn3 hlp hodd hrd HP4 hl1 HLA
                          go_upto_region 31 with (refine wpList_sw (cs := ntc 1 text A7 b.length c7 0) rfl _ _ rfl rfl rfl HN1.out rfl (nt_ok _ _ _ _ _ _) ?_)
                          rw [nt0_eq]
                          clear HN1
                          generalize (w7.alloc (.cells (ntc 0 false none 0 0 0) 34)).setRow w7.heap.size (ntc 1 text A7 b.length c7 0) = w8 at *
                          generalize w7.heap.size = p22 at *
                          have c0 : w8.cell? ⟨p22, 0, none⟩ = some (.int .u8 1) := (nt_cells HN6.out).1
                          have c1 : w8.cell? ⟨p22, 1, none⟩ = some (.bool text) := (nt_cells HN6.out).2.1
                          have c2' : w8.cell? ⟨p22, 2, none⟩ = some (.slice A7 b.length c7) := (nt_cells HN6.out).2.2.1
                          have htx8 : (convert 30 9 (.slice A7 b.length c7)).run Tryd.prog w8 = .ok (.string y) w8 := by
                            rw [HYB.out]
                            exact run_text (P := Tryd.prog) (c := c7) Tryd.underlying30 Tryd.underlying5 Tryd.underlying9 HRD6.out
                          have hta := HTA.out w8 HL6.out.gx.bl
                          go_wp2_with fail
                          go_roundw
                          case rel => exact ⟨j + 1, by have := HJL.out; omega, by go_num, by rw [HY3.out], HPC.out _ HL6.out⟩
                          case measure => have := HJL.out; simp [intOf]; omega
                        · have hla : la = false := by rw [HLA.out]; exact decide_eq_false hl1
                          subst hla
                          rw [if_neg hl1]
                          rintro e6 w7 ⟨A7, c7, rfl, _, hlp, hodd⟩
                          obtain ⟨hn1, hn2, hn3⟩ := noteM w7 (ntc 0 false A7 0 c7 0)
                          have HN1 := Lib.hid hn1
                          have HL6 := Lib.hid (hlp.below hn3)
                          clear hn1 hn2 hn3 hlp hodd HP4 hl1 HLA
                          go_upto_region 31 with (refine wpList_sw (cs := ntc 0 false A7 0 c7 0) rfl _ _ rfl rfl rfl HN1.out rfl (nt_ok _ _ _ _ _ _) ?_)
                          rw [nt0_eq]
                          clear HN1
                          generalize (w7.alloc (.cells (ntc 0 false none 0 0 0) 34)).setRow w7.heap.size (ntc 0 false A7 0 c7 0) = w8 at *
                          generalize w7.heap.size = p22 at *
                          go_wp2_with fail
                          go_roundw
                          case rel => exact ⟨j + 1, by have := HJL.out; omega, by go_num, by rw [HY3.out], HPC.out _ HL6.out⟩
                          case measure => have := HJL.out; simp [intOf]; omega
                  · have hR0 : R = false := by simpa using hR
                    have HLR : Hid (LP w g w.heap.size hi (some ⟨bb, q, none⟩) L (if R = true then stR l text (j + 1) else gg0) wc) := by
                      have h := HL4.out
                      rw [if_neg hR] at h
                      rw [if_neg hR]
                      exact h
                    clear HL4 hR
                    go_wp2_with fail
                    go_roundw
                    case rel => exact ⟨j + 1, by have := HJL.out; omega, by go_num, by rw [HY3.out], HLR⟩
                    case measure => have := HJL.out; simp [intOf]; omega
          · obtain rfl : j = L.length := by omega
            have hfx := fixed18_any wr HLP.out.gx.gl
            have hy1 : txb (catM (l.take L.length)) = y := by rw [HEND.out, HYB.out]
            have hp1 : decide ((0 : Int) < (L.length : Int)) = true := decide_eq_true (by have := HPOS.out; omega)
            have hp1' : decide (0 < L.length) = true := decide_eq_true HPOS.out
            rw [hy1]
            clear hy1
            go_wp2_with fail
            refine hfx.mono ?_
            rintro e5 w5 ⟨rfl, hb⟩
            have HBL5 := Lib.hid (HLP.out.gx.below hb).bl
            have hta := HTA.out w5 HBL5.out
            clear hb hfx HLP
            go_wp2_with fail
            go_ret
            exact ⟨rfl, HBL5.out⟩
theorem mwcuts_law {text : Bool} {A : Option Addr} {b : List UInt8} {c : Nat} {most : Int} {pings : Nat} {w : World} (hra : RdB w w.heap.size A b) (hca : b.length ≤ c) (hp : pings < 256) (hG : GlobE w) :
    Calls Tryd.prog 4 #[.bool text, .slice A b.length c, .int .i64 most, .int .u8 (pings : Int)] w fun e w' => e = .returned (.bool true) ∧ Below w.heap.size w w' := by
  rcases Nat.lt_or_ge 9000 b.length with h | h
  · exact mwcuts_big hG h
  · exact mwcuts_small hra hca hp hG h
end Go.Proofs.YtdegpchofhnipaaDoor
