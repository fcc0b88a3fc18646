/-
  WssplitFrames: the law's walk. Conditions: the arguments are read; errors.errorType holds what the program's text lays.
-/
import Derived.Test.YtejlbgllfkfkfaaDoorJwt
import Derived.Test.YtejlbgllfkfkfaaDoorIrm
import Derived.Test.YtejlbgllfkfkfaaDoorIrp
namespace Go.Proofs.YtejlbgllfkfkfaaDoor
open Go.RowKit Go.WideShapes

set_option maxRecDepth 100000 in
set_option maxHeartbeats 2000000 in
theorem jwframes_big {na nz ca cz : Nat} {A Z : Option Addr} {m : Bool} {w : World} (hG : GlobE w) (hbig : 30 < na ∨ 3000 < nz) :
    Calls Tryd.prog 4 #[.slice A na ca, .bool m, .slice Z nz cz] w fun e w' => e = .returned (.bool true) ∧ Below w.heap.size w w' := by
  have hfx := fixed17_any w hG
  by_cases h1 : 30 < na
  · have hd1 : decide ((30 : Int) < (na : Int)) = true := decide_eq_true (by omega)
    go_enter Tryd.func4, Tryd.ntmps4
    go_wp2_with fail
    refine hfx.mono ?_
    rintro e w1 ⟨rfl, hb1⟩
    go_wp2_with fail
    go_ret
    exact ⟨rfl, hb1⟩
  · have hd1 : decide ((30 : Int) < (na : Int)) = false := decide_eq_false (by omega)
    have hd2 : decide ((3000 : Int) < (nz : Int)) = true := decide_eq_true (by omega)
    go_enter Tryd.func4, Tryd.ntmps4
    go_wp2_with fail
    refine hfx.mono ?_
    rintro e w1 ⟨rfl, hb1⟩
    go_wp2_with fail
    go_ret
    exact ⟨rfl, hb1⟩
theorem put_smallJ {p : Pc} (h : p.May) : p.put.length ≤ 9000 := by
  have hn : p.dat.length ≤ 4096 := h.2.2.1
  rw [put_length hn]
  have : frontI p.mask p.dat.length ≤ 14 := by
    unfold frontI four4 behindN
    repeat' split
    all_goals omega
  omega
theorem putsJ_len : ∀ (l : List Pc), (∀ p ∈ l, p.May) → (putsJ l).length ≤ 9000 * l.length := by
  intro l
  induction l with
  | nil => exact fun _ => by simp [putsJ]
  | cons p l ih =>
    intro h
    have h1 := put_smallJ (h p (by simp))
    have h2 := ih fun q hq => h q (by simp [hq])
    have e : putsJ (p :: l) = p.put ++ putsJ l := by unfold putsJ; rw [List.flatMap_cons]
    rw [e, List.length_append, List.length_cons]
    omega
theorem fd_drop {rest : List UInt8} {n k : Nat} (h : k ≤ n) (hn : n ≤ rest.length) : (rest.take n).drop k ++ rest.drop n = rest.drop k := by
  have h1 := List.drop_append_of_le_length (l₁ := rest.take n) (l₂ := rest.drop n) (i := k) (by rw [List.length_take]; omega)
  rw [List.take_append_drop] at h1
  exact h1.symm
theorem fd_take {rest : List UInt8} {n k : Nat} (h : k ≤ n) : (rest.take n).take k = rest.take k := by
  rw [List.take_take, Nat.min_eq_left h]
theorem putsJ_snoc (l : List Pc) (p : Pc) : putsJ (l ++ [p]) = putsJ l ++ p.put := by unfold putsJ; simp
set_option maxRecDepth 100000 in
set_option maxHeartbeats 16000000 in
theorem jwframes_small {L : List Pe} {zs : List UInt8} {ca cz : Nat} {A Z : Option Addr} {m : Bool} {w : World} (hA : RdS w (· < w.heap.size) A (enl Pe.cs L)) (hE : ∀ e ∈ L, e.p.op < 256 ∧ e.p.key < 4294967296 ∧ RdS w (· < w.heap.size) e.A (byc e.p.dat)) (hrz : RdB w w.heap.size Z zs) (hG : GlobE w) (hll : L.length ≤ 30) (hzl : zs.length ≤ 3000) :
    Calls Tryd.prog 4 #[.slice A L.length ca, .bool m, .slice Z zs.length cz] w fun e w' => e = .returned (.bool true) ∧ Below w.heap.size w w' := by
  have hd0 : decide ((30 : Int) < (L.length : Int)) = false := decide_eq_false (by omega)
  have hd1 : decide ((3000 : Int) < (zs.length : Int)) = false := decide_eq_false (by omega)
  have HA := Lib.hid hA
  have HE := Lib.hid hE
  have HRZ := Lib.hid hrz
  have HG := Lib.hid hG
  have HLL := Lib.hid hll
  clear hA hE hrz hG
  go_enter Tryd.func4, Tryd.ntmps4
  go_upto_region 5 with fail
  clear hd0 hd1
  go_loopw [7, 29] (fun s i wr => ∃ k : Nat, i = .int .i64 k ∧ k ≤ L.length ∧ s = .string (txb (putsJ ((L.map Pe.p).take k))) ∧ Hid (∀ e ∈ L.take k, e.p.May ∧ e.p.mask = m) ∧ Hid (Below w.heap.size w wr)) (fun s i wr => L.length - (intOf i).toNat)
  case atStart => exact ⟨0, rfl, Nat.zero_le _, rfl, (fun e he => (by simp at he)), Below.refl _ _⟩
  case round =>
    obtain ⟨k, rfl, hk, rfl, HP, HB⟩ := hrel
    by_cases hlt : k < L.length
    · obtain ⟨gx, px, rfl, hgx, hrx⟩ := pe_at HA.out hlt
      have hex := HE.out _ (List.getElem_mem hlt)
      have htk : L.take (k + 1) = L.take k ++ [L[k]] := List.take_succ_eq_append_getElem hlt
      have HTK := Lib.hid htk
      have hr1 : wr.rangeAt gx (px + k * 5) (pcA L[k].p L[k].A L[k].c).toList := fun j v hv => (HB.out.cell (p := ⟨gx, px + k * 5 + j, none⟩) hgx).trans (hrx j v hv)
      have hkn : (k : Int) < (L.length : Int) := by omega
      have hwk : IntKind.i64.wrap ((k : Int) + 1) = (k : Int) + 1 := IntWalk.i64_in _ (by omega)
      clear htk hrx
      generalize L[k] = e at *
      have HEX := Lib.hid hex
      have HR1 := Lib.hid hr1
      have HQ : Hid (Row (wr.alloc (.cells #[.bool false, .int .u8 0, .bool false, .int .u32 0, .slice none 0 0] 31)) wr.heap.size 31 zpJ) := Row.new wr _ _
      have hba : Below wr.heap.size wr (wr.alloc (.cells #[.bool false, .int .u8 0, .bool false, .int .u32 0, .slice none 0 0] 31)) := (Below.refl _ _).alloc (Nat.le_refl _) _
      have HQ5 := Lib.hid (HQ.out.setRow (pcA e.p e.A e.c))
      have HB5 := Lib.hid (HB.out.trans ((below_setRow hba wr.heap.size (pcA e.p e.A e.c) (Nat.le_refl _)).mono HB.out.size))
      clear hex hr1 hba HB
      go_upto_region 7 with (first
        | (refine wpList_ldm rfl _ rfl rfl HR1.out (pcA_ok _ _ _) ?_)
        | (refine wpList_sw (cs := pcA e.p e.A e.c) rfl _ _ rfl rfl rfl HQ.out rfl (pcA_ok _ _ _) ?_))
      clear HQ HR1
      generalize (wr.alloc (.cells #[.bool false, .int .u8 0, .bool false, .int .u32 0, .slice none 0 0] 31)).setRow wr.heap.size (pcA e.p e.A e.c) = w5 at *
      generalize wr.heap.size = p9 at *
      have hmay := rmayI_any e.p.fin e.p.op e.p.mask e.p.key e.A e.p.dat.length e.c w5
      have c2 : w5.cell? ⟨p9, 2, none⟩ = some (.bool e.p.mask) := HQ5.out.cell rfl
      go_wp2_with (refine wpList_ld rfl _ rfl rfl HQ5.out (pcA_ok _ _ _) ?_)
      refine hmay.mono ?_
      rintro e6 w7 ⟨rfl, hb7⟩
      have HQ7 := Lib.hid (HQ5.out.below hb7 HQ5.out.lt)
      have HB7 := Lib.hid (HB5.out.trans (hb7.mono HB5.out.size))
      have c2 : w7.cell? ⟨p9, 2, none⟩ = some (.bool e.p.mask) := HQ7.out.cell rfl
      clear hb7 HQ5 HB5 hmay
      by_cases hm1 : MayI e.p.fin e.p.op e.p.mask e.p.key e.p.dat.length
      rotate_left
      · rw [decide_eq_false hm1]
        clear hm1
        have hfx := fixed17_any w7 (HG.out.below HB7.out)
        clear HQ7
        go_wp2_with fail
        refine hfx.mono ?_
        rintro e9 w9 ⟨rfl, hb9⟩
        have HB9 := Lib.hid (HB7.out.trans (hb9.mono HB7.out.size))
        clear hb9 hfx
        go_wp2_with fail
        go_ret
        exact ⟨rfl, HB9.out⟩
      rw [decide_eq_true hm1]
      have HM1 : Hid (e.p.May) := hm1
      by_cases hm2 : e.p.mask = m
      rotate_left
      · have hne : e.p.mask = !m := by revert hm2; cases e.p.mask <;> cases m <;> simp
        rw [hne] at c2
        clear hm1 hm2 hne
        cases m
        all_goals
          have hfx := fixed17_any w7 (HG.out.below HB7.out)
          clear HQ7
          go_wp2_with fail
          refine hfx.mono ?_
          rintro e9 w9 ⟨rfl, hb9⟩
          have HB9 := Lib.hid (HB7.out.trans (hb9.mono HB7.out.size))
          clear hb9 hfx
          go_wp2_with fail
          go_ret
          exact ⟨rfl, HB9.out⟩
      rw [hm2] at c2
      have HM2 : Hid (e.p.mask = m) := hm2
      clear hm1 hm2
      have hput := rputI_any e.p HM1.out HEX.out.2.1 (A := e.A) (c := e.c) (w := w7) (RdB.ofS (HEX.out.2.2.keep fun k hk => HB7.out.block k hk) fun k h _ => h) HB7.out.size
      have hpl := put_smallJ HM1.out
      have hpl2 := putsJ_len ((L.map Pe.p).take k) (fun p hp => by
        rw [← List.map_take] at hp
        obtain ⟨x, hx, rfl⟩ := List.mem_map.1 hp
        exact (HP.out x hx).1)
      rw [List.length_take, List.length_map] at hpl2
      have hadd := fun W => txb_add (putsJ ((L.map Pe.p).take k)) e.p.put (by omega) (by omega) W
      have hsn : putsJ ((L.map Pe.p).take k) ++ e.p.put = putsJ ((L.map Pe.p).take (k + 1)) := by rw [← List.map_take, ← List.map_take, HTK.out, List.map_append, ← putsJ_snoc]; rfl
      rw [hsn] at hadd
      clear hpl hpl2 hsn
      generalize putsJ ((L.map Pe.p).take k) = s1 at *
      generalize hs2 : putsJ ((L.map Pe.p).take (k + 1)) = s2 at *
      generalize e.p.put = s3 at *
      have HS2 := Lib.hid hs2
      clear hs2
      have HS1 := Lib.hid hadd
      clear hadd
      have hadd := HS1.out
      generalize txb s1 = t1 at *
      generalize hts2 : txb s2 = t2 at *
      have HT2 := Lib.hid hts2
      generalize txb s3 = t3 at *
      clear HS1 hts2
      go_wp2_with (refine wpList_ld rfl _ rfl rfl HQ7.out (pcA_ok _ _ _) ?_)
      refine hput.mono ?_
      rintro e8 w8 ⟨rfl, hb8⟩
      have HB8 := Lib.hid (HB7.out.trans (hb8.mono HB7.out.size))
      clear hb8 hput HQ7 HB7 c2
      go_wp2_with fail
      go_roundw
      case rel =>
        refine ⟨k + 1, rfl, by omega, by rw [← HT2.out, HS2.out], (fun x hx => ?_), HB8⟩
        rw [HTK.out] at hx
        rcases List.mem_append.1 hx with h | h
        · exact HP.out x h
        · rw [List.mem_singleton.1 h]
          exact ⟨HM1.out, HM2.out⟩
      case measure => first | omega | (simp; omega) | (simp [intOf]; omega)
    · obtain rfl : k = L.length := by omega
      rw [List.take_length] at HP
      have htl : (L.map Pe.p).take L.length = L.map Pe.p := List.take_of_length_le (by rw [List.length_map]; exact Nat.le_refl _)
      rw [htl]
      have hpn := putsJ_len (L.map Pe.p) (fun p hp => by
        obtain ⟨x, hx, rfl⟩ := List.mem_map.1 hp
        exact (HP.out x hx).1)
      rw [List.length_map] at hpn
      have hall : AllJ m (putsJ (L.map Pe.p)) (L.map Pe.p) 0 0 := AllJ.puts _ (fun p hp => by
        obtain ⟨x, hx, rfl⟩ := List.mem_map.1 hp
        exact ⟨(HP.out x hx).1, (HE.out x hx).2.1, (HP.out x hx).2⟩)
      have HALL := Lib.hid hall
      obtain ⟨P, hP⟩ : ∃ P, P = putsJ (L.map Pe.p) := ⟨_, rfl⟩
      rw [← hP] at HALL hpn ⊢
      have hpl : P.length ≤ 270000 := by omega
      have HPL := Lib.hid hpl
      clear htl hpn hall hP hpl hlt hk HP
      have hnw := jnew_any wr m (HG.out.below HB.out)
      have hst : ∀ W, Sj W wr.heap.size wr.heap.size (.slice none 0 0) m [] false → Below wr.heap.size wr W → DJ [] wr wr.heap.size m P P W (.slice none 0 0) (.slice none 0 0) [] [] false 0 := fun W h1 h2 => DJ.start (w := wr) (Below.refl _ _) h1 h2 (HG.out.below HB.out) P
      go_wp2_with fail
      refine hnw.mono ?_
      rintro e w1 ⟨rfl, hs1, hb1⟩
      have HD1 := Lib.hid (hst _ hs1 hb1)
      clear hs1 hb1 hnw hst
      obtain ⟨g, hg⟩ : ∃ g, g = wr.heap.size := ⟨_, rfl⟩
      rw [← hg] at HD1 ⊢
      clear hg
      generalize hw0 : wr = w0 at *
      clear hw0
      go_upto_region 14 with fail
      go_loopw [7, 11, 12] (fun s o i wr => ∃ (rest : List UInt8) (M : List Pe) (v : Value) (l : List UInt8) (k : Nat), s = .string (txb rest) ∧ i = .int .i64 k ∧ k + rest.length ≤ P.length ∧ Hid (DJ [] w0 g m P rest wr o v M l false 0) ∧ Hid (WaitJ m l)) (fun s o i wr => strN s)
      case atStart => exact ⟨P, [], _, [], 0, rfl, rfl, by simp, HD1, ⟨rfl, .inl rfl⟩⟩
      case round =>
        obtain ⟨rest, M, v, l, k, rfl, rfl, hcnt, HD, HW⟩ := hrel
        clear HD1
        have hsz := txb_size rest
        by_cases hr0 : rest.length = 0
        · have hr : rest = [] := List.eq_nil_of_length_eq_zero hr0
          subst hr
          have hfin := HD.out.done (.inr HW.out)
          obtain ⟨e1, _, e3⟩ := HALL.out.det hfin
          have hl0 : l = [] := List.eq_nil_of_length_eq_zero e3
          subst hl0
          have HQ := Lib.hid e1
          have hlg : M.length ≤ 1000000 := by have := HD.out.len; have := HPL.out; omega
          obtain ⟨Ag, cg, rfl, _⟩ := HD.out.pl.shape
          have HBW := Lib.hid (HB.out.trans (HD.out.bl.mono HB.out.size))
          have hfx := fixed17_any _ HD.out.gl
          clear hfin e1 e3 HW hcnt
          go_wp2_with fail
          refine hfx.mono ?_
          rintro e w5 ⟨rfl, hb5⟩
          have HD5 := Lib.hid (HD.out.below hb5)
          have HB5 := Lib.hid (HBW.out.trans (hb5.mono HBW.out.size))
          have hsame := sameJ_any (La := M) (Lb := L) (ca := cg) (cb := ca) HQ.out HD5.out.pl.reads.1 ((HA.out.keep fun j hj => HB5.out.block j hj).imp fun j hj _ => Nat.lt_of_lt_of_le hj HB5.out.size) HD5.out.pl.reads.2 (fun x hx => ((HE.out x hx).2.2.keep fun j hj => HB5.out.block j hj).imp fun j hj _ => Nat.lt_of_lt_of_le hj HB5.out.size) hlg
          clear hb5 hfx HBW HD
          go_wp2_with fail
          refine hsame.mono ?_
          rintro e w6 ⟨rfl, hb6⟩
          have HD6 := Lib.hid (HD5.out.below hb6)
          have HB6 := Lib.hid (HB5.out.trans (hb6.mono HB5.out.size))
          have hbd := jbad_any HD6.out.sj
          have hld := jhld_any HD6.out.sj
          clear hb6 hsame HD5 HB5
          go_wp2_with (first
            | (go_at_call 9; refine hbd.mono ?_; rintro e w9 ⟨rfl, rfl⟩)
            | (go_at_call 10; refine hld.mono ?_; rintro e w9 ⟨rfl, rfl⟩))
          go_ret
          exact ⟨rfl, HB6.out⟩
        · have hpos : decide ((0 : Int) < (rest.length : Int)) = true := decide_eq_true (by omega)
          have hpos2 : 0 < rest.length := by omega
          have hzb := (HRZ.out.below HB.out).below (HD.out.bl.mono HB.out.size)
          obtain ⟨n0, hn0⟩ : ∃ n0, n0 = min rest.length 4000 := ⟨_, rfl⟩
          have hm0 : min (rest.length : Int) 4000 = (n0 : Int) := by omega
          have hn01 : 1 ≤ n0 := by omega
          have hn02 : n0 ≤ rest.length := by omega
          clear hn0
          go_upto_if 61 with fail
          clear hm0
          go_cut [13] (fun v wx => ∃ n : Nat, v = .int .i64 n ∧ 1 ≤ n ∧ n ≤ rest.length ∧ Hid (wx = wr))
          case first =>
            by_cases hi : k < zs.length
            · have hii : decide ((k : Int) < (zs.length : Int)) = true := decide_eq_true (by omega)
              have hi2 : decide (k < zs.length) = true := decide_eq_true hi
              have hni : (k : Int) < (zs.length : Int) := by omega
              obtain ⟨gz, oz, rfl, hgz, hcz⟩ := hzb (by intro e; rw [e] at hi; simp at hi)
              have hzw : wr.cell? ⟨gz, oz + k, none⟩ = some (.int .u8 (zs[k].toNat : Int)) := hcz k hi
              have hz9 := zs[k].toNat_lt
              generalize zs[k].toNat = zn at *
              obtain ⟨n, hn⟩ : ∃ n, n = min n0 (1 + zn) := ⟨_, rfl⟩
              have hmin : min (n0 : Int) (1 + (zn : Int)) = (n : Int) := by omega
              have hm1 : 1 ≤ n := by omega
              have hm2 : n ≤ rest.length := by omega
              clear hcz HD hn hzb
              go_wp2_with fail
              go_meet
              exact ⟨n, rfl, hm1, hm2, rfl⟩
            · have hii : decide ((k : Int) < (zs.length : Int)) = false := decide_eq_false (by omega)
              have hi2 : decide (k < zs.length) = false := decide_eq_false hi
              clear HD hzb
              go_wp2_with fail
              go_meet
              exact ⟨n0, rfl, hn01, hn02, rfl⟩
          case rest =>
            obtain ⟨n, rfl, hn1, hn2, hwx⟩ := hcut
            have hwx : wc = wr := hwx.out
            subst hwx
            clear hzb hn01 hn02
            have hroom : l.length < 4104 := wait_J HW.out
            obtain ⟨kk, hkk⟩ : ∃ kk, kk = min n (4110 - l.length) := ⟨_, rfl⟩
            have hkn : kk ≤ n := by omega
            have hk1 : 1 ≤ kk := by omega
            have hkr : kk ≤ rest.length := by omega
            have hup : ∀ W, (Instr.slice 9 (.string (txb rest)) none (some (.int .i64 (n : Int))) none).run Tryd.prog W = .ok (.string (txb (rest.take n))) W := fun W => by
              have h1 := txb_upto rest (n : Int) (by omega) (by omega) W
              rw [show ((n : Int)).toNat = n by omega] at h1
              exact h1
            have hfr : ∀ W, (Instr.slice 9 (.string (txb rest)) (some (.int .i64 (kk : Int))) none none).run Tryd.prog W = .ok (.string (txb (rest.drop kk))) W := fun W => by
              have h1 := txb_from rest (kk : Int) (by omega) (by omega) W
              rw [show ((kk : Int)).toNat = kk by omega] at h1
              exact h1
            obtain ⟨c2, w2, hcv, hc2, hb2, hrd⟩ := bytesI_run (rest.take n) wc
            have hxl : (rest.take n).length = n := by rw [List.length_take]; omega
            have hDx := HD.out.below hb2
            rw [← List.take_append_drop n rest] at hDx
            have hfd := hDx.feed (n := kk) (cx := c2) hrd hc2 (by rw [hxl]; exact hkk)
            rw [hxl, fd_drop hkn hn2, fd_take hkn] at hfd
            rw [hxl] at hcv
            have hrl : (rest.drop kk).length = rest.length - kk := List.length_drop
            have hdl : (txb (rest.drop kk)).size < (txb rest).size := by rw [txb_size, txb_size, hrl]; omega
            have HDL := Lib.hid hdl
            have HC0 : Hid (k + 1 + (rest.drop kk).length ≤ P.length ∧ k + 1 ≤ 270000) := ⟨by omega, by have := HPL.out; omega⟩
            have HK1 : Hid (1 ≤ kk) := hk1
            clear hrd hc2 hxl hDx hkk hrl hdl HD hr0 hcnt hkr hk1 hkn hroom hb2 hpos2 HW
            generalize hts : txb (rest.drop kk) = ts at *
            have HTS := Lib.hid hts
            clear hts
            generalize txb (rest.take n) = tn at *
            generalize htt : txb rest = tt at *
            have HTT := Lib.hid htt
            clear htt
            generalize rest.drop kk = rs at *
            generalize hl2 : l ++ rest.take kk = l2 at *
            clear hl2
            go_wp2_with fail
            refine hfd.mono ?_
            rintro e w3 ⟨rfl, v3, h3⟩
            have HD3 := Lib.hid h3
            clear hfd h3 hcv hup
            go_upto_region 21 with fail
            clear hfr hpos
            go_loopw [11] (fun o wr => ∃ (M : List Pe) (v : Value) (l : List UInt8), Hid (DJ [] w0 g m P rs wr o v M l false 0)) (fun o wr => heldN wr g)
            case atStart => exact ⟨M, v3, l2, HD3⟩
            case round =>
              obtain ⟨M, v, l4, HD⟩ := hrel
              clear HD3
              have HH := Lib.hid HD.out.sj.held
              have hnx := HD.out.next
              go_wp2_with fail
              refine hnx.mono ?_
              rintro e w7 (⟨A4, c4, v4, rfl, h4, hw⟩ | ⟨A4, c4, v4, k4, rfl, h4, hk0, hk9, hbd, hll⟩ | ⟨p4, A4, c4, v4, l5, rfl, h4, hbd, hll⟩)
              · have H4 := Lib.hid h4
                have HW4 : Hid (WaitJ m l4) := hw.elim (fun h => by cases h) id
                clear h4 hw hnx HD
                have HTW := Lib.hid (twoJ w7 (pcA Pc.zero A4 c4) (ftI (scI 0) 0) rfl)
                go_upto_region 22 with (first
                  | (refine wpList_sw (cs := (pcA Pc.zero A4 c4)) rfl _ _ rfl rfl rfl HTW.out.1 rfl (pcA_ok _ _ _) ?_)
                  | (refine wpList_sw (cs := (ftI (scI 0) 0)) rfl _ _ rfl rfl rfl HTW.out.2.1 (ftI_sz _ _ _ _) (ftI_ok _ _) ?_))
                have HP_w8 : Hid (Row ((((w7.alloc (.cells #[.bool false, .int .u8 0, .bool false, .int .u32 0, .slice none 0 0] 31)).alloc (.cells #[.int .u8 0, .int .u32 0] 33)).setRow w7.heap.size (pcA Pc.zero A4 c4)).setRow (w7.heap.size + 1) (ftI (scI 0) 0)) w7.heap.size 31 (pcA Pc.zero A4 c4)) := HTW.out.2.2.1
                have HT_w8 : Hid (Row ((((w7.alloc (.cells #[.bool false, .int .u8 0, .bool false, .int .u32 0, .slice none 0 0] 31)).alloc (.cells #[.int .u8 0, .int .u32 0] 33)).setRow w7.heap.size (pcA Pc.zero A4 c4)).setRow (w7.heap.size + 1) (ftI (scI 0) 0)) (w7.heap.size + 1) 33 (ftI (scI 0) 0)) := HTW.out.2.2.2.1
                have HB_w8 : Hid (Below w7.heap.size w7 ((((w7.alloc (.cells #[.bool false, .int .u8 0, .bool false, .int .u32 0, .slice none 0 0] 31)).alloc (.cells #[.int .u8 0, .int .u32 0] 33)).setRow w7.heap.size (pcA Pc.zero A4 c4)).setRow (w7.heap.size + 1) (ftI (scI 0) 0))) := HTW.out.2.2.2.2.1
                have HS_w8 : Hid (((((w7.alloc (.cells #[.bool false, .int .u8 0, .bool false, .int .u32 0, .slice none 0 0] 31)).alloc (.cells #[.int .u8 0, .int .u32 0] 33)).setRow w7.heap.size (pcA Pc.zero A4 c4)).setRow (w7.heap.size + 1) (ftI (scI 0) 0)).heap.size = w7.heap.size + 2) := HTW.out.2.2.2.2.2
                clear HTW
                generalize ((((w7.alloc (.cells #[.bool false, .int .u8 0, .bool false, .int .u32 0, .slice none 0 0] 31)).alloc (.cells #[.int .u8 0, .int .u32 0] 33)).setRow w7.heap.size (pcA Pc.zero A4 c4)).setRow (w7.heap.size + 1) (ftI (scI 0) 0)) = w8 at *
                have H5 := Lib.hid (H4.out.below HB_w8.out)
                have hn0 : ((kk : Int) == 0) = false := beq_eq_false_iff_ne.2 (by have := HK1.out; omega)
                have hwk1 : IntKind.i64.wrap ((k : Int) + 1) = (k : Int) + 1 := IntWalk.i64_in _ (by have := HC0.out; omega)
                clear H4 HP_w8 HT_w8 HB_w8 HS_w8
                go_wp2_with fail
                go_roundw
                case rel => exact ⟨rs, M, v4, l4, k + 1, by rw [HTS.out], rfl, HC0.out.1, H5, HW4⟩
                case measure => first | exact HDL.out | (rw [HTT.out]; exact HDL.out)
              · have h5 := h4.pt
                rcases h5 with ⟨h6, _⟩ | ⟨_, h6, _, h7⟩
                · cases h6
                · obtain ⟨_, h8, _⟩ := HALL.out.det h7
                  exact absurd h8 h6
              · have H4 := Lib.hid h4
                clear h4 hnx HD hbd
                have HTW := Lib.hid (twoJ w7 (pcA p4 A4 c4) (ftI (scI 0) 0) rfl)
                go_upto_region 22 with (first
                  | (refine wpList_sw (cs := (pcA p4 A4 c4)) rfl _ _ rfl rfl rfl HTW.out.1 rfl (pcA_ok _ _ _) ?_)
                  | (refine wpList_sw (cs := (ftI (scI 0) 0)) rfl _ _ rfl rfl rfl HTW.out.2.1 (ftI_sz _ _ _ _) (ftI_ok _ _) ?_))
                have HP_w8 : Hid (Row ((((w7.alloc (.cells #[.bool false, .int .u8 0, .bool false, .int .u32 0, .slice none 0 0] 31)).alloc (.cells #[.int .u8 0, .int .u32 0] 33)).setRow w7.heap.size (pcA p4 A4 c4)).setRow (w7.heap.size + 1) (ftI (scI 0) 0)) w7.heap.size 31 (pcA p4 A4 c4)) := HTW.out.2.2.1
                have HT_w8 : Hid (Row ((((w7.alloc (.cells #[.bool false, .int .u8 0, .bool false, .int .u32 0, .slice none 0 0] 31)).alloc (.cells #[.int .u8 0, .int .u32 0] 33)).setRow w7.heap.size (pcA p4 A4 c4)).setRow (w7.heap.size + 1) (ftI (scI 0) 0)) (w7.heap.size + 1) 33 (ftI (scI 0) 0)) := HTW.out.2.2.2.1
                have HB_w8 : Hid (Below w7.heap.size w7 ((((w7.alloc (.cells #[.bool false, .int .u8 0, .bool false, .int .u32 0, .slice none 0 0] 31)).alloc (.cells #[.int .u8 0, .int .u32 0] 33)).setRow w7.heap.size (pcA p4 A4 c4)).setRow (w7.heap.size + 1) (ftI (scI 0) 0))) := HTW.out.2.2.2.2.1
                have HS_w8 : Hid (((((w7.alloc (.cells #[.bool false, .int .u8 0, .bool false, .int .u32 0, .slice none 0 0] 31)).alloc (.cells #[.int .u8 0, .int .u32 0] 33)).setRow w7.heap.size (pcA p4 A4 c4)).setRow (w7.heap.size + 1) (ftI (scI 0) 0)).heap.size = w7.heap.size + 2) := HTW.out.2.2.2.2.2
                clear HTW
                generalize ((((w7.alloc (.cells #[.bool false, .int .u8 0, .bool false, .int .u32 0, .slice none 0 0] 31)).alloc (.cells #[.int .u8 0, .int .u32 0] 33)).setRow w7.heap.size (pcA p4 A4 c4)).setRow (w7.heap.size + 1) (ftI (scI 0) 0)) = w8 at *
                have hne := ftJ_ne0
                have HBA : Hid (Below w8.heap.size w8 (w8.alloc (.cells (pcA p4 A4 c4) 31))) := (Below.refl _ _).alloc (Nat.le_refl _) _
                have HRN : Hid (Row (w8.alloc (.cells (pcA p4 A4 c4) 31)) w8.heap.size 31 (pcA p4 A4 c4)) := Row.new _ _ _
                have H5 := Lib.hid ((H4.out.below HB_w8.out).below HBA.out)
                have hab : P.length ≤ 1000000 := by have := HPL.out; omega
                clear H4 HB_w8 HS_w8
                go_upto_region 25 with (refine wpList_ld (cs := #[.int .u8 0, .int .u32 0]) rfl _ rfl rfl HT_w8.out (ftI_ok 0 0) ?_)
                clear hne
                go_wp2_with (first
                  | (refine wpList_ld rfl _ rfl rfl HP_w8.out (pcA_ok _ _ _) ?_)
                  | (refine wpList_bsP (p := p4) (A := A4) (c := c4) rfl _ rfl rfl ?_)
                  | (at_builtin; go_loud (refine wpList_appD rfl _ _ rfl rfl H5.out w8.heap.size rfl HRN.out hab ?_; intro gv9 w9 h9; have HD9 := Lib.hid h9; clear h9)))
                go_roundw
                case rel => exact ⟨_, v4, l5, HD9⟩
                case measure => rw [HD9.out.sj.held, HH.out]; exact hll
theorem jwframes_law {L : List Pe} {zs : List UInt8} {ca cz : Nat} {A Z : Option Addr} {m : Bool} {w : World} (hA : RdS w (· < w.heap.size) A (enl Pe.cs L)) (hE : ∀ e ∈ L, e.p.op < 256 ∧ e.p.key < 4294967296 ∧ RdS w (· < w.heap.size) e.A (byc e.p.dat)) (hrz : RdB w w.heap.size Z zs) (hG : GlobE w) :
    Calls Tryd.prog 4 #[.slice A L.length ca, .bool m, .slice Z zs.length cz] w fun e w' => e = .returned (.bool true) ∧ Below w.heap.size w w' := by
  by_cases h : 30 < L.length ∨ 3000 < zs.length
  · exact jwframes_big hG h
  · exact jwframes_small hA hE hrz hG (by omega) (by omega)
end Go.Proofs.YtejlbgllfkfkfaaDoor
