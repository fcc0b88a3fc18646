/-
  The document's All: all frames of bytes. Conditions: at most 800000 bytes.
-/
import Derived.Test.YtejlbgllfkfkfaaDoorJpl
import Derived.BigQuiet
namespace Go.Proofs.YtejlbgllfkfkfaaDoor
open Go.RowKit Go.WideShapes

def strN : Value → Nat
  | .string s => s.size
  | _ => 0
/-- What All leaves. -/
def AllP (w : World) (l : List UInt8) (m : Bool) (e : Ending) (w' : World) : Prop :=
  ∃ (L : List Pe) (v : Value) (c n : Nat), e = .returned (.tuple #[v, .int .i64 (c : Int), .int .i64 (n : Int)]) ∧ PL w' w.heap.size noXJ v L ∧ AllJ m l (L.map Pe.p) c n ∧ Below w.heap.size w w'
theorem ret3J {fn : Func} {p q r : Tmp} (h : fn.results = #[.tmp p, .tmp q, .tmp r]) (tmps : Array Value) (w : World) (x y z : Value) (hp : tmps.getD p undef = x) (hq : tmps.getD q undef = y) (hr : tmps.getD r undef = z) :
    (results fn tmps).run Tryd.prog w = .ok (.tuple #[x, y, z]) w := by
  have hp' : tmps[p]?.getD undef = x := by simpa using hp
  have hq' : tmps[q]?.getD undef = y := by simpa using hq
  have hr' : tmps[r]?.getD undef = z := by simpa using hr
  simp only [results, h]
  simp [hp', hq', hr']
set_option maxRecDepth 100000 in
set_option maxHeartbeats 4000000 in
theorem rallJ_any (l : List UInt8) (hl : l.length ≤ 800000) (m : Bool) (w : World) : Calls Tryd.prog 13 #[.string (txb l), .bool m] w (AllP w l m) := by
  have HP0 : Hid (PL (w.alloc (.cells #[] 31)) w.heap.size noXJ (.slice (some ⟨w.heap.size, 0, none⟩) 0 0) []) := PL.made w _ (Nat.le_refl _) (fun k h => h.elim)
  have HB0 : Hid (Below w.heap.size w (w.alloc (.cells #[] 31))) := (Below.refl _ _).alloc (Nat.le_refl _) _
  go_enter Tryd.func13, Tryd.ntmps13
  go_wp2_with fail
  go_loopw [0, 7] (fun s o wr => ∃ (rest : List UInt8) (L : List Pe) (v : Value), s = .string (txb rest) ∧ o = v ∧ L.length + rest.length ≤ l.length ∧ Hid (PL wr w.heap.size noXJ v L) ∧ Hid (∀ out c n, AllJ m rest out c n → AllJ m l (L.map Pe.p ++ out) c n) ∧ Hid (Below w.heap.size w wr)) (fun s o wr => strN s)
  case atStart => exact ⟨l, [], _, rfl, rfl, by simp, HP0, fun out c n h => h, HB0⟩
  case round =>
    obtain ⟨rest, L, v, rfl, rfl, hrl, HP, HT, HB⟩ := hrel
    clear HP0 HB0
    have hhd := rheadI_any rest (by omega) m
    go_wp2_with fail
    refine (hhd _).mono ?_
    rintro e w2 ⟨rfl, hb2⟩
    have HP2 := Lib.hid (HP.out.below (hb2.mono (Nat.le_refl _)))
    have HB2 := Lib.hid (HB.out.trans (hb2.mono HB.out.size))
    have HA : Hid (Row (w2.alloc (.cells #[.int .i64 0, .int .i64 0, .int .i64 0, .bool false] 53)) w2.heap.size 53 (hdC hd0)) := Row.new _ _ _
    have hba : Below w2.heap.size w2 (w2.alloc (.cells #[.int .i64 0, .int .i64 0, .int .i64 0, .bool false] 53)) := (Below.refl _ _).alloc (Nat.le_refl _) _
    have HA3 := Lib.hid (HA.out.setRow (hdC (hdI m rest)))
    have hb3 := below_setRow hba w2.heap.size (hdC (hdI m rest)) (Nat.le_refl _)
    have HB3 := Lib.hid (HB2.out.trans (hb3.mono HB2.out.size))
    have HP3 := Lib.hid (HP2.out.below hb3)
    clear hb2 hba hb3 HB HP HP2 HB2 hhd
    go_upto_region 3 with (refine wpList_sw (cs := hdC (hdI m rest)) rfl _ _ rfl rfl rfl HA.out (hd_sz _ _) (hd_ok _) ?_)
    clear HA
    generalize (w2.alloc (.cells #[.int .i64 0, .int .i64 0, .int .i64 0, .bool false] 53)).setRow w2.heap.size (hdC (hdI m rest)) = w3 at *
    generalize w2.heap.size = p6 at *
    obtain ⟨c0, c1, c2, c3⟩ := hd_cells HA3.out
    have hsm := hdI_small m rest
    have hcl : whJ m rest = (hdI m rest).front + (hdI m rest).size := rfl
    rcases cases_J m rest with hw | hf | hgo
    · have hfin := HT.out _ _ _ (.stop hw)
      rw [List.append_nil] at hfin
      have HFin := Lib.hid hfin
      have hcz : (((hdI m rest).code : Nat) : Int) = 0 := by have := hw.1; omega
      rw [hcz] at c2
      have hss : (hdI m rest).short = true ∨ ((hdI m rest).short = false ∧ rest.length < (hdI m rest).front + (hdI m rest).size) := by
        rw [← hcl]
        cases hsh : (hdI m rest).short
        · exact .inr ⟨rfl, hw.2.elim (fun h => by rw [hsh] at h; cases h) id⟩
        · exact .inl rfl
      have hsum : IntKind.i64.wrap (((hdI m rest).front : Int) + ((hdI m rest).size : Int)) = (((hdI m rest).front + (hdI m rest).size : Nat) : Int) := by rw [IntWalk.i64_in _ (by omega)]; omega
      have hsz := txb_size rest
      clear hfin hw hcz hcl HT
      generalize (hdI m rest).front + (hdI m rest).size = n at *
      generalize (hdI m rest).short = sh at *
      generalize (hdI m rest).front = f at *
      generalize (hdI m rest).size = v9 at *
      generalize txb rest = tt at *
      rcases hss with rfl | ⟨rfl, hne⟩
      · go_wp2_with fail
        refine bodyPost_ret (ret3J (fn := Tryd.f13) rfl _ _ _ (.int .i64 0) (.int .i64 (rest.length : Int)) rfl rfl rfl) rfl ?_
        exact ⟨L, _, 0, rest.length, rfl, HP3.out, HFin.out, HB3.out⟩
      · have hd1 : decide ((rest.length : Int) < (n : Int)) = true := decide_eq_true (by omega)
        have hd2 : decide (rest.length < n) = true := decide_eq_true hne
        go_wp2_with fail
        refine bodyPost_ret (ret3J (fn := Tryd.f13) rfl _ _ _ (.int .i64 0) (.int .i64 (rest.length : Int)) rfl rfl rfl) rfl ?_
        exact ⟨L, _, 0, rest.length, rfl, HP3.out, HFin.out, HB3.out⟩
    · have hfin := HT.out _ _ _ (.fault hf)
      rw [List.append_nil] at hfin
      have HFin := Lib.hid hfin
      have hne : (((hdI m rest).code : Int) != 0) = true := bne_iff_ne.2 (by omega)
      clear hfin hf HT
      generalize (hdI m rest).code = code at *
      go_upto_region 4 with fail
      have c2d : w3.drew.cell? ⟨p6, 2, none⟩ = some (.int .i64 code) := c2
      refine wp_region_held_drew (S := fun w' => w'.cell? ⟨p6, 2, none⟩ = some (.int .i64 code)) (by kernel_rfl) c2d (fun hHeld => ?_)
      refine wpAnyH_take (i := 0) (v := ?v0) rfl (by kernel_rfl) (by kernel_rfl) (by kernel_rfl) (fun _ _ _ h => h) (Or.inl ⟨by rfl, ?hy0⟩) (by assumption) ?rest0
      case hy0 => (intro w hSw; (try dsimp only at hSw); go_simp <;> with_reducible rfl)
      try simp only [Act.put, List.getElem_toArray, List.getElem_cons_zero, List.setIfInBounds_toArray, List.set_cons_zero, List.set_cons_succ]
      refine wpAnyH_take (i := 1) (v := ?v1) rfl (by kernel_rfl) (by kernel_rfl) (by kernel_rfl) (fun _ _ _ h => h) (Or.inl ⟨by rfl, ?hy1⟩) (by assumption) ?rest1
      case hy1 => (intro w hSw; (try dsimp only at hSw); go_simp <;> with_reducible rfl)
      try simp only [Act.put, List.getElem_toArray, List.getElem_cons_zero, List.getElem_cons_succ, List.setIfInBounds_toArray, List.set_cons_zero, List.set_cons_succ]
      refine wpAnyH_take (i := 2) (v := ?v2) rfl (by kernel_rfl) (by kernel_rfl) (by kernel_rfl) (fun _ _ _ h => h) (Or.inl ⟨by rfl, ?hy2⟩) (by assumption) ?rest2
      case hy2 => (intro w hSw; (try dsimp only at hSw); go_simp <;> with_reducible rfl)
      try simp only [Act.put, List.getElem_toArray, List.getElem_cons_zero, List.getElem_cons_succ, List.setIfInBounds_toArray, List.set_cons_zero, List.set_cons_succ]
      refine wpAnyH_take (i := 3) (v := ?v3) rfl (by kernel_rfl) (by kernel_rfl) (by kernel_rfl) (fun _ _ _ h => h) (Or.inl ⟨by rfl, ?hy3⟩) (by assumption) ?rest3
      case hy3 => (intro w hSw; (try dsimp only at hSw); go_simp <;> with_reducible rfl)
      try simp only [Act.put, List.getElem_toArray, List.getElem_cons_zero, List.getElem_cons_succ, List.setIfInBounds_toArray, List.set_cons_zero, List.set_cons_succ]
      refine wpAnyH_take (i := 4) (v := ?v4) rfl (by kernel_rfl) (by kernel_rfl) (by kernel_rfl) (fun _ _ _ h => h) (Or.inl ⟨by rfl, ?hy4⟩) (by assumption) ?rest4
      case hy4 => (intro w hSw; (try dsimp only at hSw); go_simp <;> with_reducible rfl)
      try simp only [Act.put, List.getElem_toArray, List.getElem_cons_zero, List.getElem_cons_succ, List.setIfInBounds_toArray, List.set_cons_zero, List.set_cons_succ]
      refine wpAnyH_take (i := 5) (v := ?v5) rfl (by kernel_rfl) (by kernel_rfl) (by kernel_rfl) (fun _ _ _ h => h) (Or.inl ⟨by rfl, ?hy5⟩) (by assumption) ?rest5
      case hy5 => (intro w hSw; (try dsimp only at hSw); go_simp <;> with_reducible rfl)
      try simp only [Act.put, List.getElem_toArray, List.getElem_cons_zero, List.getElem_cons_succ, List.setIfInBounds_toArray, List.set_cons_zero, List.set_cons_succ]
      refine wpAnyH_done (by kernel_rfl) ?_ _
      go_wp2_with fail
      refine bodyPost_ret (ret3J (fn := Tryd.f13) rfl _ _ _ (.int .i64 code) (.int .i64 0) rfl rfl rfl) rfl ?_
      exact ⟨L, _, code, 0, rfl, HP3.out.below (Below.refl _ _).drew, HFin.out, HB3.out.drew⟩
    · have HGO := Lib.hid hgo
      have hN2 := whole_J hgo
      have hNl := hgo.2.2
      have hcz : (((hdI m rest).code : Nat) : Int) = 0 := by have := hgo.1; omega
      rw [hcz] at c2
      rw [hgo.2.1] at c3
      have hsum : IntKind.i64.wrap (((hdI m rest).front : Int) + ((hdI m rest).size : Int)) = ((whJ m rest : Nat) : Int) := by rw [IntWalk.i64_in _ (by omega)]; omega
      have hsz := txb_size rest
      have hup : ∀ W, (Instr.slice 9 (.string (txb rest)) none (some (.int .i64 (whJ m rest : Int))) none).run Tryd.prog W = .ok (.string (txb (rest.take (whJ m rest)))) W := fun W => txb_upto rest (whJ m rest : Int) (by omega) (by omega) W
      have hfr : ∀ W, (Instr.slice 9 (.string (txb rest)) (some (.int .i64 (whJ m rest : Int))) none none).run Tryd.prog W = .ok (.string (txb (rest.drop (whJ m rest)))) W := fun W => txb_from rest (whJ m rest : Int) (by omega) (by omega) W
      have hgt := rgetI_new (rest.take (whJ m rest)) (by rw [List.length_take]; omega) m
      have hd1 : decide ((rest.length : Int) < (whJ m rest : Int)) = false := decide_eq_false (by omega)
      have hd2 : decide (rest.length < whJ m rest) = false := decide_eq_false (by omega)
      have hd3 : ¬ rest.length < whJ m rest := by omega
      have HTN : Hid (∀ out c n, AllJ m (rest.drop (whJ m rest)) out c n → AllJ m l (L.map Pe.p ++ ([(getI m (rest.take (whJ m rest))).1] ++ out)) c n) := fun out c n h => HT.out _ _ _ (.go HGO.out h)
      have HDL : Hid ((rest.drop (whJ m rest)).length + 1 ≤ rest.length) := by show _ ≤ _; rw [List.length_drop]; omega
      have HDS : Hid ((txb (rest.drop (whJ m rest))).size < (txb rest).size) := by show _ < _; rw [txb_size, txb_size, List.length_drop]; omega
      clear hgo hcz hcl HT hsm HGO
      generalize hf9 : (hdI m rest).front = f at *
      generalize hv9 : (hdI m rest).size = v9 at *
      have HF9 := Lib.hid hf9
      have HV9 := Lib.hid hv9
      clear hf9 hv9
      obtain ⟨N, hN⟩ : ∃ N, N = whJ m rest := ⟨_, rfl⟩
      rw [← hN] at hN2 hNl hsum hup hfr hgt hd1 hd2 hd3 HTN HDL HDS
      clear hN
      generalize rest.drop N = rs at *
      generalize rest.take N = hd at *
      generalize getI m hd = q at *
      generalize htt : txb rest = tt at *
      generalize hts : txb rs = ts at *
      generalize txb hd = th at *
      have HTT := Lib.hid htt
      have HTS := Lib.hid hts
      clear htt hts
      go_upto_region 7 with fail
      clear hd1 hd2 hd3 c2 c3
      go_wp2_with fail
      refine (hgt _).mono ?_
      rintro e w4 ⟨Ad, cd, rfl, hd4, hb4⟩
      have HA4 := Lib.hid (HA3.out.below hb4 HA3.out.lt)
      have HB4 := Lib.hid (HB3.out.trans (hb4.mono HB3.out.size))
      have HP4 := Lib.hid (HP3.out.below hb4)
      have HV3 := Lib.hid (OwS.lt HP3.out.own)
      have hsz4 := hb4.size
      have HD4 : Hid (RdS w4 (fun k => w3.heap.size ≤ k ∧ k < w4.heap.size) Ad (byc q.1.dat)) := hd4
      have HL3 : Hid (w.heap.size ≤ w3.heap.size) := HB3.out.size
      have HP63 : Hid (p6 < w3.heap.size) := HA3.out.lt
      clear hgt hd4 hb4 HA3 HB3 HP3 hup c0 c1
      have HQ : Hid (Row (w4.alloc (.cells #[.bool false, .int .u8 0, .bool false, .int .u32 0, .slice none 0 0] 31)) w4.heap.size 31 zpJ) := Row.new w4 _ _
      have hba : Below w4.heap.size w4 (w4.alloc (.cells #[.bool false, .int .u8 0, .bool false, .int .u32 0, .slice none 0 0] 31)) := (Below.refl _ _).alloc (Nat.le_refl _) _
      have HQ5 := Lib.hid (HQ.out.setRow (pcA q.1 Ad cd))
      have hb5 := below_setRow hba w4.heap.size (pcA q.1 Ad cd) (Nat.le_refl _)
      have HA5 := Lib.hid (HA4.out.below hb5 HA4.out.lt)
      have HB5 := Lib.hid (HB4.out.trans (hb5.mono HB4.out.size))
      have HP5 := Lib.hid (HP4.out.below hb5)
      have HD5 := Lib.hid ((HD4.out.keep fun k hk => hb5.block k hk.2).imp fun k hk hl => And.intro hk.1 hl)
      clear hba hb5 HA4 HB4 HP4 HD4
      go_upto_region 8 with (refine wpList_sw (cs := pcA q.1 Ad cd) rfl _ _ rfl rfl rfl HQ.out rfl (pcA_ok _ _ _) ?_)
      clear HQ
      generalize (w4.alloc (.cells #[.bool false, .int .u8 0, .bool false, .int .u32 0, .slice none 0 0] 31)).setRow w4.heap.size (pcA q.1 Ad cd) = w5 at *
      generalize w4.heap.size = p9 at *
      have HBA : Hid (Below w5.heap.size w5 (w5.alloc (.cells (pcA q.1 Ad cd) 31))) := (Below.refl _ _).alloc (Nat.le_refl _) _
      have HRN : Hid (Row (w5.alloc (.cells (pcA q.1 Ad cd) 31)) w5.heap.size 31 (pcA q.1 Ad cd)) := Row.new _ _ _
      have HP6 := Lib.hid (HP5.out.below HBA.out)
      have HA6 := Lib.hid (HA5.out.below HBA.out HA5.out.lt)
      have HB6 := Lib.hid (HB5.out.trans (HBA.out.mono HB5.out.size))
      have HD6 := Lib.hid ((HD5.out.keep fun k hk => HBA.out.block k hk.2).imp fun k hk hl => And.intro hk.1 hl)
      have HRD : Hid (Below w.heap.size w w5) := HB5.out
      clear HP5 HA5 HB5 HD5 HBA
      go_upto_region 9 with (first
        | (refine wpList_ld rfl _ rfl rfl HQ5.out (pcA_ok _ _ _) ?_)
        | (refine wpList_bsP (p := q.1) (A := Ad) (c := cd) rfl _ rfl rfl ?_)
        | (at_builtin; go_loud (refine wpList_appP rfl _ _ rfl rfl HP6.out ⟨q.1, Ad, cd⟩ w5.heap.size rfl HRN.out (HD6.out.imp fun k hk _ => ⟨hk.2, fun hv => by have := (HV3.out k hv).2; have := hk.1; omega, id⟩) (by omega) (by have := HRD.out.size; simp; omega) (fun k h => h.elim) ?_; intro v7 w7 hP7 hF7 hN7)))
      have HP7 : Hid (PL w7 w.heap.size noXJ v7 (L ++ [⟨q.1, Ad, cd⟩])) := hP7
      have HB7 := Lib.hid (HB6.out.trans (hF7.below (B := w.heap.size) (fun k hk _ => (HV3.out k hk).1) HB6.out.size))
      have HA7 := Lib.hid (hF7.row (b := p6) (OwS.neJ HP6.out.own HA6.out (by decide)) HA6.out)
      obtain ⟨c0, c1, c2, c3⟩ := hd_cells HA7.out
      rw [HF9.out] at c0
      rw [HV9.out] at c1
      clear hP7 hF7 hN7 HP6 HA6 HB6 HD6 HQ5 HRN HRD
      go_wp2_with fail
      go_roundw
      case rel =>
        refine ⟨rs, _, _, congrArg _ HTS.out.symm, rfl, ?_, HP7, fun out c n h => ?_, HB7⟩
        · simp
          have := HDL.out
          omega
        · have := HTN.out out c n h
          simpa using this
      case measure => rw [HTT.out]; exact HDS.out
end Go.Proofs.YtejlbgllfkfkfaaDoor
