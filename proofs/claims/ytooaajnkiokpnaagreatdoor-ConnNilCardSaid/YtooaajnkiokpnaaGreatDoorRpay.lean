/-
  The document's answers for frames: payload, by its contract. Conditions: the frame's numbers fit their types; the padding is less than 256; Data and Settings are read where the call doesn't write, and are no longer than the laws let them be.
-/
import Derived.Test.YtooaajnkiokpnaaGreatDoorRlean
import Derived.Test.YtooaajnkiokpnaaGreatDoorFputw
import Derived.Deep.CutBlock
import Derived.Deep.DeepCutAuto
namespace Go.Proofs.YtooaajnkiokpnaaGreatDoor
open Go.RowKit Go.WideShapes

/-- Numbers that fit their types. -/
def Frm.All (f : Frm) : Prop := f.Ok ∧ f.st < 4294967296 ∧ f.oth < 4294967296 ∧ f.win < 4294967296
def swL (f : Frm) : List UInt8 :=
  if f.ty = 3 then be 4 f.code
  else if f.ty = 4 then setsL f.sets
  else if f.ty = 5 then be 4 f.oth
  else if f.ty = 7 then be 4 f.oth ++ be 4 f.code
  else if f.ty = 8 then be 4 f.win
  else []
theorem sw_3 {f : Frm} (h : f.ty = 3) : swL f = be 4 f.code := if_pos h
theorem sw_4 {f : Frm} (h : f.ty = 4) : swL f = setsL f.sets := by unfold swL; rw [if_neg (by omega), if_pos h]
theorem sw_5 {f : Frm} (h : f.ty = 5) : swL f = be 4 f.oth := by unfold swL; rw [if_neg (by omega), if_neg (by omega), if_pos h]
theorem sw_7 {f : Frm} (h : f.ty = 7) : swL f = be 4 f.oth ++ be 4 f.code := by unfold swL; rw [if_neg (by omega), if_neg (by omega), if_neg (by omega), if_pos h]
theorem sw_8 {f : Frm} (h : f.ty = 8) : swL f = be 4 f.win := by unfold swL; rw [if_neg (by omega), if_neg (by omega), if_neg (by omega), if_neg (by omega), if_pos h]
theorem sw_x {f : Frm} (h : f.ty ≠ 3 ∧ f.ty ≠ 4 ∧ f.ty ≠ 5 ∧ f.ty ≠ 7 ∧ f.ty ≠ 8) : swL f = [] := by unfold swL; rw [if_neg (by omega), if_neg (by omega), if_neg (by omega), if_neg (by omega), if_neg (by omega)]
theorem sw_len (f : Frm) : (swL f).length ≤ 8 + 6 * f.sets.length := by
  unfold swL
  repeat' split
  all_goals simp [be_length, setsL_length] <;> omega
theorem front_lean {f : Frm} (h : leanB f.ty f.fl = true) : frontL f = be 4 (f.oth + if f.al = true then 2147483648 else 0) ++ [UInt8.ofNat f.wt] := if_pos h
theorem front_sw {f : Frm} (h : leanB f.ty f.fl = false) : frontL f = swL f := if_neg (by rw [h]; simp)
theorem front_len (f : Frm) : (frontL f).length ≤ 8 + 6 * f.sets.length := by
  cases h : leanB f.ty f.fl with
  | true => rw [front_lean h]; simp [be_length]; omega
  | false => rw [front_sw h]; exact sw_len f
theorem made_zeros (p : Nat) : (madeCells #[Value.int .u8 0] p).toList = byc (List.replicate p 0) := by
  apply List.ext_getElem
  · simp [madeCells, byc]
  · intro i h1 h2
    simp [madeCells, byc, Nat.mod_one]
theorem zeros_row {p k : Nat} {W : World} (h : Row W k 5 (madeCells #[Value.int .u8 0] p)) : (convert 22 9 (.slice (some ⟨k, 0, none⟩) p p)).run Tryz.prog W = .ok (.string (tb (List.replicate p 0))) W := by
  have := run_text (P := Tryz.prog) (l := List.replicate p 0) (c := p) Tryz.underlying22 Tryz.underlying5 Tryz.underlying9 (RdB.row (B := k + 1) h (made_zeros p) (Nat.lt_succ_self _))
  rwa [List.length_replicate] at this
attribute [local irreducible] Fm.c setsL be swL frontL

set_option maxRecDepth 100000 in
set_option maxHeartbeats 4000000 in
theorem rpayload_any (F : Frm) (hk : F.All) (hd : F.dat.length ≤ 20000) (hn : F.sets.length ≤ 5000) (hp : F.pad ≤ 255) {dA sA : Option Addr} {dc sc : Nat} {w : World} (hD : RdB w w.heap.size dA F.dat) (hR : RdS w (· < w.heap.size) sA (enl sgc F.sets)) :
    Calls Tryz.prog 61 #[.agg (F.fm dA dc sA sc).c] w fun e w' => e = .returned (.string (tb (payL F))) ∧ Below w.heap.size w w' := by
  obtain ⟨i0, hi0, hz0, hz1, hz2⟩ := info_parts u8_info
  obtain ⟨⟨hty, hfl, hcode, hwt, hsets⟩, hst, hoth, hwin⟩ := hk
  have HX := Lib.hid (Row.new w 66 (F.fm dA dc sA sc).c)
  have HB : Hid (Below w.heap.size w (w.alloc (.cells (F.fm dA dc sA sc).c 66))) := (Below.refl _ _).alloc (Nat.le_refl _) _
  have HD := Lib.hid hD
  have HR := Lib.hid hR
  have HST := Lib.hid hsets
  have hleans := rleans_any (F.fm dA dc sA sc) hfl
  have hlean := rlean_any (F.fm dA dc sA sc) hoth hwt
  have hswl := sw_len F
  have hfrl := front_len F
  have HSW := Lib.hid (And.intro (@sw_3 F) (And.intro (@sw_4 F) (And.intro (@sw_5 F) (And.intro (@sw_7 F) (And.intro (@sw_8 F) (@sw_x F))))))
  have HFR := Lib.hid (And.intro (@front_lean F) (@front_sw F))
  have HPL : Hid (payL F = if 0 ≤ F.pad then UInt8.ofNat F.pad.toNat :: (frontL F ++ F.dat ++ List.replicate F.pad.toNat 0) else frontL F ++ F.dat) := rfl
  have hoi : IntKind.u64.wrap (F.oth : Int) = F.oth := by rw [IntKind.wrap_u64]; omega
  have c0 : (w.alloc (.cells (F.fm dA dc sA sc).c 66)).cell? ⟨w.heap.size, 0, none⟩ = some (.int .u8 (F.ty : Int)) := Fm.k0 HX.out
  clear hD hR hsets
  go_enter Tryz.func61, Tryz.ntmps61
  go_upto_block 0 with fail
  go_cut [3] (fun s wx => ∃ l, s = .string (tb l) ∧ Hid (l = swL F) ∧ l.length ≤ 8 + 6 * F.sets.length ∧ Hid (Row wx w.heap.size 66 (F.fm dA dc sA sc).c) ∧ Hid (Below w.heap.size w wx))
  case first =>
    clear c0
    generalize w.alloc (.cells (F.fm dA dc sA sc).c 66) = w0 at *
    rcases (by omega : F.ty = 3 ∨ F.ty = 4 ∨ F.ty = 5 ∨ F.ty = 7 ∨ F.ty = 8 ∨ (F.ty ≠ 3 ∧ F.ty ≠ 4 ∧ F.ty ≠ 5 ∧ F.ty ≠ 7 ∧ F.ty ≠ 8)) with h | h | h | h | h | h
    · have cc : w0.cell? ⟨w.heap.size, 5, none⟩ = some (.int .u32 (F.code : Int)) := Fm.k5 HX.out
      have e3 : ((F.ty : Int) == 3) = true := beq_iff_eq.2 (by omega)
      have hE := HSW.out.1 h
      rw [hE] at hswl
      have HE := Lib.hid hE
      have hn4 := fun W => rnumber_any (F.code) 4 (by omega) (by omega) W
      clear hE h HSW hleans hlean HPL HFR hfrl
      generalize be 4 (F.code) = bb at *
      go_wp2_with fail
      refine (hn4 _).mono ?_
      rintro e w2 ⟨rfl, hb⟩
      have HX2 := Lib.hid (HX.out.below hb HX.out.lt)
      have HB2 := Lib.hid (HB.out.trans (hb.mono HB.out.size))
      clear hb
      go_wp2_with fail
      go_meet
      exact ⟨bb, rfl, HE.out.symm, hswl, HX2, HB2⟩
    · have c10 : w0.cell? ⟨w.heap.size, 10, none⟩ = some (.slice sA F.sets.length sc) := Fm.k10 HX.out
      have e3 : ((F.ty : Int) == 3) = false := ne_int (b := 3) (by omega)
      have e4 : ((F.ty : Int) == 4) = true := beq_iff_eq.2 (by omega)
      have hE := HSW.out.2.1 h
      rw [hE] at hswl
      have HE := Lib.hid hE
      have HTk : Hid (∀ k, (hk : k < F.sets.length) → setsL (F.sets.take k) ++ be 2 F.sets[k].1 ++ be 4 F.sets[k].2 = setsL (F.sets.take (k + 1))) := fun k hk => by rw [setsL_take hk, List.append_assoc]
      have HTl : Hid (∀ k, (setsL (F.sets.take k)).length ≤ 30000) := fun k => by rw [setsL_length, List.length_take]; omega
      have HT0 : Hid ([] = setsL (F.sets.take 0)) := by show _ = _; rw [List.take_zero, setsL_nil]
      have HTn : Hid (setsL (F.sets.take F.sets.length) = setsL F.sets) := by show _ = _; rw [List.take_length]
      clear hE h HSW hleans hlean HPL HFR hfrl
      go_wp2_with fail
      clear c10
      go_loopw [3, 4, 18] (fun s j i wr => ∃ (k : Nat) (v : Value) (Z : List UInt8), k ≤ F.sets.length ∧ v = j ∧ i = .int .i64 k ∧ s = .string (tb Z) ∧ Hid (Z = setsL (F.sets.take k)) ∧ Hid (Row wr w.heap.size 66 (F.fm dA dc sA sc).c) ∧ Hid (Below w.heap.size w wr)) (fun _ _ i _ => F.sets.length - (intOf i).toNat)
      case atStart => exact ⟨0, _, [], Nat.zero_le _, rfl, rfl, rfl, HT0.out, HX, HB⟩
      case round =>
        clear HX HB HT0
        obtain ⟨k, v, Z, hk, rfl, rfl, rfl, hZ, HX1, HB1⟩ := hrel
        by_cases hlt : k < F.sets.length
        · obtain ⟨b, q, rfl, hb, f0, f1⟩ := HR.out.sett hlt
          have hb2 := HST.out _ (List.getElem_mem hlt)
          have ht := HTk.out k hlt
          have htl := HTl.out k
          rw [← hZ.out] at ht htl
          clear hZ
          generalize F.sets[k].1 = a at *
          generalize F.sets[k].2 = z at *
          obtain ⟨ha, hz⟩ := hb2
          have hn2 := fun W => rnumber_any a 2 (by omega) (by omega) W
          have hn4 := fun W => rnumber_any z 4 (by omega) (by omega) W
          have h2l := be_length 2 a
          have h4l := be_length 4 z
          generalize be 2 a = B2 at *
          generalize be 4 z = B4 at *
          have hadd1 := tb_add Z B2 (by omega) (by omega)
          have hadd2 := tb_add (Z ++ B2) B4 (by rw [List.length_append]; omega) (by omega)
          have HF0 : Hid (∀ W, Below w.heap.size w W → W.cell? ⟨b, q + k * 2, none⟩ = some (.int .u16 (a : Int))) := fun W hB => (hB.cell (p := ⟨b, q + k * 2, none⟩) hb).trans f0
          have HF1 : Hid (∀ W, Below w.heap.size w W → W.cell? ⟨b, q + k * 2 + 1, none⟩ = some (.int .u32 (z : Int))) := fun W hB => (hB.cell (p := ⟨b, q + k * 2 + 1, none⟩) hb).trans f1
          have hai : IntKind.u64.wrap (a : Int) = a := by rw [IntKind.wrap_u64]; omega
          have hzi : IntKind.u64.wrap (z : Int) = z := by rw [IntKind.wrap_u64]; omega
          have HT : Hid (Z ++ (B2 ++ B4) = setsL (F.sets.take (k + 1))) := by rw [← List.append_assoc]; exact ht
          clear ht
          clear f0 f1 h2l h4l htl HR HST HTk HTl HTn
          go_wp2_with fail
          have HX2 : Hid (Row wr.drew w.heap.size 66 (F.fm dA dc (some ⟨b, q, none⟩) sc).c) := HX1.out
          have HB2 : Hid (Below w.heap.size w wr.drew) := HB1.out.drew
          refine wp_region_held_drew (S := fun w' => w'.cell? ⟨w.heap.size, 10, none⟩ = some (.slice (some ⟨b, q, none⟩) F.sets.length sc) ∧ w'.cell? ⟨b, q + k * 2, none⟩ = some (.int .u16 (a : Int)) ∧ w'.cell? ⟨b, q + k * 2 + 1, none⟩ = some (.int .u32 (z : Int))) (by kernel_rfl) ⟨Fm.k10 HX2.out, HF0.out _ HB2.out, HF1.out _ HB2.out⟩ (fun hHeld => ?_)
          generalize wr.drew = w2 at *
          refine wpAnyH_take (i := 0) (v := ?v0) rfl (by kernel_rfl) (by kernel_rfl) (by kernel_rfl) (fun _ _ _ h => h) (Or.inl ⟨by rfl, ?hy0⟩) (by assumption) ?rest0
          case hy0 => (intro w hSw; (try dsimp only at hSw); go_simp <;> with_reducible rfl)
          try simp only [Act.put, List.getElem_toArray, List.getElem_cons_zero, List.getElem_cons_succ, List.setIfInBounds_toArray, List.set_cons_zero, List.set_cons_succ]
          refine wpAnyH_take (i := 1) (v := ?v1) rfl (by kernel_rfl) (by kernel_rfl) (by kernel_rfl) (fun _ _ _ h => h) (Or.inl ⟨by rfl, ?hy1⟩) (by assumption) ?rest1
          case hy1 => (intro w hSw; (try dsimp only at hSw); go_simp <;> with_reducible rfl)
          try simp only [Act.put, List.getElem_toArray, List.getElem_cons_zero, List.getElem_cons_succ, List.setIfInBounds_toArray, List.set_cons_zero, List.set_cons_succ]
          refine wpAnyH_take (i := 2) (v := ?v2) rfl (by kernel_rfl) (by kernel_rfl) (by kernel_rfl) (fun _ _ _ h => h) (Or.inl ⟨by rfl, ?hy2⟩) (by assumption) ?rest2
          case hy2 => (intro w hSw; (try dsimp only at hSw); go_simp <;> with_reducible rfl)
          try simp only [Act.put, List.getElem_toArray, List.getElem_cons_zero, List.getElem_cons_succ, List.setIfInBounds_toArray, List.set_cons_zero, List.set_cons_succ]
          refine wpAnyH_take (i := 3) (v := ?v3) rfl (by kernel_rfl) (by kernel_rfl) (by kernel_rfl) (fun _ _ _ h => h) (Or.inl ⟨by rfl, ?hy3⟩) (by assumption) ?rest3
          case hy3 => (intro w hSw; (try dsimp only at hSw); go_simp <;> with_reducible rfl)
          try simp only [Act.put, List.getElem_toArray, List.getElem_cons_zero, List.getElem_cons_succ, List.setIfInBounds_toArray, List.set_cons_zero, List.set_cons_succ]
          refine wpAnyH_take (i := 4) (v := ?v4) rfl (by kernel_rfl) (by kernel_rfl) (by kernel_rfl) (fun _ _ _ h => h) (Or.inl ⟨by rfl, ?hy4⟩) (by assumption) ?rest4
          case hy4 => (intro w hSw; (try dsimp only at hSw); go_simp <;> with_reducible rfl)
          try simp only [Act.put, List.getElem_toArray, List.getElem_cons_zero, List.getElem_cons_succ, List.setIfInBounds_toArray, List.set_cons_zero, List.set_cons_succ]
          refine wpAnyH_take (i := 5) (v := ?v5) rfl (by kernel_rfl) (by kernel_rfl) (by kernel_rfl) (fun _ _ _ h => h) (Or.inl ⟨by rfl, ?hy5⟩) (by assumption) ?rest5
          case hy5 => (intro w hSw; (try dsimp only at hSw); go_simp <;> with_reducible rfl)
          try simp only [Act.put, List.getElem_toArray, List.getElem_cons_zero, List.getElem_cons_succ, List.setIfInBounds_toArray, List.set_cons_zero, List.set_cons_succ]
          refine wpAnyH_take (i := 6) (v := ?v6) rfl (by kernel_rfl) (by kernel_rfl) (by kernel_rfl) (fun _ _ _ h => h) (Or.inl ⟨by rfl, ?hy6⟩) (by assumption) ?rest6
          case hy6 => (intro w hSw; (try dsimp only at hSw); go_simp <;> with_reducible rfl)
          try simp only [Act.put, List.getElem_toArray, List.getElem_cons_zero, List.getElem_cons_succ, List.setIfInBounds_toArray, List.set_cons_zero, List.set_cons_succ]
          refine wpAnyH_take (i := 7) (v := ?v7) rfl (by kernel_rfl) (by kernel_rfl) (by kernel_rfl) (fun _ _ _ h => h) (Or.inl ⟨by rfl, ?hy7⟩) (by assumption) ?rest7
          case hy7 => (intro w hSw; (try dsimp only at hSw); go_simp <;> with_reducible rfl)
          try simp only [Act.put, List.getElem_toArray, List.getElem_cons_zero, List.getElem_cons_succ, List.setIfInBounds_toArray, List.set_cons_zero, List.set_cons_succ]
          refine wpAnyH_take (i := 10) (v := ?v10) rfl (by kernel_rfl) (by kernel_rfl) (by kernel_rfl) (fun _ _ _ h => h) (Or.inl ⟨by rfl, ?hy10⟩) (by assumption) ?rest10
          case hy10 => (intro w hSw; (try dsimp only at hSw); go_simp <;> with_reducible rfl)
          try simp only [Act.put, List.getElem_toArray, List.getElem_cons_zero, List.getElem_cons_succ, List.setIfInBounds_toArray, List.set_cons_zero, List.set_cons_succ]
          refine wpAnyH_take (i := 11) (v := ?v11) rfl (by kernel_rfl) (by kernel_rfl) (by kernel_rfl) (fun _ _ _ h => h) (Or.inl ⟨by rfl, ?hy11⟩) (by assumption) ?rest11
          case hy11 => (intro w hSw; (try dsimp only at hSw); go_simp <;> with_reducible rfl)
          try simp only [Act.put, List.getElem_toArray, List.getElem_cons_zero, List.getElem_cons_succ, List.setIfInBounds_toArray, List.set_cons_zero, List.set_cons_succ]
          refine wpAnyH_take (i := 12) (v := ?v12) rfl (by kernel_rfl) (by kernel_rfl) (by kernel_rfl) (fun _ _ _ h => h) (Or.inl ⟨by rfl, ?hy12⟩) (by assumption) ?rest12
          case hy12 => (intro w hSw; (try dsimp only at hSw); go_simp <;> with_reducible rfl)
          try simp only [Act.put, List.getElem_toArray, List.getElem_cons_zero, List.getElem_cons_succ, List.setIfInBounds_toArray, List.set_cons_zero, List.set_cons_succ]
          refine wpAnyH_take (i := 13) (v := ?v13) rfl (by kernel_rfl) (by kernel_rfl) (by kernel_rfl) (fun _ _ _ h => h) (Or.inl ⟨by rfl, ?hy13⟩) (by assumption) ?rest13
          case hy13 => (intro w hSw; (try dsimp only at hSw); go_simp <;> with_reducible rfl)
          try simp only [Act.put, List.getElem_toArray, List.getElem_cons_zero, List.getElem_cons_succ, List.setIfInBounds_toArray, List.set_cons_zero, List.set_cons_succ]
          refine wpAnyH_take (i := 14) (v := ?v14) rfl (by kernel_rfl) (by kernel_rfl) (by kernel_rfl) (fun _ _ _ h => h) (Or.inl ⟨by rfl, ?hy14⟩) (by assumption) ?rest14
          case hy14 => (intro w hSw; (try dsimp only at hSw); go_simp <;> with_reducible rfl)
          try simp only [Act.put, List.getElem_toArray, List.getElem_cons_zero, List.getElem_cons_succ, List.setIfInBounds_toArray, List.set_cons_zero, List.set_cons_succ]
          refine wpAnyH_take (i := 15) (v := ?v15) rfl (by kernel_rfl) (by kernel_rfl) (by kernel_rfl) (fun _ _ _ h => h) (Or.inl ⟨by rfl, ?hy15⟩) (by assumption) ?rest15
          case hy15 => (intro w hSw; (try dsimp only at hSw); go_simp <;> with_reducible rfl)
          try simp only [Act.put, List.getElem_toArray, List.getElem_cons_zero, List.getElem_cons_succ, List.setIfInBounds_toArray, List.set_cons_zero, List.set_cons_succ]
          refine wpAnyH_take (i := 16) (v := ?v16) rfl (by kernel_rfl) (by kernel_rfl) (by kernel_rfl) (fun _ _ _ h => h) (Or.inl ⟨by rfl, ?hy16⟩) (by assumption) ?rest16
          case hy16 => (intro w hSw; (try dsimp only at hSw); go_simp <;> with_reducible rfl)
          try simp only [Act.put, List.getElem_toArray, List.getElem_cons_zero, List.getElem_cons_succ, List.setIfInBounds_toArray, List.set_cons_zero, List.set_cons_succ]
          refine wpAnyH_ready (rs := [8]) (by kernel_rfl) (by simp) ?_
          refine AllReadyH.cons rfl (fun K hK => ?_) AllReadyH.nil
          go_simp
          go_at_call 62
          refine (hn2 _).mono ?_
          rintro e w3 ⟨rfl, hb⟩
          have HX3 := Lib.hid (HX2.out.below hb HX2.out.lt)
          have HB3 := Lib.hid (HB2.out.trans (hb.mono HB2.out.size))
          refine hK.out _ _ ⟨Fm.k10 HX3.out, HF0.out _ HB3.out, HF1.out _ HB3.out⟩ (fun hHeld => ?_)
          clear hK K hb
          try simp only [Act.put, List.getElem_toArray, List.getElem_cons_zero, List.getElem_cons_succ, List.setIfInBounds_toArray, List.set_cons_zero, List.set_cons_succ]
          refine wpAnyH_take (i := 9) (v := ?v9q1) rfl (by kernel_rfl) (by kernel_rfl) (by kernel_rfl) (fun _ _ _ h => h) (Or.inl ⟨by rfl, ?hy9q1⟩) (by assumption) ?rest9q1
          case hy9q1 => (intro w hSw; (try dsimp only at hSw); go_simp <;> with_reducible rfl)
          try simp only [Act.put, List.getElem_toArray, List.getElem_cons_zero, List.getElem_cons_succ, List.setIfInBounds_toArray, List.set_cons_zero, List.set_cons_succ]
          refine wpAnyH_ready (rs := [17]) (by kernel_rfl) (by simp) ?_
          refine AllReadyH.cons rfl (fun K hK => ?_) AllReadyH.nil
          go_simp
          go_at_call 62
          refine (hn4 _).mono ?_
          rintro e w4 ⟨rfl, hb⟩
          have HX4 := Lib.hid (HX3.out.below hb HX3.out.lt)
          have HB4 := Lib.hid (HB3.out.trans (hb.mono HB3.out.size))
          refine hK.out _ _ ⟨Fm.k10 HX4.out, HF0.out _ HB4.out, HF1.out _ HB4.out⟩ (fun hHeld => ?_)
          clear hK K hb
          try simp only [Act.put, List.getElem_toArray, List.getElem_cons_zero, List.getElem_cons_succ, List.setIfInBounds_toArray, List.set_cons_zero, List.set_cons_succ]
          refine wpAnyH_take (i := 18) (v := ?v18q2) rfl (by kernel_rfl) (by kernel_rfl) (by kernel_rfl) (fun _ _ _ h => h) (Or.inl ⟨by rfl, ?hy18q2⟩) (by assumption) ?rest18q2
          case hy18q2 => (intro w hSw; (try dsimp only at hSw); go_simp <;> with_reducible rfl)
          try simp only [Act.put, List.getElem_toArray, List.getElem_cons_zero, List.getElem_cons_succ, List.setIfInBounds_toArray, List.set_cons_zero, List.set_cons_succ]
          refine wpAnyH_take (i := 19) (v := ?v19q2) rfl (by kernel_rfl) (by kernel_rfl) (by kernel_rfl) (fun _ _ _ h => h) (Or.inl ⟨by rfl, ?hy19q2⟩) (by assumption) ?rest19q2
          case hy19q2 => (intro w hSw; (try dsimp only at hSw); go_simp <;> with_reducible rfl)
          try simp only [Act.put, List.getElem_toArray, List.getElem_cons_zero, List.getElem_cons_succ, List.setIfInBounds_toArray, List.set_cons_zero, List.set_cons_succ]
          refine wpAnyH_done (by kernel_rfl) ?_ _
          go_wp2_with fail
          go_roundw
          case rel => exact ⟨k + 1, .int .i64 (k : Int), _, by omega, rfl, by go_num, rfl, HT, HX4, HB4⟩
          case measure => simp [intOf]; omega
        · obtain rfl : k = F.sets.length := by omega
          have hZ2 := hZ.out.trans HTn.out
          have HZ2 := Lib.hid hZ2
          clear hZ hZ2 HTn HTk HTl HST HR
          go_wp2_with fail
          go_meet
          exact ⟨Z, rfl, HZ2.out.trans HE.out.symm, by rw [HZ2.out]; exact hswl, HX1, HB1⟩
    · have cc : w0.cell? ⟨w.heap.size, 6, none⟩ = some (.int .u32 (F.oth : Int)) := Fm.k6 HX.out
      have e3 : ((F.ty : Int) == 3) = false := ne_int (b := 3) (by omega)
      have e4 : ((F.ty : Int) == 4) = false := ne_int (b := 4) (by omega)
      have e5 : ((F.ty : Int) == 5) = true := beq_iff_eq.2 (by omega)
      have hE := HSW.out.2.2.1 h
      rw [hE] at hswl
      have HE := Lib.hid hE
      have hn4 := fun W => rnumber_any (F.oth) 4 (by omega) (by omega) W
      clear hE h HSW hleans hlean HPL HFR hfrl
      generalize be 4 (F.oth) = bb at *
      go_wp2_with fail
      refine (hn4 _).mono ?_
      rintro e w2 ⟨rfl, hb⟩
      have HX2 := Lib.hid (HX.out.below hb HX.out.lt)
      have HB2 := Lib.hid (HB.out.trans (hb.mono HB.out.size))
      clear hb
      go_wp2_with fail
      go_meet
      exact ⟨bb, rfl, HE.out.symm, hswl, HX2, HB2⟩
    · have h0 : True := trivial
      have e3 : ((F.ty : Int) == 3) = false := ne_int (b := 3) (by omega)
      have e4 : ((F.ty : Int) == 4) = false := ne_int (b := 4) (by omega)
      have e5 : ((F.ty : Int) == 5) = false := ne_int (b := 5) (by omega)
      have e7 : ((F.ty : Int) == 7) = true := beq_iff_eq.2 (by omega)
      have hE := HSW.out.2.2.2.1 h
      rw [hE] at hswl
      have HE := Lib.hid hE
      have hn4 := fun W => rnumber_any F.oth 4 (by omega) (by omega) W
      have hn5 := fun W => rnumber_any F.code 4 (by omega) (by omega) W
      have hb4 := be_length 4 F.oth
      have hb5 := be_length 4 F.code
      have hci : IntKind.u64.wrap (F.code : Int) = F.code := by rw [IntKind.wrap_u64]; omega
      clear hE h HSW hleans hlean HPL HFR hfrl
      generalize be 4 F.oth = bb at *
      generalize be 4 F.code = cb at *
      have hadd := tb_add bb cb (by omega) (by omega)
      clear hb4 hb5
      go_wp2_with fail
      have HX2 : Hid (Row w0.drew w.heap.size 66 (F.fm dA dc sA sc).c) := HX.out
      have HB2 : Hid (Below w.heap.size w w0.drew) := HB.out.drew
      refine wp_region_held_drew (S := fun w' => w'.cell? ⟨w.heap.size, 6, none⟩ = some (.int .u32 (F.oth : Int)) ∧ w'.cell? ⟨w.heap.size, 5, none⟩ = some (.int .u32 (F.code : Int))) (by kernel_rfl) ⟨Fm.k6 HX2.out, Fm.k5 HX2.out⟩ (fun hHeld => ?_)
      clear HX HB
      generalize w0.drew = w2 at *
      refine wpAnyH_take (i := 0) (v := ?v0q3) rfl (by kernel_rfl) (by kernel_rfl) (by kernel_rfl) (fun _ _ _ h => h) (Or.inl ⟨by rfl, ?hy0q3⟩) (by assumption) ?rest0q3
      case hy0q3 => (intro w hSw; (try dsimp only at hSw); go_simp <;> with_reducible rfl)
      try simp only [Act.put, List.getElem_toArray, List.getElem_cons_zero, List.getElem_cons_succ, List.setIfInBounds_toArray, List.set_cons_zero, List.set_cons_succ]
      refine wpAnyH_take (i := 1) (v := ?v1q3) rfl (by kernel_rfl) (by kernel_rfl) (by kernel_rfl) (fun _ _ _ h => h) (Or.inl ⟨by rfl, ?hy1q3⟩) (by assumption) ?rest1q3
      case hy1q3 => (intro w hSw; (try dsimp only at hSw); go_simp <;> with_reducible rfl)
      try simp only [Act.put, List.getElem_toArray, List.getElem_cons_zero, List.getElem_cons_succ, List.setIfInBounds_toArray, List.set_cons_zero, List.set_cons_succ]
      refine wpAnyH_take (i := 2) (v := ?v2q3) rfl (by kernel_rfl) (by kernel_rfl) (by kernel_rfl) (fun _ _ _ h => h) (Or.inl ⟨by rfl, ?hy2q3⟩) (by assumption) ?rest2q3
      case hy2q3 => (intro w hSw; (try dsimp only at hSw); go_simp <;> with_reducible rfl)
      try simp only [Act.put, List.getElem_toArray, List.getElem_cons_zero, List.getElem_cons_succ, List.setIfInBounds_toArray, List.set_cons_zero, List.set_cons_succ]
      refine wpAnyH_take (i := 4) (v := ?v4q3) rfl (by kernel_rfl) (by kernel_rfl) (by kernel_rfl) (fun _ _ _ h => h) (Or.inl ⟨by rfl, ?hy4q3⟩) (by assumption) ?rest4q3
      case hy4q3 => (intro w hSw; (try dsimp only at hSw); go_simp <;> with_reducible rfl)
      try simp only [Act.put, List.getElem_toArray, List.getElem_cons_zero, List.getElem_cons_succ, List.setIfInBounds_toArray, List.set_cons_zero, List.set_cons_succ]
      refine wpAnyH_take (i := 5) (v := ?v5q3) rfl (by kernel_rfl) (by kernel_rfl) (by kernel_rfl) (fun _ _ _ h => h) (Or.inl ⟨by rfl, ?hy5q3⟩) (by assumption) ?rest5q3
      case hy5q3 => (intro w hSw; (try dsimp only at hSw); go_simp <;> with_reducible rfl)
      try simp only [Act.put, List.getElem_toArray, List.getElem_cons_zero, List.getElem_cons_succ, List.setIfInBounds_toArray, List.set_cons_zero, List.set_cons_succ]
      refine wpAnyH_take (i := 6) (v := ?v6q3) rfl (by kernel_rfl) (by kernel_rfl) (by kernel_rfl) (fun _ _ _ h => h) (Or.inl ⟨by rfl, ?hy6q3⟩) (by assumption) ?rest6q3
      case hy6q3 => (intro w hSw; (try dsimp only at hSw); go_simp <;> with_reducible rfl)
      try simp only [Act.put, List.getElem_toArray, List.getElem_cons_zero, List.getElem_cons_succ, List.setIfInBounds_toArray, List.set_cons_zero, List.set_cons_succ]
      refine wpAnyH_ready (rs := [3]) (by kernel_rfl) (by simp) ?_
      refine AllReadyH.cons rfl (fun K hK => ?_) AllReadyH.nil
      go_simp
      go_at_call 62
      refine (hn4 _).mono ?_
      rintro e w3 ⟨rfl, hb⟩
      have HX3 := Lib.hid (HX2.out.below hb HX2.out.lt)
      have HB3 := Lib.hid (HB2.out.trans (hb.mono HB2.out.size))
      refine hK.out _ _ ⟨Fm.k6 HX3.out, Fm.k5 HX3.out⟩ (fun hHeld => ?_)
      clear hK K hb
      try simp only [Act.put, List.getElem_toArray, List.getElem_cons_zero, List.getElem_cons_succ, List.setIfInBounds_toArray, List.set_cons_zero, List.set_cons_succ]
      refine wpAnyH_ready (rs := [7]) (by kernel_rfl) (by simp) ?_
      refine AllReadyH.cons rfl (fun K hK => ?_) AllReadyH.nil
      go_simp
      go_at_call 62
      refine (hn5 _).mono ?_
      rintro e w4 ⟨rfl, hb⟩
      have HX4 := Lib.hid (HX3.out.below hb HX3.out.lt)
      have HB4 := Lib.hid (HB3.out.trans (hb.mono HB3.out.size))
      refine hK.out _ _ ⟨Fm.k6 HX4.out, Fm.k5 HX4.out⟩ (fun hHeld => ?_)
      clear hK K hb
      try simp only [Act.put, List.getElem_toArray, List.getElem_cons_zero, List.getElem_cons_succ, List.setIfInBounds_toArray, List.set_cons_zero, List.set_cons_succ]
      refine wpAnyH_take (i := 8) (v := ?v8q4) rfl (by kernel_rfl) (by kernel_rfl) (by kernel_rfl) (fun _ _ _ h => h) (Or.inl ⟨by rfl, ?hy8q4⟩) (by assumption) ?rest8q4
      case hy8q4 => (intro w hSw; (try dsimp only at hSw); go_simp <;> with_reducible rfl)
      try simp only [Act.put, List.getElem_toArray, List.getElem_cons_zero, List.getElem_cons_succ, List.setIfInBounds_toArray, List.set_cons_zero, List.set_cons_succ]
      refine wpAnyH_take (i := 9) (v := ?v9q4) rfl (by kernel_rfl) (by kernel_rfl) (by kernel_rfl) (fun _ _ _ h => h) (Or.inl ⟨by rfl, ?hy9q4⟩) (by assumption) ?rest9q4
      case hy9q4 => (intro w hSw; (try dsimp only at hSw); go_simp <;> with_reducible rfl)
      try simp only [Act.put, List.getElem_toArray, List.getElem_cons_zero, List.getElem_cons_succ, List.setIfInBounds_toArray, List.set_cons_zero, List.set_cons_succ]
      refine wpAnyH_done (by kernel_rfl) ?_ _
      go_wp2_with fail
      go_meet
      exact ⟨bb ++ cb, rfl, HE.out.symm, hswl, HX4, HB4⟩
    · have cc : w0.cell? ⟨w.heap.size, 9, none⟩ = some (.int .u32 (F.win : Int)) := Fm.k9 HX.out
      have e3 : ((F.ty : Int) == 3) = false := ne_int (b := 3) (by omega)
      have e4 : ((F.ty : Int) == 4) = false := ne_int (b := 4) (by omega)
      have e5 : ((F.ty : Int) == 5) = false := ne_int (b := 5) (by omega)
      have e7 : ((F.ty : Int) == 7) = false := ne_int (b := 7) (by omega)
      have e8 : ((F.ty : Int) == 8) = true := beq_iff_eq.2 (by omega)
      have hE := HSW.out.2.2.2.2.1 h
      rw [hE] at hswl
      have HE := Lib.hid hE
      have hn4 := fun W => rnumber_any (F.win) 4 (by omega) (by omega) W
      clear hE h HSW hleans hlean HPL HFR hfrl
      generalize be 4 (F.win) = bb at *
      go_wp2_with fail
      refine (hn4 _).mono ?_
      rintro e w2 ⟨rfl, hb⟩
      have HX2 := Lib.hid (HX.out.below hb HX.out.lt)
      have HB2 := Lib.hid (HB.out.trans (hb.mono HB.out.size))
      clear hb
      go_wp2_with fail
      go_meet
      exact ⟨bb, rfl, HE.out.symm, hswl, HX2, HB2⟩
    · have hE := HSW.out.2.2.2.2.2 (by omega)
      rw [hE] at hswl
      have HE := Lib.hid hE
      have e3 : ((F.ty : Int) == 3) = false := ne_int (b := 3) (by omega)
      have e4 : ((F.ty : Int) == 4) = false := ne_int (b := 4) (by omega)
      have e5 : ((F.ty : Int) == 5) = false := ne_int (b := 5) (by omega)
      have e7 : ((F.ty : Int) == 7) = false := ne_int (b := 7) (by omega)
      have e8 : ((F.ty : Int) == 8) = false := ne_int (b := 8) (by omega)
      clear hE h HSW hleans hlean HPL HFR hfrl
      go_wp2_with fail
      go_meet
      exact ⟨[], rfl, HE.out.symm, hswl, HX, HB⟩
  case rest =>
    obtain ⟨l0, rfl, hl0, hl0n, HX1, HB1⟩ := hcut
    clear HSW HST HR hswl HX HB
    generalize wc = w1 at *
    go_wp2_with (refine wpList_fm rfl _ rfl rfl HX1.out ?_)
    refine (hleans _).mono ?_
    rintro e w2 ⟨rfl, hb⟩
    have HX2 := Lib.hid (HX1.out.below hb HX1.out.lt)
    have HB2 := Lib.hid (HB1.out.trans (hb.mono HB1.out.size))
    clear hb hleans HX1 HB1
    go_upto_if 65 with fail
    go_cut [3] (fun s wx => ∃ l, s = .string (tb l) ∧ Hid (l = frontL F) ∧ Hid (Row wx w.heap.size 66 (F.fm dA dc sA sc).c) ∧ Hid (Below w.heap.size w wx))
    case first =>
      cases hlb : leanB (F.fm dA dc sA sc).ty (F.fm dA dc sA sc).fl with
      | true =>
        have HE := Lib.hid (HFR.out.1 hlb)
        have hlean : ∀ W, Calls Tryz.prog 97 #[.agg (F.fm dA dc sA sc).c] W fun e w' => e = .returned (.string (tb (frontL F))) ∧ Below W.heap.size W w' := fun W => by rw [HE.out]; exact hlean W
        clear hlb HFR HPL hl0
        go_wp2_with (refine wpList_fm rfl _ rfl rfl HX2.out ?_)
        refine (hlean _).mono ?_
        rintro e w3 ⟨rfl, hb⟩
        have HX3 := Lib.hid (HX2.out.below hb HX2.out.lt)
        have HB3 := Lib.hid (HB2.out.trans (hb.mono HB2.out.size))
        clear hb hlean
        go_wp2_with fail
        go_meet
        exact ⟨_, rfl, rfl, HX3, HB3⟩
      | false =>
        have HE := Lib.hid (HFR.out.2 hlb)
        clear hlb HFR HPL
        go_wp2_with fail
        go_meet
        exact ⟨_, rfl, hl0.out.trans HE.out.symm, HX2, HB2⟩
    case rest =>
      obtain ⟨l1, rfl, hl1, HX3, HB3⟩ := hcut
      clear HX2 HB2 hl0 hlean HFR
      generalize wc = w3 at *
      have hl1n : l1.length ≤ 8 + 6 * F.sets.length := by rw [hl1.out]; exact hfrl
      have c3 : w3.cell? ⟨w.heap.size, 3, none⟩ = some (.slice dA F.dat.length dc) := Fm.k3 HX3.out
      have c4 : w3.cell? ⟨w.heap.size, 4, none⟩ = some (.int .i64 F.pad) := Fm.k4 HX3.out
      have hdt : (convert 22 9 (.slice dA F.dat.length dc)).run Tryz.prog w3 = .ok (.string (tb F.dat)) w3 := run_text (P := Tryz.prog) (c := dc) Tryz.underlying22 Tryz.underlying5 Tryz.underlying9 (HD.out.below HB3.out)
      have hadd := tb_add l1 F.dat (by omega) (by omega)
      rw [← hl1.out] at HPL
      have hl2n : (l1 ++ F.dat).length ≤ 60000 := by rw [List.length_append]; omega
      generalize hl2 : l1 ++ F.dat = l2 at *
      clear hl2 hl1n hfrl
      by_cases h0 : 0 ≤ F.pad
      · rw [if_pos h0] at HPL
        obtain ⟨p, hpp⟩ : ∃ p : Nat, F.pad = p := ⟨F.pad.toNat, by omega⟩
        rw [hpp] at HPL c4 hp
        have hp8 : p < 256 := by omega
        have hmk : ∀ W : World, (Instr.makeSlice 22 (.int .i64 (p : Int)) (.int .i64 (p : Int))).run Tryz.prog W = .ok (.slice (some ⟨W.heap.size, 0, none⟩) p p) (W.alloc (.cells (madeCells #[Value.int .u8 0] p) 5)) := fun W => by
          have := run_make (P := Tryz.prog) W 22 5 i0 (.int .u8 0) Tryz.underlying22 hi0 hz0 .i64 .i64 p p (by omega) (by omega) (by rw [hz2]; omega) (by omega)
          rw [this, hz1]
          simp only [Int.toNat_natCast, Nat.mul_one]
          rfl
        have hpi : IntKind.u8.wrap (p : Int) = p := by rw [IntKind.wrap_u8]; omega
        have hadd3 : ∀ W : World, (Op.stringOp .add (tb [UInt8.ofNat p]) (tb l2)).run Tryz.prog W = .ok (.string (tb (UInt8.ofNat p :: l2))) W := tb_add [UInt8.ofNat p] l2 (by simp) (by omega)
        have hadd4 := tb_add (UInt8.ofNat p :: l2) (List.replicate p 0) (by simp; omega) (by simp; omega)
        have HPL : Hid (payL F = UInt8.ofNat p :: (l2 ++ List.replicate p 0)) := HPL.out
        clear h0
        have HK4 : Hid (∀ W, Row W w.heap.size 66 (F.fm dA dc sA sc).c → W.cell? ⟨w.heap.size, 4, none⟩ = some (.int .i64 (p : Int))) := fun W h => (Fm.k4 h).trans (by rw [← hpp]; rfl)
        clear hpp
        go_wp2_with fail
        have HX2 : Hid (Row w3.drew w.heap.size 66 (F.fm dA dc sA sc).c) := HX3.out
        have HB2 : Hid (Below w.heap.size w w3.drew) := HB3.out.drew
        refine wp_region_held_drew (S := fun w' => w'.cell? ⟨w.heap.size, 4, none⟩ = some (.int .i64 (p : Int))) (by kernel_rfl) (HK4.out _ HX2.out) (fun hHeld => ?_)
        clear c3 c4 hdt hadd HX3 HB3
        generalize w3.drew = w2 at *
        refine wpAnyH_take (i := 0) (v := ?v0q5) rfl (by kernel_rfl) (by kernel_rfl) (by kernel_rfl) (fun _ _ _ h => h) (Or.inl ⟨by rfl, ?hy0q5⟩) (by assumption) ?rest0q5
        case hy0q5 => (intro w hSw; (try dsimp only at hSw); go_simp <;> with_reducible rfl)
        try simp only [Act.put, List.getElem_toArray, List.getElem_cons_zero, List.getElem_cons_succ, List.setIfInBounds_toArray, List.set_cons_zero, List.set_cons_succ]
        refine wpAnyH_take (i := 1) (v := ?v1q5) rfl (by kernel_rfl) (by kernel_rfl) (by kernel_rfl) (fun _ _ _ h => h) (Or.inl ⟨by rfl, ?hy1q5⟩) (by assumption) ?rest1q5
        case hy1q5 => (intro w hSw; (try dsimp only at hSw); go_simp <;> with_reducible rfl)
        try simp only [Act.put, List.getElem_toArray, List.getElem_cons_zero, List.getElem_cons_succ, List.setIfInBounds_toArray, List.set_cons_zero, List.set_cons_succ]
        refine wpAnyH_take (i := 2) (v := ?v2q5) rfl (by kernel_rfl) (by kernel_rfl) (by kernel_rfl) (fun _ _ _ h => h) (Or.inl ⟨by rfl, ?hy2q5⟩) (by assumption) ?rest2q5
        case hy2q5 => (intro w hSw; (try dsimp only at hSw); go_simp <;> with_reducible rfl)
        try simp only [Act.put, List.getElem_toArray, List.getElem_cons_zero, List.getElem_cons_succ, List.setIfInBounds_toArray, List.set_cons_zero, List.set_cons_succ]
        refine wpAnyH_take (i := 5) (v := ?v5q5) rfl (by kernel_rfl) (by kernel_rfl) (by kernel_rfl) (fun _ _ _ h => h) (Or.inl ⟨by rfl, ?hy5q5⟩) (by assumption) ?rest5q5
        case hy5q5 => (intro w hSw; (try dsimp only at hSw); go_simp <;> with_reducible rfl)
        try simp only [Act.put, List.getElem_toArray, List.getElem_cons_zero, List.getElem_cons_succ, List.setIfInBounds_toArray, List.set_cons_zero, List.set_cons_succ]
        refine wpAnyH_take (i := 7) (v := ?v7q5) rfl (by kernel_rfl) (by kernel_rfl) (by kernel_rfl) (fun _ _ _ h => h) (Or.inl ⟨by rfl, ?hy7q5⟩) (by assumption) ?rest7q5
        case hy7q5 => (intro w hSw; (try dsimp only at hSw); go_simp <;> with_reducible rfl)
        try simp only [Act.put, List.getElem_toArray, List.getElem_cons_zero, List.getElem_cons_succ, List.setIfInBounds_toArray, List.set_cons_zero, List.set_cons_succ]
        refine wpAnyH_take (i := 8) (v := ?v8q5) rfl (by kernel_rfl) (by kernel_rfl) (by kernel_rfl) (fun _ _ _ h => h) (Or.inl ⟨by rfl, ?hy8q5⟩) (by assumption) ?rest8q5
        case hy8q5 => (intro w hSw; (try dsimp only at hSw); go_simp <;> with_reducible rfl)
        try simp only [Act.put, List.getElem_toArray, List.getElem_cons_zero, List.getElem_cons_succ, List.setIfInBounds_toArray, List.set_cons_zero, List.set_cons_succ]
        refine wpAnyH_ready (rs := [3, 9]) (by kernel_rfl) (by simp) ?_
        refine AllReadyH.cons rfl (fun K hK => ?_) (AllReadyH.cons rfl (fun K hK => ?_) AllReadyH.nil)
        · go_simp
          have HX3 := Lib.hid (HX2.out.alloc (.cells #[.int .u8 (p : Int)] 5))
          have HB3 := Lib.hid (HB2.out.alloc HB2.out.size (.cells #[.int .u8 (p : Int)] 5))
          have HL3_3 := Lib.hid (Row.new w2 5 #[.int .u8 (p : Int)])
          refine hK.out _ _ (HK4.out _ HX3.out) (fun hHeld => ?_)
          clear hK K hHeld
          generalize w2.alloc (.cells #[.int .u8 (p : Int)] 5) = w3 at *
          have hHeld := HK4.out _ HX3.out
          try simp only [Act.put, List.getElem_toArray, List.getElem_cons_zero, List.getElem_cons_succ, List.setIfInBounds_toArray, List.set_cons_zero, List.set_cons_succ]
          refine wpAnyH_ready (rs := [4, 9]) (by kernel_rfl) (by simp) ?_
          refine AllReadyH.cons rfl (fun K hK => ?_) (AllReadyH.cons rfl (fun K hK => ?_) AllReadyH.nil)
          · have ht := text1_row hp8 HL3_3.out
            go_simp
            refine hK.out _ _ (HK4.out _ HX3.out) (fun hHeld => ?_)
            clear hK K ht
            try simp only [Act.put, List.getElem_toArray, List.getElem_cons_zero, List.getElem_cons_succ, List.setIfInBounds_toArray, List.set_cons_zero, List.set_cons_succ]
            refine wpAnyH_take (i := 6) (v := ?v6q6) rfl (by kernel_rfl) (by kernel_rfl) (by kernel_rfl) (fun _ _ _ h => h) (Or.inl ⟨by rfl, ?hy6q6⟩) (by assumption) ?rest6q6
            case hy6q6 => (intro w hSw; (try dsimp only at hSw); go_simp <;> with_reducible rfl)
            try simp only [Act.put, List.getElem_toArray, List.getElem_cons_zero, List.getElem_cons_succ, List.setIfInBounds_toArray, List.set_cons_zero, List.set_cons_succ]
            refine wpAnyH_ready (rs := [9]) (by kernel_rfl) (by simp) ?_
            refine AllReadyH.cons rfl (fun K hK => ?_) AllReadyH.nil
            go_simp
            have HX4 := Lib.hid (HX3.out.alloc (.cells (madeCells #[Value.int .u8 0] p) 5))
            have HB4 := Lib.hid (HB3.out.alloc HB3.out.size (.cells (madeCells #[Value.int .u8 0] p) 5))
            have HL9_4 := Lib.hid (Row.new w3 5 (madeCells #[Value.int .u8 0] p))
            have HL3_4 := Lib.hid (HL3_3.out.alloc (.cells (madeCells #[Value.int .u8 0] p) 5))
            refine hK.out _ _ (HK4.out _ HX4.out) (fun hHeld => ?_)
            clear hK K hHeld
            generalize w3.alloc (.cells (madeCells #[Value.int .u8 0] p) 5) = w4 at *
            have hHeld := HK4.out _ HX4.out
            try simp only [Act.put, List.getElem_toArray, List.getElem_cons_zero, List.getElem_cons_succ, List.setIfInBounds_toArray, List.set_cons_zero, List.set_cons_succ]
            refine wpAnyH_ready (rs := [10]) (by kernel_rfl) (by simp) ?_
            refine AllReadyH.cons rfl (fun K hK => ?_) AllReadyH.nil
            have ht := zeros_row HL9_4.out
            go_simp
            refine hK.out _ _ (HK4.out _ HX4.out) (fun hHeld => ?_)
            clear hK K ht
            try simp only [Act.put, List.getElem_toArray, List.getElem_cons_zero, List.getElem_cons_succ, List.setIfInBounds_toArray, List.set_cons_zero, List.set_cons_succ]
            refine wpAnyH_take (i := 11) (v := ?v11q7) rfl (by kernel_rfl) (by kernel_rfl) (by kernel_rfl) (fun _ _ _ h => h) (Or.inl ⟨by rfl, ?hy11q7⟩) (by assumption) ?rest11q7
            case hy11q7 => (intro w hSw; (try dsimp only at hSw); go_simp <;> with_reducible rfl)
            try simp only [Act.put, List.getElem_toArray, List.getElem_cons_zero, List.getElem_cons_succ, List.setIfInBounds_toArray, List.set_cons_zero, List.set_cons_succ]
            refine wpAnyH_take (i := 12) (v := ?v12q7) rfl (by kernel_rfl) (by kernel_rfl) (by kernel_rfl) (fun _ _ _ h => h) (Or.inl ⟨by rfl, ?hy12q7⟩) (by assumption) ?rest12q7
            case hy12q7 => (intro w hSw; (try dsimp only at hSw); go_simp <;> with_reducible rfl)
            try simp only [Act.put, List.getElem_toArray, List.getElem_cons_zero, List.getElem_cons_succ, List.setIfInBounds_toArray, List.set_cons_zero, List.set_cons_succ]
            refine wpAnyH_done (by kernel_rfl) ?_ _
            go_wp2_with fail
            go_ret
            rw [HPL.out]
            exact ⟨rfl, HB4.out⟩
          · go_simp
            have HX4 := Lib.hid (HX3.out.alloc (.cells (madeCells #[Value.int .u8 0] p) 5))
            have HB4 := Lib.hid (HB3.out.alloc HB3.out.size (.cells (madeCells #[Value.int .u8 0] p) 5))
            have HL9_4 := Lib.hid (Row.new w3 5 (madeCells #[Value.int .u8 0] p))
            have HL3_4 := Lib.hid (HL3_3.out.alloc (.cells (madeCells #[Value.int .u8 0] p) 5))
            refine hK.out _ _ (HK4.out _ HX4.out) (fun hHeld => ?_)
            clear hK K hHeld
            generalize w3.alloc (.cells (madeCells #[Value.int .u8 0] p) 5) = w4 at *
            have hHeld := HK4.out _ HX4.out
            try simp only [Act.put, List.getElem_toArray, List.getElem_cons_zero, List.getElem_cons_succ, List.setIfInBounds_toArray, List.set_cons_zero, List.set_cons_succ]
            refine wpAnyH_ready (rs := [4, 10]) (by kernel_rfl) (by simp) ?_
            refine AllReadyH.cons rfl (fun K hK => ?_) (AllReadyH.cons rfl (fun K hK => ?_) AllReadyH.nil)
            · have ht := text1_row hp8 HL3_4.out
              go_simp
              refine hK.out _ _ (HK4.out _ HX4.out) (fun hHeld => ?_)
              clear hK K ht
              try simp only [Act.put, List.getElem_toArray, List.getElem_cons_zero, List.getElem_cons_succ, List.setIfInBounds_toArray, List.set_cons_zero, List.set_cons_succ]
              refine wpAnyH_take (i := 6) (v := ?v6q8) rfl (by kernel_rfl) (by kernel_rfl) (by kernel_rfl) (fun _ _ _ h => h) (Or.inl ⟨by rfl, ?hy6q8⟩) (by assumption) ?rest6q8
              case hy6q8 => (intro w hSw; (try dsimp only at hSw); go_simp <;> with_reducible rfl)
              try simp only [Act.put, List.getElem_toArray, List.getElem_cons_zero, List.getElem_cons_succ, List.setIfInBounds_toArray, List.set_cons_zero, List.set_cons_succ]
              refine wpAnyH_ready (rs := [10]) (by kernel_rfl) (by simp) ?_
              refine AllReadyH.cons rfl (fun K hK => ?_) AllReadyH.nil
              have ht := zeros_row HL9_4.out
              go_simp
              refine hK.out _ _ (HK4.out _ HX4.out) (fun hHeld => ?_)
              clear hK K ht
              try simp only [Act.put, List.getElem_toArray, List.getElem_cons_zero, List.getElem_cons_succ, List.setIfInBounds_toArray, List.set_cons_zero, List.set_cons_succ]
              refine wpAnyH_take (i := 11) (v := ?v11q9) rfl (by kernel_rfl) (by kernel_rfl) (by kernel_rfl) (fun _ _ _ h => h) (Or.inl ⟨by rfl, ?hy11q9⟩) (by assumption) ?rest11q9
              case hy11q9 => (intro w hSw; (try dsimp only at hSw); go_simp <;> with_reducible rfl)
              try simp only [Act.put, List.getElem_toArray, List.getElem_cons_zero, List.getElem_cons_succ, List.setIfInBounds_toArray, List.set_cons_zero, List.set_cons_succ]
              refine wpAnyH_take (i := 12) (v := ?v12q9) rfl (by kernel_rfl) (by kernel_rfl) (by kernel_rfl) (fun _ _ _ h => h) (Or.inl ⟨by rfl, ?hy12q9⟩) (by assumption) ?rest12q9
              case hy12q9 => (intro w hSw; (try dsimp only at hSw); go_simp <;> with_reducible rfl)
              try simp only [Act.put, List.getElem_toArray, List.getElem_cons_zero, List.getElem_cons_succ, List.setIfInBounds_toArray, List.set_cons_zero, List.set_cons_succ]
              refine wpAnyH_done (by kernel_rfl) ?_ _
              go_wp2_with fail
              go_ret
              rw [HPL.out]
              exact ⟨rfl, HB4.out⟩
            · have ht := zeros_row HL9_4.out
              go_simp
              refine hK.out _ _ (HK4.out _ HX4.out) (fun hHeld => ?_)
              clear hK K ht
              try simp only [Act.put, List.getElem_toArray, List.getElem_cons_zero, List.getElem_cons_succ, List.setIfInBounds_toArray, List.set_cons_zero, List.set_cons_succ]
              refine wpAnyH_ready (rs := [4]) (by kernel_rfl) (by simp) ?_
              refine AllReadyH.cons rfl (fun K hK => ?_) AllReadyH.nil
              have ht := text1_row hp8 HL3_4.out
              go_simp
              refine hK.out _ _ (HK4.out _ HX4.out) (fun hHeld => ?_)
              clear hK K ht
              try simp only [Act.put, List.getElem_toArray, List.getElem_cons_zero, List.getElem_cons_succ, List.setIfInBounds_toArray, List.set_cons_zero, List.set_cons_succ]
              refine wpAnyH_take (i := 6) (v := ?v6q10) rfl (by kernel_rfl) (by kernel_rfl) (by kernel_rfl) (fun _ _ _ h => h) (Or.inl ⟨by rfl, ?hy6q10⟩) (by assumption) ?rest6q10
              case hy6q10 => (intro w hSw; (try dsimp only at hSw); go_simp <;> with_reducible rfl)
              try simp only [Act.put, List.getElem_toArray, List.getElem_cons_zero, List.getElem_cons_succ, List.setIfInBounds_toArray, List.set_cons_zero, List.set_cons_succ]
              refine wpAnyH_take (i := 11) (v := ?v11q10) rfl (by kernel_rfl) (by kernel_rfl) (by kernel_rfl) (fun _ _ _ h => h) (Or.inl ⟨by rfl, ?hy11q10⟩) (by assumption) ?rest11q10
              case hy11q10 => (intro w hSw; (try dsimp only at hSw); go_simp <;> with_reducible rfl)
              try simp only [Act.put, List.getElem_toArray, List.getElem_cons_zero, List.getElem_cons_succ, List.setIfInBounds_toArray, List.set_cons_zero, List.set_cons_succ]
              refine wpAnyH_take (i := 12) (v := ?v12q10) rfl (by kernel_rfl) (by kernel_rfl) (by kernel_rfl) (fun _ _ _ h => h) (Or.inl ⟨by rfl, ?hy12q10⟩) (by assumption) ?rest12q10
              case hy12q10 => (intro w hSw; (try dsimp only at hSw); go_simp <;> with_reducible rfl)
              try simp only [Act.put, List.getElem_toArray, List.getElem_cons_zero, List.getElem_cons_succ, List.setIfInBounds_toArray, List.set_cons_zero, List.set_cons_succ]
              refine wpAnyH_done (by kernel_rfl) ?_ _
              go_wp2_with fail
              go_ret
              rw [HPL.out]
              exact ⟨rfl, HB4.out⟩
        · go_simp
          have HX3 := Lib.hid (HX2.out.alloc (.cells (madeCells #[Value.int .u8 0] p) 5))
          have HB3 := Lib.hid (HB2.out.alloc HB2.out.size (.cells (madeCells #[Value.int .u8 0] p) 5))
          have HL9_3 := Lib.hid (Row.new w2 5 (madeCells #[Value.int .u8 0] p))
          refine hK.out _ _ (HK4.out _ HX3.out) (fun hHeld => ?_)
          clear hK K hHeld
          generalize w2.alloc (.cells (madeCells #[Value.int .u8 0] p) 5) = w3 at *
          have hHeld := HK4.out _ HX3.out
          try simp only [Act.put, List.getElem_toArray, List.getElem_cons_zero, List.getElem_cons_succ, List.setIfInBounds_toArray, List.set_cons_zero, List.set_cons_succ]
          refine wpAnyH_ready (rs := [3, 10]) (by kernel_rfl) (by simp) ?_
          refine AllReadyH.cons rfl (fun K hK => ?_) (AllReadyH.cons rfl (fun K hK => ?_) AllReadyH.nil)
          · go_simp
            have HX4 := Lib.hid (HX3.out.alloc (.cells #[.int .u8 (p : Int)] 5))
            have HB4 := Lib.hid (HB3.out.alloc HB3.out.size (.cells #[.int .u8 (p : Int)] 5))
            have HL3_4 := Lib.hid (Row.new w3 5 #[.int .u8 (p : Int)])
            have HL9_4 := Lib.hid (HL9_3.out.alloc (.cells #[.int .u8 (p : Int)] 5))
            refine hK.out _ _ (HK4.out _ HX4.out) (fun hHeld => ?_)
            clear hK K hHeld
            generalize w3.alloc (.cells #[.int .u8 (p : Int)] 5) = w4 at *
            have hHeld := HK4.out _ HX4.out
            try simp only [Act.put, List.getElem_toArray, List.getElem_cons_zero, List.getElem_cons_succ, List.setIfInBounds_toArray, List.set_cons_zero, List.set_cons_succ]
            refine wpAnyH_ready (rs := [4, 10]) (by kernel_rfl) (by simp) ?_
            refine AllReadyH.cons rfl (fun K hK => ?_) (AllReadyH.cons rfl (fun K hK => ?_) AllReadyH.nil)
            · have ht := text1_row hp8 HL3_4.out
              go_simp
              refine hK.out _ _ (HK4.out _ HX4.out) (fun hHeld => ?_)
              clear hK K ht
              try simp only [Act.put, List.getElem_toArray, List.getElem_cons_zero, List.getElem_cons_succ, List.setIfInBounds_toArray, List.set_cons_zero, List.set_cons_succ]
              refine wpAnyH_take (i := 6) (v := ?v6q11) rfl (by kernel_rfl) (by kernel_rfl) (by kernel_rfl) (fun _ _ _ h => h) (Or.inl ⟨by rfl, ?hy6q11⟩) (by assumption) ?rest6q11
              case hy6q11 => (intro w hSw; (try dsimp only at hSw); go_simp <;> with_reducible rfl)
              try simp only [Act.put, List.getElem_toArray, List.getElem_cons_zero, List.getElem_cons_succ, List.setIfInBounds_toArray, List.set_cons_zero, List.set_cons_succ]
              refine wpAnyH_ready (rs := [10]) (by kernel_rfl) (by simp) ?_
              refine AllReadyH.cons rfl (fun K hK => ?_) AllReadyH.nil
              have ht := zeros_row HL9_4.out
              go_simp
              refine hK.out _ _ (HK4.out _ HX4.out) (fun hHeld => ?_)
              clear hK K ht
              try simp only [Act.put, List.getElem_toArray, List.getElem_cons_zero, List.getElem_cons_succ, List.setIfInBounds_toArray, List.set_cons_zero, List.set_cons_succ]
              refine wpAnyH_take (i := 11) (v := ?v11q12) rfl (by kernel_rfl) (by kernel_rfl) (by kernel_rfl) (fun _ _ _ h => h) (Or.inl ⟨by rfl, ?hy11q12⟩) (by assumption) ?rest11q12
              case hy11q12 => (intro w hSw; (try dsimp only at hSw); go_simp <;> with_reducible rfl)
              try simp only [Act.put, List.getElem_toArray, List.getElem_cons_zero, List.getElem_cons_succ, List.setIfInBounds_toArray, List.set_cons_zero, List.set_cons_succ]
              refine wpAnyH_take (i := 12) (v := ?v12q12) rfl (by kernel_rfl) (by kernel_rfl) (by kernel_rfl) (fun _ _ _ h => h) (Or.inl ⟨by rfl, ?hy12q12⟩) (by assumption) ?rest12q12
              case hy12q12 => (intro w hSw; (try dsimp only at hSw); go_simp <;> with_reducible rfl)
              try simp only [Act.put, List.getElem_toArray, List.getElem_cons_zero, List.getElem_cons_succ, List.setIfInBounds_toArray, List.set_cons_zero, List.set_cons_succ]
              refine wpAnyH_done (by kernel_rfl) ?_ _
              go_wp2_with fail
              go_ret
              rw [HPL.out]
              exact ⟨rfl, HB4.out⟩
            · have ht := zeros_row HL9_4.out
              go_simp
              refine hK.out _ _ (HK4.out _ HX4.out) (fun hHeld => ?_)
              clear hK K ht
              try simp only [Act.put, List.getElem_toArray, List.getElem_cons_zero, List.getElem_cons_succ, List.setIfInBounds_toArray, List.set_cons_zero, List.set_cons_succ]
              refine wpAnyH_ready (rs := [4]) (by kernel_rfl) (by simp) ?_
              refine AllReadyH.cons rfl (fun K hK => ?_) AllReadyH.nil
              have ht := text1_row hp8 HL3_4.out
              go_simp
              refine hK.out _ _ (HK4.out _ HX4.out) (fun hHeld => ?_)
              clear hK K ht
              try simp only [Act.put, List.getElem_toArray, List.getElem_cons_zero, List.getElem_cons_succ, List.setIfInBounds_toArray, List.set_cons_zero, List.set_cons_succ]
              refine wpAnyH_take (i := 6) (v := ?v6q13) rfl (by kernel_rfl) (by kernel_rfl) (by kernel_rfl) (fun _ _ _ h => h) (Or.inl ⟨by rfl, ?hy6q13⟩) (by assumption) ?rest6q13
              case hy6q13 => (intro w hSw; (try dsimp only at hSw); go_simp <;> with_reducible rfl)
              try simp only [Act.put, List.getElem_toArray, List.getElem_cons_zero, List.getElem_cons_succ, List.setIfInBounds_toArray, List.set_cons_zero, List.set_cons_succ]
              refine wpAnyH_take (i := 11) (v := ?v11q13) rfl (by kernel_rfl) (by kernel_rfl) (by kernel_rfl) (fun _ _ _ h => h) (Or.inl ⟨by rfl, ?hy11q13⟩) (by assumption) ?rest11q13
              case hy11q13 => (intro w hSw; (try dsimp only at hSw); go_simp <;> with_reducible rfl)
              try simp only [Act.put, List.getElem_toArray, List.getElem_cons_zero, List.getElem_cons_succ, List.setIfInBounds_toArray, List.set_cons_zero, List.set_cons_succ]
              refine wpAnyH_take (i := 12) (v := ?v12q13) rfl (by kernel_rfl) (by kernel_rfl) (by kernel_rfl) (fun _ _ _ h => h) (Or.inl ⟨by rfl, ?hy12q13⟩) (by assumption) ?rest12q13
              case hy12q13 => (intro w hSw; (try dsimp only at hSw); go_simp <;> with_reducible rfl)
              try simp only [Act.put, List.getElem_toArray, List.getElem_cons_zero, List.getElem_cons_succ, List.setIfInBounds_toArray, List.set_cons_zero, List.set_cons_succ]
              refine wpAnyH_done (by kernel_rfl) ?_ _
              go_wp2_with fail
              go_ret
              rw [HPL.out]
              exact ⟨rfl, HB4.out⟩
          · have ht := zeros_row HL9_3.out
            go_simp
            refine hK.out _ _ (HK4.out _ HX3.out) (fun hHeld => ?_)
            clear hK K ht
            try simp only [Act.put, List.getElem_toArray, List.getElem_cons_zero, List.getElem_cons_succ, List.setIfInBounds_toArray, List.set_cons_zero, List.set_cons_succ]
            refine wpAnyH_ready (rs := [3]) (by kernel_rfl) (by simp) ?_
            refine AllReadyH.cons rfl (fun K hK => ?_) AllReadyH.nil
            go_simp
            have HX4 := Lib.hid (HX3.out.alloc (.cells #[.int .u8 (p : Int)] 5))
            have HB4 := Lib.hid (HB3.out.alloc HB3.out.size (.cells #[.int .u8 (p : Int)] 5))
            have HL3_4 := Lib.hid (Row.new w3 5 #[.int .u8 (p : Int)])
            have HL9_4 := Lib.hid (HL9_3.out.alloc (.cells #[.int .u8 (p : Int)] 5))
            refine hK.out _ _ (HK4.out _ HX4.out) (fun hHeld => ?_)
            clear hK K hHeld
            generalize w3.alloc (.cells #[.int .u8 (p : Int)] 5) = w4 at *
            have hHeld := HK4.out _ HX4.out
            try simp only [Act.put, List.getElem_toArray, List.getElem_cons_zero, List.getElem_cons_succ, List.setIfInBounds_toArray, List.set_cons_zero, List.set_cons_succ]
            refine wpAnyH_ready (rs := [4]) (by kernel_rfl) (by simp) ?_
            refine AllReadyH.cons rfl (fun K hK => ?_) AllReadyH.nil
            have ht := text1_row hp8 HL3_4.out
            go_simp
            refine hK.out _ _ (HK4.out _ HX4.out) (fun hHeld => ?_)
            clear hK K ht
            try simp only [Act.put, List.getElem_toArray, List.getElem_cons_zero, List.getElem_cons_succ, List.setIfInBounds_toArray, List.set_cons_zero, List.set_cons_succ]
            refine wpAnyH_take (i := 6) (v := ?v6q14) rfl (by kernel_rfl) (by kernel_rfl) (by kernel_rfl) (fun _ _ _ h => h) (Or.inl ⟨by rfl, ?hy6q14⟩) (by assumption) ?rest6q14
            case hy6q14 => (intro w hSw; (try dsimp only at hSw); go_simp <;> with_reducible rfl)
            try simp only [Act.put, List.getElem_toArray, List.getElem_cons_zero, List.getElem_cons_succ, List.setIfInBounds_toArray, List.set_cons_zero, List.set_cons_succ]
            refine wpAnyH_take (i := 11) (v := ?v11q14) rfl (by kernel_rfl) (by kernel_rfl) (by kernel_rfl) (fun _ _ _ h => h) (Or.inl ⟨by rfl, ?hy11q14⟩) (by assumption) ?rest11q14
            case hy11q14 => (intro w hSw; (try dsimp only at hSw); go_simp <;> with_reducible rfl)
            try simp only [Act.put, List.getElem_toArray, List.getElem_cons_zero, List.getElem_cons_succ, List.setIfInBounds_toArray, List.set_cons_zero, List.set_cons_succ]
            refine wpAnyH_take (i := 12) (v := ?v12q14) rfl (by kernel_rfl) (by kernel_rfl) (by kernel_rfl) (fun _ _ _ h => h) (Or.inl ⟨by rfl, ?hy12q14⟩) (by assumption) ?rest12q14
            case hy12q14 => (intro w hSw; (try dsimp only at hSw); go_simp <;> with_reducible rfl)
            try simp only [Act.put, List.getElem_toArray, List.getElem_cons_zero, List.getElem_cons_succ, List.setIfInBounds_toArray, List.set_cons_zero, List.set_cons_succ]
            refine wpAnyH_done (by kernel_rfl) ?_ _
            go_wp2_with fail
            go_ret
            rw [HPL.out]
            exact ⟨rfl, HB4.out⟩
      · rw [if_neg h0] at HPL
        have hdd : decide (F.pad < 0) = true := by simp; omega
        have hd2 : decide (0 ≤ F.pad) = false := by simp; omega
        clear h0
        go_wp2_with fail
        go_ret
        rw [HPL.out]
        exact ⟨rfl, HB3.out⟩
end Go.Proofs.YtooaajnkiokpnaaGreatDoor
