/-
  FramePuts, by its contract: over every frame it answers true, and below what was there nothing has turned. Conditions: the frame's numbers fit their kinds; its two slices lie where the call doesn't write; errors.errorType holds what the program's text lays.
-/
import Derived.Test.YteeglgkmenlecaaDoorRgt
import Derived.Test.YteeglgkmenlecaaDoorRsm
import Derived.Test.YteeglgkmenlecaaDoorRmay
import Derived.Test.YteeglgkmenlecaaDoorFin
import Derived.Test.YteeglgkmenlecaaDoorFbk
namespace Go.Proofs.YteeglgkmenlecaaDoor
open Go.RowKit Go.WideShapes

set_option maxRecDepth 100000 in
theorem great_any (x : Fm) (w : World) : Calls Tryd.prog 7 #[.agg x.c] w fun e w' => e = .returned (.bool (decide (20000 < x.dn) || decide (5000 < x.sn))) ∧ Below w.heap.size w w' := by
  have HR := Lib.hid (Row.new w 26 x.c)
  have HB : Hid (Below w.heap.size w (w.alloc (.cells x.c 26))) := (Below.refl _ _).alloc (Nat.le_refl _) _
  have k3 := Fm.k3 HR.out
  have k10 := Fm.k10 HR.out
  by_cases hd : 20000 < x.dn
  · have hd' : (20000 : Int) < (x.dn : Int) := by omega
    rw [decide_eq_true hd]
    clear hd
    go_enter Tryd.func7, Tryd.ntmps7
    go_wp2_with fail
    go_ret
    exact ⟨by first | rfl | simp, HB.out⟩
  · have hd' : ¬ (20000 : Int) < (x.dn : Int) := by omega
    rw [decide_eq_false hd]
    clear hd
    by_cases hs : 5000 < x.sn
    · have hs' : (5000 : Int) < (x.sn : Int) := by omega
      rw [decide_eq_true hs]
      clear hs
      go_enter Tryd.func7, Tryd.ntmps7
      go_wp2_with fail
      go_ret
      exact ⟨by first | rfl | simp, HB.out⟩
    · have hs' : ¬ (5000 : Int) < (x.sn : Int) := by omega
      rw [decide_eq_false hs]
      clear hs
      go_enter Tryd.func7, Tryd.ntmps7
      go_wp2_with fail
      go_ret
      exact ⟨by first | rfl | simp, HB.out⟩
theorem put_head (F : Frm) (h : (payL F).length ≤ 16384) : 9 + valL ((putL7 F).take 3) = (putL7 F).length := by
  have h3 : (putL7 F).take 3 = be 3 (payL F).length := by
    unfold putL7 headL
    rw [List.append_assoc, List.append_assoc, take_app (be_length 3 _)]
  rw [h3, valL_be 3 _ (by omega), putL7, List.length_append, headL_length]
theorem may_pad {F : Frm} (h : F.May) : F.pad ≤ 255 := by
  have h2 := h.2.2.1
  unfold PadOk at h2
  by_cases hp : PadP F.ty F.fl
  · exact (h2.1 hp).2
  · have := h2.2 hp
    omega
theorem RdB.draws {w : World} {A : Option Addr} {l : List UInt8} (h : RdB w w.heap.size A l) (n : Nat) : RdB (w.drewN n) (w.drewN n).heap.size A l := h
theorem Row.draws {w : World} {g : Nat} {t : TypeId} {c : Array Value} (h : Row w g t c) (n : Nat) : Row (w.drewN n) g t c := h
attribute [local irreducible] Fm.c ftc fxc enl
set_option maxRecDepth 100000 in
set_option maxHeartbeats 16000000 in
theorem fputs7_any (F : Frm) (hk : F.All) {pA qA : Option Addr} {pc qc : Nat} {w : World} (hD : RdB w w.heap.size pA F.dat) (hR : RdS w (· < w.heap.size) qA (enl sgc F.sets)) (hG : GlobE w) :
    Calls Tryd.prog 3 #[.agg (F.fm pA pc qA qc).c] w fun e w' => e = .returned (.bool true) ∧ Below w.heap.size w w' := by
  have hftc : ∀ s c : Nat, ftc s c = #[.int .u8 s, .int .u32 c] := fun s c => by unfold ftc; rfl
  have HV := Lib.hid (Row.new w 26 (F.fm pA pc qA qc).c)
  have HB : Hid (Below w.heap.size w (w.alloc (.cells (F.fm pA pc qA qc).c 26))) := (Below.refl _ _).alloc (Nat.le_refl _) _
  have hgr := great_any (F.fm pA pc qA qc) (w.alloc (.cells (F.fm pA pc qA qc).c 26))
  rw [show (decide (20000 < (F.fm pA pc qA qc).dn) || decide (5000 < (F.fm pA pc qA qc).sn)) = decide (20000 < F.dat.length ∨ 5000 < F.sets.length) from (Bool.decide_or _ _).symm] at hgr
  by_cases hbig : 20000 < F.dat.length ∨ 5000 < F.sets.length
  · rw [decide_eq_true hbig] at hgr
    clear hbig hD hR hG hk
    go_enter Tryd.func3, Tryd.ntmps3
    go_wp2_with (refine wpList_fm rfl _ rfl rfl HV.out ?_)
    refine hgr.mono ?_
    rintro e w1 ⟨rfl, hb⟩
    replace HV := Lib.hid (HV.out.below hb HV.out.lt)
    replace HB := Lib.hid (HB.out.trans (hb.mono HB.out.size))
    clear hb
    clear hgr
    go_wp2_with fail
    refine (fixed_any7 _).mono ?_
    rintro e wf ⟨rfl, hb⟩
    replace HV := Lib.hid (HV.out.below hb HV.out.lt)
    replace HB := Lib.hid (HB.out.trans (hb.mono HB.out.size))
    clear hb
    go_wp2_with fail
    go_ret
    exact ⟨rfl, HB.out⟩
  rw [decide_eq_false hbig] at hgr
  have hd : F.dat.length ≤ 20000 := by omega
  have hn : F.sets.length ≤ 5000 := by omega
  clear hbig
  have hxk : (F.fm pA pc qA qc).Ok := ⟨hk.1.ty, hk.1.fl, hk.2.1, hk.1.code, hk.2.2.1, hk.1.wt, hk.2.2.2⟩
  have hmay : ∀ W, Calls Tryd.prog 10 #[.agg (F.fm pA pc qA qc).c] W fun e w' => e = .returned (.bool (decide F.May)) ∧ Below W.heap.size W w' := fun W => may_any (F.fm pA pc qA qc) hxk (by show F.dat.length ≤ _; omega) (by show F.sets.length ≤ _; omega) W
  have hrm : ∀ W, Below w.heap.size w W → Calls Tryd.prog 11 #[.agg (F.fm pA pc qA qc).c] W fun e w' => e = .returned (.bool (decide F.May)) ∧ Below W.heap.size W w' := fun W hB =>
    rmay_any F hk hd hn ((hD.below hB).more hB.size) ((hR.below hB).imp fun g h _ => by have := hB.size; omega)
  by_cases hM : F.May
  rotate_left
  · rw [decide_eq_false hM] at hmay hrm
    have hput := fun W => fput_no (F.fm pA pc qA qc) hxk (by show F.dat.length ≤ _; omega) (by show F.sets.length ≤ _; omega) (decide_eq_false hM) W
    clear hD hR hG hk hxk hM hd hn
    go_enter Tryd.func3, Tryd.ntmps3
    go_wp2_with (refine wpList_fm rfl _ rfl rfl HV.out ?_)
    refine hgr.mono ?_
    rintro e w1 ⟨rfl, hb⟩
    replace HV := Lib.hid (HV.out.below hb HV.out.lt)
    replace HB := Lib.hid (HB.out.trans (hb.mono HB.out.size))
    clear hb
    clear hgr
    go_wp2_with (refine wpList_fm rfl _ rfl rfl HV.out ?_)
    refine (hput _).mono ?_
    rintro e w2 ⟨rfl, hb⟩
    replace HV := Lib.hid (HV.out.below hb HV.out.lt)
    replace HB := Lib.hid (HB.out.trans (hb.mono HB.out.size))
    clear hb
    clear hput
    go_upto_region 4 with fail
    go_cut [19] from 15 to 19 (fun v wx => v = .bool false ∧ Hid (Row wx w.heap.size 26 (F.fm pA pc qA qc).c) ∧ Hid (Below w.heap.size w wx))
    case first =>
      refine wp_region_held_drew (S := fun w' => Row w' w.heap.size 26 (F.fm pA pc qA qc).c ∧ True) (by kernel_rfl) ⟨HV.out, trivial⟩ (fun hHeld => ?_)
      have HV' : Hid (Row w2.drew w.heap.size 26 (F.fm pA pc qA qc).c) := HV.out
      have HB' : Hid (Below w.heap.size w w2.drew) := HB.out.drew
      clear HV HB
      have HV := HV'
      have HB := HB'
      clear HV' HB'
      generalize w2.drew = w3 at *
      refine wpAnyH_take (i := 0) (v := _) rfl (by kernel_rfl) (by kernel_rfl) (by kernel_rfl) (fun _ _ _ h => h) (yields_fm (by rfl) _ rfl rfl (fun _ hSw => hSw.1)) (by assumption) ?rest0
      try simp only [Act.put, List.getElem_toArray, List.getElem_cons_zero, List.setIfInBounds_toArray, List.set_cons_zero, List.set_cons_succ]
      refine wpAnyH_take (i := 2) (v := _) rfl (by kernel_rfl) (by kernel_rfl) (by kernel_rfl) (fun _ _ _ h => h) (yields_fm (by rfl) _ rfl rfl (fun _ hSw => hSw.1)) (by assumption) ?rest2
      try simp only [Act.put, List.getElem_toArray, List.getElem_cons_zero, List.getElem_cons_succ, List.setIfInBounds_toArray, List.set_cons_zero, List.set_cons_succ]
      refine wpAnyH_ready (rs := [1]) (by kernel_rfl) (by simp) ?_
      refine AllReadyH.cons rfl (fun K hK => ?_) AllReadyH.nil
      go_simp
      go_at_call 10
      refine (hmay _).mono ?_
      rintro e w4 ⟨rfl, hb⟩
      replace HV := Lib.hid (HV.out.below hb HV.out.lt)
      replace HB := Lib.hid (HB.out.trans (hb.mono HB.out.size))
      clear hb
      refine hK.out _ _ ⟨HV.out, trivial⟩ (fun hHeld => ?_)
      clear hK K
      try simp only [Act.put, List.getElem_toArray, List.getElem_cons_zero, List.getElem_cons_succ, List.setIfInBounds_toArray, List.set_cons_zero, List.set_cons_succ]
      refine wpAnyH_ready (rs := [3]) (by kernel_rfl) (by simp) ?_
      refine AllReadyH.cons rfl (fun K hK => ?_) AllReadyH.nil
      go_simp
      go_at_call 11
      refine (hrm _ HB.out).mono ?_
      rintro e w5 ⟨rfl, hb⟩
      replace HV := Lib.hid (HV.out.below hb HV.out.lt)
      replace HB := Lib.hid (HB.out.trans (hb.mono HB.out.size))
      clear hb
      refine hK.out _ _ ⟨HV.out, trivial⟩ (fun hHeld => ?_)
      clear hK K
      try simp only [Act.put, List.getElem_toArray, List.getElem_cons_zero, List.getElem_cons_succ, List.setIfInBounds_toArray, List.set_cons_zero, List.set_cons_succ]
      refine wpAnyH_take (i := 4) (v := ?v4q1) rfl (by kernel_rfl) (by kernel_rfl) (by kernel_rfl) (fun _ _ _ h => h) (Or.inl ⟨by rfl, ?hy4q1⟩) (by assumption) ?rest4q1
      case hy4q1 => (intro w hSw; (try dsimp only at hSw); go_simp <;> with_reducible rfl)
      try simp only [Act.put, List.getElem_toArray, List.getElem_cons_zero, List.getElem_cons_succ, List.setIfInBounds_toArray, List.set_cons_zero, List.set_cons_succ]
      refine wpAnyH_done (by kernel_rfl) ?_ _
      go_wp2_with fail
      go_meet
      exact ⟨by simp, HV, HB⟩
    case rest =>
      obtain ⟨rfl, HV', HB'⟩ := hcut
      clear HV HB
      have HV := HV'
      have HB := HB'
      clear HV' HB'
      generalize wc = w5 at *
      clear hmay
      go_wp2_with (refine wpList_fm rfl _ rfl rfl HV.out ?_)
      refine (hrm _ HB.out).mono ?_
      rintro e w6 ⟨rfl, hb⟩
      replace HV := Lib.hid (HV.out.below hb HV.out.lt)
      replace HB := Lib.hid (HB.out.trans (hb.mono HB.out.size))
      clear hb
      clear hrm
      go_wp2_with fail
      refine (fixed_any7 _).mono ?_
      rintro e wf ⟨rfl, hb⟩
      replace HV := Lib.hid (HV.out.below hb HV.out.lt)
      replace HB := Lib.hid (HB.out.trans (hb.mono HB.out.size))
      clear hb
      go_wp2_with fail
      go_ret
      exact ⟨by first | rfl | simp, HB.out⟩
  rw [decide_eq_true hM] at hmay hrm
  have hpd := may_pad hM
  have hsm := pay_small F hM
  have hph := put_head F hsm
  have hpl : (putL7 F).length = 9 + (payL F).length := by rw [putL7, List.length_append, headL_length]
  have hgp := get_put7 F hk.1 hM
  have hl9 : 9 ≤ (putL7 F).length ∧ (putL7 F).length ≤ 20000 := by omega
  clear hpl hsm
  have hput := fun W (hB : Below w.heap.size w W) => fput_yes F hk.1 hM (dA := pA) (dc := pc) (sA := qA) (sc := qc) W ((hD.below hB).more hB.size) ((hR.below hB).imp fun g h _ => by have := hB.size; omega)
  have hrput := fun W (hB : Below w.heap.size w W) => rput_any F hk hd hn hpd (dA := pA) (dc := pc) (sA := qA) (sc := qc) (w := W) ((hD.below hB).more hB.size) ((hR.below hB).imp fun g h _ => by have := hB.size; omega)
  obtain ⟨L, hL⟩ : ∃ L, putL7 F = L := ⟨_, rfl⟩
  simp only [hL] at hput hrput
  rw [hL] at hph hgp hl9
  have HPH := Lib.hid hph
  have HGP := Lib.hid hgp
  have HL9 := Lib.hid hl9
  have HG := Lib.hid hG
  have HD := Lib.hid hD
  have HR := Lib.hid hR
  have HN : Hid (F.dat.length ≤ 20000 ∧ F.sets.length ≤ 5000) := ⟨hd, hn⟩
  clear hG hxk hM hpd hk hL hph hgp hl9 hD hR hd hn
  go_enter Tryd.func3, Tryd.ntmps3
  go_wp2_with (refine wpList_fm rfl _ rfl rfl HV.out ?_)
  refine hgr.mono ?_
  rintro e w1 ⟨rfl, hb⟩
  replace HV := Lib.hid (HV.out.below hb HV.out.lt)
  replace HB := Lib.hid (HB.out.trans (hb.mono HB.out.size))
  clear hb
  clear hgr
  go_wp2_with (refine wpList_fm rfl _ rfl rfl HV.out ?_)
  refine (hput _ HB.out).mono ?_
  rintro e w2 ⟨A6, c6, rfl, hO, hb⟩
  replace HV := Lib.hid (HV.out.below hb HV.out.lt)
  replace HB := Lib.hid (HB.out.trans (hb.mono HB.out.size))
  clear hb
  obtain ⟨_, _, hsh, hc6⟩ := hO.shape
  cases hsh
  have HC6 := Lib.hid hc6
  clear hc6
  have HO := Lib.hid hO.reads
  clear hput hO
  go_upto_region 4 with fail
  go_cut [19] from 15 to 19 (fun v wx => v = .bool false ∧ Hid (Row wx w.heap.size 26 (F.fm pA pc qA qc).c) ∧ Hid (Below w.heap.size w wx) ∧ Hid (RdB wx wx.heap.size A6 L))
  case first =>
    refine wp_region_held_drew (S := fun w' => Row w' w.heap.size 26 (F.fm pA pc qA qc).c ∧ True) (by kernel_rfl) ⟨HV.out, trivial⟩ (fun hHeld => ?_)
    have HV' : Hid (Row w2.drew w.heap.size 26 (F.fm pA pc qA qc).c) := HV.out
    have HB' : Hid (Below w.heap.size w w2.drew) := HB.out.drew
    have HO' : Hid (RdB w2.drew w2.drew.heap.size A6 L) := HO.out
    clear HV HB HO
    have HV := HV'
    have HB := HB'
    have HO := HO'
    clear HV' HB' HO'
    generalize w2.drew = w3 at *
    refine wpAnyH_take (i := 0) (v := _) rfl (by kernel_rfl) (by kernel_rfl) (by kernel_rfl) (fun _ _ _ h => h) (yields_fm (by rfl) _ rfl rfl (fun _ hSw => hSw.1)) (by assumption) ?rest0q2
    try simp only [Act.put, List.getElem_toArray, List.getElem_cons_zero, List.setIfInBounds_toArray, List.set_cons_zero, List.set_cons_succ]
    refine wpAnyH_take (i := 2) (v := _) rfl (by kernel_rfl) (by kernel_rfl) (by kernel_rfl) (fun _ _ _ h => h) (yields_fm (by rfl) _ rfl rfl (fun _ hSw => hSw.1)) (by assumption) ?rest2q2
    try simp only [Act.put, List.getElem_toArray, List.getElem_cons_zero, List.getElem_cons_succ, List.setIfInBounds_toArray, List.set_cons_zero, List.set_cons_succ]
    refine wpAnyH_ready (rs := [1]) (by kernel_rfl) (by simp) ?_
    refine AllReadyH.cons rfl (fun K hK => ?_) AllReadyH.nil
    go_simp
    go_at_call 10
    refine (hmay _).mono ?_
    rintro e w4 ⟨rfl, hb⟩
    replace HV := Lib.hid (HV.out.below hb HV.out.lt)
    replace HO := Lib.hid ((HO.out.below hb).more hb.size)
    replace HB := Lib.hid (HB.out.trans (hb.mono HB.out.size))
    clear hb
    refine hK.out _ _ ⟨HV.out, trivial⟩ (fun hHeld => ?_)
    clear hK K
    try simp only [Act.put, List.getElem_toArray, List.getElem_cons_zero, List.getElem_cons_succ, List.setIfInBounds_toArray, List.set_cons_zero, List.set_cons_succ]
    refine wpAnyH_ready (rs := [3]) (by kernel_rfl) (by simp) ?_
    refine AllReadyH.cons rfl (fun K hK => ?_) AllReadyH.nil
    go_simp
    go_at_call 11
    refine (hrm _ HB.out).mono ?_
    rintro e w5 ⟨rfl, hb⟩
    replace HV := Lib.hid (HV.out.below hb HV.out.lt)
    replace HO := Lib.hid ((HO.out.below hb).more hb.size)
    replace HB := Lib.hid (HB.out.trans (hb.mono HB.out.size))
    clear hb
    refine hK.out _ _ ⟨HV.out, trivial⟩ (fun hHeld => ?_)
    clear hK K
    try simp only [Act.put, List.getElem_toArray, List.getElem_cons_zero, List.getElem_cons_succ, List.setIfInBounds_toArray, List.set_cons_zero, List.set_cons_succ]
    refine wpAnyH_take (i := 4) (v := ?v4q3) rfl (by kernel_rfl) (by kernel_rfl) (by kernel_rfl) (fun _ _ _ h => h) (Or.inl ⟨by rfl, ?hy4q3⟩) (by assumption) ?rest4q3
    case hy4q3 => (intro w hSw; (try dsimp only at hSw); go_simp <;> with_reducible rfl)
    try simp only [Act.put, List.getElem_toArray, List.getElem_cons_zero, List.getElem_cons_succ, List.setIfInBounds_toArray, List.set_cons_zero, List.set_cons_succ]
    refine wpAnyH_done (by kernel_rfl) ?_ _
    go_wp2_with fail
    go_meet
    exact ⟨by simp, HV, HB, HO⟩
  case rest =>
    obtain ⟨rfl, HV', HB', HO'⟩ := hcut
    clear HV HB HO
    have HV := HV'
    have HB := HB'
    have HO := HO'
    clear HV' HB' HO'
    generalize wc = w5 at *
    clear hmay
    go_wp2_with (refine wpList_fm rfl _ rfl rfl HV.out ?_)
    refine (hrm _ HB.out).mono ?_
    rintro e w6 ⟨rfl, hb⟩
    replace HV := Lib.hid (HV.out.below hb HV.out.lt)
    replace HO := Lib.hid ((HO.out.below hb).more hb.size)
    replace HB := Lib.hid (HB.out.trans (hb.mono HB.out.size))
    clear hb
    clear hrm
    go_wp2_with (refine wpList_fm rfl _ rfl rfl HV.out ?_)
    refine (hrput _ HB.out).mono ?_
    rintro e w7 ⟨rfl, hb⟩
    replace HV := Lib.hid (HV.out.below hb HV.out.lt)
    replace HO := Lib.hid ((HO.out.below hb).more hb.size)
    replace HB := Lib.hid (HB.out.trans (hb.mono HB.out.size))
    clear hb
    clear hrput
    have hh := head_yes (c := c6) HO.out HL9.out.1 (by have := HL9.out.2; omega)
    rw [HPH.out] at hh
    clear HPH
    go_wp2_with fail
    refine hh.mono ?_
    rintro e w8' ⟨rfl, nq, rfl⟩
    have HV' : Hid (Row (w7.drewN nq) w.heap.size 26 (F.fm pA pc qA qc).c) := Lib.hid (Row.draws HV.out nq)
    have HO' : Hid (RdB (w7.drewN nq) (w7.drewN nq).heap.size A6 L) := Lib.hid (RdB.draws HO.out nq)
    have HB' := Lib.hid (below_dN HB.out nq)
    clear HV HO HB hh
    have HV := HV'
    have HO := HO'
    have HB := HB'
    clear HV' HO' HB'
    generalize w7.drewN nq = w8 at *
    have htx : (convert 23 9 (.slice A6 L.length c6)).run Tryd.prog w8 = .ok (.string (tb L)) w8 := run_text (P := Tryd.prog) (c := c6) Tryd.underlying23 Tryd.underlying5 Tryd.underlying9 HO.out
    have hrget := fun (W : World) => rget_any (l := L) (by have := HL9.out.2; omega) W
    have HGA := Lib.hid (fun (W : World) (h1 : RdB W W.heap.size A6 L) (h3 : GlobE W) => get_any h1 HC6.out (by have := HL9.out.2; omega) h3)
    obtain ⟨RN, hRN⟩ : ∃ RN, RN = getN L := ⟨_, rfl⟩
    rw [← hRN] at HGP hrget HGA
    clear hRN
    go_upto_region 12 with fail
    clear htx
    go_wp2_with fail
    refine (hrget w8).mono ?_
    rintro e wd ⟨y, rfl, hY, hb⟩
    obtain ⟨eA, ec, tA, tc, hy⟩ : ∃ eA ec tA tc, y = RN.1.fm eA ec tA tc := ⟨_, _, _, _, hY.eq⟩
    subst hy
    clear hrget
    have HYcd := Lib.hid hY
    clear hY
    replace HV := Lib.hid (HV.out.below hb HV.out.lt)
    replace HO := Lib.hid ((HO.out.below hb).more hb.size)
    replace HB := Lib.hid (HB.out.trans (hb.mono HB.out.size))
    clear hb
    have HY0 : Hid (Row (wd.alloc (.cells #[.int .u8 0, .int .u8 0, .int .u32 0, .slice none 0 0, .int .i64 0, .int .u32 0, .int .u32 0, .int .u8 0, .bool false, .int .u32 0, .slice none 0 0, .int .u8 0, .int .u32 0] 34)) wd.heap.size 34 (fxc (fm0 0 0 0 0) 0 0)) := by show Row _ _ _ _; rw [fxz]; exact Row.made _ _ _ rfl
    have HBy : Hid (Below wd.heap.size wd ((wd.alloc (.cells #[.int .u8 0, .int .u8 0, .int .u32 0, .slice none 0 0, .int .i64 0, .int .u32 0, .int .u32 0, .int .u8 0, .bool false, .int .u32 0, .slice none 0 0, .int .u8 0, .int .u32 0] 34)).setRow wd.heap.size (fxc (RN.1.fm eA ec tA tc) RN.2.1 RN.2.2))) := below_setRow ((Below.refl _ _).alloc (Nat.le_refl _) _) _ _ (Nat.le_refl _)
    have HY : Hid (Row ((wd.alloc (.cells #[.int .u8 0, .int .u8 0, .int .u32 0, .slice none 0 0, .int .i64 0, .int .u32 0, .int .u32 0, .int .u8 0, .bool false, .int .u32 0, .slice none 0 0, .int .u8 0, .int .u32 0] 34)).setRow wd.heap.size (fxc (RN.1.fm eA ec tA tc) RN.2.1 RN.2.2)) wd.heap.size 34 (fxc (RN.1.fm eA ec tA tc) RN.2.1 RN.2.2)) := HY0.out.setRow _
    go_upto_region 13 with (refine wpList_sfx (x := RN.1.fm eA ec tA tc) (s := RN.2.1) (c := RN.2.2) rfl _ _ rfl rfl rfl HY0.out ?_)
    generalize ((wd.alloc (.cells #[.int .u8 0, .int .u8 0, .int .u32 0, .slice none 0 0, .int .i64 0, .int .u32 0, .int .u32 0, .int .u8 0, .bool false, .int .u32 0, .slice none 0 0, .int .u8 0, .int .u32 0] 34)).setRow wd.heap.size (fxc (RN.1.fm eA ec tA tc) RN.2.1 RN.2.2)) = we at *
    have HVe := Lib.hid (HV.out.below HBy.out HV.out.lt)
    have HOe := Lib.hid ((HO.out.below HBy.out).more HBy.out.size)
    have HYce := Lib.hid (HYcd.out.below HBy.out)
    have HBe := Lib.hid (HB.out.trans (HBy.out.mono HB.out.size))
    obtain ⟨g7, hg7⟩ : ∃ g7, g7 = wd.heap.size := ⟨_, rfl⟩
    rw [← hg7] at HY ⊢
    clear hg7
    clear HY0 HBy HV HO HYcd HB
    go_wp2_with fail
    refine (HGA.out _ HOe.out (HG.out.below HBe.out)).mono ?_
    rintro e w1 ⟨x, rfl, hX, hB⟩
    obtain ⟨dA, dc, sA, sc, hx⟩ : ∃ dA dc sA sc, x = RN.1.fm dA dc sA sc := ⟨_, _, _, _, hX.eq⟩
    subst hx
    clear HGA
    have HX0 : Hid (Row ((w1.alloc (.cells #[.int .u8 0, .int .u8 0, .int .u32 0, .slice none 0 0, .int .i64 0, .int .u32 0, .int .u32 0, .int .u8 0, .bool false, .int .u32 0, .slice none 0 0] 26)).alloc (.cells #[.int .u8 0, .int .u32 0] 37)) w1.heap.size 26 (fm0 0 0 0 0).c) := by show Row _ _ _ _; rw [z_c]; exact (Row.new w1 _ _).alloc _
    have hT0 : Row ((w1.alloc (.cells #[.int .u8 0, .int .u8 0, .int .u32 0, .slice none 0 0, .int .i64 0, .int .u32 0, .int .u32 0, .int .u8 0, .bool false, .int .u32 0, .slice none 0 0] 26)).alloc (.cells #[.int .u8 0, .int .u32 0] 37)) (w1.heap.size + 1) 37 (ftc 0 0) := by rw [hftc]; exact Row.made _ _ _ (by simp)
    have HT0 := Lib.hid (hT0.setRow' (k := w1.heap.size) (by omega) (RN.1.fm dA dc sA sc).c)
    have HBW : Hid (Below w1.heap.size w1 ((w1.alloc (.cells #[.int .u8 0, .int .u8 0, .int .u32 0, .slice none 0 0, .int .i64 0, .int .u32 0, .int .u32 0, .int .u8 0, .bool false, .int .u32 0, .slice none 0 0] 26)).alloc (.cells #[.int .u8 0, .int .u32 0] 37))) := ((Below.refl _ _).alloc (Nat.le_refl _) _).alloc (by simp) _
    have HXF := Lib.hid hX
    have HB1 := Lib.hid hB
    clear hT0 hX hB
    go_upto_region 14 with (first | (refine wpList_sfm (x := RN.1.fm dA dc sA sc) rfl _ _ rfl rfl rfl HX0.out ?_) | (refine wpList_sft (s := RN.2.1) (c := RN.2.2) rfl _ _ rfl rfl (by rw [hftc]; rfl) HT0.out ?_))
    obtain ⟨p, hp⟩ : ∃ p, p = w1.heap.size := ⟨_, rfl⟩
    have hpB := HB1.out.size
    have HX := Lib.hid ((HX0.out.setRow (RN.1.fm dA dc sA sc).c).setRow' (k := w1.heap.size + 1) (by omega) (ftc RN.2.1 RN.2.2))
    have HT := Lib.hid (HT0.out.setRow (ftc RN.2.1 RN.2.2))
    have HBx : Hid (Below w1.heap.size w1 ((((w1.alloc (.cells #[.int .u8 0, .int .u8 0, .int .u32 0, .slice none 0 0, .int .i64 0, .int .u32 0, .int .u32 0, .int .u8 0, .bool false, .int .u32 0, .slice none 0 0] 26)).alloc (.cells #[.int .u8 0, .int .u32 0] 37)).setRow w1.heap.size (RN.1.fm dA dc sA sc).c).setRow (w1.heap.size + 1) (ftc RN.2.1 RN.2.2))) := below_setRow (below_setRow HBW.out _ _ (Nat.le_refl _)) _ _ (by omega)
    generalize ((((w1.alloc (.cells #[.int .u8 0, .int .u8 0, .int .u32 0, .slice none 0 0, .int .i64 0, .int .u32 0, .int .u32 0, .int .u8 0, .bool false, .int .u32 0, .slice none 0 0] 26)).alloc (.cells #[.int .u8 0, .int .u32 0] 37)).setRow w1.heap.size (RN.1.fm dA dc sA sc).c).setRow (w1.heap.size + 1) (ftc RN.2.1 RN.2.2)) = wc at *
    have HXc := Lib.hid (HXF.out.below HBx.out)
    have HB := Lib.hid (HB1.out.trans (HBx.out.mono HB1.out.size))
    rw [← hp] at *
    clear hp
    clear HX0 HT0 HBW HXF HBx HB1
    have HVw := Lib.hid (HVe.out.below HB.out HVe.out.lt)
    have HYw := Lib.hid (HY.out.below HB.out HY.out.lt)
    have HYcw := Lib.hid (HYce.out.below HB.out)
    have HBw := Lib.hid (HBe.out.trans (HB.out.mono HBe.out.size))
    clear HVe HY HYce HBe HB HOe
    by_cases hz : RN.2.1 = 0
    rotate_left
    · have y11 : wc.cell? ⟨g7, 11, none⟩ = some (.int .u8 (RN.2.1 : Int)) := fx_11 HYw.out
      have hne : ((RN.2.1 : Int) == 0) = false := beq_eq_false_iff_ne.2 (by omega)
      go_wp2_with fail
      refine (fixed_any7 _).mono ?_
      rintro e wf ⟨rfl, hb⟩
      have hTg := HT.out.below hb HT.out.lt
      have hYg := HYw.out.below hb HYw.out.lt
      have HBf := Lib.hid (HBw.out.trans (hb.mono HBw.out.size))
      have f0 : wf.cell? ⟨p + 1, 0, none⟩ = some (.int .u8 (RN.2.1 : Int)) := hTg.cell (by rw [hftc]; rfl)
      have f1 : wf.cell? ⟨p + 1, 1, none⟩ = some (.int .u32 (RN.2.2 : Int)) := hTg.cell (by rw [hftc]; rfl)
      have y11' : wf.cell? ⟨g7, 11, none⟩ = some (.int .u8 (RN.2.1 : Int)) := fx_11 hYg
      have y12' : wf.cell? ⟨g7, 12, none⟩ = some (.int .u32 (RN.2.2 : Int)) := fx_12 hYg
      generalize RN.2.1 = rs at *
      generalize RN.2.2 = rc at *
      clear hb hTg hYg HT HYw HBw HX HXc HVw HYcw y11 hne
      go_wp2_with fail
      go_ret
      exact ⟨by first | rfl | simp, HBf.out⟩
    obtain rfl : RN = (F, 0, 0) := HGP.out.resolve_right (fun h => h hz)
    clear HGP hz
    have y11 : wc.cell? ⟨g7, 11, none⟩ = some (.int .u8 0) := fx_11 HYw.out
    have HXX : Hid (Row wc p 26 (F.fm dA dc sA sc).c) := HX.out
    have HXXc : Hid (FmIs wc we.heap.size (F.fm dA dc sA sc) F) := HXc.out
    go_wp2_with fail
    refine (fixed_any7 _).mono ?_
    rintro e wf ⟨rfl, hb⟩
    have hTg := HT.out.below hb HT.out.lt
    have HVf := Lib.hid (HVw.out.below hb HVw.out.lt)
    have HXf := Lib.hid (HXX.out.below hb HXX.out.lt)
    have HXcf := Lib.hid (HXXc.out.below hb)
    have HBf := Lib.hid (HBw.out.trans (hb.mono HBw.out.size))
    have f0 : wf.cell? ⟨p + 1, 0, none⟩ = some (.int .u8 0) := hTg.cell (by rw [hftc]; rfl)
    have f1 : wf.cell? ⟨p + 1, 1, none⟩ = some (.int .u32 0) := hTg.cell (by rw [hftc]; rfl)
    clear hb hTg HT HYw HBw HX HXc HVw HYcw y11 HXX HXXc
    go_wp2_with (first | (refine wpList_fmg (by rfl) _ rfl rfl HVf.out ?_) | (refine wpList_fmg (by rfl) _ rfl rfl HXf.out ?_))
    refine (rsame_any F (by have := HN.out.1; omega) (by have := HN.out.2; omega) ((HD.out.below HBf.out).more HBf.out.size) ((HR.out.below HBf.out).imp fun g h _ => by have := HBf.out.size; omega) (RdB.ofS HXcf.out.toR.dat fun _ _ h => h) (HXcf.out.toR.sets.imp fun _ _ h => h)).mono ?_
    rintro e wg ⟨rfl, hb8⟩
    have HBg := Lib.hid (HBf.out.trans (hb8.mono HBf.out.size))
    clear hb8
    go_wp2_with fail
    go_ret
    exact ⟨by first | rfl | simp, HBg.out⟩
end Go.Proofs.YteeglgkmenlecaaDoor
