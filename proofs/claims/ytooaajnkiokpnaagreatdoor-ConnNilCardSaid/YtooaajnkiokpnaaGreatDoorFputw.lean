/-
  frame's Put, by its contract: the document's bytes of a frame that may be; nothing of one that may not. Conditions: the numbers are what they may be in memory; its slices are read.
-/
import Derived.Test.YtooaajnkiokpnaaGreatDoorFputf
import Derived.Test.YtooaajnkiokpnaaGreatDoorZer
import Derived.Lib.MinMax
namespace Go.Proofs.YtooaajnkiokpnaaGreatDoor
open Go.RowKit Go.WideShapes
attribute [local irreducible] Fm.c

set_option maxRecDepth 100000 in
set_option maxHeartbeats 1000000 in
theorem fput_no (x : Fm) (hk : x.Ok) (hd : x.dn ≤ 1000000) (hs : x.sn ≤ 1000000) (hm : x.may = false) (w : World) : Calls Tryz.prog 116 #[.agg x.c] w fun e w' => e = .returned (.slice none 0 0) ∧ Below w.heap.size w w' := by
  have hmay := may_any x hk hd hs
  rw [hm] at hmay
  have HX := Lib.hid (Row.new w 66 x.c)
  have HB : Hid (Below w.heap.size w (w.alloc (.cells x.c 66))) := (Below.refl _ _).alloc (Nat.le_refl _) _
  clear hm hk hd hs
  go_enter Tryz.func116, Tryz.ntmps116
  go_wp2_with (refine wpList_fm rfl _ rfl rfl HX.out ?_)
  refine (hmay _).mono ?_
  rintro e w1 ⟨rfl, hb1⟩
  have HB1 := Lib.hid (HB.out.trans (hb1.mono HB.out.size))
  clear hb1 hmay
  go_wp2
  go_ret
  exact ⟨rfl, HB1.out⟩

/-- What a call leaves that makes a slice of these bytes. -/
def Made7 (w : World) (l : List UInt8) (e : Ending) (w' : World) : Prop :=
  ∃ A c, e = .returned (.slice A l.length c) ∧ Bo w' w.heap.size 5 (.slice A l.length c) l ∧ Below w.heap.size w w'

theorem Frm.fmOk {f : Frm} (hk : f.Ok) (hm : f.May) (dA sA : Option Addr) (dc sc : Nat) : (f.fm dA dc sA sc).Ok :=
  ⟨hk.ty, hk.fl, by have := hm.1.1; show f.st < _; omega, hk.code, by have := hm.1.2.1; show f.oth < _; omega, hk.wt, by have := hm.1.2.2; show f.win < _; omega⟩
theorem Frm.fmMay {f : Frm} (hm : f.May) (dA sA : Option Addr) (dc sc : Nat) : (f.fm dA dc sA sc).may = true := decide_eq_true hm
theorem byc_head5 {n ty fl : Nat} (hn : n ≤ 16384) (ht : ty < 256) (hf : fl < 256) : byc (be 3 n ++ [UInt8.ofNat ty, UInt8.ofNat fl]) = [.int .u8 ((n : Int) / 65536), .int .u8 ((n : Int) / 256), .int .u8 ((n : Int) % 256), .int .u8 (ty : Int), .int .u8 (fl : Int)] := by
  rw [be3]
  simp only [byc, List.cons_append, List.nil_append, List.map_cons, List.map_nil, num_mod]
  rw [show (((n / 65536 : Nat) : Int) % 256) = (n : Int) / 65536 by omega, show (((n / 256 : Nat) : Int) % 256) = (n : Int) / 256 by omega, show ((ty : Int) % 256) = ty by omega, show ((fl : Int) % 256) = fl by omega]

set_option maxRecDepth 100000 in
set_option maxHeartbeats 4000000 in
theorem fput_yes (f : Frm) (hk : f.Ok) (hm : f.May) {dA sA : Option Addr} {dc sc : Nat} (w : World) (hD : RdB w w.heap.size dA f.dat) (hS : RdS w (· < w.heap.size) sA (enl sgc f.sets)) :
    Calls Tryz.prog 116 #[.agg (f.fm dA dc sA sc).c] w (Made7 w (putL7 f)) := by
  obtain ⟨i0, hi0, hz0, hz1, hz2⟩ := info_parts u8_info
  have hxk := Frm.fmOk hk hm dA sA dc sc
  have hsmall := pay_small f hm
  have hsz := payL_length f hm.2.2.2.1.2.2.2.2.2.1 hm.2.2.1
  have hdn : f.dat.length ≤ 16384 ∧ f.sets.length ≤ 16384 := by
    have h1 := hm.2.2.2.2
    unfold sizeZ at h1
    have h2 := hm.2.2.1
    unfold PadOk at h2
    split at h1
    · rename_i hp
      have := h2.1 (of_decide_eq_true hp)
      omega
    · omega
  have hpad : (PadP f.ty f.fl → 0 ≤ f.pad ∧ f.pad ≤ 255) ∧ (¬ PadP f.ty f.fl → f.pad = -1) := hm.2.2.1
  have hpd1 : -1 ≤ f.pad ∧ f.pad ≤ 255 := by
    by_cases h : PadP f.ty f.fl
    · have := hpad.1 h; omega
    · have := hpad.2 h; omega
  have hmay := may_any _ hxk (show f.dat.length ≤ 1000000 by omega) (show f.sets.length ≤ 1000000 by omega)
  rw [Frm.fmMay hm] at hmay
  have hsize := size_any7 (f.fm dA dc sA sc) hk.fl (show f.dat.length ≤ 1000000 by omega) (show f.sets.length ≤ 1000000 by omega) (show -1000000 ≤ f.pad by omega) (show f.pad ≤ 1000000 by omega)
  rw [show sizeZ (f.fm dA dc sA sc).ty (f.fm dA dc sA sc).fl (f.fm dA dc sA sc).dn (f.fm dA dc sA sc).pad (f.fm dA dc sA sc).sn = ((payL f).length : Int) from hsz.symm] at hsize
  have hisp := isPadded_any (f.fm dA dc sA sc) hk.fl
  have hst : f.st < 4294967296 := by have := hm.1.1; omega
  have HX := Lib.hid (Row.new w 66 (f.fm dA dc sA sc).c)
  have HB : Hid (Below w.heap.size w (w.alloc (.cells (f.fm dA dc sA sc).c 66))) := (Below.refl _ _).alloc (Nat.le_refl _) _
  have HD := Lib.hid hD
  have HS := Lib.hid hS
  have hty := hk.ty
  have hfl := hk.fl
  obtain ⟨N, hN⟩ : ∃ N, N = (payL f).length := ⟨_, rfl⟩
  rw [← hN] at hsize hsmall
  have HN := Lib.hid hN
  have hb5 := byc_head5 hsmall hty hfl
  clear hN hsz hD hS
  have hmk : ∀ W : World, (Instr.makeSlice 22 (.int .i64 0) (.int .i64 (9 + (N : Int)))).run Tryz.prog W = .ok (.slice (some ⟨W.heap.size, 0, none⟩) 0 (9 + N)) (W.alloc (.cells (madeCells #[Value.int .u8 0] (9 + N)) 5)) := fun W => by
    have := run_make (P := Tryz.prog) W 22 5 i0 (.int .u8 0) Tryz.underlying22 hi0 hz0 .i64 .i64 0 ((9 + N : Nat) : Int) (by omega) (by omega) (by rw [hz2]; omega) (by omega)
    rw [show (9 + (N : Int)) = ((9 + N : Nat) : Int) by omega, this, hz1, Nat.mul_one]
    rfl
  go_enter Tryz.func116, Tryz.ntmps116
  go_wp2_with (refine wpList_fm rfl _ rfl rfl HX.out ?_)
  refine (hmay _).mono ?_
  rintro e w1 ⟨rfl, hb1⟩
  have HB1 := Lib.hid (HB.out.trans (hb1.mono HB.out.size))
  have HX1 := Lib.hid (HX.out.below hb1 HX.out.lt)
  clear hb1 hmay HB HX
  go_wp2_with (refine wpList_fm rfl _ rfl rfl HX1.out ?_)
  refine (hsize _).mono ?_
  rintro e w2 ⟨rfl, hb2⟩
  have HB2 := Lib.hid (HB1.out.trans (hb2.mono HB1.out.size))
  have HX2 := Lib.hid (HX1.out.below hb2 HX1.out.lt)
  clear hb2 hsize HB1 HX1
  have hO3 : Hid (Bo (w2.alloc (.cells (madeCells #[Value.int .u8 0] (9 + N)) 5)) (w.heap.size + 1) 5 (.slice (some ⟨w2.heap.size, 0, none⟩) 0 (9 + N)) []) := (OwB.fresh w2 5 _ (9 + N) (by rw [size_madeCells]) (by simp only [maxLen]; omega) (HX2.out.lt)).toBo
  have HX3 := Lib.hid (HX2.out.alloc (.cells (madeCells #[Value.int .u8 0] (9 + N)) 5))
  obtain ⟨c0, c1, _⟩ := fm_cells HX3.out
  have c0' : (w2.alloc (.cells (madeCells #[Value.int .u8 0] (9 + N)) 5)).cell? ⟨w.heap.size, 0, none⟩ = some (Value.int .u8 ((f.ty : Nat) : Int)) := c0
  have c1' : (w2.alloc (.cells (madeCells #[Value.int .u8 0] (9 + N)) 5)).cell? ⟨w.heap.size, 1, none⟩ = some (Value.int .u8 ((f.fl : Nat) : Int)) := c1
  clear c0 c1
  generalize madeCells #[Value.int .u8 0] (9 + N) = MC at *
  have HL3 : Hid (Row ((w2.alloc (.cells MC 5)).alloc (.cells #[.int .u8 ((N : Int) / 65536), .int .u8 ((N : Int) / 256), .int .u8 ((N : Int) % 256), .int .u8 ((f.ty : Nat) : Int), .int .u8 ((f.fl : Nat) : Int)] 5)) (w2.heap.size + 1) 5 #[.int .u8 ((N : Int) / 65536), .int .u8 ((N : Int) / 256), .int .u8 ((N : Int) % 256), .int .u8 ((f.ty : Nat) : Int), .int .u8 ((f.fl : Nat) : Int)]) := Row.made _ _ _ (by simp)
  have hs2 : w.heap.size < w2.heap.size := HX2.out.lt
  have hpn := fun (W : World) (u : Value) (h1 : Bo W (w.heap.size + 1) 5 u (be 3 N ++ [UInt8.ofNat f.ty, UInt8.ofNat f.fl])) (h2 : w.heap.size + 1 ≤ W.heap.size) => putNumber_any7 hst h1 h2 (by simp [be_length])
  go_wp2_with (at_builtin; go_loud (refine wpList_appBo rfl (.tmp 13) (.tmp 26) 22 rfl (w.heap.size + 1) 5 i0 Tryz.underlying22 hi0 hz0 hz1 hz2 (.slice (some ⟨w2.heap.size, 0, none⟩) 0 (9 + N)) [] rfl (OwS.alloc hO3.out _) _ _ (be 3 N ++ [UInt8.ofNat f.ty, UInt8.ofNat f.fl]) _ _ rfl (by simp [be_length]) (RdB.row HL3.out hb5.symm HL3.out.lt) (by simp [be_length]) (by simp; omega) ?_; intro v4 w4 hO4 hF4 hN4; rw [List.nil_append] at hO4; have HB4 := Lib.hid (HB2.out.trans ((((Below.refl w.heap.size w2).alloc (by omega) _).alloc (by simp; omega) _).trans (hF4.below (fun k hk _ => by have := (OwS.lt hO3.out k hk).1; omega) (by simp; omega)))); have HX4 := Lib.hid (hF4.row (fun e => by have := (OwS.lt hO3.out _ e).1; omega) (HX3.out.alloc _)); have HO4 := Lib.hid hO4; obtain ⟨_, _, d2, _⟩ := fm_cells HX4.out; have d2' : w4.cell? ⟨w.heap.size, 2, none⟩ = some (Value.int .u32 ((f.st : Nat) : Int)) := d2; clear hO4 hF4 hN4 d2))
  have hs4 : w.heap.size < w4.heap.size := HX4.out.lt
  clear hO3 HX3 HL3 c0' c1' hmk hb5 HB2 HX2
  refine (hpn w4 v4 HO4.out (by omega)).mono ?_
  rintro e w5 ⟨v5, rfl, hO5, hF5, hN5⟩
  have HB5 := Lib.hid (HB4.out.trans (hF5.below (fun k hk _ => by have := (OwS.lt HO4.out k hk).1; omega) (by omega)))
  have HX5 := Lib.hid (hF5.row (fun e => by have := (OwS.lt HO4.out _ e).1; omega) HX4.out)
  obtain ⟨H9, hH9⟩ : ∃ H9, H9 = be 3 N ++ [UInt8.ofNat f.ty, UInt8.ofNat f.fl] ++ be 4 f.st := ⟨_, rfl⟩
  rw [← hH9] at hO5
  have HH9l : Hid (H9.length = 9) := by show _ = _; rw [hH9]; simp [be_length]
  have HO5 := Lib.hid hO5
  have HH9 := Lib.hid hH9.symm
  have hs5 : w.heap.size < w5.heap.size := HX5.out.lt
  obtain ⟨_, _, _, _, e4, _⟩ := fm_cells HX5.out
  clear hO5 hF5 hN5 hpn d2' HO4 HX4 HB4 hH9
  go_wp2_with (refine wpList_fm rfl _ rfl rfl HX5.out ?_)
  by_cases hpp : PadP f.ty f.fl
  · have hp0 := hpad.1 hpp
    have hwp : ∃ q : Nat, f.pad = (q : Int) := Int.eq_ofNat_of_zero_le hp0.1
    obtain ⟨q, hq⟩ := hwp
    have hq255 : q < 256 := by omega
    have hbq : byc [UInt8.ofNat q] = [.int .u8 ((q : Nat) : Int)] := by
      simp only [byc, List.map_cons, List.map_nil, num_mod]
      rw [show ((q : Nat) : Int) % 256 = ((q : Nat) : Int) by omega]
    have e4' : w5.cell? ⟨w.heap.size, 4, none⟩ = some (Value.int .i64 ((q : Nat) : Int)) := by rw [← hq]; exact e4
    have hmax : max ((q : Nat) : Int) 0 = ((q : Nat) : Int) := by omega
    have HPL : Hid (putL7 f = H9 ++ [UInt8.ofNat q] ++ frontL f ++ f.dat ++ List.replicate q 0) := by
      show _ = _
      rw [← HH9.out]
      unfold putL7 payL headL
      rw [if_pos hp0.1, hq, Int.toNat_natCast]
      rw [HN.out]
      unfold payL
      rw [if_pos hp0.1, hq, Int.toNat_natCast]
      simp only [List.append_assoc, List.cons_append, List.nil_append]
    rw [show padB (f.fm dA dc sA sc).ty (f.fm dA dc sA sc).fl = true from decide_eq_true hpp] at hisp
    clear e4
    refine (hisp _).mono ?_
    rintro e w6 ⟨rfl, hb6⟩
    have HX6 := Lib.hid (HX5.out.below hb6 HX5.out.lt)
    have HO6 := Lib.hid (HO5.out.below hb6)
    have HB6 := Lib.hid (HB5.out.trans (hb6.mono HB5.out.size))
    have k4 := (hb6.cell (p := ⟨w.heap.size, 4, none⟩) HX5.out.lt).trans e4'
    have hs6 : w.heap.size < w6.heap.size := HX6.out.lt
    clear hb6 hisp e4' HO5 HB5 HX5
    have HL6 : Hid (Row (w6.alloc (.cells #[.int .u8 ((q : Nat) : Int)] 5)) w6.heap.size 5 #[.int .u8 ((q : Nat) : Int)]) := Row.new _ _ _
    go_wp2_with (at_builtin; go_loud (refine wpList_appBo rfl (.tmp 34) (.tmp 38) 22 rfl (w.heap.size + 1) 5 i0 Tryz.underlying22 hi0 hz0 hz1 hz2 v5 H9 rfl (OwS.alloc HO6.out _) _ _ [UInt8.ofNat q] _ _ rfl rfl (RdB.row HL6.out hbq.symm HL6.out.lt) (by rw [HH9l.out]; simp) (by simp; omega) ?_; intro v7 w7 hO7 hF7 hN7; have HB7 := Lib.hid (HB6.out.trans (((Below.refl _ w6).alloc (by omega) _).trans (hF7.below (fun k hk _ => by have := (OwS.lt HO6.out k hk).1; omega) (by simp; omega)))); have HX7 := Lib.hid (hF7.row (fun e => by have := (OwS.lt HO6.out _ e).1; omega) (HX6.out.alloc _)); have HO7 := Lib.hid hO7; clear hO7 hF7 hN7 k4 HX6 HO6 HB6 HL6))
    have hs7 : w.heap.size < w7.heap.size := HX7.out.lt
    have hml : (H9 ++ [UInt8.ofNat q]).length ≤ 10 := by rw [List.length_append, HH9l.out]; simp
    have hpf := fun (W : World) (h1 : RdS W (· < w.heap.size) sA (enl sgc f.sets)) (h2 : Bo W (w.heap.size + 1) 5 v7 (H9 ++ [UInt8.ofNat q])) (h3 : w.heap.size + 1 ≤ W.heap.size) => putFields_any f hk hm.1.2.1 hm.1.2.2 (by omega) (dA := dA) (dc := dc) (sc := sc) h1 (fun k hk => ⟨by omega, fun e => by have := (OwS.lt h2 k e).1; omega⟩) h2 h3 (by omega)
    have hfl2 : (frontL f).length ≤ 1000000 := by
      have := frontL_length f hm.2.2.2.1.2.2.2.2.2.1
      have := aheadN_le f.ty f.fl
      omega
    obtain ⟨_, _, _, a3, _⟩ := fm_cells (show Row w7.drew w.heap.size 66 (f.fm dA dc sA sc).c from HX7.out)
    have a3' : w7.drew.cell? ⟨w.heap.size, 3, none⟩ = some (.slice dA f.dat.length dc) := a3
    generalize frontL f = FR at *
    refine wp_region_held_drew (S := fun w' => Row w' w.heap.size 66 (f.fm dA dc sA sc).c ∧ w'.cell? ⟨w.heap.size, 3, none⟩ = some (.slice dA f.dat.length dc)) (by kernel_rfl) ⟨HX7.out, a3'⟩ (fun hHeld => ?_)
    clear a3 a3'
    refine wpAnyH_take (i := 1) (v := _) rfl (by kernel_rfl) (by kernel_rfl) (by kernel_rfl) (fun _ _ _ h => h) (yields_fm (by rfl) _ rfl rfl (fun _ hSw => hSw.1)) (by assumption) ?rest1
    try simp only [Act.put, List.getElem_toArray, List.getElem_cons_zero, List.getElem_cons_succ, List.setIfInBounds_toArray, List.set_cons_zero, List.set_cons_succ]
    refine wpAnyH_take (i := 0) (v := ?v0q1) rfl (by kernel_rfl) (by kernel_rfl) (by kernel_rfl) (fun _ _ _ h => h) (Or.inl ⟨by rfl, ?hy0q1⟩) (by assumption) ?rest0q1
    case hy0q1 => (intro w hSw; (try dsimp only at hSw); go_simp <;> with_reducible rfl)
    try simp only [Act.put, List.getElem_toArray, List.getElem_cons_zero, List.getElem_cons_succ, List.setIfInBounds_toArray, List.set_cons_zero, List.set_cons_succ]
    refine wpAnyH_take (i := 3) (v := ?v3q1) rfl (by kernel_rfl) (by kernel_rfl) (by kernel_rfl) (fun _ _ _ h => h) (Or.inl ⟨by rfl, ?hy3q1⟩) (by assumption) ?rest3q1
    case hy3q1 => (intro w hSw; (try dsimp only at hSw); go_simp <;> with_reducible rfl)
    try simp only [Act.put, List.getElem_toArray, List.getElem_cons_zero, List.getElem_cons_succ, List.setIfInBounds_toArray, List.set_cons_zero, List.set_cons_succ]
    refine wpAnyH_take (i := 4) (v := ?v4q1) rfl (by kernel_rfl) (by kernel_rfl) (by kernel_rfl) (fun _ _ _ h => h) (Or.inl ⟨by rfl, ?hy4q1⟩) (by assumption) ?rest4q1
    case hy4q1 => (intro w hSw; (try dsimp only at hSw); go_simp <;> with_reducible rfl)
    try simp only [Act.put, List.getElem_toArray, List.getElem_cons_zero, List.getElem_cons_succ, List.setIfInBounds_toArray, List.set_cons_zero, List.set_cons_succ]
    refine wpAnyH_ready (rs := [2]) (by kernel_rfl) (by simp) ?_
    refine AllReadyH.cons rfl (fun K hK => ?_) AllReadyH.nil
    go_simp
    go_at_call 151
    refine (hpf w7.drew (RdS.below HS.out (show Below w.heap.size w w7.drew from HB7.out.drew)) (show Bo w7.drew _ _ _ _ from HO7.out) (show w.heap.size + 1 ≤ w7.heap.size by omega)).mono ?_
    rintro e w8 ⟨v8, rfl, hO8, hF8, hN8⟩
    have HX8 := Lib.hid (hF8.row (fun e => by have := (OwS.lt HO7.out _ e).1; omega) (show Row w7.drew _ _ _ from HX7.out))
    have HB8 := Lib.hid ((HB7.out.drew).trans (hF8.below (fun k hk _ => by have := (OwS.lt HO7.out k hk).1; omega) (show w.heap.size ≤ w7.heap.size by omega)))
    have HO8 := Lib.hid hO8
    have hs8 : w.heap.size < w8.heap.size := HX8.out.lt
    obtain ⟨_, _, _, a3, _⟩ := fm_cells HX8.out
    refine hK.out _ _ ⟨HX8.out, a3⟩ (fun hHeld => ?_)
    clear hK K hO8 hF8 hN8 a3 hpf HX7 HO7 HB7
    try simp only [Act.put, List.getElem_toArray, List.getElem_cons_zero, List.getElem_cons_succ, List.setIfInBounds_toArray, List.set_cons_zero, List.set_cons_succ]
    refine wpAnyH_ready (rs := [5]) (by kernel_rfl) (by simp) ?_
    refine AllReadyH.cons rfl (fun K hK => ?_) AllReadyH.nil
    refine step_appBo rfl (.tmp 42) (.tmp 44) 22 rfl (w.heap.size + 1) 5 i0 Tryz.underlying22 hi0 hz0 hz1 hz2 v8 ((H9 ++ [UInt8.ofNat q]) ++ FR) rfl HO8.out w.heap.size dA f.dat _ _ rfl rfl (HD.out.below HB8.out) (by rw [List.length_append]; omega) (by omega) (fun v9 w9 hO9 hF9 hN9 => ?_)
    have HX9 := Lib.hid (hF9.row (fun e => by have := (OwS.lt HO8.out _ e).1; omega) HX8.out)
    have HB9 := Lib.hid (HB8.out.trans (hF9.below (fun k hk _ => by have := (OwS.lt HO8.out k hk).1; omega) (by omega)))
    have HO9 := Lib.hid hO9
    have hs9 : w.heap.size < w9.heap.size := HX9.out.lt
    obtain ⟨_, _, _, a3, a4, _⟩ := fm_cells HX9.out
    have a4' : w9.cell? ⟨w.heap.size, 4, none⟩ = some (Value.int .i64 ((q : Nat) : Int)) := by rw [← hq]; exact a4
    refine hK.out _ _ ⟨HX9.out, a3⟩ (fun hHeld => ?_)
    clear hK K hO9 hF9 hN9 a3 a4 HX8 HO8 HB8
    try simp only [Act.put, List.getElem_toArray, List.getElem_cons_zero, List.getElem_cons_succ, List.setIfInBounds_toArray, List.set_cons_zero, List.set_cons_succ]
    refine wpAnyH_take (i := 6) (v := ?v6q2) rfl (by kernel_rfl) (by kernel_rfl) (by kernel_rfl) (fun _ _ _ h => h) (Or.inl ⟨by rfl, ?hy6q2⟩) (by assumption) ?rest6q2
    case hy6q2 => (intro w hSw; (try dsimp only at hSw); go_simp <;> with_reducible rfl)
    try simp only [Act.put, List.getElem_toArray, List.getElem_cons_zero, List.getElem_cons_succ, List.setIfInBounds_toArray, List.set_cons_zero, List.set_cons_succ]
    refine wpAnyH_done (by kernel_rfl) ?_ _
    clear hHeld
    go_wp2_with (at_builtin; go_loud (refine wpList_appZeros rfl (.tmp 46) (.tmp 49) 22 3 rfl (w.heap.size + 1) 5 i0 .i64 Tryz.underlying22 Tryz.underlying3 hi0 hz0 hz1 hz2 v9 ((H9 ++ [UInt8.ofNat q]) ++ FR ++ f.dat) rfl HO9.out q _ rfl (by simp) (by rw [List.length_append, List.length_append]; omega) (by omega) ?_; intro v10 w10 hO10 hF10 hN10))
    go_ret
    rw [← HPL.out] at hO10
    obtain ⟨A, c, rfl, hcl⟩ := hO10.shape
    exact ⟨A, c, rfl, OwS.mono hO10 (by omega), HB9.out.trans (hF10.below (fun k hk _ => by have := (OwS.lt HO9.out k hk).1; omega) (by omega))⟩
  · have hp0 := hpad.2 hpp
    have e4' : w5.cell? ⟨w.heap.size, 4, none⟩ = some (Value.int .i64 (-1)) := by rw [← hp0]; exact e4
    have hmax : max (-1 : Int) 0 = 0 := by omega
    have hq255 : (0 : Nat) < 256 := by omega
    have HPL : Hid (putL7 f = H9 ++ frontL f ++ f.dat ++ List.replicate 0 0) := by
      show _ = _
      rw [← HH9.out]
      unfold putL7 payL headL
      rw [if_neg (by omega)]
      rw [HN.out]
      unfold payL
      rw [if_neg (by omega)]
      simp only [List.append_assoc, List.cons_append, List.nil_append, List.replicate_zero, List.append_nil]
    rw [show padB (f.fm dA dc sA sc).ty (f.fm dA dc sA sc).fl = false from decide_eq_false hpp] at hisp
    clear e4
    refine (hisp _).mono ?_
    rintro e w6 ⟨rfl, hb6⟩
    have HX6 := Lib.hid (HX5.out.below hb6 HX5.out.lt)
    have HO6 := Lib.hid (HO5.out.below hb6)
    have HB6 := Lib.hid (HB5.out.trans (hb6.mono HB5.out.size))
    have hs6 : w.heap.size < w6.heap.size := HX6.out.lt
    clear hb6 hisp e4' HO5 HB5 HX5
    go_wp2_with fail
    have hml : H9.length ≤ 10 := by rw [HH9l.out]; omega
    have hpf := fun (W : World) (h1 : RdS W (· < w.heap.size) sA (enl sgc f.sets)) (h2 : Bo W (w.heap.size + 1) 5 v5 H9) (h3 : w.heap.size + 1 ≤ W.heap.size) => putFields_any f hk hm.1.2.1 hm.1.2.2 (by omega) (dA := dA) (dc := dc) (sc := sc) h1 (fun k hk => ⟨by omega, fun e => by have := (OwS.lt h2 k e).1; omega⟩) h2 h3 (by omega)
    have hfl2 : (frontL f).length ≤ 1000000 := by
      have := frontL_length f hm.2.2.2.1.2.2.2.2.2.1
      have := aheadN_le f.ty f.fl
      omega
    obtain ⟨_, _, _, a3, _⟩ := fm_cells (show Row w6.drew w.heap.size 66 (f.fm dA dc sA sc).c from HX6.out)
    have a3' : w6.drew.cell? ⟨w.heap.size, 3, none⟩ = some (.slice dA f.dat.length dc) := a3
    generalize frontL f = FR at *
    refine wp_region_held_drew (S := fun w' => Row w' w.heap.size 66 (f.fm dA dc sA sc).c ∧ w'.cell? ⟨w.heap.size, 3, none⟩ = some (.slice dA f.dat.length dc)) (by kernel_rfl) ⟨HX6.out, a3'⟩ (fun hHeld => ?_)
    clear a3 a3'
    refine wpAnyH_take (i := 1) (v := _) rfl (by kernel_rfl) (by kernel_rfl) (by kernel_rfl) (fun _ _ _ h => h) (yields_fm (by rfl) _ rfl rfl (fun _ hSw => hSw.1)) (by assumption) ?rest1q3
    try simp only [Act.put, List.getElem_toArray, List.getElem_cons_zero, List.getElem_cons_succ, List.setIfInBounds_toArray, List.set_cons_zero, List.set_cons_succ]
    refine wpAnyH_take (i := 0) (v := ?v0q4) rfl (by kernel_rfl) (by kernel_rfl) (by kernel_rfl) (fun _ _ _ h => h) (Or.inl ⟨by rfl, ?hy0q4⟩) (by assumption) ?rest0q4
    case hy0q4 => (intro w hSw; (try dsimp only at hSw); go_simp <;> with_reducible rfl)
    try simp only [Act.put, List.getElem_toArray, List.getElem_cons_zero, List.getElem_cons_succ, List.setIfInBounds_toArray, List.set_cons_zero, List.set_cons_succ]
    refine wpAnyH_take (i := 3) (v := ?v3q4) rfl (by kernel_rfl) (by kernel_rfl) (by kernel_rfl) (fun _ _ _ h => h) (Or.inl ⟨by rfl, ?hy3q4⟩) (by assumption) ?rest3q4
    case hy3q4 => (intro w hSw; (try dsimp only at hSw); go_simp <;> with_reducible rfl)
    try simp only [Act.put, List.getElem_toArray, List.getElem_cons_zero, List.getElem_cons_succ, List.setIfInBounds_toArray, List.set_cons_zero, List.set_cons_succ]
    refine wpAnyH_take (i := 4) (v := ?v4q4) rfl (by kernel_rfl) (by kernel_rfl) (by kernel_rfl) (fun _ _ _ h => h) (Or.inl ⟨by rfl, ?hy4q4⟩) (by assumption) ?rest4q4
    case hy4q4 => (intro w hSw; (try dsimp only at hSw); go_simp <;> with_reducible rfl)
    try simp only [Act.put, List.getElem_toArray, List.getElem_cons_zero, List.getElem_cons_succ, List.setIfInBounds_toArray, List.set_cons_zero, List.set_cons_succ]
    refine wpAnyH_ready (rs := [2]) (by kernel_rfl) (by simp) ?_
    refine AllReadyH.cons rfl (fun K hK => ?_) AllReadyH.nil
    go_simp
    go_at_call 151
    refine (hpf w6.drew (RdS.below HS.out (show Below w.heap.size w w6.drew from HB6.out.drew)) (show Bo w6.drew _ _ _ _ from HO6.out) (show w.heap.size + 1 ≤ w6.heap.size by omega)).mono ?_
    rintro e w8 ⟨v8, rfl, hO8, hF8, hN8⟩
    have HX8 := Lib.hid (hF8.row (fun e => by have := (OwS.lt HO6.out _ e).1; omega) (show Row w6.drew _ _ _ from HX6.out))
    have HB8 := Lib.hid ((HB6.out.drew).trans (hF8.below (fun k hk _ => by have := (OwS.lt HO6.out k hk).1; omega) (show w.heap.size ≤ w6.heap.size by omega)))
    have HO8 := Lib.hid hO8
    have hs8 : w.heap.size < w8.heap.size := HX8.out.lt
    obtain ⟨_, _, _, a3, _⟩ := fm_cells HX8.out
    refine hK.out _ _ ⟨HX8.out, a3⟩ (fun hHeld => ?_)
    clear hK K hO8 hF8 hN8 a3 hpf HX6 HO6 HB6
    try simp only [Act.put, List.getElem_toArray, List.getElem_cons_zero, List.getElem_cons_succ, List.setIfInBounds_toArray, List.set_cons_zero, List.set_cons_succ]
    refine wpAnyH_ready (rs := [5]) (by kernel_rfl) (by simp) ?_
    refine AllReadyH.cons rfl (fun K hK => ?_) AllReadyH.nil
    refine step_appBo rfl (.tmp 42) (.tmp 44) 22 rfl (w.heap.size + 1) 5 i0 Tryz.underlying22 hi0 hz0 hz1 hz2 v8 (H9 ++ FR) rfl HO8.out w.heap.size dA f.dat _ _ rfl rfl (HD.out.below HB8.out) (by rw [List.length_append]; omega) (by omega) (fun v9 w9 hO9 hF9 hN9 => ?_)
    have HX9 := Lib.hid (hF9.row (fun e => by have := (OwS.lt HO8.out _ e).1; omega) HX8.out)
    have HB9 := Lib.hid (HB8.out.trans (hF9.below (fun k hk _ => by have := (OwS.lt HO8.out k hk).1; omega) (by omega)))
    have HO9 := Lib.hid hO9
    have hs9 : w.heap.size < w9.heap.size := HX9.out.lt
    obtain ⟨_, _, _, a3, a4, _⟩ := fm_cells HX9.out
    have a4' : w9.cell? ⟨w.heap.size, 4, none⟩ = some (Value.int .i64 (-1 : Int)) := by rw [← hp0]; exact a4
    refine hK.out _ _ ⟨HX9.out, a3⟩ (fun hHeld => ?_)
    clear hK K hO9 hF9 hN9 a3 a4 HX8 HO8 HB8
    try simp only [Act.put, List.getElem_toArray, List.getElem_cons_zero, List.getElem_cons_succ, List.setIfInBounds_toArray, List.set_cons_zero, List.set_cons_succ]
    refine wpAnyH_take (i := 6) (v := ?v6q5) rfl (by kernel_rfl) (by kernel_rfl) (by kernel_rfl) (fun _ _ _ h => h) (Or.inl ⟨by rfl, ?hy6q5⟩) (by assumption) ?rest6q5
    case hy6q5 => (intro w hSw; (try dsimp only at hSw); go_simp <;> with_reducible rfl)
    try simp only [Act.put, List.getElem_toArray, List.getElem_cons_zero, List.getElem_cons_succ, List.setIfInBounds_toArray, List.set_cons_zero, List.set_cons_succ]
    refine wpAnyH_done (by kernel_rfl) ?_ _
    clear hHeld
    go_wp2_with (at_builtin; go_loud (refine wpList_appZeros rfl (.tmp 46) (.tmp 49) 22 3 rfl (w.heap.size + 1) 5 i0 .i64 Tryz.underlying22 Tryz.underlying3 hi0 hz0 hz1 hz2 v9 (H9 ++ FR ++ f.dat) rfl HO9.out 0 _ rfl (by simp) (by rw [List.length_append, List.length_append]; omega) (by omega) ?_; intro v10 w10 hO10 hF10 hN10))
    go_ret
    rw [← HPL.out] at hO10
    obtain ⟨A, c, rfl, hcl⟩ := hO10.shape
    exact ⟨A, c, rfl, OwS.mono hO10 (by omega), HB9.out.trans (hF10.below (fun k hk _ => by have := (OwS.lt HO9.out k hk).1; omega) (by omega))⟩
end Go.Proofs.YtooaajnkiokpnaaGreatDoor
