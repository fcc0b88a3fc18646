/-
  frame's putFields over SETTINGS, by its contract. Conditions: the settings' numbers are what they may be; they are read in blocks other than that of the bytes.
-/
import Derived.Test.YtooaajnkiokpnaaGreatDoorFput
import Derived.Test.YtooaajnkiokpnaaGreatDoorFback
namespace Go.Proofs.YtooaajnkiokpnaaGreatDoor
open Go.RowKit Go.WideShapes

/-- A setting's cells. -/
def sgc (s : Nat × Nat) : List Value := [.int .u16 (s.1 : Int), .int .u32 (s.2 : Int)]
theorem sgc_len (s : Nat × Nat) : (sgc s).length = 2 := rfl
/-- A frame as it lies in memory, its slices at these places. -/
def Frm.fm (f : Frm) (dA : Option Addr) (dc : Nat) (sA : Option Addr) (sc : Nat) : Fm := ⟨f.ty, f.fl, f.st, dA, f.dat.length, dc, f.pad, f.code, f.oth, f.wt, f.al, f.win, sA, f.sets.length, sc⟩
theorem RdS.sett {w : World} {S : Nat → Prop} {A : Option Addr} {L : List (Nat × Nat)} (h : RdS w S A (enl sgc L)) {i : Nat} (hi : i < L.length) : ∃ b q, A = some ⟨b, q, none⟩ ∧ S b ∧
    w.cell? ⟨b, q + i * 2, none⟩ = some (.int .u16 (L[i].1 : Int)) ∧ w.cell? ⟨b, q + i * 2 + 1, none⟩ = some (.int .u32 (L[i].2 : Int)) := by
  have hne : enl sgc L ≠ [] := by
    intro e
    have := enl_length sgc_len L
    rw [e] at this
    simp at this
    omega
  obtain ⟨b, q, hA, hb, hcl⟩ := h hne
  have h0 := hcl (i * 2 + 0) _ (by rw [enl_at sgc_len hi (by omega)]; rfl)
  have h1 := hcl (i * 2 + 1) _ (by rw [enl_at sgc_len hi (by omega)]; rfl)
  exact ⟨b, q, hA, hb, by simpa using h0, by rw [Nat.add_assoc]; exact h1⟩
theorem byc_be2 {n : Nat} (hn : n < 65536) : byc (be 2 n) = [.int .u8 ((n : Int) / 256), .int .u8 ((n : Int) % 256)] := by
  rw [be2]
  simp only [byc, List.map_cons, List.map_nil, num_mod]
  rw [show (((n / 256 : Nat) : Int) % 256) = (n : Int) / 256 by omega]
theorem setsL_take {l : List (Nat × Nat)} {k : Nat} (h : k < l.length) : setsL (l.take (k + 1)) = setsL (l.take k) ++ (be 2 l[k].1 ++ be 4 l[k].2) := by
  rw [List.take_succ_eq_append_getElem h, setsL_snoc]
attribute [local irreducible] Fm.c setsL be

set_option maxRecDepth 100000 in
set_option maxHeartbeats 2000000 in
theorem putSets_any (f : Frm) (h : f.ty = 4) (hset : ∀ s ∈ f.sets, s.1 < 65536 ∧ s.2 < 4294967296) (hn : f.sets.length ≤ 1000000) {dA sA : Option Addr} {dc sc : Nat} {base : Nat} {v : Value} {l : List UInt8} {w : World} {R : Nat → Prop} (hR : RdS w R sA (enl sgc f.sets)) (hRb : ∀ k, R k → k < w.heap.size ∧ ¬ ob v k)
    (hO : Bo w base 5 v l) (hbase : base ≤ w.heap.size) (hl : l.length ≤ 1000000) :
    Calls Tryz.prog 151 #[v, .agg (f.fm dA dc sA sc).c] w (MadeB w base v (l ++ setsL f.sets)) := by
  obtain ⟨i0, hi0, hz0, hz1, hz2⟩ := info_parts u8_info
  have HX := Lib.hid (Row.new w 66 (f.fm dA dc sA sc).c)
  have HO1 : Hid (Bo (w.alloc (.cells (f.fm dA dc sA sc).c 66)) base 5 v l) := hO.alloc (.cells (f.fm dA dc sA sc).c 66)
  have HF1 : Hid (Fs (ob v) w (w.alloc (.cells (f.fm dA dc sA sc).c 66))) := (Fs.refl _ w).alloc _
  have HR := Lib.hid hR
  have HRb := Lib.hid hRb
  have HVL : Hid (∀ k, ob v k → k < w.heap.size) := fun k hk => (OwS.lt hO k hk).2
  have HST := Lib.hid hset
  have HTn : Hid (setsL (f.sets.take f.sets.length) = setsL f.sets) := by show _ = _; rw [List.take_length]
  have HT0 : Hid (l ++ setsL (f.sets.take 0) = l) := by show _ = _; rw [List.take_zero, setsL_nil, List.append_nil]
  have HTk : Hid (∀ k, (hk : k < f.sets.length) → setsL (f.sets.take (k + 1)) = setsL (f.sets.take k) ++ (be 2 f.sets[k].1 ++ be 4 f.sets[k].2)) := fun k hk => setsL_take hk
  have HTl : Hid (∀ k, (setsL (f.sets.take k)).length ≤ 6000000) := fun k => by rw [setsL_length, List.length_take]; omega
  have hN2 : Hid (Nx w v v) := Nx.refl w v
  obtain ⟨c0, _, _, _, _, _, _, _, _, _, c10⟩ := fm_cells HX.out
  have c0' : (w.alloc (.cells (f.fm dA dc sA sc).c 66)).cell? ⟨w.heap.size, 0, none⟩ = some (Value.int .u8 ((f.ty : Nat) : Int)) := c0
  have c10' : (w.alloc (.cells (f.fm dA dc sA sc).c 66)).cell? ⟨w.heap.size, 10, none⟩ = some (.slice sA f.sets.length sc) := c10
  rw [h] at c0'
  have hs1 : w.heap.size < (w.alloc (.cells (f.fm dA dc sA sc).c 66)).heap.size := HX.out.lt
  clear c0 c10 hO hR hRb hset HX
  go_enter Tryz.func151, Tryz.ntmps151
  go_wp2_with fail
  generalize w.alloc (.cells (f.fm dA dc sA sc).c 66) = w0 at *
  clear c0' c10' h
  go_loopw [0, 44] (fun b i wr => ∃ (k : Nat) (vr : Value), k ≤ f.sets.length ∧ i = .int .i64 k ∧ vr = b ∧ Hid (Bo wr base 5 vr (l ++ setsL (f.sets.take k))) ∧ Hid (Fs (ob v) w wr) ∧ Hid (Nx w v vr))
    (fun _ i _ => f.sets.length - (intOf i).toNat)
  case atStart => exact ⟨0, v, Nat.zero_le _, rfl, rfl, by show Bo _ _ _ _ _; rw [HT0.out]; exact HO1.out, HF1, hN2⟩
  case round =>
    clear HO1 HF1 hN2 HT0
    obtain ⟨k, vr, hk, rfl, rfl, hO, hF, hN⟩ := hrel
    by_cases hlt : k < f.sets.length
    · have hRw : RdS wr R sA (enl sgc f.sets) := hF.out.reads HR.out fun k hk => HRb.out k hk
      obtain ⟨b, q, rfl, hb, f0, f1⟩ := hRw.sett hlt
      have hb2 := HST.out _ (List.getElem_mem hlt)
      have HT := Lib.hid (HTk.out k hlt)
      have htl := HTl.out k
      have hsz := hF.out.size
      generalize f.sets[k].1 = a at *
      generalize f.sets[k].2 = z at *
      generalize setsL (f.sets.take k) = Z at *
      obtain ⟨ha, hz⟩ := hb2
      have hbc := byc_be2 ha
      have hb4 : (be 2 a).length = 2 := be_length 2 a
      have hbwr : base ≤ wr.heap.size := by omega
      generalize be 2 a = B2 at *
      have HOl := Lib.hid fun j hj => (OwS.lt hO.out j hj).2
      have HSb : Hid (Row (wr.alloc (.cells #[.int .u16 (a : Int), .int .u32 (z : Int)] 164)) wr.heap.size 164 #[.int .u16 (a : Int), .int .u32 (z : Int)]) := Row.new _ _ _
      have HL2 : Hid (Row ((wr.alloc (.cells #[.int .u16 (a : Int), .int .u32 (z : Int)] 164)).alloc (.cells #[.int .u8 ((a : Int) / 256), .int .u8 ((a : Int) % 256)] 5)) (wr.heap.size + 1) 5 #[.int .u8 ((a : Int) / 256), .int .u8 ((a : Int) % 256)]) := Row.made _ _ _ (by simp)
      have hpn := fun (W : World) (u : Value) (h1 : Bo W base 5 u (l ++ Z ++ B2)) (h2 : base ≤ W.heap.size) => putNumber_any7 hz h1 h2 (by rw [List.length_append, List.length_append]; omega)
      clear hRw
      go_wp2_with (at_builtin; go_loud (refine wpList_appBo rfl (.tmp 48) (.tmp 56) 22 rfl base 5 i0 Tryz.underlying22 hi0 hz0 hz1 hz2 vr (l ++ Z) rfl (OwS.alloc (OwS.alloc hO.out _) _) _ _ B2 _ _ rfl hb4.symm (RdB.row HL2.out hbc.symm HL2.out.lt) (by rw [List.length_append]; omega) (by simp; omega) ?_; intro v3 w3 hO3 hF3 hN3; have hS3 := hF3.row (fun e => by have := HOl.out _ e; omega) (HSb.out.alloc (.cells #[.int .u8 ((a : Int) / 256), .int .u8 ((a : Int) % 256)] 5)); have d1 : w3.cell? ⟨wr.heap.size, 1, none⟩ = some (.int .u32 (z : Int)) := hS3.cell (j := 1) rfl; have HO3 := Lib.hid hO3; have HF3 : Hid (Fs (ob vr) wr w3) := (((Fs.refl _ wr).alloc _).alloc _).trans hF3 fun _ _ h => h; have HN3 := Lib.hid ((Nx.refl wr vr).trans hN3 (by simp; omega)); clear hO3 hF3 hN3 hS3))
      have hb3 : base ≤ w3.heap.size := by have := HF3.out.size; omega
      refine (hpn w3 v3 HO3.out hb3).mono ?_
      rintro e w4 ⟨v4, rfl, hO4, hF4, hN4⟩
      have HF4 : Hid (Fs (ob v) w w4) := hF.out.next hN.out (HF3.out.next HN3.out hF4)
      have HN4 := Lib.hid (hN.out.trans (HN3.out.trans hN4 HF3.out.size) hF.out.size)
      have HO4 : Hid (Bo w4 base 5 v4 (l ++ setsL (f.sets.take (k + 1)))) := by
        show Bo _ _ _ _ _
        rw [HT.out]
        simpa only [List.append_assoc] using hO4
      clear hO4 hF4 hN4 hpn d1
      go_wp2_with fail
      go_roundw
      case rel => exact ⟨k + 1, v4, by omega, by go_num, rfl, HO4, HF4, HN4⟩
      case measure => simp [intOf]; omega
    · obtain rfl : k = f.sets.length := by omega
      go_wp2_with fail
      go_ret
      have := hO.out
      rw [HTn.out] at this
      exact ⟨_, rfl, this, hF.out, hN.out⟩
end Go.Proofs.YtooaajnkiokpnaaGreatDoor
