/-
  bytes.Clone and frame's getSettings, by their contracts. Conditions: the bytes are read; a whole number of six.
-/
import Derived.Test.YtooaajnkiokpnaaGreatDoorFnum
import Derived.Test.YtooaajnkiokpnaaGreatDoorFputs
import Derived.Deep.RegionHeld3
namespace Go.Proofs.YtooaajnkiokpnaaGreatDoor
open Go.RowKit Go.WideShapes

theorem nil_yes (c : Nat) (w : World) : (binOp .eql 22 (.slice none 0 c) (.slice none 0 0)).run Tryz.prog w = .ok (.bool true) w := by kernel_rfl
theorem nil_no (a : Addr) (n c : Nat) (w : World) : (binOp .eql 22 (.slice (some a) n c) (.slice none 0 0)).run Tryz.prog w = .ok (.bool false) w := by kernel_rfl
set_option maxRecDepth 100000 in
set_option maxHeartbeats 1000000 in
theorem bclone_any {B : Nat} {A : Option Addr} {c : Nat} {l : List UInt8} {w : World} (hr : RdB w B A l) (hB : B ≤ w.heap.size) (hl : l.length ≤ 549755813888) :
    Calls Tryz.prog 115 #[.slice A l.length c] w fun e w' => (∃ v, e = .returned v ∧ Bo w' w.heap.size 5 v l) ∧ Below w.heap.size w w' := by
  obtain ⟨i0, hi0, hz0, hz1, hz2⟩ := info_parts u8_info
  cases A with
  | none =>
    have hn : l = [] := by
      rcases List.eq_nil_or_concat l with h0 | ⟨x, y, h0⟩
      · exact h0
      · obtain ⟨g, o, e, _⟩ := hr (by rw [h0]; simp)
        cases e
    subst hn
    clear hr
    have hnil := nil_yes c
    go_enter Tryz.func115, Tryz.ntmps115
    go_wp2
    go_ret
    exact ⟨⟨_, rfl, Bo.nil⟩, Below.refl _ _⟩
  | some a =>
    have hO1 : Hid (Bo (w.alloc (.cells #[] 5)) w.heap.size 5 (.slice (some ⟨w.heap.size, 0, none⟩) 0 0) []) := OwS.lit w 5 1 0 #[] (by simp) (by simp [maxLen]) (Nat.le_refl _)
    have HR := Lib.hid (hr.alloc hB (.cells #[] 5))
    clear hr
    have hnil := nil_no a l.length c
    go_enter Tryz.func115, Tryz.ntmps115
    go_wp2_with (at_builtin; go_loud (refine wpList_appBo rfl (.tmp 5) (.tmp 6) 22 rfl w.heap.size 5 i0 Tryz.underlying22 hi0 hz0 hz1 hz2 (.slice (some ⟨w.heap.size, 0, none⟩) 0 0) [] rfl hO1.out B (some a) l _ _ rfl rfl HR.out (by simp; omega) (by simp) ?_; intro v2 w2 hO2 hF2 hN2))
    go_ret
    rw [List.nil_append] at hO2
    exact ⟨⟨_, rfl, hO2⟩, ((Below.refl w.heap.size w).alloc (Nat.le_refl _) _).trans (hF2.below (fun k hk _ => by have := (OwS.lt hO1.out k hk).1; omega) (by simp))⟩

theorem setsN_six (s : List UInt8) (h : 6 ≤ s.length) : setsN s = (valL (s.take 2), valL ((s.drop 2).take 4)) :: setsN (s.drop 6) := by
  obtain ⟨a, b, c, d, e, f, r, rfl⟩ := six h
  rfl
theorem setsN_drop : ∀ (k : Nat) (l : List UInt8), 6 * k ≤ l.length → (setsN l).drop k = setsN (l.drop (6 * k))
  | 0, l, _ => by simp
  | k + 1, l, h => by
    rw [setsN_six l (by omega), List.drop_succ_cons, setsN_drop k (l.drop 6) (by rw [List.length_drop]; omega), List.drop_drop, show 6 + 6 * k = 6 * (k + 1) by omega]
theorem setsN_take {l : List UInt8} {n k : Nat} (hl : l.length = 6 * n) (h : k < n) : (setsN l).take (k + 1) = (setsN l).take k ++ [(valL ((l.drop (6 * k)).take 2), valL (((l.drop (6 * k)).drop 2).take 4))] := by
  have hlen := (setsL_setsN n l hl).2
  rw [List.take_succ_eq_append_getElem (by omega)]
  congr 2
  have h1 := setsN_drop k l (by omega)
  rw [setsN_six (l.drop (6 * k)) (by rw [List.length_drop]; omega), List.drop_eq_getElem_cons (by omega)] at h1
  exact (List.cons.inj h1).1
theorem val2 (a b : UInt8) : valL [a, b] = a.toNat * 256 + b.toNat := by simp only [valL, List.foldl_cons, List.foldl_nil]; omega
theorem two {l : List UInt8} (h : 2 ≤ l.length) : ∃ a b r, l = a :: b :: r := by
  match l, h with
  | a :: b :: r, _ => exact ⟨a, b, r, rfl⟩
theorem set_info : (Tryz.prog.info? 164).map (fun i => (i.zero, i.size, i.bytes)) = some (some (.agg #[.int .u16 0, .int .u32 0]), 2, 8) := by kernel_rfl

set_option maxRecDepth 100000 in
set_option maxHeartbeats 2000000 in
theorem getSettings_any {A : Option Addr} {c n : Nat} {l : List UInt8} {w : World} (hr : RdB w w.heap.size A l) (hl : l.length = 6 * n) (hc : l.length ≤ c) (hn : n ≤ 100000) :
    Calls Tryz.prog 219 #[.slice A (6 * n) c] w fun e w' => (∃ v, e = .returned v ∧ OwS w' w.heap.size 164 2 v n (enl sgc (setsN l))) ∧ Below w.heap.size w w' := by
  obtain ⟨i0, hi0, hz0, hz1, hz2⟩ := info_parts set_info
  obtain ⟨i1, hi1, _, hz11, _⟩ := info_parts u8_info
  have hlen := (setsL_setsN n l hl).2
  have HTk : Hid (∀ k, k < n → (setsN l).take (k + 1) = (setsN l).take k ++ [(valL ((l.drop (6 * k)).take 2), valL (((l.drop (6 * k)).drop 2).take 4))]) := fun k hk => setsN_take hl hk
  have HT0 : Hid ((setsN l).take 0 = []) := List.take_zero
  have HTn : Hid ((setsN l).take n = setsN l) := by show _ = _; rw [← hlen, List.take_length]
  have HL := Lib.hid hl
  have HR := Lib.hid hr
  rw [hl] at hc
  clear hr hl hlen
  go_enter Tryz.func219, Tryz.ntmps219
  go_wp2_with fail
  go_loopw [0, 3] (fun b s wr => ∃ (k c' : Nat) (A' : Option Addr) (v : Value), k ≤ n ∧ b = .slice A' (6 * (n - k)) c' ∧ 6 * (n - k) ≤ c' ∧ v = s ∧ Hid (RdB wr w.heap.size A' (l.drop (6 * k))) ∧ Hid (OwS wr w.heap.size 164 2 v k (enl sgc ((setsN l).take k))) ∧ Hid (Below w.heap.size w wr))
    (fun b _ _ => match b with | .slice _ m _ => m | _ => 0)
  case atStart => exact ⟨0, c, A, _, Nat.zero_le _, by rw [Nat.sub_zero], by omega, rfl, by show RdB _ _ _ _; simpa using HR.out, by show OwS _ _ _ _ _ _ _; rw [HT0.out]; exact OwS.nil, Below.refl _ _⟩
  case round =>
    obtain ⟨k, c', A', v, hk, rfl, hc', rfl, hR, hO, hB⟩ := hrel
    by_cases hlt : k < n
    · have hsl : (l.drop (6 * k)).length = 6 * (n - k) := by rw [List.length_drop, HL.out]; omega
      have HT := Lib.hid (HTk.out k hlt)
      have HD : Hid ((l.drop (6 * k)).drop 6 = l.drop (6 * (k + 1))) := by show _ = _; rw [List.drop_drop, show 6 * k + 6 = 6 * (k + 1) by omega]
      generalize l.drop (6 * k) = s at *
      obtain ⟨m, hm⟩ : ∃ m, m = 6 * (n - k) := ⟨_, rfl⟩
      rw [← hm] at hsl hc' ⊢
      have hm6 : 6 ≤ m := by omega
      have hmn : m ≤ 600000 := by omega
      have HM := Lib.hid hm
      clear hm
      obtain ⟨Ac, hcut, hRc⟩ := cut_from (P := Tryz.prog) Tryz.underlying22 hi1 hz11 hR.out (c := c') (k := 6) (by omega) (by omega)
      obtain ⟨Ad, hcut2, hRd⟩ := cut_from (P := Tryz.prog) Tryz.underlying22 hi1 hz11 hR.out (c := c') (k := 2) (by omega) (by omega)
      obtain ⟨g, o, rfl, hg, hcell⟩ := hR.out (by intro e0; rw [e0] at hsl; simp at hsl; omega)
      obtain ⟨a0, a1, r, hL2⟩ := two (l := s) (by omega)
      have f0 : wr.drew.cell? ⟨g, o, none⟩ = some (.int .u8 (a0.toNat : Int)) := by have := hcell 0 (by omega); simpa [hL2] using this
      have f1 : wr.drew.cell? ⟨g, o + 1, none⟩ = some (.int .u8 (a1.toNat : Int)) := by have := hcell 1 (by omega); simpa [hL2] using this
      have hv2 : valL (s.take 2) = a0.toNat * 256 + a1.toNat := by rw [hL2]; exact val2 a0 a1
      have h4 : valL ((s.drop 2).take 4) < 4294967296 := head4 _
      have hgn := fun (W : World) (h : RdB W w.heap.size Ad (s.drop 2)) => getNumber_any (c := c' - 2) h (by rw [List.length_drop]; omega) (by rw [List.length_drop]; omega)
      rw [List.length_drop, hsl] at hgn
      have hcut' : ∀ W, (Instr.slice 22 (.slice (some ⟨g, o, none⟩) m c') (some (.int .i64 6)) none none).run Tryz.prog W = .ok (.slice Ac (m - 6) (c' - 6)) W := fun W => by have := hcut W; rw [hsl] at this; exact this
      have hcut2' : ∀ W, (Instr.slice 22 (.slice (some ⟨g, o, none⟩) m c') (some (.int .i64 2)) none none).run Tryz.prog W = .ok (.slice Ad (m - 2) (c' - 2)) W := fun W => by have := hcut2 W; rw [hsl] at this; exact this
      have b0 := a0.toNat_lt
      have b1 := a1.toNat_lt
      have HRc := Lib.hid hRc
      have HRd := Lib.hid hRd
      clear hcut hcut2 hRc hRd hcell hR
      rw [hv2] at HT
      have hor := or2 b0 b1
      have hi2 : a0.toNat * 256 + a1.toNat < 65536 := by omega
      clear hL2 hv2 hsl
      generalize a0.toNat = n0 at *
      generalize a1.toNat = n1 at *
      generalize valL ((s.drop 2).take 4) = z at *
      generalize hid : n0 * 256 + n1 = id at *
      clear hid
      have m0 : (0 : Int) < (m : Int) := by omega
      have m1 : (1 : Int) < (m : Int) := by omega
      have hsz := hB.out.size
      have hw0 : IntKind.u16.wrap (n0 : Int) = (n0 : Int) := by rw [IntKind.wrap_u16]; omega
      have hw1 : IntKind.u16.wrap (n1 : Int) = (n1 : Int) := by rw [IntKind.wrap_u16]; omega
      have hw2 : IntKind.u16.wrap ((n0 : Int) * 256) = (n0 : Int) * 256 := by rw [IntKind.wrap_u16]; omega
      go_wp2_with fail
      refine wp_region_held_drew (S := fun w' => w'.cell? ⟨g, o, none⟩ = some (.int .u8 (n0 : Int)) ∧ w'.cell? ⟨g, o + 1, none⟩ = some (.int .u8 (n1 : Int))) (by kernel_rfl) ⟨f0, f1⟩ (fun hHeld => ?_)
      refine wpAnyH_take (i := 0) (v := ?v0) rfl (by kernel_rfl) (by kernel_rfl) (by kernel_rfl) (fun _ _ _ h => h) (Or.inl ⟨by rfl, ?hy0⟩) (by assumption) ?rest0
      case hy0 => (intro w hSw; (try dsimp only at hSw); go_simp <;> with_reducible rfl)
      try simp only [Act.put, List.getElem_toArray, List.getElem_cons_zero, List.getElem_cons_succ, List.setIfInBounds_toArray, List.set_cons_zero, List.set_cons_succ]
      refine wpAnyH_take (i := 1) (v := ?v1) rfl (by kernel_rfl) (by kernel_rfl) (by kernel_rfl) (fun _ _ _ h => h) (Or.inl ⟨by rfl, ?hy1⟩) (by assumption) ?rest1
      case hy1 => (intro w hSw; (try dsimp only at hSw); go_simp <;> with_reducible rfl)
      try simp only [Act.put, List.getElem_toArray, List.getElem_cons_zero, List.getElem_cons_succ, List.setIfInBounds_toArray, List.set_cons_zero, List.set_cons_succ]
      refine wpAnyH_take (i := 2) (v := ?v2) rfl (by kernel_rfl) (by kernel_rfl) (by kernel_rfl) (fun _ _ _ h => h) (Or.inl ⟨by rfl, ?hy2⟩) (by assumption) ?rest2
      case hy2 => (intro w hSw; (try dsimp only at hSw); go_simp <;> with_reducible rfl)
      try simp only [Act.put, List.getElem_toArray, List.getElem_cons_zero, List.getElem_cons_succ, List.setIfInBounds_toArray, List.set_cons_zero, List.set_cons_succ]
      refine wpAnyH_take (i := 3) (v := ?v3) rfl (by kernel_rfl) (by kernel_rfl) (by kernel_rfl) (fun _ _ _ h => h) (Or.inl ⟨by rfl, ?hy3⟩) (by assumption) ?rest3
      case hy3 => (intro w hSw; (try dsimp only at hSw); go_simp <;> with_reducible rfl)
      try simp only [Act.put, List.getElem_toArray, List.getElem_cons_zero, List.getElem_cons_succ, List.setIfInBounds_toArray, List.set_cons_zero, List.set_cons_succ]
      refine wpAnyH_take (i := 4) (v := ?v4) rfl (by kernel_rfl) (by kernel_rfl) (by kernel_rfl) (fun _ _ _ h => h) (Or.inl ⟨by rfl, ?hy4⟩) (by assumption) ?rest4
      case hy4 => (intro w hSw; (try dsimp only at hSw); go_simp <;> with_reducible rfl)
      try simp only [Act.put, List.getElem_toArray, List.getElem_cons_zero, List.getElem_cons_succ, List.setIfInBounds_toArray, List.set_cons_zero, List.set_cons_succ]
      refine wpAnyH_take (i := 5) (v := ?v5) rfl (by kernel_rfl) (by kernel_rfl) (by kernel_rfl) (fun _ _ _ h => h) (Or.inl ⟨by rfl, ?hy5⟩) (by assumption) ?rest5
      case hy5 => (intro w hSw; (try dsimp only at hSw); go_simp <;> with_reducible rfl)
      try simp only [Act.put, List.getElem_toArray, List.getElem_cons_zero, List.getElem_cons_succ, List.setIfInBounds_toArray, List.set_cons_zero, List.set_cons_succ]
      refine wpAnyH_take (i := 6) (v := ?v6) rfl (by kernel_rfl) (by kernel_rfl) (by kernel_rfl) (fun _ _ _ h => h) (Or.inl ⟨by rfl, ?hy6⟩) (by assumption) ?rest6
      case hy6 => (intro w hSw; (try dsimp only at hSw); go_simp <;> with_reducible rfl)
      try simp only [Act.put, List.getElem_toArray, List.getElem_cons_zero, List.getElem_cons_succ, List.setIfInBounds_toArray, List.set_cons_zero, List.set_cons_succ]
      refine wpAnyH_take (i := 7) (v := ?v7) rfl (by kernel_rfl) (by kernel_rfl) (by kernel_rfl) (fun _ _ _ h => h) (Or.inl ⟨by rfl, ?hy7⟩) (by assumption) ?rest7
      case hy7 => (intro w hSw; (try dsimp only at hSw); go_simp <;> with_reducible rfl)
      try simp only [Act.put, List.getElem_toArray, List.getElem_cons_zero, List.getElem_cons_succ, List.setIfInBounds_toArray, List.set_cons_zero, List.set_cons_succ]
      refine wpAnyH_take (i := 8) (v := ?v8) rfl (by kernel_rfl) (by kernel_rfl) (by kernel_rfl) (fun _ _ _ h => h) (Or.inl ⟨by rfl, ?hy8⟩) (by assumption) ?rest8
      case hy8 => (intro w hSw; (try dsimp only at hSw); go_simp <;> with_reducible rfl)
      try simp only [Act.put, List.getElem_toArray, List.getElem_cons_zero, List.getElem_cons_succ, List.setIfInBounds_toArray, List.set_cons_zero, List.set_cons_succ]
      refine wpAnyH_take (i := 9) (v := ?v9) rfl (by kernel_rfl) (by kernel_rfl) (by kernel_rfl) (fun _ _ _ h => h) (Or.inl ⟨by rfl, ?hy9⟩) (by assumption) ?rest9
      case hy9 => (intro w hSw; (try dsimp only at hSw); go_simp <;> with_reducible rfl)
      try simp only [Act.put, List.getElem_toArray, List.getElem_cons_zero, List.getElem_cons_succ, List.setIfInBounds_toArray, List.set_cons_zero, List.set_cons_succ]
      refine wpAnyH_take (i := 10) (v := ?v10) rfl (by kernel_rfl) (by kernel_rfl) (by kernel_rfl) (fun _ _ _ h => h) (Or.inl ⟨by rfl, ?hy10⟩) (by assumption) ?rest10
      case hy10 => (intro w hSw; (try dsimp only at hSw); go_simp <;> with_reducible rfl)
      try simp only [Act.put, List.getElem_toArray, List.getElem_cons_zero, List.getElem_cons_succ, List.setIfInBounds_toArray, List.set_cons_zero, List.set_cons_succ]
      refine wpAnyH_take (i := 11) (v := ?v11) rfl (by kernel_rfl) (by kernel_rfl) (by kernel_rfl) (fun _ _ _ h => h) (Or.inl ⟨by rfl, ?hy11⟩) (by assumption) ?rest11
      case hy11 => (intro w hSw; (try dsimp only at hSw); go_simp <;> with_reducible rfl)
      try simp only [Act.put, List.getElem_toArray, List.getElem_cons_zero, List.getElem_cons_succ, List.setIfInBounds_toArray, List.set_cons_zero, List.set_cons_succ]
      refine wpAnyH_take (i := 12) (v := ?v12) rfl (by kernel_rfl) (by kernel_rfl) (by kernel_rfl) (fun _ _ _ h => h) (Or.inl ⟨by rfl, ?hy12⟩) (by assumption) ?rest12
      case hy12 => (intro w hSw; (try dsimp only at hSw); go_simp <;> with_reducible rfl)
      try simp only [Act.put, List.getElem_toArray, List.getElem_cons_zero, List.getElem_cons_succ, List.setIfInBounds_toArray, List.set_cons_zero, List.set_cons_succ]
      refine wpAnyH_ready (rs := [13]) (by kernel_rfl) (by simp) ?_
      refine AllReadyH.cons rfl (fun K hK => ?_) AllReadyH.nil
      go_simp
      go_at_call 189
      refine (hgn wr.drew HRd.out).mono ?_
      rintro e w2 ⟨rfl, nq, rfl⟩
      refine hK.out _ _ ⟨f0, f1⟩ (fun hHeld => ?_)
      clear hK K hgn
      try simp only [Act.put, List.getElem_toArray, List.getElem_cons_zero, List.getElem_cons_succ, List.setIfInBounds_toArray, List.set_cons_zero, List.set_cons_succ]
      refine wpAnyH_take (i := 14) (v := ?v14q1) rfl (by kernel_rfl) (by kernel_rfl) (by kernel_rfl) (fun _ _ _ h => h) (Or.inl ⟨by rfl, ?hy14q1⟩) (by assumption) ?rest14q1
      case hy14q1 => (intro w hSw; (try dsimp only at hSw); go_simp <;> with_reducible rfl)
      try simp only [Act.put, List.getElem_toArray, List.getElem_cons_zero, List.getElem_cons_succ, List.setIfInBounds_toArray, List.set_cons_zero, List.set_cons_succ]
      refine wpAnyH_ready (rs := [15]) (by kernel_rfl) (by simp) ?_
      refine AllReadyH.cons rfl (fun K hK => ?_) AllReadyH.nil
      go_simp
      have hgl : g < wr.heap.size := by omega
      have hLt : Row ((wr.drewN (1 + nq)).alloc (.cells #[.int .u16 (id : Int), .int .u32 (z : Int)] 164)) wr.heap.size 164 #[.int .u16 (id : Int), .int .u32 (z : Int)] := Row.new (wr.drewN (1 + nq)) _ _
      have k0 : ((wr.drewN (1 + nq)).alloc (.cells #[.int .u16 (id : Int), .int .u32 (z : Int)] 164)).cell? ⟨g, o, none⟩ = some (.int .u8 (n0 : Int)) := (World.cell?_alloc_lt (wr.drewN (1 + nq)) _ ⟨g, o, none⟩ hgl).trans f0
      have k1 : ((wr.drewN (1 + nq)).alloc (.cells #[.int .u16 (id : Int), .int .u32 (z : Int)] 164)).cell? ⟨g, o + 1, none⟩ = some (.int .u8 (n1 : Int)) := (World.cell?_alloc_lt (wr.drewN (1 + nq)) _ ⟨g, o + 1, none⟩ hgl).trans f1
      have hO2 : OwS ((wr.drewN (1 + nq)).alloc (.cells #[.int .u16 (id : Int), .int .u32 (z : Int)] 164)) w.heap.size 164 2 v k (enl sgc ((setsN l).take k)) := OwS.alloc (show OwS (wr.drewN (1 + nq)) _ _ _ _ _ _ from hO.out) _
      have hB2 : Below w.heap.size w ((wr.drewN (1 + nq)).alloc (.cells #[.int .u16 (id : Int), .int .u32 (z : Int)] 164)) := (below_dN hB.out _).alloc (show w.heap.size ≤ wr.heap.size from hsz) _
      have hs2 : ((wr.drewN (1 + nq)).alloc (.cells #[.int .u16 (id : Int), .int .u32 (z : Int)] 164)).heap.size = wr.heap.size + 1 := by simp
      refine hK.out _ _ ⟨k0, k1⟩ (fun hHeld => ?_)
      clear hK K
      have HLt := Lib.hid hLt
      have HO2 := Lib.hid hO2
      have HB2 := Lib.hid hB2
      have HS2 := Lib.hid hs2
      clear hLt hO2 hB2 hs2 hHeld
      generalize (wr.drewN (1 + nq)).alloc (.cells #[.int .u16 (id : Int), .int .u32 (z : Int)] 164) = w2 at *
      have hHeld : w2.cell? ⟨g, o, none⟩ = some (.int .u8 (n0 : Int)) ∧ w2.cell? ⟨g, o + 1, none⟩ = some (.int .u8 (n1 : Int)) := ⟨k0, k1⟩
      try simp only [Act.put, List.getElem_toArray, List.getElem_cons_zero, List.getElem_cons_succ, List.setIfInBounds_toArray, List.set_cons_zero, List.set_cons_succ]
      refine wpAnyH_ready (rs := [16]) (by kernel_rfl) (by simp) ?_
      refine AllReadyH.cons rfl (fun K hK => ?_) AllReadyH.nil
      refine step_appS rfl (.tmp 9) (.tmp 24) 64 rfl w.heap.size 164 i0 _ 2 8 Tryz.underlying64 hi0 hz0 hz1 hz2 rfl v k (enl sgc ((setsN l).take k)) rfl HO2.out ⟨wr.heap.size, 0, none⟩ 1 _ (sgc (id, z)) rfl rfl (fun j u hj => by rw [add_plain, Nat.zero_add]; exact HLt.out.cell (by simpa [sgc] using hj)) (fun u hu => by simp [sgc] at hu; rcases hu with rfl | rfl <;> rfl) (by omega) (by simp only [maxLen]; omega) (by omega) (by have := HS2.out; omega) (fun A3 c3 w3 hO3 hG3 hN3 => ?_)
      have hF3 := Fs.of_grown hG3
      have hx : ∀ {a : Addr} {u : Value}, a.block = g → w2.cell? a = some u → w3.cell? a = some u := fun {a} {u} ha hu => (World.cell?_of_block (hF3.block _ (World.block_lt_of_cell? w2 _ hu) (fun e => by have := (OwS.lt HO2.out _ e).1; omega))).trans hu
      have q0 : w3.cell? ⟨g, o, none⟩ = some (.int .u8 (n0 : Int)) := hx rfl k0
      have q1 : w3.cell? ⟨g, o + 1, none⟩ = some (.int .u8 (n1 : Int)) := hx rfl k1
      have HO3 : Hid (OwS w3 w.heap.size 164 2 (.slice A3 (k + 1) c3) (k + 1) (enl sgc ((setsN l).take (k + 1)))) := by
        show OwS _ _ _ _ _ _ _
        rw [HT.out, enl_append, enl_one]
        exact hO3
      have hB23 := hF3.below (fun k hk _ => (OwS.lt HO2.out k hk).1) HB2.out.size
      have HB3 := Lib.hid (HB2.out.trans hB23)
      have HR3 : Hid (RdB w3 w.heap.size Ac (l.drop (6 * (k + 1)))) := by
        show RdB _ _ _ _
        rw [← HD.out]
        exact (HRc.out.keep fun p hp => World.cell?_of_block (by
          have h1 := HB3.out.block p.block hp
          have h2 := hB.out.block p.block hp
          rw [h1, h2]))
      refine hK.out _ _ ⟨q0, q1⟩ (fun hHeld => ?_)
      clear hK K hO3 hG3 hN3 hF3 hx k0 k1
      try simp only [Act.put, List.getElem_toArray, List.getElem_cons_zero, List.getElem_cons_succ, List.setIfInBounds_toArray, List.set_cons_zero, List.set_cons_succ]
      refine wpAnyH_take (i := 17) (v := ?v17q2) rfl (by kernel_rfl) (by kernel_rfl) (by kernel_rfl) (fun _ _ _ h => h) (Or.inl ⟨by rfl, ?hy17q2⟩) (by assumption) ?rest17q2
      case hy17q2 => (intro w hSw; (try dsimp only at hSw); go_simp <;> with_reducible rfl)
      try simp only [Act.put, List.getElem_toArray, List.getElem_cons_zero, List.getElem_cons_succ, List.setIfInBounds_toArray, List.set_cons_zero, List.set_cons_succ]
      refine wpAnyH_done (by kernel_rfl) ?_ _
      clear hHeld q0 q1 f0 f1
      go_wp2_with fail
      go_roundw
      case rel => exact ⟨k + 1, c' - 6, Ac, _, by omega, by rw [HM.out, show 6 * (n - k) - 6 = 6 * (n - (k + 1)) by omega], by have := HM.out; omega, rfl, HR3, HO3, HB3⟩
      case measure => have := HM.out; simp; omega
    · obtain rfl : k = n := by omega
      go_wp2_with fail
      go_ret
      have := hO.out
      rw [HTn.out] at this
      exact ⟨⟨_, rfl, this⟩, hB.out⟩
end Go.Proofs.YtooaajnkiokpnaaGreatDoor
