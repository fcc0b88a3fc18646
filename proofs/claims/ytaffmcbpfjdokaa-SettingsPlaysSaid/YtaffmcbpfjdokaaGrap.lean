/-
  The document's Apply, by its contract. Condition: the list is read.
-/
import Derived.Test.YtaffmcbpfjdokaaGapl
import Derived.Test.YtaffmcbpfjdokaaLast
namespace Go.Proofs.Ytaffmcbpfjdokaa
open Go.RowKit Go.WideShapes

/-- A setting's cells, out of a list's block. -/
theorem se_range {w : World} {b q i v : Nat} (h0 : w.cell? ⟨b, q, none⟩ = some (.int .u16 (i : Int))) (h1 : w.cell? ⟨b, q + 1, none⟩ = some (.int .u32 (v : Int))) : w.rangeAt b q (sec i v).toList := by
  intro j u hj
  match j, hj with
  | 0, hj =>
    have hj' : some (Value.int .u16 (i : Int)) = some u := hj
    rw [Nat.add_zero, h0, hj']
  | 1, hj =>
    have hj' : some (Value.int .u32 (v : Int)) = some u := hj
    rw [h1, hj']
  | j + 2, hj => simp [sec] at hj
theorem range_below {w w' : World} {b q : Nat} {cs : List Value} (h : w.rangeAt b q cs) (hb : Below w.heap.size w w') (hlt : b < w.heap.size) : w'.rangeAt b q cs := fun j v hj => (hb.cell (p := ⟨b, q + j, none⟩) hlt).trans (h j v hj)
theorem ne99 {n : Nat} (h : n = 0 ∨ n = 1 ∨ n = 3) (h0 : n ≠ 0) : (((cdN n : Nat) : Int) != 99) = true := by rcases h with rfl | rfl | rfl <;> first | exact absurd rfl h0 | rfl
/-- What lies in memory while it goes through the list. -/
structure RaI (w wr : World) (b6 : Nat) (s o : St) : Prop where
  r2 : Row wr w.heap.size 24 s.c
  r4 : Row wr (w.heap.size + 1) 24 zS.c
  r6 : Row wr b6 24 o.c
  hb : Below w.heap.size w wr
  h6 : b6 = w.heap.size + 2
theorem RaI.below {w wr w' : World} {b6 : Nat} {s o : St} (h : RaI w wr b6 s o) (hb : Below wr.heap.size wr w') : RaI w w' b6 s o :=
  ⟨h.r2.below hb h.r2.lt, h.r4.below hb h.r4.lt, h.r6.below hb h.r6.lt, h.hb.trans (hb.mono h.hb.size), h.h6⟩
theorem RaI.set {w wr : World} {b6 : Nat} {s o : St} (h : RaI w wr b6 s o) (o' : St) : RaI w (wr.setRow b6 o'.c) b6 s o' := by
  have := h.h6
  exact ⟨h.r2.setRow' (by omega) _, h.r4.setRow' (by omega) _, h.r6.setRow _, below_setRow h.hb _ _ (by omega), h.h6⟩
theorem RaI.drewN {w wr : World} {b6 : Nat} {s o : St} (h : RaI w wr b6 s o) (n : Nat) : RaI w (wr.drewN n) b6 s o := ⟨h.r2, h.r4, h.r6, below_dN h.hb n, h.h6⟩
attribute [local irreducible] St.c ftc sec

/-- What it leaves. -/
def RaPost (w : World) (r : St × Nat) (e : Ending) (w' : World) : Prop := e = .returned (.tuple #[.agg r.1.c, .int .i64 (cdN r.2 : Nat)]) ∧ Below w.heap.size w w'
set_option maxRecDepth 100000 in
set_option maxHeartbeats 4000000 in
theorem rapply_any (s : St) {A : Option Addr} {c : Nat} {l : List (Nat × Nat)} {w : World} (hr : RdS w (· < w.heap.size) A (enl sgc l)) (hl : l.length ≤ 1000000000000) :
    Calls Try.prog 9 #[.agg s.c, .slice A l.length c] w (RaPost w (apN s s l)) := by
  have hz : zS.c = #[.int .u32 0, .bool false, .int .u32 0, .int .u32 0, .int .u32 0, .int .u32 0, .bool false] := by unfold St.c; rfl
  have H2 : Hid (Row ((w.alloc (.cells s.c 24)).alloc (.cells #[.int .u32 0, .bool false, .int .u32 0, .int .u32 0, .int .u32 0, .int .u32 0, .bool false] 24)) w.heap.size 24 s.c) := (Row.new w _ _).alloc _
  have H4 : Hid (Row ((w.alloc (.cells s.c 24)).alloc (.cells #[.int .u32 0, .bool false, .int .u32 0, .int .u32 0, .int .u32 0, .int .u32 0, .bool false] 24)) (w.heap.size + 1) 24 zS.c) := by show Row _ _ _ _; rw [hz]; exact Row.made _ _ _ (by simp)
  have HB : Hid (Below w.heap.size w ((w.alloc (.cells s.c 24)).alloc (.cells #[.int .u32 0, .bool false, .int .u32 0, .int .u32 0, .int .u32 0, .int .u32 0, .bool false] 24))) := ((Below.refl _ _).alloc (Nat.le_refl _) _).alloc (by simp) _
  have HZ : Hid (((w.alloc (.cells s.c 24)).alloc (.cells #[.int .u32 0, .bool false, .int .u32 0, .int .u32 0, .int .u32 0, .int .u32 0, .bool false] 24)).heap.size = w.heap.size + 2) := by show _ = _; simp
  have HR := Lib.hid hr
  have HZC := Lib.hid hz
  clear hr hz
  go_enter Try.func9, Try.ntmps9
  go_upto_region 1 with fail
  generalize ((w.alloc (.cells s.c 24)).alloc (.cells #[.int .u32 0, .bool false, .int .u32 0, .int .u32 0, .int .u32 0, .int .u32 0, .bool false] 24)) = w1 at *
  have H6 : Hid (Row (w1.alloc (.cells #[.int .u32 0, .bool false, .int .u32 0, .int .u32 0, .int .u32 0, .int .u32 0, .bool false] 24)) w1.heap.size 24 zS.c) := by show Row _ _ _ _; rw [HZC.out]; exact Row.new w1 _ _
  go_upto_region 2 with (first | (refine wpList_ld rfl _ rfl rfl H2.out (St.ok _) ?_) | (refine wpList_sw (cs := s.c) rfl _ _ rfl rfl rfl H6.out (St.sz _ _) (St.ok _) ?_))
  have HI : Hid (RaI w ((w1.alloc (.cells #[.int .u32 0, .bool false, .int .u32 0, .int .u32 0, .int .u32 0, .int .u32 0, .bool false] 24)).setRow w1.heap.size s.c) w1.heap.size s s) := by
    have hzz := HZ.out
    have h1 : Below w1.heap.size w1 (w1.alloc (.cells #[.int .u32 0, .bool false, .int .u32 0, .int .u32 0, .int .u32 0, .int .u32 0, .bool false] 24)) := (Below.refl _ _).alloc (Nat.le_refl _) _
    exact ⟨(H2.out.below h1 H2.out.lt).setRow' (by omega) _, (H4.out.below h1 H4.out.lt).setRow' (by omega) _, H6.out.setRow _, below_setRow (HB.out.trans (h1.mono HB.out.size)) _ _ (by omega), hzz⟩
  generalize (w1.alloc (.cells #[.int .u32 0, .bool false, .int .u32 0, .int .u32 0, .int .u32 0, .int .u32 0, .bool false] 24)).setRow w1.heap.size s.c = w2 at *
  generalize w1.heap.size = b6 at *
  clear H2 H4 H6 HB HZ HZC
  have HA : Hid (apN s s l = apN s s (l.drop 0)) := by show _ = _; rw [List.drop_zero]
  go_upto_region 3 with fail
  go_loopw [12] (fun i wr => ∃ (k : Nat) (o : St), k ≤ l.length ∧ i = .int .i64 k ∧ Hid (RaI w wr b6 s o) ∧ Hid (apN s s l = apN s o (l.drop k)))
    (fun i _ => l.length - (intOf i).toNat)
  case atStart => exact ⟨0, s, Nat.zero_le _, rfl, HI, HA⟩
  case round =>
    clear HI HA
    obtain ⟨k, o, hk, rfl, HI, HA⟩ := hrel
    by_cases hlt : k < l.length
    · obtain ⟨b, q, rfl, hb, f0, f1⟩ := (HR.out.below HI.out.hb).sett hlt
      have k0 : (0 : Int) ≤ (k : Int) := by omega
      have k1 : (k : Int) < (l.length : Int) := by omega
      have HS := Lib.hid (@apN_step s o l k hlt)
      have HX := Lib.hid (@apN_stop s o l k hlt)
      have hrg := se_range f0 f1
      have hbl : b < wr.heap.size := Nat.lt_of_lt_of_le hb HI.out.hb.size
      clear f0 f1
      generalize l[k].1 = i at *
      generalize l[k].2 = v at *
      have hck := wrong_any o i v
      have hst := with_any o i v
      have hle := wrN_le o i v
      go_wp2_with fail
      refine wp_region_held_drew (S := fun w' => Row w' b6 24 o.c ∧ w'.rangeAt b (q + k * 2) (sec i v).toList) (by kernel_rfl) ⟨HI.out.r6, hrg⟩ (fun hHeld => ?_)
      refine wpAnyH_take (i := 0) (v := _) rfl (by kernel_rfl) (by kernel_rfl) (by kernel_rfl) (fun _ _ _ h => h) (yields_ld (by rfl) _ rfl rfl (St.ok _) (fun _ hSw => hSw.1)) (by assumption) ?rest0w1
      try simp only [Act.put, List.getElem_toArray, List.getElem_cons_zero, List.setIfInBounds_toArray, List.set_cons_zero, List.set_cons_succ]
      refine wpAnyH_take (i := 1) (v := ?v1) rfl (by kernel_rfl) (by kernel_rfl) (by kernel_rfl) (fun _ _ _ h => h) (Or.inl ⟨by rfl, ?hy1⟩) (by assumption) ?rest1
      case hy1 => (intro w hSw; (try dsimp only at hSw); go_simp <;> with_reducible rfl)
      try simp only [Act.put, List.getElem_toArray, List.getElem_cons_zero, List.getElem_cons_succ, List.setIfInBounds_toArray, List.set_cons_zero, List.set_cons_succ]
      refine wpAnyH_take (i := 2) (v := ?v2) rfl (by kernel_rfl) (by kernel_rfl) (by kernel_rfl) (fun _ _ _ h => h) (Or.inl ⟨by rfl, ?hy2⟩) (by assumption) ?rest2
      case hy2 => (intro w hSw; (try dsimp only at hSw); go_simp <;> with_reducible rfl)
      try simp only [Act.put, List.getElem_toArray, List.getElem_cons_zero, List.getElem_cons_succ, List.setIfInBounds_toArray, List.set_cons_zero, List.set_cons_succ]
      refine wpAnyH_take (i := 3) (v := ?v3) rfl (by kernel_rfl) (by kernel_rfl) (by kernel_rfl) (fun _ _ _ h => h) (Or.inl ⟨by rfl, ?hy3⟩) (by assumption) ?rest3
      case hy3 => (intro w hSw; (try dsimp only at hSw); go_simp <;> with_reducible rfl)
      try simp only [Act.put, List.getElem_toArray, List.getElem_cons_zero, List.getElem_cons_succ, List.setIfInBounds_toArray, List.set_cons_zero, List.set_cons_succ]
      refine wpAnyH_take (i := 4) (v := _) rfl (by kernel_rfl) (by kernel_rfl) (by kernel_rfl) (fun _ _ _ h => h) (yields_ldm (by rfl) _ rfl rfl (se_ok _ _) (fun _ hSw => hSw.2)) (by assumption) ?rest4w2
      try simp only [Act.put, List.getElem_toArray, List.getElem_cons_zero, List.getElem_cons_succ, List.setIfInBounds_toArray, List.set_cons_zero, List.set_cons_succ]
      refine wpAnyH_ready (rs := [5]) (by kernel_rfl) (by simp) ?_
      refine AllReadyH.cons rfl (fun K hK => ?_) AllReadyH.nil
      go_simp
      go_at_call 22
      refine (hck _).mono ?_
      rintro e w3 ⟨rfl, hb3⟩
      have HI3 := Lib.hid ((HI.out.drewN 1).below hb3)
      have HG3 := Lib.hid (range_below hHeld.2 hb3 hbl)
      have hbl3 : b < w3.heap.size := Nat.lt_of_lt_of_le hbl hb3.size
      clear hb3 hck HI hrg hbl
      go_simp
      refine hK.out _ _ ⟨HI3.out.r6, HG3.out⟩ (fun hHeld => ?_)
      clear hK K hHeld
      try simp only [Act.put, List.getElem_toArray, List.getElem_cons_zero, List.getElem_cons_succ, List.setIfInBounds_toArray, List.set_cons_zero, List.set_cons_succ]
      have hHeld : Row w3 b6 24 o.c ∧ w3.rangeAt b (q + k * 2) (sec i v).toList := ⟨HI3.out.r6, HG3.out⟩
      refine wpAnyH_take (i := 6) (v := ?v6q5) rfl (by kernel_rfl) (by kernel_rfl) (by kernel_rfl) (fun _ _ _ h => h) (Or.inl ⟨by rfl, ?hy6q5⟩) (by assumption) ?rest6q5
      case hy6q5 => (intro w hSw; (try dsimp only at hSw); go_simp <;> with_reducible rfl)
      try simp only [Act.put, List.getElem_toArray, List.getElem_cons_zero, List.getElem_cons_succ, List.setIfInBounds_toArray, List.set_cons_zero, List.set_cons_succ]
      refine wpAnyH_done (by kernel_rfl) ?_ _
      clear hHeld
      by_cases hn : wrN o i v = 0
      · have HSn := Lib.hid (HS.out hn)
        rw [hn, cdN_0]
        clear HS HX hn hle
        go_wp2_with fail
        refine wp_region_E 6 (fun w' => Row w' b6 24 o.c ∧ w'.rangeAt b (q + k * 2) (sec i v).toList) (by kernel_rfl) ⟨HI3.out.r6, HG3.out⟩ (fun hHeld => ?_)
        refine wpAnyE_take (i := 0) (v := _) rfl (by kernel_rfl) (by kernel_rfl) (by kernel_rfl) (by kernel_rfl) (fun _ _ _ h => h) (yields_ld (by rfl) _ rfl rfl (St.ok _) (fun _ hSw => hSw.1)) (by assumption) ?rest0w3
        try simp only [Act.put, List.getElem_toArray, List.getElem_cons_zero, List.setIfInBounds_toArray, List.set_cons_zero, List.set_cons_succ]
        refine wpAnyE_take (i := 1) (v := ?v1q6) rfl (by kernel_rfl) (by kernel_rfl) (by kernel_rfl) (by kernel_rfl) (fun _ _ _ h => h) (Or.inl ⟨by rfl, ?hy1q6⟩) (by assumption) ?rest1q6
        case hy1q6 => (intro w hSw; (try dsimp only at hSw); go_simp <;> with_reducible rfl)
        try simp only [Act.put, List.getElem_toArray, List.getElem_cons_zero, List.getElem_cons_succ, List.setIfInBounds_toArray, List.set_cons_zero, List.set_cons_succ]
        refine wpAnyE_take (i := 2) (v := ?v2q6) rfl (by kernel_rfl) (by kernel_rfl) (by kernel_rfl) (by kernel_rfl) (fun _ _ _ h => h) (Or.inl ⟨by rfl, ?hy2q6⟩) (by assumption) ?rest2q6
        case hy2q6 => (intro w hSw; (try dsimp only at hSw); go_simp <;> with_reducible rfl)
        try simp only [Act.put, List.getElem_toArray, List.getElem_cons_zero, List.getElem_cons_succ, List.setIfInBounds_toArray, List.set_cons_zero, List.set_cons_succ]
        refine wpAnyE_take (i := 3) (v := ?v3q6) rfl (by kernel_rfl) (by kernel_rfl) (by kernel_rfl) (by kernel_rfl) (fun _ _ _ h => h) (Or.inl ⟨by rfl, ?hy3q6⟩) (by assumption) ?rest3q6
        case hy3q6 => (intro w hSw; (try dsimp only at hSw); go_simp <;> with_reducible rfl)
        try simp only [Act.put, List.getElem_toArray, List.getElem_cons_zero, List.getElem_cons_succ, List.setIfInBounds_toArray, List.set_cons_zero, List.set_cons_succ]
        refine wpAnyE_take (i := 4) (v := _) rfl (by kernel_rfl) (by kernel_rfl) (by kernel_rfl) (by kernel_rfl) (fun _ _ _ h => h) (yields_ldm (by rfl) _ rfl rfl (se_ok _ _) (fun _ hSw => hSw.2)) (by assumption) ?rest4w4
        try simp only [Act.put, List.getElem_toArray, List.getElem_cons_zero, List.getElem_cons_succ, List.setIfInBounds_toArray, List.set_cons_zero, List.set_cons_succ]
        refine wpAnyE_next (i := 5) (by kernel_rfl) rfl (fun K hK => ?_)
        go_simp
        go_at_call 23
        refine (hst _).mono ?_
        rintro e w4 ⟨rfl, hb4⟩
        have HI4 := Lib.hid ((HI3.out.drewN 1).below hb4)
        have HG4 := Lib.hid (range_below hHeld.2 hb4 hbl3)
        have HI5 := Lib.hid (HI4.out.set (stN o i v))
        clear hb4 hst HI3 HG3 hbl3
        go_simp
        refine hK.out _ _ ⟨HI4.out.r6, HG4.out⟩ (fun hHeld => ?_)
        clear hK K hHeld
        try simp only [Act.put, List.getElem_toArray, List.getElem_cons_zero, List.getElem_cons_succ, List.setIfInBounds_toArray, List.set_cons_zero, List.set_cons_succ]
        refine wpAnyE_last (by kernel_rfl) rfl (by kernel_rfl) (fun K hK => ?_)
        refine step_sw (cs := (stN o i v).c) rfl (.tmp 6) (.tmp 30) rfl rfl rfl HI4.out.r6 (St.sz _ _) (St.ok _) ?_
        refine hK.out _ _ ?_
        clear hK K
        try simp only [Act.put, List.getElem_toArray, List.getElem_cons_zero, List.getElem_cons_succ]
        go_wp2_with fail
        go_roundw
        case rel => exact ⟨k + 1, stN o i v, by omega, by go_num, HI5, HA.out.trans HSn.out⟩
        case measure => simp [intOf]; omega
      · have HXn := Lib.hid (HX.out hn)
        have hne := ne99 hle hn
        have HR4 := Lib.hid (HI3.out.r4.setRow s.c)
        have HBB := Lib.hid (below_setRow HI3.out.hb (w.heap.size + 1) s.c (by omega))
        clear HS HX hn hle hst HG3 hbl3
        generalize wrN o i v = n at *
        obtain ⟨m, hm⟩ : ∃ m, cdN n = m := ⟨_, rfl⟩
        rw [hm] at hne ⊢
        have HM := Lib.hid hm
        clear hm
        go_wp2_with (first | (refine wpList_ld rfl _ rfl rfl HI3.out.r2 (St.ok _) ?_) | (refine wpList_sw (cs := s.c) rfl _ _ rfl rfl rfl HI3.out.r4 (St.sz _ _) (St.ok _) ?_))
        exact bodyPost_ret (ret_agv rfl _ rfl HR4.out (St.ok _) rfl) rfl ⟨by rw [HA.out, HXn.out]; exact congrArg (fun x : Nat => Ending.returned (.tuple #[.agg s.c, .int .i64 (x : Int)])) HM.out.symm, HBB.out⟩
    · have HE : Hid (apN s o (l.drop k) = (o, 0)) := by show _ = _; rw [show k = l.length by omega]; exact apN_end
      have HR4 := Lib.hid (HI.out.r4.setRow o.c)
      go_wp2_with (first | (refine wpList_ld rfl _ rfl rfl HI.out.r6 (St.ok _) ?_) | (refine wpList_sw (cs := o.c) rfl _ _ rfl rfl rfl HI.out.r4 (St.sz _ _) (St.ok _) ?_))
      exact bodyPost_ret (ret_agv rfl _ rfl HR4.out (St.ok _) rfl) rfl ⟨by rw [HA.out, HE.out]; rfl, below_setRow HI.out.hb _ _ (by omega)⟩
end Go.Proofs.Ytaffmcbpfjdokaa
