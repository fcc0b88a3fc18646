/-
  settings' Apply, by its contract. Condition: the list is read.
-/
import Derived.Test.YtaffmcbpfjdokaaGset
import Derived.Deep.RegionHeld3
namespace Go.Proofs.Ytaffmcbpfjdokaa
open Go.RowKit Go.WideShapes

theorem RdS.sett {w : World} {S : Nat → Prop} {A : Option Addr} {L : List (Nat × Nat)} (h : RdS w S A (enl sgc L)) {i : Nat} (hi : i < L.length) : ∃ b q, A = some ⟨b, q, none⟩ ∧ S b ∧
    w.cell? ⟨b, q + i * 2, none⟩ = some (.int .u16 (L[i].1 : Int)) ∧ w.cell? ⟨b, q + i * 2 + 1, none⟩ = some (.int .u32 (L[i].2 : Int)) := by
  have hne : enl sgc L ≠ [] := by
    intro e
    have := enl_length sgc_len L
    rw [e] at this
    simp at this
    omega
  obtain ⟨b, q, hA, hb, hcl⟩ := h hne
  have h0 := hcl (i * 2 + 0) _ (by rw [enl_at sgc_len hi (by omega)]; rfl)
  have h1 := hcl (i * 2 + 1) _ (by rw [enl_at sgc_len hi (by omega)]; rfl)
  exact ⟨b, q, hA, hb, by simpa using h0, by rw [Nat.add_assoc]; exact h1⟩
/-- A fault, held against none. -/
theorem ft_none (w : World) : (binOp .neq 28 (.agg (ftc 0 0)) (.agg #[.int .u8 0, .int .u32 0])).run Try.prog w = .ok (.bool false) w := ft_neq 0 0 0 0 w
theorem ft_some {n : Nat} (h : n ≠ 0) (w : World) : (binOp .neq 28 (.agg (ftc 1 n)) (.agg #[.int .u8 0, .int .u32 0])).run Try.prog w = .ok (.bool true) w := by
  refine (ft_neq 1 n 0 0 w).trans ?_
  rw [decide_eq_false h]
  rfl
theorem ftz : ftc 0 0 = #[.int .u8 0, .int .u32 0] := rfl
attribute [local irreducible] St.c ftc sec

/-- What lies in memory while Apply goes through the list. -/
structure ApI (w wr : World) (b6 : Nat) (s o : St) : Prop where
  r2 : Row wr w.heap.size 24 s.c
  r4 : Row wr (w.heap.size + 1) 24 zS.c
  r5 : Row wr (w.heap.size + 2) 28 (ftc 0 0)
  r6 : Row wr b6 24 o.c
  hb : Below w.heap.size w wr
  h6 : b6 = w.heap.size + 3
theorem ApI.below {w wr w' : World} {b6 : Nat} {s o : St} (h : ApI w wr b6 s o) (hb : Below wr.heap.size wr w') : ApI w w' b6 s o :=
  ⟨h.r2.below hb h.r2.lt, h.r4.below hb h.r4.lt, h.r5.below hb h.r5.lt, h.r6.below hb h.r6.lt, h.hb.trans (hb.mono h.hb.size), h.h6⟩
theorem ApI.set {w wr : World} {b6 : Nat} {s o : St} (h : ApI w wr b6 s o) (o' : St) : ApI w (wr.setRow b6 o'.c) b6 s o' := by
  have := h.h6
  exact ⟨h.r2.setRow' (by omega) _, h.r4.setRow' (by omega) _, h.r5.setRow' (by omega) _, h.r6.setRow _, below_setRow h.hb _ _ (by omega), h.h6⟩
theorem row_draws {w : World} {g : Nat} {t : TypeId} {cs : Array Value} (h : Row w g t cs) (n : Nat) : Row (w.drewN n) g t cs := h
/-- What Apply leaves. -/
def ApPost (w : World) (r : St × Nat) (e : Ending) (w' : World) : Prop := e = .returned (.tuple #[.agg r.1.c, .agg (ftc (if r.2 = 0 then 0 else 1) r.2)]) ∧ Below w.heap.size w w'
set_option maxRecDepth 100000 in
set_option maxHeartbeats 4000000 in
theorem apply_any (s : St) {A : Option Addr} {c : Nat} {l : List (Nat × Nat)} {w : World} (hr : RdS w (· < w.heap.size) A (enl sgc l)) (hl : l.length ≤ 1000000000000) :
    Calls Try.prog 8 #[.agg s.c, .slice A l.length c] w (ApPost w (apN s s l)) := by
  have hz : zS.c = #[.int .u32 0, .bool false, .int .u32 0, .int .u32 0, .int .u32 0, .int .u32 0, .bool false] := by unfold St.c; rfl
  have hfz := ftz
  have H2 : Hid (Row (((w.alloc (.cells s.c 24)).alloc (.cells #[.int .u32 0, .bool false, .int .u32 0, .int .u32 0, .int .u32 0, .int .u32 0, .bool false] 24)).alloc (.cells #[.int .u8 0, .int .u32 0] 28)) w.heap.size 24 s.c) := ((Row.new w _ _).alloc _).alloc _
  have H4 : Hid (Row (((w.alloc (.cells s.c 24)).alloc (.cells #[.int .u32 0, .bool false, .int .u32 0, .int .u32 0, .int .u32 0, .int .u32 0, .bool false] 24)).alloc (.cells #[.int .u8 0, .int .u32 0] 28)) (w.heap.size + 1) 24 zS.c) := by show Row _ _ _ _; rw [hz]; exact (Row.made _ _ _ (by simp)).alloc _
  have H5 : Hid (Row (((w.alloc (.cells s.c 24)).alloc (.cells #[.int .u32 0, .bool false, .int .u32 0, .int .u32 0, .int .u32 0, .int .u32 0, .bool false] 24)).alloc (.cells #[.int .u8 0, .int .u32 0] 28)) (w.heap.size + 2) 28 (ftc 0 0)) := by show Row _ _ _ _; rw [hfz]; exact Row.made _ _ _ (by simp)
  have HB : Hid (Below w.heap.size w (((w.alloc (.cells s.c 24)).alloc (.cells #[.int .u32 0, .bool false, .int .u32 0, .int .u32 0, .int .u32 0, .int .u32 0, .bool false] 24)).alloc (.cells #[.int .u8 0, .int .u32 0] 28))) := (((Below.refl _ _).alloc (Nat.le_refl _) _).alloc (by simp) _).alloc (by simp; omega) _
  have HZ : Hid ((((w.alloc (.cells s.c 24)).alloc (.cells #[.int .u32 0, .bool false, .int .u32 0, .int .u32 0, .int .u32 0, .int .u32 0, .bool false] 24)).alloc (.cells #[.int .u8 0, .int .u32 0] 28)).heap.size = w.heap.size + 3) := by show _ = _; simp
  have HR := Lib.hid hr
  have HFZ := Lib.hid hfz
  have HZC := Lib.hid hz
  clear hr hfz hz
  go_enter Try.func8, Try.ntmps8
  go_upto_region 1 with fail
  generalize (((w.alloc (.cells s.c 24)).alloc (.cells #[.int .u32 0, .bool false, .int .u32 0, .int .u32 0, .int .u32 0, .int .u32 0, .bool false] 24)).alloc (.cells #[.int .u8 0, .int .u32 0] 28)) = w1 at *
  have H6 : Hid (Row (w1.alloc (.cells #[.int .u32 0, .bool false, .int .u32 0, .int .u32 0, .int .u32 0, .int .u32 0, .bool false] 24)) w1.heap.size 24 zS.c) := by show Row _ _ _ _; rw [HZC.out]; exact Row.new w1 _ _
  go_upto_region 2 with (first | (refine wpList_ld rfl _ rfl rfl H2.out (St.ok _) ?_) | (refine wpList_sw (cs := s.c) rfl _ _ rfl rfl rfl H6.out (St.sz _ _) (St.ok _) ?_))
  have HI : Hid (ApI w ((w1.alloc (.cells #[.int .u32 0, .bool false, .int .u32 0, .int .u32 0, .int .u32 0, .int .u32 0, .bool false] 24)).setRow w1.heap.size s.c) w1.heap.size s s) := by
    have hzz := HZ.out
    have h1 : Below w1.heap.size w1 (w1.alloc (.cells #[.int .u32 0, .bool false, .int .u32 0, .int .u32 0, .int .u32 0, .int .u32 0, .bool false] 24)) := (Below.refl _ _).alloc (Nat.le_refl _) _
    exact ⟨(H2.out.below h1 H2.out.lt).setRow' (by omega) _, (H4.out.below h1 H4.out.lt).setRow' (by omega) _, (H5.out.below h1 H5.out.lt).setRow' (by omega) _, H6.out.setRow _, below_setRow (HB.out.trans (h1.mono HB.out.size)) _ _ (by omega), hzz⟩
  generalize (w1.alloc (.cells #[.int .u32 0, .bool false, .int .u32 0, .int .u32 0, .int .u32 0, .int .u32 0, .bool false] 24)).setRow w1.heap.size s.c = w2 at *
  generalize w1.heap.size = b6 at *
  clear H2 H4 H5 H6 HB HZ HZC
  have HA : Hid (apN s s l = apN s s (l.drop 0)) := by show _ = _; rw [List.drop_zero]
  go_upto_region 3 with fail
  go_loopw [13] (fun i wr => ∃ (k : Nat) (o : St), k ≤ l.length ∧ i = .int .i64 k ∧ Hid (ApI w wr b6 s o) ∧ Hid (apN s s l = apN s o (l.drop k)))
    (fun i _ => l.length - (intOf i).toNat)
  case atStart => exact ⟨0, s, Nat.zero_le _, rfl, HI, HA⟩
  case round =>
    clear HI HA
    obtain ⟨k, o, hk, rfl, HI, HA⟩ := hrel
    by_cases hlt : k < l.length
    · obtain ⟨b, q, rfl, hb, f0, f1⟩ := (HR.out.below HI.out.hb).sett hlt
      have k0 : (0 : Int) ≤ (k : Int) := by omega
      have k1 : (k : Int) < (l.length : Int) := by omega
      have HS := Lib.hid (@apN_step s o l k hlt)
      have HX := Lib.hid (@apN_stop s o l k hlt)
      generalize l[k].1 = i at *
      generalize l[k].2 = v at *
      have hck := check_any o i v
      have hst := set_any o i v
      have HC : Hid (Row (wr.alloc (.cells #[.int .u16 (i : Int), .int .u32 (v : Int)] 39)) wr.heap.size 39 (sec i v)) := by show Row _ _ _ _; have := Row.new wr 39 (sec i v); unfold sec at this ⊢; exact this
      have HI1 := Lib.hid (HI.out.below ((Below.refl _ _).alloc (Nat.le_refl wr.heap.size) (.cells #[.int .u16 (i : Int), .int .u32 (v : Int)] 39)))
      clear HI hb
      go_upto_region 5 with fail
      generalize wr.alloc (.cells #[.int .u16 (i : Int), .int .u32 (v : Int)] 39) = w3 at *
      generalize wr.heap.size = b8 at *
      clear f0 f1
      go_wp2_with (first | (refine wpList_ld rfl _ rfl rfl HI1.out.r6 (St.ok _) ?_) | (refine wpList_ld rfl _ rfl rfl HC.out (se_ok _ _) ?_))
      refine (hck _).mono ?_
      rintro e w4 ⟨rfl, hb4⟩
      have HI4 := Lib.hid (HI1.out.below hb4)
      have HC4 := Lib.hid (HC.out.below hb4 HC.out.lt)
      have HI5 := Lib.hid (HI4.out.below ((Below.refl _ _).alloc (Nat.le_refl w4.heap.size) (.cells #[.int .u8 0, .int .u32 0] 28)))
      have HC5 := Lib.hid (HC4.out.alloc (.cells #[.int .u8 0, .int .u32 0] 28))
      have HF5 : Hid (Row (w4.alloc (.cells #[.int .u8 0, .int .u32 0] 28)) w4.heap.size 28 (ftc 0 0)) := by show Row _ _ _ _; rw [HFZ.out]; exact Row.new w4 _ _
      have HL5 : Hid (b8 < w4.heap.size ∧ b6 < w4.heap.size ∧ w.heap.size + 2 < w4.heap.size) := ⟨HC4.out.lt, HI4.out.r6.lt, HI4.out.r5.lt⟩
      clear hb4 hck HI1 HC HI4 HC4
      by_cases hn : wrN o i v = 0
      · have HSn := Lib.hid (HS.out hn)
        have hne := ft_none
        rw [hn]
        clear HS HX hn
        have HI6 : Hid (ApI w ((w4.alloc (.cells #[.int .u8 0, .int .u32 0] 28)).setRow w4.heap.size (ftc 0 0)) b6 s o) := by
          have := HI5.out; have h5 := HL5.out; have h6 := this.h6
          exact ⟨this.r2.setRow' (by omega) _, this.r4.setRow' (by omega) _, this.r5.setRow' (by omega) _, this.r6.setRow' (by omega) _, below_setRow this.hb _ _ (by omega), h6⟩
        have HC6 := Lib.hid (HC5.out.setRow' (k := w4.heap.size) (by have := HL5.out; omega) (ftc 0 0))
        have HF6 := Lib.hid (HF5.out.setRow (ftc 0 0))
        clear HI5 HC5 
        go_upto_region 6 with (refine wpList_sw (cs := ftc 0 0) rfl _ _ rfl rfl rfl HF5.out (ft_sz _ _ _ _) (ft_ok _ _) ?_)
        clear HF5
        generalize (w4.alloc (.cells #[.int .u8 0, .int .u32 0] 28)).setRow w4.heap.size (ftc 0 0) = w6 at *
        generalize w4.heap.size = b9 at *
        go_wp2_with (first | (refine wpList_ld rfl _ rfl rfl HF6.out (ft_ok _ _) ?_) | (refine wpList_ld rfl _ rfl rfl HI6.out.r6 (St.ok _) ?_) | (refine wpList_ld rfl _ rfl rfl HC6.out (se_ok _ _) ?_))
        refine (hst _).mono ?_
        rintro e w7 ⟨rfl, hb7⟩
        have HI7 := Lib.hid (HI6.out.below hb7)
        have HI8 := Lib.hid (HI7.out.set (stN o i v))
        clear hb7 hst HI6 HC6 HF6 hne
        go_wp2_with (refine wpList_sw (cs := (stN o i v).c) rfl _ _ rfl rfl rfl HI7.out.r6 (St.sz _ _) (St.ok _) ?_)
        go_roundw
        case rel => exact ⟨k + 1, stN o i v, by omega, by go_num, HI8, HA.out.trans HSn.out⟩
        case measure => simp [intOf]; omega
      · have HXn := Lib.hid (HX.out hn)
        have hne := ft_some hn
        have HN := Lib.hid hn
        rw [if_neg hn]
        clear HS HX hn
        generalize wrN o i v = n at *
        have HI6 : Hid (ApI w ((w4.alloc (.cells #[.int .u8 0, .int .u32 0] 28)).setRow w4.heap.size (ftc 1 n)) b6 s o) := by
          have := HI5.out; have h5 := HL5.out; have h6 := this.h6
          exact ⟨this.r2.setRow' (by omega) _, this.r4.setRow' (by omega) _, this.r5.setRow' (by omega) _, this.r6.setRow' (by omega) _, below_setRow this.hb _ _ (by omega), h6⟩
        have HF6 := Lib.hid (HF5.out.setRow (ftc 1 n))
        clear HI5 HC5 
        go_upto_region 6 with (refine wpList_sw (cs := ftc 1 n) rfl _ _ rfl rfl rfl HF5.out (ft_sz _ _ _ _) (ft_ok _ _) ?_)
        clear HF5
        generalize (w4.alloc (.cells #[.int .u8 0, .int .u32 0] 28)).setRow w4.heap.size (ftc 1 n) = w6 at *
        generalize w4.heap.size = b9 at *
        go_wp2_with (refine wpList_ld rfl _ rfl rfl HF6.out (ft_ok _ _) ?_)
        refine wp_region_held_drew (S := fun w' => Row w' w.heap.size 24 s.c ∧ Row w' b9 28 (ftc 1 n)) (by kernel_rfl) ⟨HI6.out.r2, HF6.out⟩ (fun hHeld => ?_)
        refine wpAnyH_take (i := 0) (v := _) rfl (by kernel_rfl) (by kernel_rfl) (by kernel_rfl) (fun _ _ _ h => h) (yields_ld (by rfl) _ rfl rfl (St.ok _) (fun _ hSw => hSw.1)) (by assumption) ?rest0w1
        try simp only [Act.put, List.getElem_toArray, List.getElem_cons_zero, List.setIfInBounds_toArray, List.set_cons_zero, List.set_cons_succ]
        refine wpAnyH_take (i := 1) (v := _) rfl (by kernel_rfl) (by kernel_rfl) (by kernel_rfl) (fun _ _ _ h => h) (yields_ld (by rfl) _ rfl rfl (ft_ok _ _) (fun _ hSw => hSw.2)) (by assumption) ?rest1w2
        try simp only [Act.put, List.getElem_toArray, List.getElem_cons_zero, List.getElem_cons_succ, List.setIfInBounds_toArray, List.set_cons_zero, List.set_cons_succ]
        refine wpAnyH_ready (rs := [2]) (by kernel_rfl) (by simp) ?_
        refine AllReadyH.cons rfl (fun K hK => ?_) AllReadyH.nil
        refine step_sw (cs := s.c) rfl (.tmp 4) (.tmp 23) rfl rfl rfl (row_draws HI6.out.r4 1) (St.sz _ _) (St.ok _) ?_
        refine hK.out _ _ ⟨hHeld.1.setRow' (by omega) _, hHeld.2.setRow' (by have := HL5.out; omega) _⟩ (fun hHeld => ?_)
        clear hK K
        try simp only [Act.put, List.getElem_toArray, List.getElem_cons_zero, List.getElem_cons_succ]
        refine wpAnyH_ready (rs := [3]) (by kernel_rfl) (by simp) ?_
        refine AllReadyH.cons rfl (fun K hK => ?_) AllReadyH.nil
        refine step_sw (cs := ftc 1 n) rfl (.tmp 5) (.tmp 24) rfl rfl rfl ((row_draws HI6.out.r5 1).setRow' (k := w.heap.size + 1) (by omega) s.c) (ft_sz _ _ _ _) (ft_ok _ _) ?_
        refine hK.out _ _ ⟨hHeld.1.setRow' (by omega) _, hHeld.2.setRow' (by have := HL5.out; omega) _⟩ (fun hHeld => ?_)
        clear hK K
        try simp only [Act.put, List.getElem_toArray, List.getElem_cons_zero, List.getElem_cons_succ]
        refine wpAnyH_done (by kernel_rfl) ?_ _
        go_wp2_with fail
        exact bodyPost_ret (ret_ag2 rfl _ rfl (((row_draws HI6.out.r4 1).setRow s.c).setRow' (k := w.heap.size + 2) (by omega) (ftc 1 n)) (St.ok _) rfl (((row_draws HI6.out.r5 1).setRow' (k := w.heap.size + 1) (by omega) s.c).setRow (ftc 1 n)) (ft_ok _ _)) rfl
          ⟨by rw [HA.out, HXn.out, if_neg HN.out], below_setRow (below_setRow (below_dN HI6.out.hb 1) _ _ (by omega)) _ _ (by omega)⟩
    · have HE : Hid (apN s o (l.drop k) = (o, 0)) := by show _ = _; rw [show k = l.length by omega]; exact apN_end
      have HR4 := Lib.hid (HI.out.r4.setRow o.c)
      have HR5 := Lib.hid (HI.out.r5.setRow' (k := w.heap.size + 1) (by omega) o.c)
      go_wp2_with (first | (refine wpList_ld rfl _ rfl rfl HI.out.r6 (St.ok _) ?_) | (refine wpList_sw (cs := o.c) rfl _ _ rfl rfl rfl HI.out.r4 (St.sz _ _) (St.ok _) ?_) | (refine wpList_sw (cs := ftc 0 0) rfl _ _ rfl rfl (by rw [HFZ.out]; rfl) HR5.out (ft_sz _ _ _ _) (ft_ok _ _) ?_))
      exact bodyPost_ret (ret_ag2 rfl _ rfl (HR4.out.setRow' (k := w.heap.size + 2) (by omega) (ftc 0 0)) (St.ok _) rfl (HR5.out.setRow (ftc 0 0)) (ft_ok _ _)) rfl
        ⟨by rw [HA.out, HE.out]; rfl, below_setRow (below_setRow HI.out.hb _ _ (by omega)) _ _ (by omega)⟩
end Go.Proofs.Ytaffmcbpfjdokaa
