/-
  The program's ring: Drop, by contract. Conditions: the ring lies in memory, few streams.
-/
import Derived.Test.YtplohgaecoobaaaUts
import Derived.Test.YtplohgaecoobaaaDel
namespace Go.Proofs.Ytplohgaecoobaaa
open Go.RowKit Go.WideShapes

theorem ps_zero : (Value.pointer none).cells = #[Value.pointer none] := rfl
theorem enl_sep_take (L : List Se) (k : Nat) : (enl sep L).take k = enl sep (L.take k) := by
  have := enl_take (enc := sep) sep_len L k
  rwa [Nat.mul_one] at this
theorem enl_sep_drop (L : List Se) (k : Nat) : (enl sep L).drop k = enl sep (L.drop k) := by
  have := enl_drop (enc := sep) sep_len L k
  rwa [Nat.mul_one] at this
theorem ers_atS {L : List Se} {k : Nat} (hk : k < L.length) (i : Nat) : (L.take k ++ L.drop (k + 1))[i]? = if i < k then L[i]? else L[i + 1]? := by
  rw [List.getElem?_append]
  simp only [List.length_take, Nat.min_eq_left (Nat.le_of_lt hk), List.getElem?_take, List.getElem?_drop]
  split
  · rfl
  · congr 1
    omega
theorem ers_memS {L : List Se} {k : Nat} {e : Se} (h : e ∈ L.take k ++ L.drop (k + 1)) : e ∈ L := by
  rcases List.mem_append.1 h with h | h
  · exact List.mem_of_mem_take h
  · exact List.mem_of_mem_drop h
theorem ob_n (A : Option Addr) (n n' c k : Nat) : ob (.slice A n c) k ↔ ob (.slice A n' c) k := by
  unfold ob
  cases A <;> rfl
theorem ers_lenS {L : List Se} {k : Nat} (hk : k < L.length) : (L.take k ++ L.drop (k + 1)).length = L.length - 1 := by
  simp only [List.length_append, List.length_take, List.length_drop]
  omega
/-- The row without one of its streams. -/
theorem TrL.del {w w3 : World} {g q : Nat} {A : Option Addr} {c : Nat} {L : List Se} {t : Nat} {W : Int} (h : TrL w g q A c L t W) {k : Nat} (hk : k < L.length)
    (hO : OwS w3 0 81 1 (.slice A (L.length - 1) c) (L.length - 1) (enl sep (L.take k ++ L.drop (k + 1)))) (hF : Fs (ob (.slice A L.length c)) w w3) :
    TrL (w3.setCell ⟨g, 0, none⟩ (.slice A (L.length - 1) c)) g q A c (L.take k ++ L.drop (k + 1)) t W ∧ Fs (TF g q A c L) w (w3.setCell ⟨g, 0, none⟩ (.slice A (L.length - 1) c)) ∧ ∀ b, TF g q A c (L.take k ++ L.drop (k + 1)) b → TF g q A c L b := by
  have hlen := ers_lenS hk
  have hog : ¬ ob (.slice A (L.length - 1) c) g := fun h1 => h.s_g ((ob_n _ _ _ _ _).1 h1)
  refine ⟨⟨?_, ?_, ?_, ?_, ?_, ?_⟩, ?_, ?_⟩
  · rw [hlen]
    exact (hF.row h.s_g h.r).stored 0 _
  · exact (hF.row h.s_q h.n).stored' (a := ⟨g, 0, none⟩) (fun e1 => h.g_q e1.symm) _
  · rw [hlen]
    exact hO.setCell (a := ⟨g, 0, none⟩) hog _
  · intro e he
    have he' := ers_memS he
    exact ((h.i e he').keep fun b hb => hF.block b ((h.i e he').lt hb) (fun h1 => h.not_s he' b h1 hb)).keep fun b hb => Below.heap_setCell w3 ⟨g, 0, none⟩ _ b (fun e1 => h.not_g he' (by rw [← show b = g from e1]; exact hb))
  · intro i j a b ha hb z hza hzb
    rw [ers_atS hk] at ha hb
    split at ha <;> split at hb
    · exact h.d _ _ _ _ ha hb z hza hzb
    · have := h.d _ _ _ _ ha hb z hza hzb; omega
    · have := h.d _ _ _ _ ha hb z hza hzb; omega
    · have := h.d _ _ _ _ ha hb z hza hzb; omega
  · exact fun e he => h.q e (ers_memS he)
  · exact (hF.mono fun b _ hb => .inr (.inr (.inl hb))).setCell (fun _ => .inl rfl) _ _
  · intro b hb
    unfold TF at hb
    rw [hlen] at hb
    rcases hb with h1 | h1 | h1 | ⟨e, he, h1⟩
    · exact .inl h1
    · exact .inr (.inl h1)
    · exact .inr (.inr (.inl ((ob_n _ _ _ _ _).1 h1)))
    · exact TF.of_e (ers_memS he) h1
theorem rg_turn {w : World} {g : Nat} {A : Option Addr} {n c t t' q : Nat} (h : Row w g 71 (rgc A n c t q)) : Row (w.setCell ⟨g, 1, none⟩ (.int .i64 t')) g 71 (rgc A n c t' q) := h.stored 1 _
attribute [local irreducible] sec rgc fd wnc btw
section
set_option maxRecDepth 100000 in
set_option maxHeartbeats 2000000 in
theorem tdel_any {w : World} {A : Option Addr} {c : Nat} {L : List Se} (hO : OwS w 0 81 1 (.slice A L.length c) L.length (enl sep L)) (hL : L.length ≤ 100000) {k : Nat} (hk : k < L.length) :
    Calls Try.prog 44 #[.slice A L.length c, .int .i64 k, .int .i64 ((k : Int) + 1)] w fun r w' => r = .returned (.slice A (L.length - 1) c) ∧ OwS w' 0 81 1 (.slice A (L.length - 1) c) (L.length - 1) (enl sep (L.take k ++ L.drop (k + 1))) ∧ Fs (ob (.slice A L.length c)) w w' := by
  obtain ⟨i0, hi0, hz0, hz1, hz2⟩ := info_parts ps_info
  have hOd : OwS w.drew 0 81 1 (.slice A L.length c) L.length (enl sep L) := hO.keep fun _ _ => rfl
  obtain ⟨A0, A1, A2, w1, w2, r1, r2, r3, r4, r5, r6, r7, r8⟩ := del_runs (P := Try.prog) (t := 69) Try.underlying69 hi0 hz0 hz1 ps_zero rfl hOd (enl_oneCell sep_one L) hk
  rw [enl_sep_take, enl_sep_drop, ← enl_append] at r7
  have HP : Hid (OwS w2 0 81 1 (.slice A (L.length - 1) c) (L.length - 1) (enl sep (L.take k ++ L.drop (k + 1))) ∧ Fs (ob (.slice A L.length c)) w w2) := ⟨r7, ⟨r8.os, r8.tape, r8.output, r8.size, r8.block⟩⟩
  have e1 : ((k : Int) == (k : Int) + 1) = false := by rw [beq_eq_false_iff_ne]; omega
  have hn1 : ((L.length - 1 : Nat) : Int) = (L.length : Int) - 1 := by omega
  clear hO hOd r7 r8 hi0 hz0 hz1 hz2
  go_enter Try.func44, Try.ntmps44
  go_upto_region 5 with fail
  refine wp_region_E 7 (fun _ => True) (by kernel_rfl) trivial (fun hHeld => ?_)
  refine wpAnyE_take (i := 0) (v := ?v0) rfl (by kernel_rfl) (by kernel_rfl) (by kernel_rfl) (by kernel_rfl) (fun _ _ _ h => h) (Or.inl ⟨by rfl, ?hy0⟩) (by assumption) ?rest0
  case hy0 => (intro w hSw; (try dsimp only at hSw); go_simp <;> with_reducible rfl)
  try simp only [Act.put, List.getElem_toArray, List.getElem_cons_zero, List.setIfInBounds_toArray, List.set_cons_zero, List.set_cons_succ]
  refine wpAnyE_take (i := 1) (v := ?v1) rfl (by kernel_rfl) (by kernel_rfl) (by kernel_rfl) (by kernel_rfl) (fun _ _ _ h => h) (Or.inl ⟨by rfl, ?hy1⟩) (by assumption) ?rest1
  case hy1 => (intro w hSw; (try dsimp only at hSw); go_simp <;> with_reducible rfl)
  try simp only [Act.put, List.getElem_toArray, List.getElem_cons_zero, List.getElem_cons_succ, List.setIfInBounds_toArray, List.set_cons_zero, List.set_cons_succ]
  refine wpAnyE_take (i := 3) (v := ?v3) rfl (by kernel_rfl) (by kernel_rfl) (by kernel_rfl) (by kernel_rfl) (fun _ _ _ h => h) (Or.inl ⟨by rfl, ?hy3⟩) (by assumption) ?rest3
  case hy3 => (intro w hSw; (try dsimp only at hSw); go_simp <;> with_reducible rfl)
  try simp only [Act.put, List.getElem_toArray, List.getElem_cons_zero, List.getElem_cons_succ, List.setIfInBounds_toArray, List.set_cons_zero, List.set_cons_succ]
  refine wpAnyE_take (i := 4) (v := ?v4) rfl (by kernel_rfl) (by kernel_rfl) (by kernel_rfl) (by kernel_rfl) (fun _ _ _ h => h) (Or.inl ⟨by rfl, ?hy4⟩) (by assumption) ?rest4
  case hy4 => (intro w hSw; (try dsimp only at hSw); go_simp <;> with_reducible rfl)
  try simp only [Act.put, List.getElem_toArray, List.getElem_cons_zero, List.getElem_cons_succ, List.setIfInBounds_toArray, List.set_cons_zero, List.set_cons_succ]
  refine wpAnyE_take (i := 2) (v := ?v2) rfl (by kernel_rfl) (by kernel_rfl) (by kernel_rfl) (by kernel_rfl) (fun _ _ _ h => h) (Or.inl ⟨by rfl, ?hy2⟩) (by assumption) ?rest2
  case hy2 => (intro w hSw; (try dsimp only at hSw); go_simp <;> with_reducible rfl)
  try simp only [Act.put, List.getElem_toArray, List.getElem_cons_zero, List.getElem_cons_succ, List.setIfInBounds_toArray, List.set_cons_zero, List.set_cons_succ]
  refine wpAnyE_take (i := 5) (v := ?v5) rfl (by kernel_rfl) (by kernel_rfl) (by kernel_rfl) (by kernel_rfl) (fun _ _ _ h => h) (Or.inl ⟨by rfl, ?hy5⟩) (by assumption) ?rest5
  case hy5 => (intro w hSw; (try dsimp only at hSw); go_simp <;> with_reducible rfl)
  try simp only [Act.put, List.getElem_toArray, List.getElem_cons_zero, List.getElem_cons_succ, List.setIfInBounds_toArray, List.set_cons_zero, List.set_cons_succ]
  refine wpAnyE_next (i := 6) (by kernel_rfl) rfl (fun K hK => ?_)
  refine step_app_run rfl (.tmp 22) (.tmp 25) 69 rfl rfl rfl (r4 _) ?_
  refine hK.out _ _ trivial (fun hHeld => ?_)
  clear hK K
  try simp only [Act.put, List.getElem_toArray, List.getElem_cons_zero, List.getElem_cons_succ, List.setIfInBounds_toArray, List.set_cons_zero, List.set_cons_succ]
  refine wpAnyE_last (by kernel_rfl) rfl (by kernel_rfl) (fun K hK => ?_)
  go_simp
  refine hK.out _ _ ?_
  clear hK K hHeld r4
  try simp only [Act.put, List.getElem_toArray, List.getElem_cons_zero, List.getElem_cons_succ, List.setIfInBounds_toArray, List.set_cons_zero, List.set_cons_succ]
  go_wp2_with fail
  go_ret
  exact ⟨rfl, HP.out⟩
variable {w : World} {F : Nat → Prop} {g : Nat} {m : Rm}
set_option maxRecDepth 100000 in
theorem tdrop_nil (w : World) (s : Int) : Calls Try.prog 25 #[.pointer none, .int .u32 s] w fun e w' => e = .returned (.tuple #[]) ∧ Below w.heap.size w w' := by
  go_enter Try.func25, Try.ntmps25
  go_wp2_with fail
  refine (tplace_nil _ _).mono ?_
  rintro r w2 ⟨rfl, hb⟩
  have HB := Lib.hid hb
  clear hb
  go_wp2_with fail
  exact bodyPost_ret (results_none rfl _ _ _) rfl ⟨rfl, HB.out⟩
/-- What Drop leaves. -/
theorem tp_del {w w2 w4 : World} {F : Nat → Prop} {g q : Nat} {A : Option Addr} {c : Nat} {L : List Se} {m : Rm} {k : Nat} {t' : Nat} (hml : m.l = L.map (·.x)) (hb : Below w.heap.size w w2) (hF : F = TF g q A c L) (hT : TrL w4 g q A c (L.take k ++ L.drop (k + 1)) t' m.w) (hf : Fs (TF g q A c L) w2 w4) (hn : ∀ b, TF g q A c (L.take k ++ L.drop (k + 1)) b → TF g q A c L b) {m' : Rm}
    (hm : m' = ⟨m.l.take k ++ m.l.drop (k + 1), t', m.w⟩) : TP w F g m' (.tuple #[]) (.returned (.tuple #[])) w4 := by
  subst hF hm
  refine ⟨rfl, _, ⟨q, A, c, _, ?_, hT, rfl⟩, (Fs.of_below hb).trans hf fun _ _ h => h, fun b hb => .inl (hn b hb)⟩
  show m.l.take k ++ m.l.drop (k + 1) = _
  rw [hml, List.map_append, List.map_take, List.map_drop]
set_option maxRecDepth 100000 in
set_option maxHeartbeats 4000000 in
theorem tdrop_any (h : Tr w F g m) (hm : m.Ok) (hs : m.Sm) (s : Nat) : Calls Try.prog 25 #[.pointer (some ⟨g, 0, none⟩), .int .u32 s] w (TP w F g (rmDrop m s) (.tuple #[])) := by
  have HSAME := fun (w' : World) (hb : Below w.heap.size w w') (v : Value) => tp_same (v := v) h hb
  obtain ⟨q, A, c, L, hml, ht, hF, htl, hL⟩ := h.of hm hs
  have hll := map_len hml
  have HC := Lib.hid (tplace_any ht (by omega) s)
  unfold fdP at HC
  rw [← hml] at HC
  unfold rmDrop
  by_cases hi : fd s m.l < m.l.length
  · rw [if_pos hi]
    have hi' : fd s m.l < L.length := by omega
    rw [if_pos hi'] at HC
    generalize fd s m.l = k at *
    have htt : m.t < L.length := by omega
    have HT := Lib.hid ht
    have HML := Lib.hid hml
    have HFF := Lib.hid hF
    have e1 : ((k : Int) == -1) = false := by rw [beq_eq_false_iff_ne]; omega
    have hwk : IntKind.i64.wrap ((k : Int) + 1) = (k : Int) + 1 := IntWalk.i64_in _ (by omega)
    clear ht hml hs hm htl h HSAME hi hF
    go_enter Try.func25, Try.ntmps25
    go_wp2_with fail
    refine HC.out.mono ?_
    rintro r w2 ⟨rfl, hb⟩
    have HT2 := Lib.hid (HT.out.below hb)
    have HW := Lib.hid hb
    have c0 := (rg_cells HT2.out).1
    have HD := Lib.hid (tdel_any HT2.out.s (by omega) hi')
    clear hb HC HT
    go_wp2_with fail
    refine HD.out.mono ?_
    rintro r w3 ⟨rfl, hO, hF3⟩
    obtain ⟨hT4, hF4, hN4⟩ := HT2.out.del hi' hO hF3
    have z0 := (hF3.row HT2.out.s_g HT2.out.r).thawed 0
    have c03 := (hF3.row HT2.out.s_g HT2.out.r).cell (j := 0) (v := .slice A L.length c) (by unfold rgc; rfl)
    have HT4 := Lib.hid hT4
    have HF4 := Lib.hid hF4
    have HN4 := Lib.hid hN4
    clear hT4 hF4 hN4 hO hF3 HD c0 HT2
    go_upto_region 3 with fail
    generalize w3.setCell ⟨g, 0, none⟩ (.slice A (L.length - 1) c) = w4 at *
    clear z0 c03
    have hr4 := HT4.out.r
    rw [ers_lenS hi'] at hr4
    obtain ⟨c0, c1⟩ : w4.cell? ⟨g, 0, none⟩ = some (.slice A (L.length - 1) c) ∧ w4.cell? ⟨g, 1, none⟩ = some (.int .i64 m.t) := ⟨hr4.cell (by unfold rgc; rfl), hr4.cell (by unfold rgc; rfl)⟩
    have hn1 : ((L.length - 1 : Nat) : Int) = (L.length : Int) - 1 := by omega
    have z1 := hr4.thawed 1
    have htrn : ∀ t' : Nat, TrL (w4.setCell ⟨g, 1, none⟩ (.int .i64 t')) g q A c (L.take k ++ L.drop (k + 1)) t' m.w ∧ Fs (TF g q A c L) w2 (w4.setCell ⟨g, 1, none⟩ (.int .i64 t')) := fun t' =>
      ⟨HT4.out.turn (t' := t') (fs_set _ _ _ _) (rg_turn HT4.out.r), HF4.out.setCell (fun _ => .inl rfl) _ _⟩
    by_cases hkt : k < m.t
    · have HP := Lib.hid (tp_del (m' := ⟨m.l.take k ++ m.l.drop (k + 1), drT m.l.length m.t k, m.w⟩) HML.out HW.out HFF.out (htrn (m.t - 1)).1 (htrn (m.t - 1)).2 HN4.out (by unfold drT; rw [if_pos hkt]))
      have hw1 : IntKind.i64.wrap ((m.t : Int) - 1) = ((m.t - 1 : Nat) : Int) := by rw [IntWalk.i64_in _ (by omega)]; omega
      have hr5 := rg_turn (t' := m.t - 1) hr4
      obtain ⟨d0, d1⟩ : (w4.setCell ⟨g, 1, none⟩ (.int .i64 ((m.t - 1 : Nat) : Int))).cell? ⟨g, 0, none⟩ = some (.slice A (L.length - 1) c) ∧ (w4.setCell ⟨g, 1, none⟩ (.int .i64 ((m.t - 1 : Nat) : Int))).cell? ⟨g, 1, none⟩ = some (.int .i64 (m.t - 1 : Nat)) := ⟨hr5.cell (by unfold rgc; rfl), hr5.cell (by unfold rgc; rfl)⟩
      have e2 : (((m.t - 1 : Nat) : Int) == (L.length : Int) - 1) = false := by rw [beq_eq_false_iff_ne]; omega
      have e3 : (((m.t - 1 : Nat) : Int) == ((L.length - 1 : Nat) : Int)) = false := by rw [beq_eq_false_iff_ne]; omega
      have hkt' : (k : Int) < (m.t : Int) := by omega
      clear htrn HT4 HF4 HN4 hr4 hr5 HML HW HFF hkt hll hi' htt hn1 hL
      go_upto_region 5 with fail
      clear c0 c1 hw1 z1
      generalize w4.setCell ⟨g, 1, none⟩ (.int .i64 ((m.t - 1 : Nat) : Int)) = w5 at *
      generalize ((m.t - 1 : Nat) : Int) = t5 at *
      go_quiet (fail)
      go_wp2_with fail
      exact bodyPost_ret (results_none rfl _ _ _) rfl (HP.out.then (below_dN (Below.refl _ _) _))
    · have hkd : decide (k < m.t) = false := by simp; omega
      by_cases he : m.t + 1 = L.length
      · have HP : Hid (∀ n, TP w F g ⟨m.l.take k ++ m.l.drop (k + 1), drT m.l.length m.t k, m.w⟩ (.tuple #[]) (.returned (.tuple #[])) ((w4.drewN n).setCell ⟨g, 1, none⟩ (.int .i64 0))) := fun n => by
          have h5 : TrL (w4.drewN n) g q A c (L.take k ++ L.drop (k + 1)) m.t m.w := HT4.out.keep fun _ _ => rfl
          have h6 : Fs (TF g q A c L) w2 (w4.drewN n) := HF4.out.drewN n
          exact tp_del HML.out HW.out HFF.out (h5.turn (t' := 0) (fs_set _ _ _ _) (rg_turn h5.r)) (h6.setCell (fun _ => .inl rfl) _ _) HN4.out (by unfold drT; rw [if_neg hkt, if_pos (by omega)])
        have e2 : ((m.t : Int) == (L.length : Int) - 1) = true := by rw [beq_iff_eq]; omega
        have e3 : ((m.t : Int) == ((L.length - 1 : Nat) : Int)) = true := by rw [beq_iff_eq]; omega
        clear htrn HT4 HF4 HN4 hr4 HML HW HFF hkt hll hi' htt hn1 hL he
        go_upto_region 5 with fail
        go_quiet (fail)
        go_wp2_with fail
        exact bodyPost_ret (results_none rfl _ _ _) rfl (HP.out _)
      · have HP : Hid (TP w F g ⟨m.l.take k ++ m.l.drop (k + 1), drT m.l.length m.t k, m.w⟩ (.tuple #[]) (.returned (.tuple #[])) w4) := tp_del HML.out HW.out HFF.out HT4.out HF4.out HN4.out (by unfold drT; rw [if_neg hkt, if_neg (by omega)])
        have e2 : ((m.t : Int) == (L.length : Int) - 1) = false := by rw [beq_eq_false_iff_ne]; omega
        have e3 : ((m.t : Int) == ((L.length - 1 : Nat) : Int)) = false := by rw [beq_eq_false_iff_ne]; omega
        clear htrn HT4 HF4 HN4 hr4 HML HW HFF hkt hll hi' htt hn1 hL he
        go_upto_region 5 with fail
        go_quiet (fail)
        go_wp2_with fail
        exact bodyPost_ret (results_none rfl _ _ _) rfl (HP.out.then (below_dN (Below.refl _ _) _))
  · rw [if_neg hi]
    rw [if_neg (by omega)] at HC
    have HS := Lib.hid HSAME
    clear ht hml hs hm htl h HSAME hi hF
    go_enter Try.func25, Try.ntmps25
    go_wp2_with fail
    refine HC.out.mono ?_
    rintro r w2 ⟨rfl, hb⟩
    have HP := Lib.hid (HS.out _ hb (.tuple #[]))
    clear hb HC HS
    go_wp2_with fail
    exact bodyPost_ret (results_none rfl _ _ _) rfl HP.out
end
end Go.Proofs.Ytplohgaecoobaaa
