/-
  The document's table: what of it stays within a most, by its contract. Conditions: each field of fewer than 2^31 bytes, all of fewer than 2^32.
-/
import Derived.Test.YteoneedehfijhaaDshr
namespace Go.Proofs.Yteoneedehfijhaa
open Go.RowKit Go.WideShapes

attribute [local irreducible] tot shr sz wit

theorem t_size : (Try.prog.info? 30).map (·.size) = some 2 := by kernel_rfl
theorem t_cells (cs : Array Value) (h : cs.size = 2) : (Try.prog.info? 30).map (·.size) = some cs.size := by rw [h]; exact t_size
theorem ret_T {fn : Func} {p : Tmp} (h : fn.results = #[.cell p 30]) (tmps : Array Value) (w : World) (g : Nat) (cs : Array Value) (hp : tmps.getD p undef = .pointer (some ⟨g, 0, none⟩)) (hR : Row w g 30 cs) (hc : cs.size = 2) :
    (results fn tmps).run Try.prog w = .ok (.agg cs) w := by
  have hl := run_loadVar_row w g 30 30 cs (0, 0) _ hR Try.underlying30 rfl (t_cells cs hc)
  have hp' : tmps[p]?.getD undef = .pointer (some ⟨g, 0, none⟩) := by simpa using hp
  simp only [results, h]
  simp [hp', asAddr, hl]

/-- What is handed back: the table's box, copied into the result's. -/
theorem within_fin {w w2 : World} {A' : Option Addr} {k c' : Nat} {M : Int} {cs : List Value} (hB1 : Row w2 (w.heap.size + 1) 30 #[.slice none 0 0, .int .i64 0]) (hO : OwS w2 (w.heap.size + 2) 32 3 (.slice A' k c') k cs) (hW : Below w.heap.size w w2) :
    Row (((w2.setCell ⟨w.heap.size, 0, none⟩ (.slice A' k c')).setCell ⟨w.heap.size + 1, 0, none⟩ (.slice A' k c')).setCell ⟨w.heap.size + 1, 1, none⟩ (.int .i64 M)) (w.heap.size + 1) 30 #[.slice A' k c', .int .i64 M] ∧
    OwS (((w2.setCell ⟨w.heap.size, 0, none⟩ (.slice A' k c')).setCell ⟨w.heap.size + 1, 0, none⟩ (.slice A' k c')).setCell ⟨w.heap.size + 1, 1, none⟩ (.int .i64 M)) w.heap.size 32 3 (.slice A' k c') k cs ∧ k ≤ c' ∧
    Below w.heap.size w (((w2.setCell ⟨w.heap.size, 0, none⟩ (.slice A' k c')).setCell ⟨w.heap.size + 1, 0, none⟩ (.slice A' k c')).setCell ⟨w.heap.size + 1, 1, none⟩ (.int .i64 M)) := by
  have hn : ∀ (j : Nat), j < w.heap.size + 2 → (Value.slice A' k c').ownBlock ≠ some j := fun j hj e => by
    have := (hO.lt j e).1
    omega
  refine ⟨((hB1.stored' (by simp) _).stored 0 _).stored 1 _, (((hO.setCell (hn _ (by simp)) _).setCell (hn _ (by simp)) _).setCell (hn _ (by simp)) _).mono (by omega), ?_, ((hW.setCell (by simp) _).setCell (by simp) _).setCell (by simp) _⟩
  obtain ⟨_, _, e, h, _⟩ := hO.shape
  injection e with _ _ e
  omega

set_option maxRecDepth 100000 in
set_option maxHeartbeats 4000000 in
theorem within_any {w : World} {A : Option Addr} {c : Nat} {R : List Fd} {M : Int} (m : Int) (hm0 : -4294967296 ≤ m) (hm1 : m ≤ 4294967296) (hR : RdS w (· < w.heap.size) A (enl fdc R)) (hL : tot R ≤ 4294967296) (hs : ∀ f ∈ R, sz f ≤ 2147483648) (_ : R.length ≤ c) :
    Calls Try.prog 27 #[.agg #[.slice A R.length c, .int .i64 M], .int .i64 m] w fun e w' => ∃ A' c', e = .returned (.agg #[.slice A' (wit m 0 R).length c', .int .i64 M]) ∧
      OwS w' w.heap.size 32 3 (.slice A' (wit m 0 R).length c') (wit m 0 R).length (enl fdc (wit m 0 R)) ∧ (wit m 0 R).length ≤ c' ∧ Below w.heap.size w w' := by
  have hlen : R.length ≤ 134217728 := by have := tot_len R; omega
  obtain ⟨i0, hi0, hz0, hz1, hz2⟩ := field_parts
  go_enter Try.func27, Try.ntmps27
  go_wp2_with fail
  have hB0 : Row (((w.alloc (.cells #[.slice A R.length c, .int .i64 M] 30)).alloc (.cells #[.slice none 0 0, .int .i64 0] 30)).alloc (.cells #[] 32)) w.heap.size 30 #[.slice A R.length c, .int .i64 M] := ((Row.new w _ _).alloc _).alloc _
  have hB1 : Row (((w.alloc (.cells #[.slice A R.length c, .int .i64 M] 30)).alloc (.cells #[.slice none 0 0, .int .i64 0] 30)).alloc (.cells #[] 32)) (w.heap.size + 1) 30 #[.slice none 0 0, .int .i64 0] := (Row.made _ _ _ (by simp)).alloc _
  have hO : OwS (((w.alloc (.cells #[.slice A R.length c, .int .i64 M] 30)).alloc (.cells #[.slice none 0 0, .int .i64 0] 30)).alloc (.cells #[] 32)) (w.heap.size + 2) 32 3 (.slice (some ⟨w.heap.size + 1 + 1, 0, none⟩) 0 0) 0 [] := by
    have := OwS.lit (base := w.heap.size + 2) ((w.alloc (.cells #[.slice A R.length c, .int .i64 M] 30)).alloc (.cells #[.slice none 0 0, .int .i64 0] 30)) 32 3 0 #[] rfl (by simp [maxLen]) (by simp)
    simpa using this
  have hW : Below w.heap.size w (((w.alloc (.cells #[.slice A R.length c, .int .i64 M] 30)).alloc (.cells #[.slice none 0 0, .int .i64 0] 30)).alloc (.cells #[] 32)) := (((Below.refl _ _).alloc (Nat.le_refl _) _).alloc (by simp) _).alloc (by simp; omega) _
  have hz : w.heap.size + 2 ≤ (((w.alloc (.cells #[.slice A R.length c, .int .i64 M] 30)).alloc (.cells #[.slice none 0 0, .int .i64 0] 30)).alloc (.cells #[] 32)).heap.size := by simp
  have HB0 := Lib.hid hB0
  have HB1 := Lib.hid hB1
  have HO := Lib.hid hO
  have HW := Lib.hid hW
  clear hB0 hB1 hO hW
  generalize (((w.alloc (.cells #[.slice A R.length c, .int .i64 M] 30)).alloc (.cells #[.slice none 0 0, .int .i64 0] 30)).alloc (.cells #[] 32)) = w0 at *
  go_loopw [5, 6, 12] (fun out n i wr => ∃ (k : Nat) (A' : Option Addr) (c' T : Nat), k ≤ R.length ∧ i = .int .i64 k ∧ n = .int .i64 T ∧ out = .slice A' k c' ∧ w.heap.size + 2 ≤ wr.heap.size ∧ Hid (T = tot (R.take k)) ∧ Hid (OwS wr (w.heap.size + 2) 32 3 (.slice A' k c') k (enl fdc (R.take k))) ∧ Hid (wit m 0 R = R.take k ++ wit m (tot (R.take k)) (R.drop k)) ∧
      Hid (Row wr w.heap.size 30 #[.slice A R.length c, .int .i64 M]) ∧ Hid (Row wr (w.heap.size + 1) 30 #[.slice none 0 0, .int .i64 0]) ∧ Hid (Below w.heap.size w wr))
    (fun _ _ i _ => R.length - (intOf i).toNat)
  case atStart => exact ⟨0, _, _, 0, Nat.zero_le _, rfl, rfl, rfl, hz, by show _ = _; simp [tot_nil0], HO, by show _ = _; simp [tot_nil0], HB0, HB1, HW⟩
  case round =>
    clear HB0 HB1 HO HW hz
    obtain ⟨k, A', c', T, hk, rfl, rfl, rfl, hz, hT, hO, hE, hB0, hB1, hW⟩ := hrel
    by_cases hlt : k < R.length
    · have hRr : RdS wr (· < w.heap.size) A (enl fdc R) := hR.below hW.out
      obtain ⟨b, q, rfl, hb, f0, f1, f2⟩ := hRr.field hlt
      have c0 := hB0.out.cell (j := 0) rfl
      have hsz := rsize_any R[k] (hs _ (List.getElem_mem hlt))
      have htd := tot_take hlt
      have hT0 := tot_take_le R (k + 1)
      have hX : Hid (enl fdc (R.take (k + 1)) = enl fdc (R.take k) ++ [tx R[k].nm, tx R[k].vl, .bool R[k].nv]) := by
        show _ = _
        rw [List.take_succ_eq_append_getElem hlt, enl_append, enl_one]
        rfl
      unfold fv at hsz
      unfold tx at hsz f0 f1 hX
      rw [← hT.out] at htd
      have HTD := Lib.hid htd
      have hTm : Hid (m < ((T + sz R[k] : Nat) : Int) → wit m 0 R = R.take k) := fun h => wit_stop hlt hE.out (by rw [← hT.out]; exact h)
      have hTn : Hid (¬ m < ((T + sz R[k] : Nat) : Int) → wit m 0 R = R.take (k + 1) ++ wit m (tot (R.take (k + 1))) (R.drop (k + 1))) := fun h => wit_more hlt hE.out (by rw [htd]; exact h)
      have hTb : T + sz R[k] ≤ 4294967296 := by omega
      generalize R[k].nm = x at *
      generalize R[k].vl = y at *
      generalize R[k].nv = z at *
      generalize sz R[k] = Z at *
      clear htd hT0 hE hRr
      by_cases hgt : m < ((T + Z : Nat) : Int)
      · have hgi : m < (T : Int) + (Z : Int) := by omega
        have hEnd := Lib.hid (hTm.out hgt)
        clear hTm hTn hgt
        go_wp2_with fail
        refine (hsz _).mono ?_
        rintro e w2 ⟨rfl, hb2⟩
        have hB02 := hB0.out.below hb2 (hB0.out.lt)
        have hB12 := hB1.out.below hb2 (hB1.out.lt)
        have hO2 := hO.out.below hb2
        have hW2 := hW.out.trans (hb2.mono hW.out.size)
        have HO := Lib.hid hO2
        have HW := Lib.hid hW2
        have r0 := hB02.cell (j := 0) rfl
        have r1 := hB02.cell (j := 1) rfl
        have s0 := hB12.cell (j := 0) rfl
        have s1 := hB12.cell (j := 1) rfl
        have z0 := hB02.thawed 0
        have z1 := hB12.thawed 0
        have z2 := hB12.thawed 1
        clear hb2 hB0 hB1 hO2 hW2 f0 f1 f2 c0
        have HF := Lib.hid (within_fin (M := M) hB12 HO.out HW.out)
        clear hB02 hB12
        go_wp2_with fail
        refine bodyPost_ret (ret_T rfl _ _ (w.heap.size + 1) _ rfl HF.out.1 rfl) rfl ?_
        rw [hEnd.out, List.length_take, Nat.min_eq_left hk]
        exact ⟨A', c', rfl, HF.out.2⟩
      · have hgi : decide (m < (T : Int) + (Z : Int)) = false := by simp; omega
        have hE2 := Lib.hid (hTn.out hgt)
        clear hTm hTn hgt
        go_wp2_with fail
        refine (hsz _).mono ?_
        rintro e w2 ⟨rfl, hb2⟩
        have hB02 := hB0.out.below hb2 (hB0.out.lt)
        have hB12 := hB1.out.below hb2 (hB1.out.lt)
        have hO2 := hO.out.below hb2
        have hW2 := hW.out.trans (hb2.mono hW.out.size)
        have l0 := (hb2.cell (p := ⟨b, q + k * 3, none⟩) (World.block_lt_of_cell? _ _ f0)).trans f0
        have l1 := (hb2.cell (p := ⟨b, q + k * 3 + 1, none⟩) (World.block_lt_of_cell? _ _ f1)).trans f1
        have l2 := (hb2.cell (p := ⟨b, q + k * 3 + 2, none⟩) (World.block_lt_of_cell? _ _ f2)).trans f2
        have hw2z : w.heap.size + 2 ≤ w2.heap.size := by have := hb2.size; omega
        have HO := Lib.hid hO2
        have HW := Lib.hid hW2
        have r0 := hB02.cell (j := 0) rfl
        have HR0 := Lib.hid hB02
        have HR1 := Lib.hid hB12
        clear hb2 hB0 hB1 hO2 hW2 f0 f1 f2 c0 hB02 hB12 hO hW
        go_wp2_with (at_builtin; go_loud (refine wpList_appS rfl (.tmp 26) (.tmp 32) 28 rfl (w.heap.size + 2) 32 i0 _ 3 40 Try.underlying28 hi0 hz0 hz1 hz2 rfl (.slice A' k c') k (enl fdc (R.take k)) rfl (HO.out.alloc _) ⟨w2.heap.size, 0, none⟩ 1 1 [.string ⟨x.toArray⟩, .string ⟨y.toArray⟩, .bool z] rfl rfl (World.news_of_block (heap_alloc_last w2 _)) (by intro u hu; simp at hu; rcases hu with rfl | rfl | rfl <;> rfl) (by omega) (by simp only [maxLen]; omega) (by omega) (by simp; omega) ?_; intro A3 c3 w3 hO3 hg3 hb3))
        have hb3' : Below (w.heap.size + 2) w2 w3 := ((Below.refl _ _).alloc hw2z _).trans (⟨hg3.os, hg3.tape, hg3.output, hg3.size, fun j hj => hg3.block j (by simp; omega) (fun e => by have := (HO.out.lt j e.symm).1; omega)⟩)
        go_roundw
        case rel =>
          refine ⟨k + 1, A3, c3, T + Z, by omega, by go_num, by go_num, rfl, ?_, HTD.out.symm, ?_, hE2, HR0.out.below hb3' (by omega), HR1.out.below hb3' (by omega), HW.out.trans (hb3'.mono (by omega))⟩
          · have := hb3'.size; omega
          · show OwS _ _ _ _ _ _ _
            rw [hX.out]
            exact hO3
        case measure => simp [intOf]; omega
    · obtain rfl : k = R.length := by omega
      have hEnd : Hid (wit m 0 R = R) := by
        show _ = _
        have := hE.out
        rw [List.take_of_length_le (Nat.le_refl _), List.drop_of_length_le (Nat.le_refl _), wit_nil, List.append_nil] at this
        exact this
      have hO2 : OwS wr (w.heap.size + 2) 32 3 (.slice A' R.length c') R.length (enl fdc R) := by
        have := hO.out
        rwa [List.take_of_length_le (Nat.le_refl _)] at this
      have r0 := hB0.out.cell (j := 0) rfl
      have r1 := hB0.out.cell (j := 1) rfl
      have s0 := hB1.out.cell (j := 0) rfl
      have s1 := hB1.out.cell (j := 1) rfl
      have z0 := hB0.out.thawed 0
      have z1 := hB1.out.thawed 0
      have z2 := hB1.out.thawed 1
      have HF := Lib.hid (within_fin (M := M) hB1.out hO2 hW.out)
      clear hO2 hE
      go_wp2_with fail
      refine bodyPost_ret (ret_T rfl _ _ (w.heap.size + 1) _ rfl HF.out.1 rfl) rfl ?_
      rw [hEnd.out]
      exact ⟨A', c', rfl, HF.out.2⟩
end Go.Proofs.Yteoneedehfijhaa
