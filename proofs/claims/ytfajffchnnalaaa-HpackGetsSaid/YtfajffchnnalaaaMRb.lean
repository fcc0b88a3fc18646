/-
  The document's table: its size, the field of a number, the number of a field, by their contracts. Conditions: each field of fewer than 2^31 bytes, all of fewer than 2^32.
  The document's table: what of it stays within a most, by its contract. Conditions: each field of fewer than 2^31 bytes, all of fewer than 2^32.
  The document's table with a field more, or of another most, by their contracts. Conditions: each field of fewer than 2^31 bytes, all of fewer than 2^32, mosts below 2^32.
  The document's table, by its contract: names and values by turns.
  The document's At and Find, by their contracts.
-/
import Derived.Test.YtfajffchnnalaaaDshr
import Derived.Test.YtfajffchnnalaaaLast
import Derived.Test.YtfajffchnnalaaaMRa
import Derived.Test.YtfajffchnnalaaaSfind
import Derived.BigQuiet
import Derived.Test.YtfajffchnnalaaaDat
import Derived.Test.YtfajffchnnalaaaDfind

namespace Go.Proofs.Ytfajffchnnalaaa
open Go.RowKit Go.WideShapes

attribute [local irreducible] tot shr sz wit

theorem t_size : (Try.prog.info? 33).map (·.size) = some 2 := by kernel_rfl
theorem t_cells (cs : Array Value) (h : cs.size = 2) : (Try.prog.info? 33).map (·.size) = some cs.size := by rw [h]; exact t_size
theorem ret_T {fn : Func} {p : Tmp} (h : fn.results = #[.cell p 33]) (tmps : Array Value) (w : World) (g : Nat) (cs : Array Value) (hp : tmps.getD p undef = .pointer (some ⟨g, 0, none⟩)) (hR : Row w g 33 cs) (hc : cs.size = 2) :
    (results fn tmps).run Try.prog w = .ok (.agg cs) w := by
  have hl := run_loadVar_row w g 33 33 cs (0, 0) _ hR Try.underlying33 rfl (t_cells cs hc)
  have hp' : tmps[p]?.getD undef = .pointer (some ⟨g, 0, none⟩) := by simpa using hp
  simp only [results, h]
  simp [hp', asAddr, hl]

/-- What is handed back: the table's box, copied into the result's. -/
theorem within_fin {w w2 : World} {A' : Option Addr} {k c' : Nat} {M : Int} {cs : List Value} (hB1 : Row w2 (w.heap.size + 1) 33 #[.slice none 0 0, .int .i64 0]) (hO : OwS w2 (w.heap.size + 2) 52 3 (.slice A' k c') k cs) (hW : Below w.heap.size w w2) :
    Row (((w2.setCell ⟨w.heap.size, 0, none⟩ (.slice A' k c')).setCell ⟨w.heap.size + 1, 0, none⟩ (.slice A' k c')).setCell ⟨w.heap.size + 1, 1, none⟩ (.int .i64 M)) (w.heap.size + 1) 33 #[.slice A' k c', .int .i64 M] ∧
    OwS (((w2.setCell ⟨w.heap.size, 0, none⟩ (.slice A' k c')).setCell ⟨w.heap.size + 1, 0, none⟩ (.slice A' k c')).setCell ⟨w.heap.size + 1, 1, none⟩ (.int .i64 M)) w.heap.size 52 3 (.slice A' k c') k cs ∧ k ≤ c' ∧
    Below w.heap.size w (((w2.setCell ⟨w.heap.size, 0, none⟩ (.slice A' k c')).setCell ⟨w.heap.size + 1, 0, none⟩ (.slice A' k c')).setCell ⟨w.heap.size + 1, 1, none⟩ (.int .i64 M)) := by
  have hn : ∀ (j : Nat), j < w.heap.size + 2 → (Value.slice A' k c').ownBlock ≠ some j := fun j hj e => by
    have := (hO.lt j e).1
    omega
  refine ⟨((hB1.stored' (by simp) _).stored 0 _).stored 1 _, (((hO.setCell (hn _ (by simp)) _).setCell (hn _ (by simp)) _).setCell (hn _ (by simp)) _).mono (by omega), ?_, ((hW.setCell (by simp) _).setCell (by simp) _).setCell (by simp) _⟩
  obtain ⟨_, _, e, h, _⟩ := hO.shape
  injection e with _ _ e
  omega

set_option maxRecDepth 100000 in
set_option maxHeartbeats 4000000 in
theorem within_any {w : World} {A : Option Addr} {c : Nat} {R : List Fd} {M : Int} (m : Int) (hm0 : -4294967296 ≤ m) (hm1 : m ≤ 4294967296) (hR : RdS w (· < w.heap.size) A (enl fdc R)) (hL : tot R ≤ 4294967296) (hs : ∀ f ∈ R, sz f ≤ 2147483648) (_ : R.length ≤ c) :
    Calls Try.prog 50 #[.agg #[.slice A R.length c, .int .i64 M], .int .i64 m] w fun e w' => ∃ A' c', e = .returned (.agg #[.slice A' (wit m 0 R).length c', .int .i64 M]) ∧
      OwS w' w.heap.size 52 3 (.slice A' (wit m 0 R).length c') (wit m 0 R).length (enl fdc (wit m 0 R)) ∧ (wit m 0 R).length ≤ c' ∧ Below w.heap.size w w' := by
  have hlen : R.length ≤ 134217728 := by have := tot_len R; omega
  obtain ⟨i0, hi0, hz0, hz1, hz2⟩ := field_parts
  go_enter Try.func50, Try.ntmps50
  go_wp2_with fail
  have hB0 : Row (((w.alloc (.cells #[.slice A R.length c, .int .i64 M] 33)).alloc (.cells #[.slice none 0 0, .int .i64 0] 33)).alloc (.cells #[] 52)) w.heap.size 33 #[.slice A R.length c, .int .i64 M] := ((Row.new w _ _).alloc _).alloc _
  have hB1 : Row (((w.alloc (.cells #[.slice A R.length c, .int .i64 M] 33)).alloc (.cells #[.slice none 0 0, .int .i64 0] 33)).alloc (.cells #[] 52)) (w.heap.size + 1) 33 #[.slice none 0 0, .int .i64 0] := (Row.made _ _ _ (by simp)).alloc _
  have hO : OwS (((w.alloc (.cells #[.slice A R.length c, .int .i64 M] 33)).alloc (.cells #[.slice none 0 0, .int .i64 0] 33)).alloc (.cells #[] 52)) (w.heap.size + 2) 52 3 (.slice (some ⟨w.heap.size + 1 + 1, 0, none⟩) 0 0) 0 [] := by
    have := OwS.lit (base := w.heap.size + 2) ((w.alloc (.cells #[.slice A R.length c, .int .i64 M] 33)).alloc (.cells #[.slice none 0 0, .int .i64 0] 33)) 52 3 0 #[] rfl (by simp [maxLen]) (by simp)
    simpa using this
  have hW : Below w.heap.size w (((w.alloc (.cells #[.slice A R.length c, .int .i64 M] 33)).alloc (.cells #[.slice none 0 0, .int .i64 0] 33)).alloc (.cells #[] 52)) := (((Below.refl _ _).alloc (Nat.le_refl _) _).alloc (by simp) _).alloc (by simp; omega) _
  have hz : w.heap.size + 2 ≤ (((w.alloc (.cells #[.slice A R.length c, .int .i64 M] 33)).alloc (.cells #[.slice none 0 0, .int .i64 0] 33)).alloc (.cells #[] 52)).heap.size := by simp
  have HB0 := Lib.hid hB0
  have HB1 := Lib.hid hB1
  have HO := Lib.hid hO
  have HW := Lib.hid hW
  clear hB0 hB1 hO hW
  generalize (((w.alloc (.cells #[.slice A R.length c, .int .i64 M] 33)).alloc (.cells #[.slice none 0 0, .int .i64 0] 33)).alloc (.cells #[] 52)) = w0 at *
  go_loopw [5, 6, 12] (fun out n i wr => ∃ (k : Nat) (A' : Option Addr) (c' T : Nat), k ≤ R.length ∧ i = .int .i64 k ∧ n = .int .i64 T ∧ out = .slice A' k c' ∧ w.heap.size + 2 ≤ wr.heap.size ∧ Hid (T = tot (R.take k)) ∧ Hid (OwS wr (w.heap.size + 2) 52 3 (.slice A' k c') k (enl fdc (R.take k))) ∧ Hid (wit m 0 R = R.take k ++ wit m (tot (R.take k)) (R.drop k)) ∧
      Hid (Row wr w.heap.size 33 #[.slice A R.length c, .int .i64 M]) ∧ Hid (Row wr (w.heap.size + 1) 33 #[.slice none 0 0, .int .i64 0]) ∧ Hid (Below w.heap.size w wr))
    (fun _ _ i _ => R.length - (intOf i).toNat)
  case atStart => exact ⟨0, _, _, 0, Nat.zero_le _, rfl, rfl, rfl, hz, by show _ = _; simp [tot_nil0], HO, by show _ = _; simp [tot_nil0], HB0, HB1, HW⟩
  case round =>
    clear HB0 HB1 HO HW hz
    obtain ⟨k, A', c', T, hk, rfl, rfl, rfl, hz, hT, hO, hE, hB0, hB1, hW⟩ := hrel
    by_cases hlt : k < R.length
    · have hRr : RdS wr (· < w.heap.size) A (enl fdc R) := hR.below hW.out
      obtain ⟨b, q, rfl, hb, f0, f1, f2⟩ := hRr.field hlt
      have c0 := hB0.out.cell (j := 0) rfl
      have hsz := rsize_any R[k] (hs _ (List.getElem_mem hlt))
      have htd := tot_take hlt
      have hT0 := tot_take_le R (k + 1)
      have hX : Hid (enl fdc (R.take (k + 1)) = enl fdc (R.take k) ++ [tx R[k].nm, tx R[k].vl, .bool R[k].nv]) := by
        show _ = _
        rw [List.take_succ_eq_append_getElem hlt, enl_append, enl_one]
        rfl
      unfold fv at hsz
      unfold tx at hsz f0 f1 hX
      rw [← hT.out] at htd
      have HTD := Lib.hid htd
      have hTm : Hid (m < ((T + sz R[k] : Nat) : Int) → wit m 0 R = R.take k) := fun h => wit_stop hlt hE.out (by rw [← hT.out]; exact h)
      have hTn : Hid (¬ m < ((T + sz R[k] : Nat) : Int) → wit m 0 R = R.take (k + 1) ++ wit m (tot (R.take (k + 1))) (R.drop (k + 1))) := fun h => wit_more hlt hE.out (by rw [htd]; exact h)
      have hTb : T + sz R[k] ≤ 4294967296 := by omega
      generalize R[k].nm = x at *
      generalize R[k].vl = y at *
      generalize R[k].nv = z at *
      generalize sz R[k] = Z at *
      clear htd hT0 hE hRr
      by_cases hgt : m < ((T + Z : Nat) : Int)
      · have hgi : m < (T : Int) + (Z : Int) := by omega
        have hEnd := Lib.hid (hTm.out hgt)
        clear hTm hTn hgt
        go_wp2_with fail
        refine (hsz _).mono ?_
        rintro e w2 ⟨rfl, hb2⟩
        have hB02 := hB0.out.below hb2 (hB0.out.lt)
        have hB12 := hB1.out.below hb2 (hB1.out.lt)
        have hO2 := hO.out.below hb2
        have hW2 := hW.out.trans (hb2.mono hW.out.size)
        have HO := Lib.hid hO2
        have HW := Lib.hid hW2
        have r0 := hB02.cell (j := 0) rfl
        have r1 := hB02.cell (j := 1) rfl
        have s0 := hB12.cell (j := 0) rfl
        have s1 := hB12.cell (j := 1) rfl
        have z0 := hB02.thawed 0
        have z1 := hB12.thawed 0
        have z2 := hB12.thawed 1
        clear hb2 hB0 hB1 hO2 hW2 f0 f1 f2 c0
        have HF := Lib.hid (within_fin (M := M) hB12 HO.out HW.out)
        clear hB02 hB12
        go_wp2_with fail
        refine bodyPost_ret (ret_T rfl _ _ (w.heap.size + 1) _ rfl HF.out.1 rfl) rfl ?_
        rw [hEnd.out, List.length_take, Nat.min_eq_left hk]
        exact ⟨A', c', rfl, HF.out.2⟩
      · have hgi : decide (m < (T : Int) + (Z : Int)) = false := by simp; omega
        have hE2 := Lib.hid (hTn.out hgt)
        clear hTm hTn hgt
        go_wp2_with fail
        refine (hsz _).mono ?_
        rintro e w2 ⟨rfl, hb2⟩
        have hB02 := hB0.out.below hb2 (hB0.out.lt)
        have hB12 := hB1.out.below hb2 (hB1.out.lt)
        have hO2 := hO.out.below hb2
        have hW2 := hW.out.trans (hb2.mono hW.out.size)
        have l0 := (hb2.cell (p := ⟨b, q + k * 3, none⟩) (World.block_lt_of_cell? _ _ f0)).trans f0
        have l1 := (hb2.cell (p := ⟨b, q + k * 3 + 1, none⟩) (World.block_lt_of_cell? _ _ f1)).trans f1
        have l2 := (hb2.cell (p := ⟨b, q + k * 3 + 2, none⟩) (World.block_lt_of_cell? _ _ f2)).trans f2
        have hw2z : w.heap.size + 2 ≤ w2.heap.size := by have := hb2.size; omega
        have HO := Lib.hid hO2
        have HW := Lib.hid hW2
        have r0 := hB02.cell (j := 0) rfl
        have HR0 := Lib.hid hB02
        have HR1 := Lib.hid hB12
        clear hb2 hB0 hB1 hO2 hW2 f0 f1 f2 c0 hB02 hB12 hO hW
        go_wp2_with (at_builtin; go_loud (refine wpList_appS rfl (.tmp 26) (.tmp 32) 31 rfl (w.heap.size + 2) 52 i0 _ 3 40 Try.underlying31 hi0 hz0 hz1 hz2 rfl (.slice A' k c') k (enl fdc (R.take k)) rfl (HO.out.alloc _) ⟨w2.heap.size, 0, none⟩ 1 1 [.string ⟨x.toArray⟩, .string ⟨y.toArray⟩, .bool z] rfl rfl (World.news_of_block (heap_alloc_last w2 _)) (by intro u hu; simp at hu; rcases hu with rfl | rfl | rfl <;> rfl) (by omega) (by simp only [maxLen]; omega) (by omega) (by simp; omega) ?_; intro A3 c3 w3 hO3 hg3 hb3))
        have hb3' : Below (w.heap.size + 2) w2 w3 := ((Below.refl _ _).alloc hw2z _).trans (⟨hg3.os, hg3.tape, hg3.output, hg3.size, fun j hj => hg3.block j (by simp; omega) (fun e => by have := (HO.out.lt j e.symm).1; omega)⟩)
        go_roundw
        case rel =>
          refine ⟨k + 1, A3, c3, T + Z, by omega, by go_num, by go_num, rfl, ?_, HTD.out.symm, ?_, hE2, HR0.out.below hb3' (by omega), HR1.out.below hb3' (by omega), HW.out.trans (hb3'.mono (by omega))⟩
          · have := hb3'.size; omega
          · show OwS _ _ _ _ _ _ _
            rw [hX.out]
            exact hO3
        case measure => simp [intOf]; omega
    · obtain rfl : k = R.length := by omega
      have hEnd : Hid (wit m 0 R = R) := by
        show _ = _
        have := hE.out
        rw [List.take_of_length_le (Nat.le_refl _), List.drop_of_length_le (Nat.le_refl _), wit_nil, List.append_nil] at this
        exact this
      have hO2 : OwS wr (w.heap.size + 2) 52 3 (.slice A' R.length c') R.length (enl fdc R) := by
        have := hO.out
        rwa [List.take_of_length_le (Nat.le_refl _)] at this
      have r0 := hB0.out.cell (j := 0) rfl
      have r1 := hB0.out.cell (j := 1) rfl
      have s0 := hB1.out.cell (j := 0) rfl
      have s1 := hB1.out.cell (j := 1) rfl
      have z0 := hB0.out.thawed 0
      have z1 := hB1.out.thawed 0
      have z2 := hB1.out.thawed 1
      have HF := Lib.hid (within_fin (M := M) hB1.out hO2 hW.out)
      clear hO2 hE
      go_wp2_with fail
      refine bodyPost_ret (ret_T rfl _ _ (w.heap.size + 1) _ rfl HF.out.1 rfl) rfl ?_
      rw [hEnd.out]
      exact ⟨A', c', rfl, HF.out.2⟩
end Go.Proofs.Ytfajffchnnalaaa

namespace Go.Proofs.Ytfajffchnnalaaa
open Go.RowKit Go.WideShapes

/-- The document's table by value. -/
def tv (A : Option Addr) (n c M : Nat) : Value := .agg #[.slice A n c, .int .i64 (M : Int)]
/-- What a call leaves that makes such a table of these fields. -/
def MadeT (w : World) (R : List Fd) (M : Nat) (e : Ending) (w' : World) : Prop :=
  ∃ A' c', e = .returned (tv A' R.length c' M) ∧ RdS w' (fun b => w.heap.size ≤ b ∧ b < w'.heap.size) A' (enl fdc R) ∧ R.length ≤ c' ∧ Below w.heap.size w w'

attribute [local irreducible] tot shr sz wit addL

set_option maxRecDepth 100000 in
set_option maxHeartbeats 4000000 in
theorem radd_any {w : World} {A : Option Addr} {c : Nat} {R : List Fd} (M : Nat) (f : Fd) (hM : M < 4294967296) (hf : sz f ≤ 2147483648) (hR : RdS w (· < w.heap.size) A (enl fdc R)) (hL : tot R ≤ 4294967296) (hs : ∀ f ∈ R, sz f ≤ 2147483648) (hc : R.length ≤ c) :
    Calls Try.prog 53 #[tv A R.length c M, fv f] w (MadeT w (raddL M f R) M) := by
  have hsz := rsize_any f hf
  obtain ⟨i0, hi0, hz0, hz1, hz2⟩ := field_parts
  have hwi := fun (W : World) (h : RdS W (· < W.heap.size) A (enl fdc R)) => within_any (w := W) (c := c) (M := (M : Int)) ((M : Int) - (sz f : Int)) (by omega) (by omega) h hL hs hc
  have hWt := wit_tot ((M : Int) - (sz f : Int)) R
  have hWl := tot_len (wit ((M : Int) - (sz f : Int)) 0 R)
  have hRA : Hid (raddL M f R = if M < sz f then wit ((M : Int) - (sz f : Int)) 0 R else bare f :: wit ((M : Int) - (sz f : Int)) 0 R) := by show _ = _; rfl
  generalize wit ((M : Int) - (sz f : Int)) 0 R = V at *
  unfold tv fv tx at *
  go_enter Try.func53, Try.ntmps53
  go_wp2_with fail
  have hB0 : Row (((w.alloc (.cells #[.slice A R.length c, .int .i64 (M : Int)] 33)).alloc (.cells #[.string ⟨f.nm.toArray⟩, .string ⟨f.vl.toArray⟩, .bool f.nv] 52)).alloc (.cells #[.slice none 0 0, .int .i64 0] 33)) w.heap.size 33 #[.slice A R.length c, .int .i64 (M : Int)] := ((Row.new w _ _).alloc _).alloc _
  have hB1 : Row (((w.alloc (.cells #[.slice A R.length c, .int .i64 (M : Int)] 33)).alloc (.cells #[.string ⟨f.nm.toArray⟩, .string ⟨f.vl.toArray⟩, .bool f.nv] 52)).alloc (.cells #[.slice none 0 0, .int .i64 0] 33)) (w.heap.size + 1) 52 #[.string ⟨f.nm.toArray⟩, .string ⟨f.vl.toArray⟩, .bool f.nv] := (Row.made _ _ _ (by simp)).alloc _
  have hB2 : Row (((w.alloc (.cells #[.slice A R.length c, .int .i64 (M : Int)] 33)).alloc (.cells #[.string ⟨f.nm.toArray⟩, .string ⟨f.vl.toArray⟩, .bool f.nv] 52)).alloc (.cells #[.slice none 0 0, .int .i64 0] 33)) (w.heap.size + 2) 33 #[.slice none 0 0, .int .i64 0] := Row.made _ _ _ (by simp)
  have hW : Below w.heap.size w (((w.alloc (.cells #[.slice A R.length c, .int .i64 (M : Int)] 33)).alloc (.cells #[.string ⟨f.nm.toArray⟩, .string ⟨f.vl.toArray⟩, .bool f.nv] 52)).alloc (.cells #[.slice none 0 0, .int .i64 0] 33)) := (((Below.refl _ _).alloc (Nat.le_refl _) _).alloc (by simp) _).alloc (by simp; omega) _
  generalize (((w.alloc (.cells #[.slice A R.length c, .int .i64 (M : Int)] 33)).alloc (.cells #[.string ⟨f.nm.toArray⟩, .string ⟨f.vl.toArray⟩, .bool f.nv] 52)).alloc (.cells #[.slice none 0 0, .int .i64 0] 33)) = w0 at *
  have HB0 : Hid (Row w0.drew w.heap.size 33 #[.slice A R.length c, .int .i64 (M : Int)]) := hB0
  have HB1 : Hid (Row w0.drew (w.heap.size + 1) 52 #[.string ⟨f.nm.toArray⟩, .string ⟨f.vl.toArray⟩, .bool f.nv]) := hB1
  have HB2 : Hid (Row w0.drew (w.heap.size + 2) 33 #[.slice none 0 0, .int .i64 0]) := hB2
  have HW : Hid (Below w.heap.size w w0.drew) := hW.drew
  have d0 : w0.drew.cell? ⟨w.heap.size, 0, none⟩ = some (.slice A R.length c) := hB0.cell (j := 0) rfl
  have d1 : w0.drew.cell? ⟨w.heap.size, 1, none⟩ = some (.int .i64 (M : Int)) := hB0.cell (j := 1) rfl
  have d2 : w0.drew.cell? ⟨w.heap.size + 1, 0, none⟩ = some (.string ⟨f.nm.toArray⟩) := hB1.cell (j := 0) rfl
  have d3 : w0.drew.cell? ⟨w.heap.size + 1, 1, none⟩ = some (.string ⟨f.vl.toArray⟩) := hB1.cell (j := 1) rfl
  have d4 : w0.drew.cell? ⟨w.heap.size + 1, 2, none⟩ = some (.bool f.nv) := hB1.cell (j := 2) rfl
  clear hB0 hB1 hB2 hW
  refine wp_region_E 7 (fun w' => w'.cell? ⟨w.heap.size, 0, none⟩ = some (.slice A R.length c) ∧ w'.cell? ⟨w.heap.size, 1, none⟩ = some (.int .i64 (M : Int)) ∧ w'.cell? ⟨w.heap.size + 1, 0, none⟩ = some (.string ⟨f.nm.toArray⟩) ∧ w'.cell? ⟨w.heap.size + 1, 1, none⟩ = some (.string ⟨f.vl.toArray⟩) ∧ w'.cell? ⟨w.heap.size + 1, 2, none⟩ = some (.bool f.nv)) (by kernel_rfl) ⟨d0, d1, d2, d3, d4⟩ (fun hHeld => ?_)
  refine wpAnyE_take (i := 0) (v := ?v0) rfl (by kernel_rfl) (by kernel_rfl) (by kernel_rfl) (by kernel_rfl) (fun _ _ _ h => h) (Or.inl ⟨by rfl, ?hy0⟩) (by assumption) ?rest0
  case hy0 => (intro w hSw; (try dsimp only at hSw); go_simp <;> with_reducible rfl)
  try simp only [Act.put, List.getElem_toArray, List.getElem_cons_zero, List.setIfInBounds_toArray, List.set_cons_zero, List.set_cons_succ]
  refine wpAnyE_take (i := 1) (v := ?v1) rfl (by kernel_rfl) (by kernel_rfl) (by kernel_rfl) (by kernel_rfl) (fun _ _ _ h => h) (Or.inl ⟨by rfl, ?hy1⟩) (by assumption) ?rest1
  case hy1 => (intro w hSw; (try dsimp only at hSw); go_simp <;> with_reducible rfl)
  try simp only [Act.put, List.getElem_toArray, List.getElem_cons_zero, List.getElem_cons_succ, List.setIfInBounds_toArray, List.set_cons_zero, List.set_cons_succ]
  refine wpAnyE_take (i := 2) (v := ?v2) rfl (by kernel_rfl) (by kernel_rfl) (by kernel_rfl) (by kernel_rfl) (fun _ _ _ h => h) (Or.inl ⟨by rfl, ?hy2⟩) (by assumption) ?rest2
  case hy2 => (intro w hSw; (try dsimp only at hSw); go_simp <;> with_reducible rfl)
  try simp only [Act.put, List.getElem_toArray, List.getElem_cons_zero, List.getElem_cons_succ, List.setIfInBounds_toArray, List.set_cons_zero, List.set_cons_succ]
  refine wpAnyE_take (i := 3) (v := ?v3) rfl (by kernel_rfl) (by kernel_rfl) (by kernel_rfl) (by kernel_rfl) (fun _ _ _ h => h) (Or.inl ⟨by rfl, ?hy3⟩) (by assumption) ?rest3
  case hy3 => (intro w hSw; (try dsimp only at hSw); go_simp <;> with_reducible rfl)
  try simp only [Act.put, List.getElem_toArray, List.getElem_cons_zero, List.getElem_cons_succ, List.setIfInBounds_toArray, List.set_cons_zero, List.set_cons_succ]
  refine wpAnyE_next (i := 4) (by kernel_rfl) rfl (fun K hK => ?_)
  go_simp
  go_at_call 23
  refine (hsz _).mono ?_
  rintro e w1 ⟨rfl, hb1⟩
  have HB01 := Lib.hid (HB0.out.below hb1 HB0.out.lt)
  have HB11 := Lib.hid (HB1.out.below hb1 HB1.out.lt)
  have HB21 := Lib.hid (HB2.out.below hb1 HB2.out.lt)
  have HW1 := Lib.hid (HW.out.trans (hb1.mono HW.out.size))
  have hR1 := hR.up HW1.out
  clear hb1 HB0 HB1 HB2 HW d0 d1 d2 d3 d4
  go_simp
  refine hK.out _ _ ⟨HB01.out.cell (j := 0) rfl, HB01.out.cell (j := 1) rfl, HB11.out.cell (j := 0) rfl, HB11.out.cell (j := 1) rfl, HB11.out.cell (j := 2) rfl⟩ (fun hHeld => ?_)
  clear hK K
  try simp only [Act.put, List.getElem_toArray, List.getElem_cons_zero, List.getElem_cons_succ, List.setIfInBounds_toArray, List.set_cons_zero, List.set_cons_succ]
  have hwr : IntKind.i64.wrap ((M : Int) - (sz f : Int)) = (M : Int) - (sz f : Int) := IntWalk.i64_in _ (by omega)
  refine wpAnyE_take (i := 5) (v := ?v5q1) rfl (by kernel_rfl) (by kernel_rfl) (by kernel_rfl) (by kernel_rfl) (fun _ _ _ h => h) (Or.inl ⟨by rfl, ?hy5q1⟩) (by assumption) ?rest5q1
  case hy5q1 => (intro w hSw; (try dsimp only at hSw); go_simp <;> with_reducible rfl)
  try simp only [Act.put, List.getElem_toArray, List.getElem_cons_zero, List.getElem_cons_succ, List.setIfInBounds_toArray, List.set_cons_zero, List.set_cons_succ]
  refine wpAnyE_next (i := 6) (by kernel_rfl) rfl (fun K hK => ?_)
  go_simp
  go_at_call 50
  refine (hwi _ hR1).mono ?_
  rintro e w2 ⟨A2, c2, rfl, hO2, hc2, hb2⟩
  have hs1 := HW1.out.size
  have HB02 := HB01.out.below hb2 HB01.out.lt
  have HB12 := HB11.out.below hb2 HB11.out.lt
  have HB22 := HB21.out.below hb2 HB21.out.lt
  have HL1 : Hid (w.heap.size + 2 < w1.heap.size) := HB21.out.lt
  have HW2 := Lib.hid (HW1.out.trans (hb2.mono hs1))
  have HO2 := Lib.hid hO2
  clear hb2 HB01 HB11 HB21 HW1 hR1 hO2 hwi hwr
  go_simp
  refine hK.out _ _ ⟨HB02.cell (j := 0) rfl, HB02.cell (j := 1) rfl, HB12.cell (j := 0) rfl, HB12.cell (j := 1) rfl, HB12.cell (j := 2) rfl⟩ (fun hHeld => ?_)
  clear hK K
  try simp only [Act.put, List.getElem_toArray, List.getElem_cons_zero, List.getElem_cons_succ, List.setIfInBounds_toArray, List.set_cons_zero, List.set_cons_succ]
  refine wpAnyE_last (by kernel_rfl) rfl (by kernel_rfl) (fun K hK => ?_)
  have z0 := HB02.thawed 0
  have z1 := HB02.thawed 1
  have r0 := HB02.cell (j := 0) rfl
  have r1 := HB02.cell (j := 1) rfl
  go_simp
  refine hK.out _ _ ?_
  clear hK K
  try simp only [Act.put, List.getElem_toArray, List.getElem_cons_zero, List.getElem_cons_succ, List.setIfInBounds_toArray, List.set_cons_zero, List.set_cons_succ]
  have hn : ∀ (j : Nat), j < w1.heap.size → (Value.slice A2 V.length c2).ownBlock ≠ some j := fun j hj e => by
    have := (HO2.out.lt j e).1
    omega
  have HB03 := ((HB02.stored 0 (.slice A2 V.length c2)).stored 1 (.int .i64 (M : Int)))
  have HB13 := ((HB12.stored' (a := ⟨w.heap.size, 0, none⟩) (by simp) (.slice A2 V.length c2)).stored' (a := ⟨w.heap.size, 1, none⟩) (by simp) (.int .i64 (M : Int)))
  have HB23 := ((HB22.stored' (a := ⟨w.heap.size, 0, none⟩) (by simp) (.slice A2 V.length c2)).stored' (a := ⟨w.heap.size, 1, none⟩) (by simp) (.int .i64 (M : Int)))
  have HO3 := Lib.hid ((HO2.out.setCell (a := ⟨w.heap.size, 0, none⟩) (hn _ (by have := HL1.out; simp; omega)) (.slice A2 V.length c2)).setCell (a := ⟨w.heap.size, 1, none⟩) (hn _ (by have := HL1.out; simp; omega)) (.int .i64 (M : Int)))
  have HW3 := Lib.hid ((HW2.out.setCell (p := ⟨w.heap.size, 0, none⟩) (Nat.le_refl _) (.slice A2 V.length c2)).setCell (p := ⟨w.heap.size, 1, none⟩) (Nat.le_refl _) (.int .i64 (M : Int)))
  have HL3 : Hid (w.heap.size + 2 < ((w2.setCell ⟨w.heap.size, 0, none⟩ (.slice A2 V.length c2)).setCell ⟨w.heap.size, 1, none⟩ (.int .i64 (M : Int))).heap.size) := HB23.lt
  generalize (w2.setCell ⟨w.heap.size, 0, none⟩ (.slice A2 V.length c2)).setCell ⟨w.heap.size, 1, none⟩ (.int .i64 (M : Int)) = w3 at *
  have HB0 : Hid (Row w3 w.heap.size 33 #[.slice A2 V.length c2, .int .i64 (M : Int)]) := HB03
  have HB1 : Hid (Row w3 (w.heap.size + 1) 52 #[.string ⟨f.nm.toArray⟩, .string ⟨f.vl.toArray⟩, .bool f.nv]) := HB13
  have HB2 : Hid (Row w3 (w.heap.size + 2) 33 #[.slice none 0 0, .int .i64 0]) := HB23
  clear HB02 HB12 HB22 HB03 HB13 HB23 z0 z1 r0 r1 HO2 HW2 hn
  go_wp2_with fail
  have d1 : w3.drew.cell? ⟨w.heap.size, 1, none⟩ = some (.int .i64 (M : Int)) := HB0.out.cell (j := 1) rfl
  have d2 : w3.drew.cell? ⟨w.heap.size + 1, 0, none⟩ = some (.string ⟨f.nm.toArray⟩) := HB1.out.cell (j := 0) rfl
  have d3 : w3.drew.cell? ⟨w.heap.size + 1, 1, none⟩ = some (.string ⟨f.vl.toArray⟩) := HB1.out.cell (j := 1) rfl
  have d4 : w3.drew.cell? ⟨w.heap.size + 1, 2, none⟩ = some (.bool f.nv) := HB1.out.cell (j := 2) rfl
  refine wp_region_E 4 (fun w' => w'.cell? ⟨w.heap.size, 1, none⟩ = some (.int .i64 (M : Int)) ∧ w'.cell? ⟨w.heap.size + 1, 0, none⟩ = some (.string ⟨f.nm.toArray⟩) ∧ w'.cell? ⟨w.heap.size + 1, 1, none⟩ = some (.string ⟨f.vl.toArray⟩) ∧ w'.cell? ⟨w.heap.size + 1, 2, none⟩ = some (.bool f.nv)) (by kernel_rfl) ⟨d1, d2, d3, d4⟩ (fun hHeld => ?_)
  refine wpAnyE_take (i := 0) (v := ?v0q2) rfl (by kernel_rfl) (by kernel_rfl) (by kernel_rfl) (by kernel_rfl) (fun _ _ _ h => h) (Or.inl ⟨by rfl, ?hy0q2⟩) (by assumption) ?rest0q2
  case hy0q2 => (intro w hSw; (try dsimp only at hSw); go_simp <;> with_reducible rfl)
  try simp only [Act.put, List.getElem_toArray, List.getElem_cons_zero, List.setIfInBounds_toArray, List.set_cons_zero, List.set_cons_succ]
  refine wpAnyE_take (i := 2) (v := ?v2q2) rfl (by kernel_rfl) (by kernel_rfl) (by kernel_rfl) (by kernel_rfl) (fun _ _ _ h => h) (Or.inl ⟨by rfl, ?hy2q2⟩) (by assumption) ?rest2q2
  case hy2q2 => (intro w hSw; (try dsimp only at hSw); go_simp <;> with_reducible rfl)
  try simp only [Act.put, List.getElem_toArray, List.getElem_cons_zero, List.getElem_cons_succ, List.setIfInBounds_toArray, List.set_cons_zero, List.set_cons_succ]
  refine wpAnyE_take (i := 3) (v := ?v3q2) rfl (by kernel_rfl) (by kernel_rfl) (by kernel_rfl) (by kernel_rfl) (fun _ _ _ h => h) (Or.inl ⟨by rfl, ?hy3q2⟩) (by assumption) ?rest3q2
  case hy3q2 => (intro w hSw; (try dsimp only at hSw); go_simp <;> with_reducible rfl)
  try simp only [Act.put, List.getElem_toArray, List.getElem_cons_zero, List.getElem_cons_succ, List.setIfInBounds_toArray, List.set_cons_zero, List.set_cons_succ]
  refine wpAnyE_next (i := 1) (by kernel_rfl) rfl (fun K hK => ?_)
  go_simp
  go_at_call 23
  refine (hsz _).mono ?_
  rintro e w4 ⟨rfl, hb4⟩
  have hbl : Below w3.heap.size w3 w4 := ⟨hb4.os, hb4.tape, hb4.output, hb4.size, hb4.block⟩
  have h00 := HB0.out.below hbl HB0.out.lt
  have h10 := HB1.out.below hbl HB1.out.lt
  have h20 := HB2.out.below hbl HB2.out.lt
  have hO4 := HO3.out.below hbl
  have hW4 := HW3.out.trans (hbl.mono HW3.out.size)
  have HL4 : Hid (w.heap.size + 2 < w4.heap.size) := h20.lt
  have HO4 := Lib.hid hO4
  have HW4 := Lib.hid hW4
  clear hb4 hbl HB0 HB1 HB2 HO3 HW3 d1 d2 d3 d4 hO4 hW4 HL3
  go_simp
  refine hK.out _ _ ⟨h00.cell (j := 1) rfl, h10.cell (j := 0) rfl, h10.cell (j := 1) rfl, h10.cell (j := 2) rfl⟩ (fun hHeld => ?_)
  clear hK K
  try simp only [Act.put, List.getElem_toArray, List.getElem_cons_zero, List.getElem_cons_succ, List.setIfInBounds_toArray, List.set_cons_zero, List.set_cons_succ]
  refine wpAnyE_last (by kernel_rfl) rfl (by kernel_rfl) (fun K hK => ?_)
  have p0 := h00.cell (j := 0) rfl
  have p1 := h00.cell (j := 1) rfl
  have z0 := h00.thawed 0
  have q0 := h20.cell (j := 0) rfl
  have q1 := h20.cell (j := 1) rfl
  have y0 := h20.thawed 0
  have y1 := h20.thawed 1
  have b0 := h10.cell (j := 0) rfl
  have b1 := h10.cell (j := 1) rfl
  have HB0 := Lib.hid h00
  have HB2 := Lib.hid h20
  clear h00 h10 h20 hHeld
  by_cases hgt : M < sz f
  · have hgi : (M : Int) < (sz f : Int) := by omega
    have hRV : Hid (raddL M f R = V) := by show _ = _; rw [hRA.out, if_pos hgt]
    clear hgt hRA
    go_simp
    refine hK.out _ _ ?_
    clear hK K
    try simp only [Act.put, List.getElem_toArray, List.getElem_cons_zero, List.getElem_cons_succ, List.setIfInBounds_toArray, List.set_cons_zero, List.set_cons_succ]
    go_wp2_with fail
    have hn : ∀ (j : Nat), j < w1.heap.size → (Value.slice A2 V.length c2).ownBlock ≠ some j := fun j hj e => by
      have := (HO4.out.lt j e).1
      omega
    have HR9 := Lib.hid ((HB2.out.stored 0 (.slice A2 V.length c2)).stored 1 (.int .i64 (M : Int)))
    have HO9 := Lib.hid ((HO4.out.setCell (a := ⟨w.heap.size + 1 + 1, 0, none⟩) (hn _ HL1.out) (.slice A2 V.length c2)).setCell (a := ⟨w.heap.size + 1 + 1, 1, none⟩) (hn _ HL1.out) (.int .i64 (M : Int)))
    have HW9 := Lib.hid ((HW4.out.setCell (p := ⟨w.heap.size + 1 + 1, 0, none⟩) (by simp; omega) (.slice A2 V.length c2)).setCell (p := ⟨w.heap.size + 1 + 1, 1, none⟩) (by simp; omega) (.int .i64 (M : Int)))
    refine bodyPost_ret (ret_T rfl _ _ (w.heap.size + 2) _ rfl HR9.out rfl) rfl ?_
    rw [hRV.out]
    refine ⟨A2, c2, rfl, (HO9.out.up).imp fun g hg _ => ⟨by omega, hg.2⟩, hc2, HW9.out⟩
  · have hgi : decide (M < sz f) = false := by simp; omega
    have hRV : Hid (raddL M f R = bare f :: V) := by show _ = _; rw [hRA.out, if_neg hgt]
    clear hgt hRA
    go_simp
    refine hK.out _ _ ?_
    clear hK K
    try simp only [Act.put, List.getElem_toArray, List.getElem_cons_zero, List.getElem_cons_succ, List.setIfInBounds_toArray, List.set_cons_zero, List.set_cons_succ]
    have hVb : V.length ≤ 134217728 := by omega
    have p00 := (World.cell?_alloc_lt w4 (.cells #[.string ⟨f.nm.toArray⟩, .string ⟨f.vl.toArray⟩, .bool false] 52) ⟨w.heap.size, 0, none⟩ (World.block_lt_of_cell? _ _ p0)).trans p0
    have HLt := Lib.hid (OwS.lit (base := w4.heap.size) w4 52 3 1 #[.string ⟨f.nm.toArray⟩, .string ⟨f.vl.toArray⟩, .bool false] rfl (by simp [maxLen]) (Nat.le_refl _))
    have HSr := Lib.hid ((HO4.out.alloc (.cells #[.string ⟨f.nm.toArray⟩, .string ⟨f.vl.toArray⟩, .bool false] 52)).reads)
    have hstep : Hid (∀ w5, (w4.alloc (.cells #[.string ⟨f.nm.toArray⟩, .string ⟨f.vl.toArray⟩, .bool false] 52)).grownBy w5 (Value.slice (some ⟨w4.heap.size, 0, none⟩) 1 1).ownBlock → Below w4.heap.size w4 w5) := by
      show ∀ _, _ → _
      intro w5 hg
      refine ⟨hg.os, hg.tape, hg.output, ?_, fun k hk => (hg.block k ?_ ?_).trans (Below.heap_alloc w4 _ k hk)⟩
      · have := hg.size
        simp at this
        omega
      · simp
        omega
      · intro e
        simp [Value.ownBlock] at e
        omega
    go_wp2_with (at_builtin; go_loud (refine wpList_appS_any rfl (.tmp 25) (.tmp 27) 31 rfl w4.heap.size 52 i0 _ 3 40 Try.underlying31 hi0 hz0 hz1 hz2 rfl (by omega) (.slice (some ⟨w4.heap.size, 0, none⟩) 1 1) 1 [.string ⟨f.nm.toArray⟩, .string ⟨f.vl.toArray⟩, .bool false] rfl HLt.out _ A2 V.length c2 (enl fdc V) rfl (enl_length fdc_len V) HSr.out (enl_oneCell fdc_one V) (by simp only [maxLen]; omega) (by omega) (by simp) ?_; intro A5 c5 w5 hO5 hg5 hb5; have hb45 := hstep.out w5 hg5; have h05 := HB0.out.below hb45 HB0.out.lt; have h25 := HB2.out.below hb45 HB2.out.lt; have r0 := h05.cell (j := 0) rfl; have r1 := h05.cell (j := 1) rfl; have s0 := h25.cell (j := 0) rfl; have s1 := h25.cell (j := 1) rfl; have y00 := h05.thawed 0; have y20 := h25.thawed 0; have y21 := h25.thawed 1; clear hg5))
    all_goals
      have hz5 : w.heap.size + 2 < w5.heap.size := h25.lt
      have hn : ∀ (j : Nat), j < w4.heap.size → (Value.slice A5 (1 + V.length) c5).ownBlock ≠ some j := fun j hj e => by
        have := (hO5.lt j e).1
        omega
      have hl4 := HL4.out
      have HR9 := Lib.hid (((h25.stored' (a := ⟨w.heap.size, 0, none⟩) (by simp) (.slice A5 (1 + V.length) c5)).stored 0 (.slice A5 (1 + V.length) c5)).stored 1 (.int .i64 (M : Int)))
      have HO9 := Lib.hid (((hO5.setCell (a := ⟨w.heap.size, 0, none⟩) (hn _ (by simp; omega)) (.slice A5 (1 + V.length) c5)).setCell (a := ⟨w.heap.size + 1 + 1, 0, none⟩) (hn _ (by simp; omega)) (.slice A5 (1 + V.length) c5)).setCell (a := ⟨w.heap.size + 1 + 1, 1, none⟩) (hn _ (by simp; omega)) (.int .i64 (M : Int)))
      have HW5 := HW4.out.trans (hb45.mono HW4.out.size)
      have HW9 := Lib.hid (((HW5.setCell (p := ⟨w.heap.size, 0, none⟩) (by simp) (.slice A5 (1 + V.length) c5)).setCell (p := ⟨w.heap.size + 1 + 1, 0, none⟩) (by simp; omega) (.slice A5 (1 + V.length) c5)).setCell (p := ⟨w.heap.size + 1 + 1, 1, none⟩) (by simp; omega) (.int .i64 (M : Int)))
      have hc5 : 1 + V.length ≤ c5 := by
        obtain ⟨_, _, e, h, _⟩ := hO5.shape
        injection e with _ _ e
        omega
      refine bodyPost_ret (ret_T rfl _ _ (w.heap.size + 2) _ rfl HR9.out rfl) rfl ?_
      rw [hRV.out]
      have e : 1 + V.length = (bare f :: V).length := by rw [List.length_cons]; omega
      refine ⟨A5, c5, by unfold tv; rw [← e]; rfl, ?_, by rw [← e]; exact hc5, HW9.out⟩
      have := HO9.out.up
      exact this.imp fun g hg _ => ⟨by have := HW4.out.size; omega, hg.2⟩

/-- The document's, of another most. -/
theorem rlimit_any {w : World} {A : Option Addr} {c : Nat} {R : List Fd} {M : Nat} (m : Nat) (hm : m < 4294967296) (hR : RdS w (· < w.heap.size) A (enl fdc R)) (hL : tot R ≤ 4294967296) (hs : ∀ f ∈ R, sz f ≤ 2147483648) (hc : R.length ≤ c) :
    Calls Try.prog 33 #[tv A R.length c M, .int .i64 (m : Int)] w (MadeT w (wit (m : Int) 0 R) m) := by
  have hwi := fun (W : World) (h : RdS W (· < W.heap.size) A (enl fdc R)) => within_any (w := W) (c := c) (M := (m : Int)) (m : Int) (by omega) (by omega) h hL hs hc
  generalize wit (m : Int) 0 R = V at *
  unfold tv at *
  go_enter Try.func33, Try.ntmps33
  go_wp2_with fail
  have hb : Below w.heap.size w ((w.alloc (.cells #[.slice A R.length c, .int .i64 (m : Int)] 33)).alloc (.cells #[.slice none 0 0, .int .i64 0] 33)) := ((Below.refl _ _).alloc (Nat.le_refl _) _).alloc (by simp) _
  have hB1 : Row ((w.alloc (.cells #[.slice A R.length c, .int .i64 (m : Int)] 33)).alloc (.cells #[.slice none 0 0, .int .i64 0] 33)) (w.heap.size + 1) 33 #[.slice none 0 0, .int .i64 0] := Row.made _ _ _ (by simp)
  refine (hwi _ (hR.up hb)).mono ?_
  rintro e w2 ⟨A2, c2, rfl, hO2, hc2, hb2⟩
  have h12 := hB1.below hb2 hB1.lt
  have HL : Hid (w.heap.size + 2 ≤ ((w.alloc (.cells #[.slice A R.length c, .int .i64 (m : Int)] 33)).alloc (.cells #[.slice none 0 0, .int .i64 0] 33)).heap.size) := by show _ ≤ _; simp
  have HW := Lib.hid (hb.trans (hb2.mono hb.size))
  have HO := Lib.hid hO2
  clear hb hB1 hb2 hO2 hwi
  have q0 := h12.cell (j := 0) rfl
  have q1 := h12.cell (j := 1) rfl
  have y0 := h12.thawed 0
  have y1 := h12.thawed 1
  go_wp2_with fail
  have hn : ∀ (j : Nat), j < w.heap.size + 2 → (Value.slice A2 V.length c2).ownBlock ≠ some j := fun j hj e => by
    have := (HO.out.lt j e).1
    have := HL.out
    omega
  have HR9 := Lib.hid ((h12.stored 0 (.slice A2 V.length c2)).stored 1 (.int .i64 (m : Int)))
  have HO9 := Lib.hid ((HO.out.setCell (a := ⟨w.heap.size + 1, 0, none⟩) (hn _ (by simp)) (.slice A2 V.length c2)).setCell (a := ⟨w.heap.size + 1, 1, none⟩) (hn _ (by simp)) (.int .i64 (m : Int)))
  have HW9 := Lib.hid ((HW.out.setCell (p := ⟨w.heap.size + 1, 0, none⟩) (by simp) (.slice A2 V.length c2)).setCell (p := ⟨w.heap.size + 1, 1, none⟩) (by simp) (.int .i64 (m : Int)))
  refine bodyPost_ret (ret_T rfl _ _ (w.heap.size + 1) _ rfl HR9.out rfl) rfl ?_
  refine ⟨A2, c2, rfl, (HO9.out.up).imp fun g hg _ => ⟨by have := HL.out; omega, hg.2⟩, hc2, HW9.out⟩
end Go.Proofs.Ytfajffchnnalaaa

namespace Go.Proofs.Ytfajffchnnalaaa
open Go.RowKit Go.WideShapes

def rtabF (j : Nat) : Value := if j % 2 = 0 then tx (nmL (j / 2)) else tx (vlL (j / 2))
def rtabC : Array Value := rowF 122 rtabF
theorem rtab_even {k : Nat} (h : k < 61) : rtabC[2 * k]? = some (tx (nmL k)) := by
  unfold rtabC
  rw [rowF_at _ (by omega)]
  unfold rtabF
  rw [if_pos (by omega), show 2 * k / 2 = k by omega]
theorem rtab_odd {k : Nat} (h : k < 61) : rtabC[2 * k + 1]? = some (tx (vlL k)) := by
  unfold rtabC
  rw [rowF_at _ (by omega)]
  unfold rtabF
  rw [if_neg (by omega), show (2 * k + 1) / 2 = k by omega]
theorem tstr_info : (Try.prog.info? 9).map (fun i => (i.zero, i.size)) = some (some (.string ⟨#[]⟩), 1) := by kernel_rfl
theorem tstr_parts : ∃ i, Try.prog.info? 9 = some i ∧ i.zero = some (.string ⟨#[]⟩) ∧ i.size = 1 := by
  cases hi : Try.prog.info? 9 with
  | none => have := tstr_info; rw [hi] at this; simp at this
  | some i => have := tstr_info; rw [hi] at this; simp at this; exact ⟨i, rfl, this.1, this.2⟩

set_option maxRecDepth 100000 in
set_option maxHeartbeats 1000000 in
theorem rtable_any (w : World) : Calls Try.prog 76 #[] w fun e w' => e = .returned (.slice (some ⟨w.heap.size, 0, none⟩) 122 122) ∧ w' = w.alloc (.cells rtabC 9) := by
  obtain ⟨i0, hi0, hz0, hs0⟩ := tstr_parts
  go_enter Try.func76, Try.ntmps76
  go_wp2_with (refine wpList_buildSlice_is rfl 120 9 122 _ rfl Try.underlying120 i0 hi0 _ hz0 hs0 (by omega) (by omega) rtabC (by kernel_rfl) ?_)
  go_ret
  exact ⟨rfl, rfl⟩
end Go.Proofs.Ytfajffchnnalaaa

namespace Go.Proofs.Ytfajffchnnalaaa
open Go.RowKit Go.WideShapes

attribute [local irreducible] first fndN fndB isN isB nmL vlL tab rtabC

set_option maxRecDepth 100000 in
set_option maxHeartbeats 1000000 in
theorem rat_no (n : Int) (hn : n < 1 ∨ 61 < n) (w : World) : Calls Try.prog 66 #[.int .i64 n] w fun e w' => e = .returned (.tuple #[tx [], tx [], .bool false]) ∧ Below w.heap.size w w' := by
  have hs : n < 1 ∨ (decide (n < 1) = false ∧ (61 : Int) < n) := by
    by_cases h : n < 1
    · exact .inl h
    · exact .inr ⟨by simpa using h, by omega⟩
  clear hn
  unfold tx
  rcases hs with h | ⟨h, h'⟩
  all_goals
    go_enter Try.func66, Try.ntmps66
    go_wp2_with fail
    refine (rtable_any _).mono ?_
    rintro e w1 ⟨rfl, rfl⟩
    go_wp2_with fail
    go_ret3
    exact ⟨rfl, (Below.refl _ _).alloc (Nat.le_refl _) _⟩

set_option maxRecDepth 100000 in
set_option maxHeartbeats 1000000 in
theorem rat_yes (k : Nat) (hk : k < 61) (w : World) : Calls Try.prog 66 #[.int .i64 ((k : Int) + 1)] w fun e w' => e = .returned (.tuple #[tx (nmL k), tx (vlL k), .bool true]) ∧ Below w.heap.size w w' := by
  have h1 : decide ((k : Int) + 1 < 1) = false := by simp; omega
  have h2 : decide ((61 : Int) < (k : Int) + 1) = false := by simp; omega
  go_enter Try.func66, Try.ntmps66
  go_wp2_with fail
  refine (rtable_any _).mono ?_
  rintro e w1 ⟨rfl, rfl⟩
  have HR := Row.new w 9 rtabC
  have hc1 := HR.cell (rtab_even hk)
  have hc2 := HR.cell (rtab_odd hk)
  have HB : Below w.heap.size w (w.alloc (.cells rtabC 9)) := (Below.refl _ _).alloc (Nat.le_refl _) _
  have m1 : (2 : Int) * ((k : Int) + 1) - 2 = ((2 * k : Nat) : Int) := by omega
  have m2 : (2 : Int) * ((k : Int) + 1) - 1 = ((2 * k + 1 : Nat) : Int) := by omega
  generalize w.alloc (.cells rtabC 9) = w1 at HR HB hc1 hc2 ⊢
  go_wp2_with fail
  go_quiet (fail)
  go_wp2_with fail
  go_ret3
  exact ⟨rfl, below_dN HB _⟩

end Go.Proofs.Ytfajffchnnalaaa

namespace Go.Proofs.Ytfajffchnnalaaa
open Go.RowKit Go.WideShapes

attribute [local irreducible] tot shr sz wit addL first fndN fndB isN isB nmL vlL tab rtabC named numT hasT isBT isNT

set_option maxRecDepth 100000 in
set_option maxHeartbeats 2000000 in
theorem rtsize_any {w : World} {A : Option Addr} {c M : Nat} {R : List Fd} (hR : RdS w (· < w.heap.size) A (enl fdc R)) (hL : tot R ≤ 4294967296) (hs : ∀ f ∈ R, sz f ≤ 2147483648) :
    Calls Try.prog 21 #[tv A R.length c M] w fun e w' => e = .returned (.int .i64 (tot R : Int)) ∧ Below w.heap.size w w' := by
  have hlen : R.length ≤ 134217728 := by have := tot_len R; omega
  unfold tv
  go_enter Try.func21, Try.ntmps21
  go_wp2_with fail
  have hB0 : Row (w.alloc (.cells #[.slice A R.length c, .int .i64 (M : Int)] 33)) w.heap.size 33 #[.slice A R.length c, .int .i64 (M : Int)] := Row.new w _ _
  have HB0 := Lib.hid hB0
  have HW := Lib.hid ((Below.refl w.heap.size w).alloc (Nat.le_refl _) (.cells #[.slice A R.length c, .int .i64 (M : Int)] 33))
  clear hB0
  generalize w.alloc (.cells #[.slice A R.length c, .int .i64 (M : Int)] 33) = w0 at *
  go_loopw [3, 8] (fun n i wr => ∃ (k T : Nat), k ≤ R.length ∧ i = .int .i64 k ∧ n = .int .i64 T ∧ Hid (T = tot (R.take k)) ∧ Hid (Row wr w.heap.size 33 #[.slice A R.length c, .int .i64 (M : Int)]) ∧ Hid (Below w.heap.size w wr))
    (fun _ i _ => R.length - (intOf i).toNat)
  case atStart => exact ⟨0, 0, Nat.zero_le _, rfl, rfl, by show _ = _; rw [List.take_zero, tot_nil0], HB0, HW⟩
  case round =>
    clear HB0 HW
    obtain ⟨k, T, hk, rfl, rfl, hT, hB0, hW⟩ := hrel
    by_cases hlt : k < R.length
    · obtain ⟨b, q, rfl, hb, f0, f1, f2⟩ := (hR.below hW.out).field hlt
      have c0 := hB0.out.cell (j := 0) rfl
      have hsz := rsize_any R[k] (hs _ (List.getElem_mem hlt))
      have htd := tot_take hlt
      have hT0 := tot_take_le R (k + 1)
      rw [← hT.out] at htd
      have HTD := Lib.hid htd
      have hTb : T + sz R[k] ≤ 4294967296 := by omega
      unfold fv tx at hsz
      unfold tx at f0 f1
      generalize R[k].nm = x at *
      generalize R[k].vl = y at *
      generalize R[k].nv = z at *
      generalize sz R[k] = Z at *
      clear htd hT0
      go_wp2_with fail
      refine (hsz _).mono ?_
      rintro e w2 ⟨rfl, hb2⟩
      have hB2 := Lib.hid (hB0.out.below hb2 hB0.out.lt)
      have hW2 := Lib.hid (hW.out.trans (hb2.mono hW.out.size))
      clear hb2
      go_wp2_with fail
      go_roundw
      case rel => exact ⟨k + 1, T + Z, by omega, by go_num, by go_num, HTD.out.symm, hB2, hW2⟩
      case measure => simp [intOf]; omega
    · obtain rfl : k = R.length := by omega
      have hE : Hid (T = tot R) := by
        show _ = _
        have := hT.out
        rwa [List.take_of_length_le (Nat.le_refl _)] at this
      go_wp2_with fail
      go_ret
      refine ⟨?_, hW.out⟩
      rw [← hE.out]
      rfl

set_option maxRecDepth 100000 in
set_option maxHeartbeats 2000000 in
theorem rtat_known {w : World} {A : Option Addr} {n c M : Nat} (k : Nat) (hk : k < 61) : Calls Try.prog 51 #[tv A n c M, .int .i64 ((k : Int) + 1)] w fun e w' => e = .returned (.tuple #[.agg #[tx (nmL k), tx (vlL k), .bool false], .bool true]) ∧ Below w.heap.size w w' := by
  have hat := rat_yes k hk
  unfold tv tx at *
  generalize nmL k = x at hat ⊢
  generalize vlL k = y at hat ⊢
  go_enter Try.func51, Try.ntmps51
  go_wp2_with fail
  refine (hat _).mono ?_
  rintro e w2 ⟨rfl, hb2⟩
  have HR := (Row.made (g := w.heap.size + 1) (w.alloc (.cells #[.slice A n c, .int .i64 (M : Int)] 33)) 52 #[.string ⟨#[]⟩, .string ⟨#[]⟩, .bool false] (by simp)).below hb2 (by simp)
  have HB := Lib.hid ((((Below.refl w.heap.size w).alloc (Nat.le_refl _) _).alloc (by simp) _).trans (hb2.mono (by simp; omega)))
  clear hb2 hat
  go_wp2_with (refine wpList_store_row rfl 52 (.tmp 4) (.tmp 18) rfl (w.heap.size + 1) #[.string ⟨x.toArray⟩, .string ⟨y.toArray⟩, .bool false] rfl rfl 52 _ HR (field_cells _ rfl) rfl (by kernel_rfl) ?_)
  refine bodyPost_ret (ret_field rfl _ _ (w.heap.size + 1) _ rfl (HR.setRow _) rfl) rfl ⟨rfl, below_setRow HB.out _ _ (by omega)⟩

set_option maxRecDepth 100000 in
set_option maxHeartbeats 2000000 in
theorem rtat_low {w : World} {A : Option Addr} {m c M : Nat} (n : Int) (hn : n < 1) : Calls Try.prog 51 #[tv A m c M, .int .i64 n] w fun e w' => e = .returned (.tuple #[fv0, .bool false]) ∧ Below w.heap.size w w' := by
  have hat := rat_no n (.inl hn)
  have hle : n < 62 := by omega
  unfold fv0 tv tx at *
  go_enter Try.func51, Try.ntmps51
  go_wp2_with fail
  refine (hat _).mono ?_
  rintro e w2 ⟨rfl, hb2⟩
  have HR := (Row.made (g := w.heap.size + 1) (w.alloc (.cells #[.slice A m c, .int .i64 (M : Int)] 33)) 52 #[.string ⟨#[]⟩, .string ⟨#[]⟩, .bool false] (by simp)).below hb2 (by simp)
  have HB := Lib.hid ((((Below.refl w.heap.size w).alloc (Nat.le_refl _) _).alloc (by simp) _).trans (hb2.mono (by simp; omega)))
  clear hb2 hat
  go_wp2_with (refine wpList_store_row rfl 52 (.tmp 4) (.tmp 29) rfl (w.heap.size + 1) #[.string ⟨#[]⟩, .string ⟨#[]⟩, .bool false] rfl rfl 52 _ HR (field_cells _ rfl) rfl (by kernel_rfl) ?_)
  refine bodyPost_ret (ret_field rfl _ _ (w.heap.size + 1) _ rfl (HR.setRow _) rfl) rfl ⟨rfl, below_setRow HB.out _ _ (by omega)⟩

set_option maxRecDepth 100000 in
set_option maxHeartbeats 2000000 in
theorem rtat_far {w : World} {A : Option Addr} {m c M : Nat} (n : Int) (hn : 62 + (m : Int) ≤ n) (hn2 : n ≤ 9223372036854775807) : Calls Try.prog 51 #[tv A m c M, .int .i64 n] w fun e w' => e = .returned (.tuple #[fv0, .bool false]) ∧ Below w.heap.size w w' := by
  have hat := rat_no n (.inr (by omega))
  have hle : decide (n < 62) = false := by simp; omega
  have hge : (m : Int) ≤ n - 62 := by omega
  unfold fv0 tv tx at *
  go_enter Try.func51, Try.ntmps51
  go_wp2_with fail
  refine (hat _).mono ?_
  rintro e w2 ⟨rfl, hb2⟩
  have HR := (Row.made (g := w.heap.size + 1) (w.alloc (.cells #[.slice A m c, .int .i64 (M : Int)] 33)) 52 #[.string ⟨#[]⟩, .string ⟨#[]⟩, .bool false] (by simp)).below hb2 (by simp)
  have HRT := ((Row.new w 33 #[.slice A m c, .int .i64 (M : Int)]).alloc (.cells #[.string ⟨#[]⟩, .string ⟨#[]⟩, .bool false] 52)).below hb2 (by simp; omega)
  have c0 := HRT.cell (j := 0) rfl
  have HB := Lib.hid ((((Below.refl w.heap.size w).alloc (Nat.le_refl _) _).alloc (by simp) _).trans (hb2.mono (by simp; omega)))
  clear hb2 hat HRT
  go_wp2_with (refine wpList_store_row rfl 52 (.tmp 4) (.tmp 29) rfl (w.heap.size + 1) #[.string ⟨#[]⟩, .string ⟨#[]⟩, .bool false] rfl rfl 52 _ HR (field_cells _ rfl) rfl (by kernel_rfl) ?_)
  refine bodyPost_ret (ret_field rfl _ _ (w.heap.size + 1) _ rfl (HR.setRow _) rfl) rfl ⟨rfl, below_setRow HB.out _ _ (by omega)⟩

set_option maxRecDepth 100000 in
set_option maxHeartbeats 2000000 in
theorem rtat_dyn {w : World} {A : Option Addr} {c M : Nat} {R : List Fd} (hR : RdS w (· < w.heap.size) A (enl fdc R)) (i : Nat) (hi : i < R.length) (hL : R.length ≤ 2147483648) :
    Calls Try.prog 51 #[tv A R.length c M, .int .i64 (62 + (i : Int))] w fun e w' => e = .returned (.tuple #[fv R[i], .bool true]) ∧ Below w.heap.size w w' := by
  have hat := rat_no (62 + (i : Int)) (.inr (by omega))
  have hle : decide ((62 : Int) + i < 62) = false := by simp; omega
  have hge : decide ((R.length : Int) ≤ 62 + (i : Int) - 62) = false := by simp; omega
  have hsb : (62 : Int) + i - 62 = (i : Int) := by omega
  have hi0 : (0 : Int) ≤ (i : Int) := by omega
  have hi1 : (i : Int) < (R.length : Int) := by omega
  obtain ⟨b, q, rfl, hb, e0, e1, e2⟩ := hR.field hi
  unfold fv tv tx at *
  generalize R[i].nm = x at e0 ⊢
  generalize R[i].vl = y at e1 ⊢
  generalize R[i].nv = z at e2 ⊢
  go_enter Try.func51, Try.ntmps51
  go_wp2_with fail
  refine (hat _).mono ?_
  rintro e w2 ⟨rfl, hb2⟩
  have HR := (Row.made (g := w.heap.size + 1) (w.alloc (.cells #[.slice (some ⟨b, q, none⟩) R.length c, .int .i64 (M : Int)] 33)) 52 #[.string ⟨#[]⟩, .string ⟨#[]⟩, .bool false] (by simp)).below hb2 (by simp)
  have HRT := ((Row.new w 33 #[.slice (some ⟨b, q, none⟩) R.length c, .int .i64 (M : Int)]).alloc (.cells #[.string ⟨#[]⟩, .string ⟨#[]⟩, .bool false] 52)).below hb2 (by simp; omega)
  have c0 := HRT.cell (j := 0) rfl
  have hB := (((Below.refl w.heap.size w).alloc (Nat.le_refl _) _).alloc (by simp) _).trans (hb2.mono (by simp; omega))
  have f0 := (hB.cell (p := ⟨b, q + i * 3, none⟩) hb).trans e0
  have f1 := (hB.cell (p := ⟨b, q + i * 3 + 1, none⟩) hb).trans e1
  have f2 := (hB.cell (p := ⟨b, q + i * 3 + 2, none⟩) hb).trans e2
  have HB := Lib.hid hB
  clear hb2 hat HRT hB e0 e1 e2
  go_wp2_with (refine wpList_store_row rfl 52 (.tmp 4) (.tmp 35) rfl (w.heap.size + 1) #[.string ⟨x.toArray⟩, .string ⟨y.toArray⟩, .bool z] rfl rfl 52 _ HR (field_cells _ rfl) rfl (by kernel_rfl) ?_)
  refine bodyPost_ret (ret_field rfl _ _ (w.heap.size + 1) _ rfl (HR.setRow _) rfl) rfl ⟨rfl, below_setRow HB.out _ _ (by omega)⟩

theorem firstS {p : Nat → Bool} {n k : Nat} (h0 : first p k = 0) (h1 : p k = true) (hk : k < n) : first p n = k + 1 := by
  have h2 := first_hit h0 h1
  have h3 := first_more (p := p) (k := k + 1) (m := n) (by omega) (by omega)
  omega

end Go.Proofs.Ytfajffchnnalaaa
