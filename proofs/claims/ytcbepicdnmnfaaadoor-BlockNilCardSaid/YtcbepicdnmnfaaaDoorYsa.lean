/-
  same: what a gatherer told and what the document's told, held against each other. Condition: the block is read; the fault's code is small.
-/
import Derived.Test.YtcbepicdnmnfaaaDoorYta
import Derived.Test.YtcbepicdnmnfaaaDoorYrh
namespace Go.Proofs.YtcbepicdnmnfaaaDoor
open Go.RowKit Go.WideShapes

theorem sa_vars (w : World) (cs ds es : Array Value) : ∃ w', ((w.alloc (.cells cs 34)).alloc (.cells ds 36)).alloc (.cells es 28) = w' ∧ Row w' w.heap.size 34 cs ∧ Row w' (w.heap.size + 1) 36 ds ∧ Row w' (w.heap.size + 2) 28 es ∧ Below w.heap.size w w' ∧ w'.heap.size = w.heap.size + 3 :=
  ⟨_, rfl, ((Row.new w _ _).alloc _).alloc _, (Row.made _ _ _ (by simp)).alloc _, Row.made _ _ _ (by simp), (((Below.refl _ _).alloc (Nat.le_refl _) _).alloc (by simp) _).alloc (by simp; omega) _, by simp⟩
theorem wh_cells {w : World} {g st : Nat} {A : Option Addr} {n c : Nat} {en : Bool} (h : Row w g 34 (whc st A n c en)) : w.cell? ⟨g, 0, none⟩ = some (.int .u32 st) ∧ w.cell? ⟨g, 1, none⟩ = some (.slice A n c) ∧ w.cell? ⟨g, 2, none⟩ = some (.bool en) := ⟨h.cell rfl, h.cell rfl, h.cell rfl⟩
theorem ft_same (s c : Int) (W : World) : (binOp .neq 36 (.agg (ftc s c)) (.agg (ftc s c))).run Tryd.prog W = .ok (.bool false) W := (ft_neq s c s c W).trans (by simp)
theorem ftb_0 : ftb 0 = ftc 0 0 := rfl
theorem ftb_s {b : Nat} (h : b ≠ 0) : ftb b = ftc 1 b := by unfold ftb; rw [if_neg h]
attribute [local irreducible] whc rgc ftc
set_option maxRecDepth 100000 in
set_option maxHeartbeats 4000000 in
theorem same_none (W : Gm) (ok : Bool)  {A : Option Addr} {c : Nat} {w : World} (hD : RdB w w.heap.size A W.blk) :
    Calls Tryd.prog 10 #[.agg (whc W.st A W.blk.length c W.en), .bool ok, .agg (ftc 0 0), .agg (rgc W), .bool ok, .int .i64 0] w fun e w' => e = .returned (.bool true) ∧ Below w.heap.size w w' := by
  obtain ⟨w1, hw1, t1, t2, t3, t4, t5⟩ := sa_vars w (whc W.st A W.blk.length c W.en) (ftc 0 0) (rgc W)
  obtain ⟨w2, hw2, u1, u2, u3⟩ := one_fault w1 0 0
  have T7 := Lib.hid hw1
  have U7 := Lib.hid hw2
  have U1 := Lib.hid u1
  have UF : Hid (Row w2 (w.heap.size + 3) 36 (ftc 0 0)) := by
    have := u2
    rw [t5] at this
    exact this
  have RW := Lib.hid (t1.below u3 t1.lt)
  have RF := Lib.hid (t2.below u3 t2.lt)
  have RG := Lib.hid (t3.below u3 t3.lt)
  have HB := Lib.hid (t4.trans (u3.mono t4.size))
  have HD : Hid (RdB w2 w.heap.size A W.blk) := (hD.below t4).below (u3.mono t4.size)
  have HN : Hid (w1.heap.size = w.heap.size + 3) := t5
  clear hw1 hw2 t1 t2 t3 t4 t5 u1 u2 u3 hD
  skip
  go_enter Tryd.func10, Tryd.ntmps10
  go_upto_region 1 with fail
  rw [T7.out]
  go_upto_region 2 with (first | (refine wpList_build_is rfl 36 _ rfl (ftc 0 0) (by kernel_rfl) ?_) | (refine wpList_sw (cs := ftc 0 0) rfl _ _ rfl rfl rfl U1.out (ft_sz _ _ _ _) (ft_ok _ _) ?_))
  rw [U7.out]
  rw [HN.out]
  clear T7 U7 U1 HN
  generalize hp : w.heap.size = p at *
  have HP := Lib.hid hp
  clear hp
  obtain ⟨a0, a1, a2⟩ := wh_cells RW.out
  obtain ⟨_, g1, g2, g3, _, _⟩ := rg_cells RG.out
  have hq := ft_same 0 0
  have htxt : (convert 29 9 (.slice A W.blk.length c)).run Tryd.prog w2 = .ok (.string (tb W.blk)) w2 := run_text Tryd.underlying29 Tryd.underlying5 Tryd.underlying9 HD.out
  have e1 : (ok != ok) = false := by simp
  have e2 : ((tb W.blk).toList == (tb W.blk).toList) = true := by simp
  have e3 : (W.en == W.en) = true := by simp
  have e4 : (((W.st : Nat) : Int) == ((W.st : Nat) : Int)) = true := by simp
  go_wp2_with (first | (refine wpList_ldg (by rfl) _ rfl rfl RF.out (ft_ok _ _) ?_) | (refine wpList_ldg (by rfl) _ rfl rfl UF.out (ft_ok _ _) ?_))
  go_ret
  exact ⟨rfl, by rw [HP.out]; exact HB.out⟩
set_option maxRecDepth 100000 in
set_option maxHeartbeats 4000000 in
theorem same_some (W : Gm) (ok : Bool) (b : Nat) (hb : b ≠ 0) (hb1 : b ≤ 11) {A : Option Addr} {c : Nat} {w : World} (hD : RdB w w.heap.size A W.blk) :
    Calls Tryd.prog 10 #[.agg (whc W.st A W.blk.length c W.en), .bool ok, .agg (ftc 1 b), .agg (rgc W), .bool ok, .int .i64 b] w fun e w' => e = .returned (.bool true) ∧ Below w.heap.size w w' := by
  obtain ⟨w1, hw1, t1, t2, t3, t4, t5⟩ := sa_vars w (whc W.st A W.blk.length c W.en) (ftc 1 b) (rgc W)
  obtain ⟨w2, hw2, u1, u2, u3⟩ := one_fault w1 0 0
  have T7 := Lib.hid hw1
  have U7 := Lib.hid hw2
  have U1 := Lib.hid u1
  have UF : Hid (Row w2 (w.heap.size + 3) 36 (ftc 0 0)) := by
    have := u2
    rw [t5] at this
    exact this
  have RW := Lib.hid (t1.below u3 t1.lt)
  have RF := Lib.hid (t2.below u3 t2.lt)
  have RG := Lib.hid (t3.below u3 t3.lt)
  have HB := Lib.hid (t4.trans (u3.mono t4.size))
  have HD : Hid (RdB w2 w.heap.size A W.blk) := (hD.below t4).below (u3.mono t4.size)
  have HN : Hid (w1.heap.size = w.heap.size + 3) := t5
  clear hw1 hw2 t1 t2 t3 t4 t5 u1 u2 u3 hD
  have eb : ((b : Int) != 0) = true := bne_iff_ne.2 (by omega)
  have hwb : IntKind.u32.wrap (b : Int) = (b : Int) := IntWalk.u32_in _ (by omega)
  clear hb hb1
  go_enter Tryd.func10, Tryd.ntmps10
  go_upto_region 1 with fail
  rw [T7.out]
  go_upto_region 2 with (first | (refine wpList_build_is rfl 36 _ rfl (ftc 0 0) (by kernel_rfl) ?_) | (refine wpList_sw (cs := ftc 0 0) rfl _ _ rfl rfl rfl U1.out (ft_sz _ _ _ _) (ft_ok _ _) ?_))
  rw [U7.out]
  rw [HN.out]
  clear T7 U7 U1 HN
  generalize hp : w.heap.size = p at *
  have HP := Lib.hid hp
  clear hp
  have UF3 := Lib.hid (UF.out.setRow (ftc 1 b))
  have RW3 := Lib.hid (RW.out.row_far (b := p) (k := p + 3) (by omega) (ftc 1 b))
  have RF3 := Lib.hid (RF.out.row_far (b := p + 1) (k := p + 3) (by omega) (ftc 1 b))
  have RG3 := Lib.hid (RG.out.row_far (b := p + 2) (k := p + 3) (by omega) (ftc 1 b))
  have HB3 := Lib.hid (below_setRow HB.out (p + 3) (ftc 1 b) (by omega))
  have HD3 : Hid (RdB (w2.setRow (p + 3) (ftc 1 b)) p A W.blk) := HD.out.below (below_setRow (Below.refl p w2) (p + 3) (ftc 1 b) (by omega))
  go_upto_region 4 with (first | (refine wpList_build_is rfl 36 _ rfl (ftc 1 b) (by kernel_rfl) ?_) | (refine wpList_sw (cs := ftc 1 b) rfl _ _ rfl rfl rfl UF.out (ft_sz _ _ _ _) (ft_ok _ _) ?_))
  clear UF RW RF RG HB HD eb hwb
  generalize w2.setRow (p + 3) (ftc 1 b) = w3 at *
  have UF := UF3
  have RW := RW3
  have RF := RF3
  have RG := RG3
  have HB := HB3
  have HD := HD3
  clear UF3 RW3 RF3 RG3 HB3 HD3
  obtain ⟨a0, a1, a2⟩ := wh_cells RW.out
  obtain ⟨_, g1, g2, g3, _, _⟩ := rg_cells RG.out
  have hq := ft_same 1 b
  have htxt : (convert 29 9 (.slice A W.blk.length c)).run Tryd.prog w3 = .ok (.string (tb W.blk)) w3 := run_text Tryd.underlying29 Tryd.underlying5 Tryd.underlying9 HD.out
  have e1 : (ok != ok) = false := by simp
  have e2 : ((tb W.blk).toList == (tb W.blk).toList) = true := by simp
  have e3 : (W.en == W.en) = true := by simp
  have e4 : (((W.st : Nat) : Int) == ((W.st : Nat) : Int)) = true := by simp
  go_wp2_with (first | (refine wpList_ldg (by rfl) _ rfl rfl RF.out (ft_ok _ _) ?_) | (refine wpList_ldg (by rfl) _ rfl rfl UF.out (ft_ok _ _) ?_))
  go_ret
  exact ⟨rfl, by rw [HP.out]; exact HB.out⟩
theorem same_any (W : Gm) (ok : Bool) (b : Nat) (hb : b ≤ 11) {A : Option Addr} {c : Nat} {w : World} (hD : RdB w w.heap.size A W.blk) :
    Calls Tryd.prog 10 #[.agg (whc W.st A W.blk.length c W.en), .bool ok, .agg (ftb b), .agg (rgc W), .bool ok, .int .i64 b] w fun e w' => e = .returned (.bool true) ∧ Below w.heap.size w w' := by
  by_cases h : b = 0
  · subst h
    rw [ftb_0]
    exact same_none W ok hD
  · rw [ftb_s h]
    exact same_some W ok b h hb hD
end Go.Proofs.YtcbepicdnmnfaaaDoor
