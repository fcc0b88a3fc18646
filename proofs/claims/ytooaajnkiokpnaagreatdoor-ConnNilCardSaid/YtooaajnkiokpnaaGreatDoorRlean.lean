/-
  The document's answers for frames: leans, lean, by their contracts. Conditions: those that each theorem names.
-/
import Derived.Test.YtooaajnkiokpnaaGreatDoorRnum
import Derived.Test.YtooaajnkiokpnaaGreatDoorFread
namespace Go.Proofs.YtooaajnkiokpnaaGreatDoor
open Go.RowKit Go.WideShapes

theorem text1_row {x k : Nat} (hx : x < 256) {W : World} (h : Row W k 5 #[.int .u8 (x : Int)]) : (convert 22 9 (.slice (some ⟨k, 0, none⟩) 1 1)).run Tryz.prog W = .ok (.string (tb [UInt8.ofNat x])) W := by
  have hb : (#[Value.int .u8 (x : Int)]).toList = byc [UInt8.ofNat x] := by simp [byc]; omega
  exact run_text (P := Tryz.prog) (l := [UInt8.ofNat x]) (c := 1) Tryz.underlying22 Tryz.underlying5 Tryz.underlying9 (RdB.row (B := k + 1) h hb (Nat.lt_succ_self _))
theorem text2_row {x y k : Nat} (hx : x < 256) (hy : y < 256) {W : World} (h : Row W k 5 #[.int .u8 (x : Int), .int .u8 (y : Int)]) : (convert 22 9 (.slice (some ⟨k, 0, none⟩) 2 2)).run Tryz.prog W = .ok (.string (tb [UInt8.ofNat x, UInt8.ofNat y])) W := by
  have hb : (#[Value.int .u8 (x : Int), .int .u8 (y : Int)]).toList = byc [UInt8.ofNat x, UInt8.ofNat y] := by simp [byc]; omega
  exact run_text (P := Tryz.prog) (l := [UInt8.ofNat x, UInt8.ofNat y]) (c := 2) Tryz.underlying22 Tryz.underlying5 Tryz.underlying9 (RdB.row (B := k + 1) h hb (Nat.lt_succ_self _))
section
variable {w : World} {g : Nat} {x : Fm}
theorem Fm.k0 (h : Row w g 66 x.c) : w.cell? ⟨g, 0, none⟩ = some (.int .u8 x.ty) := (fm_cells h).1
theorem Fm.k1 (h : Row w g 66 x.c) : w.cell? ⟨g, 1, none⟩ = some (.int .u8 x.fl) := (fm_cells h).2.1
theorem Fm.k2 (h : Row w g 66 x.c) : w.cell? ⟨g, 2, none⟩ = some (.int .u32 x.st) := (fm_cells h).2.2.1
theorem Fm.k3 (h : Row w g 66 x.c) : w.cell? ⟨g, 3, none⟩ = some (.slice x.dA x.dn x.dc) := (fm_cells h).2.2.2.1
theorem Fm.k4 (h : Row w g 66 x.c) : w.cell? ⟨g, 4, none⟩ = some (.int .i64 x.pad) := (fm_cells h).2.2.2.2.1
theorem Fm.k5 (h : Row w g 66 x.c) : w.cell? ⟨g, 5, none⟩ = some (.int .u32 x.code) := (fm_cells h).2.2.2.2.2.1
theorem Fm.k6 (h : Row w g 66 x.c) : w.cell? ⟨g, 6, none⟩ = some (.int .u32 x.oth) := (fm_cells h).2.2.2.2.2.2.1
theorem Fm.k7 (h : Row w g 66 x.c) : w.cell? ⟨g, 7, none⟩ = some (.int .u8 x.wt) := (fm_cells h).2.2.2.2.2.2.2.1
theorem Fm.k8 (h : Row w g 66 x.c) : w.cell? ⟨g, 8, none⟩ = some (.bool x.al) := (fm_cells h).2.2.2.2.2.2.2.2.1
theorem Fm.k9 (h : Row w g 66 x.c) : w.cell? ⟨g, 9, none⟩ = some (.int .u32 x.win) := (fm_cells h).2.2.2.2.2.2.2.2.2.1
theorem Fm.k10 (h : Row w g 66 x.c) : w.cell? ⟨g, 10, none⟩ = some (.slice x.sA x.sn x.sc) := (fm_cells h).2.2.2.2.2.2.2.2.2.2
end
attribute [local irreducible] Fm.c
set_option maxRecDepth 100000 in
set_option maxHeartbeats 1000000 in
theorem rleans_any (x : Fm) (hf : x.fl < 256) (w : World) : Calls Tryz.prog 96 #[.agg x.c] w fun e w' => e = .returned (.bool (leanB x.ty x.fl)) ∧ Below w.heap.size w w' := by
  have c0 := Fm.k0 (Row.new w 66 x.c)
  have c1 := Fm.k1 (Row.new w 66 x.c)
  have hB : Below w.heap.size w (w.alloc (.cells x.c 66)) := (Below.refl _ _).alloc (Nat.le_refl _) _
  have HB := Lib.hid hB
  clear hB
  by_cases h2 : x.ty = 2
  · rw [leanByes (.inl h2)]
    rw [h2] at c0
    go_enter Tryz.func96, Tryz.ntmps96
    go_wp2_with fail
    go_ret
    exact ⟨rfl, HB.out⟩
  have h2' : ((x.ty : Int) == 2) = false := ne_int h2
  by_cases h1 : x.ty = 1
  · rw [h1] at c0
    obtain ⟨q, hq⟩ : ∃ q, q = x.fl / 32 := ⟨_, rfl⟩
    have hqi : (x.fl : Int) / 32 = (q : Int) := by omega
    have hq8 : q < 8 := by omega
    by_cases hb : x.fl / 32 % 2 = 1
    · rw [leanByes (.inr ⟨h1, hb⟩)]
      have hqm : (q : Int) % 2 = 1 := by omega
      clear h1 h2 h2' hb hq
      go_enter Tryz.func96, Tryz.ntmps96
      go_wp2_with fail
      go_ret
      exact ⟨rfl, HB.out⟩
    · rw [leanBno (by omega)]
      have hqm : (q : Int) % 2 = 0 := by omega
      clear h1 h2 h2' hb hq
      go_enter Tryz.func96, Tryz.ntmps96
      go_wp2_with fail
      go_ret
      exact ⟨rfl, HB.out⟩
  have h1' : ((x.ty : Int) == 1) = false := ne_int h1
  rw [leanBno (by omega)]
  clear h1 h2
  go_enter Tryz.func96, Tryz.ntmps96
  go_wp2_with fail
  go_ret
  exact ⟨rfl, HB.out⟩

set_option maxRecDepth 100000 in
set_option maxHeartbeats 2000000 in
theorem rlean_any (x : Fm) (ho : x.oth < 4294967296) (hwt : x.wt < 256) (w : World) : Calls Tryz.prog 97 #[.agg x.c] w fun e w' => e = .returned (.string (tb (be 4 (x.oth + if x.al = true then 2147483648 else 0) ++ [UInt8.ofNat x.wt]))) ∧ Below w.heap.size w w' := by
  have c6 := Fm.k6 (Row.new w 66 x.c)
  have c8 := Fm.k8 (Row.new w 66 x.c)
  have HX := Lib.hid (Row.new w 66 x.c)
  have HB : Hid (Below w.heap.size w (w.alloc (.cells x.c 66))) := (Below.refl _ _).alloc (Nat.le_refl _) _
  cases hal : x.al with
  | true =>
    rw [hal] at c8
    rw [if_pos rfl]
    have hn := fun W => rnumber_any (x.oth + 2147483648) 4 (by omega) (by omega) W
    have hadd := tb_add (be 4 (x.oth + 2147483648)) [UInt8.ofNat x.wt] (by rw [be_length]; omega) (by simp)
    generalize be 4 (x.oth + 2147483648) = bb at *
    clear hal
    go_enter Tryz.func97, Tryz.ntmps97
    go_wp2_with fail
    generalize w.alloc (.cells x.c 66) = w0 at *
    refine wp_region_held_drew (S := fun w' => w'.cell? ⟨w.heap.size, 7, none⟩ = some (.int .u8 x.wt)) (by kernel_rfl) (Fm.k7 HX.out) (fun hHeld => ?_)
    have HX1 : Hid (Row w0.drew w.heap.size 66 x.c) := HX.out
    have HB1 : Hid (Below w.heap.size w w0.drew) := HB.out.drew
    clear HX HB c6 c8
    generalize w0.drew = w1 at *
    refine wpAnyH_take (i := 0) (v := ?v0) rfl (by kernel_rfl) (by kernel_rfl) (by kernel_rfl) (fun _ _ _ h => h) (Or.inl ⟨by rfl, ?hy0⟩) (by assumption) ?rest0
    case hy0 => (intro w hSw; (try dsimp only at hSw); go_simp <;> with_reducible rfl)
    try simp only [Act.put, List.getElem_toArray, List.getElem_cons_zero, List.getElem_cons_succ, List.setIfInBounds_toArray, List.set_cons_zero, List.set_cons_succ]
    refine wpAnyH_take (i := 2) (v := ?v2) rfl (by kernel_rfl) (by kernel_rfl) (by kernel_rfl) (fun _ _ _ h => h) (Or.inl ⟨by rfl, ?hy2⟩) (by assumption) ?rest2
    case hy2 => (intro w hSw; (try dsimp only at hSw); go_simp <;> with_reducible rfl)
    try simp only [Act.put, List.getElem_toArray, List.getElem_cons_zero, List.getElem_cons_succ, List.setIfInBounds_toArray, List.set_cons_zero, List.set_cons_succ]
    refine wpAnyH_take (i := 3) (v := ?v3) rfl (by kernel_rfl) (by kernel_rfl) (by kernel_rfl) (fun _ _ _ h => h) (Or.inl ⟨by rfl, ?hy3⟩) (by assumption) ?rest3
    case hy3 => (intro w hSw; (try dsimp only at hSw); go_simp <;> with_reducible rfl)
    try simp only [Act.put, List.getElem_toArray, List.getElem_cons_zero, List.getElem_cons_succ, List.setIfInBounds_toArray, List.set_cons_zero, List.set_cons_succ]
    refine wpAnyH_ready (rs := [1, 4]) (by kernel_rfl) (by simp) ?_
    refine AllReadyH.cons rfl (fun K hK => ?_) (AllReadyH.cons rfl (fun K hK => ?_) AllReadyH.nil)
    · go_simp
      go_at_call 62
      refine (hn _).mono ?_
      rintro e w2 ⟨rfl, hb⟩
      have HX2 := Lib.hid (HX1.out.below hb HX1.out.lt)
      have HB2 := Lib.hid (HB1.out.trans (hb.mono HB1.out.size))
      refine hK.out _ _ (Fm.k7 HX2.out) (fun hHeld => ?_)
      clear hK K hb
      try simp only [Act.put, List.getElem_toArray, List.getElem_cons_zero, List.getElem_cons_succ, List.setIfInBounds_toArray, List.set_cons_zero, List.set_cons_succ]
      refine wpAnyH_ready (rs := [4]) (by kernel_rfl) (by simp) ?_
      refine AllReadyH.cons rfl (fun K hK => ?_) AllReadyH.nil
      go_simp
      have HX3 := Lib.hid (HX2.out.alloc (.cells #[.int .u8 (x.wt : Int)] 5))
      have HB3 := Lib.hid (HB2.out.alloc HB2.out.size (.cells #[.int .u8 (x.wt : Int)] 5))
      have HL4_3 := Lib.hid (Row.new w2 5 #[.int .u8 (x.wt : Int)])
      refine hK.out _ _ (Fm.k7 HX3.out) (fun hHeld => ?_)
      clear hK K hHeld
      generalize w2.alloc (.cells #[.int .u8 (x.wt : Int)] 5) = w3 at *
      have hHeld := Fm.k7 HX3.out
      try simp only [Act.put, List.getElem_toArray, List.getElem_cons_zero, List.getElem_cons_succ, List.setIfInBounds_toArray, List.set_cons_zero, List.set_cons_succ]
      refine wpAnyH_ready (rs := [5]) (by kernel_rfl) (by simp) ?_
      refine AllReadyH.cons rfl (fun K hK => ?_) AllReadyH.nil
      have ht := text1_row hwt HL4_3.out
      go_simp
      refine hK.out _ _ (Fm.k7 HX3.out) (fun hHeld => ?_)
      clear hK K ht
      try simp only [Act.put, List.getElem_toArray, List.getElem_cons_zero, List.getElem_cons_succ, List.setIfInBounds_toArray, List.set_cons_zero, List.set_cons_succ]
      refine wpAnyH_take (i := 6) (v := ?v6q1) rfl (by kernel_rfl) (by kernel_rfl) (by kernel_rfl) (fun _ _ _ h => h) (Or.inl ⟨by rfl, ?hy6q1⟩) (by assumption) ?rest6q1
      case hy6q1 => (intro w hSw; (try dsimp only at hSw); go_simp <;> with_reducible rfl)
      try simp only [Act.put, List.getElem_toArray, List.getElem_cons_zero, List.getElem_cons_succ, List.setIfInBounds_toArray, List.set_cons_zero, List.set_cons_succ]
      refine wpAnyH_take (i := 7) (v := ?v7q1) rfl (by kernel_rfl) (by kernel_rfl) (by kernel_rfl) (fun _ _ _ h => h) (Or.inl ⟨by rfl, ?hy7q1⟩) (by assumption) ?rest7q1
      case hy7q1 => (intro w hSw; (try dsimp only at hSw); go_simp <;> with_reducible rfl)
      try simp only [Act.put, List.getElem_toArray, List.getElem_cons_zero, List.getElem_cons_succ, List.setIfInBounds_toArray, List.set_cons_zero, List.set_cons_succ]
      refine wpAnyH_done (by kernel_rfl) ?_ _
      go_wp2_with fail
      go_ret
      exact ⟨rfl, HB3.out⟩
    · go_simp
      have HX2 := Lib.hid (HX1.out.alloc (.cells #[.int .u8 (x.wt : Int)] 5))
      have HB2 := Lib.hid (HB1.out.alloc HB1.out.size (.cells #[.int .u8 (x.wt : Int)] 5))
      have HL4_2 := Lib.hid (Row.new w1 5 #[.int .u8 (x.wt : Int)])
      refine hK.out _ _ (Fm.k7 HX2.out) (fun hHeld => ?_)
      clear hK K hHeld
      generalize w1.alloc (.cells #[.int .u8 (x.wt : Int)] 5) = w2 at *
      have hHeld := Fm.k7 HX2.out
      try simp only [Act.put, List.getElem_toArray, List.getElem_cons_zero, List.getElem_cons_succ, List.setIfInBounds_toArray, List.set_cons_zero, List.set_cons_succ]
      refine wpAnyH_ready (rs := [1, 5]) (by kernel_rfl) (by simp) ?_
      refine AllReadyH.cons rfl (fun K hK => ?_) (AllReadyH.cons rfl (fun K hK => ?_) AllReadyH.nil)
      · go_simp
        go_at_call 62
        refine (hn _).mono ?_
        rintro e w3 ⟨rfl, hb⟩
        have HX3 := Lib.hid (HX2.out.below hb HX2.out.lt)
        have HB3 := Lib.hid (HB2.out.trans (hb.mono HB2.out.size))
        have HL4_3 := Lib.hid (HL4_2.out.below hb HL4_2.out.lt)
        refine hK.out _ _ (Fm.k7 HX3.out) (fun hHeld => ?_)
        clear hK K hb
        try simp only [Act.put, List.getElem_toArray, List.getElem_cons_zero, List.getElem_cons_succ, List.setIfInBounds_toArray, List.set_cons_zero, List.set_cons_succ]
        refine wpAnyH_ready (rs := [5]) (by kernel_rfl) (by simp) ?_
        refine AllReadyH.cons rfl (fun K hK => ?_) AllReadyH.nil
        have ht := text1_row hwt HL4_3.out
        go_simp
        refine hK.out _ _ (Fm.k7 HX3.out) (fun hHeld => ?_)
        clear hK K ht
        try simp only [Act.put, List.getElem_toArray, List.getElem_cons_zero, List.getElem_cons_succ, List.setIfInBounds_toArray, List.set_cons_zero, List.set_cons_succ]
        refine wpAnyH_take (i := 6) (v := ?v6q2) rfl (by kernel_rfl) (by kernel_rfl) (by kernel_rfl) (fun _ _ _ h => h) (Or.inl ⟨by rfl, ?hy6q2⟩) (by assumption) ?rest6q2
        case hy6q2 => (intro w hSw; (try dsimp only at hSw); go_simp <;> with_reducible rfl)
        try simp only [Act.put, List.getElem_toArray, List.getElem_cons_zero, List.getElem_cons_succ, List.setIfInBounds_toArray, List.set_cons_zero, List.set_cons_succ]
        refine wpAnyH_take (i := 7) (v := ?v7q2) rfl (by kernel_rfl) (by kernel_rfl) (by kernel_rfl) (fun _ _ _ h => h) (Or.inl ⟨by rfl, ?hy7q2⟩) (by assumption) ?rest7q2
        case hy7q2 => (intro w hSw; (try dsimp only at hSw); go_simp <;> with_reducible rfl)
        try simp only [Act.put, List.getElem_toArray, List.getElem_cons_zero, List.getElem_cons_succ, List.setIfInBounds_toArray, List.set_cons_zero, List.set_cons_succ]
        refine wpAnyH_done (by kernel_rfl) ?_ _
        go_wp2_with fail
        go_ret
        exact ⟨rfl, HB3.out⟩
      · have ht := text1_row hwt HL4_2.out
        go_simp
        refine hK.out _ _ (Fm.k7 HX2.out) (fun hHeld => ?_)
        clear hK K ht
        try simp only [Act.put, List.getElem_toArray, List.getElem_cons_zero, List.getElem_cons_succ, List.setIfInBounds_toArray, List.set_cons_zero, List.set_cons_succ]
        refine wpAnyH_ready (rs := [1]) (by kernel_rfl) (by simp) ?_
        refine AllReadyH.cons rfl (fun K hK => ?_) AllReadyH.nil
        go_simp
        go_at_call 62
        refine (hn _).mono ?_
        rintro e w3 ⟨rfl, hb⟩
        have HX3 := Lib.hid (HX2.out.below hb HX2.out.lt)
        have HB3 := Lib.hid (HB2.out.trans (hb.mono HB2.out.size))
        have HL4_3 := Lib.hid (HL4_2.out.below hb HL4_2.out.lt)
        refine hK.out _ _ (Fm.k7 HX3.out) (fun hHeld => ?_)
        clear hK K hb
        try simp only [Act.put, List.getElem_toArray, List.getElem_cons_zero, List.getElem_cons_succ, List.setIfInBounds_toArray, List.set_cons_zero, List.set_cons_succ]
        refine wpAnyH_take (i := 6) (v := ?v6q3) rfl (by kernel_rfl) (by kernel_rfl) (by kernel_rfl) (fun _ _ _ h => h) (Or.inl ⟨by rfl, ?hy6q3⟩) (by assumption) ?rest6q3
        case hy6q3 => (intro w hSw; (try dsimp only at hSw); go_simp <;> with_reducible rfl)
        try simp only [Act.put, List.getElem_toArray, List.getElem_cons_zero, List.getElem_cons_succ, List.setIfInBounds_toArray, List.set_cons_zero, List.set_cons_succ]
        refine wpAnyH_take (i := 7) (v := ?v7q3) rfl (by kernel_rfl) (by kernel_rfl) (by kernel_rfl) (fun _ _ _ h => h) (Or.inl ⟨by rfl, ?hy7q3⟩) (by assumption) ?rest7q3
        case hy7q3 => (intro w hSw; (try dsimp only at hSw); go_simp <;> with_reducible rfl)
        try simp only [Act.put, List.getElem_toArray, List.getElem_cons_zero, List.getElem_cons_succ, List.setIfInBounds_toArray, List.set_cons_zero, List.set_cons_succ]
        refine wpAnyH_done (by kernel_rfl) ?_ _
        go_wp2_with fail
        go_ret
        exact ⟨rfl, HB3.out⟩
  | false =>
    rw [hal] at c8
    rw [if_neg (by simp)]
    have hn := fun W => rnumber_any (x.oth + 0) 4 (by omega) (by omega) W
    have hadd := tb_add (be 4 (x.oth + 0)) [UInt8.ofNat x.wt] (by rw [be_length]; omega) (by simp)
    generalize be 4 (x.oth + 0) = bb at *
    rw [Nat.add_zero] at hn
    clear hal
    go_enter Tryz.func97, Tryz.ntmps97
    go_wp2_with fail
    generalize w.alloc (.cells x.c 66) = w0 at *
    refine wp_region_held_drew (S := fun w' => w'.cell? ⟨w.heap.size, 7, none⟩ = some (.int .u8 x.wt)) (by kernel_rfl) (Fm.k7 HX.out) (fun hHeld => ?_)
    have HX1 : Hid (Row w0.drew w.heap.size 66 x.c) := HX.out
    have HB1 : Hid (Below w.heap.size w w0.drew) := HB.out.drew
    clear HX HB c6 c8
    generalize w0.drew = w1 at *
    refine wpAnyH_take (i := 0) (v := ?v0q4) rfl (by kernel_rfl) (by kernel_rfl) (by kernel_rfl) (fun _ _ _ h => h) (Or.inl ⟨by rfl, ?hy0q4⟩) (by assumption) ?rest0q4
    case hy0q4 => (intro w hSw; (try dsimp only at hSw); go_simp <;> with_reducible rfl)
    try simp only [Act.put, List.getElem_toArray, List.getElem_cons_zero, List.getElem_cons_succ, List.setIfInBounds_toArray, List.set_cons_zero, List.set_cons_succ]
    refine wpAnyH_take (i := 2) (v := ?v2q4) rfl (by kernel_rfl) (by kernel_rfl) (by kernel_rfl) (fun _ _ _ h => h) (Or.inl ⟨by rfl, ?hy2q4⟩) (by assumption) ?rest2q4
    case hy2q4 => (intro w hSw; (try dsimp only at hSw); go_simp <;> with_reducible rfl)
    try simp only [Act.put, List.getElem_toArray, List.getElem_cons_zero, List.getElem_cons_succ, List.setIfInBounds_toArray, List.set_cons_zero, List.set_cons_succ]
    refine wpAnyH_take (i := 3) (v := ?v3q4) rfl (by kernel_rfl) (by kernel_rfl) (by kernel_rfl) (fun _ _ _ h => h) (Or.inl ⟨by rfl, ?hy3q4⟩) (by assumption) ?rest3q4
    case hy3q4 => (intro w hSw; (try dsimp only at hSw); go_simp <;> with_reducible rfl)
    try simp only [Act.put, List.getElem_toArray, List.getElem_cons_zero, List.getElem_cons_succ, List.setIfInBounds_toArray, List.set_cons_zero, List.set_cons_succ]
    refine wpAnyH_ready (rs := [1, 4]) (by kernel_rfl) (by simp) ?_
    refine AllReadyH.cons rfl (fun K hK => ?_) (AllReadyH.cons rfl (fun K hK => ?_) AllReadyH.nil)
    · go_simp
      go_at_call 62
      refine (hn _).mono ?_
      rintro e w2 ⟨rfl, hb⟩
      have HX2 := Lib.hid (HX1.out.below hb HX1.out.lt)
      have HB2 := Lib.hid (HB1.out.trans (hb.mono HB1.out.size))
      refine hK.out _ _ (Fm.k7 HX2.out) (fun hHeld => ?_)
      clear hK K hb
      try simp only [Act.put, List.getElem_toArray, List.getElem_cons_zero, List.getElem_cons_succ, List.setIfInBounds_toArray, List.set_cons_zero, List.set_cons_succ]
      refine wpAnyH_ready (rs := [4]) (by kernel_rfl) (by simp) ?_
      refine AllReadyH.cons rfl (fun K hK => ?_) AllReadyH.nil
      go_simp
      have HX3 := Lib.hid (HX2.out.alloc (.cells #[.int .u8 (x.wt : Int)] 5))
      have HB3 := Lib.hid (HB2.out.alloc HB2.out.size (.cells #[.int .u8 (x.wt : Int)] 5))
      have HL4_3 := Lib.hid (Row.new w2 5 #[.int .u8 (x.wt : Int)])
      refine hK.out _ _ (Fm.k7 HX3.out) (fun hHeld => ?_)
      clear hK K hHeld
      generalize w2.alloc (.cells #[.int .u8 (x.wt : Int)] 5) = w3 at *
      have hHeld := Fm.k7 HX3.out
      try simp only [Act.put, List.getElem_toArray, List.getElem_cons_zero, List.getElem_cons_succ, List.setIfInBounds_toArray, List.set_cons_zero, List.set_cons_succ]
      refine wpAnyH_ready (rs := [5]) (by kernel_rfl) (by simp) ?_
      refine AllReadyH.cons rfl (fun K hK => ?_) AllReadyH.nil
      have ht := text1_row hwt HL4_3.out
      go_simp
      refine hK.out _ _ (Fm.k7 HX3.out) (fun hHeld => ?_)
      clear hK K ht
      try simp only [Act.put, List.getElem_toArray, List.getElem_cons_zero, List.getElem_cons_succ, List.setIfInBounds_toArray, List.set_cons_zero, List.set_cons_succ]
      refine wpAnyH_take (i := 6) (v := ?v6q5) rfl (by kernel_rfl) (by kernel_rfl) (by kernel_rfl) (fun _ _ _ h => h) (Or.inl ⟨by rfl, ?hy6q5⟩) (by assumption) ?rest6q5
      case hy6q5 => (intro w hSw; (try dsimp only at hSw); go_simp <;> with_reducible rfl)
      try simp only [Act.put, List.getElem_toArray, List.getElem_cons_zero, List.getElem_cons_succ, List.setIfInBounds_toArray, List.set_cons_zero, List.set_cons_succ]
      refine wpAnyH_take (i := 7) (v := ?v7q5) rfl (by kernel_rfl) (by kernel_rfl) (by kernel_rfl) (fun _ _ _ h => h) (Or.inl ⟨by rfl, ?hy7q5⟩) (by assumption) ?rest7q5
      case hy7q5 => (intro w hSw; (try dsimp only at hSw); go_simp <;> with_reducible rfl)
      try simp only [Act.put, List.getElem_toArray, List.getElem_cons_zero, List.getElem_cons_succ, List.setIfInBounds_toArray, List.set_cons_zero, List.set_cons_succ]
      refine wpAnyH_done (by kernel_rfl) ?_ _
      go_wp2_with fail
      go_ret
      exact ⟨rfl, HB3.out⟩
    · go_simp
      have HX2 := Lib.hid (HX1.out.alloc (.cells #[.int .u8 (x.wt : Int)] 5))
      have HB2 := Lib.hid (HB1.out.alloc HB1.out.size (.cells #[.int .u8 (x.wt : Int)] 5))
      have HL4_2 := Lib.hid (Row.new w1 5 #[.int .u8 (x.wt : Int)])
      refine hK.out _ _ (Fm.k7 HX2.out) (fun hHeld => ?_)
      clear hK K hHeld
      generalize w1.alloc (.cells #[.int .u8 (x.wt : Int)] 5) = w2 at *
      have hHeld := Fm.k7 HX2.out
      try simp only [Act.put, List.getElem_toArray, List.getElem_cons_zero, List.getElem_cons_succ, List.setIfInBounds_toArray, List.set_cons_zero, List.set_cons_succ]
      refine wpAnyH_ready (rs := [1, 5]) (by kernel_rfl) (by simp) ?_
      refine AllReadyH.cons rfl (fun K hK => ?_) (AllReadyH.cons rfl (fun K hK => ?_) AllReadyH.nil)
      · go_simp
        go_at_call 62
        refine (hn _).mono ?_
        rintro e w3 ⟨rfl, hb⟩
        have HX3 := Lib.hid (HX2.out.below hb HX2.out.lt)
        have HB3 := Lib.hid (HB2.out.trans (hb.mono HB2.out.size))
        have HL4_3 := Lib.hid (HL4_2.out.below hb HL4_2.out.lt)
        refine hK.out _ _ (Fm.k7 HX3.out) (fun hHeld => ?_)
        clear hK K hb
        try simp only [Act.put, List.getElem_toArray, List.getElem_cons_zero, List.getElem_cons_succ, List.setIfInBounds_toArray, List.set_cons_zero, List.set_cons_succ]
        refine wpAnyH_ready (rs := [5]) (by kernel_rfl) (by simp) ?_
        refine AllReadyH.cons rfl (fun K hK => ?_) AllReadyH.nil
        have ht := text1_row hwt HL4_3.out
        go_simp
        refine hK.out _ _ (Fm.k7 HX3.out) (fun hHeld => ?_)
        clear hK K ht
        try simp only [Act.put, List.getElem_toArray, List.getElem_cons_zero, List.getElem_cons_succ, List.setIfInBounds_toArray, List.set_cons_zero, List.set_cons_succ]
        refine wpAnyH_take (i := 6) (v := ?v6q6) rfl (by kernel_rfl) (by kernel_rfl) (by kernel_rfl) (fun _ _ _ h => h) (Or.inl ⟨by rfl, ?hy6q6⟩) (by assumption) ?rest6q6
        case hy6q6 => (intro w hSw; (try dsimp only at hSw); go_simp <;> with_reducible rfl)
        try simp only [Act.put, List.getElem_toArray, List.getElem_cons_zero, List.getElem_cons_succ, List.setIfInBounds_toArray, List.set_cons_zero, List.set_cons_succ]
        refine wpAnyH_take (i := 7) (v := ?v7q6) rfl (by kernel_rfl) (by kernel_rfl) (by kernel_rfl) (fun _ _ _ h => h) (Or.inl ⟨by rfl, ?hy7q6⟩) (by assumption) ?rest7q6
        case hy7q6 => (intro w hSw; (try dsimp only at hSw); go_simp <;> with_reducible rfl)
        try simp only [Act.put, List.getElem_toArray, List.getElem_cons_zero, List.getElem_cons_succ, List.setIfInBounds_toArray, List.set_cons_zero, List.set_cons_succ]
        refine wpAnyH_done (by kernel_rfl) ?_ _
        go_wp2_with fail
        go_ret
        exact ⟨rfl, HB3.out⟩
      · have ht := text1_row hwt HL4_2.out
        go_simp
        refine hK.out _ _ (Fm.k7 HX2.out) (fun hHeld => ?_)
        clear hK K ht
        try simp only [Act.put, List.getElem_toArray, List.getElem_cons_zero, List.getElem_cons_succ, List.setIfInBounds_toArray, List.set_cons_zero, List.set_cons_succ]
        refine wpAnyH_ready (rs := [1]) (by kernel_rfl) (by simp) ?_
        refine AllReadyH.cons rfl (fun K hK => ?_) AllReadyH.nil
        go_simp
        go_at_call 62
        refine (hn _).mono ?_
        rintro e w3 ⟨rfl, hb⟩
        have HX3 := Lib.hid (HX2.out.below hb HX2.out.lt)
        have HB3 := Lib.hid (HB2.out.trans (hb.mono HB2.out.size))
        have HL4_3 := Lib.hid (HL4_2.out.below hb HL4_2.out.lt)
        refine hK.out _ _ (Fm.k7 HX3.out) (fun hHeld => ?_)
        clear hK K hb
        try simp only [Act.put, List.getElem_toArray, List.getElem_cons_zero, List.getElem_cons_succ, List.setIfInBounds_toArray, List.set_cons_zero, List.set_cons_succ]
        refine wpAnyH_take (i := 6) (v := ?v6q7) rfl (by kernel_rfl) (by kernel_rfl) (by kernel_rfl) (fun _ _ _ h => h) (Or.inl ⟨by rfl, ?hy6q7⟩) (by assumption) ?rest6q7
        case hy6q7 => (intro w hSw; (try dsimp only at hSw); go_simp <;> with_reducible rfl)
        try simp only [Act.put, List.getElem_toArray, List.getElem_cons_zero, List.getElem_cons_succ, List.setIfInBounds_toArray, List.set_cons_zero, List.set_cons_succ]
        refine wpAnyH_take (i := 7) (v := ?v7q7) rfl (by kernel_rfl) (by kernel_rfl) (by kernel_rfl) (fun _ _ _ h => h) (Or.inl ⟨by rfl, ?hy7q7⟩) (by assumption) ?rest7q7
        case hy7q7 => (intro w hSw; (try dsimp only at hSw); go_simp <;> with_reducible rfl)
        try simp only [Act.put, List.getElem_toArray, List.getElem_cons_zero, List.getElem_cons_succ, List.setIfInBounds_toArray, List.set_cons_zero, List.set_cons_succ]
        refine wpAnyH_done (by kernel_rfl) ?_ _
        go_wp2_with fail
        go_ret
        exact ⟨rfl, HB3.out⟩
end Go.Proofs.YtooaajnkiokpnaaGreatDoor
