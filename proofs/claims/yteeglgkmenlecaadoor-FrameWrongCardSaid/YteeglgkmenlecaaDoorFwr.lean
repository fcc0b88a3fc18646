/-
  FrameWrong, by its contract: over every type, flags, stream, length and first byte it answers true, and below what was there nothing has turned. Condition: errors.errorType holds what the program's text lays.
-/
import Derived.Test.YteeglgkmenlecaaDoorRgt
import Derived.Test.YteeglgkmenlecaaDoorRsm
import Derived.Test.YteeglgkmenlecaaDoorFin
import Derived.Test.YteeglgkmenlecaaDoorFbk
namespace Go.Proofs.YteeglgkmenlecaaDoor
open Go.RowKit Go.WideShapes

/-- The body: its first byte, and noughts. -/
def wbL (k f : Nat) : List UInt8 := (List.replicate k 0).set 0 (UInt8.ofNat f)
theorem wbL_len (k f : Nat) : (wbL k f).length = k := by simp [wbL]
theorem made_row {w : World} {p k : Nat} (h : Row w p 5 (madeCells #[Value.int .u8 0] k)) : RdB w (p + 1) (some ⟨p, 0, none⟩) (List.replicate k 0) := RdB.row h (made_zeros k) (Nat.lt_succ_self _)
theorem made_set {w : World} {p k f : Nat} (hf : f < 256) (h : Row w p 5 (madeCells #[Value.int .u8 0] k)) : RdB (w.setCell ⟨p, 0, none⟩ (.int .u8 (f : Int))) (p + 1) (some ⟨p, 0, none⟩) (wbL k f) := by
  refine RdB.row (h.stored 0 _) ?_ (Nat.lt_succ_self _)
  have h1 := made_zeros k
  rw [Array.setIfInBounds, wbL, byc_set, ← h1]
  have e : (UInt8.ofNat f).toNat = f := by rw [ofNat_toNat_mod]; omega
  rw [e]
  split
  · simp
  · rename_i h0
    have : (madeCells #[Value.int .u8 0] k).toList = [] := by
      have h2 : (madeCells #[Value.int .u8 0] k).size = 0 := by omega
      simpa using h2
    rw [this]
    rfl
theorem made_0 {k : Nat} (h : 0 < k) : (madeCells #[Value.int .u8 0] k)[0]? = some (.int .u8 0) := by
  rw [← Array.getElem?_toList, made_zeros]
  simp [byc, h]
attribute [local irreducible] Fm.c ftc fxc enl
set_option maxRecDepth 100000 in
set_option maxHeartbeats 16000000 in
theorem fwrong_any {ty fl st n f : Nat} {w : World} (hty : ty < 256) (hfl : fl < 256) (hst : st < 4294967296) (hn : n < 65536) (hf : f < 256) (hG : GlobE w) :
    Calls Tryd.prog 5 #[.int .u8 ty, .int .u8 fl, .int .u32 st, .int .u16 n, .int .u8 f] w fun e w' => e = .returned (.bool true) ∧ Below w.heap.size w w' := by
  have hftc : ∀ s c : Nat, ftc s c = #[.int .u8 s, .int .u32 c] := fun s c => by unfold ftc; rfl
  obtain ⟨i0, hi0, hz0, hz1, hz2⟩ := info_parts u8_info
  obtain ⟨k, hk⟩ : ∃ k, k = n % 16400 := ⟨_, rfl⟩
  have hk2 : k < 16400 := by omega
  have hkm : (n : Int) % 16400 = (k : Int) := by omega
  have hn3 := fun W => rnumber_any k 3 (by omega) (by omega) W
  have hn4 := fun W => rnumber_any st 4 (by omega) (by omega) W
  have h3l := be_length 3 k
  have h4l := be_length 4 st
  generalize be 3 k = B3 at *
  generalize be 4 st = B4 at *
  have hadd1 := tb_add B3 [UInt8.ofNat ty, UInt8.ofNat fl] (by omega) (by simp)
  have hL1 : (B3 ++ [UInt8.ofNat ty, UInt8.ofNat fl]).length = 5 := by simp; omega
  generalize B3 ++ [UInt8.ofNat ty, UInt8.ofNat fl] = L1 at *
  have hadd2 := tb_add L1 B4 (by omega) (by omega)
  have hL2 : (L1 ++ B4).length = 9 := by simp; omega
  generalize L1 ++ B4 = L2 at *
  have hsi : IntKind.u64.wrap (st : Int) = st := by rw [IntKind.wrap_u64]; omega
  have hki6 : IntKind.u64.wrap (k : Int) = k := by rw [IntKind.wrap_u64]; omega
  have HG := Lib.hid hG
  clear h3l h4l hL1 hG hk
  go_enter Tryd.func5, Tryd.ntmps5
  go_upto_region 2 with fail
  rw [hkm]
  go_cut [12] (fun v wx => v = .string (tb L2) ∧ Hid (Below w.heap.size w wx))
  case first =>
    refine wp_region_held_drew (S := fun _ => True) (by kernel_rfl) trivial (fun hHeld => ?_)
    have HB1 : Hid (Below w.heap.size w w.drew) := (Below.refl _ _).drew
    generalize w.drew = w1 at *
    refine wpAnyH_take (i := 0) (v := ?v0) rfl (by kernel_rfl) (by kernel_rfl) (by kernel_rfl) (fun _ _ _ h => h) (Or.inl ⟨by rfl, ?hy0⟩) (by assumption) ?rest0
    case hy0 => (intro w hSw; (try dsimp only at hSw); go_simp <;> with_reducible rfl)
    try simp only [Act.put, List.getElem_toArray, List.getElem_cons_zero, List.setIfInBounds_toArray, List.set_cons_zero, List.set_cons_succ]
    refine wpAnyH_take (i := 1) (v := ?v1) rfl (by kernel_rfl) (by kernel_rfl) (by kernel_rfl) (fun _ _ _ h => h) (Or.inl ⟨by rfl, ?hy1⟩) (by assumption) ?rest1
    case hy1 => (intro w hSw; (try dsimp only at hSw); go_simp <;> with_reducible rfl)
    try simp only [Act.put, List.getElem_toArray, List.getElem_cons_zero, List.getElem_cons_succ, List.setIfInBounds_toArray, List.set_cons_zero, List.set_cons_succ]
    refine wpAnyH_take (i := 3) (v := ?v3) rfl (by kernel_rfl) (by kernel_rfl) (by kernel_rfl) (fun _ _ _ h => h) (Or.inl ⟨by rfl, ?hy3⟩) (by assumption) ?rest3
    case hy3 => (intro w hSw; (try dsimp only at hSw); go_simp <;> with_reducible rfl)
    try simp only [Act.put, List.getElem_toArray, List.getElem_cons_zero, List.getElem_cons_succ, List.setIfInBounds_toArray, List.set_cons_zero, List.set_cons_succ]
    refine wpAnyH_take (i := 4) (v := ?v4) rfl (by kernel_rfl) (by kernel_rfl) (by kernel_rfl) (fun _ _ _ h => h) (Or.inl ⟨by rfl, ?hy4⟩) (by assumption) ?rest4
    case hy4 => (intro w hSw; (try dsimp only at hSw); go_simp <;> with_reducible rfl)
    try simp only [Act.put, List.getElem_toArray, List.getElem_cons_zero, List.getElem_cons_succ, List.setIfInBounds_toArray, List.set_cons_zero, List.set_cons_succ]
    refine wpAnyH_take (i := 8) (v := ?v8) rfl (by kernel_rfl) (by kernel_rfl) (by kernel_rfl) (fun _ _ _ h => h) (Or.inl ⟨by rfl, ?hy8⟩) (by assumption) ?rest8
    case hy8 => (intro w hSw; (try dsimp only at hSw); go_simp <;> with_reducible rfl)
    try simp only [Act.put, List.getElem_toArray, List.getElem_cons_zero, List.getElem_cons_succ, List.setIfInBounds_toArray, List.set_cons_zero, List.set_cons_succ]
    refine wpAnyH_take (i := 9) (v := ?v9) rfl (by kernel_rfl) (by kernel_rfl) (by kernel_rfl) (fun _ _ _ h => h) (Or.inl ⟨by rfl, ?hy9⟩) (by assumption) ?rest9
    case hy9 => (intro w hSw; (try dsimp only at hSw); go_simp <;> with_reducible rfl)
    try simp only [Act.put, List.getElem_toArray, List.getElem_cons_zero, List.getElem_cons_succ, List.setIfInBounds_toArray, List.set_cons_zero, List.set_cons_succ]
    refine wpAnyH_ready (rs := [2, 5]) (by kernel_rfl) (by simp) ?_
    refine AllReadyH.cons rfl (fun K hK => ?_) (AllReadyH.cons rfl (fun K hK => ?_) AllReadyH.nil)
    · go_simp
      go_at_call 18
      refine (hn3 _).mono ?_
      rintro e w2 ⟨rfl, hb⟩
      have HB2 := Lib.hid (HB1.out.trans (hb.mono HB1.out.size))
      refine hK.out _ _ trivial (fun hHeld => ?_)
      clear hK K hb
      try simp only [Act.put, List.getElem_toArray, List.getElem_cons_zero, List.getElem_cons_succ, List.setIfInBounds_toArray, List.set_cons_zero, List.set_cons_succ]
      refine wpAnyH_ready (rs := [5, 10]) (by kernel_rfl) (by simp) ?_
      refine AllReadyH.cons rfl (fun K hK => ?_) (AllReadyH.cons rfl (fun K hK => ?_) AllReadyH.nil)
      · go_simp
        have HL3 := Lib.hid (Row.new w2 5 #[.int .u8 (ty : Int), .int .u8 (fl : Int)])
        have HB3 := Lib.hid (HB2.out.alloc HB2.out.size (.cells #[.int .u8 (ty : Int), .int .u8 (fl : Int)] 5))
        refine hK.out _ _ trivial (fun hHeld => ?_)
        clear hK K
        generalize hg3 : w2.alloc (.cells #[.int .u8 (ty : Int), .int .u8 (fl : Int)] 5) = w3 at *
        clear hg3
        try simp only [Act.put, List.getElem_toArray, List.getElem_cons_zero, List.getElem_cons_succ, List.setIfInBounds_toArray, List.set_cons_zero, List.set_cons_succ]
        refine wpAnyH_ready (rs := [6, 10]) (by kernel_rfl) (by simp) ?_
        refine AllReadyH.cons rfl (fun K hK => ?_) (AllReadyH.cons rfl (fun K hK => ?_) AllReadyH.nil)
        · have ht := text2_row hty hfl HL3.out
          go_simp
          refine hK.out _ _ trivial (fun hHeld => ?_)
          clear hK K ht
          try simp only [Act.put, List.getElem_toArray, List.getElem_cons_zero, List.getElem_cons_succ, List.setIfInBounds_toArray, List.set_cons_zero, List.set_cons_succ]
          refine wpAnyH_take (i := 7) (v := ?v7q1) rfl (by kernel_rfl) (by kernel_rfl) (by kernel_rfl) (fun _ _ _ h => h) (Or.inl ⟨by rfl, ?hy7q1⟩) (by assumption) ?rest7q1
          case hy7q1 => (intro w hSw; (try dsimp only at hSw); go_simp <;> with_reducible rfl)
          try simp only [Act.put, List.getElem_toArray, List.getElem_cons_zero, List.getElem_cons_succ, List.setIfInBounds_toArray, List.set_cons_zero, List.set_cons_succ]
          refine wpAnyH_ready (rs := [10]) (by kernel_rfl) (by simp) ?_
          refine AllReadyH.cons rfl (fun K hK => ?_) AllReadyH.nil
          go_simp
          go_at_call 18
          refine (hn4 _).mono ?_
          rintro e w4 ⟨rfl, hb⟩
          have HB4 := Lib.hid (HB3.out.trans (hb.mono HB3.out.size))
          have HL4 := Lib.hid (HL3.out.below hb HL3.out.lt)
          refine hK.out _ _ trivial (fun hHeld => ?_)
          clear hK K hb
          try simp only [Act.put, List.getElem_toArray, List.getElem_cons_zero, List.getElem_cons_succ, List.setIfInBounds_toArray, List.set_cons_zero, List.set_cons_succ]
          refine wpAnyH_take (i := 11) (v := ?v11q2) rfl (by kernel_rfl) (by kernel_rfl) (by kernel_rfl) (fun _ _ _ h => h) (Or.inl ⟨by rfl, ?hy11q2⟩) (by assumption) ?rest11q2
          case hy11q2 => (intro w hSw; (try dsimp only at hSw); go_simp <;> with_reducible rfl)
          try simp only [Act.put, List.getElem_toArray, List.getElem_cons_zero, List.getElem_cons_succ, List.setIfInBounds_toArray, List.set_cons_zero, List.set_cons_succ]
          refine wpAnyH_take (i := 12) (v := ?v12q2) rfl (by kernel_rfl) (by kernel_rfl) (by kernel_rfl) (fun _ _ _ h => h) (Or.inl ⟨by rfl, ?hy12q2⟩) (by assumption) ?rest12q2
          case hy12q2 => (intro w hSw; (try dsimp only at hSw); go_simp <;> with_reducible rfl)
          try simp only [Act.put, List.getElem_toArray, List.getElem_cons_zero, List.getElem_cons_succ, List.setIfInBounds_toArray, List.set_cons_zero, List.set_cons_succ]
          refine wpAnyH_done (by kernel_rfl) ?_ _
          go_wp2_with fail
          go_meet
          exact ⟨rfl, HB4⟩
        · go_simp
          go_at_call 18
          refine (hn4 _).mono ?_
          rintro e w4 ⟨rfl, hb⟩
          have HB4 := Lib.hid (HB3.out.trans (hb.mono HB3.out.size))
          have HL4 := Lib.hid (HL3.out.below hb HL3.out.lt)
          refine hK.out _ _ trivial (fun hHeld => ?_)
          clear hK K hb
          try simp only [Act.put, List.getElem_toArray, List.getElem_cons_zero, List.getElem_cons_succ, List.setIfInBounds_toArray, List.set_cons_zero, List.set_cons_succ]
          refine wpAnyH_ready (rs := [6]) (by kernel_rfl) (by simp) ?_
          refine AllReadyH.cons rfl (fun K hK => ?_) AllReadyH.nil
          have ht := text2_row hty hfl HL4.out
          go_simp
          refine hK.out _ _ trivial (fun hHeld => ?_)
          clear hK K ht
          try simp only [Act.put, List.getElem_toArray, List.getElem_cons_zero, List.getElem_cons_succ, List.setIfInBounds_toArray, List.set_cons_zero, List.set_cons_succ]
          refine wpAnyH_take (i := 7) (v := ?v7q3) rfl (by kernel_rfl) (by kernel_rfl) (by kernel_rfl) (fun _ _ _ h => h) (Or.inl ⟨by rfl, ?hy7q3⟩) (by assumption) ?rest7q3
          case hy7q3 => (intro w hSw; (try dsimp only at hSw); go_simp <;> with_reducible rfl)
          try simp only [Act.put, List.getElem_toArray, List.getElem_cons_zero, List.getElem_cons_succ, List.setIfInBounds_toArray, List.set_cons_zero, List.set_cons_succ]
          refine wpAnyH_take (i := 11) (v := ?v11q4) rfl (by kernel_rfl) (by kernel_rfl) (by kernel_rfl) (fun _ _ _ h => h) (Or.inl ⟨by rfl, ?hy11q4⟩) (by assumption) ?rest11q4
          case hy11q4 => (intro w hSw; (try dsimp only at hSw); go_simp <;> with_reducible rfl)
          try simp only [Act.put, List.getElem_toArray, List.getElem_cons_zero, List.getElem_cons_succ, List.setIfInBounds_toArray, List.set_cons_zero, List.set_cons_succ]
          refine wpAnyH_take (i := 12) (v := ?v12q4) rfl (by kernel_rfl) (by kernel_rfl) (by kernel_rfl) (fun _ _ _ h => h) (Or.inl ⟨by rfl, ?hy12q4⟩) (by assumption) ?rest12q4
          case hy12q4 => (intro w hSw; (try dsimp only at hSw); go_simp <;> with_reducible rfl)
          try simp only [Act.put, List.getElem_toArray, List.getElem_cons_zero, List.getElem_cons_succ, List.setIfInBounds_toArray, List.set_cons_zero, List.set_cons_succ]
          refine wpAnyH_done (by kernel_rfl) ?_ _
          go_wp2_with fail
          go_meet
          exact ⟨rfl, HB4⟩
      · go_simp
        go_at_call 18
        refine (hn4 _).mono ?_
        rintro e w3 ⟨rfl, hb⟩
        have HB3 := Lib.hid (HB2.out.trans (hb.mono HB2.out.size))
        refine hK.out _ _ trivial (fun hHeld => ?_)
        clear hK K hb
        try simp only [Act.put, List.getElem_toArray, List.getElem_cons_zero, List.getElem_cons_succ, List.setIfInBounds_toArray, List.set_cons_zero, List.set_cons_succ]
        refine wpAnyH_ready (rs := [5]) (by kernel_rfl) (by simp) ?_
        refine AllReadyH.cons rfl (fun K hK => ?_) AllReadyH.nil
        go_simp
        have HL4 := Lib.hid (Row.new w3 5 #[.int .u8 (ty : Int), .int .u8 (fl : Int)])
        have HB4 := Lib.hid (HB3.out.alloc HB3.out.size (.cells #[.int .u8 (ty : Int), .int .u8 (fl : Int)] 5))
        refine hK.out _ _ trivial (fun hHeld => ?_)
        clear hK K
        generalize hg4 : w3.alloc (.cells #[.int .u8 (ty : Int), .int .u8 (fl : Int)] 5) = w4 at *
        clear hg4
        try simp only [Act.put, List.getElem_toArray, List.getElem_cons_zero, List.getElem_cons_succ, List.setIfInBounds_toArray, List.set_cons_zero, List.set_cons_succ]
        refine wpAnyH_ready (rs := [6]) (by kernel_rfl) (by simp) ?_
        refine AllReadyH.cons rfl (fun K hK => ?_) AllReadyH.nil
        have ht := text2_row hty hfl HL4.out
        go_simp
        refine hK.out _ _ trivial (fun hHeld => ?_)
        clear hK K ht
        try simp only [Act.put, List.getElem_toArray, List.getElem_cons_zero, List.getElem_cons_succ, List.setIfInBounds_toArray, List.set_cons_zero, List.set_cons_succ]
        refine wpAnyH_take (i := 7) (v := ?v7q5) rfl (by kernel_rfl) (by kernel_rfl) (by kernel_rfl) (fun _ _ _ h => h) (Or.inl ⟨by rfl, ?hy7q5⟩) (by assumption) ?rest7q5
        case hy7q5 => (intro w hSw; (try dsimp only at hSw); go_simp <;> with_reducible rfl)
        try simp only [Act.put, List.getElem_toArray, List.getElem_cons_zero, List.getElem_cons_succ, List.setIfInBounds_toArray, List.set_cons_zero, List.set_cons_succ]
        refine wpAnyH_take (i := 11) (v := ?v11q6) rfl (by kernel_rfl) (by kernel_rfl) (by kernel_rfl) (fun _ _ _ h => h) (Or.inl ⟨by rfl, ?hy11q6⟩) (by assumption) ?rest11q6
        case hy11q6 => (intro w hSw; (try dsimp only at hSw); go_simp <;> with_reducible rfl)
        try simp only [Act.put, List.getElem_toArray, List.getElem_cons_zero, List.getElem_cons_succ, List.setIfInBounds_toArray, List.set_cons_zero, List.set_cons_succ]
        refine wpAnyH_take (i := 12) (v := ?v12q6) rfl (by kernel_rfl) (by kernel_rfl) (by kernel_rfl) (fun _ _ _ h => h) (Or.inl ⟨by rfl, ?hy12q6⟩) (by assumption) ?rest12q6
        case hy12q6 => (intro w hSw; (try dsimp only at hSw); go_simp <;> with_reducible rfl)
        try simp only [Act.put, List.getElem_toArray, List.getElem_cons_zero, List.getElem_cons_succ, List.setIfInBounds_toArray, List.set_cons_zero, List.set_cons_succ]
        refine wpAnyH_done (by kernel_rfl) ?_ _
        go_wp2_with fail
        go_meet
        exact ⟨rfl, HB4⟩
    · go_simp
      have HL2 := Lib.hid (Row.new w1 5 #[.int .u8 (ty : Int), .int .u8 (fl : Int)])
      have HB2 := Lib.hid (HB1.out.alloc HB1.out.size (.cells #[.int .u8 (ty : Int), .int .u8 (fl : Int)] 5))
      refine hK.out _ _ trivial (fun hHeld => ?_)
      clear hK K
      generalize hg2 : w1.alloc (.cells #[.int .u8 (ty : Int), .int .u8 (fl : Int)] 5) = w2 at *
      clear hg2
      try simp only [Act.put, List.getElem_toArray, List.getElem_cons_zero, List.getElem_cons_succ, List.setIfInBounds_toArray, List.set_cons_zero, List.set_cons_succ]
      refine wpAnyH_ready (rs := [2, 6]) (by kernel_rfl) (by simp) ?_
      refine AllReadyH.cons rfl (fun K hK => ?_) (AllReadyH.cons rfl (fun K hK => ?_) AllReadyH.nil)
      · go_simp
        go_at_call 18
        refine (hn3 _).mono ?_
        rintro e w3 ⟨rfl, hb⟩
        have HB3 := Lib.hid (HB2.out.trans (hb.mono HB2.out.size))
        have HL3 := Lib.hid (HL2.out.below hb HL2.out.lt)
        refine hK.out _ _ trivial (fun hHeld => ?_)
        clear hK K hb
        try simp only [Act.put, List.getElem_toArray, List.getElem_cons_zero, List.getElem_cons_succ, List.setIfInBounds_toArray, List.set_cons_zero, List.set_cons_succ]
        refine wpAnyH_ready (rs := [6, 10]) (by kernel_rfl) (by simp) ?_
        refine AllReadyH.cons rfl (fun K hK => ?_) (AllReadyH.cons rfl (fun K hK => ?_) AllReadyH.nil)
        · have ht := text2_row hty hfl HL3.out
          go_simp
          refine hK.out _ _ trivial (fun hHeld => ?_)
          clear hK K ht
          try simp only [Act.put, List.getElem_toArray, List.getElem_cons_zero, List.getElem_cons_succ, List.setIfInBounds_toArray, List.set_cons_zero, List.set_cons_succ]
          refine wpAnyH_take (i := 7) (v := ?v7q7) rfl (by kernel_rfl) (by kernel_rfl) (by kernel_rfl) (fun _ _ _ h => h) (Or.inl ⟨by rfl, ?hy7q7⟩) (by assumption) ?rest7q7
          case hy7q7 => (intro w hSw; (try dsimp only at hSw); go_simp <;> with_reducible rfl)
          try simp only [Act.put, List.getElem_toArray, List.getElem_cons_zero, List.getElem_cons_succ, List.setIfInBounds_toArray, List.set_cons_zero, List.set_cons_succ]
          refine wpAnyH_ready (rs := [10]) (by kernel_rfl) (by simp) ?_
          refine AllReadyH.cons rfl (fun K hK => ?_) AllReadyH.nil
          go_simp
          go_at_call 18
          refine (hn4 _).mono ?_
          rintro e w4 ⟨rfl, hb⟩
          have HB4 := Lib.hid (HB3.out.trans (hb.mono HB3.out.size))
          have HL4 := Lib.hid (HL3.out.below hb HL3.out.lt)
          refine hK.out _ _ trivial (fun hHeld => ?_)
          clear hK K hb
          try simp only [Act.put, List.getElem_toArray, List.getElem_cons_zero, List.getElem_cons_succ, List.setIfInBounds_toArray, List.set_cons_zero, List.set_cons_succ]
          refine wpAnyH_take (i := 11) (v := ?v11q8) rfl (by kernel_rfl) (by kernel_rfl) (by kernel_rfl) (fun _ _ _ h => h) (Or.inl ⟨by rfl, ?hy11q8⟩) (by assumption) ?rest11q8
          case hy11q8 => (intro w hSw; (try dsimp only at hSw); go_simp <;> with_reducible rfl)
          try simp only [Act.put, List.getElem_toArray, List.getElem_cons_zero, List.getElem_cons_succ, List.setIfInBounds_toArray, List.set_cons_zero, List.set_cons_succ]
          refine wpAnyH_take (i := 12) (v := ?v12q8) rfl (by kernel_rfl) (by kernel_rfl) (by kernel_rfl) (fun _ _ _ h => h) (Or.inl ⟨by rfl, ?hy12q8⟩) (by assumption) ?rest12q8
          case hy12q8 => (intro w hSw; (try dsimp only at hSw); go_simp <;> with_reducible rfl)
          try simp only [Act.put, List.getElem_toArray, List.getElem_cons_zero, List.getElem_cons_succ, List.setIfInBounds_toArray, List.set_cons_zero, List.set_cons_succ]
          refine wpAnyH_done (by kernel_rfl) ?_ _
          go_wp2_with fail
          go_meet
          exact ⟨rfl, HB4⟩
        · go_simp
          go_at_call 18
          refine (hn4 _).mono ?_
          rintro e w4 ⟨rfl, hb⟩
          have HB4 := Lib.hid (HB3.out.trans (hb.mono HB3.out.size))
          have HL4 := Lib.hid (HL3.out.below hb HL3.out.lt)
          refine hK.out _ _ trivial (fun hHeld => ?_)
          clear hK K hb
          try simp only [Act.put, List.getElem_toArray, List.getElem_cons_zero, List.getElem_cons_succ, List.setIfInBounds_toArray, List.set_cons_zero, List.set_cons_succ]
          refine wpAnyH_ready (rs := [6]) (by kernel_rfl) (by simp) ?_
          refine AllReadyH.cons rfl (fun K hK => ?_) AllReadyH.nil
          have ht := text2_row hty hfl HL4.out
          go_simp
          refine hK.out _ _ trivial (fun hHeld => ?_)
          clear hK K ht
          try simp only [Act.put, List.getElem_toArray, List.getElem_cons_zero, List.getElem_cons_succ, List.setIfInBounds_toArray, List.set_cons_zero, List.set_cons_succ]
          refine wpAnyH_take (i := 7) (v := ?v7q9) rfl (by kernel_rfl) (by kernel_rfl) (by kernel_rfl) (fun _ _ _ h => h) (Or.inl ⟨by rfl, ?hy7q9⟩) (by assumption) ?rest7q9
          case hy7q9 => (intro w hSw; (try dsimp only at hSw); go_simp <;> with_reducible rfl)
          try simp only [Act.put, List.getElem_toArray, List.getElem_cons_zero, List.getElem_cons_succ, List.setIfInBounds_toArray, List.set_cons_zero, List.set_cons_succ]
          refine wpAnyH_take (i := 11) (v := ?v11q10) rfl (by kernel_rfl) (by kernel_rfl) (by kernel_rfl) (fun _ _ _ h => h) (Or.inl ⟨by rfl, ?hy11q10⟩) (by assumption) ?rest11q10
          case hy11q10 => (intro w hSw; (try dsimp only at hSw); go_simp <;> with_reducible rfl)
          try simp only [Act.put, List.getElem_toArray, List.getElem_cons_zero, List.getElem_cons_succ, List.setIfInBounds_toArray, List.set_cons_zero, List.set_cons_succ]
          refine wpAnyH_take (i := 12) (v := ?v12q10) rfl (by kernel_rfl) (by kernel_rfl) (by kernel_rfl) (fun _ _ _ h => h) (Or.inl ⟨by rfl, ?hy12q10⟩) (by assumption) ?rest12q10
          case hy12q10 => (intro w hSw; (try dsimp only at hSw); go_simp <;> with_reducible rfl)
          try simp only [Act.put, List.getElem_toArray, List.getElem_cons_zero, List.getElem_cons_succ, List.setIfInBounds_toArray, List.set_cons_zero, List.set_cons_succ]
          refine wpAnyH_done (by kernel_rfl) ?_ _
          go_wp2_with fail
          go_meet
          exact ⟨rfl, HB4⟩
      · have ht := text2_row hty hfl HL2.out
        go_simp
        refine hK.out _ _ trivial (fun hHeld => ?_)
        clear hK K ht
        try simp only [Act.put, List.getElem_toArray, List.getElem_cons_zero, List.getElem_cons_succ, List.setIfInBounds_toArray, List.set_cons_zero, List.set_cons_succ]
        refine wpAnyH_ready (rs := [2]) (by kernel_rfl) (by simp) ?_
        refine AllReadyH.cons rfl (fun K hK => ?_) AllReadyH.nil
        go_simp
        go_at_call 18
        refine (hn3 _).mono ?_
        rintro e w3 ⟨rfl, hb⟩
        have HB3 := Lib.hid (HB2.out.trans (hb.mono HB2.out.size))
        have HL3 := Lib.hid (HL2.out.below hb HL2.out.lt)
        refine hK.out _ _ trivial (fun hHeld => ?_)
        clear hK K hb
        try simp only [Act.put, List.getElem_toArray, List.getElem_cons_zero, List.getElem_cons_succ, List.setIfInBounds_toArray, List.set_cons_zero, List.set_cons_succ]
        refine wpAnyH_take (i := 7) (v := ?v7q11) rfl (by kernel_rfl) (by kernel_rfl) (by kernel_rfl) (fun _ _ _ h => h) (Or.inl ⟨by rfl, ?hy7q11⟩) (by assumption) ?rest7q11
        case hy7q11 => (intro w hSw; (try dsimp only at hSw); go_simp <;> with_reducible rfl)
        try simp only [Act.put, List.getElem_toArray, List.getElem_cons_zero, List.getElem_cons_succ, List.setIfInBounds_toArray, List.set_cons_zero, List.set_cons_succ]
        refine wpAnyH_ready (rs := [10]) (by kernel_rfl) (by simp) ?_
        refine AllReadyH.cons rfl (fun K hK => ?_) AllReadyH.nil
        go_simp
        go_at_call 18
        refine (hn4 _).mono ?_
        rintro e w4 ⟨rfl, hb⟩
        have HB4 := Lib.hid (HB3.out.trans (hb.mono HB3.out.size))
        have HL4 := Lib.hid (HL3.out.below hb HL3.out.lt)
        refine hK.out _ _ trivial (fun hHeld => ?_)
        clear hK K hb
        try simp only [Act.put, List.getElem_toArray, List.getElem_cons_zero, List.getElem_cons_succ, List.setIfInBounds_toArray, List.set_cons_zero, List.set_cons_succ]
        refine wpAnyH_take (i := 11) (v := ?v11q12) rfl (by kernel_rfl) (by kernel_rfl) (by kernel_rfl) (fun _ _ _ h => h) (Or.inl ⟨by rfl, ?hy11q12⟩) (by assumption) ?rest11q12
        case hy11q12 => (intro w hSw; (try dsimp only at hSw); go_simp <;> with_reducible rfl)
        try simp only [Act.put, List.getElem_toArray, List.getElem_cons_zero, List.getElem_cons_succ, List.setIfInBounds_toArray, List.set_cons_zero, List.set_cons_succ]
        refine wpAnyH_take (i := 12) (v := ?v12q12) rfl (by kernel_rfl) (by kernel_rfl) (by kernel_rfl) (fun _ _ _ h => h) (Or.inl ⟨by rfl, ?hy12q12⟩) (by assumption) ?rest12q12
        case hy12q12 => (intro w hSw; (try dsimp only at hSw); go_simp <;> with_reducible rfl)
        try simp only [Act.put, List.getElem_toArray, List.getElem_cons_zero, List.getElem_cons_succ, List.setIfInBounds_toArray, List.set_cons_zero, List.set_cons_succ]
        refine wpAnyH_done (by kernel_rfl) ?_ _
        go_wp2_with fail
        go_meet
        exact ⟨rfl, HB4⟩
  case rest =>
    obtain ⟨rfl, HBa⟩ := hcut
    clear hn3 hn4 hadd1 hadd2
    generalize wc = wa at *
    have hmk : (Instr.makeSlice 23 (.int .i64 (k : Int)) (.int .i64 (k : Int))).run Tryd.prog wa = .ok (.slice (some ⟨wa.heap.size, 0, none⟩) k k) (wa.alloc (.cells (madeCells #[Value.int .u8 0] k) 5)) := by
      have := run_make (P := Tryd.prog) wa 23 5 i0 (.int .u8 0) Tryd.underlying23 hi0 hz0 .i64 .i64 k k (by omega) (by omega) (by rw [hz2]; omega) (by omega)
      rw [this, hz1, Nat.mul_one]
      rfl
    have HM := Lib.hid (Row.new wa 5 (madeCells #[Value.int .u8 0] k))
    have HBm := Lib.hid (HBa.out.alloc HBa.out.size (.cells (madeCells #[Value.int .u8 0] k) 5))
    have HSm : Hid (wa.heap.size + 1 = (wa.alloc (.cells (madeCells #[Value.int .u8 0] k) 5)).heap.size) := by show _ = _; simp
    go_upto_region 4 with fail
    generalize wa.alloc (.cells (madeCells #[Value.int .u8 0] k) 5) = wm at *
    have hpzb := HBa.out.size
    clear hmk HSm HBa
    generalize wa.heap.size = pz at *
    by_cases hk0 : 0 < k
    · have hk0' : (0 : Int) < (k : Int) := by omega
      have hf0 := HM.out.thawed 0
      have hc0 : wm.cell? ⟨pz, 0, none⟩ = some (.int .u8 0) := HM.out.cell (made_0 hk0)
      have HD := Lib.hid (made_set hf HM.out)
      have HBb := Lib.hid (HBm.out.setCell (p := ⟨pz, 0, none⟩) (by show _ ≤ pz; omega) (.int .u8 (f : Int)))
      have hbl := wbL_len k f
      generalize wbL k f = bL at *
      clear HM HBm hk0 hpzb
      go_upto_region 6 with fail
      generalize wm.setCell ⟨pz, 0, none⟩ (.int .u8 (f : Int)) = wb at *
      have htx : (convert 23 9 (.slice (some ⟨pz, 0, none⟩) k k)).run Tryd.prog wb = .ok (.string (tb bL)) wb := by
        have h1 := run_text (P := Tryd.prog) (c := k) Tryd.underlying23 Tryd.underlying5 Tryd.underlying9 HD.out
        rwa [hbl] at h1
      have hadd := tb_add L2 bL (by omega) (by omega)
      have hsl : (L2 ++ bL).length ≤ 20000 := by rw [List.length_append]; omega
      generalize L2 ++ bL = s at *
      go_upto_region 7 with fail
      clear HD hbl
      obtain ⟨c2, w2, hcv, hc2, hb2, _, hrd2⟩ := bytes_run s wb
      have HB2 := Lib.hid (HBb.out.trans (hb2.mono HBb.out.size))
      have HO2 : Hid (RdB w2 w2.heap.size (some ⟨wb.heap.size, 0, none⟩) s) := RdS.toB hrd2 (fun b _ h => h)
      have HLE : Hid ((getN s).1.dat.length ≤ 1000000 ∧ (getN s).1.sets.length ≤ 1000000) := by have := getN_le s; exact ⟨by omega, by omega⟩
      have HGET := Lib.hid (get_any HO2.out hc2 (by omega) (HG.out.below HB2.out))
      have hrget := fun (W : World) => rget_any (l := s) (by omega) W
      obtain ⟨RN, hRN⟩ : ∃ RN, RN = getN s := ⟨_, rfl⟩
      rw [← hRN] at HGET hrget HLE
      clear hRN hb2 hrd2 HO2 htx hadd hsl HBb hc2
      go_wp2_with fail
      refine HGET.out.mono ?_
      rintro e w1 ⟨x, rfl, hX, hB⟩
      obtain ⟨dA, dc, sA, sc, hx⟩ : ∃ dA dc sA sc, x = RN.1.fm dA dc sA sc := ⟨_, _, _, _, hX.eq⟩
      subst hx
      clear HGET hcv
      have HX0 : Hid (Row ((w1.alloc (.cells #[.int .u8 0, .int .u8 0, .int .u32 0, .slice none 0 0, .int .i64 0, .int .u32 0, .int .u32 0, .int .u8 0, .bool false, .int .u32 0, .slice none 0 0] 26)).alloc (.cells #[.int .u8 0, .int .u32 0] 37)) w1.heap.size 26 (fm0 0 0 0 0).c) := by show Row _ _ _ _; rw [z_c]; exact (Row.new w1 _ _).alloc _
      have hT0 : Row ((w1.alloc (.cells #[.int .u8 0, .int .u8 0, .int .u32 0, .slice none 0 0, .int .i64 0, .int .u32 0, .int .u32 0, .int .u8 0, .bool false, .int .u32 0, .slice none 0 0] 26)).alloc (.cells #[.int .u8 0, .int .u32 0] 37)) (w1.heap.size + 1) 37 (ftc 0 0) := by rw [hftc]; exact Row.made _ _ _ (by simp)
      have HT0 := Lib.hid (hT0.setRow' (k := w1.heap.size) (by omega) (RN.1.fm dA dc sA sc).c)
      have HBW : Hid (Below w1.heap.size w1 ((w1.alloc (.cells #[.int .u8 0, .int .u8 0, .int .u32 0, .slice none 0 0, .int .i64 0, .int .u32 0, .int .u32 0, .int .u8 0, .bool false, .int .u32 0, .slice none 0 0] 26)).alloc (.cells #[.int .u8 0, .int .u32 0] 37))) := ((Below.refl _ _).alloc (Nat.le_refl _) _).alloc (by simp) _
      have HXF := Lib.hid hX
      have HB1 := Lib.hid hB
      clear hT0 hX hB
      go_upto_region 8 with (first | (refine wpList_sfm (x := RN.1.fm dA dc sA sc) rfl _ _ rfl rfl rfl HX0.out ?_) | (refine wpList_sft (s := RN.2.1) (c := RN.2.2) rfl _ _ rfl rfl (by rw [hftc]; rfl) HT0.out ?_))
      obtain ⟨p, hp⟩ : ∃ p, p = w1.heap.size := ⟨_, rfl⟩
      have hpB := HB1.out.size
      have HX := Lib.hid ((HX0.out.setRow (RN.1.fm dA dc sA sc).c).setRow' (k := w1.heap.size + 1) (by omega) (ftc RN.2.1 RN.2.2))
      have HT := Lib.hid (HT0.out.setRow (ftc RN.2.1 RN.2.2))
      have HBx : Hid (Below w1.heap.size w1 ((((w1.alloc (.cells #[.int .u8 0, .int .u8 0, .int .u32 0, .slice none 0 0, .int .i64 0, .int .u32 0, .int .u32 0, .int .u8 0, .bool false, .int .u32 0, .slice none 0 0] 26)).alloc (.cells #[.int .u8 0, .int .u32 0] 37)).setRow w1.heap.size (RN.1.fm dA dc sA sc).c).setRow (w1.heap.size + 1) (ftc RN.2.1 RN.2.2))) := below_setRow (below_setRow HBW.out _ _ (Nat.le_refl _)) _ _ (by omega)
      generalize ((((w1.alloc (.cells #[.int .u8 0, .int .u8 0, .int .u32 0, .slice none 0 0, .int .i64 0, .int .u32 0, .int .u32 0, .int .u8 0, .bool false, .int .u32 0, .slice none 0 0] 26)).alloc (.cells #[.int .u8 0, .int .u32 0] 37)).setRow w1.heap.size (RN.1.fm dA dc sA sc).c).setRow (w1.heap.size + 1) (ftc RN.2.1 RN.2.2)) = wc at *
      have HXc := Lib.hid (HXF.out.below HBx.out)
      have HB := Lib.hid (HB1.out.trans (HBx.out.mono HB1.out.size))
      rw [← hp] at *
      clear hp
      clear HX0 HT0 HBW HXF HBx HB1
      go_wp2_with fail
      refine (hrget wc).mono ?_
      rintro e wd ⟨y, rfl, hY, hb⟩
      obtain ⟨eA, ec, tA, tc, hy⟩ : ∃ eA ec tA tc, y = RN.1.fm eA ec tA tc := ⟨_, _, _, _, hY.eq⟩
      subst hy
      have HXd := Lib.hid (HX.out.below hb HX.out.lt)
      have HTd := Lib.hid (HT.out.below hb HT.out.lt)
      have HXcd := Lib.hid (HXc.out.below hb)
      have HYcd := Lib.hid hY
      have HBd := Lib.hid (HB2.out.trans ((HB.out.trans (hb.mono HB.out.size)).mono HB2.out.size))
      clear hY hb hrget HX HT HXc HB HB2
      have HY0 : Hid (Row (wd.alloc (.cells #[.int .u8 0, .int .u8 0, .int .u32 0, .slice none 0 0, .int .i64 0, .int .u32 0, .int .u32 0, .int .u8 0, .bool false, .int .u32 0, .slice none 0 0, .int .u8 0, .int .u32 0] 34)) wd.heap.size 34 (fxc (fm0 0 0 0 0) 0 0)) := by show Row _ _ _ _; rw [fxz]; exact Row.made _ _ _ rfl
      have HBy : Hid (Below wd.heap.size wd ((wd.alloc (.cells #[.int .u8 0, .int .u8 0, .int .u32 0, .slice none 0 0, .int .i64 0, .int .u32 0, .int .u32 0, .int .u8 0, .bool false, .int .u32 0, .slice none 0 0, .int .u8 0, .int .u32 0] 34)).setRow wd.heap.size (fxc (RN.1.fm eA ec tA tc) RN.2.1 RN.2.2))) := below_setRow ((Below.refl _ _).alloc (Nat.le_refl _) _) _ _ (Nat.le_refl _)
      have HY : Hid (Row ((wd.alloc (.cells #[.int .u8 0, .int .u8 0, .int .u32 0, .slice none 0 0, .int .i64 0, .int .u32 0, .int .u32 0, .int .u8 0, .bool false, .int .u32 0, .slice none 0 0, .int .u8 0, .int .u32 0] 34)).setRow wd.heap.size (fxc (RN.1.fm eA ec tA tc) RN.2.1 RN.2.2)) wd.heap.size 34 (fxc (RN.1.fm eA ec tA tc) RN.2.1 RN.2.2)) := HY0.out.setRow _
      go_upto_region 9 with (refine wpList_sfx (x := RN.1.fm eA ec tA tc) (s := RN.2.1) (c := RN.2.2) rfl _ _ rfl rfl rfl HY0.out ?_)
      generalize ((wd.alloc (.cells #[.int .u8 0, .int .u8 0, .int .u32 0, .slice none 0 0, .int .i64 0, .int .u32 0, .int .u32 0, .int .u8 0, .bool false, .int .u32 0, .slice none 0 0, .int .u8 0, .int .u32 0] 34)).setRow wd.heap.size (fxc (RN.1.fm eA ec tA tc) RN.2.1 RN.2.2)) = we at *
      have HXe := Lib.hid (HXd.out.below HBy.out HXd.out.lt)
      have HTe := Lib.hid (HTd.out.below HBy.out HTd.out.lt)
      have HXce := Lib.hid (HXcd.out.below HBy.out)
      have HYce := Lib.hid (HYcd.out.below HBy.out)
      have HBe := Lib.hid (HBd.out.trans (HBy.out.mono HBd.out.size))
      obtain ⟨g7, hg7⟩ : ∃ g7, g7 = wd.heap.size := ⟨_, rfl⟩
      rw [← hg7] at HY ⊢
      clear hg7
      clear HY0 HBy HXd HTd HXcd HYcd HBd
      go_wp2_with fail
      refine (fixed_any7 _).mono ?_
      rintro e wf ⟨rfl, hb7⟩
      have HXf := Lib.hid (HXe.out.below hb7 HXe.out.lt)
      have HTf := Lib.hid (HTe.out.below hb7 HTe.out.lt)
      have HYf := Lib.hid (HY.out.below hb7 HY.out.lt)
      have HXcf := Lib.hid (HXce.out.below hb7)
      have HYcf := Lib.hid (HYce.out.below hb7)
      have HBf := Lib.hid (HBe.out.trans (hb7.mono HBe.out.size))
      clear hb7 HXe HTe HY HXce HYce HBe
      go_wp2_with (first | (refine wpList_fmg (by rfl) _ rfl rfl HXf.out ?_) | (refine wpList_lfxg (by rfl) _ rfl rfl HYf.out ?_))
      refine (rsame_any RN.1 HLE.out.1 HLE.out.2 (RdB.ofS HXcf.out.toR.dat fun _ _ h => h) (HXcf.out.toR.sets.imp fun _ _ h => h) (RdB.ofS HYcf.out.dat fun _ _ h => h) (HYcf.out.sets.imp fun _ _ h => h)).mono ?_
      rintro e wg ⟨rfl, hb8⟩
      have hTg := HTf.out.below hb8 HTf.out.lt
      have hYg := HYf.out.below hb8 HYf.out.lt
      have HBg := Lib.hid (HBf.out.trans (hb8.mono HBf.out.size))
      have f0 : wg.cell? ⟨p + 1, 0, none⟩ = some (.int .u8 (RN.2.1 : Int)) := hTg.cell (by rw [hftc]; rfl)
      have f1 : wg.cell? ⟨p + 1, 1, none⟩ = some (.int .u32 (RN.2.2 : Int)) := hTg.cell (by rw [hftc]; rfl)
      have y11 : wg.cell? ⟨g7, 11, none⟩ = some (.int .u8 (RN.2.1 : Int)) := fx_11 hYg
      have y12 : wg.cell? ⟨g7, 12, none⟩ = some (.int .u32 (RN.2.2 : Int)) := fx_12 hYg
      generalize RN.2.1 = rs at *
      generalize RN.2.2 = rc at *
      clear hb8 hTg hYg HXf HTf HYf HXcf HYcf HBf
      go_wp2_with fail
      go_ret
      exact ⟨by first | rfl | simp, HBg.out⟩
    · have hk0' : ¬ (0 : Int) < (k : Int) := by omega
      have HD := Lib.hid (made_row HM.out)
      have HBb := HBm
      have hbl : (List.replicate k (0 : UInt8)).length = k := List.length_replicate
      generalize List.replicate k (0 : UInt8) = bL at *
      clear HM HBm hk0
      go_upto_region 6 with fail
      generalize wm = wb at *
      have htx : (convert 23 9 (.slice (some ⟨pz, 0, none⟩) k k)).run Tryd.prog wb = .ok (.string (tb bL)) wb := by
        have h1 := run_text (P := Tryd.prog) (c := k) Tryd.underlying23 Tryd.underlying5 Tryd.underlying9 HD.out
        rwa [hbl] at h1
      have hadd := tb_add L2 bL (by omega) (by omega)
      have hsl : (L2 ++ bL).length ≤ 20000 := by rw [List.length_append]; omega
      generalize L2 ++ bL = s at *
      go_upto_region 7 with fail
      clear HD hbl
      obtain ⟨c2, w2, hcv, hc2, hb2, _, hrd2⟩ := bytes_run s wb
      have HB2 := Lib.hid (HBb.out.trans (hb2.mono HBb.out.size))
      have HO2 : Hid (RdB w2 w2.heap.size (some ⟨wb.heap.size, 0, none⟩) s) := RdS.toB hrd2 (fun b _ h => h)
      have HLE : Hid ((getN s).1.dat.length ≤ 1000000 ∧ (getN s).1.sets.length ≤ 1000000) := by have := getN_le s; exact ⟨by omega, by omega⟩
      have HGET := Lib.hid (get_any HO2.out hc2 (by omega) (HG.out.below HB2.out))
      have hrget := fun (W : World) => rget_any (l := s) (by omega) W
      obtain ⟨RN, hRN⟩ : ∃ RN, RN = getN s := ⟨_, rfl⟩
      rw [← hRN] at HGET hrget HLE
      clear hRN hb2 hrd2 HO2 htx hadd hsl HBb hc2
      go_wp2_with fail
      refine HGET.out.mono ?_
      rintro e w1 ⟨x, rfl, hX, hB⟩
      obtain ⟨dA, dc, sA, sc, hx⟩ : ∃ dA dc sA sc, x = RN.1.fm dA dc sA sc := ⟨_, _, _, _, hX.eq⟩
      subst hx
      clear HGET hcv
      have HX0 : Hid (Row ((w1.alloc (.cells #[.int .u8 0, .int .u8 0, .int .u32 0, .slice none 0 0, .int .i64 0, .int .u32 0, .int .u32 0, .int .u8 0, .bool false, .int .u32 0, .slice none 0 0] 26)).alloc (.cells #[.int .u8 0, .int .u32 0] 37)) w1.heap.size 26 (fm0 0 0 0 0).c) := by show Row _ _ _ _; rw [z_c]; exact (Row.new w1 _ _).alloc _
      have hT0 : Row ((w1.alloc (.cells #[.int .u8 0, .int .u8 0, .int .u32 0, .slice none 0 0, .int .i64 0, .int .u32 0, .int .u32 0, .int .u8 0, .bool false, .int .u32 0, .slice none 0 0] 26)).alloc (.cells #[.int .u8 0, .int .u32 0] 37)) (w1.heap.size + 1) 37 (ftc 0 0) := by rw [hftc]; exact Row.made _ _ _ (by simp)
      have HT0 := Lib.hid (hT0.setRow' (k := w1.heap.size) (by omega) (RN.1.fm dA dc sA sc).c)
      have HBW : Hid (Below w1.heap.size w1 ((w1.alloc (.cells #[.int .u8 0, .int .u8 0, .int .u32 0, .slice none 0 0, .int .i64 0, .int .u32 0, .int .u32 0, .int .u8 0, .bool false, .int .u32 0, .slice none 0 0] 26)).alloc (.cells #[.int .u8 0, .int .u32 0] 37))) := ((Below.refl _ _).alloc (Nat.le_refl _) _).alloc (by simp) _
      have HXF := Lib.hid hX
      have HB1 := Lib.hid hB
      clear hT0 hX hB
      go_upto_region 8 with (first | (refine wpList_sfm (x := RN.1.fm dA dc sA sc) rfl _ _ rfl rfl rfl HX0.out ?_) | (refine wpList_sft (s := RN.2.1) (c := RN.2.2) rfl _ _ rfl rfl (by rw [hftc]; rfl) HT0.out ?_))
      obtain ⟨p, hp⟩ : ∃ p, p = w1.heap.size := ⟨_, rfl⟩
      have hpB := HB1.out.size
      have HX := Lib.hid ((HX0.out.setRow (RN.1.fm dA dc sA sc).c).setRow' (k := w1.heap.size + 1) (by omega) (ftc RN.2.1 RN.2.2))
      have HT := Lib.hid (HT0.out.setRow (ftc RN.2.1 RN.2.2))
      have HBx : Hid (Below w1.heap.size w1 ((((w1.alloc (.cells #[.int .u8 0, .int .u8 0, .int .u32 0, .slice none 0 0, .int .i64 0, .int .u32 0, .int .u32 0, .int .u8 0, .bool false, .int .u32 0, .slice none 0 0] 26)).alloc (.cells #[.int .u8 0, .int .u32 0] 37)).setRow w1.heap.size (RN.1.fm dA dc sA sc).c).setRow (w1.heap.size + 1) (ftc RN.2.1 RN.2.2))) := below_setRow (below_setRow HBW.out _ _ (Nat.le_refl _)) _ _ (by omega)
      generalize ((((w1.alloc (.cells #[.int .u8 0, .int .u8 0, .int .u32 0, .slice none 0 0, .int .i64 0, .int .u32 0, .int .u32 0, .int .u8 0, .bool false, .int .u32 0, .slice none 0 0] 26)).alloc (.cells #[.int .u8 0, .int .u32 0] 37)).setRow w1.heap.size (RN.1.fm dA dc sA sc).c).setRow (w1.heap.size + 1) (ftc RN.2.1 RN.2.2)) = wc at *
      have HXc := Lib.hid (HXF.out.below HBx.out)
      have HB := Lib.hid (HB1.out.trans (HBx.out.mono HB1.out.size))
      rw [← hp] at *
      clear hp
      clear HX0 HT0 HBW HXF HBx HB1
      go_wp2_with fail
      refine (hrget wc).mono ?_
      rintro e wd ⟨y, rfl, hY, hb⟩
      obtain ⟨eA, ec, tA, tc, hy⟩ : ∃ eA ec tA tc, y = RN.1.fm eA ec tA tc := ⟨_, _, _, _, hY.eq⟩
      subst hy
      have HXd := Lib.hid (HX.out.below hb HX.out.lt)
      have HTd := Lib.hid (HT.out.below hb HT.out.lt)
      have HXcd := Lib.hid (HXc.out.below hb)
      have HYcd := Lib.hid hY
      have HBd := Lib.hid (HB2.out.trans ((HB.out.trans (hb.mono HB.out.size)).mono HB2.out.size))
      clear hY hb hrget HX HT HXc HB HB2
      have HY0 : Hid (Row (wd.alloc (.cells #[.int .u8 0, .int .u8 0, .int .u32 0, .slice none 0 0, .int .i64 0, .int .u32 0, .int .u32 0, .int .u8 0, .bool false, .int .u32 0, .slice none 0 0, .int .u8 0, .int .u32 0] 34)) wd.heap.size 34 (fxc (fm0 0 0 0 0) 0 0)) := by show Row _ _ _ _; rw [fxz]; exact Row.made _ _ _ rfl
      have HBy : Hid (Below wd.heap.size wd ((wd.alloc (.cells #[.int .u8 0, .int .u8 0, .int .u32 0, .slice none 0 0, .int .i64 0, .int .u32 0, .int .u32 0, .int .u8 0, .bool false, .int .u32 0, .slice none 0 0, .int .u8 0, .int .u32 0] 34)).setRow wd.heap.size (fxc (RN.1.fm eA ec tA tc) RN.2.1 RN.2.2))) := below_setRow ((Below.refl _ _).alloc (Nat.le_refl _) _) _ _ (Nat.le_refl _)
      have HY : Hid (Row ((wd.alloc (.cells #[.int .u8 0, .int .u8 0, .int .u32 0, .slice none 0 0, .int .i64 0, .int .u32 0, .int .u32 0, .int .u8 0, .bool false, .int .u32 0, .slice none 0 0, .int .u8 0, .int .u32 0] 34)).setRow wd.heap.size (fxc (RN.1.fm eA ec tA tc) RN.2.1 RN.2.2)) wd.heap.size 34 (fxc (RN.1.fm eA ec tA tc) RN.2.1 RN.2.2)) := HY0.out.setRow _
      go_upto_region 9 with (refine wpList_sfx (x := RN.1.fm eA ec tA tc) (s := RN.2.1) (c := RN.2.2) rfl _ _ rfl rfl rfl HY0.out ?_)
      generalize ((wd.alloc (.cells #[.int .u8 0, .int .u8 0, .int .u32 0, .slice none 0 0, .int .i64 0, .int .u32 0, .int .u32 0, .int .u8 0, .bool false, .int .u32 0, .slice none 0 0, .int .u8 0, .int .u32 0] 34)).setRow wd.heap.size (fxc (RN.1.fm eA ec tA tc) RN.2.1 RN.2.2)) = we at *
      have HXe := Lib.hid (HXd.out.below HBy.out HXd.out.lt)
      have HTe := Lib.hid (HTd.out.below HBy.out HTd.out.lt)
      have HXce := Lib.hid (HXcd.out.below HBy.out)
      have HYce := Lib.hid (HYcd.out.below HBy.out)
      have HBe := Lib.hid (HBd.out.trans (HBy.out.mono HBd.out.size))
      obtain ⟨g7, hg7⟩ : ∃ g7, g7 = wd.heap.size := ⟨_, rfl⟩
      rw [← hg7] at HY ⊢
      clear hg7
      clear HY0 HBy HXd HTd HXcd HYcd HBd
      go_wp2_with fail
      refine (fixed_any7 _).mono ?_
      rintro e wf ⟨rfl, hb7⟩
      have HXf := Lib.hid (HXe.out.below hb7 HXe.out.lt)
      have HTf := Lib.hid (HTe.out.below hb7 HTe.out.lt)
      have HYf := Lib.hid (HY.out.below hb7 HY.out.lt)
      have HXcf := Lib.hid (HXce.out.below hb7)
      have HYcf := Lib.hid (HYce.out.below hb7)
      have HBf := Lib.hid (HBe.out.trans (hb7.mono HBe.out.size))
      clear hb7 HXe HTe HY HXce HYce HBe
      go_wp2_with (first | (refine wpList_fmg (by rfl) _ rfl rfl HXf.out ?_) | (refine wpList_lfxg (by rfl) _ rfl rfl HYf.out ?_))
      refine (rsame_any RN.1 HLE.out.1 HLE.out.2 (RdB.ofS HXcf.out.toR.dat fun _ _ h => h) (HXcf.out.toR.sets.imp fun _ _ h => h) (RdB.ofS HYcf.out.dat fun _ _ h => h) (HYcf.out.sets.imp fun _ _ h => h)).mono ?_
      rintro e wg ⟨rfl, hb8⟩
      have hTg := HTf.out.below hb8 HTf.out.lt
      have hYg := HYf.out.below hb8 HYf.out.lt
      have HBg := Lib.hid (HBf.out.trans (hb8.mono HBf.out.size))
      have f0 : wg.cell? ⟨p + 1, 0, none⟩ = some (.int .u8 (RN.2.1 : Int)) := hTg.cell (by rw [hftc]; rfl)
      have f1 : wg.cell? ⟨p + 1, 1, none⟩ = some (.int .u32 (RN.2.2 : Int)) := hTg.cell (by rw [hftc]; rfl)
      have y11 : wg.cell? ⟨g7, 11, none⟩ = some (.int .u8 (RN.2.1 : Int)) := fx_11 hYg
      have y12 : wg.cell? ⟨g7, 12, none⟩ = some (.int .u32 (RN.2.2 : Int)) := fx_12 hYg
      generalize RN.2.1 = rs at *
      generalize RN.2.2 = rc at *
      clear hb8 hTg hYg HXf HTf HYf HXcf HYcf HBf
      go_wp2_with fail
      go_ret
      exact ⟨by first | rfl | simp, HBg.out⟩
end Go.Proofs.YteeglgkmenlecaaDoor
