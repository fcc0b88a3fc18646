/-
  The document's table: its size, the field of a number, the number of a field, by their contracts. Conditions: each field of fewer than 2^31 bytes, all of fewer than 2^32.
-/
import Derived.Test.YteoneedehfijhaaDra
import Derived.Test.YteoneedehfijhaaDat
import Derived.Test.YteoneedehfijhaaDfind
import Derived.Test.YteoneedehfijhaaSref
namespace Go.Proofs.Yteoneedehfijhaa
open Go.RowKit Go.WideShapes

attribute [local irreducible] tot shr sz wit addL first fndN fndB isN isB nmL vlL tab rtabC named numT hasT isBT isNT

set_option maxRecDepth 100000 in
set_option maxHeartbeats 2000000 in
theorem rtsize_any {w : World} {A : Option Addr} {c M : Nat} {R : List Fd} (hR : RdS w (· < w.heap.size) A (enl fdc R)) (hL : tot R ≤ 4294967296) (hs : ∀ f ∈ R, sz f ≤ 2147483648) :
    Calls Try.prog 19 #[tv A R.length c M] w fun e w' => e = .returned (.int .i64 (tot R : Int)) ∧ Below w.heap.size w w' := by
  have hlen : R.length ≤ 134217728 := by have := tot_len R; omega
  unfold tv
  go_enter Try.func19, Try.ntmps19
  go_wp2_with fail
  have hB0 : Row (w.alloc (.cells #[.slice A R.length c, .int .i64 (M : Int)] 30)) w.heap.size 30 #[.slice A R.length c, .int .i64 (M : Int)] := Row.new w _ _
  have HB0 := Lib.hid hB0
  have HW := Lib.hid ((Below.refl w.heap.size w).alloc (Nat.le_refl _) (.cells #[.slice A R.length c, .int .i64 (M : Int)] 30))
  clear hB0
  generalize w.alloc (.cells #[.slice A R.length c, .int .i64 (M : Int)] 30) = w0 at *
  go_loopw [3, 8] (fun n i wr => ∃ (k T : Nat), k ≤ R.length ∧ i = .int .i64 k ∧ n = .int .i64 T ∧ Hid (T = tot (R.take k)) ∧ Hid (Row wr w.heap.size 30 #[.slice A R.length c, .int .i64 (M : Int)]) ∧ Hid (Below w.heap.size w wr))
    (fun _ i _ => R.length - (intOf i).toNat)
  case atStart => exact ⟨0, 0, Nat.zero_le _, rfl, rfl, by show _ = _; rw [List.take_zero, tot_nil0], HB0, HW⟩
  case round =>
    clear HB0 HW
    obtain ⟨k, T, hk, rfl, rfl, hT, hB0, hW⟩ := hrel
    by_cases hlt : k < R.length
    · obtain ⟨b, q, rfl, hb, f0, f1, f2⟩ := (hR.below hW.out).field hlt
      have c0 := hB0.out.cell (j := 0) rfl
      have hsz := rsize_any R[k] (hs _ (List.getElem_mem hlt))
      have htd := tot_take hlt
      have hT0 := tot_take_le R (k + 1)
      rw [← hT.out] at htd
      have HTD := Lib.hid htd
      have hTb : T + sz R[k] ≤ 4294967296 := by omega
      unfold fv tx at hsz
      unfold tx at f0 f1
      generalize R[k].nm = x at *
      generalize R[k].vl = y at *
      generalize R[k].nv = z at *
      generalize sz R[k] = Z at *
      clear htd hT0
      go_wp2_with fail
      refine (hsz _).mono ?_
      rintro e w2 ⟨rfl, hb2⟩
      have hB2 := Lib.hid (hB0.out.below hb2 hB0.out.lt)
      have hW2 := Lib.hid (hW.out.trans (hb2.mono hW.out.size))
      clear hb2
      go_wp2_with fail
      go_roundw
      case rel => exact ⟨k + 1, T + Z, by omega, by go_num, by go_num, HTD.out.symm, hB2, hW2⟩
      case measure => simp [intOf]; omega
    · obtain rfl : k = R.length := by omega
      have hE : Hid (T = tot R) := by
        show _ = _
        have := hT.out
        rwa [List.take_of_length_le (Nat.le_refl _)] at this
      go_wp2_with fail
      go_ret
      refine ⟨?_, hW.out⟩
      rw [← hE.out]
      rfl

set_option maxRecDepth 100000 in
set_option maxHeartbeats 2000000 in
theorem rtat_known {w : World} {A : Option Addr} {n c M : Nat} (k : Nat) (hk : k < 61) : Calls Try.prog 15 #[tv A n c M, .int .i64 ((k : Int) + 1)] w fun e w' => e = .returned (.tuple #[.agg #[tx (nmL k), tx (vlL k), .bool false], .bool true]) ∧ Below w.heap.size w w' := by
  have hat := rat_yes k hk
  unfold tv tx at *
  generalize nmL k = x at hat ⊢
  generalize vlL k = y at hat ⊢
  go_enter Try.func15, Try.ntmps15
  go_wp2_with fail
  refine (hat _).mono ?_
  rintro e w2 ⟨rfl, hb2⟩
  have HR := (Row.made (g := w.heap.size + 1) (w.alloc (.cells #[.slice A n c, .int .i64 (M : Int)] 30)) 32 #[.string ⟨#[]⟩, .string ⟨#[]⟩, .bool false] (by simp)).below hb2 (by simp)
  have HB := Lib.hid ((((Below.refl w.heap.size w).alloc (Nat.le_refl _) _).alloc (by simp) _).trans (hb2.mono (by simp; omega)))
  clear hb2 hat
  go_wp2_with (refine wpList_store_row rfl 32 (.tmp 4) (.tmp 18) rfl (w.heap.size + 1) #[.string ⟨x.toArray⟩, .string ⟨y.toArray⟩, .bool false] rfl rfl 32 _ HR (field_cells _ rfl) rfl (by kernel_rfl) ?_)
  refine bodyPost_ret (ret_field rfl _ _ (w.heap.size + 1) _ rfl (HR.setRow _) rfl) rfl ⟨rfl, below_setRow HB.out _ _ (by omega)⟩

set_option maxRecDepth 100000 in
set_option maxHeartbeats 2000000 in
theorem rtat_low {w : World} {A : Option Addr} {m c M : Nat} (n : Int) (hn : n < 1) : Calls Try.prog 15 #[tv A m c M, .int .i64 n] w fun e w' => e = .returned (.tuple #[fv0, .bool false]) ∧ Below w.heap.size w w' := by
  have hat := rat_no n (.inl hn)
  have hle : n < 62 := by omega
  unfold fv0 tv tx at *
  go_enter Try.func15, Try.ntmps15
  go_wp2_with fail
  refine (hat _).mono ?_
  rintro e w2 ⟨rfl, hb2⟩
  have HR := (Row.made (g := w.heap.size + 1) (w.alloc (.cells #[.slice A m c, .int .i64 (M : Int)] 30)) 32 #[.string ⟨#[]⟩, .string ⟨#[]⟩, .bool false] (by simp)).below hb2 (by simp)
  have HB := Lib.hid ((((Below.refl w.heap.size w).alloc (Nat.le_refl _) _).alloc (by simp) _).trans (hb2.mono (by simp; omega)))
  clear hb2 hat
  go_wp2_with (refine wpList_store_row rfl 32 (.tmp 4) (.tmp 29) rfl (w.heap.size + 1) #[.string ⟨#[]⟩, .string ⟨#[]⟩, .bool false] rfl rfl 32 _ HR (field_cells _ rfl) rfl (by kernel_rfl) ?_)
  refine bodyPost_ret (ret_field rfl _ _ (w.heap.size + 1) _ rfl (HR.setRow _) rfl) rfl ⟨rfl, below_setRow HB.out _ _ (by omega)⟩

set_option maxRecDepth 100000 in
set_option maxHeartbeats 2000000 in
theorem rtat_far {w : World} {A : Option Addr} {m c M : Nat} (n : Int) (hn : 62 + (m : Int) ≤ n) (hn2 : n ≤ 9223372036854775807) : Calls Try.prog 15 #[tv A m c M, .int .i64 n] w fun e w' => e = .returned (.tuple #[fv0, .bool false]) ∧ Below w.heap.size w w' := by
  have hat := rat_no n (.inr (by omega))
  have hle : decide (n < 62) = false := by simp; omega
  have hge : (m : Int) ≤ n - 62 := by omega
  unfold fv0 tv tx at *
  go_enter Try.func15, Try.ntmps15
  go_wp2_with fail
  refine (hat _).mono ?_
  rintro e w2 ⟨rfl, hb2⟩
  have HR := (Row.made (g := w.heap.size + 1) (w.alloc (.cells #[.slice A m c, .int .i64 (M : Int)] 30)) 32 #[.string ⟨#[]⟩, .string ⟨#[]⟩, .bool false] (by simp)).below hb2 (by simp)
  have HRT := ((Row.new w 30 #[.slice A m c, .int .i64 (M : Int)]).alloc (.cells #[.string ⟨#[]⟩, .string ⟨#[]⟩, .bool false] 32)).below hb2 (by simp; omega)
  have c0 := HRT.cell (j := 0) rfl
  have HB := Lib.hid ((((Below.refl w.heap.size w).alloc (Nat.le_refl _) _).alloc (by simp) _).trans (hb2.mono (by simp; omega)))
  clear hb2 hat HRT
  go_wp2_with (refine wpList_store_row rfl 32 (.tmp 4) (.tmp 29) rfl (w.heap.size + 1) #[.string ⟨#[]⟩, .string ⟨#[]⟩, .bool false] rfl rfl 32 _ HR (field_cells _ rfl) rfl (by kernel_rfl) ?_)
  refine bodyPost_ret (ret_field rfl _ _ (w.heap.size + 1) _ rfl (HR.setRow _) rfl) rfl ⟨rfl, below_setRow HB.out _ _ (by omega)⟩

set_option maxRecDepth 100000 in
set_option maxHeartbeats 2000000 in
theorem rtat_dyn {w : World} {A : Option Addr} {c M : Nat} {R : List Fd} (hR : RdS w (· < w.heap.size) A (enl fdc R)) (i : Nat) (hi : i < R.length) (hL : R.length ≤ 2147483648) :
    Calls Try.prog 15 #[tv A R.length c M, .int .i64 (62 + (i : Int))] w fun e w' => e = .returned (.tuple #[fv R[i], .bool true]) ∧ Below w.heap.size w w' := by
  have hat := rat_no (62 + (i : Int)) (.inr (by omega))
  have hle : decide ((62 : Int) + i < 62) = false := by simp; omega
  have hge : decide ((R.length : Int) ≤ 62 + (i : Int) - 62) = false := by simp; omega
  have hsb : (62 : Int) + i - 62 = (i : Int) := by omega
  have hi0 : (0 : Int) ≤ (i : Int) := by omega
  have hi1 : (i : Int) < (R.length : Int) := by omega
  obtain ⟨b, q, rfl, hb, e0, e1, e2⟩ := hR.field hi
  unfold fv tv tx at *
  generalize R[i].nm = x at e0 ⊢
  generalize R[i].vl = y at e1 ⊢
  generalize R[i].nv = z at e2 ⊢
  go_enter Try.func15, Try.ntmps15
  go_wp2_with fail
  refine (hat _).mono ?_
  rintro e w2 ⟨rfl, hb2⟩
  have HR := (Row.made (g := w.heap.size + 1) (w.alloc (.cells #[.slice (some ⟨b, q, none⟩) R.length c, .int .i64 (M : Int)] 30)) 32 #[.string ⟨#[]⟩, .string ⟨#[]⟩, .bool false] (by simp)).below hb2 (by simp)
  have HRT := ((Row.new w 30 #[.slice (some ⟨b, q, none⟩) R.length c, .int .i64 (M : Int)]).alloc (.cells #[.string ⟨#[]⟩, .string ⟨#[]⟩, .bool false] 32)).below hb2 (by simp; omega)
  have c0 := HRT.cell (j := 0) rfl
  have hB := (((Below.refl w.heap.size w).alloc (Nat.le_refl _) _).alloc (by simp) _).trans (hb2.mono (by simp; omega))
  have f0 := (hB.cell (p := ⟨b, q + i * 3, none⟩) hb).trans e0
  have f1 := (hB.cell (p := ⟨b, q + i * 3 + 1, none⟩) hb).trans e1
  have f2 := (hB.cell (p := ⟨b, q + i * 3 + 2, none⟩) hb).trans e2
  have HB := Lib.hid hB
  clear hb2 hat HRT hB e0 e1 e2
  go_wp2_with (refine wpList_store_row rfl 32 (.tmp 4) (.tmp 35) rfl (w.heap.size + 1) #[.string ⟨x.toArray⟩, .string ⟨y.toArray⟩, .bool z] rfl rfl 32 _ HR (field_cells _ rfl) rfl (by kernel_rfl) ?_)
  refine bodyPost_ret (ret_field rfl _ _ (w.heap.size + 1) _ rfl (HR.setRow _) rfl) rfl ⟨rfl, below_setRow HB.out _ _ (by omega)⟩

theorem firstS {p : Nat → Bool} {n k : Nat} (h0 : first p k = 0) (h1 : p k = true) (hk : k < n) : first p n = k + 1 := by
  have h2 := first_hit h0 h1
  have h3 := first_more (p := p) (k := k + 1) (m := n) (by omega) (by omega)
  omega

set_option maxRecDepth 100000 in
set_option maxHeartbeats 4000000 in
theorem rtfind_any {w : World} {A : Option Addr} {c M : Nat} {R : List Fd} (a b : List UInt8) (hR : RdS w (· < w.heap.size) A (enl fdc R)) (hL : R.length ≤ 2147483648) :
    Calls Try.prog 17 #[tv A R.length c M, tx a, tx b] w fun e w' => e = .returned (.tuple #[.int .i64 (numT a b R : Int), .bool (hasT a b R)]) ∧ Below w.heap.size w w' := by
  have hf := rfind_any a b
  unfold tv tx at *
  cases hB : fndB a b with
  | true =>
    have hk := num_known (R := R) hB
    rw [hB] at hf
    rw [hk.1, hk.2]
    clear hk hB
    generalize fndN a b = n at hf ⊢
    go_enter Try.func17, Try.ntmps17
    go_wp2_with fail
    refine (hf _).mono ?_
    rintro e w1 ⟨rfl, hb1⟩
    have HB := Lib.hid (((Below.refl w.heap.size w).alloc (Nat.le_refl _) _).trans (hb1.mono (by simp)))
    clear hb1
    go_wp2_with fail
    go_ret2
    exact ⟨rfl, HB.out⟩
  | false =>
    rw [hB] at hf
    have HB := Lib.hid hB
    have HNN : Hid (numT a b R = numT a b R ∧ fndN a b ≤ 61) := by
      show _ ∧ _
      refine ⟨rfl, ?_⟩
      have := named_le (a := a) (b := b) (R := R) (k := 0)
      rw [named_zero] at this
      omega
    obtain ⟨N, hN⟩ : ∃ N, N = fndN a b := ⟨_, rfl⟩
    rw [← hN] at hf
    have hN61 : N ≤ 61 := by rw [hN]; exact HNN.out.2
    have HN := Lib.hid hN
    clear hB hN HNN
    go_enter Try.func17, Try.ntmps17
    go_wp2_with fail
    refine (hf _).mono ?_
    rintro e w1 ⟨rfl, hb1⟩
    have hB0 := (Row.new w 30 #[.slice A R.length c, .int .i64 (M : Int)]).below hb1 (by simp)
    have hW := ((Below.refl w.heap.size w).alloc (Nat.le_refl _) _).trans (hb1.mono (by simp))
    have hR1 := hR.below hW
    have c0 := hB0.cell (j := 0) rfl
    have HW := Lib.hid hW
    clear hb1 hf hB0 hW
    go_wp2_with fail
    go_loop [23] (fun i => ∃ k : Nat, k ≤ R.length ∧ i = .int .i64 k ∧ Hid (first (isBT a b R) k = 0)) (fun i => R.length - (intOf i).toNat)
    case atStart => exact ⟨0, Nat.zero_le _, rfl, first_zero⟩
    case round =>
      obtain ⟨k, hk, rfl, hM⟩ := hrel
      by_cases hlt : k < R.length
      · obtain ⟨bk, q, rfl, hb, f0, f1, f2⟩ := hR1.field hlt
        have hBT := isBT_at (a := a) (b := b) hlt
        unfold tx at f0 f1
        generalize R[k].nm = x at f0 hBT
        generalize R[k].vl = y at f1 hBT
        have HBT := Lib.hid hBT
        clear hBT
        by_cases hx : x = a
        · have e1 : (x == a) = true := by rw [hx, beq_self_eq_true]
          by_cases hy : y = b
          · have e2 : (y == b) = true := by rw [hy, beq_self_eq_true]
            have hb : isBT a b R k = true := by rw [HBT.out, hx, hy]; simp
            have HRR := Lib.hid (num_hit HB.out hlt hM.out hb)
            clear hx hy hb hM
            go_wp2_with fail
            go_ret2
            refine ⟨?_, HW.out⟩
            rw [HRR.out.1, HRR.out.2]
            exact ret_num (by omega)
          · have e2 : (y == b) = false := by rw [beq_eq_false_iff_ne]; exact hy
            have hM2 : Hid (first (isBT a b R) (k + 1) = 0) := by
              show _ = _
              rw [first_miss (by rw [HBT.out]; simp [hy])]
              exact hM.out
            clear hx hy hM
            go_wp2_with fail
            go_round
            case rel => exact ⟨k + 1, by omega, by go_num, hM2⟩
            case measure => simp [intOf]; omega
        · have e1 : (x == a) = false := by rw [beq_eq_false_iff_ne]; exact hx
          have hM2 : Hid (first (isBT a b R) (k + 1) = 0) := by
            show _ = _
            rw [first_miss (by rw [HBT.out]; simp [hx])]
            exact hM.out
          clear hx hM
          go_wp2_with fail
          go_round
          case rel => exact ⟨k + 1, by omega, by go_num, hM2⟩
          case measure => simp [intOf]; omega
      · obtain rfl : k = R.length := by omega
        have HRR := Lib.hid (num_named HB.out hM.out)
        clear hM
        go_wp2_with fail
        go_loop [8, 50] (fun nd i => ∃ (n k : Nat), k ≤ R.length ∧ i = .int .i64 k ∧ nd = .int .i64 n ∧ n ≤ 61 + k ∧ Hid (n = named a b R k)) (fun _ i => R.length - (intOf i).toNat)
        case atStart => exact ⟨N, 0, Nat.zero_le _, rfl, rfl, by omega, by show _ = _; rw [named_zero]; exact HN.out⟩
        case round =>
          obtain ⟨n, k, hk, rfl, rfl, hn, hNm⟩ := hrel
          by_cases hlt : k < R.length
          · by_cases hn0 : n = 0
            · obtain ⟨bk, q, rfl, hb, f0, f1, f2⟩ := hR1.field hlt
              have hNT := isNT_at (a := a) hlt
              unfold tx at f0 f1
              generalize R[k].nm = x at f0 hNT
              have HNT := Lib.hid hNT
              clear hNT f1 f2
              by_cases hx : x = a
              · have e1 : (x == a) = true := by rw [hx, beq_self_eq_true]
                have hN2 : Hid (62 + k = named a b R (k + 1)) := by
                  show _ = _
                  rw [named_hit (by rw [← hNm.out]; exact hn0) (by rw [HNT.out]; simp [hx])]
                clear hx hNm
                subst hn0
                go_wp2_with fail
                go_round
                case rel => exact ⟨62 + k, k + 1, by omega, by go_num, by (congr 1), by omega, hN2⟩
                case measure => simp [intOf]; omega
              · have e1 : (x == a) = false := by rw [beq_eq_false_iff_ne]; exact hx
                have hN2 : Hid (0 = named a b R (k + 1)) := by
                  show _ = _
                  rw [named_miss (by rw [HNT.out]; simp [hx]), ← hNm.out]
                  exact hn0.symm
                clear hx hNm
                subst hn0
                go_wp2_with fail
                go_round
                case rel => exact ⟨0, k + 1, by omega, by go_num, rfl, by omega, hN2⟩
                case measure => simp [intOf]; omega
            · have hN2 : Hid (n = named a b R (k + 1)) := by
                show _ = _
                rw [named_keep (by rw [← hNm.out]; exact hn0)]
                exact hNm.out
              have e3 : ((n : Int) == 0) = false := by rw [beq_eq_false_iff_ne]; omega
              clear hNm
              go_wp2_with fail
              go_round
              case rel => exact ⟨n, k + 1, by omega, by go_num, rfl, by omega, hN2⟩
              case measure => simp [intOf]; omega
          · obtain rfl : k = R.length := by omega
            have hE : Hid (n = numT a b R ∧ hasT a b R = false) := by
              show _ ∧ _
              refine ⟨?_, HRR.out.2⟩
              rw [HRR.out.1, hNm.out]
              unfold named
              rfl
            clear hNm
            go_wp2_with fail
            go_ret2
            refine ⟨?_, HW.out⟩
            rw [← hE.out.1, hE.out.2]
            rfl
end Go.Proofs.Yteoneedehfijhaa
