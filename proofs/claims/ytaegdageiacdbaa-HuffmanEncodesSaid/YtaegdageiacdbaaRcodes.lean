/-
  The document's Codes, by its contract.
-/
import Derived.Test.YtaegdageiacdbaaRsiz
namespace Go.Proofs.Ytaegdageiacdbaa
open Go.RowKit Go.WideShapes

def strs (f : Nat → List Bool) : Array Value := rowF 257 fun j => .string (bs (f j))
theorem strs_at (f : Nat → List Bool) {j : Nat} (h : j < 257) : (strs f)[j]? = some (.string (bs (f j))) := rowF_at _ h
theorem strs_set (f : Nat → List Bool) (i : Nat) (v : List Bool) : (strs f).setIfInBounds i (.string (bs v)) = strs fun j => if j = i then v else f j := by
  unfold strs
  rw [rowF_set]
  apply rowF_congr
  intro j _
  by_cases e : j = i <;> simp [e]
theorem strs_congr {f g : Nat → List Bool} (h : ∀ j, j < 257 → f j = g j) : strs f = strs g := rowF_congr fun j hj => by rw [h j hj]
theorem str_info : (Try.prog.info? 9).map (fun i => (i.zero, i.size, i.bytes)) = some (some (.string ⟨#[]⟩), 1, 16) := by kernel_rfl
theorem made_strs : madeCells #[Value.string ⟨#[]⟩] (257 * 1) = strs fun _ => [] := by kernel_rfl
theorem make_strs (W : World) : (Instr.makeSlice 26 (.int .i64 257) (.int .i64 257)).run Try.prog W = .ok (.slice (some ⟨W.heap.size, 0, none⟩) 257 257) (W.alloc (.cells (strs fun _ => []) 9)) := by
  cases hi : Try.prog.info? 9 with
  | none => have := str_info; rw [hi] at this; simp at this
  | some i =>
    have h := str_info
    rw [hi] at h
    simp at h
    have := run_make (P := Try.prog) W 26 9 i (.string ⟨#[]⟩) Try.underlying26 hi h.1 .i64 .i64 257 257 (by omega) (by omega) (by rw [h.2.2]; omega) (by omega)
    rw [this, h.2.1]
    rw [← made_strs]
    rfl
def strLen : Value → Nat
  | .string b => b.size
  | _ => 0

/-- What the document's Codes leaves: a row of all signs' codes, as texts. -/
def RCodes (w : World) (e : Ending) (w' : World) : Prop :=
  ∃ g, e = .returned (.slice (some ⟨g, 0, none⟩) 257 257) ∧ w.heap.size ≤ g ∧ Row w' g 9 (strs codeB) ∧ Below w.heap.size w w'

/-- The texts ahead of sign i among those of n bits. -/
def upto (n i : Nat) : Array Value := strs fun j => if ln j < n ∨ (ln j = n ∧ j < i) then codeB j else []
theorem upto_start : upto 1 0 = strs fun _ => [] := strs_congr fun j hj => by
  have := ln_all j hj
  rw [if_neg (by omega)]
theorem upto_pass {n i : Nat} (h : ln i ≠ n) : upto n (i + 1) = upto n i := strs_congr fun j _ => by
  by_cases e : j = i
  · subst e
    have : (ln j < n ∨ (ln j = n ∧ j < j + 1)) = (ln j < n ∨ (ln j = n ∧ j < j)) := by apply propext; omega
    simp only [this]
  · have : (ln j < n ∨ (ln j = n ∧ j < i + 1)) = (ln j < n ∨ (ln j = n ∧ j < i)) := by apply propext; omega
    simp only [this]
theorem upto_set {n i : Nat} (h : ln i = n) : (upto n i).setIfInBounds i (.string (bs (codeB i))) = upto n (i + 1) := by
  unfold upto
  rw [strs_set]
  apply strs_congr
  intro j _
  by_cases e : j = i
  · subst e; rw [if_pos rfl, if_pos (by omega)]
  · rw [if_neg e]
    have : (ln j < n ∨ (ln j = n ∧ j < i + 1)) = (ln j < n ∨ (ln j = n ∧ j < i)) := by apply propext; omega
    simp only [this]
theorem upto_row (n : Nat) : upto n 257 = upto (n + 1) 0 := strs_congr fun j hj => by
  have : (ln j < n ∨ (ln j = n ∧ j < 257)) = (ln j < n + 1 ∨ (ln j = n + 1 ∧ j < 0)) := by apply propext; omega
  simp only [this]
theorem upto_all : upto 31 0 = strs codeB := strs_congr fun j hj => by
  have := ln_all j hj
  rw [if_pos (by omega)]

set_option maxRecDepth 100000 in
set_option maxHeartbeats 1000000 in
theorem rcodes_any (w : World) : Calls Try.prog 11 #[] w (RCodes w) := by
  have hmk := make_strs
  go_enter Try.func11, Try.ntmps11
  go_wp2_with fail
  refine (sizes_any _).mono ?_
  rintro e w1 ⟨rfl, rfl⟩
  go_wp2_with fail
  clear hmk
  have RS : Row ((w.alloc (.cells lenC 3)).alloc (.cells (strs fun _ => []) 9)) w.heap.size 3 lenC := (Row.new w _ _).alloc _
  have RC : Row ((w.alloc (.cells lenC 3)).alloc (.cells (strs fun _ => []) 9)) (w.heap.size + 1) 9 (upto 1 0) := by rw [upto_start]; exact Row.made _ _ _ (by simp)
  have RB : Below w.heap.size w ((w.alloc (.cells lenC 3)).alloc (.cells (strs fun _ => []) 9)) := ((Below.refl _ _).alloc (Nat.le_refl _) _).alloc (by simp) _
  go_loopw [3, 4] (fun s n wr => ∃ (n' : Nat) (p : List Bool), 1 ≤ n' ∧ n' ≤ 31 ∧ n = .int .i64 n' ∧ s = .string (bs p) ∧ p.length ≤ 30 ∧ Hid (Grow n' 0 p) ∧ Hid (Row wr w.heap.size 3 lenC) ∧ Hid (Row wr (w.heap.size + 1) 9 (upto n' 0)) ∧ Hid (Below w.heap.size w wr))
    (fun _ n _ => 31 - (intOf n).toNat)
  case atStart => exact ⟨1, [], by omega, by omega, rfl, rfl, by simp, grow_start, RS, RC, RB⟩
  case round =>
    clear RS RC RB
    obtain ⟨n, p, hn1, hn31, rfl, rfl, hp, hG, hS, hC, hB⟩ := hrel
    by_cases hlt : n < 31
    · have hn30 : (n : Int) ≤ 30 := by omega
      go_wp2_with fail
      go_loopw [3, 14] (fun s i wr => ∃ (i' : Nat) (p : List Bool), i' ≤ 257 ∧ i = .int .i64 i' ∧ s = .string (bs p) ∧ p.length ≤ 30 ∧ Hid (Grow n i' p) ∧ Hid (Row wr w.heap.size 3 lenC) ∧ Hid (Row wr (w.heap.size + 1) 9 (upto n i')) ∧ Hid (Below w.heap.size w wr))
        (fun _ i _ => 257 - (intOf i).toNat)
      case atStart => exact ⟨0, p, by omega, rfl, rfl, hp, hG, hS, hC, hB⟩
      case round =>
        clear hp hG hS hC hB
        obtain ⟨i, p, hi, rfl, rfl, hp, hG, hS, hC, hB⟩ := hrel
        by_cases hlt2 : i < 257
        · have hcell := hS.out.cell (lenC_at hlt2)
          by_cases hm : ln i = n
          · obtain ⟨hs1, hs2, hs3⟩ := grow_code hG.out hlt2 hm
            have hset := upto_set hm
            rw [hm] at hcell
            have hcs : ∃ v, wr.cell? ⟨w.heap.size + 1, i, none⟩ = some v := ⟨_, hC.out.cell (strs_at _ hlt2)⟩
            obtain ⟨v, hcs⟩ := hcs
            have hfr := hC.out.thawed i
            have Hs2 := Lib.hid hs2
            have Hs3 := Lib.hid hs3
            have Hset := Lib.hid hset
            have hm' := Lib.hid hm
            clear hs2 hs3 hset hG hm
            by_cases hp0 : p = []
            · subst hp0
              have hpe : (bs []).toList.isEmpty = true := by rw [bs_list]; rfl
              rw [seed_nil] at Hs2 hs1
              generalize hq : ([] : List Bool) = q at Hs2 hs1 hpe ⊢
              clear hq
              go_wp2_with fail
              go_loop [3] (fun s => ∃ (r : Nat) (x : List Bool), s = .string (bs x) ∧ x.length = q.length + r ∧ q.length + r ≤ n ∧ Hid (x = q ++ List.replicate r false)) (fun s => n - strLen s)
              case atStart => exact ⟨0, q, rfl, rfl, hs1, by show _ = _; simp⟩
              case round =>
                obtain ⟨r, x, rfl, hxl, hr, hx⟩ := hrel
                have hsz := bs_size x
                have hxl2 : x.length ≤ n := by omega
                by_cases hlt3 : x.length < n
                · have hadd := add_bs x [false] (by omega) (by simp)
                  have hs0 : bs [false] = ⟨#[48]⟩ := rfl
                  rw [hs0] at hadd
                  have hx2 : Hid (x ++ [false] = q ++ List.replicate (r + 1) false) := by
                    show _ = _
                    rw [hx.out, List.replicate_succ']; simp
                  have hx3 : Hid ((x ++ [false]).length = x.length + 1) := by show _ = _; simp
                  have HXL := Lib.hid hxl
                  clear hs0 hx hxl hr
                  generalize x ++ [false] = y at hadd hx2 hx3
                  go_wp2_with fail
                  go_round
                  case rel => exact ⟨r + 1, y, rfl, by rw [hx3.out, HXL.out]; omega, by have := HXL.out; omega, hx2⟩
                  case measure => simp only [strLen, bs_size, hx3.out]; omega
                · have hxe : Hid (x = codeB i) := by
                    show _ = _
                    rw [hx.out, ← Hs2.out]
                    congr 2
                    omega
                  have hxd : decide ((x.length : Int) < n) = false := by simp; omega
                  clear hx hxl hr
                  go_wp2_with fail
                  go_roundw
                  case rel =>
                    refine ⟨i + 1, x, by omega, by go_num, rfl, by omega, ?_, hS.out.stored' (by simp) _, ?_, hB.out.setCell (by simp) _⟩
                    · rw [hxe.out]; exact Hs3.out
                    · have := hC.out.stored i (.string (bs x))
                      rw [hxe.out, Hset.out] at this
                      rw [hxe.out]
                      exact this
                  case measure => simp [intOf]; omega
            · have hse := seed_more hp0
              rw [hse] at Hs2 hs1
              have hone := one_any p (by omega)
              generalize (inc p).1 = q at Hs2 hs1 hone
              have hpe : (bs p).toList.isEmpty = false := by
                rw [bs_list]
                cases p with
                | nil => exact absurd rfl hp0
                | cons b p => rfl
              clear hse hp0
              go_wp2_with fail
              refine (hone _).mono ?_
              rintro e w' ⟨rfl, rfl⟩
              go_wp2_with fail
              go_loop [3] (fun s => ∃ (r : Nat) (x : List Bool), s = .string (bs x) ∧ x.length = q.length + r ∧ q.length + r ≤ n ∧ Hid (x = q ++ List.replicate r false)) (fun s => n - strLen s)
              case atStart => exact ⟨0, q, rfl, rfl, hs1, by show _ = _; simp⟩
              case round =>
                obtain ⟨r, x, rfl, hxl, hr, hx⟩ := hrel
                have hsz := bs_size x
                have hxl2 : x.length ≤ n := by omega
                by_cases hlt3 : x.length < n
                · have hadd := add_bs x [false] (by omega) (by simp)
                  have hs0 : bs [false] = ⟨#[48]⟩ := rfl
                  rw [hs0] at hadd
                  have hx2 : Hid (x ++ [false] = q ++ List.replicate (r + 1) false) := by
                    show _ = _
                    rw [hx.out, List.replicate_succ']; simp
                  have hx3 : Hid ((x ++ [false]).length = x.length + 1) := by show _ = _; simp
                  have HXL := Lib.hid hxl
                  clear hs0 hx hxl hr
                  generalize x ++ [false] = y at hadd hx2 hx3
                  go_wp2_with fail
                  go_round
                  case rel => exact ⟨r + 1, y, rfl, by rw [hx3.out, HXL.out]; omega, by have := HXL.out; omega, hx2⟩
                  case measure => simp only [strLen, bs_size, hx3.out]; omega
                · have hxe : Hid (x = codeB i) := by
                    show _ = _
                    rw [hx.out, ← Hs2.out]
                    congr 2
                    omega
                  have hxd : decide ((x.length : Int) < n) = false := by simp; omega
                  clear hx hxl hr
                  go_wp2_with fail
                  go_roundw
                  case rel =>
                    refine ⟨i + 1, x, by omega, by go_num, rfl, by omega, ?_, hS.out.stored' (by simp) _, ?_, hB.out.setCell (by simp) _⟩
                    · rw [hxe.out]; exact Hs3.out
                    · have := hC.out.stored i (.string (bs x))
                      rw [hxe.out, Hset.out] at this
                      rw [hxe.out]
                      exact this
                  case measure => simp [intOf]; omega
          · have hmd : ((ln i : Int) != (n : Int)) = true := by rw [bne_iff_ne]; omega
            have hme : ((ln i : Int) == (n : Int)) = false := by rw [beq_eq_false_iff_ne]; omega
            have hG2 := Lib.hid (grow_pass hG.out hlt2 hm)
            have hC2 : Hid (Row wr (w.heap.size + 1) 9 (upto n (i + 1))) := by
              show Row _ _ _ _
              rw [upto_pass hm]; exact hC.out
            clear hm hG hC
            generalize ln i = m at hcell hmd hme
            go_wp2_with fail
            go_roundw
            case rel => exact ⟨i + 1, p, by omega, by go_num, rfl, hp, hG2, hS, hC2, hB⟩
            case measure => simp [intOf]; omega
        · obtain rfl : i = 257 := by omega
          have hG2 := Lib.hid (grow_row hG.out)
          have hC2 : Hid (Row wr (w.heap.size + 1) 9 (upto (n + 1) 0)) := by
            show Row _ _ _ _
            rw [← upto_row]; exact hC.out
          clear hG hC
          go_wp2_with fail
          go_roundw
          case rel => exact ⟨n + 1, p, by omega, by omega, by go_num, rfl, hp, hG2, hS, hC2, hB⟩
          case measure => simp [intOf]; omega
    · obtain rfl : n = 31 := by omega
      have hC2 : Hid (Row wr (w.heap.size + 1) 9 (strs codeB)) := by
        show Row _ _ _ _
        rw [← upto_all]; exact hC.out
      clear hC hG
      go_wp2_with fail
      go_ret
      exact ⟨_, rfl, by omega, hC2.out, hB.out⟩
end Go.Proofs.Ytaegdageiacdbaa
