/-
  The program's Decode, by its contract. Conditions: at most 12000 bytes.
-/
import Derived.Test.YtfajffchnnalaaaHby
import Derived.Test.YtfajffchnnalaaaHdecm
import Derived.Test.YtfajffchnnalaaaHenc
namespace Go.Proofs.Ytfajffchnnalaaa
open Go.RowKit Go.WideShapes Go.Maps

set_option maxRecDepth 100000 in
theorem wpList_look {P : Program} {ops : Array Oper} {rest : List Oper} {o : Oper} {a : Act} {w : World} {Q : Exit → Act → World → Prop} (hg : o.guard = none) (m x : Operand) (t : TypeId) (hop : o.op = Op.lookup t m x true)
    (mval key v : Value) (hm : a.eval m = mval) (hx : a.eval x = key) (hrun : (Instr.lookup t mval key true).run P w = .ok v w)
    (hK : wpList P ops Q rest (a.put o.dst v) w) : wpList P ops Q (o :: rest) a w := by
  refine wpList_plain hg fun K' hK' => ?_
  unfold Oper.wp
  simp [execOp, hop, hm, hx, hrun, Result.andThen]
  exact hK' _ _ hK
set_option maxRecDepth 100000 in
theorem cell_new2 (w : World) (g : Nat) (n : Int) (t : TypeId) (cs : Array Value) (hg : g = w.heap.size) (h : cs[0]? = some (.int .u8 n) := by rfl) : (w.alloc (.cells cs t)).cell? ⟨g, 0, none⟩ = some (.int .u8 n) := by
  rw [hg]; exact cell_new w n t cs h

/-- What Decode answers: the text, or the error. -/
def DecE (o : Option (List UInt8)) (e : Ending) : Prop := e = .returned (.tuple #[.string ⟨(o.getD []).toArray⟩, .int .i64 (if o.isSome then 0 else 3)])

set_option maxRecDepth 100000 in
theorem code_zero : (Try.prog.info? 127).map (fun i => (i.zero, i.size)) = some (some (.agg #[.int .u32 0, .int .i64 0]), 2) := by kernel_rfl
theorem val_nil32 : ((val [] % 4294967296 : Nat) : Int) = 0 := by simp [val]
def codeC (p : List Bool) : Array Value := #[.int .u32 ((val p % 4294967296 : Nat) : Int), .int .i64 (p.length : Int)]
set_option maxRecDepth 100000 in
theorem codeC_nil : codeC [] = #[.int .u32 0, .int .i64 0] := by
  unfold codeC
  rw [val_nil32]
  rfl
set_option maxRecDepth 100000 in
theorem codeC_more (p : List Bool) (b : Bool) (n m : Nat) (hn : n = val (p ++ [b]) % 4294967296) (hm : m = p.length) : ((codeC p).setIfInBounds 0 (.int .u32 (n : Int))).setIfInBounds 1 (.int .i64 ((m : Int) + 1)) = codeC (p ++ [b]) := by
  subst hn hm
  simp [codeC]
set_option maxRecDepth 100000 in
theorem code_cells {w : World} {g : Nat} {p : List Bool} (h : Row w g 127 (codeC p)) : ∃ v0 v1, w.cell? ⟨g, 0, none⟩ = some v0 ∧ w.cell? ⟨g, 1, none⟩ = some v1 ∧ w.frozen? ⟨g, 0, none⟩ = false ∧ w.frozen? ⟨g, 1, none⟩ = false :=
  ⟨_, _, h.cell rfl, h.cell rfl, h.thawed 0, h.thawed 1⟩
set_option maxRecDepth 100000 in
theorem codeC_zero (p : List Bool) : ((codeC p).setIfInBounds 0 (.int .u32 0)).setIfInBounds 1 (.int .i64 0) = codeC [] := by
  rw [codeC_nil]
  simp [codeC]

set_option maxRecDepth 100000 in
set_option maxHeartbeats 2000000 in
theorem dec_any (A : Option Addr) (c : Nat) (l : List UInt8) (hl : l.length ≤ 12000) (w : World) (hr : RdB w w.heap.size A l) :
    Calls Try.prog 75 #[.slice A l.length c] w fun e w' => DecE (decL l) e ∧ Below w.heap.size w w' := by
  obtain ⟨i0, hi0, hz0, hz1, hz2⟩ := info_parts u8_info
  obtain ⟨hzc, _⟩ := zero_of_info code_zero
  obtain ⟨F, hF⟩ : ∃ F, F = runB (unpack l) ([], []) := ⟨_, rfl⟩
  have hD : decL l = finB F := by unfold decL; rw [← hF]
  have HF := Lib.hid hF
  have HD := Lib.hid hD
  clear hF hD
  generalize decL l = D at HD
  have HRd := Lib.hid hr
  clear hr
  go_enter Try.func75, Try.ntmps75
  go_wp2_with fail
  refine (by_any _).mono ?_
  rintro e w1 ⟨g, rfl, hg, hM, hb1⟩
  have hgl := hM.lt
  have hs1 := hb1.size
  have HM := Lib.hid (hM.alloc (.cells #[.int .u32 0, .int .i64 0] 127))
  have HB := Lib.hid (hb1.alloc hs1 (.cells #[.int .u32 0, .int .i64 0] 127))
  have hR0 : Row (w1.alloc (.cells #[.int .u32 0, .int .i64 0] 127)) w1.heap.size 127 (codeC []) := by rw [codeC_nil]; exact Row.new w1 _ _
  have HR := Lib.hid hR0
  clear hR0
  clear hM hb1
  go_wp2_with fail
  go_loopw [5, 16] (fun v i wr => ∃ (k : Nat) (A2 : Option Addr) (c2 : Nat) (out : List UInt8) (p : List Bool), k ≤ l.length ∧ i = .int .i64 k ∧ v = .slice A2 out.length c2 ∧ out.length ≤ 8 * k ∧ p.length ≤ 8 * k ∧ Hid (runB (unpack (l.drop k)) (out, p) = F) ∧ Hid (OwB wr (w1.heap.size + 1) 5 (.slice A2 out.length c2) out) ∧ Hid (Row wr w1.heap.size 127 (codeC p)) ∧ Hid (MapAt wr g 257) ∧ Hid (Below w.heap.size w wr) ∧ w1.heap.size < wr.heap.size)
    (fun _ i _ => l.length - (intOf i).toNat)
  case atStart => exact ⟨0, none, 0, [], [], Nat.zero_le _, rfl, rfl, Nat.zero_le _, Nat.zero_le _, HF.out.symm, OwB.nil, HR, HM, HB, by simp⟩
  case round =>
    obtain ⟨k, A2, c2, out, p, hk, rfl, rfl, hol, hpl, hE, hO, hR, hM, hB, hz⟩ := hrel
    by_cases hlt : k < l.length
    · obtain ⟨ga, oa, rfl, hga, hcell⟩ := HRd.out (by rintro rfl; simp at hlt)
      have hc0 : wr.cell? ⟨ga, oa + k, none⟩ = some (.int .u8 (l[k].toNat : Int)) := (hB.out.cell (p := ⟨ga, oa + k, none⟩) hga).trans (hcell k hlt)
      have hE2 : Hid (runB ((byteB l[k]).drop 0 ++ unpack (l.drop (k + 1))) (out, p) = F) := by
        show _ = _
        have e : unpack (l.drop k) = byteB l[k] ++ unpack (l.drop (k + 1)) := by
          rw [List.drop_eq_getElem_cons hlt]; rfl
        rw [← hE.out, e, List.drop_zero]
      have Hcell := Lib.hid hcell
      clear hcell hE
      generalize l[k] = x at hc0 hE2
      obtain ⟨rest, hrest⟩ : ∃ rest, unpack (l.drop (k + 1)) = rest := ⟨_, rfl⟩
      rw [hrest] at hE2
      have hrest := Lib.hid hrest
      go_wp2_with fail
      go_loopw [5, 20] (fun v j wr => ∃ (j' : Nat) (A2 : Option Addr) (c2 : Nat) (out : List UInt8) (p : List Bool), j' ≤ 8 ∧ j = .int .i64 j' ∧ v = .slice A2 out.length c2 ∧ out.length ≤ 8 * k + j' ∧ p.length ≤ 8 * k + j' ∧ Hid (runB ((byteB x).drop j' ++ rest) (out, p) = F) ∧ Hid (OwB wr (w1.heap.size + 1) 5 (.slice A2 out.length c2) out) ∧ Hid (Row wr w1.heap.size 127 (codeC p)) ∧ Hid (MapAt wr g 257) ∧ Hid (Below w.heap.size w wr) ∧ w1.heap.size < wr.heap.size)
        (fun _ j _ => 8 - (intOf j).toNat)
      case atStart => exact ⟨0, A2, c2, out, p, by omega, rfl, rfl, hol, hpl, hE2, hO, hR, hM, hB, hz⟩
      case round =>
        clear hE2 hO hR hM hB hz hol hpl
        obtain ⟨j', A2, c2, out, p, hj, rfl, rfl, hol, hpl, hE2, hO, hR, hM, hB, hz⟩ := hrel
        by_cases hj8 : j' < 8
        · obtain ⟨e, he⟩ : ∃ e : Nat, j' + e = 7 := ⟨7 - j', by omega⟩
          have hei : (7 : Int) - j' = (e : Int) := by omega
          have hjb : j' < (byteB x).length := by rw [byteB_len]; exact hj8
          have hbit := bit_walk (x := x) he hjb
          have hE3 : Hid ((stepB (out, p) ((byteB x)[j']'hjb)).bind (runB ((byteB x).drop (j' + 1) ++ rest)) = F) := by
            show _ = _
            rw [← hE2.out, List.drop_eq_getElem_cons hjb]
            rfl
          generalize (byteB x)[j']'hjb = b at hbit hE3
          have hnum := num_walk p b
          have hp32 : val p % 4294967296 < 4294967296 := Nat.mod_lt _ (by omega)
          have hc1 : wr.cell? ⟨w1.heap.size, 0, none⟩ = some (.int .u32 ((val p % 4294967296 : Nat) : Int)) := hR.out.cell rfl
          have hc2 : wr.cell? ⟨w1.heap.size, 1, none⟩ = some (.int .i64 (p.length : Int)) := hR.out.cell rfl
          have hf1 := hR.out.thawed 0
          have hf2 := hR.out.thawed 1
          have hq32 : val (p ++ [b]) % 4294967296 < 4294967296 := Nat.mod_lt _ (by omega)
          have hqn : Hid (∀ n : Nat, n = val (p ++ [b]) % 4294967296 → lookB (p ++ [b]) = none → ∀ i, i < 257 → ¬ (cd i = n ∧ ln i = p.length + 1)) := by
            rintro n rfl hno i hi ⟨h1, h2⟩
            refine lookB_none hno i hi (val_inj ?_ ?_)
            · rw [codeB_len, h2]; simp
            · have h30 := (ln_all i hi).2
              have hlt := val_lt (p ++ [b])
              have hpw : 2 ^ (p ++ [b]).length ≤ 2 ^ 30 := Nat.pow_le_pow_right (by omega) (by simp; omega)
              rw [Nat.mod_eq_of_lt (by omega)] at h1
              rw [codeB_val hi, h1]
          have hqy : Hid (∀ i, lookB (p ++ [b]) = some i → i < 257 ∧ cd i = val (p ++ [b]) % 4294967296 ∧ ln i = p.length + 1) := by
            intro i hi
            obtain ⟨h1, h2⟩ := lookB_some hi
            refine ⟨h1, ?_, by rw [← codeB_len, h2]; simp⟩
            rw [← h2, codeB_val h1, Nat.mod_eq_of_lt (cd_u32 h1)]
          obtain ⟨n', hn'⟩ : ∃ n', n' = val (p ++ [b]) % 4294967296 := ⟨_, rfl⟩
          obtain ⟨n, hn⟩ : ∃ n, n = val p % 4294967296 := ⟨_, rfl⟩
          obtain ⟨m, hm⟩ : ∃ m, m = p.length := ⟨_, rfl⟩
          rw [← hn', ← hn] at hnum
          rw [← hn'] at hq32 hqy
          rw [← hn] at hc1 hp32
          rw [← hm] at hc2 hqn hqy
          have hmi : (m : Int) + 1 = ((m + 1 : Nat) : Int) := rfl
          have hpl' : m ≤ 8 * k + j' := by omega
          have hbb : b.toNat < 256 := by cases b <;> decide
          obtain ⟨bn, hbn⟩ : ∃ bn, bn = b.toNat := ⟨_, rfl⟩
          rw [← hbn] at hbit hnum hbb
          rw [IntKind.wrap_u32] at hnum
          have HNs := Lib.hid hn
          have HNn := Lib.hid hn'
          have HMs := Lib.hid hm
          have Hbn := Lib.hid hbn
          clear hE2 hn hn' hm hbn hpl hmi
          cases hlk : lookB (p ++ [b]) with
          | none =>
            have hno := hqn.out n' HNn.out hlk
            have hE4 : Hid (runB ((byteB x).drop (j' + 1) ++ rest) (out, p ++ [b]) = F) := by
              show _ = _
              rw [← hE3.out, step_none hlk]; rfl
            have Hno := Lib.hid hno
            have hlk' := Lib.hid hlk
            clear hno hlk hE3 hqn hqy
            go_wp2_with (at_lookup; go_loud (refine wpList_look rfl _ _ _ rfl _ _ _ rfl rfl (look_no (x := n') (n := m + 1) ((hM.out.setCell (by simp; omega) _).setCell (by simp; omega) _) (by omega) (by omega) Hno.out) ?_))
            go_roundw
            case rel =>
              refine ⟨j' + 1, A2, c2, out, p ++ [b], by omega, by go_num, rfl, by omega, by have := HMs.out; simp; omega, hE4, ?_, ?_, ?_, ?_, by simpa using hz⟩
              · exact (hO.out.setCell (by simp) _).setCell (by simp) _
              · have := (hR.out.stored 0 (.int .u32 (n' : Int))).stored 1 (.int .i64 ((m : Int) + 1))
                rw [codeC_more p b n' m HNn.out HMs.out] at this
                exact this
              · exact (hM.out.setCell (by simp; omega) _).setCell (by simp; omega) _
              · exact (hB.out.setCell (by simp; omega) _).setCell (by simp; omega) _
            case measure => simp [intOf]; omega
          | some i =>
            obtain ⟨hi, h1, h2⟩ := hqy.out i hlk
            have hrun : Hid (∀ W, MapAt W g 257 → (Instr.lookup 131 (.map (some g)) (.agg #[.int .u32 (n' : Int), .int .i64 ((m + 1 : Nat) : Int)]) true).run Try.prog W = .ok (.tuple #[.int .i64 (i : Int), .bool true]) W) := fun W h => by
              have := look_yes h hi
              rw [h1, h2] at this
              exact this
            clear h1 h2
            by_cases h256 : i = 256
            · subst h256
              have hF0 : F = none := by rw [← hE3.out, step_end hlk]; rfl
              have hD0 : D = none := by rw [HD.out, hF0]; rfl
              subst hD0
              clear hF0 hlk hE3 hqn hqy
              go_wp2_with (at_lookup; go_loud (refine wpList_look rfl _ _ _ rfl _ _ (.tuple #[.int .i64 256, .bool true]) rfl rfl (hrun.out _ ((hM.out.setCell (by simp; omega) _).setCell (by simp; omega) _)) ?_))
              go_ret2
              exact ⟨rfl, (hB.out.setCell (by simp; omega) _).setCell (by simp; omega) _⟩
            · have hE4 : Hid (runB ((byteB x).drop (j' + 1) ++ rest) (out ++ [UInt8.ofNat i], []) = F) := by
                show _ = _
                rw [← hE3.out, step_sign hlk h256]; rfl
              have hne : ((i : Int) == 256) = false := by rw [beq_eq_false_iff_ne]; omega
              have hi256 : i < 256 := by omega
              have hw8 : IntKind.u8.wrap (i : Int) = (i : Int) := by rw [IntKind.wrap_u8']; omega
              clear hlk hE3 hqn hqy h256
              have hO2 := Lib.hid ((hO.out.setCell (a := ⟨w1.heap.size, 0, none⟩) (by simp) (.int .u32 (n' : Int))).setCell (a := ⟨w1.heap.size, 1, none⟩) (by simp) (.int .i64 ((m : Int) + 1)))
              have hM2 := Lib.hid ((hM.out.setCell (a := ⟨w1.heap.size, 0, none⟩) (by simp; omega) (.int .u32 (n' : Int))).setCell (a := ⟨w1.heap.size, 1, none⟩) (by simp; omega) (.int .i64 ((m : Int) + 1)))
              have hB2 := Lib.hid ((hB.out.setCell (p := ⟨w1.heap.size, 0, none⟩) (by simp; omega) (.int .u32 (n' : Int))).setCell (p := ⟨w1.heap.size, 1, none⟩) (by simp; omega) (.int .i64 ((m : Int) + 1)))
              have hR2 : Hid (Row ((wr.setCell ⟨w1.heap.size, 0, none⟩ (.int .u32 (n' : Int))).setCell ⟨w1.heap.size, 1, none⟩ (.int .i64 ((m : Int) + 1))) w1.heap.size 127 (codeC (p ++ [b]))) := by
                have := (hR.out.stored 0 (.int .u32 (n' : Int))).stored 1 (.int .i64 ((m : Int) + 1))
                rw [codeC_more p b n' m HNn.out HMs.out] at this
                exact this
              go_wp2_with (first
                | (at_lookup; go_loud (refine wpList_look rfl _ _ _ rfl _ _ (.tuple #[.int .i64 (i : Int), .bool true]) rfl rfl (hrun.out _ ((hM.out.setCell (by simp; omega) _).setCell (by simp; omega) _)) ?_))
                | (at_builtin; go_loud (refine wpList_appB1 rfl (.tmp 48) (.tmp 51) _ rfl (w1.heap.size + 1) 5 i0 Try.underlying38 hi0 hz0 hz1 hz2 _ out rfl (World.ownsRow.alloc hO2.out _) wr.heap.size _ _ rfl (cell_new2 _ _ _ _ _ (by simp)) (by omega) (by omega) (by omega) (by simp; omega) ?_; intro A3 c3 L3 w3 hL3 ho3 hb3; have hR3 := hR2.out.below (((Below.refl _ _).alloc (by simp; omega) _).trans hb3) (Nat.lt_succ_self _); obtain ⟨v0, v1, k0, k1, k2, k3⟩ := code_cells hR3; have HR3 := Lib.hid hR3; clear hR3)))
              have hsw : wr.heap.size + 1 ≤ w3.heap.size := by have := hb3.size; simp at this; omega
              have hLe : L3 = out ++ [UInt8.ofNat i] := by rw [hL3.out]; simp
              go_roundw
              case rel =>
                refine ⟨j' + 1, A3, c3, L3, [], by omega, by go_num, rfl, by rw [hLe]; simp; omega, by simp, by rw [hLe]; exact hE4, ?_, ?_, ?_, ?_, by simp; omega⟩
                · exact (ho3.setCell (by simp) _).setCell (by simp) _
                · have := (HR3.out.stored 0 (.int .u32 0)).stored 1 (.int .i64 0)
                  rw [codeC_zero] at this
                  exact this
                · exact (((hM2.out.alloc _).below hb3 (by omega)).setCell (by simp; omega) _).setCell (by simp; omega) _
                · exact ((hB2.out.trans (((Below.refl _ _).alloc (by simp; omega) _).trans (hb3.mono (by omega)))).setCell (by simp; omega) _).setCell (by simp; omega) _
              case measure => simp [intOf]; omega
        · obtain rfl : j' = 8 := by omega
          have hE5 : Hid (runB rest (out, p) = F) := by
            have := hE2.out
            rw [List.drop_of_length_le (by rw [byteB_len]; omega), List.nil_append] at this
            exact this
          clear hE2
          go_wp2_with fail
          go_roundw
          case rel => exact ⟨k + 1, A2, c2, out, p, by omega, by go_num, rfl, by omega, by omega, by rw [← hrest.out] at hE5; exact hE5, hO, hR, hM, hB, hz⟩
          case measure => simp [intOf]; omega
    · obtain rfl : k = l.length := by omega
      have hFe : F = some (out, p) := by
        rw [← hE.out, List.drop_of_length_le (Nat.le_refl _)]; rfl
      obtain ⟨v0, v1, k0, k1, _, _⟩ := code_cells hR.out
      have hc1 : wr.cell? ⟨w1.heap.size, 0, none⟩ = some (.int .u32 ((val p % 4294967296 : Nat) : Int)) := hR.out.cell rfl
      have hc2 : wr.cell? ⟨w1.heap.size, 1, none⟩ = some (.int .i64 (p.length : Int)) := hR.out.cell rfl
      clear k0 k1 hE
      obtain ⟨A3, c3, e1, _, _, hrd⟩ := hO.out.shape
      injection e1 with e1 _ e3
      subst e1 e3
      by_cases h8 : 8 ≤ p.length
      · have hD0 : D = none := by rw [HD.out, hFe]; simp [finB]; omega
        subst hD0
        have h8d : decide ((8 : Int) ≤ (p.length : Int)) = true := by simp; omega
        clear hFe
        go_wp2_with fail
        go_quiet (fail)
        go_wp2_with fail
        go_ret2
        exact ⟨rfl, below_dN hB.out _⟩
      · have hone := ones_any3 p.length (by omega)
        have h8d : decide ((8 : Int) ≤ (p.length : Int)) = false := by simp; omega
        have hvl := val_lt p
        have hpw : 2 ^ p.length ≤ 2 ^ 8 := Nat.pow_le_pow_right (by omega) (by omega)
        have hoi := ones_iff (p := p)
        rw [Nat.mod_eq_of_lt (by omega)] at hc1
        obtain ⟨o, hoe⟩ : ∃ o, o = 2 ^ p.length - 1 := ⟨_, rfl⟩
        rw [← hoe] at hone hoi
        have hone2 : ∀ W : World, Calls Try.prog 80 #[.int .i64 (p.length : Int)] W fun e w' => e = .returned (.int .u32 (o : Int)) ∧ w' = W := fun W => (hone W).mono fun e w' h => ⟨h.1, h.2.symm⟩
        have hpl8 : p.length < 8 := by omega
        obtain ⟨m, hm⟩ : ∃ m, m = p.length := ⟨_, rfl⟩
        obtain ⟨n, hn⟩ : ∃ n, n = val p := ⟨_, rfl⟩
        rw [← hn] at hc1 hoi
        rw [← hm] at hc2 hone2 h8d
        have HFe := Lib.hid hFe
        have Hoi := Lib.hid hoi
        clear hone hvl hpw hoe hFe hoi hn
        by_cases hno : n = o
        · have hD1 : D = some out := by
            rw [HD.out, HFe.out]
            simp only [finB]
            rw [if_pos ⟨hpl8, Hoi.out.2 hno⟩]
          subst hD1
          subst hno
          have htx : ∀ q, (convert 38 9 (.slice A2 out.length c2)).run Try.prog (wr.drewN q) = .ok (.string ⟨out.toArray⟩) (wr.drewN q) := fun q => run_text Try.underlying38 Try.underlying5 Try.underlying9 (hrd.keep fun _ _ => rfl)
          clear hm hpl8 hrd
          go_wp2_with fail
          go_quiet ((go_at_call 80; exact Calls.quiet_of_same (hone2 _)))
          go_wp2_with fail
          go_ret2
          exact ⟨rfl, below_dN hB.out _⟩
        · have hD1 : D = none := by
            rw [HD.out, HFe.out]
            simp only [finB]
            rw [if_neg (fun h => hno (Hoi.out.1 h.2))]
          subst hD1
          have hne1 : ((n : Int) != (o : Int)) = true := by rw [bne_iff_ne]; omega
          have hne2 : ((n : Int) == (o : Int)) = false := by rw [beq_eq_false_iff_ne]; omega
          clear hm hpl8 hrd hno
          go_wp2_with fail
          go_quiet ((go_at_call 80; exact Calls.quiet_of_same (hone2 _)))
          go_wp2_with fail
          go_ret2
          exact ⟨rfl, below_dN hB.out _⟩
end Go.Proofs.Ytfajffchnnalaaa
