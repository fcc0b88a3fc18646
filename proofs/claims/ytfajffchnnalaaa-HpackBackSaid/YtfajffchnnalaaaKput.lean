/-
  hpack's putNumber and putText, by their contracts. Conditions: a number of at most 2^28, a text of at most 9000 bytes.
-/
import Derived.Test.YtfajffchnnalaaaKsmall
import Derived.Test.YtfajffchnnalaaaQput
namespace Go.Proofs.Ytfajffchnnalaaa
open Go.RowKit Go.WideShapes

/-- What a call leaves that adds to bytes. -/
def MadeB (w : World) (base : Nat) (v : Value) (l : List UInt8) (e : Ending) (w' : World) : Prop := ∃ v', e = .returned v' ∧ Bo w' base 5 v' l ∧ Fs (ob v) w w' ∧ Nx w v v'
theorem Bo.below {w w' : World} {base : Nat} {e : TypeId} {v : Value} {l : List UInt8} (h : Bo w base e v l) (hb : Below w.heap.size w w') : Bo w' base e v l := OwS.below h hb
theorem isKind.lt {k : Nat} (h : isKind k) : k < 256 := by unfold isKind at h; omega

set_option maxRecDepth 100000 in
set_option maxHeartbeats 1000000 in
theorem putNumber_any {k n base : Nat} {v : Value} {l : List UInt8} {w : World} (hk : isKind k) (hn : n ≤ 268435456) (hO : Bo w base 5 v l) (hbase : base ≤ w.heap.size) (hl : l.length ≤ 549755813888) :
    Calls Try.prog 38 #[v, .int .u8 (k : Int), .int .i64 (n : Int)] w (MadeB w base v (l ++ numL k n)) := by
  obtain ⟨i0, hi0, hz0, hz1, hz2⟩ := info_parts u8_info
  have hpx := prefixOf_any hk
  have hbd := @pfx_bd k
  have hput := fun W => put_yes (pfxN k) k n (by omega) (by omega) hk.lt hn none 0 [] (by simp) W RdB.nil
  have hnl := num_len k n
  unfold numL at hnl ⊢
  rw [List.nil_append] at hput
  generalize putL (pfxN k) k n = L at *
  generalize pfxN k = p at *
  go_enter Try.func38, Try.ntmps38
  go_wp2_with fail
  refine (hpx _).mono ?_
  rintro e w1 ⟨rfl, rfl⟩
  go_wp2_with fail
  refine (hput _).mono ?_
  rintro e w1 ⟨A, c, rfl, hO1, hB1⟩
  obtain ⟨_, _, e1, _, _, hr⟩ := hO1.shape
  injection e1 with e1 e2 e3
  subst e1 e3
  have hO2 := hO.below hB1
  have hs := hB1.size
  go_wp2_with (at_builtin; go_loud (refine wpList_appBo rfl (.tmp 7) (.tmp 13) 38 rfl base 5 i0 Try.underlying38 hi0 hz0 hz1 hz2 v l rfl hO2 _ A L _ _ rfl rfl hr (by omega) (by omega) ?_; intro v2 w2 h1 h2 h3))
  go_ret
  exact ⟨v2, rfl, h1, (Fs.of_below hB1).trans h2 fun _ _ h => h, (Nx.refl w v).trans h3 hs⟩

set_option maxRecDepth 100000 in
set_option maxHeartbeats 1000000 in
theorem putText_any {base : Nat} {v : Value} {l s : List UInt8} {w : World} (hs : s.length ≤ 9000) (hO : Bo w base 5 v l) (hbase : base ≤ w.heap.size) (hl : l.length ≤ 549755813888) :
    Calls Try.prog 59 #[v, tx s] w (MadeB w base v (l ++ txtL s)) := by
  obtain ⟨i0, hi0, hz0, hz1, hz2⟩ := info_parts u8_info
  have hssz := str_size s
  have hsz := fun W => hsize_any ⟨s.toArray⟩ (by rw [hssz]; omega) W
  have henc := fun W => enc_any ⟨s.toArray⟩ (by rw [hssz]; omega) W
  have hel := encL_len s
  have hput := fun (a n : Nat) (ha : a < 256) (hn : n ≤ 268435456) W => put_yes 7 a n (by omega) (by omega) ha hn none 0 [] (by simp) W RdB.nil
  simp only [List.nil_append] at hsz henc hput
  unfold txtL
  unfold encN at *
  generalize (bitsN s + 7) / 8 = N at *
  generalize encL s = E at *
  unfold tx
  by_cases hlt : N < s.length
  · rw [if_pos hlt]
    have hpl := (putL_len 7 128 N).2
    have hput1 := hput 128 N (by omega) (by omega)
    generalize putL 7 128 N = L at *
    have hlt2 : (N : Int) < (s.length : Int) := by omega
    clear hput
    go_enter Try.func59, Try.ntmps59
    go_wp2_with fail
    refine (hsz _).mono ?_
    rintro e w1 ⟨rfl, hB1⟩
    have hO1 := hO.below hB1
    have HF1 := Lib.hid (Fs.of_below (S := ob v) hB1)
    clear hsz hO hB1
    go_wp2_with fail
    refine (hput1 _).mono ?_
    rintro e w2 ⟨A, c, rfl, hO2, hB2⟩
    obtain ⟨_, _, e1, _, _, hr⟩ := hO2.shape
    injection e1 with e1 e2 e3
    subst e1 e3
    have hO3 := hO1.below hB2
    have HF2 := Lib.hid (HF1.out.then_below hB2)
    have hb2 : base ≤ w2.heap.size := by have := HF2.out.size; omega
    clear HF1 hB2 hO1 hput1
    go_wp2_with (at_builtin; go_loud (refine wpList_appBo rfl (.tmp 12) (.tmp 15) 38 rfl base 5 i0 Try.underlying38 hi0 hz0 hz1 hz2 v l rfl hO3 _ A L _ _ rfl rfl hr (by omega) hb2 ?_; intro v2 w3 h1 h2 h3))
    have HF3 := Lib.hid (HF2.out.trans h2 fun _ _ h => h)
    have HN3 := Lib.hid ((Nx.refl w v).trans h3 HF2.out.size)
    clear h2 h3 HF2 hO3 hr hO2
    refine (henc _).mono ?_
    rintro e w4 ⟨A4, c4, rfl, hO4, hB4⟩
    obtain ⟨_, _, e1, _, _, hr4⟩ := hO4.shape
    injection e1 with e1 e2 e3
    subst e1 e3
    have hO5 := Bo.below h1 hB4
    have HF4 := Lib.hid (HF3.out.then_below hB4)
    have hb4 : base ≤ w4.heap.size := by have := HF4.out.size; omega
    have hs3 : w.heap.size ≤ w3.heap.size := HF3.out.size
    have hs4 : w3.heap.size ≤ w4.heap.size := hB4.size
    clear hB4 h1 hO4
    go_wp2_with (at_builtin; go_loud (refine wpList_appBo rfl (.tmp 17) (.tmp 19) 38 rfl base 5 i0 Try.underlying38 hi0 hz0 hz1 hz2 v2 (l ++ L) rfl hO5 _ A4 E _ _ rfl hel.symm hr4 (by rw [List.length_append]; omega) hb4 ?_; intro v5 w5 h1 h2 h3))
    go_ret
    rw [List.append_assoc] at h1
    exact ⟨v5, rfl, h1, HF4.out.next HN3.out h2, HN3.out.trans ((Nx.refl w3 v2).trans h3 hs4) hs3⟩
  · rw [if_neg hlt]
    have hpl := (putL_len 7 0 s.length).2
    have hput1 := hput 0 s.length (by omega) (by omega)
    generalize putL 7 0 s.length = L at *
    have hlt2 : decide ((N : Int) < (s.length : Int)) = false := by simp; omega
    clear hput henc
    go_enter Try.func59, Try.ntmps59
    go_wp2_with fail
    refine (hsz _).mono ?_
    rintro e w1 ⟨rfl, hB1⟩
    have hO1 := hO.below hB1
    have HF1 := Lib.hid (Fs.of_below (S := ob v) hB1)
    clear hsz hO hB1
    go_wp2_with fail
    refine (hput1 _).mono ?_
    rintro e w2 ⟨A, c, rfl, hO2, hB2⟩
    obtain ⟨_, _, e1, _, _, hr⟩ := hO2.shape
    injection e1 with e1 e2 e3
    subst e1 e3
    have hO3 := hO1.below hB2
    have HF2 := Lib.hid (HF1.out.then_below hB2)
    have hb2 : base ≤ w2.heap.size := by have := HF2.out.size; omega
    clear HF1 hB2 hO1 hput1
    go_wp2_with (first
      | (at_builtin; refine wpList_appBo rfl (.tmp 21) (.tmp 25) 38 rfl base 5 i0 Try.underlying38 hi0 hz0 hz1 hz2 v l rfl hO3 _ A L _ _ rfl rfl hr (by omega) hb2 ?_; intro v2 w3 h1 h2 h3; have HF3 := Lib.hid (HF2.out.trans h2 fun _ _ h => h); have HN3 := Lib.hid ((Nx.refl w v).trans h3 HF2.out.size); have hb3 : base ≤ w3.heap.size := (by have := HF3.out.size; omega); clear h2 h3 HF2 hO3 hr hO2)
      | (at_builtin; go_loud (refine wpList_appStr rfl (.tmp 27) (.tmp 28) 38 9 rfl base 5 i0 Try.underlying38 Try.underlying9 hi0 hz0 hz1 hz2 v2 (l ++ L) rfl h1 s rfl (by rw [List.length_append]; omega) hb3 ?_; intro v5 w5 h4 h5 h6)))
    go_ret
    rw [List.append_assoc] at h4
    exact ⟨v5, rfl, h4, HF3.out.next HN3.out h5, HN3.out.trans h6 HF3.out.size⟩
end Go.Proofs.Ytfajffchnnalaaa
