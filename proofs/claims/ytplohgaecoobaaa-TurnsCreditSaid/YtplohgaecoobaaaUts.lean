/-
  The program's ring: Shift, by contract. Conditions: the ring lies in memory, few streams; the windows are within their bounds.
-/
import Derived.Test.YtplohgaecoobaaaUtq
namespace Go.Proofs.Ytplohgaecoobaaa
open Go.RowKit Go.WideShapes

/-- Behind k rounds of Shift: P is shifted, R isn't. -/
structure TsI (w wr : World) (F : Nat → Prop) (g q : Nat) (A : Option Addr) (c n : Nat) (m : Rm) (d : Int) (k : Nat) (L' : List Se) (P R : List Sn) : Prop where
  t : TrL wr g q A c L' m.t m.w
  f : Fs F w wr
  nw : ∀ k, TF g q A c L' k → F k ∨ w.heap.size ≤ k
  e : L'.map (·.x) = P ++ R
  pl : P.length = k
  s : shL d m.l = (P ++ (shL d R).1, (shL d R).2)
  b : Row wr w.heap.size 56 (ftc 0 0)
  len : L'.length = n
  lf : LfOk R
theorem TsI.tr {w wr : World} {F : Nat → Prop} {g q : Nat} {A : Option Addr} {c n : Nat} {m : Rm} {d : Int} {k : Nat} {L' : List Se} {P R : List Sn} (h : TsI w wr F g q A c n m d k L' P R) (W : World) (hk : ∀ k, TF g q A c L' k → W.heap[k]? = wr.heap[k]?) : Tr W (TF g q A c L') g ⟨P ++ R, m.t, m.w⟩ :=
  ⟨q, A, c, L', h.e.symm, h.t.keep hk, rfl⟩
theorem TsI.below {w wr w' : World} {F : Nat → Prop} {g q : Nat} {A : Option Addr} {c n : Nat} {m : Rm} {d : Int} {k : Nat} {L' : List Se} {P R : List Sn} (h : TsI w wr F g q A c n m d k L' P R) (hb : Below wr.heap.size wr w') : TsI w w' F g q A c n m d k L' P R :=
  ⟨h.t.below hb, h.f.then_below hb, h.nw, h.e, h.pl, h.s, h.b.below hb h.b.lt, h.len, h.lf⟩
theorem TsI.no {w wr : World} {F : Nat → Prop} {g q : Nat} {A : Option Addr} {c n : Nat} {m : Rm} {d : Int} {k : Nat} {L' : List Se} {P R : List Sn} (h : TsI w wr F g q A c n m d k L' P R) : ¬ TF g q A c L' w.heap.size :=
  Tr.no (h.tr wr fun _ _ => rfl) h.b (by decide) (by decide) (by decide) (by decide) (by decide)
/-- The result stored. -/
theorem TsI.post {w wr : World} {F : Nat → Prop} {g q : Nat} {A : Option Addr} {c n : Nat} {m : Rm} {d : Int} {k : Nat} {L' : List Se} {P R : List Sn} (h : TsI w wr F g q A c n m d k L' P R) {m' : Rm} (hm : m' = ⟨P ++ R, m.t, m.w⟩) (v : Value) (x : Array Value) : TP w F g m' v (.returned v) (wr.setRow w.heap.size x) := by
  subst hm
  exact ⟨rfl, _, h.tr _ fun k hk => setRow_other wr w.heap.size k x (fun e => h.no (e ▸ hk)), h.f.setRow (fun h1 => by omega) x, h.nw⟩
theorem map_split {L : List Se} {P R : List Sn} (h : L.map (·.x) = P ++ R) {k : Nat} (hk : P.length = k) (hl : k < L.length) : ∃ e R', L[k]? = some e ∧ R = e.x :: R' := by
  have hx := List.getElem?_eq_getElem hl
  have h1 : (L.map (·.x))[k]? = some L[k].x := by rw [List.getElem?_map, hx]; rfl
  rw [h, List.getElem?_append_right (by omega), hk, Nat.sub_self] at h1
  cases R with
  | nil => simp at h1
  | cons y R' =>
    have h2 : y = L[k].x := by simpa using h1
    exact ⟨L[k], R', hx, by rw [h2]⟩
theorem map_put {L : List Se} {P R' : List Sn} {x : Sn} (h : L.map (·.x) = P ++ x :: R') {k : Nat} (hk : P.length = k) (e' : Se) : (L.set k e').map (·.x) = P ++ [e'.x] ++ R' := by
  rw [List.map_set, h, List.set_append_right _ _ (by omega), hk, Nat.sub_self, List.set_cons_zero, List.append_assoc]
  rfl
/-- One stream's window shifted. -/
theorem TsI.on {w wr w' : World} {F : Nat → Prop} {g q : Nat} {A : Option Addr} {c n : Nat} {m : Rm} {d : Int} {k : Nat} {L' : List Se} {P R' : List Sn} {e : Se} (h : TsI w wr F g q A c n m d k L' P (e.x :: R')) {L0 : List Se} (_hF : F = TF g q A c L0) (he : L'[k]? = some e) (hg : ¬ 2147483647 < e.x.lf + d)
    (hf : Fs (fun b => b = e.p) wr w') (hr : Row w' e.p 93 (wnc (gwN e.x.lf d) 2)) : TsI w w' F g q A c n m d (k + 1) (L'.set k (e.upLf (gwN e.x.lf d))) (P ++ [{ e.x with lf := gwN e.x.lf d }]) R' := by
  have hem := List.mem_of_getElem? he
  obtain ⟨h1, h2⟩ := (h.t.i e hem).lf hf hr
  have hfp : ∀ k, (e.upLf (gwN e.x.lf d)).fp k → e.fp k ∨ wr.heap.size ≤ k := fun k hk => .inl hk
  have hs := h.f.size
  refine ⟨h.t.upd he h2 h1 rfl hfp, h.f.trans h2 fun b hb hbf => ?_, fun b hb => ?_, map_put h.e h.pl _, by simp [h.pl], ?_, hf.row (h.b.ne_type (h.t.i e hem).n (by decide)) h.b, by rw [List.length_set]; exact h.len, fun y hy => h.lf y (List.mem_cons_of_mem _ hy)⟩
  · rcases h.nw b (TF.of_e hem hbf) with h3 | h3
    · exact h3
    · omega
  · rcases TF.upd he hfp b hb with h3 | h3
    · exact h.nw b h3
    · exact .inr (by omega)
  · rw [h.s]
    have : shL d (e.x :: R') = ({ e.x with lf := gwN e.x.lf d } :: (shL d R').1, (shL d R').2) := by rw [shL, if_neg hg]
    rw [this, List.append_assoc]
    rfl
theorem one_ft (w : World) (s c : Nat) : ∃ w', (w.alloc (.cells #[.int .u8 0, .int .u32 0] 56)).setRow w.heap.size (ftc s c) = w' ∧ Row (w.alloc (.cells #[.int .u8 0, .int .u32 0] 56)) w.heap.size 56 (ftc 0 0) ∧ Row w' w.heap.size 56 (ftc s c) ∧ Below w.heap.size w w' := one_fault w s c
attribute [local irreducible] sec rgc fd wnc btw tdc ftc gwN
section
variable {w : World} {F : Nat → Prop} {g : Nat} {m : Rm}
set_option maxRecDepth 100000 in
set_option maxHeartbeats 4000000 in
theorem tshift_any (h : Tr w F g m) (hm : m.Ok) (hs : m.Sm) (a b : Nat) (ha : a < 4294967296) (hb : b < 4294967296) : Calls Try.prog 26 #[.pointer (some ⟨g, 0, none⟩), .int .u32 a, .int .u32 b] w (TP w F g (rmShift m ((b : Int) - a)).1 (.agg (tdc (rmShift m ((b : Int) - a)).2))) := by
  obtain ⟨q, A, c, L, hml, ht, hF, htl, hL⟩ := h.of hm hs
  unfold rmShift
  have HR := row_new0 w
  have HB := bel_new0 w
  have HF := Lib.hid hF
  obtain ⟨d, hd⟩ : ∃ d : Int, d = (b : Int) - a := ⟨_, rfl⟩
  rw [← hd]
  have hsh : ∀ W l z, Row W z 93 (wnc l 2) → (-2147483648 ≤ l ∧ l ≤ 2147483647) → (2147483647 < l + d → Calls Try.prog 45 #[.pointer (some ⟨z, 0, none⟩), .int .u32 a, .int .u32 b] W fun e w' => e = .returned (.agg (ftc 1 3)) ∧ Below W.heap.size W w') ∧
      (¬ 2147483647 < l + d → Calls Try.prog 45 #[.pointer (some ⟨z, 0, none⟩), .int .u32 a, .int .u32 b] W fun e w' => e = .returned (.agg (ftc 0 0)) ∧ Row w' z 93 (wnc (gwN l d) 2) ∧ Fs (fun k => k = z) W w') := by
    intro W l z h1 h2
    constructor
    · intro h3
      exact shift_no h1 h2 (by omega) (by omega) (by omega)
    · intro h3
      have h4 := shift_yes h1 h2 (n := (a : Int)) (m := (b : Int)) (by omega) (by omega) (by omega)
      rw [← hd] at h4
      have h5 : gwN l d = max (l + d) (-2147483648) := by unfold gwN; rw [if_neg h3]
      rw [h5]
      exact h4
  have HSH := Lib.hid hsh
  have HI : Hid (TsI w (w.alloc (.cells #[.int .u8 0, .int .u32 0] 56)) F g q A c L.length m d 0 L [] m.l) :=
    ⟨ht.below HB.out, Fs.of_below HB.out, fun k hk => .inl (by rw [hF]; exact hk), hml.symm, rfl, rfl, HR.out, rfl, hm.lf⟩
  have c0 := (rg_cells (ht.below HB.out)).1
  clear hsh hd ha hb ht hml hm hs h htl hF HR HB
  go_enter Try.func26, Try.ntmps26
  go_upto_region 1 with fail
  generalize w.alloc (.cells #[.int .u8 0, .int .u32 0] 56) = w1 at *
  go_wp2_with fail
  clear c0
  go_loopw [18] (fun i wr => ∃ (k : Nat) (L' : List Se) (P R : List Sn), k ≤ L.length ∧ i = .int .i64 k ∧ Hid (TsI w wr F g q A c L.length m d k L' P R)) (fun i _ => L.length - (intOf i).toNat)
  case atStart => exact ⟨0, L, [], m.l, Nat.zero_le _, rfl, HI⟩
  case round =>
    clear HI
    obtain ⟨k, L', P, R, hk, rfl, HI⟩ := hrel
    by_cases hlt : k < L.length
    · obtain ⟨e, R', he, rfl⟩ := map_split HI.out.e HI.out.pl (by rw [HI.out.len]; exact hlt)
      obtain ⟨bb, o, hA, hc, hse, _⟩ := HI.out.t.at he
      subst hA
      obtain ⟨_, _, _, _, s4⟩ := se_cells hse
      have hlf := HI.out.lf e.x (List.mem_cons_self ..)
      obtain ⟨hno, hyes⟩ := HSH.out wr e.x.lf e.p hse.n hlf
      have HE := Lib.hid he
      clear hse he
      by_cases hg : 2147483647 < e.x.lf + d
      · have HC := Lib.hid (hno hg)
        have hsl : Hid (shL d m.l = (P ++ e.x :: R', 1)) := by
          show _ = _
          rw [HI.out.s]
          have : shL d (e.x :: R') = (e.x :: R', 1) := by rw [shL, if_pos hg]
          rw [this]
        have hq := fun W => ft_neq 1 3 0 0 W
        simp only [show decide ((1 : Nat) = 0) = false from rfl, Bool.false_and, Bool.not_false] at hq
        clear hno hyes hg hlf
        go_wp2_with fail
        refine HC.out.mono ?_
        rintro r w2 ⟨rfl, hb2⟩
        obtain ⟨w3, hw3, u1, u2, u3⟩ := one_ft w2 1 3
        have HI3 := Lib.hid ((HI.out.below hb2).below u3)
        have HW3 := Lib.hid hw3
        have U1 := Lib.hid u1
        have U2 := Lib.hid u2
        clear hb2 hw3 u1 u2 u3 HC s4 hc HI
        go_upto_region 7 with (refine wpList_sw (cs := ftc 1 3) rfl _ _ rfl rfl rfl U1.out (ft_sz _ _ _ _) (ft_ok _ _) ?_)
        rw [HW3.out]
        clear HW3 U1
        generalize w2.heap.size = p2 at *
        have HR := Lib.hid HI3.out.b
        have HP := Lib.hid (HI3.out.post (m' := ⟨P ++ e.x :: R', m.t, m.w⟩) rfl (.agg (ftc 1 3)) (ftc 1 3))
        clear HI3
        go_wp2_with (first | (refine wpList_build_is rfl 56 _ rfl (ftc 0 0) (by kernel_rfl) ?_) | (refine wpList_ld rfl _ rfl rfl U2.out (ft_ok _ _) ?_) | (refine wpList_sw (cs := ftc 1 3) rfl _ _ rfl rfl rfl HR.out (ft_sz _ _ _ _) (ft_ok _ _) ?_))
        refine bodyPost_ret (ret_ag rfl _ rfl (HR.out.setRow _) (ft_ok _ _)) rfl ?_
        have := HP.out
        rw [hsl.out]
        dsimp only
        rw [tdc_1]
        exact this
      · have HC := Lib.hid (hyes (by omega))
        have HON := Lib.hid (fun (w' : World) h1 h2 => HI.out.on (L0 := L) HF.out HE.out (by omega) (w' := w') h1 h2)
        have hq := fun W => ft_neq 0 0 0 0 W
        simp only [decide_true, Bool.and_self, Bool.not_true] at hq
        clear hno hyes hg hlf
        go_wp2_with fail
        refine HC.out.mono ?_
        rintro r w2 ⟨rfl, hr2, hf2⟩
        have hi2 := HON.out w2 hf2 hr2
        obtain ⟨w3, hw3, u1, u2, u3⟩ := one_ft w2 0 0
        have HI3 := Lib.hid (hi2.below u3)
        have HW3 := Lib.hid hw3
        have U1 := Lib.hid u1
        have U2 := Lib.hid u2
        clear hr2 hf2 hi2 hw3 u1 u2 u3 HC s4 hc HI HON
        go_upto_region 7 with (refine wpList_sw (cs := ftc 0 0) rfl _ _ rfl rfl rfl U1.out (ft_sz _ _ _ _) (ft_ok _ _) ?_)
        rw [HW3.out]
        clear HW3 U1
        generalize w2.heap.size = p2 at *
        go_wp2_with (first | (refine wpList_build_is rfl 56 _ rfl (ftc 0 0) (by kernel_rfl) ?_) | (refine wpList_ld rfl _ rfl rfl U2.out (ft_ok _ _) ?_))
        go_roundw
        case rel => exact ⟨k + 1, _, _, _, by omega, by go_num, HI3⟩
        case measure => simp [intOf]; omega
    · obtain rfl : k = L.length := by omega
      have hR : R = [] := by
        have h1 := congrArg List.length HI.out.e
        rw [List.length_map, List.length_append, HI.out.pl, HI.out.len] at h1
        exact List.eq_nil_of_length_eq_zero (by omega)
      subst hR
      have hsl : Hid (shL d m.l = (P ++ [], 0)) := by
        show _ = _
        rw [HI.out.s]
        rfl
      have HR := Lib.hid HI.out.b
      have HP := Lib.hid (HI.out.post (m' := ⟨P ++ [], m.t, m.w⟩) rfl (.agg (ftc 0 0)) (ftc 0 0))
      clear HI
      go_wp2_with (first | (refine wpList_build_is rfl 56 _ rfl (ftc 0 0) (by kernel_rfl) ?_) | (refine wpList_sw (cs := ftc 0 0) rfl _ _ rfl rfl rfl HR.out (ft_sz _ _ _ _) (ft_ok _ _) ?_))
      refine bodyPost_ret (ret_ag rfl _ rfl (HR.out.setRow _) (ft_ok _ _)) rfl ?_
      have := HP.out
      rw [hsl.out]
      dsimp only
      rw [tdc_0]
      exact this
end
end Go.Proofs.Ytplohgaecoobaaa
