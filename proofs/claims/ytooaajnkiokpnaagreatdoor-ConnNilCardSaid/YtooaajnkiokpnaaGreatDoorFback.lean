/-
  What is put is got; what is got is put as it stood. Plain mathematics, no program.
-/
import Derived.Test.YtooaajnkiokpnaaGreatDoorFmath
namespace Go.Proofs.YtooaajnkiokpnaaGreatDoor

/-- The numbers of a frame are what they may be in memory. -/
structure Frm.Ok (f : Frm) : Prop where
  ty : f.ty < 256
  fl : f.fl < 256
  code : f.code < 4294967296
  wt : f.wt < 256
  sets : ∀ s ∈ f.sets, s.1 < 65536 ∧ s.2 < 4294967296
def Frm.May (f : Frm) : Prop := MayP f.ty f.fl f.st f.dat.length f.pad f.code f.oth f.wt f.al f.win f.sets.length

theorem headL_length (n ty fl st : Nat) : (headL n ty fl st).length = 9 := by simp [headL, be_length]
theorem getD_app {a b : List UInt8} {k : Nat} (h : a.length = k) (j : Nat) : (a ++ b).getD (k + j) 0 = b.getD j 0 := by
  subst h
  simp [List.getD_eq_getElem?_getD, List.getElem?_append_right]
theorem getN_head (n ty fl st : Nat) (s : List UInt8) (hn : n < 16777216) (hty : ty < 256) (hfl : fl < 256) (hst : st ≤ 2147483647) (h : s.length = n) : getN (headL n ty fl st ++ s) = readN ty fl st s := by
  unfold getN
  have e3 : (headL n ty fl st ++ s).take 3 = be 3 n := by
    unfold headL
    rw [List.append_assoc, List.append_assoc, take_app (be_length 3 n)]
  have e9 : (headL n ty fl st ++ s).drop 9 = s := drop_app (headL_length n ty fl st)
  have d3 : (headL n ty fl st ++ s).getD 3 0 = UInt8.ofNat ty := by
    unfold headL
    rw [List.append_assoc, List.append_assoc]
    exact getD_app (be_length 3 n) 0
  have d4 : (headL n ty fl st ++ s).getD 4 0 = UInt8.ofNat fl := by
    unfold headL
    rw [List.append_assoc, List.append_assoc]
    exact getD_app (be_length 3 n) 1
  have e5 : ((headL n ty fl st ++ s).drop 5).take 4 = be 4 st := by
    unfold headL
    rw [List.append_assoc, drop_app (show (be 3 n ++ [UInt8.ofNat ty, UInt8.ofNat fl]).length = 5 by simp [be_length]), take_app (be_length 4 st)]
  rw [e3, e9, d3, d4, e5, valL_be 3 n (by omega), valL_be 4 st (by omega), ofNat_toNat_mod, ofNat_toNat_mod, Nat.mod_eq_of_lt hty, Nat.mod_eq_of_lt hfl, Nat.mod_eq_of_lt (by omega), if_neg]
  rw [List.length_append, headL_length]
  omega
theorem padN_payL (f : Frm) (h : PadOk f.ty f.fl f.pad) : padN f.ty f.fl (payL f) = .ok (f.pad, frontL f ++ f.dat) := by
  unfold padN payL
  by_cases hb : PadP f.ty f.fl
  · obtain ⟨h0, h1⟩ := h.1 hb
    rw [if_pos (show padB f.ty f.fl = true from decide_eq_true hb), if_pos h0]
    obtain ⟨p, hp⟩ := Int.eq_ofNat_of_zero_le h0
    rw [hp]
    have hm : (UInt8.ofNat p).toNat = p := by rw [ofNat_toNat_mod]; omega
    simp only [Int.toNat_natCast, hm, List.length_append, List.length_replicate]
    rw [if_neg (by omega), List.append_assoc, ← List.append_assoc, take_app (by simp)]
  · rw [if_neg (by simpa [padB] using hb), if_neg (by have := h.2 hb; omega), h.2 hb]

theorem Frm.ext' {f g : Frm} (h1 : f.ty = g.ty) (h2 : f.fl = g.fl) (h3 : f.st = g.st) (h4 : f.dat = g.dat) (h5 : f.pad = g.pad) (h6 : f.code = g.code) (h7 : f.oth = g.oth) (h8 : f.wt = g.wt) (h9 : f.al = g.al) (h10 : f.win = g.win) (h11 : f.sets = g.sets) : f = g := by
  cases f; cases g
  simp only at h1 h2 h3 h4 h5 h6 h7 h8 h9 h10 h11
  subst h1 h2 h3 h4 h5 h6 h7 h8 h9 h10 h11
  rfl
theorem len0 {α : Type} {l : List α} (h : ¬ l.length ≠ 0) : l = [] := List.eq_nil_of_length_eq_zero (by omega)

theorem bodyN_front (f : Frm) (hk : f.Ok) (hm : f.May) : bodyN f.ty f.fl f.st f.pad (frontL f ++ f.dat) = f := by
  obtain ⟨⟨m1, m2, m3⟩, m4, m5, ⟨o1, o2, o3, o4, o5, o6, o7⟩, m6⟩ := hm
  unfold bodyN frontL
  have hl : leanB f.ty f.fl = true ↔ LeanP f.ty f.fl := by simp [leanB]
  unfold LeanP at *
  by_cases h : leanB f.ty f.fl = true
  · rw [if_pos h, if_pos h]
    have h' := hl.1 h
    have hc : f.code = 0 := by omega
    have hwn : f.win = 0 := by omega
    have hs : f.sets = [] := len0 (by omega)
    have hv : f.oth + (if f.al = true then 2147483648 else 0) < 256 ^ 4 := by split <;> omega
    have ht := take_app (a := be 4 (f.oth + if f.al = true then 2147483648 else 0)) (b := [UInt8.ofNat f.wt] ++ f.dat) (be_length 4 _)
    have hd := drop_app (a := be 4 (f.oth + if f.al = true then 2147483648 else 0) ++ [UInt8.ofNat f.wt]) (b := f.dat) (k := 5) (by simp [be_length])
    have hg := getD_app (a := be 4 (f.oth + if f.al = true then 2147483648 else 0)) (b := [UInt8.ofNat f.wt] ++ f.dat) (be_length 4 _) 0
    rw [← List.append_assoc] at ht hg
    rw [ht, hd, hg, valL_be 4 _ hv]
    refine Frm.ext' rfl rfl rfl rfl rfl hc.symm ?_ ?_ ?_ hwn.symm hs.symm
    · simp only
      split <;> omega
    · show (UInt8.ofNat f.wt).toNat = f.wt
      rw [ofNat_toNat_mod, Nat.mod_eq_of_lt hk.wt]
    · simp only
      cases ha : f.al
      · exact decide_eq_false (by rw [if_neg (by simp)]; omega)
      · exact decide_eq_true (by rw [if_pos rfl]; omega)
  · have hn : ¬ (f.ty = 2 ∨ f.ty = 1 ∧ f.fl / 32 % 2 = 1) := fun e => h (hl.2 e)
    have ha : f.al = false := by
      cases ha : f.al
      · rfl
      · exact absurd (o2 ha) hn
    have hw : f.wt = 0 := Classical.byContradiction fun e => hn (o1 e)
    rw [if_neg h, if_neg h]
    by_cases h3 : f.ty = 3
    · rw [if_pos h3, if_pos h3]
      have hd : f.dat = [] := len0 (by omega)
      have hs : f.sets = [] := len0 (by omega)
      rw [take_app (be_length 4 _), valL_be 4 _ hk.code]
      exact Frm.ext' rfl rfl rfl hd.symm rfl rfl (show 0 = f.oth by omega) hw.symm ha.symm (show 0 = f.win by omega) hs.symm
    · rw [if_neg h3, if_neg h3]
      have hc7 : f.ty ≠ 7 → f.code = 0 := by omega
      by_cases h4 : f.ty = 4
      · rw [if_pos h4, if_pos h4]
        have hd : f.dat = [] := len0 (by omega)
        rw [hd, List.append_nil, setsN_setsL _ hk.sets]
        exact Frm.ext' rfl rfl rfl hd.symm rfl (show 0 = f.code by omega) (show 0 = f.oth by omega) hw.symm ha.symm (show 0 = f.win by omega) rfl
      · rw [if_neg h4, if_neg h4]
        have hs : f.sets = [] := len0 (by omega)
        by_cases h5 : f.ty = 5
        · rw [if_pos h5, if_pos h5]
          rw [take_app (be_length 4 _), drop_app (be_length 4 _), valL_be 4 _ (by omega), Nat.mod_eq_of_lt (by omega)]
          exact Frm.ext' rfl rfl rfl rfl rfl (show 0 = f.code by omega) rfl hw.symm ha.symm (show 0 = f.win by omega) hs.symm
        · rw [if_neg h5, if_neg h5]
          by_cases h7 : f.ty = 7
          · rw [if_pos h7, if_pos h7]
            rw [drop_app (show (be 4 f.oth ++ be 4 f.code).length = 8 by simp [be_length])]
            rw [List.append_assoc, take_app (be_length 4 _), drop_app (be_length 4 _), take_app (be_length 4 _), valL_be 4 _ hk.code, valL_be 4 _ (by omega), Nat.mod_eq_of_lt (by omega)]
            exact Frm.ext' rfl rfl rfl rfl rfl rfl rfl hw.symm ha.symm (show 0 = f.win by omega) hs.symm
          · rw [if_neg h7, if_neg h7]
            by_cases h8 : f.ty = 8
            · rw [if_pos h8, if_pos h8]
              have hd : f.dat = [] := len0 (by omega)
              rw [take_app (be_length 4 _), valL_be 4 _ (by omega), Nat.mod_eq_of_lt (by omega)]
              exact Frm.ext' rfl rfl rfl hd.symm rfl (show 0 = f.code by omega) (show 0 = f.oth by omega) hw.symm ha.symm rfl hs.symm
            · rw [if_neg h8, if_neg h8, List.nil_append]
              exact Frm.ext' rfl rfl rfl rfl rfl (show 0 = f.code by omega) (show 0 = f.oth by omega) hw.symm ha.symm (show 0 = f.win by omega) hs.symm

theorem pay_small (f : Frm) (hm : f.May) : (payL f).length ≤ 16384 := by
  obtain ⟨_, _, m5, ⟨_, _, _, _, _, o6, _⟩, m6⟩ := hm
  have := payL_length f (fun h => o6 h) m5
  omega
/-- What is put is got, unless it is wrong. -/
theorem get_put7 (f : Frm) (hk : f.Ok) (hm : f.May) : getN (putL7 f) = (f, 0, 0) ∨ (getN (putL7 f)).2.1 ≠ 0 := by
  have hs := pay_small f hm
  have hb := bodyN_front f hk hm
  have hp := padN_payL f hm.2.2.1
  unfold putL7
  rw [getN_head _ _ _ _ _ (by omega) hk.ty hk.fl hm.1.1 rfl]
  unfold readN
  rw [if_neg (by omega), hp]
  by_cases h1 : wrongB f.ty f.st = true
  · rw [if_pos h1]; exact .inr (by simp)
  · rw [if_neg h1]
    simp only [hb]
    by_cases h2 : lenB f.ty f.fl (frontL f ++ f.dat).length = false
    · rw [if_pos h2]; refine .inr ?_; split <;> simp
    · rw [if_neg h2]
      by_cases h3 : growN f.ty f.st f.win = 0
      · rw [if_pos h3]; exact .inl rfl
      · rw [if_neg h3]; exact .inr h3
/-! ### Back again -/
theorem val4 (a b c d : UInt8) : valL [a, b, c, d] = a.toNat * 16777216 + b.toNat * 65536 + c.toNat * 256 + d.toNat := by simp only [valL, List.foldl_cons, List.foldl_nil]; omega
theorem four {l : List UInt8} (h : 4 ≤ l.length) : ∃ a b c d r, l = a :: b :: c :: d :: r := by
  match l, h with
  | a :: b :: c :: d :: r, _ => exact ⟨a, b, c, d, r, rfl⟩
theorem low_four {l : List UInt8} (h : 4 ≤ l.length) (h0 : (l.getD 0 0).toNat ≤ 127) : valL (l.take 4) % 2147483648 = valL (l.take 4) ∧ valL (l.take 4) < 2147483648 := by
  obtain ⟨a, b, c, d, r, rfl⟩ := four h
  have hv : valL ((a :: b :: c :: d :: r).take 4) = _ := val4 a b c d
  have h1 : a.toNat ≤ 127 := h0
  have h2 := b.toNat_lt
  have h3 := c.toNat_lt
  have h4 := d.toNat_lt
  rw [hv]
  omega
theorem take_four {l : List UInt8} (h : 4 ≤ l.length) : be 4 (valL (l.take 4)) = l.take 4 := be_valL' (by simp; omega)
theorem high_four {l : List UInt8} (h : 4 ≤ l.length) : valL (l.take 4) < 4294967296 := valL_lt' (k := 4) (by simp; omega)
theorem take_drop4 {l : List UInt8} {k : Nat} : l.take k ++ l.drop k = l := List.take_append_drop k l

theorem front_bodyN {ty fl st : Nat} {pad : Int} {r : List UInt8} (hl : LenP ty fl r.length) (hh : ty = 5 ∨ ty = 7 ∨ ty = 8 → (r.getD 0 0).toNat ≤ 127) :
    frontL (bodyN ty fl st pad r) ++ (bodyN ty fl st pad r).dat = r ∧ OwnP ty fl (bodyN ty fl st pad r).dat.length (bodyN ty fl st pad r).code (bodyN ty fl st pad r).oth (bodyN ty fl st pad r).wt (bodyN ty fl st pad r).al (bodyN ty fl st pad r).win (bodyN ty fl st pad r).sets.length ∧
    (bodyN ty fl st pad r).oth ≤ 2147483647 ∧ (bodyN ty fl st pad r).win ≤ 2147483647 ∧ (ty = 6 → (bodyN ty fl st pad r).dat.length = 8) := by
  obtain ⟨l1, l2, l3, l4, l5, l6, l7⟩ := hl
  have hlean : leanB ty fl = true ↔ LeanP ty fl := by simp [leanB]
  by_cases h : leanB ty fl = true
  · have h' := hlean.1 h
    unfold LeanP at h'
    have h5 : 5 ≤ r.length := by omega
    have hv := high_four (l := r) (by omega)
    have e : bodyN ty fl st pad r = ⟨ty, fl, st, r.drop 5, pad, 0, valL (r.take 4) % 2147483648, (r.getD 4 0).toNat, decide (2147483648 ≤ valL (r.take 4)), 0, []⟩ := by unfold bodyN; rw [if_pos h]
    rw [e]
    have e4 : [UInt8.ofNat (r.getD 4 0).toNat] ++ r.drop 5 = r.drop 4 := by
      rw [List.drop_eq_getElem_cons (show 4 < r.length by omega)]
      have : r.getD 4 0 = r[4] := by rw [List.getD_eq_getElem?_getD, List.getElem?_eq_getElem (by omega)]; rfl
      rw [this, UInt8.ofNat_toNat]
      rfl
    refine ⟨?_, ⟨fun _ => h', fun _ => h', fun _ => .inl h', fun e => absurd rfl e, fun e => absurd rfl e, fun e => absurd rfl e, ?_⟩, ?_, by show (0 : Nat) ≤ _; omega, fun e => by omega⟩
    · unfold frontL
      dsimp only
      rw [if_pos h, List.append_assoc, e4]
      have : valL (r.take 4) % 2147483648 + (if decide (2147483648 ≤ valL (r.take 4)) = true then 2147483648 else 0) = valL (r.take 4) := by
        by_cases hc : 2147483648 ≤ valL (r.take 4)
        · rw [if_pos (decide_eq_true hc)]; omega
        · rw [if_neg (by simpa using hc)]; omega
      rw [this, take_four (by omega), take_drop4]
    · show (r.drop 5).length ≠ 0 → _
      rw [List.length_drop]
      omega
    · show valL (r.take 4) % 2147483648 ≤ _
      omega
  · by_cases h3 : ty = 3
    · have e : bodyN ty fl st pad r = ⟨ty, fl, st, [], pad, valL (r.take 4), 0, 0, false, 0, []⟩ := by unfold bodyN; rw [if_neg h, if_pos h3]
      have h4 : r.length = 4 := l3 (.inl h3)
      rw [e]
      refine ⟨?_, ⟨fun e => absurd rfl e, (fun e => by cases e), fun e => absurd rfl e, fun _ => .inl h3, fun e => absurd rfl e, fun e => absurd rfl e, fun e => absurd rfl e⟩, by show (0 : Nat) ≤ _; omega, by show (0 : Nat) ≤ _; omega, fun e => by omega⟩
      unfold frontL
      dsimp only
      rw [if_neg h, if_pos h3, take_four (by omega), List.append_nil, List.take_of_length_le (by omega)]
    · by_cases h4 : ty = 4
      · have e : bodyN ty fl st pad r = ⟨ty, fl, st, [], pad, 0, 0, 0, false, 0, setsN r⟩ := by unfold bodyN; rw [if_neg h, if_neg h3, if_pos h4]
        have h6 := (l4 h4).1
        have hset := setsL_setsN (r.length / 6) r (by omega)
        rw [e]
        refine ⟨?_, ⟨fun e => absurd rfl e, (fun e => by cases e), fun e => absurd rfl e, fun e => absurd rfl e, fun e => absurd rfl e, fun _ => h4, fun e => absurd rfl e⟩, by show (0 : Nat) ≤ _; omega, by show (0 : Nat) ≤ _; omega, fun e => by omega⟩
        unfold frontL
        dsimp only
        rw [if_neg h, if_neg h3, if_pos h4, List.append_nil, hset.1]
      · by_cases h5 : ty = 5
        · have e : bodyN ty fl st pad r = ⟨ty, fl, st, r.drop 4, pad, 0, valL (r.take 4) % 2147483648, 0, false, 0, []⟩ := by unfold bodyN; rw [if_neg h, if_neg h3, if_neg h4, if_pos h5]
          have hr : 4 ≤ r.length := l5 h5
          have hlow := low_four hr (hh (.inl h5))
          rw [hlow.1] at e
          rw [e]
          refine ⟨?_, ⟨fun e => absurd rfl e, (fun e => by cases e), fun _ => .inr (.inl h5), fun e => absurd rfl e, fun e => absurd rfl e, fun e => absurd rfl e, fun _ => by omega⟩, by show valL (r.take 4) ≤ _; omega, by show (0 : Nat) ≤ _; omega, fun e => by omega⟩
          unfold frontL
          dsimp only
          rw [if_neg h, if_neg h3, if_neg h4, if_pos h5, take_four hr, take_drop4]
        · by_cases h7 : ty = 7
          · have e : bodyN ty fl st pad r = ⟨ty, fl, st, r.drop 8, pad, valL ((r.drop 4).take 4), valL (r.take 4) % 2147483648, 0, false, 0, []⟩ := by unfold bodyN; rw [if_neg h, if_neg h3, if_neg h4, if_neg h5, if_pos h7]
            have hr : 8 ≤ r.length := l7 h7
            have hlow := low_four (l := r) (by omega) (hh (.inr (.inl h7)))
            rw [hlow.1] at e
            rw [e]
            refine ⟨?_, ⟨fun e => absurd rfl e, (fun e => by cases e), fun _ => .inr (.inr h7), fun _ => .inr h7, fun e => absurd rfl e, fun e => absurd rfl e, fun _ => by omega⟩, by show valL (r.take 4) ≤ _; omega, by show (0 : Nat) ≤ _; omega, fun e => by omega⟩
            unfold frontL
            dsimp only
            rw [if_neg h, if_neg h3, if_neg h4, if_neg h5, if_pos h7, take_four (by omega), take_four (l := r.drop 4) (by simp; omega), List.append_assoc,
              show r.drop 8 = (r.drop 4).drop 4 by rw [List.drop_drop], take_drop4, take_drop4]
          · by_cases h8 : ty = 8
            · have e : bodyN ty fl st pad r = ⟨ty, fl, st, [], pad, 0, 0, 0, false, valL (r.take 4) % 2147483648, []⟩ := by unfold bodyN; rw [if_neg h, if_neg h3, if_neg h4, if_neg h5, if_neg h7, if_pos h8]
              have hr : r.length = 4 := l3 (.inr h8)
              have hlow := low_four (l := r) (by omega) (hh (.inr (.inr h8)))
              rw [hlow.1] at e
              rw [e]
              refine ⟨?_, ⟨fun e => absurd rfl e, (fun e => by cases e), fun e => absurd rfl e, fun e => absurd rfl e, fun _ => h8, fun e => absurd rfl e, fun e => absurd rfl e⟩, by show (0 : Nat) ≤ _; omega, by show valL (r.take 4) ≤ _; omega, fun e => by omega⟩
              unfold frontL
              dsimp only
              rw [if_neg h, if_neg h3, if_neg h4, if_neg h5, if_neg h7, if_pos h8, take_four (by omega), List.append_nil, List.take_of_length_le (by omega)]
            · have e : bodyN ty fl st pad r = ⟨ty, fl, st, r, pad, 0, 0, 0, false, 0, []⟩ := by unfold bodyN; rw [if_neg h, if_neg h3, if_neg h4, if_neg h5, if_neg h7, if_neg h8]
              have hn : ¬ LeanP ty fl := fun e => h (hlean.2 e)
              unfold LeanP at hn
              rw [e]
              refine ⟨?_, ⟨fun e => absurd rfl e, (fun e => by cases e), fun e => absurd rfl e, fun e => absurd rfl e, fun e => absurd rfl e, fun e => absurd rfl e, fun _ => by omega⟩, by show (0 : Nat) ≤ _; omega, by show (0 : Nat) ≤ _; omega, fun e => l6 e⟩
              unfold frontL
              dsimp only
              rw [if_neg h, if_neg h3, if_neg h4, if_neg h5, if_neg h7, if_neg h8, List.nil_append]
theorem bodyN_head (ty fl st : Nat) (pad : Int) (r : List UInt8) : (bodyN ty fl st pad r).ty = ty ∧ (bodyN ty fl st pad r).fl = fl ∧ (bodyN ty fl st pad r).st = st ∧ (bodyN ty fl st pad r).pad = pad := by
  unfold bodyN
  repeat' split
  all_goals exact ⟨rfl, rfl, rfl, rfl⟩
theorem head_back {b : List UInt8} (h9 : 9 ≤ b.length) (h5 : (b.getD 5 0).toNat ≤ 127) : headL (valL (b.take 3)) (b.getD 3 0).toNat (b.getD 4 0).toNat (valL ((b.drop 5).take 4) % 2147483648) = b.take 9 := by
  have hlow := low_four (l := b.drop 5) (by simp; omega) (by simpa [List.getD_eq_getElem?_getD] using h5)
  unfold headL
  rw [hlow.1, take_four (by simp; omega), be_valL' (show (b.take 3).length = 3 by simp; omega)]
  have g3 : b.getD 3 0 = b[3] := by rw [List.getD_eq_getElem?_getD, List.getElem?_eq_getElem (by omega)]; rfl
  have g4 : b.getD 4 0 = b[4] := by rw [List.getD_eq_getElem?_getD, List.getElem?_eq_getElem (by omega)]; rfl
  rw [g3, g4, UInt8.ofNat_toNat, UInt8.ofNat_toNat]
  have e : b.take 9 = b.take 3 ++ (b.drop 3).take 6 := by rw [show 9 = 3 + 6 from rfl, List.take_add]
  have e2 : (b.drop 3).take 6 = b[3] :: b[4] :: (b.drop 5).take 4 := by
    rw [List.drop_eq_getElem_cons (show 3 < b.length by omega), List.take_succ_cons, List.drop_eq_getElem_cons (show 3 + 1 < b.length by omega), List.take_succ_cons]
  rw [e, e2]
  simp
/-- What is got, with no bit that doesn't count, and no padding, may be, and is put as it stood. -/
theorem put_get7 {b : List UInt8} {f : Frm} (h : getN b = (f, 0, 0)) (hp : f.pad ≤ 0) (h5 : (b.getD 5 0).toNat ≤ 127) (hh : f.ty = 5 ∨ f.ty = 7 ∨ f.ty = 8 → (b.getD (9 + (f.pad + 1).toNat) 0).toNat ≤ 127) : f.May ∧ putL7 f = b := by
  unfold getN at h
  by_cases h9 : b.length < 9 ∨ b.length ≠ 9 + valL (b.take 3)
  · rw [if_pos h9] at h
    have := congrArg (·.2.1) h
    simp at this
  · rw [if_neg h9] at h
    have hst : valL ((b.drop 5).take 4) % 2147483648 ≤ 2147483647 := by omega
    have hhead := head_back (b := b) (by omega) h5
    have hsl : (b.drop 9).length = valL (b.take 3) := by rw [List.length_drop]; omega
    have hb : b.take 9 ++ b.drop 9 = b := take_drop4
    have hix : ∀ j, b.getD (9 + j) 0 = (b.drop 9).getD j 0 := fun j => by simp [List.getD_eq_getElem?_getD]
    rw [hix] at hh
    have htyb := (b.getD 3 0).toNat_lt
    have hflb := (b.getD 4 0).toNat_lt
    generalize (b.getD 3 0).toNat = ty at *
    generalize (b.getD 4 0).toNat = fl at *
    generalize valL ((b.drop 5).take 4) % 2147483648 = st at *
    generalize b.drop 9 = s at *
    generalize valL (b.take 3) = n at *
    subst hsl
    unfold readN at h
    by_cases c1 : 16384 < s.length
    · rw [if_pos c1] at h
      have := congrArg (·.2.1) h
      simp at this
    · rw [if_neg c1] at h
      by_cases c2 : wrongB ty st = true
      · rw [if_pos c2] at h
        have := congrArg (·.2.1) h
        simp at this
      · rw [if_neg c2] at h
        cases hpd : padN ty fl s with
        | error c =>
          rw [hpd] at h
          have := congrArg (·.2.1) h
          simp at this
        | ok x =>
          obtain ⟨pad, r⟩ := x
          rw [hpd] at h
          simp only at h
          by_cases c3 : lenB ty fl r.length = false
          · rw [if_pos c3] at h
            have := congrArg (·.2.1) h
            simp only at this
            split at this <;> omega
          · rw [if_neg c3] at h
            by_cases c4 : growN ty st (bodyN ty fl st pad r).win = 0
            · rw [if_pos c4] at h
              have hf : f = bodyN ty fl st pad r := (congrArg (·.1) h).symm
              have hbh := bodyN_head ty fl st pad r
              rw [← hf] at hbh
              obtain ⟨b1, b2, b3, b4⟩ := hbh
              have hL : LenP ty fl r.length := by
                have : lenB ty fl r.length = true := by simpa using c3
                exact of_decide_eq_true this
              have hpad : PadOk ty fl pad ∧ ((pad = -1 ∧ s = r) ∨ (pad = 0 ∧ s = 0 :: r)) := by
                unfold padN at hpd
                by_cases hb2 : padB ty fl = true
                · rw [if_pos hb2] at hpd
                  cases s with
                  | nil => cases hpd
                  | cons p t =>
                    simp only at hpd
                    by_cases c5 : t.length < p.toNat
                    · rw [if_pos c5] at hpd
                      cases hpd
                    · rw [if_neg c5] at hpd
                      injection hpd with hpd
                      injection hpd with e1 e2
                      rw [b4] at hp
                      have hp0 : p.toNat = 0 := by omega
                      have hpz : p = 0 := UInt8.toNat_inj.1 hp0
                      rw [hp0, Nat.sub_zero, List.take_length] at e2
                      refine ⟨⟨fun _ => by omega, fun hc => absurd (of_decide_eq_true hb2) hc⟩, .inr ⟨by omega, by rw [hpz, e2]⟩⟩
                · rw [if_neg hb2] at hpd
                  injection hpd with hpd
                  injection hpd with e1 e2
                  exact ⟨⟨fun hc => absurd (show padB ty fl = true from decide_eq_true hc) hb2, fun _ => e1.symm⟩, .inl ⟨e1.symm, e2⟩⟩
              obtain ⟨hpo, hpc⟩ := hpad
              have hhr : ty = 5 ∨ ty = 7 ∨ ty = 8 → (r.getD 0 0).toNat ≤ 127 := fun e => by
                have h1 := hh (by rw [b1]; exact e)
                rw [b4] at h1
                rcases hpc with ⟨e1, e2⟩ | ⟨e1, e2⟩
                · rw [e1, e2] at h1; exact h1
                · rw [e1, e2] at h1; exact h1
              obtain ⟨f1, f2, f3, f4, f5⟩ := front_bodyN (st := st) (pad := pad) hL hhr
              rw [← hf] at f1 f2 f3 f4 f5
              have hpay : payL f = s := by
                unfold payL
                rw [b4]
                rcases hpc with ⟨e1, e2⟩ | ⟨e1, e2⟩
                · rw [e1, if_neg (by omega), f1, e2]
                · rw [e1, if_pos (by omega), f1, e2]; simp
              have hsz := payL_length f (fun e => by rw [b1]; exact f2.2.2.2.2.2.1 e) (by rw [b1, b2, b4]; exact hpo)
              refine ⟨⟨⟨by rw [b3]; exact hst, f3, f4⟩, fun e => f5 (by rw [← b1]; exact e), by rw [b1, b2, b4]; exact hpo, by rw [b1, b2]; exact f2, ?_⟩, ?_⟩
              · rw [← hsz, hpay]
                omega
              · unfold putL7
                rw [hpay, b1, b2, b3, hhead, hb]
            · rw [if_neg c4] at h
              have h1 := congrArg (·.2.1) h
              simp only at h1
              exact absurd h1 c4
end Go.Proofs.YtooaajnkiokpnaaGreatDoor
