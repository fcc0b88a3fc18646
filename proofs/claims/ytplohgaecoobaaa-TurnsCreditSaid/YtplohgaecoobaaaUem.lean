/-
  TurnsEnds' rings as functions of what came: streams that all end. No program; no conditions but those that each theorem names.
-/
import Derived.Test.YtplohgaecoobaaaUfm
namespace Go.Proofs.Ytplohgaecoobaaa

/-- How many bytes there are in all. -/
def sumB : List (List UInt8) → Nat
  | [] => 0
  | b :: l => b.length + sumB l
theorem sumB_le {n : Nat} : ∀ {l : List (List UInt8)}, (∀ b ∈ l, b.length ≤ n) → sumB l ≤ l.length * n
  | [], _ => by simp [sumB]
  | b :: l, h => by
    have h1 := sumB_le fun c hc => h c (List.mem_cons_of_mem _ hc)
    have h2 := h b (List.mem_cons_self ..)
    rw [sumB, List.length_cons, Nat.succ_mul]
    omega
/-- The ring as it is opened. -/
def enR (l : List (List UInt8)) : List Sn := l.zipIdx.map fun p => ⟨p.2 + 1, p.1, true, false, 1000⟩
def enO (l : List (List UInt8)) : Rm := ⟨enR l, 0, 1048576⟩
theorem enR_len (l : List (List UInt8)) : (enR l).length = l.length := by simp [enR]
theorem enR_at {l : List (List UInt8)} {j : Nat} {b : List UInt8} (h : l[j]? = some b) : (enR l)[j]? = some ⟨j + 1, b, true, false, 1000⟩ := by
  unfold enR
  rw [List.getElem?_map, List.getElem?_zipIdx, h]
  simp
theorem enR_snoc (l : List (List UInt8)) (b : List UInt8) : enR (l ++ [b]) = enR l ++ [⟨l.length + 1, b, true, false, 1000⟩] := by
  unfold enR
  rw [List.zipIdx_append, List.map_append]
  simp
theorem enR_st {l : List (List UInt8)} {x : Sn} (h : x ∈ enR l) : x.st ≤ l.length ∧ 0 < x.st := by
  obtain ⟨j, hj⟩ := List.getElem?_of_mem h
  have hl := (List.getElem?_eq_some_iff.1 hj).1
  rw [enR_len] at hl
  rw [enR_at (List.getElem?_eq_getElem hl)] at hj
  cases hj
  exact ⟨by show j + 1 ≤ _; omega, by show 0 < j + 1; omega⟩
theorem enR_all (l : List (List UInt8)) : allN (enR l) = sumB l := by
  have h : ∀ (l : List (List UInt8)) (n : Nat), allN ((l.zipIdx n).map fun p => (⟨p.2 + 1, p.1, true, false, 1000⟩ : Sn)) = sumB l := by
    intro l
    induction l with
    | nil => intro n; rfl
    | cons b l ih => intro n; rw [List.zipIdx_cons, List.map_cons, allN, ih (n + 1), sumB]
  exact h l 0
theorem enO_0 : rmNew 1048576 = enO [] := by unfold rmNew enO btw; simp; rfl
theorem enO_step (l : List (List UInt8)) (b : List UInt8) : (rmOpen (enO l) (l.length + 1) 1000).2 = true ∧ rmPut (rmOpen (enO l) (l.length + 1) 1000).1 (l.length + 1) b true = (enO (l ++ [b]), true) ∧ rmPut (enO (l ++ [b])) (l.length + 1) b false = (enO (l ++ [b]), false) := by
  have hn : ∀ x ∈ (enO l).l, x.st ≠ l.length + 1 := fun x hx => by have := enR_st hx; omega
  obtain ⟨h1, h2⟩ := open_put (enO l) (l.length + 1) 1000 b true (by omega) hn
  have hb : btw 1000 = 1000 := by unfold btw; simp
  have h3 : (⟨(enO l).l ++ [⟨l.length + 1, b, true, false, btw 1000⟩], (enO l).t, (enO l).w⟩ : Rm) = enO (l ++ [b]) := by
    rw [hb]
    unfold enO
    rw [enR_snoc]
  refine ⟨by rw [h1], by rw [h2, h3], ?_⟩
  unfold rmPut
  have h4 : fd (l.length + 1) (enO (l ++ [b])).l = l.length := by
    unfold enO
    rw [enR_snoc]
    have := fd_snoc (l.length + 1) (enR l) ⟨l.length + 1, b, true, false, 1000⟩ hn rfl
    rw [this, enR_len]
  have h5 : (enO (l ++ [b])).l[l.length]? = some ⟨l.length + 1, b, true, false, 1000⟩ := enR_at (by rw [List.getElem?_append_right (Nat.le_refl _), Nat.sub_self]; rfl)
  rw [h4, h5]
  rfl
theorem enO_ok : ∀ (n : Nat) (l : List (List UInt8)), l.length = n → n ≤ 100 → (enO l).Ok
  | 0, l, h, _ => by rw [List.eq_nil_of_length_eq_zero h, ← enO_0]; exact rmNew_ok _
  | n + 1, l, h, hn => by
    rcases List.eq_nil_or_concat l with h0 | ⟨l', b, rfl⟩
    · rw [h0] at h; simp at h
    · have hl : l'.length = n := by simpa using h
      have h1 := enO_ok n l' hl (by omega)
      have h2 := rmPut_ok (rmOpen_ok h1 (l'.length + 1) (by omega) 1000) (l'.length + 1) b true
      rw [(enO_step l' b).2.1] at h2
      rw [List.concat_eq_append]
      exact h2
theorem enO_sm {l : List (List UInt8)} (h : l.length ≤ 100) (hb : ∀ b ∈ l, b.length ≤ 300) : (enO l).Sm := by
  refine ⟨by show (enR l).length ≤ _; rw [enR_len]; omega, fun x hx => ?_⟩
  obtain ⟨j, hj⟩ := List.getElem?_of_mem hx
  have hl := (List.getElem?_eq_some_iff.1 hj).1
  have hl' : j < l.length := by rw [← enR_len l]; exact hl
  have h9 : (enO l).l[j]? = some ⟨j + 1, l[j], true, false, 1000⟩ := enR_at (List.getElem?_eq_getElem hl')
  rw [h9] at hj
  cases hj
  have := hb _ (List.getElem_mem hl')
  show (l[j]).length ≤ _
  omega
theorem eno_sm {l : List (List UInt8)} (h : l.length ≤ 99) (hb : ∀ b ∈ l, b.length ≤ 300) : (rmOpen (enO l) (l.length + 1) 1000).1.Sm := by
  have hn : ∀ x ∈ (enO l).l, x.st ≠ l.length + 1 := fun x hx => by have := enR_st hx; omega
  obtain ⟨h1, _⟩ := open_put (enO l) (l.length + 1) 1000 [] true (by omega) hn
  have h2 := enO_sm (l := l) (by omega) hb
  rw [h1]
  refine ⟨by show (_ ++ _ : List Sn).length ≤ _; rw [List.length_append]; show (enR l).length + _ ≤ _; rw [enR_len]; simp; omega, fun x hx => ?_⟩
  rcases List.mem_append.1 hx with hx | hx
  · exact h2.b x hx
  · rw [List.mem_singleton.1 hx]; simp
/-- What is left to do. -/
def mu : List Sn → Nat
  | [] => 0
  | x :: l => x.b.length + (if x.ov then 0 else 1) + mu l
theorem mu_append : ∀ l r : List Sn, mu (l ++ r) = mu l + mu r
  | [], r => by simp [mu]
  | x :: l, r => by rw [List.cons_append, mu, mu, mu_append l r]; omega
theorem mu_set {l : List Sn} {k : Nat} {x : Sn} (h : l[k]? = some x) (y : Sn) : mu (l.set k y) + (x.b.length + (if x.ov then 0 else 1)) = mu l + (y.b.length + (if y.ov then 0 else 1)) := by
  obtain ⟨hl, hx⟩ := List.getElem?_eq_some_iff.1 h
  have e1 : l = l.take k ++ x :: l.drop (k + 1) := by rw [← hx, ← List.drop_eq_getElem_cons hl, List.take_append_drop]
  have e2 : l.set k y = l.take k ++ y :: l.drop (k + 1) := by rw [List.set_eq_take_append_cons_drop, if_pos hl]
  rw [e2]
  conv => rhs; rw [e1]
  rw [mu_append, mu_append, mu, mu]
  omega
theorem mu_mem {l : List Sn} (h : mu l = 0) : ∀ x ∈ l, x.b = [] ∧ x.ov = true := by
  induction l with
  | nil => intro x hx; cases hx
  | cons y l ih =>
    rw [mu] at h
    intro x hx
    rcases List.mem_cons.1 hx with rfl | hx
    · refine ⟨List.eq_nil_of_length_eq_zero (by omega), ?_⟩
      by_cases ho : x.ov = true
      · exact ho
      · rw [if_neg ho] at h; omega
    · exact ih (by omega) x hx
theorem mu_enR (l : List (List UInt8)) : mu (enR l) = sumB l + l.length := by
  have h : ∀ (l : List (List UInt8)) (n : Nat), mu ((l.zipIdx n).map fun p => (⟨p.2 + 1, p.1, true, false, 1000⟩ : Sn)) = sumB l + l.length := by
    intro l
    induction l with
    | nil => intro n; rfl
    | cons b l ih =>
      intro n
      rw [List.zipIdx_cons, List.map_cons, mu, ih (n + 1), sumB, List.length_cons]
      show b.length + (if false = true then 0 else 1) + _ = _
      rw [if_neg (by decide)]
      omega
  exact h l 0
/-- What was got of each, and whether it ended. -/
structure EnI (L : List (List UInt8)) (m : Rm) (G : List (List UInt8)) (E : List Bool) : Prop where
  ll : m.l.length = L.length
  gl : G.length = L.length
  el : E.length = L.length
  a : ∀ (j : Nat) (b g : List UInt8) (e : Bool), L[j]? = some b → G[j]? = some g → E[j]? = some e → ∃ r, m.l[j]? = some ⟨j + 1, r, true, e, 1000 - (g.length : Int)⟩ ∧ g ++ r = b ∧ (e = true → r = [])
  w : m.w + sumB L = 1048576 + allN m.l
theorem EnI.start (L : List (List UInt8)) : EnI L (enO L) (List.replicate L.length []) (List.replicate L.length false) := by
  refine ⟨enR_len L, by simp, by simp, fun j b g e hb hg he => ?_, ?_⟩
  · have hj := (List.getElem?_eq_some_iff.1 hb).1
    rw [List.getElem?_replicate, if_pos hj] at hg he
    cases hg
    cases he
    exact ⟨b, enR_at hb, rfl, fun h => by cases h⟩
  · show (1048576 : Int) + sumB L = 1048576 + (allN (enR L) : Nat)
    rw [enR_all]
theorem EnI.get {L : List (List UInt8)} {m : Rm} {G : List (List UInt8)} {E : List Bool} (h : EnI L m G E) {j : Nat} {x : Sn} (hx : m.l[j]? = some x) : ∃ b g e r, L[j]? = some b ∧ G[j]? = some g ∧ E[j]? = some e ∧ x = ⟨j + 1, r, true, e, 1000 - (g.length : Int)⟩ ∧ g ++ r = b ∧ (e = true → r = []) ∧ j < L.length := by
  have hj := (List.getElem?_eq_some_iff.1 hx).1
  have h1 := h.ll
  have h2 := h.gl
  have h3 := h.el
  have hb := List.getElem?_eq_getElem (show j < L.length by omega)
  have hg := List.getElem?_eq_getElem (show j < G.length by omega)
  have he := List.getElem?_eq_getElem (show j < E.length by omega)
  obtain ⟨r, h4, h5, h6⟩ := h.a j _ _ _ hb hg he
  rw [hx] at h4
  exact ⟨_, _, _, r, hb, hg, he, Option.some.inj h4, h5, h6, by omega⟩
/-- One turn. -/
theorem EnI.next {L : List (List UInt8)} {m : Rm} {G : List (List UInt8)} {E : List Bool} (h : EnI L m G E) (hm : m.Ok) {most : Int} {x : Sn} {N : Nat} {m' : Rm} (hr : rmNext m most = some (x, N, m')) :
    ∃ j g, j < L.length ∧ x.st = j + 1 ∧ E[j]? = some false ∧ G[j]? = some g ∧ EnI L m' (G.set j (g ++ x.b.take N)) (E.set j (snY N x).ov) ∧ mu m'.l + 1 ≤ mu m.l := by
  obtain ⟨k, hs⟩ := rmNext_sends hm hr
  obtain ⟨b, g, e, r, hb, hg, he, hx, hgr, her, hk⟩ := h.get hs.at_
  have hc := hs.cn
  have hxb : x.b = r := by rw [hx]
  have hxe : x.en = true := by rw [hx]
  have hxo : x.ov = e := by rw [hx]
  have hxl : x.lf = 1000 - (g.length : Int) := by rw [hx]
  have he0 : e = false := by
    cases e
    · rfl
    · exfalso
      have h1 := her rfl
      unfold can at hc
      rw [if_pos (by rw [hxb]; exact h1), hxe, hxo] at hc
      simp at hc
  have hor := snN_or (most := most) hc
  rw [← hs.n] at hor
  have hle := hs.le
  rw [hxb] at hle
  have hgl := (List.getElem?_eq_some_iff.1 hg).1
  have hel := (List.getElem?_eq_some_iff.1 he).1
  have hyb : (snY N x).b = r.drop N := by show x.b.drop N = _; rw [hxb]
  have hyo : (snY N x).ov = decide (r.drop N = []) := by show (x.en && decide (x.b.drop N = [])) = _; rw [hxe, hxb, Bool.true_and]
  refine ⟨k, g, hk, by rw [hx], by rw [← he0]; exact he, hg, ⟨?_, ?_, ?_, ?_, ?_⟩, ?_⟩
  · rw [hs.eq]; show (m.l.set k _).length = _; rw [List.length_set]; exact h.ll
  · rw [List.length_set]; exact h.gl
  · rw [List.length_set]; exact h.el
  · intro j b' g' e' hb' hg' he'
    rw [hs.eq]
    show ∃ r, (m.l.set k (snY N x))[j]? = _ ∧ _
    by_cases hjk : k = j
    · subst hjk
      rw [List.getElem?_set, if_pos rfl, if_pos hgl] at hg'
      rw [List.getElem?_set, if_pos rfl, if_pos hel] at he'
      cases hg'
      cases he'
      rw [hb] at hb'
      cases hb'
      refine ⟨r.drop N, ?_, ?_, ?_⟩
      · rw [List.getElem?_set, if_pos rfl, if_pos (List.getElem?_eq_some_iff.1 hs.at_).1]
        congr 1
        rw [hyo, hxb, List.length_append, List.length_take, Nat.min_eq_left hle]
        unfold snY
        rw [hx]
        congr 1
        show 1000 - (g.length : Int) - (N : Int) = 1000 - ((g.length + N : Nat) : Int)
        omega
      · rw [hxb, List.append_assoc, List.take_append_drop]; exact hgr
      · rw [hyo]; exact fun h => of_decide_eq_true h
    · rw [List.getElem?_set, if_neg hjk] at hg' he' ⊢
      exact h.a j b' g' e' hb' hg' he'
  · rw [hs.eq]
    show m.w - (N : Int) + sumB L = 1048576 + ((allN (m.l.set k (snY N x)) : Nat) : Int)
    have h1 := allN_set hs.at_ (snY N x)
    have h2 := h.w
    rw [hyb, hxb, List.length_drop] at h1
    omega
  · rw [hs.eq]
    show mu (m.l.set k (snY N x)) + 1 ≤ mu m.l
    have h1 := mu_set hs.at_ (snY N x)
    rw [hyb, hxb, List.length_drop, hxo, he0, hyo] at h1
    rw [if_neg (by decide)] at h1
    rcases hor with ⟨h2, h3⟩ | ⟨h2, h3, h4⟩
    · rw [hxb] at h2
      have h5 : r.drop N = [] := by rw [h2]; simp
      have h6 : r.length = 0 := by rw [h2]; rfl
      rw [h5, if_pos (by simp)] at h1
      omega
    · rw [hxb] at h3 h4 h2
      unfold can at hc
      rw [if_neg (by rw [hxb]; exact h2)] at hc
      simp only [Bool.and_eq_true, decide_eq_true_eq] at hc
      have : 0 < N := by omega
      split at h1 <;> omega
/-- All came. -/
def EnD (L : List (List UInt8)) (m : Rm) (G : List (List UInt8)) (E : List Bool) : Prop :=
  G.length = L.length ∧ (E.length = L.length ∧ m.l.length = L.length) ∧ (∀ (j : Nat) (b : List UInt8), L[j]? = some b → G[j]? = some b ∧ E[j]? = some true ∧ ∃ x, m.l[j]? = some x ∧ x.st = j + 1 ∧ x.b = []) ∧ (∀ x ∈ m.l, x.b = [] ∧ x.ov = true)
theorem EnI.done {L : List (List UInt8)} {m : Rm} {G : List (List UInt8)} {E : List Bool} (h : EnI L m G E) (ha : ∀ x ∈ m.l, x.b = [] ∧ x.ov = true) : EnD L m G E := by
  refine ⟨h.gl, ⟨h.el, h.ll⟩, fun j b hb => ?_, ha⟩
  have hj := (List.getElem?_eq_some_iff.1 hb).1
  have hx := List.getElem?_eq_getElem (show j < m.l.length by rw [h.ll]; exact hj)
  obtain ⟨b', g, e, r, hb', hg, he, hxe, hgr, _, _⟩ := h.get hx
  obtain ⟨h1, h2⟩ := ha _ (List.getElem_mem (show j < m.l.length by rw [h.ll]; exact hj))
  rw [hb] at hb'
  cases hb'
  rw [hxe] at h1 h2
  dsimp only at h1 h2
  subst h1 h2
  rw [List.append_nil] at hgr
  subst hgr
  exact ⟨hg, he, _, hx, by rw [hxe], by rw [hxe]⟩
theorem EnI.none {L : List (List UInt8)} {m : Rm} {G : List (List UInt8)} {E : List Bool} (h : EnI L m G E) (hb : ∀ b ∈ L, b.length ≤ 300) (hL : L.length ≤ 20) {most : Int} (hr : rmNext m most = none) : EnD L m G E := by
  have hno : ¬ fc m.w (rot m.l m.t) < (rot m.l m.t).length := fun h1 => by
    unfold rmNext at hr
    rw [List.getElem?_eq_getElem h1] at hr
    cases hr
  have hany := fc_any m.w (rot m.l m.t)
  rw [decide_eq_false hno, rot_any] at hany
  have hs := sumB_le hb
  have hs2 : sumB L ≤ 6000 := Nat.le_trans hs (by omega)
  refine h.done fun x hx => ?_
  have hcx : can m.w x = false := by
    cases hcc : can m.w x with
    | false => rfl
    | true =>
      have : m.l.any (can m.w) = true := List.any_eq_true.2 ⟨x, hx, hcc⟩
      rw [this] at hany
      cases hany
  obtain ⟨j, hj⟩ := List.getElem?_of_mem hx
  obtain ⟨b, g, e, r, hlb, hg, he, hxe, hgr, _, _⟩ := h.get hj
  have hbl := hb b (List.mem_of_getElem? hlb)
  have hgl : g.length ≤ 300 := by rw [← hgr, List.length_append] at hbl; omega
  unfold can at hcx
  by_cases h0 : x.b = []
  · refine ⟨h0, ?_⟩
    rw [if_pos h0, hxe] at hcx
    rw [hxe]
    simpa using hcx
  · exfalso
    rw [if_neg h0] at hcx
    have h1 : 0 < x.lf := by rw [hxe]; show 0 < 1000 - (g.length : Int); omega
    have h2 : 0 < m.w := by have := h.w; omega
    rw [decide_eq_true h1, decide_eq_true h2] at hcx
    cases hcx
theorem EnD.waits {L : List (List UInt8)} {m : Rm} {G : List (List UInt8)} {E : List Bool} (h : EnD L m G E) (hm : m.Ok) {j : Nat} (hj : j < L.length) : wtN m (j + 1) = 0 := by
  obtain ⟨_, _, x, hx, hs, hb⟩ := h.2.2.1 j _ (List.getElem?_eq_getElem hj)
  unfold wtN
  rw [fd_iff hm.uq hx hs, hx]
  dsimp only
  rw [hb]
  rfl
theorem EnD.all {L : List (List UInt8)} {m : Rm} {G : List (List UInt8)} {E : List Bool} (h : EnD L m G E) : allN m.l = 0 := by
  have h1 := allN_le (n := 0) (l := m.l) fun x hx => by rw [(h.2.2.2 x hx).1]; simp
  omega
theorem EnD.can {L : List (List UInt8)} {m : Rm} {G : List (List UInt8)} {E : List Bool} (h : EnD L m G E) : m.l.any (can m.w) = false := by
  rw [Bool.eq_false_iff]
  intro h1
  obtain ⟨x, hx, hc⟩ := List.any_eq_true.1 h1
  obtain ⟨h2, h3⟩ := h.2.2.2 x hx
  unfold Go.Proofs.Ytplohgaecoobaaa.can at hc
  rw [if_pos h2, h3] at hc
  simp at hc
theorem EnD.sm {L : List (List UInt8)} {m : Rm} {G : List (List UInt8)} {E : List Bool} (h : EnD L m G E) (hL : L.length ≤ 20) : m.Sm := ⟨by rw [h.2.1.2]; omega, fun x hx => by rw [(h.2.2.2 x hx).1]; simp⟩
theorem EnI.sm {L : List (List UInt8)} {m : Rm} {G : List (List UInt8)} {E : List Bool} (h : EnI L m G E) (hb : ∀ b ∈ L, b.length ≤ 300) (hL : L.length ≤ 20) : m.Sm := by
  refine ⟨by rw [h.ll]; omega, fun x hx => ?_⟩
  obtain ⟨j, hj⟩ := List.getElem?_of_mem hx
  obtain ⟨b, g, e, r, hlb, hg, he, hxe, hgr, _, _⟩ := h.get hj
  have hbl := hb b (List.mem_of_getElem? hlb)
  rw [← hgr, List.length_append] at hbl
  rw [hxe]
  show r.length ≤ _
  omega
end Go.Proofs.Ytplohgaecoobaaa
