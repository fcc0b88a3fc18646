/-
  The program's ring in memory: its cells, its streams'; what a step on it leaves. No conditions but those that each theorem names.
-/
import Derived.Test.YtplohgaecoobaaaUrm
import Derived.Test.YtplohgaecoobaaaWgr
namespace Go.Proofs.Ytplohgaecoobaaa
open Go.RowKit Go.WideShapes

/-- A stream of the program's ring: what it is; the block of its struct; of its window; where its bytes are. -/
structure Se where
  x : Sn
  sb : Nat
  p : Nat
  A : Option Addr
  c : Nat
def Se.v (e : Se) : Value := .slice e.A e.x.b.length e.c
/-- The cells of a stream. -/
def sec (e : Se) : Array Value := #[.int .u32 e.x.st, e.v, .bool e.x.en, .bool e.x.ov, .pointer (some ⟨e.p, 0, none⟩)]
/-- The cells of a ring. -/
def rgc (A : Option Addr) (n c t q : Nat) : Array Value := #[.slice A n c, .int .i64 t, .pointer (some ⟨q, 0, none⟩)]
/-- Its place in the row. -/
def sep (e : Se) : List Value := [.pointer (some ⟨e.sb, 0, none⟩)]
theorem sep_len (e : Se) : (sep e).length = 1 := rfl
theorem sep_one (e : Se) : ∀ u ∈ sep e, u.oneCell' = true := by
  intro u hu
  rw [List.mem_singleton.1 hu]; rfl
/-- Its blocks. -/
def Se.fp (e : Se) (k : Nat) : Prop := k = e.sb ∨ k = e.p ∨ ob e.v k
structure SeIn (w : World) (e : Se) : Prop where
  s : Row w e.sb 84 (sec e)
  n : Row w e.p 93 (wnc e.x.lf 2)
  b : Bo w 0 5 e.v e.x.b
/-- A ring: its block g, its window's q, its row, its turn, its window. -/
structure TrL (w : World) (g q : Nat) (A : Option Addr) (c : Nat) (L : List Se) (t : Nat) (W : Int) : Prop where
  r : Row w g 71 (rgc A L.length c t q)
  n : Row w q 93 (wnc W 1)
  s : OwS w 0 81 1 (.slice A L.length c) L.length (enl sep L)
  i : ∀ e ∈ L, SeIn w e
  d : ∀ (i j : Nat) (a b : Se), L[i]? = some a → L[j]? = some b → ∀ k, a.fp k → b.fp k → i = j
  q : ∀ e ∈ L, e.p ≠ q
/-- All its blocks. -/
def TF (g q : Nat) (A : Option Addr) (c : Nat) (L : List Se) (k : Nat) : Prop := k = g ∨ k = q ∨ ob (.slice A L.length c) k ∨ ∃ e ∈ L, e.fp k
/-- The program's ring in memory; F: its blocks. -/
def Tr (w : World) (F : Nat → Prop) (g : Nat) (m : Rm) : Prop := ∃ q A c L, m.l = L.map (·.x) ∧ TrL w g q A c L m.t m.w ∧ F = TF g q A c L
theorem Row.ne_type {w : World} {g k : Nat} {T U : TypeId} {cs ds : Array Value} (h : Row w g T cs) (h2 : Row w k U ds) (hn : T ≠ U) : g ≠ k := by
  rintro rfl
  unfold Row at h h2
  rw [h] at h2
  injection h2 with h2
  injection h2 with _ h2
  exact hn h2
theorem OwS.row {w : World} {base : Nat} {e : TypeId} {k n : Nat} {v : Value} {cs : List Value} (h : OwS w base e k v n cs) {g : Nat} (hg : ob v g) : ∃ cur, Row w g e cur := by
  unfold ob at hg
  rcases h.2 with ⟨rfl, _⟩ | ⟨g', o, c, cur, rfl, _, hr, _⟩
  · simp [Value.ownBlock] at hg
  · simp [Value.ownBlock] at hg
    subst hg
    exact ⟨cur, hr⟩
section
variable {w w' : World} {g q : Nat} {A A' : Option Addr} {c c' : Nat} {L : List Se} {t t' : Nat} {W W' : Int} {e e' : Se}
theorem SeIn.keep (h : SeIn w e) (hk : ∀ k, e.fp k → w'.heap[k]? = w.heap[k]?) : SeIn w' e :=
  ⟨(hk _ (.inl rfl)).trans h.s, (hk _ (.inr (.inl rfl))).trans h.n, OwS.keep h.b fun k hk' => hk k (.inr (.inr hk'))⟩
theorem SeIn.lt (h : SeIn w e) {k : Nat} (hk : e.fp k) : k < w.heap.size := by
  rcases hk with rfl | rfl | hk
  · exact h.s.lt
  · exact h.n.lt
  · exact (OwS.lt h.b k hk).2
theorem TrL.lt (h : TrL w g q A c L t W) {k : Nat} (hk : TF g q A c L k) : k < w.heap.size := by
  rcases hk with rfl | rfl | hk | ⟨e, he, hk⟩
  · exact h.r.lt
  · exact h.n.lt
  · exact (OwS.lt h.s k hk).2
  · exact (h.i e he).lt hk
theorem TrL.keep (h : TrL w g q A c L t W) (hk : ∀ k, TF g q A c L k → w'.heap[k]? = w.heap[k]?) : TrL w' g q A c L t W :=
  ⟨(hk _ (.inl rfl)).trans h.r, (hk _ (.inr (.inl rfl))).trans h.n, OwS.keep h.s fun k hk' => hk k (.inr (.inr (.inl hk'))), fun e he => (h.i e he).keep fun k hk' => hk k (.inr (.inr (.inr ⟨e, he, hk'⟩))), h.d, h.q⟩
theorem TrL.below (h : TrL w g q A c L t W) (hb : Below w.heap.size w w') : TrL w' g q A c L t W := h.keep fun k hk => hb.block k (h.lt hk)
/-- A stream's blocks are none of the ring's own. -/
theorem SeIn.not (h : SeIn w e) {k : Nat} {T : TypeId} {cs : Array Value} (hr : Row w k T cs) (h1 : T ≠ 84) (h2 : T ≠ 93 ∨ k ≠ e.p) (h3 : T ≠ 5) : ¬ e.fp k := by
  rintro (rfl | rfl | hk)
  · exact hr.ne_type h.s h1 rfl
  · rcases h2 with h2 | h2
    · exact hr.ne_type h.n h2 rfl
    · exact h2 rfl
  · obtain ⟨cur, h4⟩ := OwS.row h.b hk
    exact hr.ne_type h4 h3 rfl
theorem TrL.not_g (h : TrL w g q A c L t W) (he : e ∈ L) : ¬ e.fp g := (h.i e he).not h.r (by decide) (.inl (by decide)) (by decide)
theorem TrL.not_q (h : TrL w g q A c L t W) (he : e ∈ L) : ¬ e.fp q := (h.i e he).not h.n (by decide) (.inr fun e1 => h.q e he e1.symm) (by decide)
theorem TrL.not_s (h : TrL w g q A c L t W) (he : e ∈ L) : ∀ k, ob (.slice A L.length c) k → ¬ e.fp k := fun k hk => by
  obtain ⟨cur, h4⟩ := OwS.row h.s hk
  exact (h.i e he).not h4 (by decide) (.inl (by decide)) (by decide)
theorem TrL.g_q (h : TrL w g q A c L t W) : g ≠ q := h.r.ne_type h.n (by decide)
theorem TrL.s_g (h : TrL w g q A c L t W) : ¬ ob (.slice A L.length c) g := fun hk => by
  obtain ⟨cur, h4⟩ := OwS.row h.s hk
  exact h.r.ne_type h4 (by decide) rfl
theorem TrL.s_q (h : TrL w g q A c L t W) : ¬ ob (.slice A L.length c) q := fun hk => by
  obtain ⟨cur, h4⟩ := OwS.row h.s hk
  exact h.n.ne_type h4 (by decide) rfl
theorem TrL.cap (h : TrL w g q A c L t W) : L.length ≤ c ∧ c ≤ maxLen := by
  obtain ⟨_, _, e, h1, h2⟩ := h.s.shape
  injection e with _ _ e
  subst e
  exact ⟨h1, h2⟩
/-- The ring's turn stored. -/
theorem TrL.turn (h : TrL w g q A c L t W) (hf : Fs (fun k => k = g) w w') (hr : Row w' g 71 (rgc A L.length c t' q)) : TrL w' g q A c L t' W :=
  ⟨hr, hf.row (fun e => h.g_q e.symm) h.n, hf.owns h.s fun k hk e => h.s_g (by rw [← show k = g from e]; exact hk), fun e he => (h.i e he).keep fun k hk => hf.block k ((h.i e he).lt hk) fun e1 => h.not_g he (by rw [← show k = g from e1]; exact hk), h.d, h.q⟩
/-- The ring's window changed. -/
theorem TrL.win (h : TrL w g q A c L t W) (hf : Fs (fun k => k = q) w w') (hr : Row w' q 93 (wnc W' 1)) : TrL w' g q A c L t W' :=
  ⟨hf.row h.g_q h.r, hr, hf.owns h.s fun k hk e => h.s_q (by rw [← show k = q from e]; exact hk), fun e he => (h.i e he).keep fun k hk => hf.block k ((h.i e he).lt hk) fun e1 => h.not_q he (by rw [← show k = q from e1]; exact hk), h.d, h.q⟩
theorem enl_sep_set {i : Nat} (hi : L[i]? = some e) (hs : e'.sb = e.sb) : enl sep (L.set i e') = enl sep L := by
  obtain ⟨hl, rfl⟩ := List.getElem?_eq_some_iff.1 hi
  have h1 : ∀ l : List Se, enl sep l = l.map fun e => Value.pointer (some ⟨e.sb, 0, none⟩) := fun l => by
    induction l with
    | nil => rfl
    | cons a l ih => rw [enl_cons, ih]; rfl
  rw [h1, h1]
  apply List.ext_getElem?
  intro j
  rw [List.getElem?_map, List.getElem?_map, List.getElem?_set]
  by_cases he : i = j
  · subst he
    rw [if_pos rfl, if_pos hl, List.getElem?_eq_getElem hl, Option.map_some, Option.map_some, hs]
  · rw [if_neg he]
/-- One stream changed. -/
theorem TrL.upd (h : TrL w g q A c L t W) {i : Nat} (hi : L[i]? = some e) (hf : Fs e.fp w w') (hn : SeIn w' e') (hs : e'.sb = e.sb) (hp : ∀ k, e'.fp k → e.fp k ∨ w.heap.size ≤ k) : TrL w' g q A c (L.set i e') t W := by
  have he : e ∈ L := List.mem_of_getElem? hi
  have hil := (List.getElem?_eq_some_iff.1 hi).1
  have hlen : (L.set i e').length = L.length := List.length_set
  have hoth : ∀ (j : Nat) (a : Se), j ≠ i → L[j]? = some a → ∀ k, a.fp k → ¬ e.fp k ∧ k < w.heap.size := fun j a hj ha k hk => ⟨fun h1 => hj (h.d j i a e ha hi k hk h1), (h.i a (List.mem_of_getElem? ha)).lt hk⟩
  refine ⟨by rw [hlen]; exact hf.row (h.not_g he) h.r, hf.row (h.not_q he) h.n, ?_, ?_, ?_, ?_⟩
  · rw [hlen, enl_sep_set hi hs]
    exact hf.owns h.s (h.not_s he)
  · intro a ha
    obtain ⟨j, hj⟩ := List.getElem?_of_mem ha
    rw [List.getElem?_set] at hj
    split at hj
    · cases hj; exact hn
    · rename_i hne
      exact (h.i a (List.mem_of_getElem? hj)).keep fun k hk => hf.block k (hoth j a (fun e => hne e.symm) hj k hk).2 (hoth j a (fun e => hne e.symm) hj k hk).1
  · have hx : ∀ (j : Nat) (b : Se), (L.set i e')[j]? = some b → j = i ∧ b = e' ∨ j ≠ i ∧ L[j]? = some b := fun j b hj => by
      rw [List.getElem?_set] at hj
      split at hj
      · rename_i he1
        cases hj; exact .inl ⟨he1.symm, rfl⟩
      · rename_i hne
        exact .inr ⟨fun e => hne e.symm, hj⟩
    have hno : ∀ (j : Nat) (b : Se), j ≠ i → L[j]? = some b → ∀ k, b.fp k → ¬ e'.fp k := fun j b hj hb k hk h1 => by
      have h2 := hoth j b hj hb k hk
      rcases hp k h1 with h3 | h3
      · exact h2.1 h3
      · omega
    intro j1 j2 a b ha hb k hka hkb
    rcases hx j1 a ha with ⟨rfl, rfl⟩ | ⟨h1, h2⟩ <;> rcases hx j2 b hb with ⟨h3, h4⟩ | ⟨h3, h4⟩
    · exact h3.symm
    · exact absurd hka (hno j2 b h3 h4 k hkb)
    · subst h4; exact absurd hkb (hno j1 a h1 h2 k hka)
    · exact h.d j1 j2 a b h2 h4 k hka hkb
  · intro a ha
    obtain ⟨j, hj⟩ := List.getElem?_of_mem ha
    rw [List.getElem?_set] at hj
    split at hj
    · cases hj
      intro e1
      rcases hp e'.p (.inr (.inl rfl)) with h3 | h3
      · exact h.not_q he (by rw [← e1]; exact h3)
      · have := h.n.lt; omega
    · exact h.q a (List.mem_of_getElem? hj)
theorem TF.upd {i : Nat} (hi : L[i]? = some e) (hp : ∀ k, e'.fp k → e.fp k ∨ w.heap.size ≤ k) : ∀ k, TF g q A c (L.set i e') k → TF g q A c L k ∨ w.heap.size ≤ k := by
  intro k hk
  unfold TF at *
  rw [List.length_set] at hk
  rcases hk with h1 | h1 | h1 | ⟨a, ha, h1⟩
  · exact .inl (.inl h1)
  · exact .inl (.inr (.inl h1))
  · exact .inl (.inr (.inr (.inl h1)))
  · rcases List.mem_or_eq_of_mem_set ha with ha | rfl
    · exact .inl (.inr (.inr (.inr ⟨a, ha, h1⟩)))
    · rcases hp k h1 with h2 | h2
      · exact .inl (.inr (.inr (.inr ⟨e, List.mem_of_getElem? hi, h2⟩)))
      · exact .inr h2
theorem TF.of_e (he : e ∈ L) {k : Nat} (hk : e.fp k) : TF g q A c L k := .inr (.inr (.inr ⟨e, he, hk⟩))
end
theorem Tr.keep {w w' : World} {F : Nat → Prop} {g : Nat} {m : Rm} (h : Tr w F g m) (hk : ∀ k, F k → w'.heap[k]? = w.heap[k]?) : Tr w' F g m := by
  obtain ⟨q, A, c, L, h1, h2, rfl⟩ := h
  exact ⟨q, A, c, L, h1, h2.keep hk, rfl⟩
theorem Tr.lts {w : World} {F : Nat → Prop} {g : Nat} {m : Rm} (h : Tr w F g m) : ∀ k, F k → k < w.heap.size := by
  obtain ⟨q, A, c, L, h1, h2, rfl⟩ := h
  exact fun k hk => h2.lt hk
/-- Few streams, few bytes. -/
structure Rm.Sm (m : Rm) : Prop where
  few : m.l.length ≤ 1000
  b : ∀ x ∈ m.l, x.b.length ≤ 1000000
theorem map_at {L : List Se} {l : List Sn} (h : l = L.map (·.x)) (k : Nat) : l[k]? = (L[k]?).map (·.x) := by rw [h]; simp
theorem map_len {L : List Se} {l : List Sn} (h : l = L.map (·.x)) : l.length = L.length := by rw [h]; simp
section
variable {w : World} {g q : Nat} {A : Option Addr} {c : Nat} {L : List Se} {t : Nat} {W : Int}
theorem rg_cells (h : TrL w g q A c L t W) : w.cell? ⟨g, 0, none⟩ = some (.slice A L.length c) ∧ w.cell? ⟨g, 1, none⟩ = some (.int .i64 t) ∧ w.cell? ⟨g, 2, none⟩ = some (.pointer (some ⟨q, 0, none⟩)) := ⟨h.r.cell rfl, h.r.cell rfl, h.r.cell rfl⟩
theorem se_cells {e : Se} (h : SeIn w e) : w.cell? ⟨e.sb, 0, none⟩ = some (.int .u32 e.x.st) ∧ w.cell? ⟨e.sb, 1, none⟩ = some (.slice e.A e.x.b.length e.c) ∧ w.cell? ⟨e.sb, 2, none⟩ = some (.bool e.x.en) ∧ w.cell? ⟨e.sb, 3, none⟩ = some (.bool e.x.ov) ∧ w.cell? ⟨e.sb, 4, none⟩ = some (.pointer (some ⟨e.p, 0, none⟩)) :=
  ⟨h.s.cell rfl, h.s.cell rfl, h.s.cell rfl, h.s.cell rfl, h.s.cell rfl⟩
/-- A place of the row. -/
theorem TrL.at (h : TrL w g q A c L t W) {k : Nat} {e : Se} (hk : L[k]? = some e) : ∃ b o, A = some ⟨b, o, none⟩ ∧ w.cell? ⟨b, o + k, none⟩ = some (.pointer (some ⟨e.sb, 0, none⟩)) ∧ SeIn w e ∧ k < L.length := by
  obtain ⟨hl, rfl⟩ := List.getElem?_eq_some_iff.1 hk
  have hr := OwS.reads h.s
  obtain ⟨b, o, e1, _, hc⟩ := hr (enl_ne sep_len (by omega) (by omega))
  refine ⟨b, o, e1, hc k _ ?_, h.i _ (List.getElem_mem hl), hl⟩
  have := enl_at (enc := sep) sep_len hl (j := 0) (by omega)
  rw [Nat.mul_one, Nat.add_zero] at this
  rw [this]
  rfl
end
end Go.Proofs.Ytplohgaecoobaaa
