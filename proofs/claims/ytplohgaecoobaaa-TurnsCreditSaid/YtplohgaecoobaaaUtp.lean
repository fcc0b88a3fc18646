/-
  The program's ring: Put, by contract. Conditions: the ring lies in memory, few streams, few bytes; the bytes that are put lie outside the ring.
-/
import Derived.Test.YtplohgaecoobaaaUto
namespace Go.Proofs.Ytplohgaecoobaaa
open Go.RowKit Go.WideShapes

/-- A stream with other bytes, told to end, ended, with another window. -/
def Se.upB (e : Se) (b : List UInt8) (A : Option Addr) (c : Nat) : Se := ⟨{ e.x with b := b }, e.sb, e.p, A, c⟩
def Se.upEn (e : Se) (en : Bool) : Se := ⟨{ e.x with en := en }, e.sb, e.p, e.A, e.c⟩
def Se.upOv (e : Se) (ov : Bool) : Se := ⟨{ e.x with ov := ov }, e.sb, e.p, e.A, e.c⟩
def Se.upLf (e : Se) (l : Int) : Se := ⟨{ e.x with lf := l }, e.sb, e.p, e.A, e.c⟩
section
variable {w w' : World} {e : Se}
theorem se_setB (h : Row w e.sb 84 (sec e)) (b : List UInt8) (A : Option Addr) (c : Nat) : Row (w.setCell ⟨e.sb, 1, none⟩ (.slice A b.length c)) e.sb 84 (sec (e.upB b A c)) := h.stored 1 _
theorem se_setEn (h : Row w e.sb 84 (sec e)) (en : Bool) : Row (w.setCell ⟨e.sb, 2, none⟩ (.bool en)) e.sb 84 (sec (e.upEn en)) := h.stored 2 _
theorem se_setOv (h : Row w e.sb 84 (sec e)) (ov : Bool) : Row (w.setCell ⟨e.sb, 3, none⟩ (.bool ov)) e.sb 84 (sec (e.upOv ov)) := h.stored 3 _
theorem SeIn.sp (h : SeIn w e) : e.sb ≠ e.p := h.s.ne_type h.n (by decide)
theorem SeIn.vs (h : SeIn w e) : ¬ ob e.v e.sb := fun hk => by
  obtain ⟨cur, h4⟩ := OwS.row h.b hk
  exact h.s.ne_type h4 (by decide) rfl
theorem SeIn.vp (h : SeIn w e) : ¬ ob e.v e.p := fun hk => by
  obtain ⟨cur, h4⟩ := OwS.row h.b hk
  exact h.n.ne_type h4 (by decide) rfl
/-- A cell of the stream's struct stored anew. -/
theorem SeIn.en (h : SeIn w e) (en : Bool) : SeIn (w.setCell ⟨e.sb, 2, none⟩ (.bool en)) (e.upEn en) ∧ Fs e.fp w (w.setCell ⟨e.sb, 2, none⟩ (.bool en)) :=
  ⟨⟨se_setEn h.s en, h.n.stored' (a := ⟨e.sb, 2, none⟩) (fun e1 => h.sp e1.symm) _, OwS.setCell (a := ⟨e.sb, 2, none⟩) h.b h.vs _⟩, (Fs.refl _ _).setCell (fun _ => .inl rfl) _ _⟩
theorem SeIn.ov (h : SeIn w e) (ov : Bool) : SeIn (w.setCell ⟨e.sb, 3, none⟩ (.bool ov)) (e.upOv ov) ∧ Fs e.fp w (w.setCell ⟨e.sb, 3, none⟩ (.bool ov)) :=
  ⟨⟨se_setOv h.s ov, h.n.stored' (a := ⟨e.sb, 3, none⟩) (fun e1 => h.sp e1.symm) _, OwS.setCell (a := ⟨e.sb, 3, none⟩) h.b h.vs _⟩, (Fs.refl _ _).setCell (fun _ => .inl rfl) _ _⟩
/-- Other bytes, that lie where its own were, or in a new block. -/
theorem SeIn.by_ (h : SeIn w e) {b : List UInt8} {A : Option Addr} {c : Nat} (hF : Fs (ob e.v) w w') (hb : Bo w' 0 5 (.slice A b.length c) b) (hN : ∀ k, ob (.slice A b.length c) k → ob e.v k ∨ w.heap.size ≤ k) :
    SeIn (w'.setCell ⟨e.sb, 1, none⟩ (.slice A b.length c)) (e.upB b A c) ∧ Fs e.fp w (w'.setCell ⟨e.sb, 1, none⟩ (.slice A b.length c)) ∧ ∀ k, (e.upB b A c).fp k → e.fp k ∨ w.heap.size ≤ k := by
  have hs : ¬ ob (.slice A b.length c) e.sb := fun hk => by
    rcases hN _ hk with h1 | h1
    · exact h.vs h1
    · have := h.s.lt; omega
  refine ⟨⟨se_setB (hF.row h.vs h.s) b A c, (hF.row h.vp h.n).stored' (a := ⟨e.sb, 1, none⟩) (fun e1 => h.sp e1.symm) _, OwS.setCell (a := ⟨e.sb, 1, none⟩) hb hs _⟩, (hF.mono fun k _ hk => .inr (.inr hk)).setCell (fun _ => .inl rfl) _ _, fun k hk => ?_⟩
  rcases hk with h1 | h1 | h1
  · exact .inl (.inl h1)
  · exact .inl (.inr (.inl h1))
  · rcases hN k h1 with h2 | h2
    · exact .inl (.inr (.inr h2))
    · exact .inr h2
end
/-- One stream changed: what the call leaves. -/
theorem tp_upd {w w' : World} {F : Nat → Prop} {g q : Nat} {A : Option Addr} {c : Nat} {L : List Se} {m : Rm} {k : Nat} {e e' : Se} {v : Value} (hl : m.l = L.map (·.x)) (h : TrL w g q A c L m.t m.w) (hF : F = TF g q A c L) (hk : L[k]? = some e) (hf : Fs e.fp w w') (hn : SeIn w' e') (hs : e'.sb = e.sb)
    (hp : ∀ k, e'.fp k → e.fp k ∨ w.heap.size ≤ k) {y : Sn} (hy : e'.x = y) : TP w F g ⟨m.l.set k y, m.t, m.w⟩ v (.returned v) w' := by
  subst hF
  refine ⟨rfl, _, ⟨q, A, c, L.set k e', ?_, h.upd hk hf hn hs hp, rfl⟩, hf.mono fun b _ hb => TF.of_e (List.mem_of_getElem? hk) hb, TF.upd hk hp⟩
  show m.l.set k y = _
  rw [List.map_set, hl, hy]
theorem u8_info : (Try.prog.info? 5).map (fun i => (i.zero, i.size, i.bytes)) = some (some (.int .u8 0), 1, 1) := by kernel_rfl
attribute [local irreducible] sec rgc fd wnc btw
section
variable {w : World} {F : Nat → Prop} {g : Nat} {m : Rm}
set_option maxRecDepth 100000 in
theorem tput_nil (w : World) (s : Int) (v : Value) (en : Bool) : Calls Try.prog 22 #[.pointer none, .int .u32 s, v, .bool en] w fun e w' => e = .returned (.bool false) ∧ Below w.heap.size w w' := by
  go_enter Try.func22, Try.ntmps22
  go_wp2_with fail
  refine (tfind_nil _ _).mono ?_
  rintro r w2 ⟨rfl, hb⟩
  have HB := Lib.hid hb
  clear hb
  go_wp2_with fail
  go_ret
  exact ⟨rfl, HB.out⟩
set_option maxRecDepth 100000 in
set_option maxHeartbeats 2000000 in
theorem tput_any (h : Tr w F g m) (hm : m.Ok) (hs : m.Sm) (s : Nat) {S : Nat → Prop} {A : Option Addr} {c : Nat} {b : List UInt8} (hb : RdS w S A (byc b)) (hS : ∀ k, S k → k < w.heap.size → ¬ F k) (hl : b.length ≤ 1000000) (en : Bool) :
    Calls Try.prog 22 #[.pointer (some ⟨g, 0, none⟩), .int .u32 s, .slice A b.length c, .bool en] w (TP w F g (rmPut m s b en).1 (.bool (rmPut m s b en).2)) := by
  have HSAME := fun (w' : World) (hb : Below w.heap.size w w') (v : Value) => tp_same (v := v) h hb
  obtain ⟨q, A0, c0, L, hml, ht, hF, htl, hL⟩ := h.of hm hs
  unfold rmPut
  cases hx : m.l[fd s m.l]? with
  | none =>
    have HC := Lib.hid (tfind_no (s := s) ht (by omega) (by have h1 := none_of hx; rw [← hml, ← map_len hml]; exact h1))
    have HS := Lib.hid HSAME
    clear ht hml hs hm htl h HSAME hb hx
    go_enter Try.func22, Try.ntmps22
    go_wp2_with fail
    refine HC.out.mono ?_
    rintro r w2 ⟨rfl, hb⟩
    have HP := Lib.hid (HS.out _ hb (.bool false))
    clear hb HC HS
    go_wp2_with fail
    go_ret
    exact HP.out
  | some x =>
    obtain ⟨e, he, rfl⟩ := se_of hml hx
    have hbl : e.x.b.length ≤ 1000000 := hs.b _ (List.mem_of_getElem? hx)
    have HC := Lib.hid (tfind_yes (s := s) ht (by omega) (by rw [← hml]; exact he))
    have H := Lib.hid ht
    have hem := List.mem_of_getElem? he
    by_cases hen : e.x.en = true
    · have HS := Lib.hid HSAME
      dsimp only
      rw [if_pos hen]
      clear ht hml hs hx he hb h HSAME
      go_enter Try.func22, Try.ntmps22
      go_wp2_with fail
      refine HC.out.mono ?_
      rintro r w2 ⟨rfl, hb⟩
      obtain ⟨_, _, c2, _, _⟩ := se_cells ((H.out.below hb).i e hem)
      rw [hen] at c2
      have HP := Lib.hid (HS.out _ hb (.bool false))
      clear hb HC H hem HS hen
      go_wp2_with fail
      go_ret
      exact HP.out
    · have hen' : e.x.en = false := by simpa using hen
      dsimp only
      rw [if_neg hen]
      obtain ⟨i0, hi0, hz0, hz1, hz2⟩ := info_parts u8_info
      have HML := Lib.hid hml
      have HE := Lib.hid he
      have HRB := Lib.hid hb
      have HS := Lib.hid hS
      have HFF := Lib.hid hF
      clear ht hml hs hx he hb hF h HSAME hen htl hm hS
      go_enter Try.func22, Try.ntmps22
      go_wp2_with fail
      refine HC.out.mono ?_
      rintro r w2 ⟨rfl, hb⟩
      have hse := (H.out.below hb).i e hem
      have H2 := Lib.hid (H.out.below hb)
      obtain ⟨_, c1, c2, _, _⟩ := se_cells hse
      have z1 := hse.s.thawed 1
      rw [hen'] at c2
      have hnv : ∀ k, S k → k < w.heap.size → ¬ e.fp k := fun k h1 h2 h3 => HS.out k h1 h2 (by rw [HFF.out]; exact TF.of_e hem h3)
      have hrd : RdB w2 w2.heap.size A b := RdB.ofS (B := w2.heap.size) ((HRB.out.imp (S' := fun k => k < w.heap.size) fun _ _ h2 => h2).keep fun k hk => hb.block k hk) fun k _ h2 => h2
      have HSE := Lib.hid hse
      have HRD := Lib.hid hrd
      have HW := Lib.hid hb
      clear hb HC H hse hrd
      go_upto_region 4 with fail
      go_upto_region 5 with (at_builtin; go_loud (refine wpList_appBo rfl (.tmp 25) (.tmp 26) 34 rfl 0 5 i0 Try.underlying34 hi0 hz0 hz1 hz2 e.v e.x.b rfl HSE.out.b w2.heap.size A b _ _ rfl rfl HRD.out (by omega) (Nat.zero_le _) ?_; intro v3 w3 hO hF3 hN3; obtain ⟨bb, hbb⟩ : ∃ bb, bb = e.x.b ++ b := ⟨_, rfl⟩; rw [← hbb] at hO; have HBB := Lib.hid hbb; clear hbb; obtain ⟨A3, c3, rfl, hc3⟩ := hO.shape; have hr3 := hF3.row HSE.out.vs HSE.out.s; have c13 := hr3.cell (j := 1) (v := .slice e.A e.x.b.length e.c) (by unfold sec; rfl); have z13 := hr3.thawed 1))
      obtain ⟨hse4, hf4, hp4⟩ := HSE.out.by_ hF3 hO (fun k hk => hN3.own hk)
      have HSE4 := Lib.hid hse4
      have HF4 := Lib.hid hf4
      have HP4 := Lib.hid hp4
      clear hO hF3 hN3 hr3 c13 z13 hse4 hf4 hp4 c1 c2 z1 HSE HRD hen'
      generalize w3.setCell ⟨e.sb, 1, none⟩ (.slice A3 bb.length c3) = w4 at *
      obtain ⟨hse5, hf5⟩ := HSE4.out.en en
      have c2 : w4.cell? ⟨e.sb, 2, none⟩ = some (.bool e.x.en) := (se_cells HSE4.out).2.2.1
      have z2 : w4.frozen? ⟨e.sb, 2, none⟩ = false := HSE4.out.s.thawed 2
      have HP : Hid (TP w F g ⟨m.l.set (fd s m.l) { e.x with b := e.x.b ++ b, en := en }, m.t, m.w⟩ (.bool true) (.returned (.bool true)) (w4.setCell ⟨e.sb, 2, none⟩ (.bool en))) := by
        rw [← HBB.out]
        have hff : Fs e.fp w2 (w4.setCell ⟨e.sb, 2, none⟩ (.bool en)) := HF4.out.trans hf5 fun k hk h => by
          rcases HP4.out k h with h1 | h1
          · exact h1
          · omega
        obtain ⟨_, F', hT, hF, hN⟩ := tp_upd (v := .bool true) HML.out H2.out HFF.out HE.out hff hse5 rfl HP4.out (y := { e.x with b := bb, en := en }) rfl
        exact ⟨rfl, F', hT, (Fs.of_below HW.out).trans hF fun _ _ h => h, fun k hk => by
          rcases hN k hk with h1 | h1
          · exact .inl h1
          · have := HW.out.size; exact .inr (by omega)⟩
      clear hse5 hf5 HSE4 HF4 HP4
      go_wp2_with fail
      go_ret
      exact HP.out
end
end Go.Proofs.Ytplohgaecoobaaa
