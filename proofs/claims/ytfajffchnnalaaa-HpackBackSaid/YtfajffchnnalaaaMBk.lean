/-
  The document's Same, by its contract: the same fields are the same. Conditions: at most 2^40 fields.
  hpack's Encoder.Limit, by its contract. Conditions: mosts of at most 4096.
  The statements' bound on what is gone through, by its contract: where it is not passed, no field is great. Conditions: as many fields as an int counts.
  The law's bound on its lists, by its contract: where it is not passed there are at most 100 lists, of at most 100 fields, none great. Conditions: as many as an int counts.
  An encoder, a decoder and the document's decoder side by side; what a block is read as, with other mosts told ahead. Over plain worlds and plain lists. Conditions: those that each theorem names.
-/
import Derived.Test.YtfajffchnnalaaaKenc
import Derived.Test.YtfajffchnnalaaaKtwo
import Derived.Test.YtfajffchnnalaaaDtab
import Derived.BigQuiet
import Derived.Deep.QuietTactic
import Derived.Lib.MinMax
import Derived.Test.YtfajffchnnalaaaMOp
import Derived.Test.YtfajffchnnalaaaMRc

namespace Go.Proofs.Ytfajffchnnalaaa
open Go.RowKit Go.WideShapes

/-- The lowest most since the last block. -/
def lowL (lim : Bool) (low m : Nat) : Nat := if lim = true ∧ low ≤ m then low else m

attribute [local irreducible] tot shr sz txtL numL litL addL putF tabF nOf hOf putA tabA

section
variable {w w' : World} {B ge g : Nat} {v v' : Value} {L L' : List Fd} {M M' : Nat} {lim : Bool} {low : Nat}
theorem En.set1 (h : En w B ge g v L M lim low) : En (w.setCell ⟨ge, 1, none⟩ (.bool true)) B ge g v L M true low :=
  ⟨h.t.keep (Below.heap_setCell w _ _ g (fun e => h.ne e.symm)) fun k hk => Below.heap_setCell w _ _ k (fun e => h.nv (by subst e; exact hk)), Row.stored h.e 1 _, h.ne, h.nv, h.lo⟩
theorem En.set2 (h : En w B ge g v L M lim low) (x : Nat) : En (w.setCell ⟨ge, 2, none⟩ (.int .u32 (x : Int))) B ge g v L M lim x :=
  ⟨h.t.keep (Below.heap_setCell w _ _ g (fun e => h.ne e.symm)) fun k hk => Below.heap_setCell w _ _ k (fun e => h.nv (by subst e; exact hk)), Row.stored h.e 2 _, h.ne, h.nv, h.lo⟩
theorem En.limd (h : En w B ge g v L M lim low) (hT : Tb w' B g v' L' M') (hF : Fs (fun k => k = g ∨ ob v k) w w') (hv : v'.ownBlock = v.ownBlock) : En w' B ge g v' L' M' lim low :=
  ⟨hT, hF.row (fun e => e.elim h.ne h.nv) h.e, h.ne, fun e => h.nv (by unfold ob at *; rw [← hv]; exact e), h.lo⟩
end

set_option maxRecDepth 100000 in
set_option maxHeartbeats 2000000 in
theorem elimit_any {w : World} {B ge g : Nat} {v : Value} {L : List Fd} {M : Nat} {lim : Bool} {low : Nat} (h : En w B ge g v L M lim low) (m : Nat) (hm : m ≤ 4096) (hM : M ≤ 4096) (hL : tot L ≤ M) (_hlow : low ≤ 4096) :
    Calls Try.prog 14 #[pt ge, .int .u32 (m : Int)] w fun e w' => e = .returned (.tuple #[]) ∧ ∃ v', En w' B ge g v' (shr (m : Int) L) m true (lowL lim low m) ∧ Fs (EB ge g v) w w' ∧ Nx w v v' := by
  have hat := fun W => atMost_any m (by omega) W
  rw [show min m 4096 = m by omega] at hat
  have hsz : ∀ f ∈ L, sz f ≤ 2147483648 := fun f hf => by have := mem_tot hf; omega
  have c0 := h.c0
  have c1 := h.c1
  have c2 := h.c2
  have hth1 := Row.thawed h.e 1
  have hth2 := Row.thawed h.e 2
  have H := Lib.hid h
  obtain ⟨LW, hLW⟩ : ∃ LW, LW = lowL lim low m := ⟨_, rfl⟩
  rw [← hLW]
  have HLW := Lib.hid hLW
  unfold pt at *
  clear h hLW
  go_enter Try.func14, Try.ntmps14
  go_wp2_with fail
  refine (hat _).mono ?_
  rintro e w1 ⟨rfl, hw⟩
  subst hw
  have key : lim = false ∨ (lim = true ∧ m < low) ∨ (lim = true ∧ low ≤ m) := by
    cases lim with
    | false => exact .inl rfl
    | true => by_cases h : m < low
              · exact .inr (.inl ⟨rfl, h⟩)
              · exact .inr (.inr ⟨rfl, by omega⟩)
  rcases key with rfl | ⟨rfl, hlt⟩ | ⟨rfl, hle⟩
  · have hlo : LW = m := by
      rw [HLW.out]
      unfold lowL
      rw [if_neg]
      rintro ⟨h1, h2⟩
      first | (cases h1; done) | omega
    have HLO := Lib.hid hlo
    have HE := Lib.hid ((H.out.set2 m).set1)
    have HF : Hid (Fs (fun k => k = ge) w ((w.setCell ⟨ge, 2, none⟩ (.int .u32 (m : Int))).setCell ⟨ge, 1, none⟩ (.bool true))) := ((Fs.refl (fun k => k = ge) w).setCell (fun _ => rfl) _ _).setCell (fun _ => rfl) _ _
    have e0 := HE.out.c0
    have hli := limit_any m (by omega) (by omega) hsz HE.out.t
    have hd : (m : Int) < (low : Int) ∨ True := .inr trivial
    try have hd := (by omega : (m : Int) < (low : Int))
    unfold pt at hli
    clear H hlo
    go_wp2_with fail
    refine hli.mono ?_
    rintro e w3 ⟨rfl, v', hT, hfr, hv⟩
    have hF3 := Fs.of_fr hfr
    have HE3 := Lib.hid (HE.out.limd hT hF3 hv)
    have HF3 : Hid (Fs (EB ge g v) w w3) := (HF.out.mono (S' := EB ge g v) fun k _ e => .inl e).trans hF3 fun k _ e => .inr e
    have HN3 : Hid (Nx w v v') := .inl hv
    clear hT hfr hv hF3 HE HF
    go_wp2_with fail
    go_end0
    refine ⟨rfl, v', ?_, HF3.out, HN3.out⟩
    rw [HLO.out]
    exact HE3.out
  · have hlo : LW = m := by
      rw [HLW.out]
      unfold lowL
      rw [if_neg]
      rintro ⟨h1, h2⟩
      first | (cases h1; done) | omega
    have HLO := Lib.hid hlo
    have HE := Lib.hid ((H.out.set2 m).set1)
    have HF : Hid (Fs (fun k => k = ge) w ((w.setCell ⟨ge, 2, none⟩ (.int .u32 (m : Int))).setCell ⟨ge, 1, none⟩ (.bool true))) := ((Fs.refl (fun k => k = ge) w).setCell (fun _ => rfl) _ _).setCell (fun _ => rfl) _ _
    have e0 := HE.out.c0
    have hli := limit_any m (by omega) (by omega) hsz HE.out.t
    have hd : (m : Int) < (low : Int) ∨ True := .inr trivial
    try have hd := (by omega : (m : Int) < (low : Int))
    unfold pt at hli
    clear H hlo
    go_wp2_with fail
    refine hli.mono ?_
    rintro e w3 ⟨rfl, v', hT, hfr, hv⟩
    have hF3 := Fs.of_fr hfr
    have HE3 := Lib.hid (HE.out.limd hT hF3 hv)
    have HF3 : Hid (Fs (EB ge g v) w w3) := (HF.out.mono (S' := EB ge g v) fun k _ e => .inl e).trans hF3 fun k _ e => .inr e
    have HN3 : Hid (Nx w v v') := .inl hv
    clear hT hfr hv hF3 HE HF
    go_wp2_with fail
    go_end0
    refine ⟨rfl, v', ?_, HF3.out, HN3.out⟩
    rw [HLO.out]
    exact HE3.out
  · have hlo : LW = low := by rw [HLW.out]; unfold lowL; rw [if_pos ⟨rfl, hle⟩]
    have HLO := Lib.hid hlo
    have hd : decide ((m : Int) < (low : Int)) = false := by simp; omega
    have HE := Lib.hid H.out.set1
    have HF : Hid (Fs (fun k => k = ge) w (w.setCell ⟨ge, 1, none⟩ (.bool true))) := (Fs.refl (fun k => k = ge) w).setCell (fun _ => rfl) _ _
    have e0 := HE.out.c0
    have hli := limit_any m (by omega) (by omega) hsz HE.out.t
    unfold pt at hli
    clear H hlo
    go_wp2_with fail
    refine hli.mono ?_
    rintro e w3 ⟨rfl, v', hT, hfr, hv⟩
    have hF3 := Fs.of_fr hfr
    have HE3 := Lib.hid (HE.out.limd hT hF3 hv)
    have HF3 : Hid (Fs (EB ge g v) w w3) := (HF.out.mono (S' := EB ge g v) fun k _ e => .inl e).trans hF3 fun k _ e => .inr e
    have HN3 : Hid (Nx w v v') := .inl hv
    clear hT hfr hv hF3 HE HF
    go_wp2_with fail
    go_end0
    refine ⟨rfl, v', ?_, HF3.out, HN3.out⟩
    rw [HLO.out]
    exact HE3.out
end Go.Proofs.Ytfajffchnnalaaa

namespace Go.Proofs.Ytfajffchnnalaaa
open Go.RowKit Go.WideShapes

/-- No field is great, nor are there many, nor are all of them together. -/
def Few6 (L : List Fd) : Prop := L.length ≤ 9000 ∧ (∀ f ∈ L, sz f ≤ 9032) ∧ tot L ≤ 9000 + 31 * L.length
/-- What the bound answers: where it says no, there are few. -/
def Bounds6 (w : World) (L : List Fd) (e : Ending) (w' : World) : Prop := ∃ t, e = .returned (.bool t) ∧ (t = false → Few6 L) ∧ ∃ n, w' = w.drewN n

theorem few6_more {L : List Fd} {k T : Nat} (hk : k < L.length) (hT : T + (1 + min L[k].nm.length 9000 + min L[k].vl.length 9000) ≤ 9000) (h : (∀ f ∈ L.take k, sz f ≤ 9032) ∧ tot (L.take k) ≤ T + 31 * k) :
    (∀ f ∈ L.take (k + 1), sz f ≤ 9032) ∧ tot (L.take (k + 1)) ≤ T + (1 + min L[k].nm.length 9000 + min L[k].vl.length 9000) + 31 * (k + 1) := by
  constructor
  · intro f hf
    rw [List.take_succ_eq_append_getElem hk, List.mem_append, List.mem_singleton] at hf
    rcases hf with hf | rfl
    · exact h.1 f hf
    · unfold sz; omega
  · rw [tot_take hk]
    have := h.2
    unfold sz
    omega

set_option maxRecDepth 100000 in
set_option maxHeartbeats 4000000 in
theorem few_any {w : World} {A : Option Addr} {c : Nat} {L : List Fd} (hR : RdS w (· < w.heap.size) A (enl fdc L)) (hl : L.length ≤ 9223372036854775807) : Calls Try.prog 22 #[.slice A L.length c] w (Bounds6 w L) := by
  go_enter Try.func22, Try.ntmps22
  go_wp2_with fail
  go_loopw [3, 7] (fun n i wr => ∃ (k T : Nat), k ≤ L.length ∧ i = .int .i64 k ∧ n = .int .i64 T ∧ T ≤ 9000 ∧ k ≤ T ∧ Hid ((∀ f ∈ L.take k, sz f ≤ 9032) ∧ tot (L.take k) ≤ T + 31 * k) ∧ Hid (∃ n, wr = w.drewN n))
    (fun _ i _ => L.length - (intOf i).toNat)
  case atStart => exact ⟨0, 0, Nat.zero_le _, rfl, rfl, by omega, by omega, by show _ ∧ _; simp [tot], ⟨0, rfl⟩⟩
  case round =>
    obtain ⟨k, T, hk, rfl, rfl, hT, hkT, hF, hW⟩ := hrel
    by_cases hlt : k < L.length
    · obtain ⟨nd, rfl⟩ := hW.out
      obtain ⟨b, q, rfl, hb, f0, f1, f2⟩ := hR.field hlt
      have hmore := Lib.hid (fun h => few6_more (T := T) hlt h hF.out)
      unfold tx at f0 f1
      generalize L[k].nm = x at f0 hmore
      generalize L[k].vl = y at f1 hmore
      have hx := tx_size x
      have hy := tx_size y
      obtain ⟨p, hp⟩ : ∃ p, p = min x.length 9000 := ⟨_, rfl⟩
      obtain ⟨r, hr⟩ : ∃ r, r = min y.length 9000 := ⟨_, rfl⟩
      have hpm : min (x.length : Int) 9000 = (p : Int) := by omega
      have hrm : min (y.length : Int) 9000 = (r : Int) := by omega
      have hp9 : p ≤ 9000 := by omega
      have hr9 : r ≤ 9000 := by omega
      rw [← hp, ← hr] at hmore
      clear hp hr f2
      have s1 : IntKind.i64.wrap (1 + (p : Int)) = 1 + (p : Int) := IntWalk.i64_in _ (by omega)
      have s2 : IntKind.i64.wrap (1 + (p : Int) + (r : Int)) = 1 + (p : Int) + (r : Int) := IntWalk.i64_in _ (by omega)
      have s3 : IntKind.i64.wrap ((T : Int) + (1 + (p : Int) + (r : Int))) = (T : Int) + (1 + (p : Int) + (r : Int)) := IntWalk.i64_in _ (by omega)
      have k0 : (0 : Int) ≤ (k : Int) := by omega
      have k1 : (k : Int) < (L.length : Int) := by omega
      by_cases hgt : T + (1 + p + r) ≤ 9000
      · have hg : decide ((9000 : Int) < (T : Int) + (1 + (p : Int) + (r : Int))) = false := by simp; omega
        have hF2 := Lib.hid (hmore.out (by omega))
        clear hmore hF
        go_wp2_with fail
        go_quiet (fail)
        go_wp2_with fail
        go_roundw
        case rel => exact ⟨k + 1, T + (1 + p + r), by omega, by go_num, by (congr 1), hgt, by omega, hF2, ⟨_, rfl⟩⟩
        case measure => simp [intOf]; omega
      · have hg : decide ((9000 : Int) < (T : Int) + (1 + (p : Int) + (r : Int))) = true := by simp; omega
        clear hmore hF
        go_wp2_with fail
        go_quiet (fail)
        go_wp2_with fail
        go_ret
        exact ⟨true, rfl, (fun h => by cases h), ⟨_, rfl⟩⟩
    · obtain ⟨nd, rfl⟩ := hW.out
      have hF2 : Hid (Few6 L) := by
        show _ ∧ _ ∧ _
        obtain ⟨h1, h2⟩ := hF.out
        rw [List.take_of_length_le (by omega)] at h1 h2
        exact ⟨by omega, h1, by omega⟩
      clear hF
      go_wp2_with fail
      go_ret
      exact ⟨false, rfl, fun _ => hF2.out, ⟨_, rfl⟩⟩
end Go.Proofs.Ytfajffchnnalaaa

namespace Go.Proofs.Ytfajffchnnalaaa
open Go.RowKit Go.WideShapes

theorem w64_in (x : Int) (h0 : -9223372036854775808 ≤ x) (h1 : x ≤ 9223372036854775807) : wrap64 x = x := by unfold wrap64; omega
/-- No list is great, nor are there many. -/
def Few2 {W : World} (LL : List (Hd W Fd fdc)) : Prop := LL.length ≤ 100 ∧ ∀ h ∈ LL, h.els.length ≤ 100 ∧ (∀ f ∈ h.els, sz f ≤ 9032) ∧ tot h.els ≤ 9000 + 31 * h.els.length
def Bounds2 {W : World} (w : World) (LL : List (Hd W Fd fdc)) (e : Ending) (w' : World) : Prop := ∃ t, e = .returned (.bool t) ∧ (t = false → Few2 LL) ∧ ∃ n, w' = w.drewN n

set_option maxRecDepth 100000 in
set_option maxHeartbeats 2000000 in
theorem great2_any {w : World} {A : Option Addr} {c : Nat} {LL : List (Hd w Fd fdc)} (hR : RdS w (· < w.heap.size) A (enl hdc LL)) (hl : LL.length ≤ 9223372036854775807) : Calls Try.prog 9 #[.slice A LL.length c] w (Bounds2 w LL) := by
  go_enter Try.func9, Try.ntmps9
  go_wp2_with fail
  go_loopw [3, 8] (fun n i wr => ∃ (k T : Nat), k ≤ LL.length ∧ i = .int .i64 k ∧ n = .int .i64 T ∧ T ≤ 100 ∧ k ≤ T ∧ Hid (∀ h ∈ LL.take k, h.els.length ≤ 100 ∧ (∀ f ∈ h.els, sz f ≤ 9032) ∧ tot h.els ≤ 9000 + 31 * h.els.length) ∧ Hid (∃ n, wr = w.drewN n))
    (fun _ i _ => LL.length - (intOf i).toNat)
  case atStart => exact ⟨0, 0, Nat.zero_le _, rfl, rfl, by omega, by omega, by show ∀ _, _; simp, ⟨0, rfl⟩⟩
  case round =>
    obtain ⟨k, T, hk, rfl, rfl, hT, hkT, hF, hW⟩ := hrel
    by_cases hlt : k < LL.length
    · obtain ⟨nd, rfl⟩ := hW.out
      obtain ⟨b, q, rfl, hb, f0⟩ := hR.head hlt
      have hmore : Hid (LL[k].els.length ≤ 100 → (∀ f ∈ LL[k].els, sz f ≤ 9032) ∧ tot LL[k].els ≤ 9000 + 31 * LL[k].els.length → ∀ h ∈ LL.take (k + 1), h.els.length ≤ 100 ∧ (∀ f ∈ h.els, sz f ≤ 9032) ∧ tot h.els ≤ 9000 + 31 * h.els.length) := by
        intro h1 h2 h hh
        rw [List.take_succ_eq_append_getElem hlt, List.mem_append, List.mem_singleton] at hh
        rcases hh with hh | rfl
        · exact hF.out h hh
        · exact ⟨h1, h2⟩
      have hok := LL[k].ok
      generalize LL[k].at_ = Ak at *
      generalize LL[k].room = ck at *
      generalize LL[k].els = F at *
      have hFl : F.length ≤ 9223372036854775807 := by have := hok.1; have := hok.2.1; simp only [maxLen] at this; omega
      have hgr : ∀ m, Calls Try.prog 22 #[.slice Ak F.length ck] (w.drewN m) (Bounds6 (w.drewN m) F) := fun m => few_any (w := w.drewN m) (c := ck) (hok.2.2) hFl
      clear hF hW hok
      obtain ⟨X, hX⟩ : ∃ X, wrap64 ((T : Int) + wrap64 ((F.length : Int) + 1)) = X := ⟨_, rfl⟩
      have HX : Hid (F.length ≤ 9000 → X = ((T + (F.length + 1) : Nat) : Int)) := fun h => by
        rw [← hX, w64_in ((F.length : Int) + 1) (by omega) (by omega), w64_in _ (by omega) (by omega)]
        omega
      have HFl := Lib.hid hFl
      clear hFl
      by_cases hg : (100 : Int) < X
      · clear hmore hgr
        go_wp2_with fail
        go_ret
        exact ⟨true, rfl, (fun h => by cases h), ⟨_, rfl⟩⟩
      · have hgt : decide ((100 : Int) < X) = false := by simpa using hg
        go_wp2_with fail
        refine (hgr _).mono ?_
        rintro e w2 ⟨t, rfl, ht, nd2, rfl⟩
        cases t with
        | true =>
          go_wp2_with fail
          go_ret
          exact ⟨true, rfl, (fun h => by cases h), ⟨_, rfl⟩⟩
        | false =>
          have hf9 := ht rfl
          have hXe := HX.out hf9.1
          have hsum : T + (F.length + 1) ≤ 100 := by rw [hXe] at hg; omega
          have HM := Lib.hid (hmore.out (by omega) hf9.2)
          clear hmore ht hgr hf9 hX HX
          subst hXe
          go_wp2_with fail
          go_roundw
          case rel => exact ⟨k + 1, T + (F.length + 1), by omega, by go_num, rfl, by omega, by omega, HM, ⟨_, rfl⟩⟩
          case measure => simp [intOf]; omega
    · obtain ⟨nd, rfl⟩ := hW.out
      have hF2 : Hid (Few2 LL) := by
        show _ ∧ _
        refine ⟨by omega, fun f hf => hF.out f ?_⟩
        rw [List.take_of_length_le (by omega)]
        exact hf
      clear hF
      go_wp2_with fail
      go_ret
      exact ⟨false, rfl, fun _ => hF2.out, ⟨_, rfl⟩⟩
end Go.Proofs.Ytfajffchnnalaaa

namespace Go.Proofs.Ytfajffchnnalaaa
open Go.RowKit Go.WideShapes

theorem sumK_tot2 : ∀ F : List Fd, sumK F + 22 * F.length = tot F + 10
  | [] => by simp [sumK, tot]
  | f :: F => by
    have := sumK_tot2 F
    simp only [sumK, tot, List.length_cons]
    unfold sz
    omega

attribute [local irreducible] tot shr sz pieceR blockR blk putA tabA numL limL

/-- A block with the mosts told ahead. -/
theorem blk_all {cap M0 M low : Nat} {lim : Bool} {L L' F : List Fd} (hM : M ≤ cap) (hlow : low ≤ cap) (hcap : cap ≤ 4096) (h0 : lim = false → M0 = M) (hT : limT lim low M L = L') (hL : tot L' ≤ M) (hb : ∀ x ∈ L', x.nv = false) (hF : ∀ f ∈ F, f.nm.length ≤ 9000 ∧ f.vl.length ≤ 9000) :
    blk cap ⟨L, M0, []⟩ (limL lim low M ++ putA M L' F) = some ⟨tabA M L' F, M, F⟩ := by
  rw [blk_lim hM hlow hcap h0, hT, blk_put (by omega) F L' [] hL hb hF, List.nil_append]
theorem limT_two (m1 m2 : Nat) (L : List Fd) : limT true (lowL true m1 m2) m2 L = shr (m2 : Int) (shr (m1 : Int) L) := by
  unfold limT lowL
  simp only [if_true, true_and]
  by_cases h : m1 ≤ m2
  · rw [if_pos h]
    by_cases h2 : m1 < m2
    · rw [if_pos h2]
    · have e : m1 = m2 := by omega
      subst e
      rw [if_neg h2, shr_shr (by omega)]
  · rw [if_neg h, if_neg (by omega), shr_shr (by omega)]
theorem lowL_le {lim : Bool} {low m c : Nat} (h1 : low ≤ c) (h2 : m ≤ c) : lowL lim low m ≤ c := by unfold lowL; split <;> assumption
theorem lowL_no (low m : Nat) : lowL false low m = m := by unfold lowL; simp
theorem put_short {lim : Bool} {low M : Nat} {L F : List Fd} (hM : M ≤ 4096) (hL : tot L ≤ M) (hF : ∀ f ∈ F, f.nm.length ≤ 9000 ∧ f.vl.length ≤ 9000) (hn : F.length ≤ 100) (ht : tot F ≤ 9000 + 31 * F.length) : (limL lim low M ++ putA M L F).length ≤ 12000 := by
  have h1 := @limL_len lim low M
  have h2 := putA_sum hM hL hF
  have h3 := sumK_tot2 F
  rw [List.length_append]
  omega

/-- The three side by side. -/
structure G8 (w wr : World) (ge g1 : Nat) (ve : Value) (Le : List Fd) (Me : Nat) (lim : Bool) (low : Nat) (gd g : Nat) (v : Value) (gm : Nat) (L : List Fd) (M cap : Nat) (B : Option Addr) (RL d : Nat) : Prop where
  en : En wr w.heap.size ge g1 ve Le Me lim low
  dn : Dn wr w.heap.size gd g v L M cap
  di : Dis (EB ge g1 ve) (EB gd g v)
  ro : Row wr gm 35 #[.slice B RL d, .int .i64 (M : Int), .int .i64 (cap : Int)]
  rl : RL = L.reverse.length
  tb : RdS wr (fun b => b < wr.heap.size ∧ b ≠ gm ∧ ¬ EB gd g v b ∧ ¬ EB ge g1 ve b) B (enl fdc L.reverse)
  td : L.reverse.length ≤ d
  be : Below w.heap.size w wr
  ne : ¬ EB gd g v gm
  n1 : ¬ EB ge g1 ve gm
  lo : w.heap.size ≤ gm

section
variable {w wr w' : World} {ge g1 : Nat} {ve ve' : Value} {Le Le' : List Fd} {Me Me' : Nat} {lim lim' : Bool} {low low' : Nat} {gd g : Nat} {v v' : Value} {gm : Nat} {L L' : List Fd} {M M' cap : Nat} {B A' : Option Addr} {RL d d' : Nat}
theorem G8.then (h : G8 w wr ge g1 ve Le Me lim low gd g v gm L M cap B RL d) (hb : Below wr.heap.size wr w') : G8 w w' ge g1 ve Le Me lim low gd g v gm L M cap B RL d :=
  ⟨h.en.below hb, h.dn.below hb, h.di, h.ro.below hb h.ro.lt, h.rl, (h.tb.keep fun b hk => hb.block b hk.1).imp fun b hk _ => ⟨by have := hk.1; have := hb.size; omega, hk.2.1, hk.2.2⟩, h.td, h.be.trans (hb.mono h.be.size), h.ne, h.n1, h.lo⟩
/-- The encoder did something. -/
theorem G8.enc (h : G8 w wr ge g1 ve Le Me lim low gd g v gm L M cap B RL d) (hF : Fs (EB ge g1 ve) wr w') (hN : Nx wr ve ve') (hE : En w' w.heap.size ge g1 ve' Le' Me' lim' low') : G8 w w' ge g1 ve' Le' Me' lim' low' gd g v gm L M cap B RL d := by
  have hgm := h.ro.lt
  have hs := hF.size
  refine ⟨hE, h.dn.dis hF h.di.symm, h.di.next hN fun k hk => (h.dn.eb hk).2, hF.row h.n1 h.ro, h.rl, (hF.reads h.tb fun k hk => ⟨hk.1, hk.2.2.2⟩).imp fun b hb hl => ⟨hl, hb.2.1, hb.2.2.1, fun e => ?_⟩, h.td, h.be.trans (hF.below (fun k hk _ => (h.en.eb hk).1) h.be.size), h.ne, fun e => ?_, h.lo⟩
  · rcases EB.next hN e with e | e
    · exact hb.2.2.2 e
    · have := hb.1; omega
  · rcases EB.next hN e with e | e
    · exact h.n1 e
    · omega
/-- The decoder read, the document read, its decoder was kept. -/
theorem G8.dec {w3 w7 w8 w9 : World} (h : G8 w wr ge g1 ve Le Me lim low gd g v gm L M cap B RL d) (hF3 : Fs (EB gd g v) wr w3) (hN : Nx wr v v') (hD : Dn w3 w.heap.size gd g v' L' M' cap) (h7 : Below w3.heap.size w3 w7)
    (h8 : Below w7.heap.size w7 w8) (hT : RdS w8 (fun b => (b < w7.heap.size ∧ b ≠ gm ∧ ¬ EB gd g v' b ∧ ¬ EB ge g1 ve b) ∨ (w7.heap.size ≤ b ∧ b < w8.heap.size)) A' (enl fdc L'.reverse)) (hd : L'.reverse.length ≤ d') (h9 : Below w8.heap.size w8 w9) :
    G8 w (set3 w9 gm (.slice A' L'.reverse.length d') (.int .i64 (M' : Int)) (.int .i64 (cap : Int))) ge g1 ve Le Me lim low gd g v' gm L' M' cap A' L'.reverse.length d' := by
  have hgm := h.ro.lt
  have hs3 := hF3.size
  have hs7 := h7.size
  have hs8 := h8.size
  have hs9 := h9.size
  have hne' : ¬ EB gd g v' gm := fun e => by
    rcases EB.next hN e with e | e
    · exact h.ne e
    · omega
  have F9 : Fs (fun k => k = gm) w9 (set3 w9 gm (.slice A' L'.reverse.length d') (.int .i64 (M' : Int)) (.int .i64 (cap : Int))) := (((Fs.refl (fun k => k = gm) w9).setCell (fun _ => rfl) 0 _).setCell (fun _ => rfl) 1 _).setCell (fun _ => rfl) 2 _
  have hb39 : Below w3.heap.size w3 w9 := h7.trans ((h8.mono hs7).trans (h9.mono (by omega)))
  have hrow : Row w9 gm 35 #[.slice B RL d, .int .i64 (M : Int), .int .i64 (cap : Int)] := (hF3.row h.ne h.ro).below hb39 (by omega)
  have hE3 : En w3 w.heap.size ge g1 ve Le Me lim low := h.en.dis hF3 h.di
  refine ⟨(hE3.below hb39).dis F9 (fun k h1 h2 => by subst h2; exact h.n1 h1), (hD.below hb39).dis F9 (fun k h1 h2 => by subst h2; exact hne' h1), ?_, set3_own hrow, rfl, ?_, hd, ?_, hne', h.n1, h.lo⟩
  · exact (h.di.symm.next hN fun k hk => (h.en.eb hk).2).symm
  · refine (set3_rds (hT.keep fun b hb => h9.block b (by rcases hb with hb | hb; have := hb.1; omega; exact hb.2)) (fun b hb => by rcases hb with hb | hb; exact hb.2.1; omega)).imp fun b hb hl => ?_
    rcases hb with hb | hb
    · exact ⟨hl, hb.2.1, hb.2.2.1, hb.2.2.2⟩
    · exact ⟨hl, by omega, fun e => by have := (hD.eb e).2; omega, fun e => by have := (h.en.eb e).2; omega⟩
  · have b3 : Below w.heap.size w w3 := h.be.trans (hF3.below (fun k hk _ => (h.dn.eb hk).1) h.be.size)
    exact (b3.trans (hb39.mono b3.size)).trans (F9.below (fun k hk _ => by subst hk; exact h.lo) (by have := b3.size; omega))
/-- The document's table, where the document reads. -/
theorem G8.tab {w3 w7 : World} (h : G8 w wr ge g1 ve Le Me lim low gd g v gm L M cap B RL d) (hF3 : Fs (EB gd g v) wr w3) (hN : Nx wr v v') (h7 : Below w3.heap.size w3 w7) : RdS w7 (fun b => b < w7.heap.size ∧ b ≠ gm ∧ ¬ EB gd g v' b ∧ ¬ EB ge g1 ve b) B (enl fdc L.reverse) := by
  have hs3 := hF3.size
  refine ((hF3.reads h.tb fun k hk => ⟨hk.1, hk.2.2.1⟩).keep fun b hb => h7.block b (by have := hb.1; omega)).imp fun b hb hl => ⟨hl, hb.2.1, fun e => ?_, hb.2.2.2⟩
  rcases EB.next hN e with e | e
  · exact hb.2.2.1 e
  · have := hb.1; omega
theorem G8.start {w1 w2 w3 : World} (hE : En w1 w.heap.size ge g1 (.slice none 0 0) [] M false 0) (hB1 : Below w.heap.size w w1) (hD : Dn w2 w.heap.size gd g (.slice none 0 0) [] M M) (hd1 : w1.heap.size ≤ gd) (hd2 : w1.heap.size ≤ g) (hB2 : Below w1.heap.size w1 w2) (hB3 : Below w2.heap.size w2 w3) :
    G8 w (w3.alloc (.cells #[.slice none 0 0, .int .i64 (M : Int), .int .i64 (M : Int)] 35)) ge g1 (.slice none 0 0) [] M false 0 gd g (.slice none 0 0) w3.heap.size [] M M none 0 0 := by
  have h1 := hB1.size
  have h2 := hB2.size
  have h3 := hB3.size
  have hb13 : Below w1.heap.size w1 (w3.alloc (.cells #[.slice none 0 0, .int .i64 (M : Int), .int .i64 (M : Int)] 35)) := (hB2.trans (hB3.mono h2)).alloc (by omega) _
  have hb23 : Below w2.heap.size w2 (w3.alloc (.cells #[.slice none 0 0, .int .i64 (M : Int), .int .i64 (M : Int)] 35)) := hB3.alloc (by omega) _
  refine ⟨hE.below hb13, hD.below hb23, fun k e1 e2 => ?_, Row.new w3 _ _, rfl, RdS.nil, Nat.le_refl _, hB1.trans (hb13.mono h1), fun e => by have := (hD.eb e).2; omega, fun e => by have := (hE.eb e).2; omega, by omega⟩
  have h4 := (hE.eb e1).2
  rcases e2 with e2 | e2 | e2
  · omega
  · omega
  · simp [ob, Value.ownBlock] at e2
end
end Go.Proofs.Ytfajffchnnalaaa

namespace Go.Proofs.Ytfajffchnnalaaa
open Go.RowKit Go.WideShapes

set_option maxRecDepth 100000 in
set_option maxHeartbeats 2000000 in
theorem same6_any {w : World} {A B : Option Addr} {c d : Nat} {F : List Fd} (hA : RdS w (· < w.heap.size) A (enl fdc F)) (hB : RdS w (· < w.heap.size) B (enl fdc F)) (hl : F.length ≤ 1099511627776) :
    Calls Try.prog 18 #[.slice A F.length c, .slice B F.length d] w fun e w' => e = .returned (.bool true) ∧ ∃ n, w' = w.drewN n := by
  go_enter Try.func18, Try.ntmps18
  go_wp2_with fail
  go_loopw [13] (fun i wr => ∃ k : Nat, k ≤ F.length ∧ i = .int .i64 k ∧ Hid (∃ n, wr = w.drewN n))
    (fun i _ => F.length - (intOf i).toNat)
  case atStart => exact ⟨0, Nat.zero_le _, rfl, ⟨0, rfl⟩⟩
  case round =>
    obtain ⟨k, hk, rfl, hW⟩ := hrel
    obtain ⟨nd, rfl⟩ := hW.out
    by_cases hlt : k < F.length
    · obtain ⟨b1, q1, rfl, _, f0, f1, f2⟩ := hA.field hlt
      obtain ⟨b2, q2, rfl, _, e0, e1, e2⟩ := hB.field hlt
      unfold tx at f0 f1 e0 e1
      generalize F[k].nm = x at *
      generalize F[k].vl = y at *
      generalize F[k].nv = z at *
      have k0 : (0 : Int) ≤ (k : Int) := by omega
      have k1 : (k : Int) < (F.length : Int) := by omega
      clear hW
      go_wp2_with fail
      go_quiet (fail)
      go_wp2_with fail
      go_roundw
      case rel => exact ⟨k + 1, by omega, by go_num, ⟨_, rfl⟩⟩
      case measure => simp [intOf]; omega
    · clear hW
      go_wp2_with fail
      go_ret
      exact ⟨rfl, nd, rfl⟩
end Go.Proofs.Ytfajffchnnalaaa
