/-
  hpack's Put, by its contract. Conditions: at most 1000 fields, names and values of at most 9000 bytes, a most of at most 4096.
-/
import Derived.Test.YtfajffchnnalaaaKenc
namespace Go.Proofs.Ytfajffchnnalaaa
open Go.RowKit Go.WideShapes

theorem putA_len {M : Nat} : ∀ {r L : List Fd}, (∀ f ∈ r, f.nm.length ≤ 9000 ∧ f.vl.length ≤ 9000) → (putA M L r).length ≤ r.length * 18015
  | [], _, _ => by simp [putA]
  | f :: r, L, h => by
    have h1 := putF_len L f
    have h2 := h f (by simp)
    have h3 := putA_len (M := M) (r := r) (L := tabF M L f) fun x hx => h x (by simp [hx])
    simp only [putA, List.length_append, List.length_cons]
    omega
theorem limL_len (lim : Bool) (low M : Nat) : (limL lim low M).length ≤ 10 := by
  have h1 := num_len 32 low
  have h2 := num_len 32 M
  unfold limL
  split
  · split
    · rw [List.length_append]; omega
    · simp; omega
  · simp

/-- How a Put stands behind k fields. -/
structure Pu (w wr : World) (B ge g : Nat) (v vr bv : Value) (bs : List UInt8) (L : List Fd) (M low : Nat) : Prop where
  bo : Bo wr w.heap.size 5 bv bs
  en : En wr B ge g vr L M false low
  fs : Fs (fun k => k = ge ∨ k = g ∨ ob v k) w wr
  nx : Nx w v vr
  ap : ∀ k, ob bv k → ¬ ob vr k
/-- What a Put leaves. -/
def MadeP (w : World) (B ge g : Nat) (v : Value) (bs : List UInt8) (L : List Fd) (M low : Nat) (e : Ending) (w' : World) : Prop := ∃ bv vr, e = .returned bv ∧ Pu w w' B ge g v vr bv bs L M low

theorem Pu.alloc {w wr : World} {B ge g : Nat} {v vr bv : Value} {bs : List UInt8} {L : List Fd} {M low : Nat} (h : Pu w wr B ge g v vr bv bs L M low) (x : Obj) : Pu w (wr.alloc x) B ge g v vr bv bs L M low := by
  have hb := (Below.refl wr.heap.size wr).alloc (Nat.le_refl _) x
  exact ⟨h.bo.below hb, h.en.below hb, h.fs.then_below hb, h.nx, h.ap⟩
theorem Pu.step {w wr w' : World} {B ge g : Nat} {v vr bv : Value} {bs bs' : List UInt8} {L L' : List Fd} {M low : Nat} {e : Ending} (h : Pu w wr B ge g v vr bv bs L M low) (hm : MadeF wr w.heap.size B ge g vr bv bs' L' M false low e w') :
    ∃ bv' vr', e = .returned bv' ∧ Pu w w' B ge g v vr' bv' bs' L' M low := by
  obtain ⟨bv', vr', rfl, h1, h2, h3, h4, h5, h6⟩ := hm
  refine ⟨bv', vr', rfl, h1, h2, h.fs.trans h4 fun k hk e => ?_, h.nx.trans h5 h.fs.size, h3⟩
  rcases e with e | e | e
  · exact .inr (.inl e)
  · rcases h.nx.own e with e1 | e1
    · exact .inr (.inr e1)
    · omega
  · have := (h.bo.lt e).1; omega

attribute [local irreducible] tot shr sz txtL numL litL addL putF tabF nOf hOf putA tabA limL

set_option maxRecDepth 100000 in
set_option maxHeartbeats 2000000 in
theorem put_any {w : World} {B ge g : Nat} {v : Value} {L : List Fd} {M : Nat} {lim : Bool} {low : Nat} {S : Nat → Prop} {A : Option Addr} {c : Nat} {F : List Fd} (h : En w B ge g v L M lim low) (hM : M ≤ 4096) (hL : tot L ≤ M) (hlow : low ≤ 4096)
    (hR : RdS w S A (enl fdc F)) (hS : ∀ k, S k → k < w.heap.size ∧ k ≠ ge ∧ k ≠ g ∧ ¬ ob v k) (hF : ∀ f ∈ F, f.nm.length ≤ 9000 ∧ f.vl.length ≤ 9000) (hn : F.length ≤ 1000) :
    Calls Try.prog 15 #[pt ge, .slice A F.length c] w (MadeP w B ge g v (limL lim low M ++ putA M L F) (tabA M L F) M low) := by
  have hlim := putLimits_any h hM hlow
  have hge := h.lt
  have hgg := h.t.lt
  have hvl := fun k hk => (h.vlt (k := k) hk).2
  have hll := limL_len lim low M
  have hputl := fun k => putA_len (M := M) (L := L) (r := F.take k) fun f hf => hF f (List.mem_of_mem_take hf)
  have HPL : Hid (∀ k, k ≤ F.length → (putA M L (F.take k)).length ≤ 18015000) := fun k hk => by
    have := hputl k
    rw [List.length_take] at this
    have h2 : min k F.length ≤ 1000 := by omega
    have h3 := Nat.mul_le_mul_right 18015 h2
    omega
  have HVL := Lib.hid hvl
  have HS := Lib.hid hS
  have HF := Lib.hid hF
  have HR := Lib.hid hR
  have HT0 : Hid (∀ k, tot (tabA M L (F.take k)) ≤ M) := fun k => tabA_le hL
  have HA0 : Hid (putA M L (F.take 0) = [] ∧ tabA M L (F.take 0) = L) := by show _ ∧ _; simp [putA, tabA]
  have HAk : Hid (∀ k, (hk : k < F.length) → putA M L (F.take (k + 1)) = putA M L (F.take k) ++ putF (tabA M L (F.take k)) F[k] ∧ tabA M L (F.take (k + 1)) = tabF M (tabA M L (F.take k)) F[k]) := fun k hk => ⟨putA_take hk, tabA_take hk⟩
  have HAn : Hid (F.take F.length = F) := List.take_length
  unfold pt at *
  clear h hvl hS hF hR hputl
  go_enter Try.func15, Try.ntmps15
  go_wp2_with fail
  refine hlim.mono ?_
  rintro e w1 ⟨bv, rfl, hO1, hE1, hF1⟩
  have HP1 : Hid (Pu w w1 B ge g v v bv (limL lim low M ++ putA M L (F.take 0)) (tabA M L (F.take 0)) M low) := by
    show Pu _ _ _ _ _ _ _ _ _ _ _ _
    rw [HA0.out.1, HA0.out.2, List.append_nil]
    exact ⟨hO1, hE1, hF1.mono fun _ _ e => .inl e, Nx.refl w v, fun k hk e => by have := (hO1.lt hk).1; have := HVL.out k e; omega⟩
  clear hO1 hE1 hF1 HA0 hlim
  go_wp2_with fail
  go_loopw [5, 14] (fun b i wr => ∃ (k : Nat) (bv vr : Value), k ≤ F.length ∧ i = .int .i64 k ∧ b = bv ∧ Hid (Pu w wr B ge g v vr bv (limL lim low M ++ putA M L (F.take k)) (tabA M L (F.take k)) M low))
    (fun _ i _ => F.length - (intOf i).toNat)
  case atStart => exact ⟨0, bv, v, Nat.zero_le _, rfl, rfl, HP1⟩
  case round =>
    clear HP1
    obtain ⟨k, bv, vr, hk, rfl, rfl, hP⟩ := hrel
    by_cases hlt : k < F.length
    · have hRw : RdS wr S A (enl fdc F) := hP.out.fs.reads HR.out fun k hk => ⟨(HS.out k hk).1, fun e => by
        have := HS.out k hk
        rcases e with e | e | e
        · exact this.2.1 e
        · exact this.2.2.1 e
        · exact this.2.2.2 e⟩
      obtain ⟨q, o, rfl, hq, f0, f1, f2⟩ := hRw.field hlt
      have hff := HF.out _ (List.getElem_mem hlt)
      have hak := HAk.out k hlt
      have htk := HT0.out k
      have hpk := HPL.out k hk
      unfold tx at f0 f1
      have HP2 := Lib.hid (hP.out.alloc (.cells #[.string ⟨F[k].nm.toArray⟩, .string ⟨F[k].vl.toArray⟩, .bool F[k].nv] 52))
      have hws : w.heap.size ≤ (wr.alloc (.cells #[.string ⟨F[k].nm.toArray⟩, .string ⟨F[k].vl.toArray⟩, .bool F[k].nv] 52)).heap.size := HP2.out.fs.size
      have hpf := putField_any (f := F[k]) hff.1 hff.2 hM htk HP2.out.en HP2.out.bo hge hgg HP2.out.ap hws (by rw [List.length_append]; omega)
      rw [List.append_assoc, ← hak.1, ← hak.2] at hpf
      unfold pt fv tx at hpf
      have HFk : Hid (F[k] = F[k]) := rfl
      generalize F[k].nm = a at *
      generalize F[k].vl = b at *
      generalize F[k].nv = nv at *
      clear hak htk hpk hff HFk hRw hP hws
      go_wp2_with fail
      refine hpf.mono ?_
      intro e w2 hm
      obtain ⟨bv2, vr2, rfl, hP2⟩ := HP2.out.step hm
      have HP3 := Lib.hid hP2
      clear hP2 hm HP2 hpf
      go_wp2_with fail
      go_roundw
      case rel => exact ⟨k + 1, bv2, vr2, by omega, by go_num, rfl, HP3⟩
      case measure => simp [intOf]; omega
    · obtain rfl : k = F.length := by omega
      go_wp2_with fail
      go_ret
      have := hP.out
      rw [HAn.out] at this
      exact ⟨_, vr, rfl, this⟩
end Go.Proofs.Ytfajffchnnalaaa
