/-
  hpack's decoder: NewDecoder, Table, Get, by their contracts. Conditions: blocks of at most 12000 bytes, a most of at most 4096.
-/
import Derived.Test.YtfajffchnnalaaaKpiece
namespace Go.Proofs.Ytfajffchnnalaaa
open Go.RowKit Go.WideShapes

theorem ret_vf {fn : Func} {p u : Tmp} (h : fn.results = #[.tmp u, .cell p 41]) (tmps : Array Value) (w : World) (g : Nat) (cs : Array Value) (hp : tmps.getD p undef = .pointer (some ⟨g, 0, none⟩)) (hR : Row w g 41 cs) (hc : cs.size = 2) :
    (results fn tmps).run Try.prog w = .ok (.tuple #[tmps.getD u undef, .agg cs]) w := by
  have hl := run_loadVar_row w g 41 41 cs (0, 0) _ hR Try.underlying41 rfl (fault_cells cs hc)
  have hp' : tmps[p]?.getD undef = .pointer (some ⟨g, 0, none⟩) := by simpa using hp
  simp only [results, h]
  simp [Result.andThen, hp', asAddr, hl]

set_option maxRecDepth 100000 in
theorem newD_any (m : Nat) (hm : m < 4294967296) (w : World) (base : Nat) (hb : base ≤ w.heap.size) : Calls Try.prog 12 #[.int .u32 (m : Int)] w fun e w' => ∃ gd g, e = .returned (pt gd) ∧ Dn w' base gd g (.slice none 0 0) [] (min m 4096) (min m 4096) ∧ w.heap.size ≤ gd ∧ w.heap.size ≤ g ∧ Below w.heap.size w w' := by
  have hat := fun W => atMost_any m hm W
  have hmm : min m 4096 < 4294967296 := by omega
  have hnew := fun W => new_any (min m 4096) hmm W
  unfold pt at *
  generalize min m 4096 = M at *
  go_enter Try.func12, Try.ntmps12
  go_wp2_with fail
  refine (hat _).mono ?_
  rintro e w1 ⟨rfl, rfl⟩
  go_wp2_with fail
  refine (hnew _).mono ?_
  rintro e w1 ⟨rfl, hw1⟩
  have hT : Tb w1 base w.heap.size (.slice none 0 0) [] M := by rw [hw1]; exact Tb.new w M hb
  have hW : Below w.heap.size w w1 := by rw [hw1]; exact (Below.refl _ _).alloc (Nat.le_refl _) _
  have hs := hT.lt
  clear hw1 hat hnew
  have HT := Lib.hid hT
  have HW := Lib.hid hW
  clear hT hW
  go_wp2_with fail
  go_ret
  refine ⟨w1.heap.size, w.heap.size, rfl, ⟨HT.out.alloc _, Row.new w1 65 _, by omega, by simp [ob, Value.ownBlock], by omega⟩, by omega, Nat.le_refl _, HW.out.alloc (by omega) _⟩

set_option maxRecDepth 100000 in
theorem dtable_any {w : World} {base gd g : Nat} {v : Value} {L : List Fd} {M cap : Nat} (h : Dn w base gd g v L M cap) : Calls Try.prog 20 #[pt gd] w fun e w' => e = .returned (.int .i64 (tot L : Int)) ∧ w = w' := by
  have c0 := h.c0
  have hts := tsize_any h.t.own
  unfold pt at *
  clear h
  go_enter Try.func20, Try.ntmps20
  go_wp2_with fail
  refine hts.mono ?_
  rintro e w1 ⟨rfl, hw⟩
  subst hw
  go_wp2_with fail
  go_ret
  exact ⟨rfl, rfl⟩

theorem pieceR_inv {cap : Nat} {L : List Fd} {M : Nat} {out : List Fd} {l r : List UInt8} {s : Rd} (h : pieceR cap ⟨L, M, out⟩ l = some (s, r)) (hL : tot L ≤ M) (hM : M ≤ 4096) (hcap : cap ≤ 4096) :
    tot s.tb ≤ s.mx ∧ s.mx ≤ 4096 ∧ r.length < l.length ∧ s.out.length ≤ out.length + 1 := by
  obtain ⟨h1, h2, h3, h4⟩ := pieceR_spec (cap := cap) (L := L) (M := M) (out := out) (l := l) (K := kindN (l.headD 0).toNat) rfl
  generalize kindN (l.headD 0).toNat = K at *
  by_cases hz : (getL (pfxN K) l).2.2 = 0
  · have hu := getL_used hz
    have hdl : (l.drop (getL (pfxN K) l).2.1).length < l.length := by rw [List.length_drop]; omega
    by_cases e1 : K = 32
    · rw [h2 hz e1] at h
      split at h
      · cases h
      · rename_i hno
        injection h with h
        injection h with ha hb
        subst ha hb
        refine ⟨?_, by show (getL (pfxN K) l).1 ≤ 4096; omega, hdl, by show out.length ≤ _; omega⟩
        have := shr_le ((getL (pfxN K) l).1 : Int) (by omega) L
        show tot (shr _ L) ≤ (getL (pfxN K) l).1
        omega
    · by_cases e2 : K = 128
      · rw [h3 hz e2] at h
        cases ha : atT L (getL (pfxN K) l).1 with
        | none => rw [ha] at h; cases h
        | some f =>
          rw [ha] at h
          injection h with h
          injection h with hb hc
          subst hb hc
          exact ⟨hL, hM, hdl, by simp⟩
      · rw [h4 hz e1 e2] at h
        cases ha : textsR L (getL (pfxN K) l).1 (K == 16) (l.drop (getL (pfxN K) l).2.1) with
        | none => rw [ha] at h; cases h
        | some p =>
          obtain ⟨f, r'⟩ := p
          rw [ha] at h
          injection h with h
          injection h with hb hc
          subst hb hc
          have hr := (textsR_rest ha).1
          refine ⟨?_, hM, by show r'.length < _; omega, by simp⟩
          show tot (if K = 64 then addL M f L else L) ≤ M
          split
          · exact addL_le
          · exact hL
  · rw [h1 hz] at h; cases h

/-- What Get answers. -/
def GetE (w : World) (base gd g : Nat) (v : Value) (cap : Nat) (o : Option Rd) (e : Ending) (w' : World) : Prop :=
  Fs (EB gd g v) w w' ∧ match o with
    | none => e = .returned (.tuple #[.slice none 0 0, .agg #[.int .u8 1, .int .u32 9]])
    | some s => (∃ v', Dn w' base gd g v' s.tb s.mx cap ∧ Nx w v v' ∧ tot s.tb ≤ s.mx ∧ s.mx ≤ 4096 ∧
        ((4096 < tot s.out ∧ e = .returned (.tuple #[.slice none 0 0, .agg #[.int .u8 1, .int .u32 11]])) ∨
          (tot s.out ≤ 4096 ∧ ∃ A c, e = .returned (.tuple #[.slice A s.out.length c, .agg #[.int .u8 0, .int .u32 0]]) ∧ OwS w' w.heap.size 52 3 (.slice A s.out.length c) s.out.length (enl fdc s.out) ∧
            ∀ k, ob (.slice A s.out.length c) k → w.heap.size ≤ k ∧ ¬ EB gd g v' k)))

/-- How the loop of Get stands. -/
structure Gt (w2 wr : World) (base bd : Nat) (S : Nat → Prop) (gr gd g : Nat) (v : Value) (cap N : Nat) (R : Option Rd) (fuel : Nat) (s : Rd) (l : List UInt8) (v' fw sv : Value) : Prop where
  rg : Rg wr base bd S gr gd g v' fw sv s.tb s.mx cap l s.out
  eq : blockR cap fuel s l = R
  fu : l.length ≤ fuel
  tm : tot s.tb ≤ s.mx ∧ s.mx ≤ 4096
  ct : s.out.length + l.length ≤ N
  fs : Fs (fun k => k = gr ∨ EB gd g v k) w2 wr
  nv : Nx w2 v v'
  nf : ∀ k, ob fw k → w2.heap.size ≤ k

attribute [local irreducible] tot sz shr pieceR blockR

set_option maxRecDepth 100000 in
set_option maxHeartbeats 4000000 in
theorem get6_any {w : World} {base gd g : Nat} {v : Value} {L : List Fd} {M cap : Nat} {S : Nat → Prop} {A : Option Addr} {c : Nat} {l : List UInt8} (h : Dn w base gd g v L M cap) (hcap : cap ≤ 4096) (hM : M ≤ 4096) (hL : tot L ≤ M) (_hb : base ≤ w.heap.size)
    (hR : RdS w S A (byc l)) (hc : l.length ≤ c) (hS : ∀ k, S k → k < w.heap.size ∧ ¬ EB gd g v k) (hl : l.length ≤ 12000) :
    Calls Try.prog 16 #[pt gd, .slice A l.length c] w (GetE w base gd g v cap (blockR cap l.length ⟨L, M, []⟩ l)) := by
  obtain ⟨R, hRe⟩ : ∃ R, R = blockR cap l.length ⟨L, M, []⟩ l := ⟨_, rfl⟩
  rw [← hRe]
  have hb1 := (Below.refl w.heap.size w).alloc (Nat.le_refl _) (.cells #[.int .u8 0, .int .u32 0] 41)
  have hb2 := (Below.refl (w.heap.size + 1) (w.alloc (.cells #[.int .u8 0, .int .u32 0] 41))).alloc (by simp) (.cells #[pt gd, .slice A l.length c, .slice none 0 0, .int .i64 0] 70)
  have hbb : Below w.heap.size w ((w.alloc (.cells #[.int .u8 0, .int .u32 0] 41)).alloc (.cells #[pt gd, .slice A l.length c, .slice none 0 0, .int .i64 0] 70)) := hb1.trans (hb2.mono (by omega))
  have HB := Lib.hid hbb
  have HRr : Row ((w.alloc (.cells #[.int .u8 0, .int .u32 0] 41)).alloc (.cells #[pt gd, .slice A l.length c, .slice none 0 0, .int .i64 0] 70)) (w.heap.size + 1) 70 #[pt gd, .slice A l.length c, .slice none 0 0, .int .i64 0] := Row.made _ _ _ (by simp)
  have HFr : Hid (Row ((w.alloc (.cells #[.int .u8 0, .int .u32 0] 41)).alloc (.cells #[pt gd, .slice A l.length c, .slice none 0 0, .int .i64 0] 70)) w.heap.size 41 #[.int .u8 0, .int .u32 0]) := (Row.new w 41 #[.int .u8 0, .int .u32 0]).below hb2 (by omega)
  have hs2 : ((w.alloc (.cells #[.int .u8 0, .int .u32 0] 41)).alloc (.cells #[pt gd, .slice A l.length c, .slice none 0 0, .int .i64 0] 70)).heap.size = w.heap.size + 2 := by simp
  have HG0 : Hid (Gt ((w.alloc (.cells #[.int .u8 0, .int .u32 0] 41)).alloc (.cells #[pt gd, .slice A l.length c, .slice none 0 0, .int .i64 0] 70)) ((w.alloc (.cells #[.int .u8 0, .int .u32 0] 41)).alloc (.cells #[pt gd, .slice A l.length c, .slice none 0 0, .int .i64 0] 70)) w.heap.size base S (w.heap.size + 1) gd g v cap l.length R l.length ⟨L, M, []⟩ l v (.slice none 0 0) (.int .i64 0)) := by
    have hSl : ∀ k, S k → k < w.heap.size := fun k hk => (hS k hk).1
    refine ⟨⟨⟨⟨A, c, HRr, hc, hR.keep fun k hk => hbb.block k (hSl k hk), fun e => by have := hSl _ e; omega⟩, h.below hbb, hS, by omega, fun e => by have := (h.eb e).2; omega⟩, ⟨0, rfl, by omega, .inl ⟨tot_nil0.symm, OwS.nil⟩, fun k hk => by simp [ob, Value.ownBlock] at hk⟩, by simp [ob, Value.ownBlock], fun k hk => by simp [ob, Value.ownBlock] at hk⟩, hRe.symm, Nat.le_refl _, ⟨hL, hM⟩, by simp, Fs.refl _ _, Nx.refl _ _, fun k hk => by simp [ob, Value.ownBlock] at hk⟩
  have HEB : Hid (∀ k, EB gd g v k → k < w.heap.size) := fun k hk => (h.eb hk).2
  have hcf9 := fun W => connFault_any 9 W
  have hcf11 := fun W => connFault_any 11 W
  clear h hR hRe hb1 hb2 hbb HRr
  unfold pt at *
  go_enter Try.func16, Try.ntmps16
  go_wp2_with fail
  have hgl : w.heap.size + 1 < ((w.alloc (.cells #[.int .u8 0, .int .u32 0] 41)).alloc (.cells #[.pointer (some ⟨gd, 0, none⟩), .slice A l.length c, .slice none 0 0, .int .i64 0] 70)).heap.size := by simp
  have HS2 := Lib.hid hs2
  clear hs2
  generalize (w.alloc (.cells #[.int .u8 0, .int .u32 0] 41)).alloc (.cells #[.pointer (some ⟨gd, 0, none⟩), .slice A l.length c, .slice none 0 0, .int .i64 0] 70) = w2 at *
  go_loopw [14] (fun _ wr => ∃ (fuel : Nat) (s : Rd) (m : List UInt8) (v' fw sv : Value), Hid (Gt w2 wr w.heap.size base S (w.heap.size + 1) gd g v cap l.length R fuel s m v' fw sv) ∧ Hid (∃ A c, wr.cell? ⟨w.heap.size + 1, 1, none⟩ = some (.slice A m.length c)))
    (fun _ wr => match wr.cell? ⟨w.heap.size + 1, 1, none⟩ with | some (.slice _ n _) => n | _ => 0)
  case atStart => exact ⟨l.length, ⟨L, M, []⟩, l, v, _, _, HG0, by obtain ⟨A, c, h1, _⟩ := HG0.out.rg.x.r; exact ⟨A, c, h1.cell (j := 1) rfl⟩⟩
  case round =>
    clear HG0
    obtain ⟨fuel, s, m, v', fw, sv, hG, hC⟩ := hrel
    obtain ⟨A1, c1, hc1⟩ := hC.out
    have HFr2 : Hid (Row wr w.heap.size 41 #[.int .u8 0, .int .u32 0]) := hG.out.fs.row (fun e => by
      rcases e with e | e
      · omega
      · have := HEB.out _ e; omega) HFr.out
    by_cases hm : m = []
    · -- the end
      subst hm
      have hRs : R = some s := by rw [← hG.out.eq]; exact block_nil _ _ _
      subst hRs
      obtain ⟨A2, c2, hR2, _, _, _⟩ := hG.out.rg.x.r
      obtain ⟨z, rfl, hz, hcs, hfb⟩ := hG.out.rg.f
      have HFF : Hid (Fs (EB gd g v) w wr) := (Fs.of_below (S := EB gd g v) HB.out).trans hG.out.fs fun k hk e => by
        rcases e with e | e
        · omega
        · exact e
      have r2 := hR2.cell (j := 2) rfl
      have r3 := hR2.cell (j := 3) rfl
      have HNv : Hid (Nx w v v') := (Nx.refl w v).trans hG.out.nv (by have := HS2.out; omega)
      by_cases hgt : 4096 < z
      · have hg1 : (4096 : Int) < (z : Int) := by omega
        have hto : 4096 < tot s.out := by rcases hcs with h1 | h1 <;> omega
        clear hcs hR2 hcf9
        go_wp2_with fail
        refine (hcf11 _).mono ?_
        rintro e w4 ⟨rfl, hb4⟩
        have hR4 := HFr2.out.below hb4 HFr2.out.lt
        have HR4 := Lib.hid hR4
        have HD4 := Lib.hid (hG.out.rg.x.d.below hb4)
        have HF4 := Lib.hid (HFF.out.then_below hb4)
        have p0 := hR4.cell (j := 0) rfl
        have p1 := hR4.cell (j := 1) rfl
        have z0 := hR4.thawed 0
        have z1 := hR4.thawed 1
        clear hR4 hb4 hcf11 hc1 r2 r3
        go_wp2_with fail
        refine bodyPost_ret (ret_vf rfl _ _ w.heap.size #[.int .u8 1, .int .u32 11] rfl (Row.stored (Row.stored HR4.out 0 (.int .u8 1)) 1 (.int .u32 11)) rfl) rfl ?_
        have hFs : Fs (fun k => k = w.heap.size) w4 ((w4.setCell ⟨w.heap.size, 0, none⟩ (.int .u8 1)).setCell ⟨w.heap.size, 1, none⟩ (.int .u32 11)) := ((Fs.refl (fun k => k = w.heap.size) w4).setCell (fun _ => rfl) _ _).setCell (fun _ => rfl) _ _
        refine ⟨HF4.out.trans hFs fun k hk e => by omega, v', HD4.out.dis hFs fun k hk e => ?_, HNv.out, hG.out.tm.1, hG.out.tm.2, .inl ⟨hto, rfl⟩⟩
        rcases EB.next hG.out.nv hk with e1 | e1
        · have := HEB.out _ e1; omega
        · have := HS2.out; omega
      · have hg1 : decide ((4096 : Int) < (z : Int)) = false := by simp; omega
        obtain ⟨hzt, hO⟩ : z = tot s.out ∧ OwS wr w.heap.size 52 3 fw s.out.length (enl fdc s.out) := by
          rcases hcs with h1 | h1
          · exact h1
          · exact absurd h1.1 hgt
        have hto : tot s.out ≤ 4096 := by omega
        obtain ⟨A5, c5, rfl, hw1, hw2⟩ := hO.shape
        have HO := Lib.hid hO
        have HZ := Lib.hid hzt
        have p0 := HFr2.out.cell (j := 0) rfl
        have p1 := HFr2.out.cell (j := 1) rfl
        have z0 := HFr2.out.thawed 0
        have z1 := HFr2.out.thawed 1
        clear hcs hR2 hcf9 hcf11 hO hzt
        go_wp2_with fail
        refine bodyPost_ret (ret_vf rfl _ _ w.heap.size #[.int .u8 0, .int .u32 0] rfl (Row.stored (Row.stored HFr2.out 0 (.int .u8 0)) 1 (.int .u32 0)) rfl) rfl ?_
        have hFs : Fs (fun k => k = w.heap.size) wr ((wr.setCell ⟨w.heap.size, 0, none⟩ (.int .u8 0)).setCell ⟨w.heap.size, 1, none⟩ (.int .u32 0)) := ((Fs.refl (fun k => k = w.heap.size) wr).setCell (fun _ => rfl) _ _).setCell (fun _ => rfl) _ _
        refine ⟨HFF.out.trans hFs fun k hk e => by omega, v', hG.out.rg.x.d.dis hFs fun k hk e => ?_, HNv.out, hG.out.tm.1, hG.out.tm.2, .inr ⟨hto, A5, c5, rfl, hFs.owns HO.out fun k hk e => ?_, fun k hk => ⟨?_, hG.out.rg.fe k hk⟩⟩⟩
        · rcases EB.next hG.out.nv hk with e1 | e1
          · have := HEB.out _ e1; omega
          · have := HS2.out; omega
        · have h1 := hG.out.nf k hk
          have h2 := HS2.out
          omega
        · have h1 := hG.out.nf k hk
          have h2 := HS2.out
          omega
    · have h0 : 0 < m.length := List.length_pos_iff.2 hm
      have hml : m.length ≤ 12000 := by have := hG.out.ct; omega
      have hpc := piece_any hG.out.rg hm hml hcap hG.out.tm.2 hG.out.tm.1 (by have := hG.out.ct; omega)
      have hse : (⟨s.tb, s.mx, s.out⟩ : Rd) = s := rfl
      rw [hse] at hpc
      have hbn := block_none (cap := cap) (s := s) hm hG.out.fu
      have hbs := fun s' r n => block_some (cap := cap) (n := n) (s := s) (s' := s') (l := m) (r := r) hm
      have hiv := fun s' r (e : pieceR cap s m = some (s', r)) => pieceR_inv (cap := cap) (L := s.tb) (M := s.mx) (out := s.out) (l := m) (r := r) (s := s') e hG.out.tm.1 hG.out.tm.2 hcap
      generalize pieceR cap s m = P at *
      unfold pt at hpc
      clear hcf11
      go_wp2_with fail
      refine hpc.mono ?_
      intro e w3 he
      cases P with
      | none =>
        obtain ⟨hF, rfl⟩ := he
        have hRn : R = none := by rw [← hG.out.eq]; exact hbn rfl
        subst hRn
        have HFF : Hid (Fs (EB gd g v) w w3) := ((Fs.of_below (S := EB gd g v) HB.out).trans hG.out.fs fun k hk e => by
          rcases e with e | e
          · omega
          · exact e).trans hF fun k hk e => by
          rcases e with e | e | e
          · omega
          · rcases EB.next hG.out.nv e with e1 | e1
            · exact e1
            · have := HS2.out; omega
          · have h1 := hG.out.nf k e; have h2 := HS2.out; omega
        have hR3 := hF.row (fun e => by
          rcases e with e | e | e
          · omega
          · rcases EB.next hG.out.nv e with e1 | e1
            · have := HEB.out _ e1; omega
            · have := HS2.out; omega
          · have h1 := hG.out.nf _ e; have h2 := HS2.out; omega) HFr2.out
        have HR3 := Lib.hid hR3
        clear hF hR3 hpc hbn hbs hiv hG hC hc1
        go_wp2_with fail
        refine (hcf9 _).mono ?_
        rintro e w4 ⟨rfl, hb4⟩
        have hR4 := HR3.out.below hb4 HR3.out.lt
        have HR4 := Lib.hid hR4
        have HF4 := Lib.hid (HFF.out.then_below hb4)
        have p0 := hR4.cell (j := 0) rfl
        have p1 := hR4.cell (j := 1) rfl
        have z0 := hR4.thawed 0
        have z1 := hR4.thawed 1
        clear hR4 hb4 hcf9
        go_wp2_with fail
        refine bodyPost_ret (ret_vf rfl _ _ w.heap.size #[.int .u8 1, .int .u32 9] rfl (Row.stored (Row.stored HR4.out 0 (.int .u8 1)) 1 (.int .u32 9)) rfl) rfl ?_
        have hFs : Fs (fun k => k = w.heap.size) w4 ((w4.setCell ⟨w.heap.size, 0, none⟩ (.int .u8 1)).setCell ⟨w.heap.size, 1, none⟩ (.int .u32 9)) := ((Fs.refl (fun k => k = w.heap.size) w4).setCell (fun _ => rfl) _ _).setCell (fun _ => rfl) _ _
        exact ⟨HF4.out.trans hFs fun k hk e => by omega, rfl⟩
      | some p =>
        obtain ⟨s', r⟩ := p
        obtain ⟨hF, rfl, v'', fw', sv', hRg, hN, hNf⟩ := he
        obtain ⟨i1, i2, i3, i4⟩ := hiv s' r rfl
        obtain ⟨n, hn⟩ : ∃ n, fuel = n + 1 := ⟨fuel - 1, by have := hG.out.fu; omega⟩
        have HG3 : Hid (Gt w2 w3 w.heap.size base S (w.heap.size + 1) gd g v cap l.length R n s' r v'' fw' sv') := by
          refine ⟨hRg, ?_, by have := hG.out.fu; omega, ⟨i1, i2⟩, by have := hG.out.ct; omega, hG.out.fs.trans hF fun k hk e => ?_, hG.out.nv.trans hN hG.out.fs.size, fun k hk => ?_⟩
          · rw [← hG.out.eq, hn]; exact (hbs s' r n rfl).symm
          · rcases e with e | e | e
            · exact .inl e
            · rcases EB.next hG.out.nv e with e1 | e1
              · exact .inr e1
              · omega
            · have h1 := hG.out.nf k e; omega
          · rcases hNf.own hk with h1 | h1
            · exact hG.out.nf k h1
            · have := hG.out.fs.size; omega
        have HC3 : Hid (∃ A c, w3.cell? ⟨w.heap.size + 1, 1, none⟩ = some (.slice A r.length c)) := by obtain ⟨A, c, h1, _⟩ := HG3.out.rg.x.r; exact ⟨A, c, h1.cell (j := 1) rfl⟩
        clear hF hRg hN hNf hpc hbn hbs hiv hG hC
        go_wp2_with fail
        go_roundw
        case rel => exact ⟨n, s', r, v'', fw', sv', HG3, HC3⟩
        case measure =>
          obtain ⟨A3, c3, hc3⟩ := HC3.out
          rw [hc1, hc3]
          exact i3
end Go.Proofs.Ytfajffchnnalaaa
