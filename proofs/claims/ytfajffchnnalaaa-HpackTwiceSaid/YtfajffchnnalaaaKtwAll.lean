/-
  HpackTwice: for every row of fields the law answers true. No conditions: the reach alone bounds the texts.
  hpack's decoder: NewDecoder, Table, Get, by their contracts. Conditions: blocks of at most 12000 bytes, a most of at most 4096.
  The document's Same, by its contract: the same fields are the same. Conditions: at most 2^40 fields.
  HpackTwice, by its contract: at every row of fields it answers true; below what was there nothing has turned. Conditions: as many fields as an int counts.
-/
import Derived.Test.YtfajffchnnalaaaKpiece
import Derived.Test.YtfajffchnnalaaaDtab
import Derived.BigQuiet
import Derived.Deep.QuietTactic
import Derived.Test.YtfajffchnnalaaaKfix
import Derived.Test.YtfajffchnnalaaaPost
import Derived.Test.YtfajffchnnalaaaOpenW

namespace Go.Proofs.Ytfajffchnnalaaa
open Go.RowKit Go.WideShapes

theorem ret_vf {fn : Func} {p u : Tmp} (h : fn.results = #[.tmp u, .cell p 41]) (tmps : Array Value) (w : World) (g : Nat) (cs : Array Value) (hp : tmps.getD p undef = .pointer (some ⟨g, 0, none⟩)) (hR : Row w g 41 cs) (hc : cs.size = 2) :
    (results fn tmps).run Try.prog w = .ok (.tuple #[tmps.getD u undef, .agg cs]) w := by
  have hl := run_loadVar_row w g 41 41 cs (0, 0) _ hR Try.underlying41 rfl (fault_cells cs hc)
  have hp' : tmps[p]?.getD undef = .pointer (some ⟨g, 0, none⟩) := by simpa using hp
  simp only [results, h]
  simp [Result.andThen, hp', asAddr, hl]

set_option maxRecDepth 100000 in
theorem newD_any (m : Nat) (hm : m < 4294967296) (w : World) (base : Nat) (hb : base ≤ w.heap.size) : Calls Try.prog 12 #[.int .u32 (m : Int)] w fun e w' => ∃ gd g, e = .returned (pt gd) ∧ Dn w' base gd g (.slice none 0 0) [] (min m 4096) (min m 4096) ∧ w.heap.size ≤ gd ∧ w.heap.size ≤ g ∧ Below w.heap.size w w' := by
  have hat := fun W => atMost_any m hm W
  have hmm : min m 4096 < 4294967296 := by omega
  have hnew := fun W => new_any (min m 4096) hmm W
  unfold pt at *
  generalize min m 4096 = M at *
  go_enter Try.func12, Try.ntmps12
  go_wp2_with fail
  refine (hat _).mono ?_
  rintro e w1 ⟨rfl, rfl⟩
  go_wp2_with fail
  refine (hnew _).mono ?_
  rintro e w1 ⟨rfl, hw1⟩
  have hT : Tb w1 base w.heap.size (.slice none 0 0) [] M := by rw [hw1]; exact Tb.new w M hb
  have hW : Below w.heap.size w w1 := by rw [hw1]; exact (Below.refl _ _).alloc (Nat.le_refl _) _
  have hs := hT.lt
  clear hw1 hat hnew
  have HT := Lib.hid hT
  have HW := Lib.hid hW
  clear hT hW
  go_wp2_with fail
  go_ret
  refine ⟨w1.heap.size, w.heap.size, rfl, ⟨HT.out.alloc _, Row.new w1 65 _, by omega, by simp [ob, Value.ownBlock], by omega⟩, by omega, Nat.le_refl _, HW.out.alloc (by omega) _⟩

set_option maxRecDepth 100000 in
theorem dtable_any {w : World} {base gd g : Nat} {v : Value} {L : List Fd} {M cap : Nat} (h : Dn w base gd g v L M cap) : Calls Try.prog 20 #[pt gd] w fun e w' => e = .returned (.int .i64 (tot L : Int)) ∧ w = w' := by
  have c0 := h.c0
  have hts := tsize_any h.t.own
  unfold pt at *
  clear h
  go_enter Try.func20, Try.ntmps20
  go_wp2_with fail
  refine hts.mono ?_
  rintro e w1 ⟨rfl, hw⟩
  subst hw
  go_wp2_with fail
  go_ret
  exact ⟨rfl, rfl⟩

theorem pieceR_inv {cap : Nat} {L : List Fd} {M : Nat} {out : List Fd} {l r : List UInt8} {s : Rd} (h : pieceR cap ⟨L, M, out⟩ l = some (s, r)) (hL : tot L ≤ M) (hM : M ≤ 4096) (hcap : cap ≤ 4096) :
    tot s.tb ≤ s.mx ∧ s.mx ≤ 4096 ∧ r.length < l.length ∧ s.out.length ≤ out.length + 1 := by
  obtain ⟨h1, h2, h3, h4⟩ := pieceR_spec (cap := cap) (L := L) (M := M) (out := out) (l := l) (K := kindN (l.headD 0).toNat) rfl
  generalize kindN (l.headD 0).toNat = K at *
  by_cases hz : (getL (pfxN K) l).2.2 = 0
  · have hu := getL_used hz
    have hdl : (l.drop (getL (pfxN K) l).2.1).length < l.length := by rw [List.length_drop]; omega
    by_cases e1 : K = 32
    · rw [h2 hz e1] at h
      split at h
      · cases h
      · rename_i hno
        injection h with h
        injection h with ha hb
        subst ha hb
        refine ⟨?_, by show (getL (pfxN K) l).1 ≤ 4096; omega, hdl, by show out.length ≤ _; omega⟩
        have := shr_le ((getL (pfxN K) l).1 : Int) (by omega) L
        show tot (shr _ L) ≤ (getL (pfxN K) l).1
        omega
    · by_cases e2 : K = 128
      · rw [h3 hz e2] at h
        cases ha : atT L (getL (pfxN K) l).1 with
        | none => rw [ha] at h; cases h
        | some f =>
          rw [ha] at h
          injection h with h
          injection h with hb hc
          subst hb hc
          exact ⟨hL, hM, hdl, by simp⟩
      · rw [h4 hz e1 e2] at h
        cases ha : textsR L (getL (pfxN K) l).1 (K == 16) (l.drop (getL (pfxN K) l).2.1) with
        | none => rw [ha] at h; cases h
        | some p =>
          obtain ⟨f, r'⟩ := p
          rw [ha] at h
          injection h with h
          injection h with hb hc
          subst hb hc
          have hr := (textsR_rest ha).1
          refine ⟨?_, hM, by show r'.length < _; omega, by simp⟩
          show tot (if K = 64 then addL M f L else L) ≤ M
          split
          · exact addL_le
          · exact hL
  · rw [h1 hz] at h; cases h

/-- What Get answers. -/
def GetE (w : World) (base gd g : Nat) (v : Value) (cap : Nat) (o : Option Rd) (e : Ending) (w' : World) : Prop :=
  Fs (EB gd g v) w w' ∧ match o with
    | none => e = .returned (.tuple #[.slice none 0 0, .agg #[.int .u8 1, .int .u32 9]])
    | some s => (∃ v', Dn w' base gd g v' s.tb s.mx cap ∧ Nx w v v' ∧ tot s.tb ≤ s.mx ∧ s.mx ≤ 4096 ∧
        ((4096 < tot s.out ∧ e = .returned (.tuple #[.slice none 0 0, .agg #[.int .u8 1, .int .u32 11]])) ∨
          (tot s.out ≤ 4096 ∧ ∃ A c, e = .returned (.tuple #[.slice A s.out.length c, .agg #[.int .u8 0, .int .u32 0]]) ∧ OwS w' w.heap.size 52 3 (.slice A s.out.length c) s.out.length (enl fdc s.out) ∧
            ∀ k, ob (.slice A s.out.length c) k → w.heap.size ≤ k ∧ ¬ EB gd g v' k)))

/-- How the loop of Get stands. -/
structure Gt (w2 wr : World) (base bd : Nat) (S : Nat → Prop) (gr gd g : Nat) (v : Value) (cap N : Nat) (R : Option Rd) (fuel : Nat) (s : Rd) (l : List UInt8) (v' fw sv : Value) : Prop where
  rg : Rg wr base bd S gr gd g v' fw sv s.tb s.mx cap l s.out
  eq : blockR cap fuel s l = R
  fu : l.length ≤ fuel
  tm : tot s.tb ≤ s.mx ∧ s.mx ≤ 4096
  ct : s.out.length + l.length ≤ N
  fs : Fs (fun k => k = gr ∨ EB gd g v k) w2 wr
  nv : Nx w2 v v'
  nf : ∀ k, ob fw k → w2.heap.size ≤ k

attribute [local irreducible] tot sz shr pieceR blockR

set_option maxRecDepth 100000 in
set_option maxHeartbeats 4000000 in
theorem get6_any {w : World} {base gd g : Nat} {v : Value} {L : List Fd} {M cap : Nat} {S : Nat → Prop} {A : Option Addr} {c : Nat} {l : List UInt8} (h : Dn w base gd g v L M cap) (hcap : cap ≤ 4096) (hM : M ≤ 4096) (hL : tot L ≤ M) (_hb : base ≤ w.heap.size)
    (hR : RdS w S A (byc l)) (hc : l.length ≤ c) (hS : ∀ k, S k → k < w.heap.size ∧ ¬ EB gd g v k) (hl : l.length ≤ 12000) :
    Calls Try.prog 16 #[pt gd, .slice A l.length c] w (GetE w base gd g v cap (blockR cap l.length ⟨L, M, []⟩ l)) := by
  obtain ⟨R, hRe⟩ : ∃ R, R = blockR cap l.length ⟨L, M, []⟩ l := ⟨_, rfl⟩
  rw [← hRe]
  have hb1 := (Below.refl w.heap.size w).alloc (Nat.le_refl _) (.cells #[.int .u8 0, .int .u32 0] 41)
  have hb2 := (Below.refl (w.heap.size + 1) (w.alloc (.cells #[.int .u8 0, .int .u32 0] 41))).alloc (by simp) (.cells #[pt gd, .slice A l.length c, .slice none 0 0, .int .i64 0] 70)
  have hbb : Below w.heap.size w ((w.alloc (.cells #[.int .u8 0, .int .u32 0] 41)).alloc (.cells #[pt gd, .slice A l.length c, .slice none 0 0, .int .i64 0] 70)) := hb1.trans (hb2.mono (by omega))
  have HB := Lib.hid hbb
  have HRr : Row ((w.alloc (.cells #[.int .u8 0, .int .u32 0] 41)).alloc (.cells #[pt gd, .slice A l.length c, .slice none 0 0, .int .i64 0] 70)) (w.heap.size + 1) 70 #[pt gd, .slice A l.length c, .slice none 0 0, .int .i64 0] := Row.made _ _ _ (by simp)
  have HFr : Hid (Row ((w.alloc (.cells #[.int .u8 0, .int .u32 0] 41)).alloc (.cells #[pt gd, .slice A l.length c, .slice none 0 0, .int .i64 0] 70)) w.heap.size 41 #[.int .u8 0, .int .u32 0]) := (Row.new w 41 #[.int .u8 0, .int .u32 0]).below hb2 (by omega)
  have hs2 : ((w.alloc (.cells #[.int .u8 0, .int .u32 0] 41)).alloc (.cells #[pt gd, .slice A l.length c, .slice none 0 0, .int .i64 0] 70)).heap.size = w.heap.size + 2 := by simp
  have HG0 : Hid (Gt ((w.alloc (.cells #[.int .u8 0, .int .u32 0] 41)).alloc (.cells #[pt gd, .slice A l.length c, .slice none 0 0, .int .i64 0] 70)) ((w.alloc (.cells #[.int .u8 0, .int .u32 0] 41)).alloc (.cells #[pt gd, .slice A l.length c, .slice none 0 0, .int .i64 0] 70)) w.heap.size base S (w.heap.size + 1) gd g v cap l.length R l.length ⟨L, M, []⟩ l v (.slice none 0 0) (.int .i64 0)) := by
    have hSl : ∀ k, S k → k < w.heap.size := fun k hk => (hS k hk).1
    refine ⟨⟨⟨⟨A, c, HRr, hc, hR.keep fun k hk => hbb.block k (hSl k hk), fun e => by have := hSl _ e; omega⟩, h.below hbb, hS, by omega, fun e => by have := (h.eb e).2; omega⟩, ⟨0, rfl, by omega, .inl ⟨tot_nil0.symm, OwS.nil⟩, fun k hk => by simp [ob, Value.ownBlock] at hk⟩, by simp [ob, Value.ownBlock], fun k hk => by simp [ob, Value.ownBlock] at hk⟩, hRe.symm, Nat.le_refl _, ⟨hL, hM⟩, by simp, Fs.refl _ _, Nx.refl _ _, fun k hk => by simp [ob, Value.ownBlock] at hk⟩
  have HEB : Hid (∀ k, EB gd g v k → k < w.heap.size) := fun k hk => (h.eb hk).2
  have hcf9 := fun W => connFault_any 9 W
  have hcf11 := fun W => connFault_any 11 W
  clear h hR hRe hb1 hb2 hbb HRr
  unfold pt at *
  go_enter Try.func16, Try.ntmps16
  go_wp2_with fail
  have hgl : w.heap.size + 1 < ((w.alloc (.cells #[.int .u8 0, .int .u32 0] 41)).alloc (.cells #[.pointer (some ⟨gd, 0, none⟩), .slice A l.length c, .slice none 0 0, .int .i64 0] 70)).heap.size := by simp
  have HS2 := Lib.hid hs2
  clear hs2
  generalize (w.alloc (.cells #[.int .u8 0, .int .u32 0] 41)).alloc (.cells #[.pointer (some ⟨gd, 0, none⟩), .slice A l.length c, .slice none 0 0, .int .i64 0] 70) = w2 at *
  go_loopw [14] (fun _ wr => ∃ (fuel : Nat) (s : Rd) (m : List UInt8) (v' fw sv : Value), Hid (Gt w2 wr w.heap.size base S (w.heap.size + 1) gd g v cap l.length R fuel s m v' fw sv) ∧ Hid (∃ A c, wr.cell? ⟨w.heap.size + 1, 1, none⟩ = some (.slice A m.length c)))
    (fun _ wr => match wr.cell? ⟨w.heap.size + 1, 1, none⟩ with | some (.slice _ n _) => n | _ => 0)
  case atStart => exact ⟨l.length, ⟨L, M, []⟩, l, v, _, _, HG0, by obtain ⟨A, c, h1, _⟩ := HG0.out.rg.x.r; exact ⟨A, c, h1.cell (j := 1) rfl⟩⟩
  case round =>
    clear HG0
    obtain ⟨fuel, s, m, v', fw, sv, hG, hC⟩ := hrel
    obtain ⟨A1, c1, hc1⟩ := hC.out
    have HFr2 : Hid (Row wr w.heap.size 41 #[.int .u8 0, .int .u32 0]) := hG.out.fs.row (fun e => by
      rcases e with e | e
      · omega
      · have := HEB.out _ e; omega) HFr.out
    by_cases hm : m = []
    · -- the end
      subst hm
      have hRs : R = some s := by rw [← hG.out.eq]; exact block_nil _ _ _
      subst hRs
      obtain ⟨A2, c2, hR2, _, _, _⟩ := hG.out.rg.x.r
      obtain ⟨z, rfl, hz, hcs, hfb⟩ := hG.out.rg.f
      have HFF : Hid (Fs (EB gd g v) w wr) := (Fs.of_below (S := EB gd g v) HB.out).trans hG.out.fs fun k hk e => by
        rcases e with e | e
        · omega
        · exact e
      have r2 := hR2.cell (j := 2) rfl
      have r3 := hR2.cell (j := 3) rfl
      have HNv : Hid (Nx w v v') := (Nx.refl w v).trans hG.out.nv (by have := HS2.out; omega)
      by_cases hgt : 4096 < z
      · have hg1 : (4096 : Int) < (z : Int) := by omega
        have hto : 4096 < tot s.out := by rcases hcs with h1 | h1 <;> omega
        clear hcs hR2 hcf9
        go_wp2_with fail
        refine (hcf11 _).mono ?_
        rintro e w4 ⟨rfl, hb4⟩
        have hR4 := HFr2.out.below hb4 HFr2.out.lt
        have HR4 := Lib.hid hR4
        have HD4 := Lib.hid (hG.out.rg.x.d.below hb4)
        have HF4 := Lib.hid (HFF.out.then_below hb4)
        have p0 := hR4.cell (j := 0) rfl
        have p1 := hR4.cell (j := 1) rfl
        have z0 := hR4.thawed 0
        have z1 := hR4.thawed 1
        clear hR4 hb4 hcf11 hc1 r2 r3
        go_wp2_with fail
        refine bodyPost_ret (ret_vf rfl _ _ w.heap.size #[.int .u8 1, .int .u32 11] rfl (Row.stored (Row.stored HR4.out 0 (.int .u8 1)) 1 (.int .u32 11)) rfl) rfl ?_
        have hFs : Fs (fun k => k = w.heap.size) w4 ((w4.setCell ⟨w.heap.size, 0, none⟩ (.int .u8 1)).setCell ⟨w.heap.size, 1, none⟩ (.int .u32 11)) := ((Fs.refl (fun k => k = w.heap.size) w4).setCell (fun _ => rfl) _ _).setCell (fun _ => rfl) _ _
        refine ⟨HF4.out.trans hFs fun k hk e => by omega, v', HD4.out.dis hFs fun k hk e => ?_, HNv.out, hG.out.tm.1, hG.out.tm.2, .inl ⟨hto, rfl⟩⟩
        rcases EB.next hG.out.nv hk with e1 | e1
        · have := HEB.out _ e1; omega
        · have := HS2.out; omega
      · have hg1 : decide ((4096 : Int) < (z : Int)) = false := by simp; omega
        obtain ⟨hzt, hO⟩ : z = tot s.out ∧ OwS wr w.heap.size 52 3 fw s.out.length (enl fdc s.out) := by
          rcases hcs with h1 | h1
          · exact h1
          · exact absurd h1.1 hgt
        have hto : tot s.out ≤ 4096 := by omega
        obtain ⟨A5, c5, rfl, hw1, hw2⟩ := hO.shape
        have HO := Lib.hid hO
        have HZ := Lib.hid hzt
        have p0 := HFr2.out.cell (j := 0) rfl
        have p1 := HFr2.out.cell (j := 1) rfl
        have z0 := HFr2.out.thawed 0
        have z1 := HFr2.out.thawed 1
        clear hcs hR2 hcf9 hcf11 hO hzt
        go_wp2_with fail
        refine bodyPost_ret (ret_vf rfl _ _ w.heap.size #[.int .u8 0, .int .u32 0] rfl (Row.stored (Row.stored HFr2.out 0 (.int .u8 0)) 1 (.int .u32 0)) rfl) rfl ?_
        have hFs : Fs (fun k => k = w.heap.size) wr ((wr.setCell ⟨w.heap.size, 0, none⟩ (.int .u8 0)).setCell ⟨w.heap.size, 1, none⟩ (.int .u32 0)) := ((Fs.refl (fun k => k = w.heap.size) wr).setCell (fun _ => rfl) _ _).setCell (fun _ => rfl) _ _
        refine ⟨HFF.out.trans hFs fun k hk e => by omega, v', hG.out.rg.x.d.dis hFs fun k hk e => ?_, HNv.out, hG.out.tm.1, hG.out.tm.2, .inr ⟨hto, A5, c5, rfl, hFs.owns HO.out fun k hk e => ?_, fun k hk => ⟨?_, hG.out.rg.fe k hk⟩⟩⟩
        · rcases EB.next hG.out.nv hk with e1 | e1
          · have := HEB.out _ e1; omega
          · have := HS2.out; omega
        · have h1 := hG.out.nf k hk
          have h2 := HS2.out
          omega
        · have h1 := hG.out.nf k hk
          have h2 := HS2.out
          omega
    · have h0 : 0 < m.length := List.length_pos_iff.2 hm
      have hml : m.length ≤ 12000 := by have := hG.out.ct; omega
      have hpc := piece_any hG.out.rg hm hml hcap hG.out.tm.2 hG.out.tm.1 (by have := hG.out.ct; omega)
      have hse : (⟨s.tb, s.mx, s.out⟩ : Rd) = s := rfl
      rw [hse] at hpc
      have hbn := block_none (cap := cap) (s := s) hm hG.out.fu
      have hbs := fun s' r n => block_some (cap := cap) (n := n) (s := s) (s' := s') (l := m) (r := r) hm
      have hiv := fun s' r (e : pieceR cap s m = some (s', r)) => pieceR_inv (cap := cap) (L := s.tb) (M := s.mx) (out := s.out) (l := m) (r := r) (s := s') e hG.out.tm.1 hG.out.tm.2 hcap
      generalize pieceR cap s m = P at *
      unfold pt at hpc
      clear hcf11
      go_wp2_with fail
      refine hpc.mono ?_
      intro e w3 he
      cases P with
      | none =>
        obtain ⟨hF, rfl⟩ := he
        have hRn : R = none := by rw [← hG.out.eq]; exact hbn rfl
        subst hRn
        have HFF : Hid (Fs (EB gd g v) w w3) := ((Fs.of_below (S := EB gd g v) HB.out).trans hG.out.fs fun k hk e => by
          rcases e with e | e
          · omega
          · exact e).trans hF fun k hk e => by
          rcases e with e | e | e
          · omega
          · rcases EB.next hG.out.nv e with e1 | e1
            · exact e1
            · have := HS2.out; omega
          · have h1 := hG.out.nf k e; have h2 := HS2.out; omega
        have hR3 := hF.row (fun e => by
          rcases e with e | e | e
          · omega
          · rcases EB.next hG.out.nv e with e1 | e1
            · have := HEB.out _ e1; omega
            · have := HS2.out; omega
          · have h1 := hG.out.nf _ e; have h2 := HS2.out; omega) HFr2.out
        have HR3 := Lib.hid hR3
        clear hF hR3 hpc hbn hbs hiv hG hC hc1
        go_wp2_with fail
        refine (hcf9 _).mono ?_
        rintro e w4 ⟨rfl, hb4⟩
        have hR4 := HR3.out.below hb4 HR3.out.lt
        have HR4 := Lib.hid hR4
        have HF4 := Lib.hid (HFF.out.then_below hb4)
        have p0 := hR4.cell (j := 0) rfl
        have p1 := hR4.cell (j := 1) rfl
        have z0 := hR4.thawed 0
        have z1 := hR4.thawed 1
        clear hR4 hb4 hcf9
        go_wp2_with fail
        refine bodyPost_ret (ret_vf rfl _ _ w.heap.size #[.int .u8 1, .int .u32 9] rfl (Row.stored (Row.stored HR4.out 0 (.int .u8 1)) 1 (.int .u32 9)) rfl) rfl ?_
        have hFs : Fs (fun k => k = w.heap.size) w4 ((w4.setCell ⟨w.heap.size, 0, none⟩ (.int .u8 1)).setCell ⟨w.heap.size, 1, none⟩ (.int .u32 9)) := ((Fs.refl (fun k => k = w.heap.size) w4).setCell (fun _ => rfl) _ _).setCell (fun _ => rfl) _ _
        exact ⟨HF4.out.trans hFs fun k hk e => by omega, rfl⟩
      | some p =>
        obtain ⟨s', r⟩ := p
        obtain ⟨hF, rfl, v'', fw', sv', hRg, hN, hNf⟩ := he
        obtain ⟨i1, i2, i3, i4⟩ := hiv s' r rfl
        obtain ⟨n, hn⟩ : ∃ n, fuel = n + 1 := ⟨fuel - 1, by have := hG.out.fu; omega⟩
        have HG3 : Hid (Gt w2 w3 w.heap.size base S (w.heap.size + 1) gd g v cap l.length R n s' r v'' fw' sv') := by
          refine ⟨hRg, ?_, by have := hG.out.fu; omega, ⟨i1, i2⟩, by have := hG.out.ct; omega, hG.out.fs.trans hF fun k hk e => ?_, hG.out.nv.trans hN hG.out.fs.size, fun k hk => ?_⟩
          · rw [← hG.out.eq, hn]; exact (hbs s' r n rfl).symm
          · rcases e with e | e | e
            · exact .inl e
            · rcases EB.next hG.out.nv e with e1 | e1
              · exact .inr e1
              · omega
            · have h1 := hG.out.nf k e; omega
          · rcases hNf.own hk with h1 | h1
            · exact hG.out.nf k h1
            · have := hG.out.fs.size; omega
        have HC3 : Hid (∃ A c, w3.cell? ⟨w.heap.size + 1, 1, none⟩ = some (.slice A r.length c)) := by obtain ⟨A, c, h1, _⟩ := HG3.out.rg.x.r; exact ⟨A, c, h1.cell (j := 1) rfl⟩
        clear hF hRg hN hNf hpc hbn hbs hiv hG hC
        go_wp2_with fail
        go_roundw
        case rel => exact ⟨n, s', r, v'', fw', sv', HG3, HC3⟩
        case measure =>
          obtain ⟨A3, c3, hc3⟩ := HC3.out
          rw [hc1, hc3]
          exact i3
end Go.Proofs.Ytfajffchnnalaaa

namespace Go.Proofs.Ytfajffchnnalaaa
open Go.RowKit Go.WideShapes

set_option maxRecDepth 100000 in
set_option maxHeartbeats 2000000 in
theorem same6_any {w : World} {A B : Option Addr} {c d : Nat} {F : List Fd} (hA : RdS w (· < w.heap.size) A (enl fdc F)) (hB : RdS w (· < w.heap.size) B (enl fdc F)) (hl : F.length ≤ 1099511627776) :
    Calls Try.prog 18 #[.slice A F.length c, .slice B F.length d] w fun e w' => e = .returned (.bool true) ∧ ∃ n, w' = w.drewN n := by
  go_enter Try.func18, Try.ntmps18
  go_wp2_with fail
  go_loopw [13] (fun i wr => ∃ k : Nat, k ≤ F.length ∧ i = .int .i64 k ∧ Hid (∃ n, wr = w.drewN n))
    (fun i _ => F.length - (intOf i).toNat)
  case atStart => exact ⟨0, Nat.zero_le _, rfl, ⟨0, rfl⟩⟩
  case round =>
    obtain ⟨k, hk, rfl, hW⟩ := hrel
    obtain ⟨nd, rfl⟩ := hW.out
    by_cases hlt : k < F.length
    · obtain ⟨b1, q1, rfl, _, f0, f1, f2⟩ := hA.field hlt
      obtain ⟨b2, q2, rfl, _, e0, e1, e2⟩ := hB.field hlt
      unfold tx at f0 f1 e0 e1
      generalize F[k].nm = x at *
      generalize F[k].vl = y at *
      generalize F[k].nv = z at *
      have k0 : (0 : Int) ≤ (k : Int) := by omega
      have k1 : (k : Int) < (F.length : Int) := by omega
      clear hW
      go_wp2_with fail
      go_quiet (fail)
      go_wp2_with fail
      go_roundw
      case rel => exact ⟨k + 1, by omega, by go_num, ⟨_, rfl⟩⟩
      case measure => simp [intOf]; omega
    · clear hW
      go_wp2_with fail
      go_ret
      exact ⟨rfl, nd, rfl⟩
end Go.Proofs.Ytfajffchnnalaaa

namespace Go.Proofs.Ytfajffchnnalaaa
open Go.RowKit Go.WideShapes

theorem limL_none (low M : Nat) : limL false low M = [] := rfl
theorem hOf_iff {L : List Fd} {f : Fd} : hOf L f = true ↔ fndB f.nm f.vl = true ∨ ∃ g ∈ L, g.nm = f.nm ∧ g.vl = f.vl := by
  unfold hOf hasT
  simp only [Bool.or_eq_true, decide_eq_true_eq]
  constructor
  · rintro (h | h)
    · exact .inl h
    · obtain ⟨g, hg, h1, h2⟩ := isBT_spec (first_spec h).1
      have hm := List.mem_of_getElem? hg
      rw [List.mem_reverse] at hm
      exact .inr ⟨g, hm, h1, h2⟩
  · rintro (h | ⟨g, hg, h1, h2⟩)
    · exact .inl h
    · refine .inr ?_
      rw [← List.mem_reverse] at hg
      obtain ⟨j, hj, e⟩ := List.getElem_of_mem hg
      refine (first_bound hj ?_).1
      rw [isBT_at hj, e]
      simp [h1, h2]
theorem hOf_more {L L' : List Fd} {f : Fd} (h : ∀ x ∈ L, x ∈ L') (hh : hOf L f = true) : hOf L' f = true := by
  rw [hOf_iff] at hh ⊢
  rcases hh with h1 | ⟨g, hg, h2⟩
  · exact .inl h1
  · exact .inr ⟨g, h g hg, h2⟩
theorem tabF_room {M : Nat} {L : List Fd} {f : Fd} (hv : f.nv = false) (h : tot L + sz f ≤ M) : (∀ x ∈ L, x ∈ tabF M L f) ∧ hOf (tabF M L f) f = true ∧ tot (tabF M L f) ≤ tot L + sz f ∧ (tabF M L f).length ≤ L.length + 1 := by
  unfold tabF
  rw [if_neg (by simp [hv])]
  split
  · rename_i h1
    exact ⟨fun x hx => hx, h1, by omega, by omega⟩
  · have e : addL M f L = L ++ [bare f] := by
      unfold addL
      rw [if_neg (by omega), shr_self (by omega)]
    rw [e]
    refine ⟨fun x hx => by simp [hx], hOf_iff.2 (.inr ⟨bare f, by simp, rfl, rfl⟩), by rw [tot_snoc, sz_bare]; omega, by simp⟩
theorem tabA_room {M : Nat} : ∀ {F L : List Fd}, (∀ f ∈ F, f.nv = false) → tot L + tot F ≤ M → (∀ x ∈ L, x ∈ tabA M L F) ∧ (∀ f ∈ F, hOf (tabA M L F) f = true) ∧ (tabA M L F).length ≤ L.length + F.length
  | [], L, _, _ => ⟨fun x hx => hx, fun f hf => by simp at hf, by simp [tabA]⟩
  | f :: F, L, hv, h => by
    simp only [tot] at h
    obtain ⟨h1, h2, h3, h4⟩ := tabF_room (hv f (by simp)) (show tot L + sz f ≤ M by omega)
    obtain ⟨k1, k2, k3⟩ := tabA_room (M := M) (F := F) (L := tabF M L f) (fun x hx => hv x (by simp [hx])) (by omega)
    simp only [tabA, List.length_cons]
    refine ⟨fun x hx => k1 x (h1 x hx), fun x hx => ?_, by omega⟩
    rcases List.mem_cons.1 hx with rfl | hx
    · exact hOf_more k1 h2
    · exact k2 x hx
theorem num_len1 {n : Nat} (h : n < 127) : (numL 128 n).length = 1 := by
  have e : pfxN 128 = 7 := rfl
  unfold numL
  rw [e, putL_small (by omega)]
  rfl
theorem putA_again {M : Nat} {L : List Fd} (hL : L.length ≤ 60) : ∀ {F : List Fd}, (∀ f ∈ F, f.nv = false ∧ hOf L f = true) → (putA M L F).length = F.length ∧ tabA M L F = L
  | [], _ => by simp [putA, tabA]
  | f :: F, h => by
    have h0 := h f (by simp)
    have e1 : tabF M L f = L := by unfold tabF; rw [if_neg (by simp [h0.1]), if_pos h0.2]
    have e2 : putF L f = numL 128 (nOf L f) := by unfold putF; rw [if_neg (by simp [h0.1]), if_pos h0.2]
    have h1 := @nOf_le L f
    have ih := putA_again (M := M) hL (F := F) fun x hx => h x (by simp [hx])
    simp only [putA, tabA, e1, e2, List.length_append, List.length_cons, ih.1, num_len1 (show nOf L f < 127 by omega)]
    exact ⟨by omega, ih.2⟩
theorem map_bare_take {F : List Fd} {k : Nat} (hk : k < F.length) : (F.take (k + 1)).map bare = (F.take k).map bare ++ [bare F[k]] := by
  rw [List.take_succ_eq_append_getElem hk, List.map_append]; rfl
theorem tot_few {F : List Fd} (h : ∀ f ∈ F, f.nm.length + f.vl.length ≤ 100) : tot F ≤ F.length * 132 := by
  induction F with
  | nil => simp [tot]
  | cons f F ih =>
    have h1 := h f (by simp)
    have h2 := ih fun x hx => h x (by simp [hx])
    simp only [tot, List.length_cons]
    unfold sz
    omega
theorem sumK_tot : ∀ F : List Fd, sumK F + 22 * F.length = tot F + 10
  | [] => by simp [sumK, tot]
  | f :: F => by
    have := sumK_tot F
    simp only [sumK, tot, List.length_cons]
    unfold sz
    omega
theorem bare_eq (f : Fd) : bare f = ⟨f.nm, f.vl, false⟩ := rfl

attribute [local irreducible] tot shr sz txtL numL litL addL putF tabF nOf hOf putA tabA limL blockR

set_option maxRecDepth 100000 in
set_option maxHeartbeats 8000000 in
theorem twice_law {w : World} {A : Option Addr} {c : Nat} {F : List Fd} (hR : RdS w (· < w.heap.size) A (enl fdc F)) (hB : ∀ f ∈ F, f.nm.length ≤ 140737488351232 ∧ f.vl.length ≤ 140737488351232) :
    Calls Try.prog 7 #[.slice A F.length c] w fun e w' => e = .returned (.bool true) ∧ Below w.heap.size w w' := by
  obtain ⟨i0, hi0, hz0, hz1, hz2⟩ := field_parts
  by_cases h20 : 20 < F.length
  · have hd : (20 : Int) < (F.length : Int) := by omega
    go_enter Try.func7, Try.ntmps7
    go_wp2_with fail
    refine (fixed_any _).mono ?_
    rintro e w2 ⟨rfl, hb2⟩
    have HB2 := Lib.hid hb2
    clear hb2
    go_wp2_with fail
    go_ret
    exact ⟨rfl, HB2.out⟩
  · have hd : decide ((20 : Int) < (F.length : Int)) = false := by simp; omega
    have hF20 : F.length ≤ 20 := by omega
    go_enter Try.func7, Try.ntmps7
    go_wp2_with fail
    go_loopw [3, 20] (fun o i wr => ∃ (k : Nat) (Ao : Option Addr) (co n : Nat), k ≤ F.length ∧ i = .int .i64 k ∧ o = .slice Ao n co ∧ Hid (n = k ∧ OwS wr w.heap.size 52 3 (.slice Ao n co) n (enl fdc ((F.take k).map bare))) ∧ Hid (∀ f ∈ F.take k, f.nm.length + f.vl.length ≤ 100) ∧ Hid (Below w.heap.size w wr))
      (fun _ i _ => F.length - (intOf i).toNat)
    case atStart => exact ⟨0, none, 0, 0, Nat.zero_le _, rfl, rfl, ⟨rfl, OwS.nil⟩, by show ∀ _, _; simp, Below.refl _ _⟩
    case round =>
      obtain ⟨k, Ao, co, n, hk, rfl, rfl, hO, hF, hW⟩ := hrel
      by_cases hlt : k < F.length
      · obtain ⟨q, o, rfl, hq, f0, f1, f2⟩ := (hR.below hW.out).field hlt
        have hmb := map_bare_take hlt
        have hmore : Hid (F[k].nm.length + F[k].vl.length ≤ 100 → ∀ f ∈ F.take (k + 1), f.nm.length + f.vl.length ≤ 100) := by
          intro h1 f hf
          rw [List.take_succ_eq_append_getElem hlt, List.mem_append, List.mem_singleton] at hf
          rcases hf with hf | rfl
          · exact hF.out f hf
          · exact h1
        rw [bare_eq] at hmb
        have HMB := Lib.hid hmb
        obtain ⟨hbx, hby⟩ := hB _ (List.getElem_mem hlt)
        unfold tx at f0 f1
        generalize F[k].nm = x at *
        generalize F[k].vl = y at *
        generalize F[k].nv = z at *
        have hx := tx_size x
        have hy := tx_size y
        clear hmb
        by_cases hle : x.length + y.length ≤ 100
        · have hg : decide ((100 : Int) < (x.length : Int) + (y.length : Int)) = false := by simp; omega
          have hg2 : decide (100 < x.length + y.length) = false := by simp; omega
          have hs1 := hW.out.size
          have hb1 := (Below.refl wr.heap.size wr).alloc (Nat.le_refl _) (.cells #[.string ⟨x.toArray⟩, .string ⟨y.toArray⟩, .bool false] 52)
          have hb2 := (Below.refl (wr.heap.size + 1) (wr.alloc (.cells #[.string ⟨x.toArray⟩, .string ⟨y.toArray⟩, .bool false] 52))).alloc (by simp) (.cells #[.string ⟨x.toArray⟩, .string ⟨y.toArray⟩, .bool false] 52)
          have hbb := hb1.trans (hb2.mono (by omega))
          have HO2 := Lib.hid (OwS.below hO.out.2 hbb)
          have HW2 := Lib.hid (hW.out.trans (hbb.mono hs1))
          have HM2 := Lib.hid (hmore.out hle)
          have HN2 := Lib.hid (World.news_of_block (heap_alloc_last (wr.alloc (.cells #[.string ⟨x.toArray⟩, .string ⟨y.toArray⟩, .bool false] 52)) (.cells #[.string ⟨x.toArray⟩, .string ⟨y.toArray⟩, .bool false] 52)))
          have hnk : n ≤ 20 := by have := hO.out.1; omega
          have HNK := Lib.hid hO.out.1
          clear hO hF hW hb1 hb2 hbb hmore
          go_wp2_with (at_builtin; go_loud (refine wpList_appS rfl (.tmp 34) (.tmp 36) 31 rfl w.heap.size 52 i0 _ 3 40 Try.underlying31 hi0 hz0 hz1 hz2 rfl (.slice Ao n co) n (enl fdc ((F.take k).map bare)) rfl HO2.out ⟨wr.heap.size + 1, 0, none⟩ 1 1 [.string ⟨x.toArray⟩, .string ⟨y.toArray⟩, .bool false] rfl rfl (by simpa using HN2.out) (by intro u hu; simp only [List.mem_cons, List.not_mem_nil, or_false] at hu; rcases hu with rfl | rfl | rfl <;> rfl) (by omega) (by simp only [maxLen]; omega) (by omega) (by simp; omega) ?_; intro A6 c6 w6 hO6 hg6 hb6))
          have HW6 : Hid (Below w.heap.size w w6) := HW2.out.trans ((Fs.of_grown hg6).below (fun j hj _ => (HO2.out.lt j hj).1) HW2.out.size)
          have HO6 : Hid (n + 1 = k + 1 ∧ OwS w6 w.heap.size 52 3 (.slice A6 (n + 1) c6) (n + 1) (enl fdc ((F.take (k + 1)).map bare))) := by
            refine ⟨by rw [HNK.out], ?_⟩
            rw [HMB.out, enl_append, enl_one]
            exact hO6
          clear hg6 hb6 hO6 HO2 HW2 HN2 HMB
          go_roundw
          case rel => exact ⟨k + 1, A6, c6, n + 1, by omega, by go_num, rfl, HO6, HM2, HW6⟩
          case measure => simp [intOf]; omega
        · have hg : decide ((100 : Int) < (x.length : Int) + (y.length : Int)) = true := by simp; omega
          have hg2 : decide (100 < x.length + y.length) = true := by simp; omega
          have hb1 := Lib.hid (hW.out.alloc hW.out.size (.cells #[.string ⟨x.toArray⟩, .string ⟨y.toArray⟩, .bool z] 52))
          clear hmore hF hW
          go_wp2_with fail
          refine (fixed_any _).mono ?_
          rintro e w2 ⟨rfl, hb2⟩
          have HB2 := Lib.hid (hb1.out.trans (hb2.mono hb1.out.size))
          clear hb2 hb1
          go_wp2_with fail
          go_ret
          exact ⟨rfl, HB2.out⟩
      · obtain rfl : k = F.length := by omega
        have h100 : Hid (∀ f ∈ F, f.nm.length + f.vl.length ≤ 100) := by have := hF.out; rwa [List.take_length] at this
        clear hF
        go_wp2_with fail
        obtain ⟨O, hOe⟩ : ∃ O, O = F.map bare := ⟨_, rfl⟩
        have hOw : OwS wr w.heap.size 52 3 (.slice Ao n co) n (enl fdc O) := by
          have := hO.out.2
          rw [List.take_length, ← hOe] at this
          exact this
        obtain rfl : n = O.length := by rw [hO.out.1, hOe, List.length_map]
        have HOf : Hid (∀ f ∈ O, f.nv = false ∧ f.nm.length + f.vl.length ≤ 100) := by
          intro f hf
          rw [hOe] at hf
          obtain ⟨g, hg, rfl⟩ := List.mem_map.1 hf
          exact ⟨rfl, h100.out g hg⟩
        have hOl : O.length ≤ 20 := by rw [hOe, List.length_map]; omega
        have htot : tot O ≤ 2640 := by have := tot_few fun f hf => (HOf.out f hf).2; omega
        obtain ⟨_, r2, r3⟩ := tabA_room (M := 4096) (F := O) (L := []) (fun f hf => (HOf.out f hf).1) (by rw [tot_nil0]; omega)
        have hF9 : ∀ f ∈ O, f.nm.length ≤ 9000 ∧ f.vl.length ≤ 9000 := fun f hf => by have := (HOf.out f hf).2; omega
        have hL1 : tot (tabA 4096 [] O) ≤ 4096 := tabA_le (by rw [tot_nil0]; omega)
        have hL1b := tabA_bare (M := 4096) (F := O) (L := []) (by simp)
        simp only [List.length_nil, Nat.zero_add] at r3
        have hag := putA_again (M := 4096) (L := tabA 4096 [] O) (by omega) (F := O) fun f hf => ⟨(HOf.out f hf).1, r2 f hf⟩
        have hbk1 := blk_put (cap := 4096) (M := 4096) (by omega) O [] [] (by rw [tot_nil0]; omega) (by simp) hF9
        have hbk2 := blk_put (cap := 4096) (M := 4096) (by omega) O (tabA 4096 [] O) [] hL1 hL1b hF9
        have hX1 : (putA 4096 [] O).length ≤ 12000 := by
          have h1 := putA_sum (M := 4096) (by omega) (F := O) (L := []) (by rw [tot_nil0]; omega) hF9
          have h2 := sumK_tot O
          omega
        have HOw := Lib.hid hOw
        have HF9 := Lib.hid hF9
        rw [hag.2] at hbk2
        unfold blk at hbk1 hbk2
        have hob : ∀ k, ob (.slice Ao O.length co) k → k < wr.heap.size := fun k hk => (hOw.lt k hk).2
        have HOB := Lib.hid hob
        have HAG := Lib.hid hag
        have HB1 := Lib.hid hbk1
        have HB2 := Lib.hid hbk2
        have hws := hW.out.size
        clear hO hOw hOe h100 HOf r2 r3 hL1b hag hF9 hbk1 hbk2 hob
        have hnE := newE_any 4096 (by omega) wr w.heap.size hws
        rw [show min 4096 4096 = 4096 from rfl] at hnE
        refine hnE.mono ?_
        rintro e w1 ⟨ge, g1, rfl, hE, he1, he2, hb1⟩
        have hnD := newD_any 4096 (by omega) w1 w.heap.size (by have := hb1.size; omega)
        rw [show min 4096 4096 = 4096 from rfl] at hnD
        have HE1 := Lib.hid hE
        have HOw1 := Lib.hid (HOw.out.below hb1)
        have HW1 := Lib.hid (hW.out.trans (hb1.mono hws))
        have hs1 : wr.heap.size ≤ w1.heap.size := hb1.size
        clear hE hb1 hnE HOw hW
        unfold pt at *
        go_wp2_with fail
        refine hnD.mono ?_
        rintro e w2 ⟨gd, g2, rfl, hD, hd1, hd2, hb2⟩
        have HD2 := Lib.hid hD
        have HE2 := Lib.hid (HE1.out.below hb2)
        have HOw2 := Lib.hid (HOw1.out.below hb2)
        have HW2 := Lib.hid (HW1.out.trans (hb2.mono HW1.out.size))
        have hs2 : w1.heap.size ≤ w2.heap.size := hb2.size
        have hgeW : ge < w1.heap.size := HE1.out.lt
        have hg1W : g1 < w1.heap.size := HE1.out.t.lt
        have hgdW : gd < w2.heap.size := hD.lt
        have hg2W : g2 < w2.heap.size := hD.t.lt
        have hp1 := put_any (c := co) HE2.out (by omega) (by rw [tot_nil0]; omega) (by omega) HOw2.out.reads (fun k hk => ⟨by have := HOB.out k hk; omega, by have := HOB.out k hk; omega, by have := HOB.out k hk; omega, by simp [ob, Value.ownBlock]⟩) HF9.out (by omega)
        rw [limL_none, List.nil_append] at hp1
        have hTl : tot (tabA 4096 [] O) ≤ 4096 := hL1
        generalize putA 4096 [] O = X1 at *
        generalize tabA 4096 [] O = L1 at *
        clear hD hb2 hnD HE1 HOw1 HW1
        unfold pt at *
        go_wp2_with fail
        refine hp1.mono ?_
        rintro e w3 ⟨xv, v3, rfl, hP⟩
        obtain ⟨Ax, cx, rfl, hcx⟩ := hP.bo.shape
        have hDE : Dis (EB gd g2 (.slice none 0 0)) (EB ge g1 (.slice none 0 0)) := fun k h1 h2 => by
          simp only [EB, ob, Value.ownBlock, reduceCtorEq, or_false] at h1 h2
          omega
        have HE3 := Lib.hid hP.en
        have HD3 := Lib.hid (HD2.out.dis hP.fs hDE)
        have HW3 : Hid (Below w.heap.size w w3) := HW2.out.trans (hP.fs.below (fun k hk _ => (HE2.out.eb hk).1) HW2.out.size)
        have HOw3 := Lib.hid (hP.fs.owns HOw2.out fun k hk e => by
          have := HOB.out k hk
          simp only [ob, Value.ownBlock, reduceCtorEq, or_false] at e
          omega)
        have hs3 : w2.heap.size ≤ w3.heap.size := hP.fs.size
        have HX3 := Lib.hid hP.bo
        have HXa : Hid (∀ k, ob (.slice Ax X1.length cx) k → ¬ EB ge g1 v3 k) := fun k hk e => by
          have h1 := (hP.bo.lt hk).1
          rcases e with e | e | e
          · omega
          · omega
          · exact hP.ap k hk e
        have HV3 : Hid (∀ k, ob v3 k → w2.heap.size ≤ k) := fun k hk => by
          rcases hP.nx.own hk with h1 | h1
          · simp [ob, Value.ownBlock] at h1
          · exact h1
        have hp2 := put_any (c := co) HE3.out (by omega) hTl (by omega) HOw3.out.reads (fun k hk => ⟨by have := HOB.out k hk; omega, by have := HOB.out k hk; omega, by have := HOB.out k hk; omega, fun e => by have := HV3.out k e; have := HOB.out k hk; omega⟩) HF9.out (by omega)
        rw [limL_none, List.nil_append, HAG.out.2] at hp2
        have HX2 : Hid ((putA 4096 L1 O).length = O.length) := HAG.out.1
        have hX2 : (putA 4096 L1 O).length ≤ 20 := by have := HX2.out; omega
        generalize putA 4096 L1 O = X2 at *
        clear hP hp1 HE2 HD2 HW2 HOw2 HAG hDE
        unfold pt at *
        go_wp2_with fail
        refine hp2.mono ?_
        rintro e w4 ⟨yv, v4, rfl, hP⟩
        obtain ⟨Ay, cy, rfl, hcy⟩ := hP.bo.shape
        have HD4 := Lib.hid (HD3.out.dis hP.fs fun k h1 e => by
          simp only [EB, ob, Value.ownBlock, reduceCtorEq, or_false] at h1
          rcases e with e | e | e
          · omega
          · omega
          · have := HV3.out k e; omega)
        have HW4 : Hid (Below w.heap.size w w4) := HW3.out.trans (hP.fs.below (fun k hk _ => (HE3.out.eb hk).1) HW3.out.size)
        have HOw4 := Lib.hid (hP.fs.owns HOw3.out fun k hk e => by
          have := HOB.out k hk
          rcases e with e | e | e
          · omega
          · omega
          · have := HV3.out k e; omega)
        have HX4 := Lib.hid (hP.fs.owns HX3.out HXa.out)
        have HY4 := Lib.hid hP.bo
        have hs4 : w3.heap.size ≤ w4.heap.size := hP.fs.size
        have HEBd : Hid (∀ k, EB gd g2 (.slice none 0 0) k → w1.heap.size ≤ k ∧ k < w2.heap.size) := fun k hk => by
          simp only [EB, ob, Value.ownBlock, reduceCtorEq, or_false] at hk
          omega
        have hXB : Bo w4 w2.heap.size 5 (.slice Ax X1.length cx) X1 := HX4.out
        have hg1 := get6_any (c := cx) HD4.out (by omega) (by omega) (by rw [tot_nil0]; omega) HW4.out.size hXB.low hcx (fun k hk => ⟨hk.2, fun e => by have := (HEBd.out k e).2; omega⟩) hX1
        rw [HB1.out] at hg1
        clear hP hp2 HE3 HD3 HW3 HOw3 HX3 HXa HV3 hXB
        unfold pt at *
        go_wp2_with fail
        refine hg1.mono ?_
        intro e w5 he
        obtain ⟨hF5, v5, hD5, hN5, _, _, hres⟩ := he
        simp only [List.nil_append] at hres
        rcases hres with ⟨hgt, _⟩ | ⟨_, Aa, ca, rfl, hOa, hOb⟩
        · omega
        have hb6 := (Below.refl w5.heap.size w5).alloc (Nat.le_refl _) (.cells #[.int .u8 0, .int .u32 0] 41)
        have HD6 := Lib.hid (hD5.below hb6)
        have HW6 : Hid (Below w.heap.size w (w5.alloc (.cells #[.int .u8 0, .int .u32 0] 41))) := (HW4.out.trans (hF5.below (fun k hk _ => (HD4.out.eb hk).1) HW4.out.size)).alloc (by have := hF5.size; have := HW4.out.size; omega) _
        have HT6 := Lib.hid (Row.new w5 41 #[.int .u8 0, .int .u32 0])
        have HOw6 := Lib.hid (OwS.below (hF5.owns HOw4.out fun k hk e => by have := HOB.out k hk; have := (HEBd.out k e).1; omega) hb6)
        have HY6 : Hid (Bo (w5.alloc (.cells #[.int .u8 0, .int .u32 0] 41)) w3.heap.size 5 (.slice Ay X2.length cy) X2) := OwS.below (hF5.owns HY4.out fun k hk e => by have := (HY4.out.lt hk).1; have := (HEBd.out k e).2; omega) hb6
        have HA6 := Lib.hid (OwS.below hOa hb6)
        have HAb := Lib.hid hOb
        have hs5 : w4.heap.size ≤ w5.heap.size := hF5.size
        have hs6 : (w5.alloc (.cells #[.int .u8 0, .int .u32 0] 41)).heap.size = w5.heap.size + 1 := by simp
        have HS6 := Lib.hid hs6
        have HEBn : Hid (∀ k, EB gd g2 v5 k → (w1.heap.size ≤ k ∧ k < w2.heap.size) ∨ (w4.heap.size ≤ k ∧ k < w5.heap.size)) := fun k hk => by
          have h5 := (hD5.eb hk).2
          rcases EB.next hN5 hk with h6 | h6
          · exact .inl (HEBd.out k h6)
          · exact .inr ⟨h6, h5⟩
        have hg2 := get6_any (c := cy) HD6.out (by omega) (by omega) hTl HW6.out.size (OwS.reads HY6.out) hcy (fun k (hk : ob _ k) => ⟨(HY6.out.lt hk).2, fun e => by
          have h7 := HEBn.out k e
          have h8 := HY4.out.lt hk
          omega⟩) (by omega)
        rw [HB2.out] at hg2
        clear hF5 hD5 hN5 hb6 hOa hOb hg1 HD4 HW4 HOw4 HX4 hs6
        unfold pt at *
        go_wp2_with fail
        generalize w5.alloc (.cells #[.int .u8 0, .int .u32 0] 41) = w6 at *
        refine hg2.mono ?_
        intro e w7 he
        obtain ⟨hF7, v7, hD7, hN7, _, _, hres⟩ := he
        simp only [List.nil_append] at hres
        rcases hres with ⟨hgt, _⟩ | ⟨_, Ab, cb, rfl, hOb, _⟩
        · omega
        have hb8 := (Below.refl w7.heap.size w7).alloc (Nat.le_refl _) (.cells #[.int .u8 0, .int .u32 0] 41)
        have HW8 : Hid (Below w.heap.size w (w7.alloc (.cells #[.int .u8 0, .int .u32 0] 41))) := (HW6.out.trans (hF7.below (fun k hk _ => (HD6.out.eb hk).1) HW6.out.size)).alloc (by have := hF7.size; have := HW6.out.size; omega) _
        have HT8 := Lib.hid ((hF7.row (fun e => by have h7 := HEBn.out _ e; omega) HT6.out).below hb8 (by have := hF7.size; have := HT6.out.lt; omega))
        have HU8 := Lib.hid (Row.new w7 41 #[.int .u8 0, .int .u32 0])
        have HOw8 := Lib.hid ((OwS.up (OwS.below (hF7.owns HOw6.out fun k hk e => by have := HOB.out k hk; have h7 := HEBn.out k e; omega) hb8)).imp (S' := (· < (w7.alloc (.cells #[.int .u8 0, .int .u32 0] 41)).heap.size)) fun g hg _ => hg.2)
        have HA8 := Lib.hid ((OwS.up (OwS.below (hF7.owns HA6.out fun k hk e => (HAb.out k hk).2 e) hb8)).imp (S' := (· < (w7.alloc (.cells #[.int .u8 0, .int .u32 0] 41)).heap.size)) fun g hg _ => hg.2)
        have HC8 := Lib.hid ((OwS.up (OwS.below hOb hb8)).imp (S' := (· < (w7.alloc (.cells #[.int .u8 0, .int .u32 0] 41)).heap.size)) fun g hg _ => hg.2)
        have hlen : decide (X2.length ≤ 2 * O.length) = true := by have := HX2.out; simp; omega
        have hlen2 : (X2.length : Int) ≤ 2 * (O.length : Int) := by have := HX2.out; omega
        clear hF7 hD7 hN7 hb8 hOb hg2 HD6 HW6 HT6 HOw6 HA6 HAb HY6 HY4
        go_wp2_with fail
        generalize w7.alloc (.cells #[.int .u8 0, .int .u32 0] 41) = w8 at *
        refine (fixed_any _).mono ?_
        rintro e w9 ⟨rfl, hb9⟩
        have HW9 := Lib.hid (HW8.out.trans (hb9.mono HW8.out.size))
        have hT9 := HT8.out.below hb9 HT8.out.lt
        have hU9 := HU8.out.below hb9 HU8.out.lt
        have HOw9 := Lib.hid (HOw8.out.up hb9)
        have HA9 := Lib.hid (HA8.out.up hb9)
        have HC9 := Lib.hid (HC8.out.up hb9)
        have hsA := same6_any (c := ca) (d := co) HA9.out HOw9.out (by omega)
        have t0 := hT9.cell (j := 0) rfl
        have t1 := hT9.cell (j := 1) rfl
        have q0 := hU9.cell (j := 0) rfl
        have q1 := hU9.cell (j := 1) rfl
        clear hb9 hT9 hU9 HW8 HT8 HU8 HOw8 HA8 HC8 HX2 hX2
        go_wp2_with fail
        refine hsA.mono ?_
        rintro e w10 ⟨rfl, nd, hw10⟩
        have hbA : Below w9.heap.size w9 w10 := by rw [hw10]; exact below_dN (Below.refl _ _) nd
        have HWA := Lib.hid (HW9.out.trans (hbA.mono HW9.out.size))
        have hsC := same6_any (c := cb) (d := co) (HC9.out.up hbA) (HOw9.out.up hbA) (by omega)
        clear hw10 hbA hsA t0 t1 q0 q1
        go_wp2_with fail
        refine hsC.mono ?_
        rintro e w11 ⟨rfl, nd2, hw11⟩
        have HWB : Hid (Below w.heap.size w w11) := by show Below _ _ _; rw [hw11]; exact below_dN HWA.out nd2
        clear hw11 hsC
        go_wp2_with fail
        go_ret
        exact ⟨rfl, HWB.out⟩
end Go.Proofs.Ytfajffchnnalaaa

namespace Go.Proofs.Ytfajffchnnalaaa
open Go.ChangeShapes Go.WideShapes Go.ChangeAt Go.RowKit

set_option maxRecDepth 100000 in
theorem hpackTwice_lifted (os : Os) (started : os.Started) (H : Type) (enc : TypeId × Value → H) :
    ReturnsInHanded {} Try.checked os 7 .any (Rows.hpackTwiceSpec.pre6 enc Try.prog Try.f7 Rows.hpackTwiceRow.domain false) (Rows.hpackTwiceSpec.post enc Try.prog Try.f7 false true false false) := by
  refine returnsInHanded_of_change_sized (C := Try.checked) own started (by kernel_rfl) Try.func7
    (ChangeSpec.witness6 (enc := enc) (C := Try.checked) false ⟨#[], #[.slice none 0 0], []⟩ 8 (by kernel_rfl) (by kernel_rfl) (by kernel_rfl) (by kernel_rfl)) ?_
  intro W base args ds gs before hval0 hW hcnd hsz0 _
  have hsz : (DataW.weightsEach Try.prog (Try.f7.params.toList ++ Rows.hpackTwiceSpec.plain.varTypes Try.prog) (ds ++ gs)).all (· ≤ reachBytes) = true := hsz0
  clear hsz0
  have hval : ∀ (j : Nat) t v, Try.f7.params[j]? = some t → args[j]? = some v → Value.okWide Try.prog W .any base t v := hval0
  have hW' := hW
  obtain ⟨p, q, hA0, hV, rfl, hfz, hnd⟩ := hW
  have hA : DataW.TrodAll enc Try.prog W 0 (fun _ => true) true Try.f7.params.toList args.toList ds p := hA0
  rw [Try.params7] at hA hval hsz
  obtain ⟨v0, vs0, d0, ds0, p0, q0, hargs, rfl, rfl, h0, r0⟩ := trodAll_cons hA
  obtain ⟨rfl, rfl, rfl⟩ := trodAll_nil r0
  obtain rfl : args = #[v0] := by cases args; simp_all
  obtain ⟨A0, c0, l0, rfl, hc0, hm0, hr0, hw0⟩ := open_fieldsW (hval 0 31 v0 rfl rfl) h0 (Lt.of_each (j := 0) hsz rfl rfl)
  refine law_post laidOut rfl (by rw [Try.params7]; intro t ht; change t ∈ [31] at ht; simp only [List.mem_cons, List.not_mem_nil, or_false] at ht; rcases ht with rfl <;> exact ⟨by kernel_rfl, of_decide_eq_true (by kernel_rfl)⟩) (rb := 4) (by kernel_rfl) Try.underlying4 hW' rfl (twice_law hr0 hw0)

theorem hpackTwice_holds : Rows.HpackTwiceSaid :=
  OpenClaim.holds_of_wide 7 Try.f7 rfl rfl rfl rfl rfl rfl rfl ⟨rfl, rfl, rfl, rfl, rfl⟩ rfl rfl rfl rfl rfl (by kernel_rfl) Try.func7 (by kernel_rfl)
    (of_decide_eq_true (by kernel_rfl)) (by unfold Func.isWrapper; first | (rw [if_pos (by decide +kernel)]; kernel_rfl) | (rw [if_neg (by decide +kernel)]; exact ⟨rfl, rfl⟩))
    (fun os started H enc _ => hpackTwice_lifted os started H enc)
end Go.Proofs.Ytfajffchnnalaaa
