/-
  frame's getPadding, by its contract. Conditions: the frame lies in a block, not yet padded; the bytes are read in other blocks.
-/
import Derived.Test.YtooaajnkiokpnaaGreatDoorFlen
import Derived.Test.YtooaajnkiokpnaaGreatDoorFsets
namespace Go.Proofs.YtooaajnkiokpnaaGreatDoor
open Go.RowKit Go.WideShapes

theorem Fm.setPad (x : Fm) (p : Int) : x.c.setIfInBounds 4 (.int .i64 p) = ({ x with pad := p } : Fm).c := rfl
attribute [local irreducible] Fm.c

/-- What getPadding leaves. -/
def PadPost (w : World) (g B : Nat) (x : Fm) (s : List UInt8) (e : Ending) (w' : World) : Prop :=
  match padN x.ty x.fl s with
  | .error c => (∃ ge, e = .returned (.tuple #[.slice none 0 0, .iface 172 (.pointer (some ⟨ge, 0, none⟩))]) ∧ Row w' ge 174 #[.int .u8 1, .int .u32 (c : Int)]) ∧ Row w' g 66 x.c ∧ Fs (fun k => k = g) w w'
  | .ok (p, r) => (∃ A c, e = .returned (.tuple #[.slice A r.length c, .nilIface]) ∧ r.length ≤ c ∧ RdB w' B A r) ∧ Row w' g 66 ({ x with pad := p } : Fm).c ∧ Fs (fun k => k = g) w w'
theorem padN_no {ty fl : Nat} {s : List UInt8} (h : padB ty fl = false) : padN ty fl s = .ok (-1, s) := by unfold padN; rw [if_neg (by rw [h]; simp)]
theorem padN_nil {ty fl : Nat} (h : padB ty fl = true) : padN ty fl [] = .error 6 := by unfold padN; rw [if_pos h]
theorem padN_long {ty fl : Nat} {p : UInt8} {r : List UInt8} (h : padB ty fl = true) (hl : r.length < p.toNat) : padN ty fl (p :: r) = .error 1 := by unfold padN; rw [if_pos h]; simp only; rw [if_pos hl]
theorem padN_yes {ty fl : Nat} {p : UInt8} {r : List UInt8} (h : padB ty fl = true) (hl : ¬ r.length < p.toNat) : padN ty fl (p :: r) = .ok (p.toNat, r.take (r.length - p.toNat)) := by unfold padN; rw [if_pos h]; simp only; rw [if_neg hl]

set_option maxRecDepth 100000 in
set_option maxHeartbeats 2000000 in
theorem getPadding_any {g B : Nat} {x : Fm} {w : World} (hR : Row w g 66 x.c) (hf : x.fl < 256) (hp : x.pad = -1) {A : Option Addr} {c : Nat} {s : List UInt8} (hr : RdB w B A s) (hB : B ≤ w.heap.size) (hg : B ≤ g) (hc : s.length ≤ c) (hs : s.length ≤ 1000000) :
    Calls Tryz.prog 191 #[.pointer (some ⟨g, 0, none⟩), .slice A s.length c] w (PadPost w g B x s) := by
  obtain ⟨i1, hi1, _, hz11, _⟩ := info_parts u8_info
  have hisp := isPadded_any x hf
  have HR := Lib.hid hR
  have HRd := Lib.hid hr
  unfold PadPost
  cases hpb : padB x.ty x.fl with
  | false =>
    rw [padN_no hpb]
    rw [hpb] at hisp
    have hx : ({ x with pad := (-1 : Int) } : Fm) = x := by cases x; simp only at hp; subst hp; rfl
    simp only
    rw [hx]
    clear hx hpb hR hr hp
    go_enter Tryz.func191, Tryz.ntmps191
    go_wp2_with (refine wpList_fm rfl _ rfl rfl HR.out ?_)
    refine (hisp _).mono ?_
    rintro e w1 ⟨rfl, hb1⟩
    have HR1 := Lib.hid (HR.out.below hb1 HR.out.lt)
    have HRd1 := Lib.hid (HRd.out.below (hb1.mono hB))
    have HF1 : Hid (Fs (fun k => k = g) w w1) := Fs.of_below hb1
    clear hb1 hisp
    go_wp2
    go_ret2
    exact ⟨⟨A, c, rfl, hc, HRd1.out⟩, HR1.out, HF1.out⟩
  | true =>
    rw [hpb] at hisp
    cases s with
    | nil =>
      rw [padN_nil hpb]
      simp only
      clear hpb hR hr hp
      go_enter Tryz.func191, Tryz.ntmps191
      go_wp2_with (refine wpList_fm rfl _ rfl rfl HR.out ?_)
      refine (hisp _).mono ?_
      rintro e w1 ⟨rfl, hb1⟩
      have HR1 := Lib.hid (HR.out.below hb1 HR.out.lt)
      have HF1 : Hid (Fs (fun k => k = g) w w1) := Fs.of_below hb1
      clear hb1 hisp
      go_wp2_with fail
      refine (conn_any _ _).mono ?_
      rintro e w2 ⟨ge, rfl, hE, hb2⟩
      have HR2 := Lib.hid (HR1.out.below hb2 HR1.out.lt)
      have HF2 := Lib.hid (HF1.out.then_below hb2)
      have HE := Lib.hid hE
      clear hb2 hE
      go_wp2
      go_ret2
      exact ⟨⟨ge, rfl, HE.out⟩, HR2.out, HF2.out⟩
    | cons p r =>
      simp only [List.length_cons] at hs hc
      obtain ⟨gb, o, rfl, hgb, hcell⟩ := hr (by simp)
      have hp0 : w.cell? ⟨gb, o, none⟩ = some (.int .u8 (p.toNat : Int)) := by have := hcell 0 (by simp); simpa using this
      obtain ⟨A1, hcut, hRd1⟩ := cut_from (P := Tryz.prog) Tryz.underlying22 hi1 hz11 hr (c := c) (k := 1) (by simp only [List.length_cons]; omega) (by simp)
      simp only [List.length_cons, List.drop_succ_cons, List.drop_zero, Nat.add_sub_cancel] at hcut hRd1
      have hcut' : ∀ W, (Instr.slice 22 (.slice (some ⟨gb, o, none⟩) (r.length + 1) c) (some (.int .i64 1)) none none).run Tryz.prog W = .ok (.slice A1 r.length (c - 1)) W := fun W => hcut W
      have hp8 := p.toNat_lt
      have HP0 := Lib.hid hp0
      have HA1 := Lib.hid hRd1
      clear hcut hcell hr hp0 hRd1 HRd
      simp only [List.length_cons]
      by_cases hlong : r.length < p.toNat
      · rw [padN_long hpb hlong]
        simp only
        clear hpb hR hp
        generalize p.toNat = q at *
        have hlt : (r.length : Int) < (q : Int) := by omega
        have m0 : (0 : Int) < ((r.length + 1 : Nat) : Int) := by omega
        have hne : (((r.length + 1 : Nat) : Int) == 0) = false := ne_int (b := 0) (by omega)
        generalize r.length = n at *
        generalize hn1 : n + 1 = n1 at *
        clear hn1
        go_enter Tryz.func191, Tryz.ntmps191
        go_wp2_with (refine wpList_fm rfl _ rfl rfl HR.out ?_)
        refine (hisp _).mono ?_
        rintro e w1 ⟨rfl, hb1⟩
        have HR1 := Lib.hid (HR.out.below hb1 HR.out.lt)
        have HF1 : Hid (Fs (fun k => k = g) w w1) := Fs.of_below hb1
        have k0 := (hb1.cell (p := ⟨gb, o, none⟩) (by show gb < _; omega)).trans HP0.out
        clear hb1 hisp
        go_wp2_with fail
        go_quiet (fail)
        rename_i nq
        have HR2 : Hid (Row (w1.drewN nq) g 66 x.c) := HR1.out
        have HF2 : Hid (Fs (fun k => k = g) w (w1.drewN nq)) := HF1.out.drewN nq
        go_wp2_with fail
        refine (conn_any _ _).mono ?_
        rintro e w3 ⟨ge, rfl, hE, hb2⟩
        have HR3 := Lib.hid (HR2.out.below hb2 HR2.out.lt)
        have HF3 := Lib.hid (HF2.out.then_below hb2)
        have HE := Lib.hid hE
        clear hb2 hE k0
        go_wp2
        go_ret2
        exact ⟨⟨ge, rfl, HE.out⟩, HR3.out, HF3.out⟩
      · rw [padN_yes hpb hlong]
        simp only
        clear hpb hR hp
        have hlen : (r.take (r.length - p.toNat)).length = r.length - p.toNat := by rw [List.length_take]; omega
        obtain ⟨hcut2, hRd2⟩ := cut_upto (P := Tryz.prog) (w := w) (B := B) (c := c - 1) (k := r.length - p.toNat) Tryz.underlying22 hi1 hz11 HA1.out (by omega) (by omega)
        rw [hlen]
        have HA2 := Lib.hid hRd2
        generalize r.take (r.length - p.toNat) = t at *
        generalize p.toNat = q at *
        have hlt : decide ((r.length : Int) < (q : Int)) = false := by simp; omega
        have m0 : (0 : Int) < ((r.length + 1 : Nat) : Int) := by omega
        have hne : (((r.length + 1 : Nat) : Int) == 0) = false := ne_int (b := 0) (by omega)
        have hsub : (r.length : Int) - (q : Int) = ((r.length - q : Nat) : Int) := by omega
        generalize r.length = n at *
        generalize hn1 : n + 1 = n1 at *
        have hnl : n ≤ 1000000 := by omega
        obtain ⟨d, hd⟩ : ∃ d, d = n - q := ⟨_, rfl⟩
        rw [← hd] at hcut2 hsub hlen ⊢
        have hdc : d ≤ c - 1 := by omega
        clear hn1 hRd2 hd
        go_enter Tryz.func191, Tryz.ntmps191
        go_wp2_with (refine wpList_fm rfl _ rfl rfl HR.out ?_)
        refine (hisp _).mono ?_
        rintro e w1 ⟨rfl, hb1⟩
        have HR1 := Lib.hid (HR.out.below hb1 HR.out.lt)
        have HF1 : Hid (Fs (fun k => k = g) w w1) := Fs.of_below hb1
        have HA3 := Lib.hid (HA2.out.below (hb1.mono hB))
        have k0 := (hb1.cell (p := ⟨gb, o, none⟩) (by show gb < _; omega)).trans HP0.out
        clear hb1 hisp
        go_wp2_with fail
        go_quiet (fail)
        rename_i nq
        have HR2 : Hid (Row (w1.drewN nq) g 66 x.c) := HR1.out
        have HF2 : Hid (Fs (fun k => k = g) w (w1.drewN nq)) := HF1.out.drewN nq
        obtain ⟨_, _, _, _, d4, _⟩ := fm_cells HR2.out
        have z4 := HR2.out.thawed 4
        go_wp2
        go_ret2
        have hR3 := Row.stored HR2.out 4 (.int .i64 (q : Int))
        rw [Fm.setPad] at hR3
        have hF3 := HF2.out.setCell (g := g) (fun _ => rfl) 4 (.int .i64 (q : Int))
        refine ⟨⟨A1, c - 1, rfl, hdc, ?_⟩, hR3, hF3⟩
        exact RdB.keep (w := w1) HA3.out fun p hp => World.cell?_of_block (Below.heap_setCell _ _ _ _ (by show p.block ≠ g; omega))
end Go.Proofs.YtooaajnkiokpnaaGreatDoor
