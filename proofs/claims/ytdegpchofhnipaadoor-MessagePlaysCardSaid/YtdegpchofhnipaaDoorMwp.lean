/-
  MessagePlays: the law's walk. Conditions: the frames are read; errors.errorType holds what the program's text lays.
-/
import Derived.Test.YtdegpchofhnipaaDoorMru
import Derived.Test.YtdegpchofhnipaaDoorMgt
import Derived.Test.YtdegpchofhnipaaDoorMfx
namespace Go.Proofs.YtdegpchofhnipaaDoor
open Go.RowKit Go.WideShapes

theorem rtake_any (x : Gg) {fin mask : Bool} {op key c : Nat} {A : Option Addr} {d : List UInt8} {w : World} (hr : RdB w w.heap.size A d) (hx : x.b.length ≤ 4096) (hl : d.length ≤ 20000) : Calls Tryd.prog 13 #[.agg (g8 x), .agg (pcC fin op mask key A d.length c)] w (RTakP w (takeM x op fin d)) := by
  cases ho : x.over
  · by_cases h8 : op = 8
    · subst h8; rw [take_close ho]; exact rtake_close ho (by omega) hr
    by_cases h9 : op = 9
    · subst h9; rw [take_ping ho (.inl rfl)]; exact rtake_ping9 ho hr
    by_cases h10 : op = 10
    · subst h10; rw [take_ping ho (.inr rfl)]; exact rtake_ping10 ho hr
    rcases Nat.lt_or_ge 2 op with h2 | h2
    · rw [take_else ho ⟨h2, h8, h9, h10⟩]; exact rtake_else ho ⟨h2, h8, h9, h10⟩ hr
    obtain ⟨xb, bz, xt, ov⟩ := x
    obtain rfl : ov = false := ho
    have hx' : xb.length ≤ 4096 := hx
    rcases (show op = 0 ∨ op = 1 ∨ op = 2 by omega) with rfl | rfl | rfl
    · cases bz
      · rw [take_order (x := ⟨xb, false, xt, false⟩) rfl (by omega) rfl]; exact rtake_order0 hr
      · rw [take_more_eq (x := ⟨xb, true, xt, false⟩) rfl rfl]; exact rtake_go0 (by omega) hr
    · cases bz
      · have e : takeM ⟨xb, false, xt, false⟩ 1 fin d = moreM true ([] ++ d) fin := (take_first (g := ⟨xb, false, xt, false⟩) ⟨rfl, rfl⟩ true fin d)
        rw [e]; exact rtake_go1 (by omega) hr
      · rw [take_order (x := ⟨xb, true, xt, false⟩) rfl (by omega) rfl]; exact rtake_order1 hr
    · cases bz
      · have e : takeM ⟨xb, false, xt, false⟩ 2 fin d = moreM false ([] ++ d) fin := (take_first (g := ⟨xb, false, xt, false⟩) ⟨rfl, rfl⟩ false fin d)
        rw [e]; exact rtake_go2 (by omega) hr
      · rw [take_order (x := ⟨xb, true, xt, false⟩) rfl (by omega) rfl]; exact rtake_order2 hr
  · rw [take_over ho]; exact rtake_over ho hr
theorem clear_M {w : World} {base : Nat} {A : Option Addr} {c : Nat} {l : List UInt8} (h : Bo w base 5 (.slice A l.length c) l) :
    ∃ w', (∀ ty, (Builtin.clear_ #[30] ty #[.slice A l.length c]).run Tryd.prog w = .ok (.tuple #[]) w') ∧ Fs (ob (.slice A l.length c)) w w' := by
  obtain ⟨i0, hi0, hz0, hz1, hz2⟩ := infoI infoI8
  obtain ⟨_, w', _, h1, h2, _⟩ := run_shed (P := Tryd.prog) w base 30 5 i0 (.int .u8 0) 1 Tryd.underlying30 hi0 hz0 hz1 rfl (fun u hu => by simp [Value.cells] at hu; subst hu; rfl) h l.length (Nat.le_refl _)
  exact ⟨w', h1, Fs.of_grown h2⟩
/-- The document's gatherer's variable, made and written. -/
theorem gaugeM (W : World) (N : Array Value) : Row (W.alloc (.cells (g8 gg0) 28)) W.heap.size 28 (g8 gg0) ∧ Row ((W.alloc (.cells (g8 gg0) 28)).setRow W.heap.size N) W.heap.size 28 N ∧ Below W.heap.size W ((W.alloc (.cells (g8 gg0) 28)).setRow W.heap.size N) :=
  ⟨Row.new _ _ _, (Row.new _ _ _).setRow _, below_setRow ((Below.refl _ _).alloc (Nat.le_refl _) _) _ _ (Nat.le_refl _)⟩
/-- Two more, of what the document tells. -/
theorem twoM (W : World) (x N : Array Value) : Row ((W.alloc (.cells (g8 gg0) 28)).alloc (.cells (ntc 0 false none 0 0 0) 34)) W.heap.size 28 (g8 gg0) ∧ Row (((W.alloc (.cells (g8 gg0) 28)).alloc (.cells (ntc 0 false none 0 0 0) 34)).setRow W.heap.size x) (W.heap.size + 1) 34 (ntc 0 false none 0 0 0) ∧
    Row ((((W.alloc (.cells (g8 gg0) 28)).alloc (.cells (ntc 0 false none 0 0 0) 34)).setRow W.heap.size x).setRow (W.heap.size + 1) N) W.heap.size 28 x ∧ Row ((((W.alloc (.cells (g8 gg0) 28)).alloc (.cells (ntc 0 false none 0 0 0) 34)).setRow W.heap.size x).setRow (W.heap.size + 1) N) (W.heap.size + 1) 34 N ∧
    Below W.heap.size W ((((W.alloc (.cells (g8 gg0) 28)).alloc (.cells (ntc 0 false none 0 0 0) 34)).setRow W.heap.size x).setRow (W.heap.size + 1) N) := by
  have h1 : Row ((W.alloc (.cells (g8 gg0) 28)).alloc (.cells (ntc 0 false none 0 0 0) 34)) W.heap.size 28 (g8 gg0) := (Row.new W _ _).alloc _
  have h2 : Row ((W.alloc (.cells (g8 gg0) 28)).alloc (.cells (ntc 0 false none 0 0 0) 34)) (W.heap.size + 1) 34 (ntc 0 false none 0 0 0) := Row.made _ _ _ (by simp)
  have hb : Below W.heap.size W ((W.alloc (.cells (g8 gg0) 28)).alloc (.cells (ntc 0 false none 0 0 0) 34)) := ((Below.refl _ _).alloc (Nat.le_refl _) _).alloc (by simp) _
  have h3 := h2.setRow' (k := W.heap.size) (by omega) x
  exact ⟨h1, h3, (h1.setRow x).setRow' (by omega) N, h3.setRow N, below_setRow (below_setRow hb _ _ (Nat.le_refl _)) _ _ (Nat.le_succ _)⟩
theorem GX.setRow {w W : World} {g : Nat} {X : Nat → Prop} {x : Gg} (h : GX w g X x W) {k : Nat} {T : TypeId} {cs : Array Value} (hr : Row W k T cs) (h1 : T ≠ 56) (h2 : T ≠ 5) (h3 : T ≠ 93) (h0 : w.heap.size ≤ k) (cs' : Array Value) : GX w g X x (W.setRow k cs') :=
  ((h.odd hr h1 h2 h3).fs ((Fs.refl (fun j => j = k) W).setRow (fun _ => rfl) cs') (fun _ _ hj => .inr hj) (fun j hj => by have hj : j = k := hj; rw [hj]; exact h0)).sub fun _ _ hx => .inl hx
/-- Bytes don't lie where the document's gatherer does. -/
theorem RdB.gauge {w : World} {B p : Nat} {A : Option Addr} {l : List UInt8} {x : Gg} (h : RdB w B A l) (hr : Row w p 28 (g8 x)) (y : Array Value) : RdB (w.setRow p y) B A l := fun hl => by
  obtain ⟨b, o, e, hb, hc⟩ := h hl
  refine ⟨b, o, e, hb, fun j hj => ?_⟩
  have hne : b ≠ p := by
    rintro rfl
    have h1 := hc j hj
    have h2 : w.cell? ⟨b, o + j, none⟩ = (g8 x)[o + j]? := cell_of_row w b (o + j) (g8 x) 28 (0, 0) hr
    rw [h2] at h1
    unfold g8 at h1
    match hm : o + j, h1 with
    | 0, h1 => simp at h1
    | 1, h1 => simp at h1
    | 2, h1 => simp at h1
    | 3, h1 => simp at h1
    | n + 4, h1 => simp at h1
  exact (World.cell?_of_block (a := ⟨b, o + j, none⟩) (setRow_other w p b y hne)).trans (hc j hj)
/-- Behind the document's answer: both notes, both gatherers. -/
structure PS (w : World) (g p4 p8 p11 : Nat) (X : Nat → Prop) (x : Gg) (N : Nt) (A9 A12 : Option Addr) (c9 c12 : Nat) (W : World) : Prop where
  gx : GX w g X x W
  mr : Row W p4 28 (g8 x)
  n8 : Row W p8 34 (ntc N.kind N.text A9 N.dat.length c9 N.code)
  n11 : Row W p11 34 (ntc N.kind N.text A12 N.dat.length c12 N.code)
  bo : Bo W w.heap.size 5 (.slice A9 N.dat.length c9) N.dat
  d12 : RdB W W.heap.size A12 N.dat
theorem PS.below {w : World} {g p4 p8 p11 : Nat} {X : Nat → Prop} {x : Gg} {N : Nt} {A9 A12 : Option Addr} {c9 c12 : Nat} {W W' : World} (h : PS w g p4 p8 p11 X x N A9 A12 c9 c12 W) (hb : Below W.heap.size W W') : PS w g p4 p8 p11 X x N A9 A12 c9 c12 W' :=
  ⟨h.gx.below hb, h.mr.upM hb, h.n8.upM hb, h.n11.upM hb, Bo.below h.bo hb, (h.d12.below hb).more hb.size⟩
set_option maxRecDepth 100000 in
set_option maxHeartbeats 16000000 in
theorem mwplays_law {A : Option Addr} {L : List Pe} {c : Nat} {w : World} (hra : RdS w (· < w.heap.size) A (enl Pe.cs L)) (hE : ∀ e ∈ L, RdS w (· < w.heap.size) e.A (byc e.p.dat)) (hL : L.length ≤ 9223372036854775807) (hG : GlobE w) :
    Calls Tryd.prog 3 #[.slice A L.length c] w fun e w' => e = .returned (.bool true) ∧ Below w.heap.size w w' := by
  have hgr := great18_any (c := c) hra hL
  have HRA := Lib.hid hra
  have HE := Lib.hid hE
  have HG := Lib.hid hG
  clear hra hE hL hG
  go_enter Tryd.func3, Tryd.ntmps3
  go_wp2_with fail
  refine hgr.mono ?_
  rintro e w1 ⟨z, rfl, hb1, hz⟩
  have HB1 := Lib.hid hb1
  have HG1 := Lib.hid (HG.out.below hb1)
  have HZ := Lib.hid hz
  clear hgr hb1 hz
  cases z
  · have HC : Hid (L.length ≤ 100) := (HZ.out rfl).1
    have HD : Hid (∀ i (h : i < L.length), L[i].p.dat.length ≤ 20000) := (HZ.out rfl).2
    clear HZ
    go_wp2_with fail
    refine (mnew_any _ HG1.out).mono ?_
    rintro e w2 ⟨rfl, hmg, hb⟩
    have HX : Hid (GX w w1.heap.size (fun _ => False) gg0 w2) := (GX.start HB1.out hmg hb HG.out).sub fun _ _ h => h.elim
    clear hmg hb HB1 HG1
    generalize w1.heap.size = g at *
    obtain ⟨hm1, hm2, hm3⟩ := gaugeM w2 (g8 gg0)
    have HM1 := Lib.hid hm1
    have HM2 := Lib.hid hm2
    have HX2 := Lib.hid (HX.out.below hm3)
    have HP4L : Hid (w.heap.size ≤ w2.heap.size) := HX.out.bl.size
    clear hm1 hm2 hm3 HX
    go_upto_region 5 with (refine wpList_sw (cs := g8 gg0) rfl _ _ rfl rfl rfl HM1.out rfl (g8_ok _) ?_)
    rw [g8_eq]
    clear HM1
    generalize (w2.alloc (.cells (g8 gg0) 28)).setRow w2.heap.size (g8 gg0) = w3 at *
    generalize w2.heap.size = p4 at *
    go_upto_region 6 with fail
    go_loopw [20] (fun i wr => ∃ (j : Nat) (x : Gg), j ≤ L.length ∧ i = .int .i64 j ∧ Hid (GX w g (fun _ => False) x wr) ∧ Hid (Row wr p4 28 (g8 x))) (fun i _ => L.length - (intOf i).toNat)
    case atStart => exact ⟨0, gg0, Nat.zero_le _, rfl, HX2, HM2⟩
    case round =>
      clear HX2 HM2
      obtain ⟨j, x, hj, rfl, HX, HM⟩ := hrel
      by_cases hlt : j < L.length
      · have hjn : (j : Int) < (L.length : Int) := by omega
        obtain ⟨b, q, rfl, hb, hr⟩ := pe_at HRA.out hlt
        have hrr : wr.rangeAt b (q + j * 5) (pcA (L[j]'hlt).p (L[j]'hlt).A (L[j]'hlt).c).toList := fun i u hu => (HX.out.bl.cell (p := ⟨b, q + j * 5 + i, none⟩) hb).trans (hr i u hu)
        have hdl := HD.out j hlt
        have hrd : RdB w w.heap.size (L[j]'hlt).A (L[j]'hlt).p.dat := RdB.ofS (HE.out _ (List.getElem_mem hlt)) fun _ hk _ => hk
        obtain ⟨e, he⟩ : ∃ e, e = L[j]'hlt := ⟨_, rfl⟩
        rw [← he] at hrr hdl hrd
        have HDL := Lib.hid hdl
        have HRD := Lib.hid hrd
        have HJL := Lib.hid hlt
        have hw1 : IntKind.i64.wrap ((j : Int) + 1) = (j : Int) + 1 := IntWalk.i64_in _ (by have := HC.out; omega)
        have HXL := Lib.hid HX.out.len
        have HX0 := Lib.hid HX.out
        have HWR : Hid (w.heap.size ≤ wr.heap.size) := HX.out.bl.size
        obtain ⟨hp1, hp2, hp3⟩ := pieceM wr (pcA e.p e.A e.c)
        have HP1 := Lib.hid hp1
        have HP6 := Lib.hid hp2
        have HMa := Lib.hid (HM.out.upM hp3)
        have HBa : Hid (Below wr.heap.size wr _) := Lib.hid hp3
        clear hp1 hp2 hp3 he hb hr hdl hrd hlt HX HM
        go_upto_region 8 with (first
          | (refine wpList_ldm rfl _ rfl rfl hrr (pcA_ok _ _ _) ?_)
          | (refine wpList_sw (cs := pcA e.p e.A e.c) rfl _ _ rfl rfl rfl HP1.out rfl (pcA_ok _ _ _) ?_))
        rw [zp_eq]
        clear HP1 hrr
        generalize (wr.alloc (.cells zpJ 32)).setRow wr.heap.size (pcA e.p e.A e.c) = w4 at *
        obtain ⟨hp1, hp2, hp3⟩ := pieceM w4 (pcA e.p e.A e.c)
        have HP1 := Lib.hid hp1
        have HP7 := Lib.hid hp2
        have HP6b := Lib.hid (HP6.out.upM hp3)
        have HMb := Lib.hid (HMa.out.upM hp3)
        have HBb : Hid (Below wr.heap.size wr _) := Lib.hid (HBa.out.trans (hp3.mono HBa.out.size))
        have HP67 : Hid (wr.heap.size < w4.heap.size) := HP6.out.lt
        clear hp1 hp2 hp3 HMa HBa
        go_upto_region 9 with (first
          | (refine wpList_ld rfl _ rfl rfl HP6.out (pcA_ok _ _ _) ?_)
          | (refine wpList_sw (cs := pcA e.p e.A e.c) rfl _ _ rfl rfl rfl HP1.out rfl (pcA_ok _ _ _) ?_))
        rw [zp_eq]
        clear HP1 HP6
        generalize (w4.alloc (.cells zpJ 32)).setRow w4.heap.size (pcA e.p e.A e.c) = w5 at *
        generalize w4.heap.size = p7 at *
        obtain ⟨i0, hi0, hz0, hz1, hz2⟩ := infoI infoI8
        have hbe : Below w5.heap.size w5 (w5.alloc (.cells #[] 5)) := (Below.refl _ _).alloc (Nat.le_refl _) _
        have HO6 : Hid (Bo (w5.alloc (.cells #[] 5)) w5.heap.size 5 (.slice (some ⟨w5.heap.size, 0, none⟩) 0 0) []) := OwS.lit w5 5 1 0 #[] (by simp) (by simp [maxLen]) (Nat.le_refl _)
        have HB6 : Hid (Below wr.heap.size wr (w5.alloc (.cells #[] 5))) := HBb.out.trans (hbe.mono HBb.out.size)
        have HP6c := Lib.hid (HP6b.out.upM hbe)
        have HP7c := Lib.hid (HP7.out.upM hbe)
        have HMc := Lib.hid (HMb.out.upM hbe)
        have HRD6 := Lib.hid (HRD.out.below (HX0.out.bl.trans (HB6.out.mono HX0.out.bl.size)))
        have HS5 : Hid (wr.heap.size ≤ w5.heap.size ∧ p7 < w5.heap.size) := ⟨HBb.out.size, HP7.out.lt⟩
        have k4 : (w5.alloc (.cells #[] 5)).cell? ⟨wr.heap.size, 4, none⟩ = some (.slice e.A e.p.dat.length e.c) := (pc_cells HP6c.out).2.2.2.2
        have hsum : ([] : List UInt8).length + e.p.dat.length ≤ 1099511627776 := by have := HDL.out; simp; omega
        clear hbe HP6b HP7 HMb HBb
        go_upto_region 10 with (at_builtin; go_loud (refine wpList_appBo rfl (.tmp 25) (.tmp 27) 30 rfl w5.heap.size 5 i0 Tryd.underlying30 hi0 hz0 hz1 hz2 (.slice (some ⟨w5.heap.size, 0, none⟩) 0 0) [] rfl HO6.out w.heap.size e.A e.p.dat _ _ rfl rfl HRD6.out hsum (by simp) ?_; intro v7 w7 hO7 hF7 hN7; rw [List.nil_append] at hO7; have HO7 := Lib.hid hO7; have HP6d := Lib.hid (hF7.row (Bo.neJ HO6.out HP6c.out (by decide)) HP6c.out); have HP7d := Lib.hid (hF7.row (Bo.neJ HO6.out HP7c.out (by decide)) HP7c.out); have HMd := Lib.hid (hF7.row (Bo.neJ HO6.out HMc.out (by decide)) HMc.out); have HB7 : Hid (Below wr.heap.size wr w7) := HB6.out.trans (hF7.below (fun k hk _ => Nat.le_trans HS5.out.1 (OwS.lt HO6.out k hk).1) HB6.out.size); obtain ⟨A7, c7, rfl, hc7⟩ := hO7.shape; have HC7 := Lib.hid hc7; clear hO7 hF7 hN7 hc7; have ht := HP7d.out.thawed 4; have k7 : w7.cell? ⟨p7, 4, none⟩ = some (.slice e.A e.p.dat.length e.c) := (pc_cells HP7d.out).2.2.2.2))
        have HP7e : Hid (Row (w7.setCell ⟨p7, 4, none⟩ (.slice A7 e.p.dat.length c7)) p7 32 (pcC e.p.fin e.p.op e.p.mask e.p.key A7 e.p.dat.length c7)) := HP7d.out.stored 4 _
        have HP6e := Lib.hid (HP6d.out.stored' (a := ⟨p7, 4, none⟩) (by show wr.heap.size ≠ p7; have := HP67.out; omega) (.slice A7 e.p.dat.length c7))
        have HMe := Lib.hid (HMd.out.stored' (a := ⟨p7, 4, none⟩) (Row.neJ HMd.out HP7d.out (by decide)) (.slice A7 e.p.dat.length c7))
        have HOe : Hid (Bo (w7.setCell ⟨p7, 4, none⟩ (.slice A7 e.p.dat.length c7)) w5.heap.size 5 (.slice A7 e.p.dat.length c7) e.p.dat) := OwS.setCell HO7.out (a := ⟨p7, 4, none⟩) (Bo.neJ HO7.out HP7d.out (by decide)) _
        have HBe : Hid (Below wr.heap.size wr (w7.setCell ⟨p7, 4, none⟩ (.slice A7 e.p.dat.length c7))) := HB7.out.setCell (p := ⟨p7, 4, none⟩) (by show _ ≤ p7; have := HP67.out; omega) _
        clear ht k7 k4 hsum HP7d HP6d HMd HO7 HB7 HO6 HP6c HP7c HMc HRD6 HB6 hi0 hz0 hz1 hz2
        generalize w7.setCell ⟨p7, 4, none⟩ (.slice A7 e.p.dat.length c7) = w8 at *
        obtain ⟨r, hr⟩ : ∃ r, r = takeM x e.p.op e.p.fin e.p.dat := ⟨_, rfl⟩
        have htk := (HX0.out.made HBe.out).take (fin := e.p.fin) (mask := e.p.mask) (op := e.p.op) (key := e.p.key) (c := c7) (A := A7) (d := e.p.dat) ((Bo.newS HOe.out).imp fun k hk hl => ⟨hl, .inr (.inr ⟨Nat.le_trans HS5.out.1 hk.1, hk.2⟩)⟩) (fun k hk => hk.elim (fun h => h.elim) fun h => h.2) (by have := HDL.out; omega) HC7.out
        rw [← hr] at htk
        have HRT : Hid (∀ W, RdB W W.heap.size e.A e.p.dat → Calls Tryd.prog 13 #[.agg (g8 x), .agg (pcA e.p e.A e.c)] W (RTakP W r)) := fun W hW => by
          have h := rtake_any x (fin := e.p.fin) (mask := e.p.mask) (op := e.p.op) (key := e.p.key) (c := e.c) hW HXL.out HDL.out
          rw [← hr] at h
          exact h
        have HOX : Hid (∀ k, ob (.slice A7 e.p.dat.length c7) k → (False ∨ (wr.heap.size ≤ k ∧ k < w8.heap.size))) := fun k hk => .inr ⟨Nat.le_trans HS5.out.1 (OwS.lt HOe.out k hk).1, (OwS.lt HOe.out k hk).2⟩
        have HXD := Lib.hid (HRD.out)
        clear hr HX0 HBe HXL
        go_wp2_with (refine wpList_ld (cs := pcC e.p.fin e.p.op e.p.mask e.p.key A7 e.p.dat.length c7) rfl _ rfl rfl HP7e.out (pc_ok _ _ _ _ _ _ _) ?_)
        refine htk.mono ?_
        rintro e9 w9 ⟨A9, c9, rfl, hO9, hnx9, hX9, hk9, hodd9, hs9⟩
        obtain ⟨x', o'⟩ := r
        obtain ⟨N, hN⟩ : ∃ N, N = toldM o' := ⟨_, rfl⟩
        obtain ⟨okb, hok⟩ : ∃ okb, okb = o'.isSome := ⟨_, rfl⟩
        have HRT2 : Hid (∀ W, RdB W W.heap.size e.A e.p.dat → Calls Tryd.prog 13 #[.agg (g8 x), .agg (pcA e.p e.A e.c)] W fun ee w' => ∃ A c, ee = .returned (.tuple #[.agg (g8 x'), .agg (ntc N.kind N.text A N.dat.length c N.code), .bool okb]) ∧ RdB w' w'.heap.size A N.dat ∧ Below W.heap.size W w') := fun W hW => by
          rw [hN, hok]
          exact HRT.out W hW
        have hO9' : Bo w9 w.heap.size 5 (.slice A9 N.dat.length c9) N.dat := by rw [hN]; exact hO9
        have hnx9' : ∀ k, ob (.slice A9 N.dat.length c9) k → ¬ (False ∨ (wr.heap.size ≤ k ∧ k < w8.heap.size)) := by rw [hN]; exact hnx9
        have hX9' : GX w g (fun k => (False ∨ (wr.heap.size ≤ k ∧ k < w8.heap.size)) ∨ ob (.slice A9 N.dat.length c9) k) x' w9 := by rw [hN]; exact hX9
        have HNX := Lib.hid hnx9'
        obtain ⟨hn1, hn2, hn3⟩ := noteM w9 (ntc N.kind N.text A9 N.dat.length c9 N.code)
        have HN1 := Lib.hid hn1
        have HN8 : Hid (Row _ w9.heap.size 34 (ntc N.kind N.text A9 N.dat.length c9 N.code)) := Lib.hid hn2
        have HX9 := Lib.hid (hX9'.below hn3)
        have HM9 := Lib.hid ((hodd9 _ _ _ HMe.out (by decide) (by decide) (by decide)).upM hn3)
        have HP69 := Lib.hid ((hodd9 _ _ _ HP6e.out (by decide) (by decide) (by decide)).upM hn3)
        have HP79 := Lib.hid ((hodd9 _ _ _ HP7e.out (by decide) (by decide) (by decide)).upM hn3)
        have HOw9 : Hid (Bo _ w5.heap.size 5 (.slice A7 e.p.dat.length c7) e.p.dat) := Bo.below (OwS.keep HOe.out fun k hk => hk9 k (HOX.out k hk)) hn3
        have HBo9 : Hid (Bo _ w.heap.size 5 (.slice A9 N.dat.length c9) N.dat) := Bo.below hO9' hn3
        have HWL : Hid (w.heap.size ≤ w9.heap.size) := hX9'.bl.size
        rw [← hN, ← hok]
        clear htk hO9 hnx9 hX9 hk9 hodd9 hs9 hO9' hnx9' hX9' hn1 hn2 hn3 hN hok HRT HMe HP6e HP7e HOe
        go_upto_region 11 with (refine wpList_sw (cs := ntc N.kind N.text A9 N.dat.length c9 N.code) rfl _ _ rfl rfl rfl HN1.out rfl (nt_ok _ _ _ _ _ _) ?_)
        rw [nt0_eq]
        clear HN1
        generalize (w9.alloc (.cells (ntc 0 false none 0 0 0) 34)).setRow w9.heap.size (ntc N.kind N.text A9 N.dat.length c9 N.code) = w10 at *
        generalize w9.heap.size = p8 at *
        have k4 : w10.cell? ⟨p7, 4, none⟩ = some (.slice A7 e.p.dat.length c7) := (pc_cells HP79.out).2.2.2.2
        obtain ⟨w11, hclr, hf11⟩ := clear_M HOw9.out
        have HM11 := Lib.hid (hf11.row (Bo.neJ HOw9.out HM9.out (by decide)) HM9.out)
        have HP611 := Lib.hid (hf11.row (Bo.neJ HOw9.out HP69.out (by decide)) HP69.out)
        have HN811 := Lib.hid (hf11.row (Bo.neJ HOw9.out HN8.out (by decide)) HN8.out)
        have HX11 := Lib.hid (HX9.out.fs hf11 (fun k _ hk => .inl (HOX.out k hk)) (fun k hk => by have := (OwS.lt HOw9.out k hk).1; have := HS5.out.1; have := HP4L.out; have h5 := HX9.out.bl.size; have h6 := HOX.out k hk; have h7 := HWR.out; omega))
        have HBo11 : Hid (Bo w11 w.heap.size 5 (.slice A9 N.dat.length c9) N.dat) := hf11.owns HBo9.out fun k hk h1 => HNX.out k hk (HOX.out k h1)
        clear hf11 HM9 HP69 HP79 HN8 HX9 HBo9 HOw9
        go_upto_region 12 with fail
        clear k4 hclr
        go_wp2_with (first
          | (refine wpList_ld rfl _ rfl rfl HM11.out (g8_ok _) ?_)
          | (refine wpList_ld rfl _ rfl rfl HP611.out (pcA_ok _ _ _) ?_))
        refine (HRT2.out w11 ((HXD.out.below HX11.out.bl).more HX11.out.bl.size)).mono ?_
        rintro e12 w12 ⟨A12, c12, rfl, hd12, hb12⟩
        obtain ⟨hm1, hm2, hm3, hm4, hm5⟩ := twoM w12 (g8 x') (ntc N.kind N.text A12 N.dat.length c12 N.code)
        have HA1 := Lib.hid hm1
        have HA2 := Lib.hid hm2
        have HA3 := Lib.hid hm3
        have HA4 := Lib.hid hm4
        have HX12 := Lib.hid ((HX11.out.below hb12).below hm5)
        have HM12 := Lib.hid ((HM11.out.upM hb12).upM hm5)
        have HN12 := Lib.hid ((HN811.out.upM hb12).upM hm5)
        have HBo12 : Hid (Bo _ w.heap.size 5 (.slice A9 N.dat.length c9) N.dat) := Bo.below (Bo.below HBo11.out hb12) hm5
        have HD12 := Lib.hid ((hd12.below hm5).more hm5.size)
        clear hm1 hm2 hm3 hm4 hm5 hd12 hb12 HX11 HM11 HP611 HN811 HBo11 HRT2 HXD
        go_upto_region 13 with (first
          | (refine wpList_sw (cs := g8 x') rfl _ _ rfl rfl rfl HA1.out rfl (g8_ok _) ?_)
          | (refine wpList_sw (cs := ntc N.kind N.text A12 N.dat.length c12 N.code) rfl _ _ rfl rfl rfl HA2.out rfl (nt_ok _ _ _ _ _ _) ?_))
        rw [nt0_eq, g8_eq]
        clear HA1 HA2
        generalize ((((w12.alloc (.cells (g8 gg0) 28)).alloc (.cells (ntc 0 false none 0 0 0) 34)).setRow w12.heap.size (g8 x')).setRow (w12.heap.size + 1) (ntc N.kind N.text A12 N.dat.length c12 N.code)) = w13 at *
        generalize w12.heap.size = p10 at *
        go_upto_region 14 with (first
          | (refine wpList_ld rfl _ rfl rfl HA3.out (g8_ok _) ?_)
          | (refine wpList_sw (cs := g8 x') rfl _ _ rfl rfl rfl HM12.out rfl (g8_ok _) ?_))
        have hPS : PS w g p4 p8 (p10 + 1) (fun k => (False ∨ (wr.heap.size ≤ k ∧ k < w8.heap.size)) ∨ ob (.slice A9 N.dat.length c9) k) x' N A9 A12 c9 c12 (w13.setRow p4 (g8 x')) :=
          ⟨HX12.out.setRow HM12.out (by decide) (by decide) (by decide) HP4L.out _, HM12.out.setRow _, HN12.out.setRow' (by have := Row.neJ HN12.out HM12.out (by decide); omega) _, HA4.out.setRow' (by have := Row.neJ HA4.out HM12.out (by decide); omega) _,
            ((Fs.refl (fun j => j = p4) w13).setRow (fun _ => rfl) _).owns HBo12.out (fun k hk h => by have hk' : k = p4 := h; subst hk'; exact Bo.neJ HBo12.out HM12.out (by decide) hk), (HD12.out.gauge HM12.out _).more (by simp)⟩
        have HP14 := Lib.hid (hPS.below (Below.refl _ _).drew)
        clear hPS HX12 HM12 HN12 HA3 HA4 HBo12 HD12
        have hc0 := (g8_cells HP14.out.mr).1
        have hc3 := (g8_cells HP14.out.mr).2.2.2
        have hXL := HP14.out.gx.len
        have hbb : (okb != okb) = false := by cases okb <;> rfl
        have hbl : (((x'.b.length : Nat) : Int) != ((txb x'.b).size : Int)) = false := by rw [txb_size]; simp
        have hgt : decide ((4096 : Int) < (x'.b.length : Int)) = false := by simp; omega
        have hvv : (x'.over != x'.over) = false := by cases x'.over <;> rfl
        refine wp_region_held_drew (S := fun W => PS w g p4 p8 (p10 + 1) (fun k => (False ∨ (wr.heap.size ≤ k ∧ k < w8.heap.size)) ∨ ob (.slice A9 N.dat.length c9) k) x' N A9 A12 c9 c12 W ∧ W.cell? ⟨p4, 0, none⟩ = some (.string (txb x'.b)) ∧ W.cell? ⟨p4, 3, none⟩ = some (.bool x'.over)) (by kernel_rfl) ⟨HP14.out, hc0, hc3⟩ (fun hHeld => ?_)
        clear hc0 hc3
        refine tkH 0 ?_
        refine tkH 1 ?_
        refine tkH 2 ?_
        refine tkH 3 ?_
        refine tkY 4 rfl (yields_ld (by rfl) _ rfl rfl (nt_ok _ _ _ _ _ _) (fun _ h => h.1.n8)) ?_
        refine tkY 5 rfl (yields_ld (by rfl) _ rfl rfl (nt_ok _ _ _ _ _ _) (fun _ h => h.1.n11)) ?_
        refine wpAnyH_ready (rs := [6]) (by kernel_rfl) (by simp) ?_
        refine AllReadyH.cons rfl (fun K hK => ?_) AllReadyH.nil
        go_simp
        go_at_call 14
        refine (rsame18_any rfl (RdB.ofS (Bo.newS HP14.out.bo) fun _ hk hl => hl) HP14.out.d12).mono ?_
        rintro e15 w15 ⟨rfl, hb15⟩
        have HP15 := Lib.hid (HP14.out.below hb15)
        have hc0 := (g8_cells HP15.out.mr).1
        have hc3 := (g8_cells HP15.out.mr).2.2.2
        refine hK.out _ _ ⟨HP15.out, hc0, hc3⟩ (fun hHeld => ?_)
        clear hb15 hc0 hc3 HP14
        clear hK K
        try simp only [Act.put, List.getElem_toArray, List.getElem_cons_zero, List.getElem_cons_succ, List.setIfInBounds_toArray, List.set_cons_zero, List.set_cons_succ]
        refine tkH 7 ?_
        refine tkH 8 ?_
        refine tkH 9 ?_
        refine tkH 10 ?_
        refine tkH 12 ?_
        refine tkH 13 ?_
        refine tkH 14 ?_
        refine wpAnyH_ready (rs := [11]) (by kernel_rfl) (by simp) ?_
        refine AllReadyH.cons rfl (fun K hK => ?_) AllReadyH.nil
        go_simp
        go_at_call 15
        refine HP15.out.gx.held.mono ?_
        rintro e16 w16 ⟨rfl, rfl⟩
        refine hK.out _ _ hHeld (fun hHeld => ?_)
        clear hK K
        try simp only [Act.put, List.getElem_toArray, List.getElem_cons_zero, List.getElem_cons_succ, List.setIfInBounds_toArray, List.set_cons_zero, List.set_cons_succ]
        refine tkH (v := .bool false) 15 ?_ (hy := fun w hSw => by go_simp <;> simp [txb_size])
        refine tkH 16 ?_
        refine tkH 17 ?_
        refine tkH 18 ?_
        refine wpAnyH_ready (rs := [19]) (by kernel_rfl) (by simp) ?_
        refine AllReadyH.cons rfl (fun K hK => ?_) AllReadyH.nil
        go_simp
        go_at_call 15
        refine HP15.out.gx.held.mono ?_
        rintro e17 w17 ⟨rfl, rfl⟩
        refine hK.out _ _ hHeld (fun hHeld => ?_)
        clear hK K
        try simp only [Act.put, List.getElem_toArray, List.getElem_cons_zero, List.getElem_cons_succ, List.setIfInBounds_toArray, List.set_cons_zero, List.set_cons_succ]
        refine tkH (v := .bool false) 20 ?_ (hy := fun w hSw => by go_simp <;> simp <;> omega)
        refine tkH 21 ?_
        refine tkH 22 ?_
        refine tkH 23 ?_
        refine tkH 25 ?_
        refine tkH 26 ?_
        refine wpAnyH_ready (rs := [24]) (by kernel_rfl) (by simp) ?_
        refine AllReadyH.cons rfl (fun K hK => ?_) AllReadyH.nil
        go_simp
        go_at_call 16
        refine HP15.out.gx.over.mono ?_
        rintro e18 w18 ⟨rfl, rfl⟩
        refine hK.out _ _ hHeld (fun hHeld => ?_)
        clear hK K
        try simp only [Act.put, List.getElem_toArray, List.getElem_cons_zero, List.getElem_cons_succ, List.setIfInBounds_toArray, List.set_cons_zero, List.set_cons_succ]
        refine tkH (v := .bool false) 27 ?_ (hy := fun w hSw => by go_simp <;> simp)
        refine tkH 28 ?_
        refine dnH ?_
        clear hHeld hbl hgt hvv hbb hXL
        go_upto_region 16 with fail
        generalize w18 = w18 at *
        have k2 : w18.cell? ⟨p8, 2, none⟩ = some (.slice A9 N.dat.length c9) := (nt_cells HP15.out.n8).2.2.1
        obtain ⟨w19, hclr, hf19⟩ := clear_M HP15.out.bo
        have HX19 := Lib.hid ((HP15.out.gx.fs hf19 (fun k _ hk => .inr hk) (fun k hk => (OwS.lt HP15.out.bo k hk).1)).sub (X' := fun _ => False) fun _ _ h => False.elim h)
        have HM19 := Lib.hid (hf19.row (Bo.neJ HP15.out.bo HP15.out.mr (by decide)) HP15.out.mr)
        clear hf19 HP15
        go_upto_region 17 with fail
        clear k2 hclr
        go_wp2_with fail
        go_roundw
        case rel => exact ⟨j + 1, x', by have := HJL.out; omega, by go_num, HX19, HM19⟩
        case measure => have := HJL.out; simp [intOf]; omega
      · obtain rfl : j = L.length := by omega
        have hfx := fixed18_any wr HX.out.gl
        go_wp2_with fail
        refine hfx.mono ?_
        rintro e5 w5 ⟨rfl, hb⟩
        have HBL := Lib.hid (HX.out.below hb).bl
        clear hb hfx HX HM
        go_wp2_with fail
        go_ret
        exact ⟨rfl, HBL.out⟩
  · have hfx := fixed18_any w1 HG1.out
    clear HZ
    go_wp2_with fail
    refine hfx.mono ?_
    rintro e w2 ⟨rfl, hb⟩
    have HB2 := Lib.hid (HB1.out.trans (hb.mono HB1.out.size))
    clear hb hfx
    go_wp2_with fail
    go_ret
    exact ⟨rfl, HB2.out⟩
end Go.Proofs.YtdegpchofhnipaaDoor
