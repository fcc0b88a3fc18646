/-
  The document's Shift, by contract. Conditions: the ring is read; the windows are within their bounds; the turn is one of its places.
-/
import Derived.Test.YtplohgaecoobaaaUgr
import Derived.Test.YtplohgaecoobaaaLast
namespace Go.Proofs.Ytplohgaecoobaaa
open Go.RowKit Go.WideShapes

/-- The windows shifted, from place k of the ring on, m of them: the streams, and a fault's number. -/
def shR (d : Int) (D n : Nat) : Nat → Nat → List Sn → List Sn × Int
  | 0, _, L => (L, 0)
  | m + 1, k, L => match L[(D + k) % n]? with
    | none => (L, 0)
    | some x => if 2147483647 < x.lf + d then (L, 1) else shR d D n m (k + 1) (L.set ((D + k) % n) { x with lf := gwN x.lf d })
theorem shR_stop {d : Int} {D n m k : Nat} {L : List Sn} {x : Sn} (hx : L[(D + k) % n]? = some x) (h : 2147483647 < x.lf + d) : shR d D n (m + 1) k L = (L, 1) := by
  unfold shR
  rw [hx]
  simp only [h, if_true]
theorem shR_more {d : Int} {D n m k : Nat} {L : List Sn} {x : Sn} (hx : L[(D + k) % n]? = some x) (h : ¬ 2147483647 < x.lf + d) : shR d D n (m + 1) k L = shR d D n m (k + 1) (L.set ((D + k) % n) { x with lf := gwN x.lf d }) := by
  rw [shR, hx]
  simp only [h, if_false]
/-- All windows within their bounds. -/
def LfOk (L : List Sn) : Prop := ∀ x ∈ L, -2147483648 ≤ x.lf ∧ x.lf ≤ 2147483647
theorem LfOk.set {L : List Sn} (h : LfOk L) (i : Nat) {y : Sn} (hy : -2147483648 ≤ y.lf ∧ y.lf ≤ 2147483647) : LfOk (L.set i y) := fun x hx => by
  rcases List.mem_or_eq_of_mem_set hx with h1 | rfl
  · exact h x h1
  · exact hy
/-- What the loop keeps. -/
structure ShI (w wr : World) (A : Option Addr) (c f : Nat) (l : Int) (L : List Sn) (Ak : Option Addr) (ck : Nat) (Lk : List Sn) : Prop where
  row : Row wr w.heap.size 31 (rrc Ak L.length ck f l)
  res : Row wr (w.heap.size + 1) 31 (rrc none 0 0 0 0)
  bel : Below w.heap.size w wr
  old : (Ak = A ∧ ck = c ∧ Lk = L) ∨ Rn wr (w.heap.size + 2) Ak ck Lk
  len : Lk.length = L.length
  lf : LfOk Lk
theorem ShI.below {w wr w' : World} {A : Option Addr} {c f : Nat} {l : Int} {L : List Sn} {Ak : Option Addr} {ck : Nat} {Lk : List Sn} (h : ShI w wr A c f l L Ak ck Lk) (hb : Below wr.heap.size wr w') : ShI w w' A c f l L Ak ck Lk :=
  ⟨h.row.below hb h.row.lt, h.res.below hb h.res.lt, h.bel.trans (hb.mono h.bel.size), h.old.imp id fun h1 => h1.below hb, h.len, h.lf⟩
theorem ShI.rg {w wr : World} {A : Option Addr} {c f : Nat} {l : Int} {L : List Sn} {Ak : Option Addr} {ck : Nat} {Lk : List Sn} (h : ShI w wr A c f l L Ak ck Lk) (h0 : Rg w A c L) : Rg wr Ak ck Lk := by
  rcases h.old with ⟨rfl, rfl, rfl⟩ | h1
  · exact h0.up h.bel
  · exact h1.rg
/-- What Shift leaves. -/
def ShPost (w : World) (A : Option Addr) (c f : Nat) (l : Int) (L : List Sn) (r : List Sn × Int) (e : Ending) (w' : World) : Prop :=
  ∃ A' c', e = .returned (.tuple #[.agg (rrc A' L.length c' f l), .int .i64 r.2]) ∧ ((A' = A ∧ c' = c ∧ r.1 = L) ∨ Rn w' w.heap.size A' c' r.1) ∧ r.1.length = L.length ∧ Below w.heap.size w w'
theorem ShI.post {w wr : World} {A : Option Addr} {c f : Nat} {l : Int} {L : List Sn} {Ak : Option Addr} {ck : Nat} {Lk : List Sn} (h : ShI w wr A c f l L Ak ck Lk) {r : List Sn × Int} {b : Int} (hr : r = (Lk, b)) (x : Array Value) :
    ShPost w A c f l L r (.returned (.tuple #[.agg (rrc Ak L.length ck f l), .int .i64 b])) (wr.setRow (w.heap.size + 1) x) := by
  subst hr
  refine ⟨Ak, ck, rfl, ?_, h.len, below_setRow h.bel _ _ (by omega)⟩
  rcases h.old with h1 | h1
  · exact .inl h1
  · exact .inr ((h1.setRow (by omega) _).mono (by omega))
attribute [local irreducible] snc rrc rwc fd fdI gwN gwS shR
set_option maxRecDepth 100000 in
set_option maxHeartbeats 4000000 in
theorem rshift_any {w : World} {A : Option Addr} {c f : Nat} {l : Int} {L : List Sn} (h : Rg w A c L) (a b D : Nat) (ha : a < 4294967296) (hb : b < 4294967296) (hD : f + D = L.length) (hlf : LfOk L) :
    Calls Try.prog 33 #[.agg (rrc A L.length c f l), .int .u32 a, .int .u32 b] w (ShPost w A c f l L (shR ((b : Int) - a) D L.length L.length 0 L)) := by
  obtain ⟨w0, hw0, t1, t2, t4, t5⟩ := two_ref w (rrc A L.length c f l) #[.slice none 0 0, .int .i64 0, .int .i64 0, .bool false] 31 31
  have HW := Lib.hid hw0
  rw [rr_zero] at t2
  have HI : Hid (ShI w w0 A c f l L A c L) := ⟨t1, t2, t4, .inl ⟨rfl, rfl, rfl⟩, rfl, hlf⟩
  have HRW := Lib.hid h
  have hbd := h.bd
  have c0 := (rr_cells t1).1
  have HD := Lib.hid hD
  have hwa : IntKind.i64.wrap (a : Int) = (a : Int) := IntWalk.i64_in _ (by omega)
  have hwb : IntKind.i64.wrap (b : Int) = (b : Int) := IntWalk.i64_in _ (by omega)
  have hwd : IntKind.i64.wrap ((b : Int) - (a : Int)) = (b : Int) - (a : Int) := IntWalk.i64_in _ (by omega)
  obtain ⟨d, hd⟩ : ∃ d : Int, d = (b : Int) - (a : Int) := ⟨_, rfl⟩
  have HDB : Hid (-4294967296 ≤ d ∧ d ≤ 4294967296) := by show _ ∧ _; omega
  rw [← hd] at hwd ⊢
  have hwd' : IntKind.i64.wrap ((b : Int) - (a : Int)) = d := by rw [← hd]; exact hwd
  clear hw0 t1 t2 t4 t5 h ha hb hD hlf hd hwd
  go_enter Try.func33, Try.ntmps33
  go_upto_region 1 with fail
  rw [HW.out]
  clear HW
  go_wp2_with fail
  clear c0
  go_loopw [16] (fun i wr => ∃ (k : Nat) (Ak : Option Addr) (ck : Nat) (Lk : List Sn), k ≤ L.length ∧ i = .int .i64 k ∧ Hid (ShI w wr A c f l L Ak ck Lk) ∧ Hid (shR d D L.length L.length 0 L = shR d D L.length (L.length - k) k Lk)) (fun i _ => L.length - (intOf i).toNat)
  case atStart => exact ⟨0, A, c, L, Nat.zero_le _, rfl, HI, rfl⟩
  case round =>
    clear HI
    obtain ⟨k, Ak, ck, Lk, hk, rfl, HI, HE⟩ := hrel
    by_cases hlt : k < L.length
    · have hcn := fun W => rlast_any W Ak L.length ck f l hbd (by have := HD.out; omega)
      have hd1 : (L.length : Int) - (f : Int) = (D : Int) := by have := HD.out; omega
      rw [hd1] at hcn
      obtain ⟨I, hI⟩ : ∃ I, I = (D + k) % L.length := ⟨_, rfl⟩
      have hIl : I < L.length := by rw [hI]; exact Nat.mod_lt _ (by omega)
      have hmod : Int.tmod ((D : Int) + (k : Int)) (L.length : Int) = (I : Int) := by rw [hI, ← Int.natCast_add]; rfl
      have hwk : IntKind.i64.wrap ((D : Int) + (k : Int)) = (D : Int) + (k : Int) := IntWalk.i64_in _ (by have := HD.out; omega)
      have hIk : I < Lk.length := by rw [HI.out.len]; exact hIl
      have hx : Lk[(D + k) % L.length]? = some Lk[I] := by rw [← hI]; exact List.getElem?_eq_getElem hIk
      have HX := Lib.hid hx
      have hxl := HI.out.lf Lk[I] (List.getElem_mem hIk)
      have HII := Lib.hid hI
      have hLne : ¬ L = [] := fun e => by rw [e] at hlt; simp at hlt
      clear hd1 hI hx
      go_upto_region 4 with fail
      have c0 : wr.drew.cell? ⟨w.heap.size, 0, none⟩ = some (.slice Ak L.length ck) := (rr_cells HI.out.row).1
      refine wp_region_E 8 (fun w' => w'.cell? ⟨w.heap.size, 0, none⟩ = some (.slice Ak L.length ck) ∧ Row w' w.heap.size 31 (rrc Ak L.length ck f l)) (by kernel_rfl) ⟨c0, HI.out.row⟩ (fun hHeld => ?_)
      refine wpAnyE_take (i := 0) (v := _) rfl (by kernel_rfl) (by kernel_rfl) (by kernel_rfl) (by kernel_rfl) (fun _ _ _ h => h) (yields_ld (by rfl) _ rfl rfl (rr_ok _ _ _ _ _) (fun _ hSw => hSw.2)) (by assumption) ?rest0w1
      try simp only [Act.put, List.getElem_toArray, List.getElem_cons_zero, List.setIfInBounds_toArray, List.set_cons_zero, List.set_cons_succ]
      refine wpAnyE_take (i := 2) (v := ?v2) rfl (by kernel_rfl) (by kernel_rfl) (by kernel_rfl) (by kernel_rfl) (fun _ _ _ h => h) (Or.inl ⟨by rfl, ?hy2⟩) (by assumption) ?rest2
      case hy2 => (intro w hSw; (try dsimp only at hSw); go_simp <;> with_reducible rfl)
      try simp only [Act.put, List.getElem_toArray, List.getElem_cons_zero, List.getElem_cons_succ, List.setIfInBounds_toArray, List.set_cons_zero, List.set_cons_succ]
      refine wpAnyE_take (i := 4) (v := ?v4) rfl (by kernel_rfl) (by kernel_rfl) (by kernel_rfl) (by kernel_rfl) (fun _ _ _ h => h) (Or.inl ⟨by rfl, ?hy4⟩) (by assumption) ?rest4
      case hy4 => (intro w hSw; (try dsimp only at hSw); go_simp <;> with_reducible rfl)
      try simp only [Act.put, List.getElem_toArray, List.getElem_cons_zero, List.getElem_cons_succ, List.setIfInBounds_toArray, List.set_cons_zero, List.set_cons_succ]
      refine wpAnyE_take (i := 5) (v := ?v5) rfl (by kernel_rfl) (by kernel_rfl) (by kernel_rfl) (by kernel_rfl) (fun _ _ _ h => h) (Or.inl ⟨by rfl, ?hy5⟩) (by assumption) ?rest5
      case hy5 => (intro w hSw; (try dsimp only at hSw); go_simp <;> with_reducible rfl)
      try simp only [Act.put, List.getElem_toArray, List.getElem_cons_zero, List.getElem_cons_succ, List.setIfInBounds_toArray, List.set_cons_zero, List.set_cons_succ]
      refine wpAnyE_take (i := 6) (v := ?v6) rfl (by kernel_rfl) (by kernel_rfl) (by kernel_rfl) (by kernel_rfl) (fun _ _ _ h => h) (Or.inl ⟨by rfl, ?hy6⟩) (by assumption) ?rest6
      case hy6 => (intro w hSw; (try dsimp only at hSw); go_simp <;> with_reducible rfl)
      try simp only [Act.put, List.getElem_toArray, List.getElem_cons_zero, List.getElem_cons_succ, List.setIfInBounds_toArray, List.set_cons_zero, List.set_cons_succ]
      refine wpAnyE_next (i := 1) (by kernel_rfl) rfl (fun K hK => ?_)
      go_simp
      go_at_call 46
      refine (hcn _).mono ?_
      rintro e w1 ⟨rfl, hb1⟩
      have HI1 := Lib.hid (HI.out.below (⟨hb1.os, hb1.tape, hb1.output, hb1.size, hb1.block⟩ : Below wr.heap.size wr w1))
      have c1 := (rr_cells HI1.out.row).1
      clear hb1 hcn c0
      go_simp
      refine hK.out _ _ ⟨c1, HI1.out.row⟩ (fun hHeld => ?_)
      clear hK K hHeld
      try simp only [Act.put, List.getElem_toArray, List.getElem_cons_zero, List.getElem_cons_succ, List.setIfInBounds_toArray, List.set_cons_zero, List.set_cons_succ]
      have hHeld : w1.cell? ⟨w.heap.size, 0, none⟩ = some (.slice Ak L.length ck) ∧ Row w1 w.heap.size 31 (rrc Ak L.length ck f l) := ⟨c1, HI1.out.row⟩
      refine wpAnyE_take (i := 3) (v := ?v3q2) rfl (by kernel_rfl) (by kernel_rfl) (by kernel_rfl) (by kernel_rfl) (fun _ _ _ h => h) (Or.inl ⟨by rfl, ?hy3q2⟩) (by assumption) ?rest3q2
      case hy3q2 => (intro w hSw; (try dsimp only at hSw); go_simp <;> with_reducible rfl)
      try simp only [Act.put, List.getElem_toArray, List.getElem_cons_zero, List.getElem_cons_succ, List.setIfInBounds_toArray, List.set_cons_zero, List.set_cons_succ]
      refine wpAnyE_take (i := 7) (v := ?v7q2) rfl (by kernel_rfl) (by kernel_rfl) (by kernel_rfl) (by kernel_rfl) (fun _ _ _ h => h) (Or.inl ⟨by rfl, ?hy7q2⟩) (by assumption) ?rest7q2
      case hy7q2 => (intro w hSw; (try dsimp only at hSw); go_simp <;> with_reducible rfl)
      try simp only [Act.put, List.getElem_toArray, List.getElem_cons_zero, List.getElem_cons_succ, List.setIfInBounds_toArray, List.set_cons_zero, List.set_cons_succ]
      refine wpAnyE_last (by kernel_rfl) rfl (by kernel_rfl) (fun K hK => ?_)
      go_simp
      refine hK.out _ _ ?_
      clear hK K hHeld
      try simp only [Act.put, List.getElem_toArray, List.getElem_cons_zero, List.getElem_cons_succ, List.setIfInBounds_toArray, List.set_cons_zero, List.set_cons_succ]
      obtain ⟨bb, q, rfl, hbb, hr⟩ := (HI1.out.rg HRW.out).at hIk
      have hin : w1.rangeAt bb (q + I * 6) (snc Lk[I]).toList := hr
      obtain ⟨x, hxx⟩ : ∃ x, x = Lk[I] := ⟨_, rfl⟩
      rw [← hxx] at hin hxl HX
      have HIK := Lib.hid hIk
      clear hr hxx HI hmod hwk hLne
      obtain ⟨w2, hw2, u1, u2, u3, u4⟩ := one_sn w1 x
      have HW2 := Lib.hid hw2
      have HXC := Lib.hid hin
      have U1 := Lib.hid u1
      have U2 := Lib.hid u2
      have HB2 := Lib.hid u3
      have hps2 := u3.size
      have hpp : w.heap.size + 1 < w1.heap.size := HI1.out.res.lt
      have HXB := Lib.hid hxl
      have hgw := fun W => rgw_any (b := true) hxl HDB.out true W
      clear hw2 hin u1 u2 u3 u4 hxl hbb
      go_upto_region 6 with (first | (refine wpList_ldm (cs := snc x) rfl _ rfl rfl HXC.out (sn_ok _) ?_) | (refine wpList_sw (cs := snc x) rfl _ _ rfl rfl rfl U1.out (by rw [sn_size]; rfl) (sn_ok _) ?_))
      rw [HW2.out]
      clear HW2 U1 HXC c1
      have HI1' : Hid (∀ w', Below w1.heap.size w1 w' → ShI w w' A c f l L (some ⟨bb, q, none⟩) ck Lk) := fun w' h => HI1.out.below h
      clear HI1
      generalize w1.heap.size = p at *
      have HXW := Lib.hid (sn_w U2.out)
      go_wp2_with (refine wpList_ldm (cs := rwc x.lf true) rfl _ rfl rfl HXW.out (rw_ok _ _) ?_)
      refine (hgw _).mono ?_
      rintro e w3 ⟨rfl, hb1⟩
      obtain ⟨w4, hw4, u1, v2, u3, u4⟩ := one_rw w3 (gwN x.lf d) true
      have hb4 := hb1.trans (u3.mono hb1.size)
      have U24 := Lib.hid (U2.out.below hb4 U2.out.lt)
      have HB4 := Lib.hid (HB2.out.trans (hb4.mono hps2))
      have HI4 := Lib.hid (HI1'.out _ HB4.out)
      have HW4 := Lib.hid hw4
      have V1 := Lib.hid u1
      have V2 := Lib.hid v2
      have TH := Lib.hid (sn_there U24.out (gwN x.lf d) true)
      clear hb1 hb4 U2 HB2 HXW hgw hw4 u1 v2 u3 u4
      go_upto_region 7 with (refine wpList_sw (cs := rwc (gwN x.lf d) true) rfl _ _ rfl rfl rfl V1.out (rw_sz _ _ _ _) (rw_ok _ _) ?_)
      rw [HW4.out]
      clear HW4 V1
      generalize w3.heap.size = p3 at *
      by_cases hg : 2147483647 < x.lf + d
      · have hs1 : gwS x.lf d true true = 1 := by unfold gwS; rw [if_pos hg]; rfl
        rw [hs1]
        have hr : shR d D L.length L.length 0 L = (Lk, 1) := by
          rw [HE.out, show L.length - k = (L.length - k - 1) + 1 by omega]
          exact shR_stop HX.out hg
        have T1 := Lib.hid HI4.out.row
        have T2 := Lib.hid HI4.out.res
        have HP := Lib.hid (HI4.out.post hr (rrc (some ⟨bb, q, none⟩) L.length ck f l))
        clear HE hr hwa hwb hwd' hg hs1 HI4 HX V2 U24 TH
        go_wp2_with (first | (refine wpList_ld rfl _ rfl rfl T1.out (rr_ok _ _ _ _ _) ?_) | (refine wpList_sw (cs := rrc (some ⟨bb, q, none⟩) L.length ck f l) rfl _ _ rfl rfl rfl T2.out (rr_sz _ _ _ _ _ _ _ _ _ _) (rr_ok _ _ _ _ _) ?_))
        exact bodyPost_ret (ret_agv (v := .int .i64 1) rfl _ rfl (T2.out.setRow _) (rr_ok _ _ _ _ _) rfl) rfl HP.out
      · have hs1 : gwS x.lf d true true = 0 := by unfold gwS; rw [if_neg hg]
        rw [hs1]
        have hr : Hid (shR d D L.length L.length 0 L = shR d D L.length (L.length - (k + 1)) (k + 1) (Lk.set I { x with lf := gwN x.lf d })) := by
          show _ = _
          rw [HE.out, show L.length - k = (L.length - (k + 1)) + 1 by omega, shR_more HX.out hg, ← HII.out]
        clear HE hwa hwb hwd' hg hs1 HX HII
        go_upto_region 10 with (first | (refine wpList_ld (cs := rwc (gwN x.lf d) true) rfl _ rfl rfl V2.out (rw_ok _ _) ?_) | (refine wpList_swm (cs := rwc (gwN x.lf d) true) rfl _ _ rfl rfl rfl TH.out (rw_ok _ _) ?_))
        have U25 := Lib.hid (sn_setW U24.out (gwN x.lf d))
        have HI5 := Lib.hid (HI1'.out _ (cells_below (g := p) HB4.out (Nat.le_refl _) (rwc (gwN x.lf d) true).toList 4))
        clear U24 V2 TH HI4 HB4 HI1'
        generalize w4.setCells p 4 (rwc (gwN x.lf d) true).toList = w5 at *
        have hyb : -2147483648 ≤ gwN x.lf d ∧ gwN x.lf d ≤ 2147483647 := gwN_in HXB.out
        obtain ⟨y, hy, hyl⟩ : ∃ y : Sn, y = { x with lf := gwN x.lf d } ∧ y.lf = gwN x.lf d := ⟨_, rfl, rfl⟩
        rw [← hy] at U25 hr
        rw [← hyl] at hyb
        have HYB := Lib.hid hyb
        have T1 := Lib.hid HI5.out.row
        have HR5 := Lib.hid (HI5.out.rg HRW.out)
        have hrw := fun W (h : Rg W (some ⟨bb, q, none⟩) ck Lk) => rwith_any (f := f) (l := l) h HIK.out y
        rw [HI5.out.len] at hrw
        clear hy hyl hyb
        go_wp2_with (first | (refine wpList_ld rfl _ rfl rfl T1.out (rr_ok _ _ _ _ _) ?_) | (refine wpList_ld rfl _ rfl rfl U25.out (sn_ok _) ?_))
        refine (hrw _ HR5.out).mono ?_
        rintro e w6 ⟨A6, c6, rfl, hR6, hb6⟩
        have hlen : (Lk.set I y).length = L.length := by rw [List.length_set, HI5.out.len]
        have HI6 : Hid (ShI w (w6.setRow w.heap.size (rrc A6 L.length c6 f l)) A c f l L A6 c6 (Lk.set I y)) :=
          ⟨(HI5.out.row.below hb6 HI5.out.row.lt).setRow _, (HI5.out.res.below hb6 HI5.out.res.lt).setRow' (by omega) _, below_setRow (HI5.out.bel.trans (hb6.mono HI5.out.bel.size)) _ _ (Nat.le_refl _), .inr ((hR6.mono HI5.out.res.lt).setRow (by omega) _), hlen, HI5.out.lf.set I HYB.out⟩
        have T16 := Lib.hid (HI5.out.row.below hb6 HI5.out.row.lt)
        clear hb6 hR6 HR5 T1 U25 hrw
        have hq : (Lk.set I y).length = L.length := hlen
        go_upto_region 11 with (refine wpList_sw (cs := rrc A6 L.length c6 f l) rfl _ _ rfl rfl rfl T16.out (rr_sz _ _ _ _ _ _ _ _ _ _) (rr_ok _ _ _ _ _) ?_)
        clear T16 HI5
        generalize w6.setRow w.heap.size (rrc A6 L.length c6 f l) = w7 at *
        go_wp2_with fail
        go_roundw
        case rel => exact ⟨k + 1, A6, c6, Lk.set I y, by omega, by go_num, HI6, hr⟩
        case measure => simp [intOf]; omega
    · obtain rfl : k = L.length := by omega
      have T1 := Lib.hid HI.out.row
      have T2 := Lib.hid HI.out.res
      have hr : shR d D L.length L.length 0 L = (Lk, 0) := by
        rw [HE.out, Nat.sub_self]
        unfold shR
        rfl
      have HP := Lib.hid (HI.out.post hr (rrc Ak L.length ck f l))
      clear HE hr hwa hwb hwd'
      go_wp2_with (first | (refine wpList_ld rfl _ rfl rfl T1.out (rr_ok _ _ _ _ _) ?_) | (refine wpList_sw (cs := rrc Ak L.length ck f l) rfl _ _ rfl rfl rfl T2.out (rr_sz _ _ _ _ _ _ _ _ _ _) (rr_ok _ _ _ _ _) ?_))
      exact bodyPost_ret (ret_agv (v := .int .i64 0) rfl _ rfl (T2.out.setRow _) (rr_ok _ _ _ _ _) rfl) rfl HP.out
end Go.Proofs.Ytplohgaecoobaaa
