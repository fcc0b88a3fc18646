/-
  The document's answers for frames: parts, by its contract; texts as bytes. Conditions: the payload has a length that its type may have.
-/
import Derived.Test.YtooaajnkiokpnaaGreatDoorRfx
import Derived.Test.YtooaajnkiokpnaaGreatDoorRpay
import Derived.Test.YtooaajnkiokpnaaGreatDoorLast
import Derived.Test.YtooaajnkiokpnaaGreatDoorFget
import Derived.Lib.ConvBytes
namespace Go.Proofs.YtooaajnkiokpnaaGreatDoor
open Go.RowKit Go.WideShapes

/-- A frame's value is that frame; its slices read so, in blocks from base on. -/
structure FmR (w : World) (base : Nat) (x : Fm) (F : Frm) : Prop where
  eq : x = F.fm x.dA x.dc x.sA x.sc
  dat : RdS w (fun b => base ≤ b) x.dA (byc F.dat)
  sets : RdS w (fun b => base ≤ b) x.sA (enl sgc F.sets)
section
variable {w w' : World} {base g : Nat} {x : Fm} {F : Frm}
theorem FmR.below (h : FmR w base x F) (hb : Below w.heap.size w w') : FmR w' base x F :=
  ⟨h.eq, ((h.dat.imp fun b h1 h2 => (⟨h1, h2⟩ : base ≤ b ∧ b < w.heap.size)).keep fun b hb2 => hb.block b hb2.2).imp fun _ h1 _ => h1.1, ((h.sets.imp fun b h1 h2 => (⟨h1, h2⟩ : base ≤ b ∧ b < w.heap.size)).keep fun b hb2 => hb.block b hb2.2).imp fun _ h1 _ => h1.1⟩
theorem FmR.setRow (h : FmR w base x F) (hg : g < base) (c : Array Value) : FmR (w.setRow g c) base x F :=
  ⟨h.eq, h.dat.keep fun b hb => setRow_other w g b c (by omega), h.sets.keep fun b hb => setRow_other w g b c (by omega)⟩
theorem FmR.mono {base' : Nat} (h : FmR w base x F) (hb : base' ≤ base) : FmR w base' x F := ⟨h.eq, h.dat.imp fun _ h1 _ => Nat.le_trans hb h1, h.sets.imp fun _ h1 _ => Nat.le_trans hb h1⟩
theorem FmR.hd (w : World) (base ty fl st : Nat) : FmR w base (fm0 ty fl st (-1)) (hdN ty fl st) := ⟨rfl, RdS.nil, RdS.nil⟩
theorem FmIs.toR (h : FmIs w base x F) : FmR w base x F := ⟨h.eq, (OwS.up h.dat).imp fun _ h1 _ => h1.1, (OwS.up h.sets).imp fun _ h1 _ => h1.1⟩

theorem Fm.st3 (h : Row w g 66 x.c) (A : Option Addr) (n c : Nat) : Row (w.setCell ⟨g, 3, none⟩ (.slice A n c)) g 66 ({x with dA := A, dn := n, dc := c} : Fm).c := by unfold Fm.c at *; exact h.stored 3 _
theorem Fm.st5 (h : Row w g 66 x.c) (n : Nat) : Row (w.setCell ⟨g, 5, none⟩ (.int .u32 n)) g 66 ({x with code := n} : Fm).c := by unfold Fm.c at *; exact h.stored 5 _
theorem Fm.st6 (h : Row w g 66 x.c) (n : Nat) : Row (w.setCell ⟨g, 6, none⟩ (.int .u32 n)) g 66 ({x with oth := n} : Fm).c := by unfold Fm.c at *; exact h.stored 6 _
theorem Fm.st7 (h : Row w g 66 x.c) (n : Nat) : Row (w.setCell ⟨g, 7, none⟩ (.int .u8 n)) g 66 ({x with wt := n} : Fm).c := by unfold Fm.c at *; exact h.stored 7 _
theorem Fm.st8 (h : Row w g 66 x.c) (b : Bool) : Row (w.setCell ⟨g, 8, none⟩ (.bool b)) g 66 ({x with al := b} : Fm).c := by unfold Fm.c at *; exact h.stored 8 _
theorem Fm.st9 (h : Row w g 66 x.c) (n : Nat) : Row (w.setCell ⟨g, 9, none⟩ (.int .u32 n)) g 66 ({x with win := n} : Fm).c := by unfold Fm.c at *; exact h.stored 9 _
theorem Fm.st10 (h : Row w g 66 x.c) (A : Option Addr) (n c : Nat) : Row (w.setCell ⟨g, 10, none⟩ (.slice A n c)) g 66 ({x with sA := A, sn := n, sc := c} : Fm).c := by unfold Fm.c at *; exact h.stored 10 _
theorem Fm.st4 (h : Row w g 66 x.c) (n : Int) : Row (w.setCell ⟨g, 4, none⟩ (.int .i64 n)) g 66 ({x with pad := n} : Fm).c := by unfold Fm.c at *; exact h.stored 4 _
theorem row_near (h : Row w g 66 x.c) {k : Nat} (hk : k ≠ g) (j : Nat) (v : Value) : Row (w.setCell ⟨k, j, none⟩ v) g 66 x.c := (Below.heap_setCell w ⟨k, j, none⟩ v g (Ne.symm hk)).trans h
theorem ret_fm {fn : Func} {p : Tmp} (h : fn.results = #[.cell p 66]) (tmps : Array Value) (w : World) (g : Nat) (x : Fm) (hp : tmps.getD p undef = .pointer (some ⟨g, 0, none⟩)) (hR : Row w g 66 x.c) :
    (results fn tmps).run Tryz.prog w = .ok (.agg x.c) w := by
  have hl := run_loadVar_row (P := Tryz.prog) w g 66 66 x.c (0, 0) _ hR Tryz.underlying66 rfl (Fm.size x)
  have hp' : tmps[p]?.getD undef = .pointer (some ⟨g, 0, none⟩) := by simpa using hp
  simp only [results, h]
  simp [hp', asAddr, hl]
end
/-- A text as bytes: a new block, read as it is. -/
theorem bytes_run (l : List UInt8) (w : World) : ∃ (c : Nat) (w' : World), (convert 9 22 (.string (tb l))).run Tryz.prog w = .ok (.slice (some ⟨w.heap.size, 0, none⟩) l.length c) w' ∧ l.length ≤ c ∧ Below w.heap.size w w' ∧ w'.heap.size = w.heap.size + 1 ∧ RdS w' (fun b => b = w.heap.size) (some ⟨w.heap.size, 0, none⟩) (byc l) := by
  have h := Lib.run_convert_string_bytes (P := Tryz.prog) w 9 22 5 (tb l) Tryz.underlying9 Tryz.underlying22 Tryz.underlying5
  rw [tb_size] at h
  refine ⟨_, _, h, grownCap_ge _ _ _ _, ⟨rfl, rfl, rfl, by rw [Lib.bytesWorld_size]; omega, fun k hk => Lib.bytesWorld_at_old w _ _ k hk⟩, Lib.bytesWorld_size _ _ _, fun _ => ⟨w.heap.size, 0, rfl, rfl, fun j u hu => ?_⟩⟩
  obtain ⟨hj, rfl⟩ := byc_get hu
  have := Lib.bytesWorld_cell w 5 (tb l) j (by rw [tb_size]; exact hj)
  rw [Nat.zero_add, this]
  simp [tb, List.getElem?_eq_getElem hj]
theorem RdS.toB {w : World} {B : Nat} {S : Nat → Prop} {A : Option Addr} {l : List UInt8} (h : RdS w S A (byc l)) (hS : ∀ b, S b → b < w.heap.size → b < B) : RdB w B A l := RdB.ofS h hS


/-- What the switch leaves: the frame but for its data, and the text that is left. -/
structure PtOk (W : World) (p : Nat) (F : Frm) (x : Fm) (r : List UInt8) : Prop where
  row : Row W p 66 x.c
  out : Row W (p + 1) 66 (fm0 0 0 0 0).c
  eq : x = ⟨F.ty, F.fl, F.st, none, 0, 0, F.pad, F.code, F.oth, F.wt, F.al, F.win, x.sA, F.sets.length, x.sc⟩
  dat : F.dat = r
  sets : OwS W (p + 2) 164 2 (.slice x.sA F.sets.length x.sc) F.sets.length (enl sgc F.sets)
theorem up4 (l : List UInt8) (h : 4 ≤ l.length) (W : World) : (Instr.slice 9 (.string (tb l)) none (some (.int .i64 4)) none).run Tryz.prog W = .ok (.string (tb (l.take 4))) W := tb_upto l 4 (by omega) (by omega) W
theorem from5 (l : List UInt8) (h : 5 ≤ l.length) (W : World) : (Instr.slice 9 (.string (tb l)) (some (.int .i64 5)) none none).run Tryz.prog W = .ok (.string (tb (l.drop 5))) W := tb_from l 5 (by omega) (by omega) W
theorem from4 (l : List UInt8) (h : 4 ≤ l.length) (W : World) : (Instr.slice 9 (.string (tb l)) (some (.int .i64 4)) none none).run Tryz.prog W = .ok (.string (tb (l.drop 4))) W := tb_from l 4 (by omega) (by omega) W
theorem from8 (l : List UInt8) (h : 8 ≤ l.length) (W : World) : (Instr.slice 9 (.string (tb l)) (some (.int .i64 8)) none none).run Tryz.prog W = .ok (.string (tb (l.drop 8))) W := tb_from l 8 (by omega) (by omega) W
theorem cut48 (l : List UInt8) (h : 8 ≤ l.length) (W : World) : (Instr.slice 9 (.string (tb l)) (some (.int .i64 4)) (some (.int .i64 8)) none).run Tryz.prog W = .ok (.string (tb ((l.drop 4).take 4))) W := tb_cut l 4 8 (by omega) (by omega) (by omega) W
theorem at4 (l : List UInt8) (h : 4 < l.length) (W : World) : (Instr.index 9 (.string (tb l)) (.int .i64 4)).run Tryz.prog W = .ok (.int .u8 (l[4].toNat : Int)) W := tb_at l 4 h W
theorem from_ (l : List UInt8) (k : Nat) (h : k ≤ l.length) (W : World) : (Instr.slice 9 (.string (tb l)) (some (.int .i64 (k : Int))) none none).run Tryz.prog W = .ok (.string (tb (l.drop k))) W := tb_from l (k : Int) (by omega) (by omega) W
theorem rd_end {w : World} {p b j : Nat} {l : List UInt8} (h : RdS w (fun k => k = b) (some ⟨b, 0, none⟩) (byc l)) (hb : p + 2 ≤ b) (v : Value) (cs : Array Value) : RdS ((w.setCell ⟨p, j, none⟩ v).setRow (p + 1) cs) (fun k => p ≤ k) (some ⟨b, 0, none⟩) (byc l) :=
  (h.keep fun k hk => (setRow_other _ _ _ _ (by omega)).trans (Below.heap_setCell w ⟨p, j, none⟩ v k (by show k ≠ p; omega))).imp fun _ h1 _ => by omega
attribute [local irreducible] Fm.c fxc enl
set_option maxRecDepth 100000 in
set_option maxHeartbeats 4000000 in
theorem rparts_any {ty fl st : Nat} {pad : Int} (hfl : fl < 256) {s : List UInt8} (hs : s.length ≤ 100000) (hL : LenP ty fl s.length) (w : World) :
    Calls Tryz.prog 95 #[.agg (fm0 ty fl st pad).c, .string (tb s)] w fun e w' => ∃ x : Fm, e = .returned (.agg x.c) ∧ FmR w' w.heap.size x (bodyN ty fl st pad s) ∧ Below w.heap.size w w' := by
  obtain ⟨i0, hi0, hz0, hz1, hz2⟩ := info_parts set_info
  have HX : Hid (Row ((w.alloc (.cells (fm0 ty fl st pad).c 66)).alloc (.cells #[.int .u8 0, .int .u8 0, .int .u32 0, .slice none 0 0, .int .i64 0, .int .u32 0, .int .u32 0, .int .u8 0, .bool false, .int .u32 0, .slice none 0 0] 66)) w.heap.size 66 (fm0 ty fl st pad).c) := (Row.new w _ _).alloc _
  have HZ : Hid (Row ((w.alloc (.cells (fm0 ty fl st pad).c 66)).alloc (.cells #[.int .u8 0, .int .u8 0, .int .u32 0, .slice none 0 0, .int .i64 0, .int .u32 0, .int .u32 0, .int .u8 0, .bool false, .int .u32 0, .slice none 0 0] 66)) (w.heap.size + 1) 66 (fm0 0 0 0 0).c) := by show Row _ _ _ _; rw [z_c]; exact Row.made _ _ _ (by simp)
  have HB : Hid (Below w.heap.size w ((w.alloc (.cells (fm0 ty fl st pad).c 66)).alloc (.cells #[.int .u8 0, .int .u8 0, .int .u32 0, .slice none 0 0, .int .i64 0, .int .u32 0, .int .u32 0, .int .u8 0, .bool false, .int .u32 0, .slice none 0 0] 66))) := ((Below.refl _ _).alloc (Nat.le_refl _) _).alloc (by simp) _
  have HS : Hid (w.heap.size + 2 ≤ ((w.alloc (.cells (fm0 ty fl st pad).c 66)).alloc (.cells #[.int .u8 0, .int .u8 0, .int .u32 0, .slice none 0 0, .int .i64 0, .int .u32 0, .int .u32 0, .int .u8 0, .bool false, .int .u32 0, .slice none 0 0] 66)).heap.size) := by show _ ≤ _; simp
  have hln : ∀ W, Calls Tryz.prog 96 #[.agg (fm0 ty fl st pad).c] W fun e w' => e = .returned (.bool (leanB ty fl)) ∧ Below W.heap.size W w' := fun W => rleans_any (fm0 ty fl st pad) hfl W
  have HLen := Lib.hid hL
  obtain ⟨F, hFe⟩ : ∃ F, F = bodyN ty fl st pad s := ⟨_, rfl⟩
  rw [← hFe]
  have HFe := Lib.hid hFe
  have hsz := tb_size s
  clear hL hFe
  go_enter Tryz.func95, Tryz.ntmps95
  go_wp2_with (refine wpList_fm rfl _ rfl rfl HX.out ?_)
  refine (hln _).mono ?_
  rintro e w1 ⟨rfl, hb⟩
  have HX1 : Hid (Row w1 w.heap.size 66 (⟨ty, fl, st, none, 0, 0, pad, 0, 0, 0, false, 0, none, 0, 0⟩ : Fm).c) := HX.out.below hb HX.out.lt
  have HZ1 := Lib.hid (HZ.out.below hb HZ.out.lt)
  have HB1 := Lib.hid (HB.out.trans (hb.mono HB.out.size))
  have HS1 : Hid (w.heap.size + 2 ≤ w1.heap.size) := Nat.le_trans HS.out hb.size
  clear hb hln HX HZ HB HS
  by_cases hl : leanB ty fl = true
  · rw [hl]
    have hle : ty = 2 ∨ ty = 1 ∧ fl / 32 % 2 = 1 := of_decide_eq_true hl
    have h5 : 5 ≤ s.length := by
      obtain ⟨q1, q2, _⟩ := HLen.out
      rcases hle with h | h
      · have := q2 h; omega
      · exact q1 h
    have hE : F = _ := HFe.out.trans (body_lean hl)
    have hup := up4 s (by omega)
    have hat := at4 s (by omega)
    have hfr := from5 s h5
    have hs5 : (4 : Int) < (s.length : Int) := by omega
    have hv : ∀ W, _ := fun W => rvalue_any (s.take 4) (by rw [List.length_take]; omega) W
    have hv4 := head4 s
    have hwb := s[4].toNat_lt
    rw [show s.getD 4 0 = s[4] by rw [List.getD_eq_getElem?_getD, List.getElem?_eq_getElem (by omega)]; rfl] at hE
    generalize hbv : s[4].toNat = bv at *
    generalize hvv : valL (s.take 4) = vv at *
    have hlo := fun W => rlow_any vv hv4 W
    have hbl : decide ((2147483648 : Int) ≤ (vv : Int)) = decide (2147483648 ≤ vv) := by simp only [decide_eq_decide]; omega
    generalize hov : vv % 2147483648 = ov at *
    obtain ⟨al, hal⟩ : ∃ al, al = decide (2147483648 ≤ vv) := ⟨_, rfl⟩
    rw [← hal] at hbl hE
    generalize hR5 : s.drop 5 = r at *
    have hrl : r.length ≤ 100000 := by rw [← hR5, List.length_drop]; omega
    have HE := Lib.hid hE
    have n3 : ((ty : Int) == 3) = false := ne_int (b := 3) (by omega)
    have n4 : ((ty : Int) == 4) = false := ne_int (b := 4) (by omega)
    have n5 : ((ty : Int) == 5) = false := ne_int (b := 5) (by omega)
    have n7 : ((ty : Int) == 7) = false := ne_int (b := 7) (by omega)
    have n8 : ((ty : Int) == 8) = false := ne_int (b := 8) (by omega)
    generalize s.take 4 = s4 at *
    clear hE hR5 hov hbv hvv hal h5 hle HLen HFe hl
    have k8 := Fm.k8 HX1.out
    have z8 := HX1.out.thawed 8
    go_wp2_with fail
    refine (hv _).mono ?_
    rintro e w1' ⟨rfl, rfl⟩
    clear hv
    go_wp2_with fail
    have HX2 : Hid (Row (w1.setCell ⟨w.heap.size, 8, none⟩ (.bool al)) w.heap.size 66 (⟨ty, fl, st, none, 0, 0, pad, 0, 0, 0, al, 0, none, 0, 0⟩ : Fm).c) := Fm.st8 HX1.out _
    have HZ2 := Lib.hid (row_near HZ1.out (k := w.heap.size) (by omega) 8 (.bool al))
    have HB2 := Lib.hid (HB1.out.setCell (p := ⟨w.heap.size, 8, none⟩) (Nat.le_refl _) (.bool al))
    have HS2 : Hid (w.heap.size + 2 ≤ (w1.setCell ⟨w.heap.size, 8, none⟩ (.bool al)).heap.size) := by show _ ≤ _; have := HS1.out; simpa [World.setCell] using this
    clear HX1 HZ1 HB1 HS1
    generalize w1.setCell ⟨w.heap.size, 8, none⟩ (.bool al) = w2 at *
    clear k8 z8
    have k6 := Fm.k6 HX2.out
    have z6 := HX2.out.thawed 6
    refine (hlo _).mono ?_
    rintro e w2' ⟨rfl, rfl⟩
    clear hlo
    go_upto_region 5 with fail
    have HX3 : Hid (Row (w2.setCell ⟨w.heap.size, 6, none⟩ (.int .u32 (ov : Int))) w.heap.size 66 (⟨ty, fl, st, none, 0, 0, pad, 0, ov, 0, al, 0, none, 0, 0⟩ : Fm).c) := Fm.st6 HX2.out _
    have HZ3 := Lib.hid (row_near HZ2.out (k := w.heap.size) (by omega) 6 (.int .u32 (ov : Int)))
    have HB3 := Lib.hid (HB2.out.setCell (p := ⟨w.heap.size, 6, none⟩) (Nat.le_refl _) (.int .u32 (ov : Int)))
    have HS3 : Hid (w.heap.size + 2 ≤ (w2.setCell ⟨w.heap.size, 6, none⟩ (.int .u32 (ov : Int))).heap.size) := by show _ ≤ _; have := HS2.out; simpa [World.setCell] using this
    clear HX2 HZ2 HB2 HS2
    generalize w2.setCell ⟨w.heap.size, 6, none⟩ (.int .u32 (ov : Int)) = w3 at *
    clear k6 z6
    have k7 := Fm.k7 HX3.out
    have z7 := HX3.out.thawed 7
    go_upto_region 6 with fail
    have HX4 : Hid (Row (w3.setCell ⟨w.heap.size, 7, none⟩ (.int .u8 (bv : Int))) w.heap.size 66 (⟨ty, fl, st, none, 0, 0, pad, 0, ov, bv, al, 0, none, 0, 0⟩ : Fm).c) := Fm.st7 HX3.out _
    have HZ4 := Lib.hid (row_near HZ3.out (k := w.heap.size) (by omega) 7 (.int .u8 (bv : Int)))
    have HB4 := Lib.hid (HB3.out.setCell (p := ⟨w.heap.size, 7, none⟩) (Nat.le_refl _) (.int .u8 (bv : Int)))
    have HS4 : Hid (w.heap.size + 2 ≤ (w3.setCell ⟨w.heap.size, 7, none⟩ (.int .u8 (bv : Int))).heap.size) := by show _ ≤ _; have := HS3.out; simpa [World.setCell] using this
    clear HX3 HZ3 HB3 HS3
    generalize w3.setCell ⟨w.heap.size, 7, none⟩ (.int .u8 (bv : Int)) = w4 at *
    clear k7 z7
    have k0 := Fm.k0 HX4.out
    go_upto_region 27 with fail
    obtain ⟨c, w5, hcv, hc, hb, hsz9, hrd⟩ := bytes_run r w4
    have HX5 := Lib.hid (HX4.out.below hb HX4.out.lt)
    have HZ5 := Lib.hid (HZ4.out.below hb HZ4.out.lt)
    have HB5 := Lib.hid (HB4.out.trans (hb.mono HB4.out.size))
    have HRD := Lib.hid hrd
    have k3 := Fm.k3 HX5.out
    have z3 := HX5.out.thawed 3
    have HX6 : Hid (Row (w5.setCell ⟨w.heap.size, 3, none⟩ (.slice (some ⟨w4.heap.size, 0, none⟩) r.length c)) w.heap.size 66 (⟨ty, fl, st, some ⟨w4.heap.size, 0, none⟩, r.length, c, pad, 0, ov, bv, al, 0, none, 0, 0⟩ : Fm).c) := Fm.st3 HX5.out _ _ _
    have HZ6 := Lib.hid (row_near HZ5.out (k := w.heap.size) (by omega) 3 (.slice (some ⟨w4.heap.size, 0, none⟩) r.length c))
    have HB6 := Lib.hid (HB5.out.setCell (p := ⟨w.heap.size, 3, none⟩) (Nat.le_refl _) (.slice (some ⟨w4.heap.size, 0, none⟩) r.length c))
    clear hb hrd hsz9 HX4 HZ4 HB4
    go_wp2_with (first | (refine wpList_fm (x := ⟨ty, fl, st, some ⟨w4.heap.size, 0, none⟩, r.length, c, pad, 0, ov, bv, al, 0, none, 0, 0⟩) rfl _ rfl rfl HX6.out ?_) | (refine wpList_sfm (x := ⟨ty, fl, st, some ⟨w4.heap.size, 0, none⟩, r.length, c, pad, 0, ov, bv, al, 0, none, 0, 0⟩) rfl _ _ rfl rfl rfl HZ6.out ?_))
    refine bodyPost_ret (ret_fm rfl _ _ (w.heap.size + 1) (⟨ty, fl, st, some ⟨w4.heap.size, 0, none⟩, r.length, c, pad, 0, ov, bv, al, 0, none, 0, 0⟩) rfl (HZ6.out.setRow _)) rfl ?_
    refine ⟨_, rfl, ?_, below_setRow HB6.out _ _ (by omega)⟩
    · rw [HE.out]
      exact ⟨rfl, rd_end HRD.out HS4.out _ _, by show RdS _ _ _ (enl sgc []); rw [enl_nil]; exact RdS.nil⟩
  · rw [Bool.eq_false_iff.2 hl]
    have HL0 := Lib.hid (Bool.eq_false_iff.2 hl)
    clear hl
    have k0 := Fm.k0 HX1.out
    go_upto_block 0 with fail
    go_cut [1] (fun s1 wx => ∃ (r : List UInt8) (x : Fm), s1 = .string (tb r) ∧ r.length ≤ 100000 ∧ Hid (PtOk wx w.heap.size F x r) ∧ Hid (Below w.heap.size w wx) ∧ Hid (w.heap.size + 2 ≤ wx.heap.size))
    case rest =>
      obtain ⟨r, x, rfl, hrl, HP, HB4, HS4⟩ := hcut
      clear HX1 HZ1 HB1 HS1 hs hsz
      generalize wc = w4 at *
      have HX4 := Lib.hid HP.out.row
      have HZ4 := Lib.hid HP.out.out
      obtain ⟨c, w5, hcv, hc, hb, hsz9, hrd⟩ := bytes_run r w4
      have HX5 := Lib.hid (HX4.out.below hb HX4.out.lt)
      have HZ5 := Lib.hid (HZ4.out.below hb HZ4.out.lt)
      have HB5 := Lib.hid (HB4.out.trans (hb.mono HB4.out.size))
      have HRD := Lib.hid hrd
      have HO5 := Lib.hid (OwS.below HP.out.sets hb)
      have k3 := Fm.k3 HX5.out
      have z3 := HX5.out.thawed 3
      have HX6 : Hid (Row (w5.setCell ⟨w.heap.size, 3, none⟩ (.slice (some ⟨w4.heap.size, 0, none⟩) r.length c)) w.heap.size 66 ({x with dA := some ⟨w4.heap.size, 0, none⟩, dn := r.length, dc := c} : Fm).c) := Fm.st3 HX5.out _ _ _
      have HZ6 := Lib.hid (row_near HZ5.out (k := w.heap.size) (by omega) 3 (.slice (some ⟨w4.heap.size, 0, none⟩) r.length c))
      have HB6 := Lib.hid (HB5.out.setCell (p := ⟨w.heap.size, 3, none⟩) (Nat.le_refl _) (.slice (some ⟨w4.heap.size, 0, none⟩) r.length c))
      clear hb hrd hsz9 HX4 HZ4 HB4
      go_wp2_with (first | (refine wpList_fm (x := {x with dA := some ⟨w4.heap.size, 0, none⟩, dn := r.length, dc := c}) rfl _ rfl rfl HX6.out ?_) | (refine wpList_sfm (x := {x with dA := some ⟨w4.heap.size, 0, none⟩, dn := r.length, dc := c}) rfl _ _ rfl rfl rfl HZ6.out ?_))
      refine bodyPost_ret (ret_fm rfl _ _ (w.heap.size + 1) ({x with dA := some ⟨w4.heap.size, 0, none⟩, dn := r.length, dc := c}) rfl (HZ6.out.setRow _)) rfl ?_
      refine ⟨_, rfl, ?_, below_setRow HB6.out _ _ (by omega)⟩
      · have he := HP.out.eq
        have hd := HP.out.dat
        refine ⟨by rw [he, ← hd]; rfl, by rw [hd]; exact rd_end HRD.out HS4.out _ _, ?_⟩
        show RdS _ _ x.sA _
        exact (OwS.up (OwS.setRow (OwS.setCell (a := ⟨w.heap.size, 3, none⟩) HO5.out (fun e => by have := (OwS.lt HO5.out _ e).1; simp only at this; omega) _) (fun e => by have := (OwS.lt HO5.out _ e).1; omega) _)).imp fun _ h1 _ => by omega
    case first =>
      rcases (by omega : ty = 3 ∨ ty = 4 ∨ ty = 5 ∨ ty = 7 ∨ ty = 8 ∨ (ty ≠ 3 ∧ ty ≠ 4 ∧ ty ≠ 5 ∧ ty ≠ 7 ∧ ty ≠ 8)) with h | h | h | h | h | h
      · have hlen : s.length = 4 := HLen.out.2.2.1 (by omega)
        have hE := HFe.out.trans (body_3 h)
        rw [List.take_of_length_le (show s.length ≤ 4 by omega)] at hE
        have hv : ∀ W, _ := fun W => rvalue_any s (by omega) W
        have hv4 := valL_lt' hlen
        generalize valL s = vv at *
        have HE := Lib.hid hE
        have e3 : ((ty : Int) == 3) = true := beq_iff_eq.2 (by omega)
        clear h hE HFe HLen
        have k5 := Fm.k5 HX1.out
        have z5 := HX1.out.thawed 5
        have k0 := Fm.k0 HX1.out
        go_wp2_with fail
        refine (hv _).mono ?_
        rintro e w1a ⟨rfl, rfl⟩
        clear hv
        go_upto_region 10 with fail
        have HX2 : Hid (Row (w1.setCell ⟨w.heap.size, 5, none⟩ (.int .u32 (vv : Int))) w.heap.size 66 (⟨ty, fl, st, none, 0, 0, pad, vv, 0, 0, false, 0, none, 0, 0⟩ : Fm).c) := Fm.st5 HX1.out _
        have HZ2 := Lib.hid (row_near HZ1.out (k := w.heap.size) (by omega) 5 (.int .u32 (vv : Int)))
        have HB2 := Lib.hid (HB1.out.setCell (p := ⟨w.heap.size, 5, none⟩) (Nat.le_refl _) (.int .u32 (vv : Int)))
        have HS2 : Hid (w.heap.size + 2 ≤ (w1.setCell ⟨w.heap.size, 5, none⟩ (.int .u32 (vv : Int))).heap.size) := by show _ ≤ _; have := HS1.out; simpa [World.setCell] using this
        clear HX1 HZ1 HB1 HS1
        generalize w1.setCell ⟨w.heap.size, 5, none⟩ (.int .u32 (vv : Int)) = w2 at *
        clear k5 z5 k0
        go_wp2_with fail
        go_meet
        have he := HE.out
        subst he
        exact ⟨[], ⟨ty, fl, st, none, 0, 0, pad, vv, 0, 0, false, 0, none, 0, 0⟩, rfl, by simp, ⟨HX2.out, HZ2.out, rfl, rfl, by show OwS _ _ _ _ _ _ (enl sgc []); rw [enl_nil]; exact OwS.nil⟩, HB2, HS2⟩
      · have hE := HFe.out.trans (body_4 h)
        have h6 : s.length % 6 = 0 := (HLen.out.2.2.2.1 h).1
        obtain ⟨n, hn⟩ : ∃ n, s.length = 6 * n := ⟨s.length / 6, by omega⟩
        have hlen := (setsL_setsN n s hn).2
        have hbd := setsN_bd n s hn
        have HTk : Hid (∀ k, k < n → (setsN s).take (k + 1) = (setsN s).take k ++ [(valL ((s.drop (6 * k)).take 2), valL ((s.drop (6 * k + 2)).take 4))]) := fun k hk => by rw [setsN_take hn hk, List.drop_drop]
        have HT0 : Hid ((setsN s).take 0 = []) := List.take_zero
        have HTn : Hid ((setsN s).take n = setsN s) := by show _ = _; rw [← hlen, List.take_length]
        have HN := Lib.hid hn
        have HE := Lib.hid hE
        have HSN := Lib.hid hlen
        have e3 : ((ty : Int) == 3) = false := ne_int (b := 3) (by omega)
        have e4 : ((ty : Int) == 4) = true := beq_iff_eq.2 (by omega)
        have k0 := Fm.k0 HX1.out
        clear h hE HFe HLen h6 hbd hlen hn
        go_wp2_with fail
        clear k0
        go_loopw [6] (fun i wr => ∃ (k m : Nat) (A : Option Addr) (c : Nat), k ≤ n ∧ Hid (m = 6 * k) ∧ i = .int .i64 m ∧ Hid (Row wr w.heap.size 66 (⟨ty, fl, st, none, 0, 0, pad, 0, 0, 0, false, 0, A, k, c⟩ : Fm).c) ∧ Hid (Row wr (w.heap.size + 1) 66 (fm0 0 0 0 0).c) ∧ Hid (OwS wr (w.heap.size + 2) 164 2 (.slice A k c) k (enl sgc ((setsN s).take k))) ∧ Hid (Below w.heap.size w wr) ∧ Hid (w.heap.size + 2 ≤ wr.heap.size)) (fun i _ => s.length - (intOf i).toNat)
        case atStart => exact ⟨0, 0, none, 0, Nat.zero_le _, rfl, rfl, HX1, HZ1, by show OwS _ _ _ _ _ _ _; rw [HT0.out, enl_nil]; exact OwS.nil, HB1, HS1⟩
        case round =>
          clear HX1 HZ1 HB1 HS1 HT0
          obtain ⟨k, m, A, c, hk, hm, rfl, HX2, HZ2, HO2, HB2, HS2⟩ := hrel
          by_cases hlt : k < n
          · have hms : m + 6 ≤ s.length := by rw [hm.out, HN.out]; omega
            have hT := HTk.out k hlt
            rw [← hm.out] at hT
            have hcut1 : ∀ W, (Instr.slice 9 (.string (tb s)) (some (.int .i64 (m : Int))) (some (.int .i64 ((m : Int) + 2))) none).run Tryz.prog W = .ok (.string (tb ((s.drop m).take 2))) W := fun W => by
              have := tb_cut s (m : Int) ((m : Int) + 2) (by omega) (by omega) (by omega) W
              rwa [show ((m : Int) + 2).toNat - (m : Int).toNat = 2 by omega] at this
            have hcut2 : ∀ W, (Instr.slice 9 (.string (tb s)) (some (.int .i64 ((m : Int) + 2))) (some (.int .i64 ((m : Int) + 6))) none).run Tryz.prog W = .ok (.string (tb ((s.drop (m + 2)).take 4))) W := fun W => by
              have := tb_cut s ((m : Int) + 2) ((m : Int) + 6) (by omega) (by omega) (by omega) W
              rwa [show ((m : Int) + 6).toNat - ((m : Int) + 2).toNat = 4 by omega, show ((m : Int) + 2).toNat = m + 2 by omega] at this
            have hv1 := fun W => rvalue_any ((s.drop m).take 2) (by rw [List.length_take]; omega) W
            have hv2 := fun W => rvalue_any ((s.drop (m + 2)).take 4) (by rw [List.length_take]; omega) W
            have hb1 : valL ((s.drop m).take 2) < 65536 := valL_lt' (k := 2) (by rw [List.length_take, List.length_drop]; omega)
            have hb2 := head4 (s.drop (m + 2))
            generalize valL ((s.drop m).take 2) = va at *
            generalize valL ((s.drop (m + 2)).take 4) = vb at *
            generalize (s.drop m).take 2 = sa at *
            generalize (s.drop (m + 2)).take 4 = sb at *
            have HT := Lib.hid hT
            have HM := Lib.hid (show m + 6 = 6 * (k + 1) by rw [hm.out]; omega)
            have hmi : (m : Int) < (s.length : Int) := by omega
            have hm1 : (m : Int) ≤ 100000 := by omega
            have hw2 : IntKind.i64.wrap ((m : Int) + 2) = (m : Int) + 2 := IntWalk.i64_in _ (by omega)
            have hw6 : IntKind.i64.wrap ((m : Int) + 6) = (m : Int) + 6 := IntWalk.i64_in _ (by omega)
            have hwa : IntKind.u16.wrap (va : Int) = va := by rw [IntKind.wrap_u16]; omega
            clear hT hm HTk HTn
            go_wp2_with fail
            have d0 : wr.drew.cell? ⟨w.heap.size, 10, none⟩ = some (.slice A k c) := Fm.k10 HX2.out
            have HX3 : Hid (Row wr.drew w.heap.size 66 (⟨ty, fl, st, none, 0, 0, pad, 0, 0, 0, false, 0, A, k, c⟩ : Fm).c) := HX2.out
            have HZ3 : Hid (Row wr.drew (w.heap.size + 1) 66 (fm0 0 0 0 0).c) := HZ2.out
            have HO3 : Hid (OwS wr.drew (w.heap.size + 2) 164 2 (.slice A k c) k (enl sgc ((setsN s).take k))) := HO2.out
            have HB3 : Hid (Below w.heap.size w wr.drew) := HB2.out.drew
            have HS3 : Hid (w.heap.size + 2 ≤ wr.drew.heap.size) := HS2.out
            clear HX2 HZ2 HO2 HB2 HS2
            refine wp_region_E 20 (fun w' => w'.cell? ⟨w.heap.size, 10, none⟩ = some (.slice A k c)) (by kernel_rfl) d0 (fun hHeld => ?_)
            generalize wr.drew = w3 at *
            refine wpAnyE_take (i := 0) (v := ?v0) rfl (by kernel_rfl) (by kernel_rfl) (by kernel_rfl) (by kernel_rfl) (fun _ _ _ h => h) (Or.inl ⟨by rfl, ?hy0⟩) (by assumption) ?rest0
            case hy0 => (intro w hSw; (try dsimp only at hSw); go_simp <;> with_reducible rfl)
            try simp only [Act.put, List.getElem_toArray, List.getElem_cons_zero, List.getElem_cons_succ, List.setIfInBounds_toArray, List.set_cons_zero, List.set_cons_succ]
            refine wpAnyE_take (i := 1) (v := ?v1) rfl (by kernel_rfl) (by kernel_rfl) (by kernel_rfl) (by kernel_rfl) (fun _ _ _ h => h) (Or.inl ⟨by rfl, ?hy1⟩) (by assumption) ?rest1
            case hy1 => (intro w hSw; (try dsimp only at hSw); go_simp <;> with_reducible rfl)
            try simp only [Act.put, List.getElem_toArray, List.getElem_cons_zero, List.getElem_cons_succ, List.setIfInBounds_toArray, List.set_cons_zero, List.set_cons_succ]
            refine wpAnyE_take (i := 2) (v := ?v2) rfl (by kernel_rfl) (by kernel_rfl) (by kernel_rfl) (by kernel_rfl) (fun _ _ _ h => h) (Or.inl ⟨by rfl, ?hy2⟩) (by assumption) ?rest2
            case hy2 => (intro w hSw; (try dsimp only at hSw); go_simp <;> with_reducible rfl)
            try simp only [Act.put, List.getElem_toArray, List.getElem_cons_zero, List.getElem_cons_succ, List.setIfInBounds_toArray, List.set_cons_zero, List.set_cons_succ]
            refine wpAnyE_take (i := 3) (v := ?v3) rfl (by kernel_rfl) (by kernel_rfl) (by kernel_rfl) (by kernel_rfl) (fun _ _ _ h => h) (Or.inl ⟨by rfl, ?hy3⟩) (by assumption) ?rest3
            case hy3 => (intro w hSw; (try dsimp only at hSw); go_simp <;> with_reducible rfl)
            try simp only [Act.put, List.getElem_toArray, List.getElem_cons_zero, List.getElem_cons_succ, List.setIfInBounds_toArray, List.set_cons_zero, List.set_cons_succ]
            refine wpAnyE_take (i := 4) (v := ?v4) rfl (by kernel_rfl) (by kernel_rfl) (by kernel_rfl) (by kernel_rfl) (fun _ _ _ h => h) (Or.inl ⟨by rfl, ?hy4⟩) (by assumption) ?rest4
            case hy4 => (intro w hSw; (try dsimp only at hSw); go_simp <;> with_reducible rfl)
            try simp only [Act.put, List.getElem_toArray, List.getElem_cons_zero, List.getElem_cons_succ, List.setIfInBounds_toArray, List.set_cons_zero, List.set_cons_succ]
            refine wpAnyE_take (i := 5) (v := ?v5) rfl (by kernel_rfl) (by kernel_rfl) (by kernel_rfl) (by kernel_rfl) (fun _ _ _ h => h) (Or.inl ⟨by rfl, ?hy5⟩) (by assumption) ?rest5
            case hy5 => (intro w hSw; (try dsimp only at hSw); go_simp <;> with_reducible rfl)
            try simp only [Act.put, List.getElem_toArray, List.getElem_cons_zero, List.getElem_cons_succ, List.setIfInBounds_toArray, List.set_cons_zero, List.set_cons_succ]
            refine wpAnyE_take (i := 6) (v := ?v6) rfl (by kernel_rfl) (by kernel_rfl) (by kernel_rfl) (by kernel_rfl) (fun _ _ _ h => h) (Or.inl ⟨by rfl, ?hy6⟩) (by assumption) ?rest6
            case hy6 => (intro w hSw; (try dsimp only at hSw); go_simp <;> with_reducible rfl)
            try simp only [Act.put, List.getElem_toArray, List.getElem_cons_zero, List.getElem_cons_succ, List.setIfInBounds_toArray, List.set_cons_zero, List.set_cons_succ]
            refine wpAnyE_take (i := 9) (v := ?v9) rfl (by kernel_rfl) (by kernel_rfl) (by kernel_rfl) (by kernel_rfl) (fun _ _ _ h => h) (Or.inl ⟨by rfl, ?hy9⟩) (by assumption) ?rest9
            case hy9 => (intro w hSw; (try dsimp only at hSw); go_simp <;> with_reducible rfl)
            try simp only [Act.put, List.getElem_toArray, List.getElem_cons_zero, List.getElem_cons_succ, List.setIfInBounds_toArray, List.set_cons_zero, List.set_cons_succ]
            refine wpAnyE_take (i := 10) (v := ?v10) rfl (by kernel_rfl) (by kernel_rfl) (by kernel_rfl) (by kernel_rfl) (fun _ _ _ h => h) (Or.inl ⟨by rfl, ?hy10⟩) (by assumption) ?rest10
            case hy10 => (intro w hSw; (try dsimp only at hSw); go_simp <;> with_reducible rfl)
            try simp only [Act.put, List.getElem_toArray, List.getElem_cons_zero, List.getElem_cons_succ, List.setIfInBounds_toArray, List.set_cons_zero, List.set_cons_succ]
            refine wpAnyE_take (i := 11) (v := ?v11) rfl (by kernel_rfl) (by kernel_rfl) (by kernel_rfl) (by kernel_rfl) (fun _ _ _ h => h) (Or.inl ⟨by rfl, ?hy11⟩) (by assumption) ?rest11
            case hy11 => (intro w hSw; (try dsimp only at hSw); go_simp <;> with_reducible rfl)
            try simp only [Act.put, List.getElem_toArray, List.getElem_cons_zero, List.getElem_cons_succ, List.setIfInBounds_toArray, List.set_cons_zero, List.set_cons_succ]
            refine wpAnyE_take (i := 12) (v := ?v12) rfl (by kernel_rfl) (by kernel_rfl) (by kernel_rfl) (by kernel_rfl) (fun _ _ _ h => h) (Or.inl ⟨by rfl, ?hy12⟩) (by assumption) ?rest12
            case hy12 => (intro w hSw; (try dsimp only at hSw); go_simp <;> with_reducible rfl)
            try simp only [Act.put, List.getElem_toArray, List.getElem_cons_zero, List.getElem_cons_succ, List.setIfInBounds_toArray, List.set_cons_zero, List.set_cons_succ]
            refine wpAnyE_take (i := 13) (v := ?v13) rfl (by kernel_rfl) (by kernel_rfl) (by kernel_rfl) (by kernel_rfl) (fun _ _ _ h => h) (Or.inl ⟨by rfl, ?hy13⟩) (by assumption) ?rest13
            case hy13 => (intro w hSw; (try dsimp only at hSw); go_simp <;> with_reducible rfl)
            try simp only [Act.put, List.getElem_toArray, List.getElem_cons_zero, List.getElem_cons_succ, List.setIfInBounds_toArray, List.set_cons_zero, List.set_cons_succ]
            refine wpAnyE_take (i := 14) (v := ?v14) rfl (by kernel_rfl) (by kernel_rfl) (by kernel_rfl) (by kernel_rfl) (fun _ _ _ h => h) (Or.inl ⟨by rfl, ?hy14⟩) (by assumption) ?rest14
            case hy14 => (intro w hSw; (try dsimp only at hSw); go_simp <;> with_reducible rfl)
            try simp only [Act.put, List.getElem_toArray, List.getElem_cons_zero, List.getElem_cons_succ, List.setIfInBounds_toArray, List.set_cons_zero, List.set_cons_succ]
            refine wpAnyE_next (i := 7) (by kernel_rfl) rfl (fun K hK => ?_)
            go_simp
            go_at_call 59
            refine (hv1 _).mono ?_
            rintro e w3' ⟨rfl, rfl⟩
            go_simp
            refine hK.out _ _ d0 (fun hHeld => ?_)
            clear hK K hv1
            try simp only [Act.put, List.getElem_toArray, List.getElem_cons_zero, List.getElem_cons_succ, List.setIfInBounds_toArray, List.set_cons_zero, List.set_cons_succ]
            refine wpAnyE_take (i := 8) (v := ?v8q1) rfl (by kernel_rfl) (by kernel_rfl) (by kernel_rfl) (by kernel_rfl) (fun _ _ _ h => h) (Or.inl ⟨by rfl, ?hy8q1⟩) (by assumption) ?rest8q1
            case hy8q1 => (intro w hSw; (try dsimp only at hSw); go_simp <;> with_reducible rfl)
            try simp only [Act.put, List.getElem_toArray, List.getElem_cons_zero, List.getElem_cons_succ, List.setIfInBounds_toArray, List.set_cons_zero, List.set_cons_succ]
            refine wpAnyE_next (i := 15) (by kernel_rfl) rfl (fun K hK => ?_)
            go_simp
            go_at_call 59
            refine (hv2 _).mono ?_
            rintro e w3' ⟨rfl, rfl⟩
            go_simp
            refine hK.out _ _ d0 (fun hHeld => ?_)
            clear hK K hv2
            try simp only [Act.put, List.getElem_toArray, List.getElem_cons_zero, List.getElem_cons_succ, List.setIfInBounds_toArray, List.set_cons_zero, List.set_cons_succ]
            refine wpAnyE_take (i := 16) (v := ?v16q2) rfl (by kernel_rfl) (by kernel_rfl) (by kernel_rfl) (by kernel_rfl) (fun _ _ _ h => h) (Or.inl ⟨by rfl, ?hy16q2⟩) (by assumption) ?rest16q2
            case hy16q2 => (intro w hSw; (try dsimp only at hSw); go_simp <;> with_reducible rfl)
            try simp only [Act.put, List.getElem_toArray, List.getElem_cons_zero, List.getElem_cons_succ, List.setIfInBounds_toArray, List.set_cons_zero, List.set_cons_succ]
            refine wpAnyE_next (i := 17) (by kernel_rfl) rfl (fun K hK => ?_)
            go_simp
            have HL4 := Lib.hid (Row.new w3 164 #[.int .u16 (va : Int), .int .u32 (vb : Int)])
            have HX4 := Lib.hid (HX3.out.alloc (.cells #[.int .u16 (va : Int), .int .u32 (vb : Int)] 164))
            have HZ4 := Lib.hid (HZ3.out.alloc (.cells #[.int .u16 (va : Int), .int .u32 (vb : Int)] 164))
            have HO4 := Lib.hid (OwS.alloc HO3.out (.cells #[.int .u16 (va : Int), .int .u32 (vb : Int)] 164))
            have HB4 := Lib.hid (HB3.out.alloc HB3.out.size (.cells #[.int .u16 (va : Int), .int .u32 (vb : Int)] 164))
            have HS4 : Hid (w3.heap.size + 1 = (w3.alloc (.cells #[.int .u16 (va : Int), .int .u32 (vb : Int)] 164)).heap.size) := by show _ = _; simp
            refine hK.out _ _ (Fm.k10 HX4.out) (fun hHeld => ?_)
            clear hK K hHeld HX3 HZ3 HO3 HB3 d0
            try simp only [Act.put, List.getElem_toArray, List.getElem_cons_zero, List.getElem_cons_succ, List.setIfInBounds_toArray, List.set_cons_zero, List.set_cons_succ]
            generalize w3.alloc (.cells #[.int .u16 (va : Int), .int .u32 (vb : Int)] 164) = w4 at *
            have hHeld := Fm.k10 HX4.out
            refine wpAnyE_next (i := 18) (by kernel_rfl) rfl (fun K hK => ?_)
            refine step_appS rfl (.tmp 39) (.tmp 55) 64 rfl (w.heap.size + 2) 164 i0 _ 2 8 Tryz.underlying64 hi0 hz0 hz1 hz2 rfl (.slice A k c) k (enl sgc ((setsN s).take k)) rfl HO4.out ⟨w3.heap.size, 0, none⟩ 1 1 (sgc (va, vb)) rfl rfl (fun j u hj => by rw [add_plain, Nat.zero_add]; exact HL4.out.cell (by simpa [sgc] using hj)) (fun u hu => by simp [sgc] at hu; rcases hu with rfl | rfl <;> rfl) (by omega) (by simp only [maxLen]; have := HN.out; omega) (by have := HN.out; omega) (by have := HS3.out; have := HS4.out; omega) (fun A5 c5 w5 hO5 hG5 hN5 => ?_)
            have hS5 : w.heap.size + 2 ≤ w4.heap.size := by have := HS3.out; have := HS4.out; omega
            have hF5 := Fs.of_grown hG5
            have hX5 := hF5.row (b := w.heap.size) (fun e => by have := (OwS.lt HO4.out _ e).1; omega) HX4.out
            have hZ5 := hF5.row (b := w.heap.size + 1) (fun e => by have := (OwS.lt HO4.out _ e).1; omega) HZ4.out
            have hnb : (Value.slice A5 (k + 1) c5).ownBlock ≠ some w.heap.size := fun e => by have := (OwS.lt hO5 _ e).1; omega
            have HO5 := Lib.hid (OwS.setCell (a := ⟨w.heap.size, 10, none⟩) hO5 hnb (.slice A5 (k + 1) c5))
            have hB5 : Below w.heap.size w w5 := HB4.out.trans (hF5.below (fun b h1 _ => by have := (OwS.lt HO4.out b h1).1; omega) (by omega))
            have HX6 : Hid (Row (w5.setCell ⟨w.heap.size, 10, none⟩ (.slice A5 (k + 1) c5)) w.heap.size 66 (⟨ty, fl, st, none, 0, 0, pad, 0, 0, 0, false, 0, A5, k + 1, c5⟩ : Fm).c) := Fm.st10 hX5 _ _ _
            have HZ6 := Lib.hid (row_near hZ5 (k := w.heap.size) (by omega) 10 (.slice A5 (k + 1) c5))
            have HB6 := Lib.hid (hB5.setCell (p := ⟨w.heap.size, 10, none⟩) (Nat.le_refl _) (.slice A5 (k + 1) c5))
            have HS6 : Hid (w.heap.size + 2 ≤ (w5.setCell ⟨w.heap.size, 10, none⟩ (.slice A5 (k + 1) c5)).heap.size) := by show _ ≤ _; have := hF5.size; simp [World.setCell]; omega
            have q10 := Fm.k10 hX5
            have z10 := hX5.thawed 10
            refine hK.out _ _ q10 (fun hHeld => ?_)
            clear hK K hG5 hN5 hF5 hX5 hZ5 hnb hB5 hS5 hO5 HX4 HZ4 HO4 HB4 HS4 HL4 HS3
            try simp only [Act.put, List.getElem_toArray, List.getElem_cons_zero, List.getElem_cons_succ, List.setIfInBounds_toArray, List.set_cons_zero, List.set_cons_succ]
            refine wpAnyE_take (i := 19) (v := ?v19q3) rfl (by kernel_rfl) (by kernel_rfl) (by kernel_rfl) (by kernel_rfl) (fun _ _ _ h => h) (Or.inl ⟨by rfl, ?hy19q3⟩) (by assumption) ?rest19q3
            case hy19q3 => (intro w hSw; (try dsimp only at hSw); go_simp <;> with_reducible rfl)
            try simp only [Act.put, List.getElem_toArray, List.getElem_cons_zero, List.getElem_cons_succ, List.setIfInBounds_toArray, List.set_cons_zero, List.set_cons_succ]
            refine wpAnyE_last (by kernel_rfl) rfl (by kernel_rfl) (fun K hK => ?_)
            go_simp
            refine hK.out _ _ ?_
            clear hK K hHeld q10 z10
            try simp only [Act.put, List.getElem_toArray, List.getElem_cons_zero, List.getElem_cons_succ, List.setIfInBounds_toArray, List.set_cons_zero, List.set_cons_succ]
            generalize w5.setCell ⟨w.heap.size, 10, none⟩ (.slice A5 (k + 1) c5) = w6 at *
            clear hcut1 hcut2
            go_wp2_with fail
            go_roundw
            case rel => exact ⟨k + 1, m + 6, A5, c5, by omega, HM, by go_num, HX6, HZ6, by show OwS _ _ _ _ _ _ _; rw [HT.out, enl_append, enl_one]; exact HO5.out, HB6, HS6⟩
            case measure => simp [intOf]; omega
          · obtain rfl : k = n := by omega
            have hmi : ¬ (m : Int) < (s.length : Int) := by have := hm.out; have := HN.out; omega
            have hm1 : (m : Int) ≤ 100000 := by have := hm.out; have := HN.out; omega
            have HSn : Hid (OwS wr (w.heap.size + 2) 164 2 (.slice A k c) k (enl sgc (setsN s))) := by show OwS _ _ _ _ _ _ _; rw [← HTn.out]; exact HO2.out
            clear HTk HTn HO2 HN hm
            go_wp2_with fail
            go_meet
            have he := HE.out
            subst he
            have hln := HSN.out
            exact ⟨[], ⟨ty, fl, st, none, 0, 0, pad, 0, 0, 0, false, 0, A, k, c⟩, rfl, by simp, ⟨HX2.out, HZ2.out, by show _ = Fm.mk _ _ _ _ _ _ _ _ _ _ _ _ _ (setsN s).length _; rw [hln], rfl, by show OwS _ _ _ _ (.slice A (setsN s).length c) (setsN s).length (enl sgc (setsN s)); rw [hln]; exact HSn.out⟩, HB2, HS2⟩
      · have hlen : 4 ≤ s.length := HLen.out.2.2.2.2.1 h
        have hE := HFe.out.trans (body_5 h)
        have hup := up4 s hlen
        have hfr := from4 s hlen
        have hv : ∀ W, _ := fun W => rvalue_any (s.take 4) (by rw [List.length_take]; omega) W
        have hv4 := head4 s
        generalize valL (s.take 4) = vv at *
        have hlo := fun W => rlow_any vv hv4 W
        generalize vv % 2147483648 = ov at *
        have hrl : (s.drop 4).length ≤ 100000 := by rw [List.length_drop]; omega
        generalize s.drop 4 = r at *
        generalize s.take 4 = s4 at *
        have HE := Lib.hid hE
        have e3 : ((ty : Int) == 3) = false := ne_int (b := 3) (by omega)
        have e4 : ((ty : Int) == 4) = false := ne_int (b := 4) (by omega)
        have e5 : ((ty : Int) == 5) = true := beq_iff_eq.2 (by omega)
        clear h hE HFe HLen
        have k6 := Fm.k6 HX1.out
        have z6 := HX1.out.thawed 6
        have k0 := Fm.k0 HX1.out
        go_wp2_with fail
        refine (hv _).mono ?_
        rintro e w1a ⟨rfl, rfl⟩
        clear hv
        go_wp2_with fail
        refine (hlo _).mono ?_
        rintro e w1b ⟨rfl, rfl⟩
        clear hlo
        go_upto_region 19 with fail
        have HX2 : Hid (Row (w1.setCell ⟨w.heap.size, 6, none⟩ (.int .u32 (ov : Int))) w.heap.size 66 (⟨ty, fl, st, none, 0, 0, pad, 0, ov, 0, false, 0, none, 0, 0⟩ : Fm).c) := Fm.st6 HX1.out _
        have HZ2 := Lib.hid (row_near HZ1.out (k := w.heap.size) (by omega) 6 (.int .u32 (ov : Int)))
        have HB2 := Lib.hid (HB1.out.setCell (p := ⟨w.heap.size, 6, none⟩) (Nat.le_refl _) (.int .u32 (ov : Int)))
        have HS2 : Hid (w.heap.size + 2 ≤ (w1.setCell ⟨w.heap.size, 6, none⟩ (.int .u32 (ov : Int))).heap.size) := by show _ ≤ _; have := HS1.out; simpa [World.setCell] using this
        clear HX1 HZ1 HB1 HS1
        generalize w1.setCell ⟨w.heap.size, 6, none⟩ (.int .u32 (ov : Int)) = w2 at *
        clear k6 z6 k0
        go_wp2_with fail
        go_meet
        have he := HE.out
        subst he
        exact ⟨r, ⟨ty, fl, st, none, 0, 0, pad, 0, ov, 0, false, 0, none, 0, 0⟩, rfl, hrl, ⟨HX2.out, HZ2.out, rfl, rfl, by show OwS _ _ _ _ _ _ (enl sgc []); rw [enl_nil]; exact OwS.nil⟩, HB2, HS2⟩
      · have hlen : 8 ≤ s.length := HLen.out.2.2.2.2.2.2 h
        have hE := HFe.out.trans (body_7 h)
        have hup := up4 s (by omega)
        have hcut := cut48 s hlen
        have hfr := from8 s hlen
        have hv : ∀ W, _ := fun W => rvalue_any (s.take 4) (by rw [List.length_take]; omega) W
        have hv4 := head4 s
        have hv2 : ∀ W, _ := fun W => rvalue_any ((s.drop 4).take 4) (by rw [List.length_take]; omega) W
        have hv24 := head4 (s.drop 4)
        generalize valL (s.take 4) = vv at *
        have hlo := fun W => rlow_any vv hv4 W
        generalize vv % 2147483648 = ov at *
        generalize valL ((s.drop 4).take 4) = cv at *
        have hrl : (s.drop 8).length ≤ 100000 := by rw [List.length_drop]; omega
        generalize s.drop 8 = r at *
        generalize s.take 4 = s4 at *
        generalize (s.drop 4).take 4 = s5 at *
        have HE := Lib.hid hE
        have e3 : ((ty : Int) == 3) = false := ne_int (b := 3) (by omega)
        have e4 : ((ty : Int) == 4) = false := ne_int (b := 4) (by omega)
        have e5 : ((ty : Int) == 5) = false := ne_int (b := 5) (by omega)
        have e7 : ((ty : Int) == 7) = true := beq_iff_eq.2 (by omega)
        clear h hE HFe HLen
        have k6 := Fm.k6 HX1.out
        have z6 := HX1.out.thawed 6
        have k0 := Fm.k0 HX1.out
        go_wp2_with fail
        refine (hv _).mono ?_
        rintro e w1a ⟨rfl, rfl⟩
        clear hv
        go_wp2_with fail
        refine (hlo _).mono ?_
        rintro e w1b ⟨rfl, rfl⟩
        clear hlo
        go_upto_region 22 with fail
        have HX2 : Hid (Row (w1.setCell ⟨w.heap.size, 6, none⟩ (.int .u32 (ov : Int))) w.heap.size 66 (⟨ty, fl, st, none, 0, 0, pad, 0, ov, 0, false, 0, none, 0, 0⟩ : Fm).c) := Fm.st6 HX1.out _
        have HZ2 := Lib.hid (row_near HZ1.out (k := w.heap.size) (by omega) 6 (.int .u32 (ov : Int)))
        have HB2 := Lib.hid (HB1.out.setCell (p := ⟨w.heap.size, 6, none⟩) (Nat.le_refl _) (.int .u32 (ov : Int)))
        have HS2 : Hid (w.heap.size + 2 ≤ (w1.setCell ⟨w.heap.size, 6, none⟩ (.int .u32 (ov : Int))).heap.size) := by show _ ≤ _; have := HS1.out; simpa [World.setCell] using this
        clear HX1 HZ1 HB1 HS1
        generalize w1.setCell ⟨w.heap.size, 6, none⟩ (.int .u32 (ov : Int)) = w2 at *
        clear k6 z6 k0
        have k5 := Fm.k5 HX2.out
        have z5 := HX2.out.thawed 5
        go_wp2_with fail
        refine (hv2 _).mono ?_
        rintro e w1c ⟨rfl, rfl⟩
        clear hv2
        go_upto_region 23 with fail
        have HX3 : Hid (Row (w2.setCell ⟨w.heap.size, 5, none⟩ (.int .u32 (cv : Int))) w.heap.size 66 (⟨ty, fl, st, none, 0, 0, pad, cv, ov, 0, false, 0, none, 0, 0⟩ : Fm).c) := Fm.st5 HX2.out _
        have HZ3 := Lib.hid (row_near HZ2.out (k := w.heap.size) (by omega) 5 (.int .u32 (cv : Int)))
        have HB3 := Lib.hid (HB2.out.setCell (p := ⟨w.heap.size, 5, none⟩) (Nat.le_refl _) (.int .u32 (cv : Int)))
        have HS3 : Hid (w.heap.size + 2 ≤ (w2.setCell ⟨w.heap.size, 5, none⟩ (.int .u32 (cv : Int))).heap.size) := by show _ ≤ _; have := HS2.out; simpa [World.setCell] using this
        clear HX2 HZ2 HB2 HS2
        generalize w2.setCell ⟨w.heap.size, 5, none⟩ (.int .u32 (cv : Int)) = w3 at *
        clear k5 z5
        go_wp2_with fail
        go_meet
        have he := HE.out
        subst he
        exact ⟨r, ⟨ty, fl, st, none, 0, 0, pad, cv, ov, 0, false, 0, none, 0, 0⟩, rfl, hrl, ⟨HX3.out, HZ3.out, rfl, rfl, by show OwS _ _ _ _ _ _ (enl sgc []); rw [enl_nil]; exact OwS.nil⟩, HB3, HS3⟩
      · have hlen : s.length = 4 := HLen.out.2.2.1 (by omega)
        have hE := HFe.out.trans (body_8 h)
        rw [List.take_of_length_le (show s.length ≤ 4 by omega)] at hE
        have hv : ∀ W, _ := fun W => rvalue_any s (by omega) W
        have hv4 := valL_lt' hlen
        generalize valL s = vv at *
        have hlo := fun W => rlow_any vv hv4 W
        generalize vv % 2147483648 = ov at *
        have HE := Lib.hid hE
        have e3 : ((ty : Int) == 3) = false := ne_int (b := 3) (by omega)
        have e4 : ((ty : Int) == 4) = false := ne_int (b := 4) (by omega)
        have e5 : ((ty : Int) == 5) = false := ne_int (b := 5) (by omega)
        have e7 : ((ty : Int) == 7) = false := ne_int (b := 7) (by omega)
        have e8 : ((ty : Int) == 8) = true := beq_iff_eq.2 (by omega)
        clear h hE HFe HLen
        have k9 := Fm.k9 HX1.out
        have z9 := HX1.out.thawed 9
        have k0 := Fm.k0 HX1.out
        go_wp2_with fail
        refine (hv _).mono ?_
        rintro e w1a ⟨rfl, rfl⟩
        clear hv
        go_wp2_with fail
        refine (hlo _).mono ?_
        rintro e w1b ⟨rfl, rfl⟩
        clear hlo
        go_upto_region 26 with fail
        have HX2 : Hid (Row (w1.setCell ⟨w.heap.size, 9, none⟩ (.int .u32 (ov : Int))) w.heap.size 66 (⟨ty, fl, st, none, 0, 0, pad, 0, 0, 0, false, ov, none, 0, 0⟩ : Fm).c) := Fm.st9 HX1.out _
        have HZ2 := Lib.hid (row_near HZ1.out (k := w.heap.size) (by omega) 9 (.int .u32 (ov : Int)))
        have HB2 := Lib.hid (HB1.out.setCell (p := ⟨w.heap.size, 9, none⟩) (Nat.le_refl _) (.int .u32 (ov : Int)))
        have HS2 : Hid (w.heap.size + 2 ≤ (w1.setCell ⟨w.heap.size, 9, none⟩ (.int .u32 (ov : Int))).heap.size) := by show _ ≤ _; have := HS1.out; simpa [World.setCell] using this
        clear HX1 HZ1 HB1 HS1
        generalize w1.setCell ⟨w.heap.size, 9, none⟩ (.int .u32 (ov : Int)) = w2 at *
        clear k9 z9 k0
        go_wp2_with fail
        go_meet
        have he := HE.out
        subst he
        exact ⟨[], ⟨ty, fl, st, none, 0, 0, pad, 0, 0, 0, false, ov, none, 0, 0⟩, rfl, by simp, ⟨HX2.out, HZ2.out, rfl, rfl, by show OwS _ _ _ _ _ _ (enl sgc []); rw [enl_nil]; exact OwS.nil⟩, HB2, HS2⟩
      · have hE := HFe.out.trans (body_x HL0.out h)
        have HE := Lib.hid hE
        have e3 : ((ty : Int) == 3) = false := ne_int (b := 3) (by omega)
        have e4 : ((ty : Int) == 4) = false := ne_int (b := 4) (by omega)
        have e5 : ((ty : Int) == 5) = false := ne_int (b := 5) (by omega)
        have e7 : ((ty : Int) == 7) = false := ne_int (b := 7) (by omega)
        have e8 : ((ty : Int) == 8) = false := ne_int (b := 8) (by omega)
        clear h hE HFe HLen
        have k0 := Fm.k0 HX1.out
        go_wp2_with fail
        go_meet
        have he := HE.out
        subst he
        exact ⟨s, ⟨ty, fl, st, none, 0, 0, pad, 0, 0, 0, false, 0, none, 0, 0⟩, rfl, hs, ⟨HX1.out, HZ1.out, rfl, rfl, by show OwS _ _ _ _ _ _ (enl sgc []); rw [enl_nil]; exact OwS.nil⟩, HB1, HS1⟩
end Go.Proofs.YtooaajnkiokpnaaGreatDoor
