/-
  The law's own example: fixed answers true. Conditions: errors.errorType holds what the program's text lays.
  New of a server, by its contract. Conditions: errors.errorType holds what the program's text lays.
  A side's fail; State; meet of a fault of the connection; come and take where the first frame isn't the other side's settings: by their contracts. Conditions: errors.errorType holds what the program's text lays; few bytes and events.
  Poll, where the first frame isn't the other side's settings: the fault is told. Conditions: errors.errorType holds what the program's text lays; nothing waits to be told.
  A nil side's methods, by their contracts; Gone. No conditions but those that each theorem names.
  Feed of a side that isn't gone, by its contract. Conditions: what is fed lies neither in the splitter nor in its buffer.
-/
import Derived.Test.YtooaajnkiokpnaaGreatDoorMC2
import Derived.Test.YtooaajnkiokpnaaGreatDoorMS2
import Derived.Test.YtooaajnkiokpnaaGreatDoorMC1
import Derived.WalkKit
import Derived.Deep.Cut
import Derived.Lib.Hide
import Derived.Test.YtooaajnkiokpnaaGreatDoorRput
import Derived.Test.YtooaajnkiokpnaaGreatDoorRpt
import Derived.Test.YtooaajnkiokpnaaGreatDoorFfix
import Derived.Deep.RegionHeld3

namespace Go.Proofs.YtooaajnkiokpnaaGreatDoor
open Go.RowKit Go.WideShapes

/-- A server, new. -/
def srvC (g ga de en ow mt rg m : Nat) : Cc := ⟨true, .pointer (some ⟨g, 0, none⟩), .pointer (some ⟨ga, 0, none⟩), .pointer (some ⟨de, 0, none⟩), .pointer (some ⟨en, 0, none⟩), .pointer (some ⟨ow, 0, none⟩), begS, .slice none 0 0, .pointer (some ⟨mt, 0, none⟩), 65535, .slice none 0 0, 0, .pointer (some ⟨rg, 0, none⟩), .map (some m), .slice none 0 0, 0, 0, false, false, false, false⟩
/-- What New leaves. -/
def NewP (w : World) (e : Ending) (w' : World) : Prop := ∃ c g b m ga de en ow mt rg v, e = .returned (.pointer (some ⟨c, 0, none⟩)) ∧ Hot w' c { srvC g ga de en ow mt rg m with row := v } (putL7 (stF srvL)) [] ∧ Spl w' g b [] true false ∧ MapM w' m [] ∧
  (∀ k, HotF c { srvC g ga de en ow mt rg m with row := v } k → w.heap.size ≤ k ∧ ¬ gbS g b k) ∧ ¬ gbS g b m ∧ w.heap.size ≤ g ∧ w.heap.size ≤ b ∧ Below w.heap.size w w'
theorem srv_ag (g ga de en ow mt rg m : Nat) : AgOk Tryz.prog 86 (srvC g ga de en ow mt rg m).c := ⟨⟨_, Tryz.underlying86⟩, (by kernel_rfl : (Tryz.prog.info? 86).map (·.size) = some 27), by unfold Cc.c srvC begS; kernel_rfl⟩
/-- The side's block, laid and stored into. -/
theorem conn_var (w : World) (x : Cc) : ∃ w', (w.alloc (.cells #[.bool false, .pointer none, .pointer none, .pointer none, .pointer none, .pointer none, .int .u32 0, .bool false, .int .u32 0, .int .u32 0, .int .u32 0, .int .u32 0, .bool false, .slice none 0 0, .pointer none, .int .u32 0, .slice none 0 0, .int .i64 0, .pointer none, .map none, .slice none 0 0, .int .i64 0, .int .u32 0, .bool false, .bool false, .bool false, .bool false] 86)).setRow w.heap.size x.c = w' ∧ Row w' w.heap.size 86 x.c ∧ Below w.heap.size w w' ∧ Row (w.alloc (.cells #[.bool false, .pointer none, .pointer none, .pointer none, .pointer none, .pointer none, .int .u32 0, .bool false, .int .u32 0, .int .u32 0, .int .u32 0, .int .u32 0, .bool false, .slice none 0 0, .pointer none, .int .u32 0, .slice none 0 0, .int .i64 0, .pointer none, .map none, .slice none 0 0, .int .i64 0, .int .u32 0, .bool false, .bool false, .bool false, .bool false] 86)) w.heap.size 86 #[.bool false, .pointer none, .pointer none, .pointer none, .pointer none, .pointer none, .int .u32 0, .bool false, .int .u32 0, .int .u32 0, .int .u32 0, .int .u32 0, .bool false, .slice none 0 0, .pointer none, .int .u32 0, .slice none 0 0, .int .i64 0, .pointer none, .map none, .slice none 0 0, .int .i64 0, .int .u32 0, .bool false, .bool false, .bool false, .bool false] :=
  ⟨_, rfl, (Row.new w _ _).setRow _, below_setRow ((Below.refl _ _).alloc (Nat.le_refl _) _) _ _ (Nat.le_refl _), Row.new w _ _⟩
theorem cc_size (x : Cc) : x.c.size = 27 := by unfold Cc.c; rfl
attribute [local irreducible] Cc.c evc Fm.c St.c

set_option maxRecDepth 100000 in
set_option maxHeartbeats 4000000 in
theorem cnew_srv (w : World) (hG : GlobE w) : Calls Tryz.prog 23 #[.bool true, .int .u32 0] w (NewP w) := by
  have hn := new_any w true hG
  go_enter Tryz.func23, Tryz.ntmps23
  go_wp2_with fail
  refine hn.mono ?_
  rintro e w1 ⟨g, rfl, b, h1, hg, hb, hb1⟩
  have HS : Hid (Spl w1 g b [] true false) := by show Spl _ _ _ _ _ _; have := h1.spl; rwa [heldL_nil] at this
  have HB := Lib.hid hb1
  clear h1 hb1 hn hG
  go_wp2_with fail
  refine (gat_new _).mono ?_
  rintro e w2 ⟨ga, rfl, _, hb2⟩
  have HS2 := Lib.hid (HS.out.below hb2)
  have HB2 := Lib.hid (HB.out.trans (hb2.mono HB.out.size))
  clear hb2 HS HB
  go_wp2_with fail
  refine (dec_new _).mono ?_
  rintro e w3 ⟨de, rfl, _, hb3⟩
  have HS3 := Lib.hid (HS2.out.below hb3)
  have HB3 := Lib.hid (HB2.out.trans (hb3.mono HB2.out.size))
  clear hb3 HS2 HB2
  go_wp2_with fail
  refine (enc_new _).mono ?_
  rintro e w4 ⟨en, rfl, _, hb4⟩
  have HS4 := Lib.hid (HS3.out.below hb4)
  have HB4 := Lib.hid (HB3.out.trans (hb4.mono HB3.out.size))
  have HB4S := Lib.hid HB4.out.size
  clear hb4 HS3 HB3
  go_wp2_with fail
  refine (new_anyG _).mono ?_
  rintro e w5 ⟨ow, rfl, hsd, hb5⟩
  have HS5 := Lib.hid (HS4.out.below hb5)
  have HB5 := Lib.hid (HB4.out.trans (hb5.mono HB4.out.size))
  have HD5 := Lib.hid hsd
  clear hb5 HS4 HB4 hsd
  go_wp2_with fail
  refine (begi_any _).mono ?_
  rintro e w6 ⟨rfl, hb6⟩
  have HS6 := Lib.hid (HS5.out.below hb6)
  have HB6 := Lib.hid (HB5.out.trans (hb6.mono HB5.out.size))
  have HD6 := Lib.hid (HD5.out.below hb6)
  clear hb6 HS5 HB5 HD5
  go_wp2_with fail
  refine (mof_any (n := 65535) (by omega) false _).mono ?_
  rintro e w7 ⟨mt, rfl, _, hb7, _⟩
  have HS7 := Lib.hid (HS6.out.below hb7)
  have HB7 := Lib.hid (HB6.out.trans (hb7.mono HB6.out.size))
  have HD7 := Lib.hid (HD6.out.below hb7)
  clear hb7 HS6 HB6 HD6
  go_wp2_with fail
  refine (ring_new _).mono ?_
  rintro e w8 ⟨rg, rfl, _, hb8⟩
  have HS8 := Lib.hid (HS7.out.below hb8)
  have HB8 := Lib.hid (HB7.out.trans (hb8.mono HB7.out.size))
  have HD8 := Lib.hid (HD7.out.below hb8)
  clear hb8 HS7 HB7 HD7
  have hmk := make_streams
  have hM := MapM.new w8
  have hmb : Below w8.heap.size w8 (w8.alloc (.map #[] 0)) := (Below.refl _ _).alloc (Nat.le_refl _) _
  have hms : (w8.alloc (.map #[] 0)).heap.size = w8.heap.size + 1 := by simp
  obtain ⟨wc, hwc, t1, t2, t3⟩ := conn_var (w8.alloc (.map #[] 0)) (srvC g ga de en ow mt rg w8.heap.size)
  rw [hms] at hwc t1 t3
  have HWC := Lib.hid hwc
  have T1 := Lib.hid t1
  have T3 := Lib.hid t3
  have HSC := Lib.hid (HS8.out.below (hmb.trans (t2.mono (by omega))))
  have HBC := Lib.hid (HB8.out.trans ((hmb.trans (t2.mono (by omega))).mono HB8.out.size))
  have HDC := Lib.hid (HD8.out.below (hmb.trans (t2.mono (by omega))))
  have HMC := Lib.hid (hM.below t2)
  have hsz := cc_size (srvC g ga de en ow mt rg w8.heap.size)
  have HSZ := Lib.hid hsz
  have hls := HS8.out.lts
  have HBD : Hid (w.heap.size ≤ ow) := by show _ ≤ _; have h1 := HD8.out.gl; have h2 := HB4S.out; omega
  have how := HD8.out.row.lt
  have hbw := HB8.out.size
  have hb4 := HD8.out.gl
  clear hwc t1 t2 t3 hmb hms hM HS8 HB8 HD8 hsz
  go_upto_region 2 with (first | (refine wpList_build_is rfl 86 _ rfl (srvC g ga de en ow mt rg w8.heap.size).c (by kernel_rfl) ?_) | (refine wpList_sw rfl _ _ rfl rfl rfl T3.out (by rw [HSZ.out]; rfl) (srv_ag _ _ _ _ _ _ _ _) ?_))
  rw [HWC.out]
  clear HWC T3 HSZ hmk
  generalize w8.heap.size = m at *
  have hH : Hot wc (m + 1) (srvC g ga de en ow mt rg m) [] [] := ⟨T1.out, Bo.nil, EvL.nil _⟩
  have hF0 : ∀ k, HotF (m + 1) (srvC g ga de en ow mt rg m) k → k = m + 1 := fun k hk => by
    rcases hk with hk | hk | hk
    · exact hk
    · simp [srvC, ob, Value.ownBlock] at hk
    · simp [srvC, ob, Value.ownBlock] at hk
  have hsb0 : ∀ k, sb ow (.slice none 0 0) k → k = ow := fun k hk => by
    rcases hk with hk | hk
    · exact hk
    · simp [ob, Value.ownBlock] at hk
  have hst := setts_srv hH (by simp) rfl rfl HDC.out (by have := HDC.out.row.lt; have := T1.out.lt; omega) (fun k h1 h2 => by have := hF0 k h1; have := hsb0 k h2; omega)
  have c0 := cc0 T1.out
  have H0 : Hid (wc.cell? ⟨m + 1, 0, none⟩ = some (.bool true)) := c0
  have HST := Lib.hid hst
  have HF0 := Lib.hid hF0
  have HSB := Lib.hid hsb0
  clear hst hH hF0 hsb0 c0
  go_wp2_with fail
  refine HST.out.mono ?_
  rintro e w9 ⟨rfl, v, h9, hf9, hn9⟩
  have HH := Lib.hid h9
  have hgS : ¬ (HotF (m + 1) (srvC g ga de en ow mt rg m) g ∨ sb ow (.slice none 0 0) g) := fun h => by
    rcases h with h | h
    · have := HF0.out _ h; omega
    · have := HSB.out _ h
      subst this
      rcases HSC.out with ⟨_, fi, la, L, hG, _⟩ | ⟨h0, _⟩
      · exact cc_nt hG.row HDC.out.row (by decide) rfl
      · cases h0
  have hbS : ¬ (HotF (m + 1) (srvC g ga de en ow mt rg m) b ∨ sb ow (.slice none 0 0) b) := fun h => by
    rcases h with h | h
    · have := HF0.out _ h; omega
    · have := HSB.out _ h
      subst this
      rcases HSC.out with ⟨_, fi, la, L, hG, _⟩ | ⟨h0, _⟩
      · exact cc_nt hG.buf HDC.out.row (by decide) rfl
      · cases h0
  have hmS : ¬ (HotF (m + 1) (srvC g ga de en ow mt rg m) m ∨ sb ow (.slice none 0 0) m) := fun h => by
    rcases h with h | h
    · have := HF0.out _ h; omega
    · have := HSB.out _ h; omega
  have HSP := Lib.hid (HSC.out.fs hf9 hgS hbS)
  have HMP := Lib.hid (HMC.out.fs hf9 hmS)
  have HBP := Lib.hid (HBC.out.trans (hf9.below (B := w.heap.size) (fun k hk _ => by
    rcases hk with hk | hk
    · have := HF0.out _ hk; omega
    · have := HSB.out _ hk
      have := HBD.out
      omega) HBC.out.size))
  have HN : Hid (∀ k, HotF (m + 1) { srvC g ga de en ow mt rg m with row := v } k → w.heap.size ≤ k ∧ ¬ gbS g b k) := fun k hk => by
    rcases hn9 k hk with h | h
    · have := HF0.out _ h
      exact ⟨by omega, fun h => by rcases h with h | h <;> omega⟩
    · have := T1.out.lt
      exact ⟨by omega, fun h => by rcases h with h | h <;> omega⟩
  clear h9 hf9 hn9 hgS hbS hmS
  go_wp2_with fail
  go_ret
  exact ⟨m + 1, g, b, m, ga, de, en, ow, mt, rg, v, rfl, HH.out, HSP.out, HMP.out, HN.out, fun h => by rcases h with h | h <;> omega, hg, hb, HBP.out⟩
end Go.Proofs.YtooaajnkiokpnaaGreatDoor

namespace Go.Proofs.YtooaajnkiokpnaaGreatDoor
open Go.RowKit Go.WideShapes

theorem evF_c (n : Nat) : evc (evF n) = #[.int .u8 6, .int .u32 0, .slice none 0 0, .slice none 0 0, .bool false, .int .u32 0, .int .u8 1, .int .u32 n] := by unfold evc evF; rfl
theorem HP.glob {w w' : World} {c : Nat} {x x' : Cc} {R : List UInt8} {L : List Ev} (h : HP w c x x' R L w') (hG : GlobE w) (hc : ¬ HotF c x 0) : GlobE w' := (World.cell?_of_block (a := ⟨0, 0, none⟩) (h.fs.block _ (blk_lt hG) hc)).trans hG
attribute [local irreducible] Cc.c evc Fm.c

set_option maxRecDepth 100000 in
set_option maxHeartbeats 2000000 in
theorem hot_fail {w : World} {c : Nat} {x : Cc} {R : List UInt8} {L : List Ev} (h : Hot w c x R L) (hl : R.length ≤ 100000000000) (hn : L.length ≤ 100000) {code : Nat} (hc : code < 4294967296) (hla : x.la ≤ 2147483647) (hG : GlobE w) (hF : ¬ HotF c x 0) :
    Calls Tryz.prog 68 #[.pointer (some ⟨c, 0, none⟩), .int .u32 code] w (DoneP fun w' => ∃ v u, HP w c x { x with row := v, ev := u, go := true } (R ++ putL7 (awF code (awO x))) (L ++ [evF code]) w') := by
  have haw := hot_away h hl hc hla
  have HE := evF_c code
  have HG := Lib.hid hG
  clear hG
  go_enter Tryz.func68, Tryz.ntmps68
  go_wp2_with fail
  refine haw.mono ?_
  rintro e w1 ⟨rfl, v, h1⟩
  have c26 := cc26 h1.hot.row
  have z26 := h1.hot.row.thawed 26
  have h2 := h1.trans (HP.set (x' := { x with row := v, go := true }) h1.hot 26 (.bool true) (cc_go h1.hot.row true) rfl rfl)
  have HG2 := Lib.hid (h2.glob HG.out hF)
  have H2 := Lib.hid h2
  clear h2 h1 haw HG
  go_upto_region 2 with fail
  generalize w1.setCell ⟨c, 26, none⟩ (.bool true) = w2 at *
  clear c26 z26
  go_wp2_with fail
  refine (conn_any code w2).mono ?_
  rintro e w3 ⟨g, rfl, hr, hb3⟩
  have hG3 := HG2.out.below hb3
  have H3 := Lib.hid (H2.out.then_below hb3)
  have hof := of_row hr hG3
  clear hr hb3 HG2 H2 hG3
  go_wp2_with fail
  refine hof.mono ?_
  rintro e w4 ⟨rfl, hb4⟩
  have H4 := Lib.hid (H3.out.then_below hb4)
  clear hb4 hof H3
  have ht := hot_tell H4.out.hot hn (evF code)
  rw [HE] at ht
  have HE2 := Lib.hid HE
  clear HE
  go_wp2_with fail
  refine ht.mono ?_
  rintro e w5 ⟨rfl, u, h5⟩
  have H5 := Lib.hid (H4.out.trans h5)
  clear h5 ht H4
  go_wp2_with fail
  go_end0
  exact ⟨rfl, v, u, H5.out⟩
/-- State answers something of a stream. -/
def StOk (w : World) (c n : Nat) : Prop := ∀ W, Below w.heap.size w W → Calls Tryz.prog 18 #[.pointer (some ⟨c, 0, none⟩), .int .u32 n] W fun e w' => ∃ s : Nat, e = .returned (.int .u8 s) ∧ w' = W
theorem StOk.no {w : World} {c g n : Nat} {x : Cc} {S : List (Nat × Nat)} (h : Row w c 86 x.c) (hsm : x.sm = .map (some g)) (hM : MapM w g S) (hn : atM S n 0 = none) : StOk w c n := fun W hb =>
  (state_no (h.below hb h.lt) hsm (hM.below hb) hn).mono fun e w' ⟨h1, h2⟩ => ⟨if wasB x.la n = true then 5 else 0, by rw [h1]; split <;> rfl, h2⟩
theorem StOk.below {w w' : World} {c n : Nat} (h : StOk w c n) (hb : Below w.heap.size w w') : StOk w' c n := fun W hb2 => h W (hb.trans (hb2.mono hb.size))

set_option maxRecDepth 100000 in
set_option maxHeartbeats 2000000 in
theorem hot_meet {w : World} {c n g : Nat} {x : Cc} {R : List UInt8} {L : List Ev} (h : Hot w c x R L) (hl : R.length ≤ 100000000000) (hn : L.length ≤ 100000) {code : Nat} (hc : code < 4294967296) (hla : x.la ≤ 2147483647) (hG : GlobE w) (hF : ¬ HotF c x 0) (hst : StOk w c n) (hr : Row w g 174 #[.int .u8 1, .int .u32 code]) :
    Calls Tryz.prog 67 #[.pointer (some ⟨c, 0, none⟩), .int .u32 n, .iface 172 (.pointer (some ⟨g, 0, none⟩))] w (DoneP fun w' => ∃ v u, HP w c x { x with row := v, ev := u, go := true } (R ++ putL7 (awF code (awO x))) (L ++ [evF code]) w') := by
  have hof := of_row hr hG
  have HG := Lib.hid hG
  have HS := Lib.hid hst
  have H := Lib.hid (HP.refl h)
  clear hG hr hst h
  go_enter Tryz.func67, Tryz.ntmps67
  go_wp2_with fail
  refine hof.mono ?_
  rintro e w1 ⟨rfl, hb1⟩
  have hb2 : Below w.heap.size w (w1.alloc (.cells #[.int .u8 1, .int .u32 code] 29)) := hb1.alloc hb1.size _
  have HB2 := Lib.hid hb2
  have hX : Row (w1.alloc (.cells #[.int .u8 1, .int .u32 code] 29)) w1.heap.size 29 #[.int .u8 1, .int .u32 code] := Row.new _ _ _
  have HX := Lib.hid hX
  clear hb1 hb2 hof hX
  go_upto_region 1 with fail
  generalize w1.alloc (.cells #[.int .u8 1, .int .u32 code] 29) = w2 at *
  generalize w1.heap.size = p at *
  have f0 := HX.out.cell (j := 0) (v := .int .u8 1) rfl
  have f1 := HX.out.cell (j := 1) (v := .int .u32 code) rfl
  have hst2 := HS.out w2 HB2.out
  have hfl := hot_fail (H.out.then_below HB2.out).hot hl hn hc hla (HG.out.below HB2.out) hF
  have H2 := Lib.hid (H.out.then_below HB2.out)
  clear HS HG HX HB2 H
  go_wp2_with fail
  refine hst2.mono ?_
  rintro e w3 ⟨s, rfl, rfl⟩
  go_wp2_with fail
  refine hfl.mono ?_
  rintro e w4 ⟨rfl, v, u, h4⟩
  have H4 := Lib.hid (H2.out.trans h4)
  clear h4 hfl H2
  go_wp2_with fail
  go_end0
  exact ⟨rfl, v, u, H4.out⟩

theorem and1C : ∀ b : Fin 256, (bits .and .u8 (b.val : Int) 1) = ((b.val % 2 : Nat) : Int) := by decide +kernel
theorem bit1C (n : Nat) : ((((n % 2 : Nat)) : Int) != 0) = decide (n % 2 = 1) := by
  by_cases h : n % 2 = 1
  · rw [h]; rfl
  · rw [show n % 2 = 0 by omega]; rfl
/-- The first frame isn't the other side's settings. -/
def FirstBad (x : Cc) (X : Fm) : Prop := x.be = false ∧ X.fl < 256 ∧ X.ty ≠ 4
set_option maxRecDepth 100000 in
set_option maxHeartbeats 2000000 in
theorem come_first {w : World} {c : Nat} {x : Cc} (h : Row w c 86 x.c) (X : Fm) (hX : FirstBad x X) :
    Calls Tryz.prog 66 #[.pointer (some ⟨c, 0, none⟩), .agg X.c] w (Err 1 1 w) := by
  obtain ⟨hbe, hfl, hty⟩ := hX
  have hb : Below w.heap.size w (w.alloc (.cells X.c 66)) := (Below.refl _ _).alloc (Nat.le_refl _) _
  have c23 := cc23 (h.below hb h.lt)
  rw [hbe] at c23
  obtain ⟨f0, f1, _⟩ := fm_cells (Row.new w 66 X.c)
  have HB := Lib.hid hb
  have hn1 := and1C ⟨X.fl, hfl⟩
  simp only at hn1
  have hb1 := bit1C X.fl
  have ht : ((X.ty : Int) != 4) = true := bne_iff_ne.2 (by omega)
  generalize decide (X.fl % 2 = 1) = ack at hb1
  generalize X.fl % 2 = z at hn1 hb1
  clear hb h hbe hfl hty
  go_enter Tryz.func66, Tryz.ntmps66
  go_upto_region 1 with fail
  generalize w.alloc (.cells X.c 66) = w1 at *
  obtain ⟨p, hpp⟩ : ∃ p, w.heap.size = p := ⟨_, rfl⟩
  rw [hpp] at HB f0 f1 ⊢
  have HPQ := Lib.hid hpp
  clear hpp
  go_wp2_with fail
  refine (conn_any 1 w1).mono ?_
  rintro e w2 ⟨g, rfl, hr, hb2⟩
  have HR := Lib.hid hr
  have HB2 := Lib.hid (HB.out.trans (hb2.mono (by have := HB.out.size; have := HPQ.out; omega)))
  clear hr hb2
  go_wp2_with fail
  go_ret
  exact ⟨g, rfl, HR.out, by rw [HPQ.out]; exact HB2.out⟩
theorem ft_agC (s c : Nat) : AgOk Tryz.prog 29 (ftc s c) := ⟨⟨_, Tryz.underlying29⟩, fault_info7, by unfold ftc; kernel_rfl⟩
theorem new_none (s c : Int) (h : s = 0) (w : World) : Calls Tryz.prog 65 #[.agg #[.int .u8 s, .int .u32 c]] w fun e w' => e = .returned .nilIface ∧ Below w.heap.size w w' := by
  subst h
  have hc := scope_any 0 c
  rw [show sc 0 = 0 from rfl] at hc
  go_enter Tryz.func65, Tryz.ntmps65
  go_wp2_with (go_at_call 101; refine (hc _).mono ?_; rintro e w' ⟨rfl, rfl⟩)
  go_ret
  exact ⟨rfl, ((Below.refl _ _).alloc (Nat.le_refl _) _).alloc (by simp) _⟩
set_option maxRecDepth 100000 in
set_option maxHeartbeats 2000000 in
theorem take_first {w : World} {c : Nat} {x : Cc} {R : List UInt8} {L : List Ev} (h : Hot w c x R L) (hl : R.length ≤ 100000000000) (hn : L.length ≤ 100000) (hla : x.la ≤ 2147483647) (hG : GlobE w) (hF : ¬ HotF c x 0) (X : Fm) (hst : StOk w c X.st) (hX : FirstBad x X) :
    Calls Tryz.prog 31 #[.pointer (some ⟨c, 0, none⟩), .agg X.c, .agg (ftc 0 0)] w (DoneP fun w' => ∃ v u, HP w c x { x with row := v, ev := u, go := true } (R ++ putL7 (awF 1 (awO x))) (L ++ [evF 1]) w') := by
  have HZ : Hid (ftc 0 0 = #[.int .u8 0, .int .u32 0]) := ftc_eq 0 0
  obtain ⟨w1, hw1⟩ : ∃ w1, (w.alloc (.cells X.c 66)).alloc (.cells (ftc 0 0) 29) = w1 := ⟨_, rfl⟩
  have hb1 : Below w.heap.size w w1 := by rw [← hw1]; exact ((Below.refl _ _).alloc (Nat.le_refl _) _).alloc (by simp) _
  have hXr : Row w1 w.heap.size 66 X.c := by rw [← hw1]; exact (Row.new w _ _).alloc _
  have hTr : Row w1 (w.heap.size + 1) 29 (ftc 0 0) := by rw [← hw1]; exact Row.made _ _ _ (by simp)
  have HX := Lib.hid hXr
  have HT := Lib.hid hTr
  have HB := Lib.hid hb1
  have HW := Lib.hid hw1
  have H := Lib.hid (HP.of_below h hb1)
  have HG := Lib.hid (hG.below hb1)
  have HS := Lib.hid (hst.below hb1)
  have HXX := Lib.hid hX
  clear h hG hst hX hb1 hXr hTr hw1
  go_enter Tryz.func31, Tryz.ntmps31
  go_upto_region 1 with fail
  rw [HW.out]
  clear HW
  have f2 := (fm_cells HX.out).2.2.1
  have hnw := new_none 0 0 rfl w1
  rw [← HZ.out] at hnw
  go_wp2_with (refine wpList_ld rfl _ rfl rfl HT.out (ft_agC 0 0) ?_)
  refine hnw.mono ?_
  rintro e w2 ⟨rfl, hb2⟩
  have H2 := Lib.hid (H.out.then_below hb2)
  have HX2 := Lib.hid (HX.out.below hb2 HX.out.lt)
  have HB2 := Lib.hid (HB.out.trans (hb2.mono HB.out.size))
  have HG2 := Lib.hid (HG.out.below hb2)
  have HS2 := Lib.hid (HS.out.below hb2)
  have hco := come_first H2.out.hot.row X HXX.out
  clear hb2 H HX HT HB HG HS HZ f2 hnw
  go_wp2_with (refine wpList_fm rfl _ rfl rfl HX2.out ?_)
  refine hco.mono ?_
  rintro e w3 ⟨g, rfl, hr, hb3⟩
  have H3 := Lib.hid (H2.out.then_below hb3)
  have f3 := (fm_cells (HX2.out.below hb3 HX2.out.lt)).2.2.1
  have hme := hot_meet H3.out.hot hl hn (code := 1) (by decide) hla (HG2.out.below hb3) hF (HS2.out.below hb3) hr
  clear hb3 hr H2 HX2 HB2 HG2 HS2 hco
  go_wp2_with fail
  refine hme.mono ?_
  rintro e w4 ⟨rfl, v, u, h4⟩
  have H4 := Lib.hid (H3.out.trans h4)
  have c26 := cc26 h4.hot.row
  have c17 := cc17 h4.hot.row
  clear h4 hme H3 f3
  go_wp2_with fail
  go_end0
  exact ⟨rfl, v, u, H4.out⟩
end Go.Proofs.YtooaajnkiokpnaaGreatDoor

namespace Go.Proofs.YtooaajnkiokpnaaGreatDoor
open Go.RowKit Go.WideShapes

theorem ev0_c : evc ev0 = #[.int .u8 0, .int .u32 0, .slice none 0 0, .slice none 0 0, .bool false, .int .u32 0, .int .u8 0, .int .u32 0] := by unfold evc ev0; rfl
/-- Does none wait? A measure. -/
def evN : Option Value → Nat
  | some (.slice _ n _) => if n = 0 then 1 else 0
  | _ => 0
def evM (w : World) (c : Nat) : Nat := evN (w.cell? ⟨c, 13, none⟩)
theorem evM_none {w : World} {c : Nat} {A : Option Addr} {n : Nat} (h : w.cell? ⟨c, 13, none⟩ = some (.slice A 0 n)) : evM w c = 1 := by unfold evM; rw [h]; rfl
theorem evM_one {w : World} {c : Nat} {A : Option Addr} {n : Nat} (h : w.cell? ⟨c, 13, none⟩ = some (.slice A 1 n)) : evM w c = 0 := by unfold evM; rw [h]; rfl
/-- Between the loop's rounds: the fault isn't met yet, or it is told. -/
def PoR (w w1 : World) (c g b p : Nat) (x : Cc) (R : List UInt8) (wr : World) : Prop := Row wr p 31 (evc ev0) ∧ (wr = w1 ∨ ∃ v u, Hot wr c { x with row := v, ev := u, go := true } (R ++ putL7 (awF 1 (awO x))) [evF 1] ∧ Fs (fun k => HotF c x k ∨ gbS g b k) w wr ∧ ∀ k, HotF c { x with row := v, ev := u, go := true } k → HotF c x k ∨ w.heap.size ≤ k)
/-- The variables of a frame and of a fault, laid and stored into. -/
theorem fr_ft (w : World) (X : Fm) (s c : Nat) : ∃ w', ((((w.alloc (.cells #[.int .u8 0, .int .u8 0, .int .u32 0, .slice none 0 0, .int .i64 0, .int .u32 0, .int .u32 0, .int .u8 0, .bool false, .int .u32 0, .slice none 0 0] 66)).alloc (.cells #[.int .u8 0, .int .u32 0] 29)).setRow w.heap.size X.c).setRow (w.heap.size + 1) (ftc s c)) = w' ∧
    Row w' w.heap.size 66 X.c ∧ Row w' (w.heap.size + 1) 29 (ftc s c) ∧ Below w.heap.size w w' ∧
    Row ((w.alloc (.cells #[.int .u8 0, .int .u8 0, .int .u32 0, .slice none 0 0, .int .i64 0, .int .u32 0, .int .u32 0, .int .u8 0, .bool false, .int .u32 0, .slice none 0 0] 66)).alloc (.cells #[.int .u8 0, .int .u32 0] 29)) w.heap.size 66 (fm0 0 0 0 0).c ∧
    Row (((w.alloc (.cells #[.int .u8 0, .int .u8 0, .int .u32 0, .slice none 0 0, .int .i64 0, .int .u32 0, .int .u32 0, .int .u8 0, .bool false, .int .u32 0, .slice none 0 0] 66)).alloc (.cells #[.int .u8 0, .int .u32 0] 29)).setRow w.heap.size X.c) (w.heap.size + 1) 29 (ftc 0 0) := by
  have h1 : Row ((w.alloc (.cells #[.int .u8 0, .int .u8 0, .int .u32 0, .slice none 0 0, .int .i64 0, .int .u32 0, .int .u32 0, .int .u8 0, .bool false, .int .u32 0, .slice none 0 0] 66)).alloc (.cells #[.int .u8 0, .int .u32 0] 29)) w.heap.size 66 (fm0 0 0 0 0).c := by rw [z_c]; exact (Row.new w _ _).alloc _
  have h2 : Row ((w.alloc (.cells #[.int .u8 0, .int .u8 0, .int .u32 0, .slice none 0 0, .int .i64 0, .int .u32 0, .int .u32 0, .int .u8 0, .bool false, .int .u32 0, .slice none 0 0] 66)).alloc (.cells #[.int .u8 0, .int .u32 0] 29)) (w.heap.size + 1) 29 (ftc 0 0) := by rw [ftc_eq]; exact Row.made _ _ _ (by simp)
  have h3 := h2.setRow' (k := w.heap.size) (by omega) X.c
  refine ⟨_, rfl, (h1.setRow _).setRow' (by omega) _, h3.setRow _, ?_, h1, h3⟩
  exact below_setRow (below_setRow (((Below.refl _ _).alloc (Nat.le_refl _) _).alloc (by simp) _) _ _ (Nat.le_refl _)) _ _ (by omega)
theorem ev_var (w : World) (y : Ev) : ∃ w', (w.alloc (.cells #[.int .u8 0, .int .u32 0, .slice none 0 0, .slice none 0 0, .bool false, .int .u32 0, .int .u8 0, .int .u32 0] 31)).setRow w.heap.size (evc y) = w' ∧ Row w' w.heap.size 31 (evc y) ∧ Below w.heap.size w w' ∧
    Row (w.alloc (.cells #[.int .u8 0, .int .u32 0, .slice none 0 0, .slice none 0 0, .bool false, .int .u32 0, .int .u8 0, .int .u32 0] 31)) w.heap.size 31 (evc ev0) := by
  have h1 : Row (w.alloc (.cells #[.int .u8 0, .int .u32 0, .slice none 0 0, .slice none 0 0, .bool false, .int .u32 0, .int .u8 0, .int .u32 0] 31)) w.heap.size 31 (evc ev0) := by rw [ev0_c]; exact Row.new w _ _
  exact ⟨_, rfl, h1.setRow _, below_setRow ((Below.refl _ _).alloc (Nat.le_refl _) _) _ _ (Nat.le_refl _), h1⟩
/-- No events any more. -/
theorem Hot.cleared {w : World} {c : Nat} {x : Cc} {R : List UInt8} {L : List Ev} (h : Hot w c x R L) (v : Value) : Hot ((w.setCell ⟨c, 13, none⟩ v).setCell ⟨c, 13, none⟩ (.slice none 0 0)) c { x with ev := .slice none 0 0 } R [] ∧ Fs (HotF c x) w ((w.setCell ⟨c, 13, none⟩ v).setCell ⟨c, 13, none⟩ (.slice none 0 0)) :=
  ⟨⟨cc_ev (cc_ev h.row v) _, OwS.setCell (a := ⟨c, 13, none⟩) (OwS.setCell (a := ⟨c, 13, none⟩) h.bo (row_ne h.row h.bo) _) (row_ne h.row h.bo) _, EvL.nil _⟩, ((Fs.refl _ _).setCell (fun _ => .inl rfl) _ _).setCell (fun _ => .inl rfl) _ _⟩
/-- What Poll leaves. -/
def PolP (w : World) (c g b : Nat) (x : Cc) (R : List UInt8) (e : Ending) (w' : World) : Prop :=
  e = .returned (.tuple #[.agg (evc (evF 1)), .bool true]) ∧ ∃ v u, Hot w' c { x with row := v, ev := u, go := true } (R ++ putL7 (awF 1 (awO x))) [] ∧ Fs (fun k => HotF c x k ∨ gbS g b k) w w'
attribute [local irreducible] Cc.c evc Fm.c ftc

set_option maxRecDepth 100000 in
set_option maxHeartbeats 4000000 in
theorem poll_first {w : World} {c g b : Nat} {x : Cc} {R : List UInt8} (h : Hot w c x R []) (hl : R.length ≤ 100000000000) (hla : x.la ≤ 2147483647) (hG : GlobE w) (hF : ¬ HotF c x 0) (hgo : x.go = false) (hbe : x.be = false) (hsp : x.sp = .pointer (some ⟨g, 0, none⟩)) {l r : List UInt8} {wt bad w2 bad2 : Bool} {F : Frm}
    (hS : Spl w g b l wt bad) (hns : nsN l wt bad = (some (F, 0, 0), r, w2, bad2)) (hty : F.ty ≠ 4) (hfl : F.fl < 256) {m : Nat} {T : List (Nat × Nat)} (hsm : x.sm = .map (some m)) (hM : MapM w m T) (hat : atM T F.st 0 = none) (hmd : ¬ gbS g b m) (hd : ∀ k, HotF c x k → ¬ gbS g b k) (hgE : ¬ gbS g b 0) :
    Calls Tryz.prog 9 #[.pointer (some ⟨c, 0, none⟩)] w (PolP w c g b x R) := by
  obtain ⟨A0, c0, hev⟩ := h.shape
  have hb1 : Below w.heap.size w (w.alloc (.cells #[.int .u8 0, .int .u32 0, .slice none 0 0, .slice none 0 0, .bool false, .int .u32 0, .int .u8 0, .int .u32 0] 31)) := (Below.refl _ _).alloc (Nat.le_refl _) _
  have hX1 : Row (w.alloc (.cells #[.int .u8 0, .int .u32 0, .slice none 0 0, .slice none 0 0, .bool false, .int .u32 0, .int .u8 0, .int .u32 0] 31)) w.heap.size 31 (evc ev0) := by rw [ev0_c]; exact Row.new w _ _
  have HB1 := Lib.hid hb1
  have HX1 := Lib.hid hX1
  have H1 := Lib.hid (HP.of_below h hb1)
  have HS1 := Lib.hid (hS.below hb1)
  have HG1 := Lib.hid (hG.below hb1)
  have HEV := Lib.hid hev
  have HNS := Lib.hid hns
  have HSM := Lib.hid hsm
  have HM1 := Lib.hid (hM.below hb1)
  have HAT := Lib.hid hat
  have HD := Lib.hid hd
  have HGO := Lib.hid hgo
  have HBE := Lib.hid hbe
  have HSP := Lib.hid hsp
  have HLS : Hid (∀ k, gbS g b k → k < w.heap.size) := fun k hk => by rcases hk with rfl | rfl; exact hS.lts.1; exact hS.lts.2.1
  have HLH : Hid (∀ k, HotF c x k → k < w.heap.size) := fun k hk => h.lt hk
  clear h hS hG hev hns hsm hM hat hd hgo hbe hsp hb1 hX1
  go_enter Tryz.func9, Tryz.ntmps9
  go_upto_region 1 with fail
  generalize w.alloc (.cells #[.int .u8 0, .int .u32 0, .slice none 0 0, .slice none 0 0, .bool false, .int .u32 0, .int .u8 0, .int .u32 0] 31) = w1 at *
  obtain ⟨p, hpp⟩ : ∃ p, w.heap.size = p := ⟨_, rfl⟩
  rw [hpp] at HB1 HX1 ⊢
  have HPQ := Lib.hid hpp
  clear hpp
  go_wp2_with fail
  go_loopw [] (fun wr => PoR w w1 c g b p x R wr) (fun wr => evM wr c)
  case atStart => exact ⟨HX1.out, .inl rfl⟩
  case round =>
    obtain ⟨hxp, hr⟩ := hrel
    have HXP := Lib.hid hxp
    clear hxp
    rcases hr with hr | hr
    · obtain rfl : wr = w1 := hr
      have c13 : wr.cell? ⟨c, 13, none⟩ = some (.slice A0 0 c0) := by rw [cc13 H1.out.hot.row, HEV.out]; rfl
      have c26 := cc26 H1.out.hot.row
      rw [HGO.out] at c26
      have c1 := cc1 H1.out.hot.row
      rw [HSP.out] at c1
      have hn := Next_any HS1.out HG1.out
      rw [HNS.out] at hn
      have HM := Lib.hid (evM_none c13)
      go_wp2_with fail
      refine hn.mono ?_
      rintro e w2 ⟨v, rfl, ⟨X, s, cc, ok, rfl, rfl, rfl, rfl, hX⟩, _, hf2⟩
      have H2 : Hid (Hot w2 c x R []) := H1.out.hot.of_fs hf2 HD.out
      have HF2 : Hid (Fs (fun k => HotF c x k ∨ gbS g b k) w w2) := (H1.out.fs.mono fun k _ hk => .inl hk).trans hf2 fun k _ hk => .inr hk
      have HG2 := Lib.hid (HG1.out.fs hf2 hgE)
      have hst2 := StOk.no H2.out.row HSM.out (HM1.out.fs hf2 hmd) HAT.out
      obtain ⟨w3, hw3, t1, t2, t3, t4, t5⟩ := fr_ft w2 X 0 0
      have HW3 := Lib.hid hw3
      have TX := Lib.hid t1
      have TF := Lib.hid t2
      have TX0 := Lib.hid t4
      have TF0 := Lib.hid t5
      have H3 := Lib.hid (H2.out.below t3)
      have HF3 := Lib.hid (HF2.out.then_below t3)
      have HG3 := Lib.hid (HG2.out.below t3)
      have HS3 := Lib.hid (hst2.below t3)
      have HXP3 : Hid (Row w3 p 31 (evc ev0)) := ((hf2.row (fun hk => by have := HLS.out p hk; have := HPQ.out; omega) HXP.out).below t3 (hf2.row (fun hk => by have := HLS.out p hk; have := HPQ.out; omega) HXP.out).lt)
      have HXst : Hid (X.st = F.st) := by show _ = _; rw [hX.eq]; rfl
      have HFB : Hid (FirstBad x X) := ⟨HBE.out, by rw [hX.eq]; exact hfl, by rw [hX.eq]; exact hty⟩
      clear hX hf2 hn hst2 hw3 t1 t2 t3 t4 t5 H2 HF2 HG2 c13 c26 c1
      go_upto_region 7 with (first | (refine wpList_sfm (x := X) rfl _ _ rfl rfl rfl TX0.out ?_) | (refine wpList_sft (s := 0) (c := 0) rfl _ _ rfl rfl rfl TF0.out ?_))
      rw [HW3.out]
      clear HW3 TX0 TF0
      generalize w2.heap.size = q at *
      have htk := take_first H3.out hl (by simp) hla HG3.out hF X (by rw [HXst.out]; exact HS3.out) HFB.out
      go_wp2_with (first | (refine wpList_fm rfl _ rfl rfl TX.out ?_) | (refine wpList_ld rfl _ rfl rfl TF.out (ft_agC 0 0) ?_))
      refine htk.mono ?_
      rintro e w4 ⟨rfl, v, u, h4⟩
      have HR : Hid (PoR w wr c g b p x R w4) := ⟨h4.fs.row (fun hk => by have := HLH.out p hk; have := HPQ.out; omega) HXP3.out, .inr ⟨v, u, h4.hot, HF3.out.trans h4.fs fun k _ hk => .inl hk, fun k hk => (h4.new k hk).imp id fun h5 => Nat.le_trans HF3.out.size h5⟩⟩
      have HM4 : Hid (evM w4 c = 0) := by
        show _ = _
        obtain ⟨A5, c5, h5⟩ := h4.hot.shape
        have := cc13 h4.hot.row
        rw [h5] at this
        exact evM_one this
      clear h4 htk TX TF H3 HF3 HG3 HS3
      go_wp2_with fail
      go_roundw
      case rel => exact HR.out
      case measure => rw [HM4.out, HM.out]; omega
    · obtain ⟨v, u, h1, hf, hnw⟩ := hr
      obtain ⟨A5, c5, h5⟩ := h1.shape
      have c13 : wr.cell? ⟨c, 13, none⟩ = some (.slice A5 1 c5) := by rw [cc13 h1.row, h5]; rfl
      have ho : OwS wr 0 31 8 (.slice A5 1 c5) 1 (enl evl [evF 1]) := by
        have h6 := h1.ev
        rw [h5] at h6
        exact h6
      obtain ⟨i0, hi0, hz0, hz1, hz2⟩ := info_parts ev_full
      obtain ⟨A6, hcut, _, _⟩ := run_tail (P := Tryz.prog) wr 0 81 31 i0 8 Tryz.underlying81 hi0 hz1 ho 1 (Nat.le_refl _)
      have hcut' : ∀ W, (Instr.slice 81 (.slice A5 1 c5) (some (.int .i64 1)) none none).run Tryz.prog W = .ok (.slice A6 0 (c5 - 1)) W := hcut
      obtain ⟨bb, q, rfl, _, hrg⟩ := ho.reads.elem evl_len (i := 0) (by simp) (by omega)
      rw [Nat.zero_mul, Nat.add_zero] at hrg
      have hrg' : wr.rangeAt bb q (evc (evF 1)).toList := hrg
      obtain ⟨w6, hw6, t1, t2, t3⟩ := ev_var wr (evF 1)
      have HW6 := Lib.hid hw6
      have T1 := Lib.hid t1
      have T3 := Lib.hid t3
      have HRG := Lib.hid hrg'
      have H6 := Lib.hid (h1.below t2)
      have HF6 := Lib.hid (hf.then_below t2)
      have HX6 := Lib.hid (HXP.out.below t2 HXP.out.lt)
      have k13 := cc13 H6.out.row
      rw [show ({ x with row := v, ev := u, go := true } : Cc).ev = .slice (some ⟨bb, q, none⟩) 1 c5 from h5] at k13
      have z13 := H6.out.row.thawed 13
      obtain ⟨h7, hf7⟩ := H6.out.cleared (.slice A6 0 (c5 - 1))
      have H7 := Lib.hid h7
      have HF7 : Hid (Fs (fun k => HotF c x k ∨ gbS g b k) w _) := HF6.out.trans hf7 (fun k hk h8 => by
        rcases hnw k h8 with h9 | h9
        · exact .inl h9
        · omega)
      have hcp : c ≠ p := fun e => by
        have := HLH.out c (.inl rfl)
        have := HPQ.out
        omega
      have y13 : ((w6.setCell ⟨c, 13, none⟩ (.slice A6 0 (c5 - 1))).cell? ⟨c, 13, none⟩) = some (.slice A6 0 (c5 - 1)) := cc13 (cc_ev H6.out.row _)
      have yz13 : ((w6.setCell ⟨c, 13, none⟩ (.slice A6 0 (c5 - 1))).frozen? ⟨c, 13, none⟩) = false := (cc_ev H6.out.row _).thawed 13
      have HX7 : Hid (Row ((w6.setCell ⟨c, 13, none⟩ (.slice A6 0 (c5 - 1))).setCell ⟨c, 13, none⟩ (.slice none 0 0)) p 31 (evc ev0)) := (HX6.out.stored' (a := ⟨c, 13, none⟩) (Ne.symm hcp) _).stored' (a := ⟨c, 13, none⟩) (Ne.symm hcp) _
      have HT7 : Hid (Row ((w6.setCell ⟨c, 13, none⟩ (.slice A6 0 (c5 - 1))).setCell ⟨c, 13, none⟩ (.slice none 0 0)) wr.heap.size 31 (evc (evF 1))) := by
        have hne : wr.heap.size ≠ c := by have := h1.row.lt; omega
        exact (T1.out.stored' (a := ⟨c, 13, none⟩) hne _).stored' (a := ⟨c, 13, none⟩) hne _
      clear ho hi0 hz0 hz1 hz2 hcut hrg hrg' hw6 t1 t2 t3 h1 h5 hf hnw h7 hf7 H6 HF6 HX6
      go_upto_region 11 with (first | (refine wpList_ldm (cs := evc (evF 1)) rfl _ rfl rfl HRG.out (ev_ok _) ?_) | (refine wpList_sw (cs := evc (evF 1)) rfl _ _ rfl rfl rfl T3.out (ev_sz _ _) (ev_ok _) ?_))
      rw [HW6.out]
      clear HW6 T3 T1 HRG c13
      go_upto_region 14 with fail
      clear k13 z13 y13 yz13 hcut'
      generalize (w6.setCell ⟨c, 13, none⟩ (.slice A6 0 (c5 - 1))).setCell ⟨c, 13, none⟩ (.slice none 0 0) = w7 at *
      generalize wr.heap.size = q7 at *
      go_wp2_with (first | (refine wpList_ld rfl _ rfl rfl HT7.out (ev_ok _) ?_) | (refine wpList_sw (cs := evc (evF 1)) rfl _ _ rfl rfl rfl HX7.out (ev_sz _ _) (ev_ok _) ?_))
      refine bodyPost_ret (ret_agv rfl _ rfl (HX7.out.setRow _) (ev_ok _) rfl) rfl ?_
      refine ⟨rfl, v, .slice none 0 0, ?_, ?_⟩
      · exact H7.out.of_fs (S := fun k => k = p) ((Fs.refl (fun k => k = p) w7).setRow (g := p) (fun _ => rfl) _) fun k hk e => by
          subst e
          rcases hk with hk | hk | hk
          · exact hcp hk.symm
          · obtain ⟨cur, h4⟩ := own_row H7.out.bo hk
            exact cc_nt h4 HX7.out (by decide) rfl
          · simp [ob, Value.ownBlock] at hk
      · exact HF7.out.setRow (g := p) (fun hk => by have := HPQ.out; omega) _
end Go.Proofs.YtooaajnkiokpnaaGreatDoor

namespace Go.Proofs.YtooaajnkiokpnaaGreatDoor
open Go.RowKit Go.WideShapes
attribute [local irreducible] Cc.c evc

set_option maxRecDepth 100000 in
theorem cgone_nil (w : World) : Calls Tryz.prog 21 #[.pointer none] w fun e w' => e = .returned (.bool true) ∧ w' = w := by
  go_enter Tryz.func21, Tryz.ntmps21
  go_wp2_with fail
  go_ret
  exact ⟨rfl, rfl⟩
set_option maxRecDepth 100000 in
theorem cgone_any {w : World} {c : Nat} {x : Cc} (h : Row w c 86 x.c) : Calls Tryz.prog 21 #[.pointer (some ⟨c, 0, none⟩)] w fun e w' => e = .returned (.bool x.go) ∧ w' = w := by
  have h26 := cc26 h
  clear h
  go_enter Tryz.func21, Tryz.ntmps21
  go_wp2_with fail
  go_ret
  exact ⟨rfl, rfl⟩
set_option maxRecDepth 100000 in
theorem cpoll_nil (w : World) : Calls Tryz.prog 9 #[.pointer none] w fun e w' => e = .returned (.tuple #[.agg (evc ev0), .bool false]) ∧ Below w.heap.size w w' := by
  have hz : evc ev0 = #[.int .u8 0, .int .u32 0, .slice none 0 0, .slice none 0 0, .bool false, .int .u32 0, .int .u8 0, .int .u32 0] := by unfold evc ev0; rfl
  have HR : Hid (Row (w.alloc (.cells #[.int .u8 0, .int .u32 0, .slice none 0 0, .slice none 0 0, .bool false, .int .u32 0, .int .u8 0, .int .u32 0] 31)) w.heap.size 31 (evc ev0)) := by show Row _ _ _ _; rw [hz]; exact Row.new w _ _
  have HB : Hid (Below w.heap.size w (w.alloc (.cells #[.int .u8 0, .int .u32 0, .slice none 0 0, .slice none 0 0, .bool false, .int .u32 0, .int .u8 0, .int .u32 0] 31))) := (Below.refl _ _).alloc (Nat.le_refl _) _
  have HZ := Lib.hid hz
  clear hz
  go_enter Tryz.func9, Tryz.ntmps9
  go_upto_region 2 with fail
  generalize w.alloc (.cells #[.int .u8 0, .int .u32 0, .slice none 0 0, .slice none 0 0, .bool false, .int .u32 0, .int .u8 0, .int .u32 0] 31) = w1 at *
  generalize hp : w.heap.size = p at *
  have HP := Lib.hid hp
  clear hp
  go_wp2_with (refine wpList_sw (cs := evc ev0) rfl _ _ rfl rfl (by rw [HZ.out]; rfl) HR.out (ev_sz _ _) (ev_ok _) ?_)
  exact bodyPost_ret (ret_agv rfl _ rfl (HR.out.setRow _) (ev_ok _) rfl) rfl ⟨rfl, by rw [HP.out]; exact below_setRow HB.out _ _ (Nat.le_refl _)⟩
set_option maxRecDepth 100000 in
theorem copen_nil (v : Value) (b : Bool) (w : World) : Calls Tryz.prog 10 #[.pointer none, v, .bool b] w fun e w' => e = .returned (.tuple #[.int .u32 0, .int .i64 9]) ∧ w' = w := by
  go_enter Tryz.func10, Tryz.ntmps10
  go_wp2_with fail
  go_ret2
  exact ⟨rfl, rfl⟩
set_option maxRecDepth 100000 in
theorem cuse_nil (n m : Int) (w : World) : Calls Tryz.prog 11 #[.pointer none, .int .u32 n, .int .i64 m] w fun e w' => e = .returned (.tuple #[]) ∧ w' = w := by
  go_enter Tryz.func11, Tryz.ntmps11
  go_wp2_with fail
  refine (cgone_nil _).mono ?_
  rintro e w1 ⟨rfl, rfl⟩
  go_wp2_with fail
  exact bodyPost_ret (results_none rfl _ _ _) rfl ⟨rfl, rfl⟩
set_option maxRecDepth 100000 in
theorem caway_nil (n : Int) (w : World) : Calls Tryz.prog 12 #[.pointer none, .int .u32 n] w fun e w' => e = .returned (.tuple #[]) ∧ w' = w := by
  go_enter Tryz.func12, Tryz.ntmps12
  go_wp2_with fail
  refine (cgone_nil _).mono ?_
  rintro e w1 ⟨rfl, rfl⟩
  go_wp2_with fail
  exact bodyPost_ret (results_none rfl _ _ _) rfl ⟨rfl, rfl⟩
set_option maxRecDepth 100000 in
theorem cfeed_nil (v : Value) (w : World) : Calls Tryz.prog 13 #[.pointer none, v] w fun e w' => e = .returned (.int .i64 0) ∧ w' = w := by
  go_enter Tryz.func13, Tryz.ntmps13
  go_wp2_with fail
  refine (cgone_nil _).mono ?_
  rintro e w1 ⟨rfl, rfl⟩
  go_wp2_with fail
  go_ret
  exact ⟨rfl, rfl⟩
set_option maxRecDepth 100000 in
theorem cout_nil (n : Int) (w : World) : Calls Tryz.prog 14 #[.pointer none, .int .i64 n] w fun e w' => e = .returned (.slice none 0 0) ∧ w' = w := by
  go_enter Tryz.func14, Tryz.ntmps14
  go_wp2_with fail
  go_ret
  exact ⟨rfl, rfl⟩
set_option maxRecDepth 100000 in
theorem canswer_nil (n : Int) (v : Value) (b : Bool) (w : World) : Calls Tryz.prog 15 #[.pointer none, .int .u32 n, v, .bool b] w fun e w' => e = .returned (.int .i64 9) ∧ w' = w := by
  go_enter Tryz.func15, Tryz.ntmps15
  go_wp2_with fail
  refine (cgone_nil _).mono ?_
  rintro e w1 ⟨rfl, rfl⟩
  go_wp2_with fail
  go_ret
  exact ⟨rfl, rfl⟩
set_option maxRecDepth 100000 in
theorem cdata_nil (n : Int) (v : Value) (b : Bool) (w : World) : Calls Tryz.prog 16 #[.pointer none, .int .u32 n, v, .bool b] w fun e w' => e = .returned (.int .i64 9) ∧ w' = w := by
  go_enter Tryz.func16, Tryz.ntmps16
  go_wp2_with fail
  refine (cgone_nil _).mono ?_
  rintro e w1 ⟨rfl, rfl⟩
  go_wp2_with fail
  go_ret
  exact ⟨rfl, rfl⟩
set_option maxRecDepth 100000 in
theorem creset_nil (n m : Int) (w : World) : Calls Tryz.prog 17 #[.pointer none, .int .u32 n, .int .u32 m] w fun e w' => e = .returned (.int .i64 9) ∧ w' = w := by
  go_enter Tryz.func17, Tryz.ntmps17
  go_wp2_with fail
  refine (cgone_nil _).mono ?_
  rintro e w1 ⟨rfl, rfl⟩
  go_wp2_with fail
  go_ret
  exact ⟨rfl, rfl⟩
set_option maxRecDepth 100000 in
theorem cstate_nil (n : Int) (w : World) : Calls Tryz.prog 18 #[.pointer none, .int .u32 n] w fun e w' => e = .returned (.int .u8 0) ∧ w' = w := by
  go_enter Tryz.func18, Tryz.ntmps18
  go_wp2_with fail
  go_ret
  exact ⟨rfl, rfl⟩
set_option maxRecDepth 100000 in
theorem waits_nilc (n : Int) (w : World) : Calls Tryz.prog 19 #[.pointer none, .int .u32 n] w fun e w' => e = .returned (.int .i64 0) ∧ w' = w := by
  go_enter Tryz.func19, Tryz.ntmps19
  go_wp2_with fail
  go_ret
  exact ⟨rfl, rfl⟩
set_option maxRecDepth 100000 in
theorem clive_nil (w : World) : Calls Tryz.prog 20 #[.pointer none] w fun e w' => e = .returned (.int .i64 0) ∧ w' = w := by
  go_enter Tryz.func20, Tryz.ntmps20
  go_wp2_with fail
  go_ret
  exact ⟨rfl, rfl⟩
set_option maxRecDepth 100000 in
theorem cquiet_nil (w : World) : Calls Tryz.prog 22 #[.pointer none] w fun e w' => e = .returned (.bool true) ∧ w' = w := by
  go_enter Tryz.func22, Tryz.ntmps22
  go_wp2_with fail
  go_ret
  exact ⟨rfl, rfl⟩
end Go.Proofs.YtooaajnkiokpnaaGreatDoor

namespace Go.Proofs.YtooaajnkiokpnaaGreatDoor
open Go.RowKit Go.WideShapes
attribute [local irreducible] Cc.c evc

set_option maxRecDepth 100000 in
set_option maxHeartbeats 1000000 in
theorem cfeed_any {w : World} {c g b : Nat} {x : Cc} {l y : List UInt8} {wt bad : Bool} {A : Option Addr} {n : Nat} (h : Row w c 86 x.c) (hgo : x.go = false) (hsp : x.sp = .pointer (some ⟨g, 0, none⟩)) (hS : Spl w g b l wt bad) (hy : RdS w (fun k => k < w.heap.size ∧ k ≠ g ∧ k ≠ b) A (byc y)) :
    Calls Tryz.prog 13 #[.pointer (some ⟨c, 0, none⟩), .slice A y.length n] w fun e w' => e = .returned (.int .i64 (fedN l bad y : Int)) ∧ Spl w' g b (fedL l bad y) wt bad ∧ Fs (gbS g b) w w' := by
  have hg := cgone_any h
  rw [hgo] at hg
  have c1 := cc1 h
  rw [hsp] at c1
  have HF := Lib.hid (feed_any (c := n) hS hy)
  generalize y.length = yl at HF
  clear h hgo hsp hS hy
  go_enter Tryz.func13, Tryz.ntmps13
  go_wp2_with fail
  refine hg.mono ?_
  rintro e w1 ⟨rfl, rfl⟩
  go_wp2_with fail
  refine HF.out.mono ?_
  rintro e w2 ⟨rfl, h1, h2⟩
  have H1 := Lib.hid h1
  have H2 := Lib.hid h2
  clear h1 h2
  go_wp2_with fail
  go_ret
  exact ⟨rfl, H1.out, H2.out⟩
end Go.Proofs.YtooaajnkiokpnaaGreatDoor

namespace Go.Proofs.YtooaajnkiokpnaaGreatDoor
open Go.RowKit Go.WideShapes

set_option maxRecDepth 100000 in
theorem rprefC (w : World) : Calls Tryz.prog 29 #[] w fun e w' => e = .returned (.string (tb greetL)) ∧ w' = w := by
  go_enter Tryz.func29, Tryz.ntmps29
  go_wp2_with fail
  go_ret
  exact ⟨rfl, rfl⟩
/-- The preface, and PING. -/
def exL : List UInt8 := greetL ++ putL7 fixF
theorem ex_len : exL.length = 41 := by unfold exL; rw [List.length_append, fix_bytes]; rfl
theorem ex_fed : fedL [] false exL = exL := by unfold fedL; rw [if_neg (by simp), List.nil_append, List.take_of_length_le (by rw [ex_len]; simp)]
theorem ex_ns : nsN exL true false = (some (fixF, 0, 0), [], false, false) := by
  unfold exL
  rw [fix_bytes]
  kernel_rfl
def srvB : List UInt8 := [0, 0, 18, 4, 0, 0, 0, 0, 0, 0, 3, 0, 0, 0, 16, 0, 6, 0, 0, 16, 0, 0, 8, 0, 0, 0, 1]
theorem srv_bytes : putL7 (stF srvL) = srvB := by decide +kernel
theorem fix_all : fixF.All := ⟨fix_ok, by decide, by decide, by decide⟩
theorem ft_11C (w : World) : (binOp .eql 29 (.agg #[.int .u8 1, .int .u32 1]) (.agg #[.int .u8 1, .int .u32 1])).run Tryz.prog w = .ok (.bool true) w := by kernel_rfl
attribute [local irreducible] Cc.c evc Fm.c ftc

set_option maxRecDepth 100000 in
set_option maxHeartbeats 4000000 in
theorem fixed_any14 (w : World) (hG : GlobE w) : Calls Tryz.prog 8 #[] w fun e w' => e = .returned (.bool true) ∧ Below w.heap.size w w' := by
  obtain ⟨i0, hi0, hz0, hz1, hz2⟩ := info_parts u8_info
  have hmk : ∀ W : World, (Instr.makeSlice 22 (.int .i64 8) (.int .i64 8)).run Tryz.prog W = .ok (.slice (some ⟨W.heap.size, 0, none⟩) 8 8) (W.alloc (.cells (madeCells #[Value.int .u8 0] 8) 5)) := fun W => by
    have := run_make (P := Tryz.prog) W 22 5 i0 (.int .u8 0) Tryz.underlying22 hi0 hz0 .i64 .i64 8 8 (by omega) (by omega) (by rw [hz2]; omega) (by omega)
    rw [this, hz1]
    rfl
  have hMC : (madeCells #[Value.int .u8 0] 8).toList = byc (List.replicate 8 0) := by kernel_rfl
  have HMC := Lib.hid hMC
  clear hMC hi0 hz0 hz1 hz2
  generalize madeCells #[Value.int .u8 0] 8 = MC at *
  go_enter Tryz.func8, Tryz.ntmps8
  go_wp2_with fail
  refine (cnew_srv w hG).mono ?_
  rintro e w1 ⟨c, g, b, m, ga, de, en, ow, mt, rg, v, rfl, hH, hS, hM, hF, hmg, hg, hb, hB⟩
  have HG1 := Lib.hid (hG.below hB)
  have HH := Lib.hid hH
  have HS := Lib.hid hS
  have HM := Lib.hid hM
  have HF := Lib.hid hF
  have HB := Lib.hid hB
  have hgl := blk_lt hG
  clear hG hH hS hM hF hB
  obtain ⟨w2, hw2⟩ : ∃ w2, (w1.alloc (.cells MC 5)).drew = w2 := ⟨_, rfl⟩
  have hb2 : Below w1.heap.size w1 w2 := by rw [← hw2]; exact ((Below.refl _ _).alloc (Nat.le_refl _) _).drew
  have hX2 : Row w2 w1.heap.size 5 MC := by rw [← hw2]; exact Row.new w1 _ _
  have hput := rput_any fixF fix_all (by decide) (by decide) (by decide) (dA := some ⟨w1.heap.size, 0, none⟩) (dc := 8) (sA := none) (sc := 0) (w := w2) (RdB.row hX2 HMC.out hX2.lt) RdS.nil
  rw [fix_c] at hput
  have HPUT := Lib.hid hput
  have HB2 := Lib.hid hb2
  have HW2 := Lib.hid hw2
  clear hput hw2 hX2 hb2
  have hrp := rprefC
  go_wp2_with fail
  refine wp_region_held_drew (S := fun _ => True) (by kernel_rfl) trivial (fun hHeld => ?_)
  refine wpAnyH_take (i := 0) (v := ?v0) rfl (by kernel_rfl) (by kernel_rfl) (by kernel_rfl) (fun _ _ _ h => h) (Or.inl ⟨by rfl, ?hy0⟩) (by assumption) ?rest0
  case hy0 => (intro w hSw; (try dsimp only at hSw); go_simp <;> with_reducible rfl)
  try simp only [Act.put, List.getElem_toArray, List.getElem_cons_zero, List.getElem_cons_succ, List.setIfInBounds_toArray, List.set_cons_zero, List.set_cons_succ]
  refine wpAnyH_ready (rs := [1, 2]) (by kernel_rfl) (by simp) ?_
  refine AllReadyH.cons rfl (fun K hK => ?_) (AllReadyH.cons rfl (fun K hK => ?_) AllReadyH.nil)
  go_simp
  go_at_call 29
  refine (hrp _).mono ?_
  rintro e w9 ⟨rfl, rfl⟩
  refine hK.out _ _ trivial (fun hHeld => ?_)
  clear hK K
  try simp only [Act.put, List.getElem_toArray, List.getElem_cons_zero, List.getElem_cons_succ, List.setIfInBounds_toArray, List.set_cons_zero, List.set_cons_succ]
  refine wpAnyH_ready (rs := [2]) (by kernel_rfl) (by simp) ?_
  refine AllReadyH.cons rfl (fun K hK => ?_) AllReadyH.nil
  go_simp
  refine hK.out _ _ trivial (fun hHeld => ?_)
  clear hK K
  try simp only [Act.put, List.getElem_toArray, List.getElem_cons_zero, List.getElem_cons_succ, List.setIfInBounds_toArray, List.set_cons_zero, List.set_cons_succ]
  rw [HW2.out]
  refine wpAnyH_take (i := 3) (v := ?v3q1) rfl (by kernel_rfl) (by kernel_rfl) (by kernel_rfl) (fun _ _ _ h => h) (Or.inl ⟨by rfl, ?hy3q1⟩) (by assumption) ?rest3q1
  case hy3q1 => (intro w hSw; (try dsimp only at hSw); go_simp <;> with_reducible rfl)
  try simp only [Act.put, List.getElem_toArray, List.getElem_cons_zero, List.getElem_cons_succ, List.setIfInBounds_toArray, List.set_cons_zero, List.set_cons_succ]
  rotate_left
  go_simp
  refine hK.out _ _ trivial (fun hHeld => ?_)
  clear hK K
  try simp only [Act.put, List.getElem_toArray, List.getElem_cons_zero, List.getElem_cons_succ, List.setIfInBounds_toArray, List.set_cons_zero, List.set_cons_succ]
  rw [HW2.out]
  refine wpAnyH_take (i := 3) (v := ?v3q2) rfl (by kernel_rfl) (by kernel_rfl) (by kernel_rfl) (fun _ _ _ h => h) (Or.inl ⟨by rfl, ?hy3q2⟩) (by assumption) ?rest3q2
  case hy3q2 => (intro w hSw; (try dsimp only at hSw); go_simp <;> with_reducible rfl)
  try simp only [Act.put, List.getElem_toArray, List.getElem_cons_zero, List.getElem_cons_succ, List.setIfInBounds_toArray, List.set_cons_zero, List.set_cons_succ]
  refine wpAnyH_ready (rs := [1]) (by kernel_rfl) (by simp) ?_
  refine AllReadyH.cons rfl (fun K hK => ?_) AllReadyH.nil
  go_simp
  go_at_call 29
  refine (hrp _).mono ?_
  rintro e w9 ⟨rfl, rfl⟩
  refine hK.out _ _ trivial (fun hHeld => ?_)
  clear hK K
  try simp only [Act.put, List.getElem_toArray, List.getElem_cons_zero, List.getElem_cons_succ, List.setIfInBounds_toArray, List.set_cons_zero, List.set_cons_succ]
  rotate_left
  all_goals
    clear hrp hmk
    refine wpAnyH_ready (rs := [4]) (by kernel_rfl) (by simp) ?_
    refine AllReadyH.cons rfl (fun K hK => ?_) AllReadyH.nil
    go_simp
    go_at_call 27
    refine HPUT.out.mono ?_
    rintro e w3 ⟨rfl, hb3⟩
    have HB3 := Lib.hid (HB2.out.trans (hb3.mono HB2.out.size))
    clear hb3 HPUT HB2 HW2
    refine hK.out _ _ trivial (fun hHeld => ?_)
    clear hK K
    try simp only [Act.put, List.getElem_toArray, List.getElem_cons_zero, List.getElem_cons_succ, List.setIfInBounds_toArray, List.set_cons_zero, List.set_cons_succ]
    have hadd := tb_add greetL (putL7 fixF) (by decide) (by rw [fix_bytes]; decide)
    rw [show greetL ++ putL7 fixF = exL from rfl] at hadd
    refine wpAnyH_ready (rs := [5]) (by kernel_rfl) (by simp) ?_
    refine AllReadyH.cons rfl (fun K hK => ?_) AllReadyH.nil
    go_simp
    refine hK.out _ _ trivial (fun hHeld => ?_)
    clear hK K
    try simp only [Act.put, List.getElem_toArray, List.getElem_cons_zero, List.getElem_cons_succ, List.setIfInBounds_toArray, List.set_cons_zero, List.set_cons_succ]
    obtain ⟨c6, w6, hcv, _, hb6, hs6, hrd⟩ := bytes_run exL w3
    have HB6 := Lib.hid (HB3.out.trans (hb6.mono HB3.out.size))
    have HRD := Lib.hid hrd
    have HS6 := Lib.hid hs6
    clear hb6 hs6 hrd hadd
    refine wpAnyH_ready (rs := [6]) (by kernel_rfl) (by simp) ?_
    refine AllReadyH.cons rfl (fun K hK => ?_) AllReadyH.nil
    go_simp
    refine hK.out _ _ trivial (fun hHeld => ?_)
    clear hK K hcv
    try simp only [Act.put, List.getElem_toArray, List.getElem_cons_zero, List.getElem_cons_succ, List.setIfInBounds_toArray, List.set_cons_zero, List.set_cons_succ]
    have hfe := cfeed_any (x := { srvC g ga de en ow mt rg m with row := v }) (y := exL) (A := some ⟨w3.heap.size, 0, none⟩) (n := c6) ((HH.out.below HB6.out).row) rfl rfl (HS.out.below HB6.out) (HRD.out.imp fun k hk hl => ⟨hl, by have := HS.out.lts; have := HB3.out.size; omega, by have := HS.out.lts; have := HB3.out.size; omega⟩)
    refine wpAnyH_ready (rs := [7]) (by kernel_rfl) (by simp) ?_
    refine AllReadyH.cons rfl (fun K hK => ?_) AllReadyH.nil
    go_simp
    go_at_call 13
    refine hfe.mono ?_
    rintro e w7 ⟨rfl, h7, hf7⟩
    have HH7 := Lib.hid ((HH.out.below HB6.out).of_fs hf7 (fun k hk => (HF.out k hk).2))
    have HM7 := Lib.hid ((HM.out.below HB6.out).fs hf7 hmg)
    have HG7 := Lib.hid ((HG1.out.below HB6.out).fs hf7 (gbS_glob (by omega) (by omega)))
    have HS7 : Hid (Spl w7 g b exL true false) := by show Spl _ _ _ _ _ _; rw [ex_fed] at h7; exact h7
    have HB7 := Lib.hid ((HB.out.trans (HB6.out.mono HB.out.size)).trans (hf7.below (B := w.heap.size) (fun k hk _ => by rcases hk with rfl | rfl <;> assumption) (by have := HB.out.size; have := HB6.out.size; omega)))
    refine hK.out _ _ trivial (fun hHeld => ?_)
    clear hK K hfe h7 hf7
    refine wpAnyH_done (by kernel_rfl) ?_ _
    have hpo := poll_first HH7.out (by rw [show putL7 (stF srvL) = srvB from srv_bytes]; decide) (Nat.zero_le _) HG7.out (fun h => by have := (HF.out _ h).1; omega) rfl rfl rfl HS7.out ex_ns (by decide) (by decide) rfl HM7.out rfl hmg (fun k hk => (HF.out k hk).2) (gbS_glob (by omega) (by omega))
    clear HH7 HM7 HG7 HS7 HB3 HB6 HRD HS6 hHeld
    go_wp2_with fail
    refine hpo.mono ?_
    rintro e w8 ⟨rfl, v8, u8, h8, hf8⟩
    obtain ⟨w9, hw9, t1, t2, t3⟩ := ev_var w8 (evF 1)
    have HW9 := Lib.hid hw9
    have T1 := Lib.hid t1
    have T3 := Lib.hid t3
    have HR9 := Lib.hid (h8.row.below t2 h8.row.lt)
    have HB9 := Lib.hid ((HB7.out.trans (hf8.below (B := w.heap.size) (fun k hk _ => by
      rcases hk with hk | hk | hk
      · exact (HF.out k hk).1
      · subst hk; assumption
      · subst hk; assumption) HB7.out.size)).trans (t2.mono (by have := HB7.out.size; have := hf8.size; omega)))
    clear hpo hw9 t1 t2 t3 h8 hf8 HB7
    go_upto_region 4 with (refine wpList_sw (cs := evc (evF 1)) rfl _ _ rfl rfl rfl T3.out (ev_sz _ _) (ev_ok _) ?_)
    rw [HW9.out]
    clear HW9 T3
    generalize w8.heap.size = q at *
    have k0 := (ev_cells T1.out).1
    have k6 : w9.cell? ⟨q, 6, none⟩ = some (.int .u8 1) := T1.out.cell (by rw [evF_c]; rfl)
    have k7 : w9.cell? ⟨q, 7, none⟩ = some (.int .u32 1) := T1.out.cell (by rw [evF_c]; rfl)
    have heq := ft_11C
    have hgn := cgone_any HR9.out
    clear T1
    go_wp2_with fail
    refine hgn.mono ?_
    rintro e w10 ⟨rfl, rfl⟩
    go_wp2_with fail
    go_ret
    exact ⟨rfl, HB9.out⟩
end Go.Proofs.YtooaajnkiokpnaaGreatDoor
