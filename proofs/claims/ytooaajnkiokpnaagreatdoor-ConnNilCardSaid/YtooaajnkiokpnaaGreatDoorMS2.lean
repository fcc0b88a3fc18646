/-
  Feed and Held of any splitter; the law's own example: fixed answers true. Conditions: errors.errorType holds what the program's text lays.
  nextFrame, by its contract. Conditions: errors.errorType holds what the program's text lays.
  next, by its contract. Conditions: errors.errorType holds what the program's text lays.
  Next, by its contract. Conditions: errors.errorType holds what the program's text lays.
-/
import Derived.Test.YtooaajnkiokpnaaGreatDoorMS1
import Derived.Test.YtooaajnkiokpnaaGreatDoorFget
import Derived.Test.YtooaajnkiokpnaaGreatDoorFputw

namespace Go.Proofs.YtooaajnkiokpnaaGreatDoor
open Go.RowKit Go.WideShapes

theorem ftc_eq (s c : Nat) : ftc s c = #[.int .u8 s, .int .u32 c] := by unfold ftc; rfl
theorem yields_ft {ops : Array Oper} {S : World → Prop} {o : Oper} {a : Act} (hw : Region.wanted o (yielded ops a.tmps) = true) (y : Operand) (ho : o.op = .load 29 y) {g : Nat} (hy : a.eval y = .pointer (some ⟨g, 0, none⟩)) {s c : Nat} (hS : ∀ w, S w → Row w g 29 (ftc s c)) : YieldsIf Tryz.prog ops S o (.agg (ftc s c)) a :=
  .inl ⟨hw, fun w hw' => by
    unfold execOp
    simp only [ho, hy, Instr.loadAt, Instr.sureAddr, Sem.run_bind, Sem.run_pure, Result.andThen_ok, run_loadVar_row w g 29 29 (ftc s c) (0, 0) _ (hS w hw') Tryz.underlying29 rfl fault_info7]⟩
theorem ret_ffb {fn : Func} {p q r : Tmp} (h : fn.results = #[.cell p 66, .cell q 29, .tmp r]) (tmps : Array Value) (w : World) (g k : Nat) (x : Fm) (s c : Nat) (v : Value) (hp : tmps.getD p undef = .pointer (some ⟨g, 0, none⟩)) (hR : Row w g 66 x.c) (hq : tmps.getD q undef = .pointer (some ⟨k, 0, none⟩)) (hK : Row w k 29 (ftc s c)) (hr : tmps.getD r undef = v) :
    (results fn tmps).run Tryz.prog w = .ok (.tuple #[.agg x.c, .agg (ftc s c), v]) w := by
  have hl := run_loadVar_row (P := Tryz.prog) w g 66 66 x.c (0, 0) _ hR Tryz.underlying66 rfl (Fm.size x)
  have hk := run_loadVar_row (P := Tryz.prog) w k 29 29 (ftc s c) (0, 0) _ hK Tryz.underlying29 rfl fault_info7
  have hp' : tmps[p]?.getD undef = .pointer (some ⟨g, 0, none⟩) := by simpa using hp
  have hq' : tmps[q]?.getD undef = .pointer (some ⟨k, 0, none⟩) := by simpa using hq
  have hr' : tmps[r]?.getD undef = v := by simpa using hr
  simp only [results, h]
  simp [hp', hq', hr', asAddr, hl, hk]
/-- What is handed back of what is told: a frame, a fault, whether anything is told. -/
def ToldP (w : World) (base : Nat) (o : Option Rd) (X : Fm) (s c : Nat) (ok : Bool) : Prop :=
  match o with
  | some x => s = x.2.1 ∧ c = x.2.2 ∧ ok = true ∧ FmIs w base X x.1
  | none => X = fm0 0 0 0 0 ∧ s = 0 ∧ c = 0 ∧ ok = false
theorem ToldP.keep {w w' : World} {base : Nat} {o : Option Rd} {X : Fm} {s c : Nat} {ok : Bool} (h : ToldP w base o X s c ok) (hk : ∀ k, base ≤ k → k < w.heap.size → w'.heap[k]? = w.heap[k]?) : ToldP w' base o X s c ok := by
  cases o with
  | none => exact h
  | some x => exact ⟨h.1, h.2.1, h.2.2.1, h.2.2.2.keep hk⟩
theorem ToldP.mono {w : World} {base base' : Nat} {o : Option Rd} {X : Fm} {s c : Nat} {ok : Bool} (h : ToldP w base o X s c ok) (hb : base' ≤ base) : ToldP w base' o X s c ok := by
  cases o with
  | none => exact h
  | some x => exact ⟨h.1, h.2.1, h.2.2.1, h.2.2.2.mono hb⟩
def Told (w : World) (base : Nat) (o : Option Rd) (v : Value) : Prop := ∃ X s c ok, v = .tuple #[.agg (Fm.c X), .agg (ftc s c), .bool ok] ∧ ToldP w base o X s c ok
def NfPost (w : World) (g b la : Nat) (L : List UInt8) (wt : Bool) (r : Option Rd × List UInt8) (e : Ending) (w' : World) : Prop :=
  ∃ v, e = .returned v ∧ Told w' w.heap.size r.1 v ∧ (∃ fi', SpG w' g b fi' la L wt ∧ heldL L fi' la = r.2) ∧ Fs (gbS g b) w w'
theorem get_scope {l : List UInt8} (h : 16393 < wholeN l) (h9 : 9 ≤ l.length) : nfN l = (some (greatN l), l) := by unfold nfN; rw [if_neg (by omega), if_pos h]
theorem heldL_drop (L : List UInt8) (fi la n : Nat) : heldL L (fi + n) la = (heldL L fi la).drop n := by
  unfold heldL
  rw [List.drop_take, List.drop_drop, show la - (fi + n) = la - fi - n by omega]
theorem FmIs.skip {w w' : World} {base s : Nat} {x : Fm} {F : Frm} (h : FmIs w base x F) {w1 : World} (hw : Below w.heap.size w w1) (hs : s = w.heap.size) (hf : Fs (fun k => k = s ∨ k = s + 1) w1 w') : FmIs w' base x F :=
  h.keep fun k _ h2 => (hf.block k (Nat.lt_of_lt_of_le h2 hw.size) (by omega)).trans (hw.block k h2)
attribute [local irreducible] Fm.c ftc

set_option maxRecDepth 100000 in
set_option maxHeartbeats 4000000 in
theorem nf_A {w : World} {g b fi la : Nat} {L H : List UInt8} {wt : Bool} (h : SpG w g b fi la L wt) (hG : GlobE w) (hH : heldL L fi la = H) (h9 : H.length < 9) :
    Calls Tryz.prog 98 #[.pointer (some ⟨g, 0, none⟩)] w (NfPost w g b la L wt (none, H)) := by
  have HX0 : Hid (Row ((w.alloc (.cells #[.int .u8 0, .int .u8 0, .int .u32 0, .slice none 0 0, .int .i64 0, .int .u32 0, .int .u32 0, .int .u8 0, .bool false, .int .u32 0, .slice none 0 0] 66)).alloc (.cells #[.int .u8 0, .int .u32 0] 29)) w.heap.size 66 (fm0 0 0 0 0).c) := by show Row _ _ _ _; rw [z_c]; exact (Row.new w _ _).alloc _
  have HT0 : Hid (Row ((w.alloc (.cells #[.int .u8 0, .int .u8 0, .int .u32 0, .slice none 0 0, .int .i64 0, .int .u32 0, .int .u32 0, .int .u8 0, .bool false, .int .u32 0, .slice none 0 0] 66)).alloc (.cells #[.int .u8 0, .int .u32 0] 29)) (w.heap.size + 1) 29 (ftc 0 0)) := by show Row _ _ _ _; rw [ftc_eq]; exact Row.made _ _ _ (by simp)
  have HB0 : Hid (Below w.heap.size w ((w.alloc (.cells #[.int .u8 0, .int .u8 0, .int .u32 0, .slice none 0 0, .int .i64 0, .int .u32 0, .int .u32 0, .int .u8 0, .bool false, .int .u32 0, .slice none 0 0] 66)).alloc (.cells #[.int .u8 0, .int .u32 0] 29))) := ((Below.refl _ _).alloc (Nat.le_refl _) _).alloc (by simp) _
  have HS0 : Hid (((w.alloc (.cells #[.int .u8 0, .int .u8 0, .int .u32 0, .slice none 0 0, .int .i64 0, .int .u32 0, .int .u32 0, .int .u8 0, .bool false, .int .u32 0, .slice none 0 0] 66)).alloc (.cells #[.int .u8 0, .int .u32 0] 29)).heap.size = w.heap.size + 2) := by show _ = _; simp
  have H0 : Hid (SpG ((w.alloc (.cells #[.int .u8 0, .int .u8 0, .int .u32 0, .slice none 0 0, .int .i64 0, .int .u32 0, .int .u32 0, .int .u8 0, .bool false, .int .u32 0, .slice none 0 0] 66)).alloc (.cells #[.int .u8 0, .int .u32 0] 29)) g b fi la L wt) := h.below HB0.out
  have HF0 : Hid (Fs (gbS g b) w ((w.alloc (.cells #[.int .u8 0, .int .u8 0, .int .u32 0, .slice none 0 0, .int .i64 0, .int .u32 0, .int .u32 0, .int .u8 0, .bool false, .int .u32 0, .slice none 0 0] 66)).alloc (.cells #[.int .u8 0, .int .u32 0] 29))) := Fs.of_below HB0.out
  have HG0 : Hid (GlobE ((w.alloc (.cells #[.int .u8 0, .int .u8 0, .int .u32 0, .slice none 0 0, .int .i64 0, .int .u32 0, .int .u32 0, .int .u8 0, .bool false, .int .u32 0, .slice none 0 0] 66)).alloc (.cells #[.int .u8 0, .int .u32 0] 29))) := hG.below HB0.out
  have HL := Lib.hid h.held_len
  have hle := h.le
  have hla := h.la
  have hglt := h.row.lt
  have hblt := h.buf.lt
  have HD := Lib.hid (heldL_drop L fi la)
  have HQ := Lib.hid hH
  have hh0 := held_any H0.out
  rw [hH] at HL HD hh0
  have hnn : la - fi ≤ 16393 := by omega
  obtain ⟨m, hm⟩ : ∃ m, m = la - fi := ⟨_, rfl⟩
  have HM := Lib.hid hm
  obtain ⟨C, hC⟩ : ∃ C, C = 16393 - fi := ⟨_, rfl⟩
  have hmC : m ≤ C := by omega
  rw [← hm, ← hC] at hh0
  rw [← hm] at HL hnn
  clear h hG hH hm hC
  go_enter Tryz.func98, Tryz.ntmps98
  go_upto_region 1 with fail
  generalize ((w.alloc (.cells #[.int .u8 0, .int .u8 0, .int .u32 0, .slice none 0 0, .int .i64 0, .int .u32 0, .int .u32 0, .int .u8 0, .bool false, .int .u32 0, .slice none 0 0] 66)).alloc (.cells #[.int .u8 0, .int .u32 0] 29)) = w1 at *
  go_wp2_with fail
  refine hh0.mono ?_
  rintro e w2' ⟨A, rfl, hr, hsb, n, rfl⟩
  have HSB2 : Hid (RdS (w1.drewN n) (fun k => k = b) A (byc H)) := hsb
  have HR2 : Hid (RdB (w1.drewN n) w1.heap.size A H) := hr
  have H2 : Hid (SpG (w1.drewN n) g b fi la L wt) := H0.out.drewN n
  have HF2 : Hid (Fs (gbS g b) w (w1.drewN n)) := HF0.out.drewN n
  have HG2 : Hid (GlobE (w1.drewN n)) := HG0.out
  have HX2 : Hid (Row (w1.drewN n) w.heap.size 66 (fm0 0 0 0 0).c) := HX0.out
  have HT2 : Hid (Row (w1.drewN n) (w.heap.size + 1) 29 (ftc 0 0)) := HT0.out
  have HS2 : Hid ((w1.drewN n).heap.size = w.heap.size + 2) := HS0.out
  have hr2 : w1.heap.size = (w1.drewN n).heap.size := rfl
  rw [hr2] at HR2
  clear hr hsb hr2 hh0 H0 HF0 HG0 HX0 HT0 HS0 HB0
  generalize w1.drewN n = w2 at *
  have hhd := fun W => head_no (A := A) (c := C) (n := m) (w := W) (by rw [← HL.out]; exact h9)
  have HT9 := Lib.hid (HT2.out.setRow' (k := w.heap.size) (by omega) (fm0 0 0 0 0).c)
  have HF9 := Lib.hid ((HF2.out.setRow (g := w.heap.size) (fun h => by omega) (fm0 0 0 0 0).c).setRow (g := w.heap.size + 1) (fun h => by omega) (ftc 0 0))
  have H9 := Lib.hid (H2.out.fs (S := fun k => k = w.heap.size ∨ k = w.heap.size + 1) (((Fs.refl _ w2).setRow (g := w.heap.size) (fun _ => .inl rfl) (fm0 0 0 0 0).c).setRow (g := w.heap.size + 1) (fun _ => .inr rfl) (ftc 0 0)) (by omega) (by omega))
  clear h9
  go_wp2_with fail
  refine (hhd _).mono ?_
  rintro e w2' ⟨rfl, rfl⟩
  clear hhd
  go_wp2_with (first | (refine wpList_sfm (x := fm0 0 0 0 0) rfl _ _ rfl rfl (by rw [z_c]; rfl) HX2.out ?_) | (refine wpList_sft rfl _ _ rfl rfl (show _ = Value.agg (ftc 0 0) by rw [ftc_eq]; rfl) HT9.out ?_))
  refine bodyPost_ret (ret_ffb rfl _ _ w.heap.size (w.heap.size + 1) (fm0 0 0 0 0) 0 0 (.bool false) rfl ((HX2.out.setRow _).setRow' (by omega) _) rfl (HT9.out.setRow _) rfl) rfl ?_
  exact ⟨_, rfl, ⟨_, _, _, _, rfl, rfl, rfl, rfl, rfl⟩, ⟨fi, H9.out, HQ.out⟩, HF9.out⟩

set_option maxRecDepth 100000 in
set_option maxHeartbeats 4000000 in
theorem nf_B {w : World} {g b fi la : Nat} {L H : List UInt8} {wt : Bool} (h : SpG w g b fi la L wt) (hG : GlobE w) (hH : heldL L fi la = H) (h9 : 9 ≤ H.length) (hbig : 16393 < wholeN H) :
    Calls Tryz.prog 98 #[.pointer (some ⟨g, 0, none⟩)] w (NfPost w g b la L wt (some (greatN H), H)) := by
  have HX0 : Hid (Row ((w.alloc (.cells #[.int .u8 0, .int .u8 0, .int .u32 0, .slice none 0 0, .int .i64 0, .int .u32 0, .int .u32 0, .int .u8 0, .bool false, .int .u32 0, .slice none 0 0] 66)).alloc (.cells #[.int .u8 0, .int .u32 0] 29)) w.heap.size 66 (fm0 0 0 0 0).c) := by show Row _ _ _ _; rw [z_c]; exact (Row.new w _ _).alloc _
  have HT0 : Hid (Row ((w.alloc (.cells #[.int .u8 0, .int .u8 0, .int .u32 0, .slice none 0 0, .int .i64 0, .int .u32 0, .int .u32 0, .int .u8 0, .bool false, .int .u32 0, .slice none 0 0] 66)).alloc (.cells #[.int .u8 0, .int .u32 0] 29)) (w.heap.size + 1) 29 (ftc 0 0)) := by show Row _ _ _ _; rw [ftc_eq]; exact Row.made _ _ _ (by simp)
  have HB0 : Hid (Below w.heap.size w ((w.alloc (.cells #[.int .u8 0, .int .u8 0, .int .u32 0, .slice none 0 0, .int .i64 0, .int .u32 0, .int .u32 0, .int .u8 0, .bool false, .int .u32 0, .slice none 0 0] 66)).alloc (.cells #[.int .u8 0, .int .u32 0] 29))) := ((Below.refl _ _).alloc (Nat.le_refl _) _).alloc (by simp) _
  have HS0 : Hid (((w.alloc (.cells #[.int .u8 0, .int .u8 0, .int .u32 0, .slice none 0 0, .int .i64 0, .int .u32 0, .int .u32 0, .int .u8 0, .bool false, .int .u32 0, .slice none 0 0] 66)).alloc (.cells #[.int .u8 0, .int .u32 0] 29)).heap.size = w.heap.size + 2) := by show _ = _; simp
  have H0 : Hid (SpG ((w.alloc (.cells #[.int .u8 0, .int .u8 0, .int .u32 0, .slice none 0 0, .int .i64 0, .int .u32 0, .int .u32 0, .int .u8 0, .bool false, .int .u32 0, .slice none 0 0] 66)).alloc (.cells #[.int .u8 0, .int .u32 0] 29)) g b fi la L wt) := h.below HB0.out
  have HF0 : Hid (Fs (gbS g b) w ((w.alloc (.cells #[.int .u8 0, .int .u8 0, .int .u32 0, .slice none 0 0, .int .i64 0, .int .u32 0, .int .u32 0, .int .u8 0, .bool false, .int .u32 0, .slice none 0 0] 66)).alloc (.cells #[.int .u8 0, .int .u32 0] 29))) := Fs.of_below HB0.out
  have HG0 : Hid (GlobE ((w.alloc (.cells #[.int .u8 0, .int .u8 0, .int .u32 0, .slice none 0 0, .int .i64 0, .int .u32 0, .int .u32 0, .int .u8 0, .bool false, .int .u32 0, .slice none 0 0] 66)).alloc (.cells #[.int .u8 0, .int .u32 0] 29))) := hG.below HB0.out
  have HL := Lib.hid h.held_len
  have hle := h.le
  have hla := h.la
  have hglt := h.row.lt
  have hblt := h.buf.lt
  have HD := Lib.hid (heldL_drop L fi la)
  have HQ := Lib.hid hH
  have hh0 := held_any H0.out
  rw [hH] at HL HD hh0
  have hnn : la - fi ≤ 16393 := by omega
  obtain ⟨m, hm⟩ : ∃ m, m = la - fi := ⟨_, rfl⟩
  have HM := Lib.hid hm
  obtain ⟨C, hC⟩ : ∃ C, C = 16393 - fi := ⟨_, rfl⟩
  have hmC : m ≤ C := by omega
  rw [← hm, ← hC] at hh0
  rw [← hm] at HL hnn
  clear h hG hH hm hC
  go_enter Tryz.func98, Tryz.ntmps98
  go_upto_region 1 with fail
  generalize ((w.alloc (.cells #[.int .u8 0, .int .u8 0, .int .u32 0, .slice none 0 0, .int .i64 0, .int .u32 0, .int .u32 0, .int .u8 0, .bool false, .int .u32 0, .slice none 0 0] 66)).alloc (.cells #[.int .u8 0, .int .u32 0] 29)) = w1 at *
  go_wp2_with fail
  refine hh0.mono ?_
  rintro e w2' ⟨A, rfl, hr, hsb, n, rfl⟩
  have HSB2 : Hid (RdS (w1.drewN n) (fun k => k = b) A (byc H)) := hsb
  have HR2 : Hid (RdB (w1.drewN n) w1.heap.size A H) := hr
  have H2 : Hid (SpG (w1.drewN n) g b fi la L wt) := H0.out.drewN n
  have HF2 : Hid (Fs (gbS g b) w (w1.drewN n)) := HF0.out.drewN n
  have HG2 : Hid (GlobE (w1.drewN n)) := HG0.out
  have HX2 : Hid (Row (w1.drewN n) w.heap.size 66 (fm0 0 0 0 0).c) := HX0.out
  have HT2 : Hid (Row (w1.drewN n) (w.heap.size + 1) 29 (ftc 0 0)) := HT0.out
  have HS2 : Hid ((w1.drewN n).heap.size = w.heap.size + 2) := HS0.out
  have hr2 : w1.heap.size = (w1.drewN n).heap.size := rfl
  rw [hr2] at HR2
  clear hr hsb hr2 hh0 H0 HF0 HG0 HX0 HT0 HS0 HB0
  generalize w1.drewN n = w2 at *
  have hh := fun W => head_yes (c := C) (w := W) (B := w2.heap.size) (A := A) (l := H)
  rw [HL.out] at hh
  go_wp2_with fail
  refine (hh _ HR2.out (by rw [← HL.out]; exact h9) (by omega)).mono ?_
  rintro e w3' ⟨rfl, nq, rfl⟩
  have HR3 : Hid (RdB (w2.drewN nq) w2.heap.size A H) := HR2.out
  have HSB3 : Hid (RdS (w2.drewN nq) (fun k => k = b) A (byc H)) := HSB2.out
  have H3 : Hid (SpG (w2.drewN nq) g b fi la L wt) := H2.out.drewN nq
  have HF3 : Hid (Fs (gbS g b) w (w2.drewN nq)) := HF2.out.drewN nq
  have HG3 : Hid (GlobE (w2.drewN nq)) := HG2.out
  have HX3 : Hid (Row (w2.drewN nq) w.heap.size 66 (fm0 0 0 0 0).c) := HX2.out
  have HT3 : Hid (Row (w2.drewN nq) (w.heap.size + 1) 29 (ftc 0 0)) := HT2.out
  have HS3 : Hid ((w2.drewN nq).heap.size = w.heap.size + 2) := HS2.out
  have hr2 : w2.heap.size = (w2.drewN nq).heap.size := rfl
  rw [hr2] at HR3
  have hv : valL (H.take 3) < 16777216 := by
    have := valL_lt' (l := H.take 3) (k := 3) (by rw [List.length_take]; omega)
    simpa using this
  have hNv : 9 + valL (H.take 3) = wholeN H := rfl
  rw [hNv]
  have hN9 : 9 ≤ wholeN H := by omega
  have hNb : wholeN H ≤ 17000000 := by omega
  have hml := HL.out
  clear hr2 hh H2 HF2 HG2 HX2 HT2 HS2 HR2 HSB2 hNv hv
  generalize w2.drewN nq = w3 at *
  generalize hNN : wholeN H = N at *
  have HNN := Lib.hid hNN
  clear hNN
  have hd1 : decide ((16393 : Int) < (N : Int)) = true := by simp; omega
  have htg := too_any (c := C) HR3.out h9 (by omega)
  rw [hml] at htg
  have HGT := Lib.hid (get_too h9)
  have hTL := tooL_length h9
  clear hml
  go_wp2_with fail
  refine htg.mono ?_
  rintro e w4 ⟨⟨k, rfl, hr4⟩, hb4⟩
  have HG4 := Lib.hid (HG3.out.below hb4)
  have H4 := Lib.hid (H3.out.below hb4)
  have HF4 := Lib.hid (HF3.out.then_below hb4)
  have HX4 := Lib.hid (HX3.out.below hb4 HX3.out.lt)
  have HT4 := Lib.hid (HT3.out.below hb4 HT3.out.lt)
  have HS4 : Hid (w.heap.size + 2 ≤ w4.heap.size) := by show _ ≤ _; rw [← HS3.out]; exact hb4.size
  have hgt := get_any (c := 16394) hr4 (by rw [hTL]; omega) (by rw [hTL]; omega) HG4.out
  rw [hTL, HGT.out] at hgt
  clear htg hr4 hb4 hTL HGT H3 HF3 HG3 HX3 HT3 HS3 HR3
  go_wp2_with fail
  refine hgt.mono ?_
  rintro e w5 ⟨X, rfl, hX, hb5⟩
  have H5 := Lib.hid (H4.out.below hb5)
  have HF5 := Lib.hid (HF4.out.then_below hb5)
  have HX5 := Lib.hid (HX4.out.below hb5 HX4.out.lt)
  have HT5 := Lib.hid (HT4.out.below hb5 HT4.out.lt)
  have HS5 : Hid (w.heap.size + 2 ≤ w5.heap.size) := Nat.le_trans HS4.out hb5.size
  have HM5 : Hid (FmIs w5 (w.heap.size + 2) X (greatN H).1) := hX.mono HS4.out
  clear hgt hX hb5 H4 HF4 HX4 HT4 HS4 HG4
  have HX6 : Hid (Row ((w5.alloc (.cells #[.int .u8 0, .int .u8 0, .int .u32 0, .slice none 0 0, .int .i64 0, .int .u32 0, .int .u32 0, .int .u8 0, .bool false, .int .u32 0, .slice none 0 0] 66)).alloc (.cells #[.int .u8 0, .int .u32 0] 29)) w5.heap.size 66 (fm0 0 0 0 0).c) := by show Row _ _ _ _; rw [z_c]; exact (Row.new w5 _ _).alloc _
  have HT6 : Hid (Row ((w5.alloc (.cells #[.int .u8 0, .int .u8 0, .int .u32 0, .slice none 0 0, .int .i64 0, .int .u32 0, .int .u32 0, .int .u8 0, .bool false, .int .u32 0, .slice none 0 0] 66)).alloc (.cells #[.int .u8 0, .int .u32 0] 29)) (w5.heap.size + 1) 29 (ftc 0 0)) := by show Row _ _ _ _; rw [ftc_eq]; exact Row.made _ _ _ (by simp)
  have HB6 : Hid (Below w5.heap.size w5 ((w5.alloc (.cells #[.int .u8 0, .int .u8 0, .int .u32 0, .slice none 0 0, .int .i64 0, .int .u32 0, .int .u32 0, .int .u8 0, .bool false, .int .u32 0, .slice none 0 0] 66)).alloc (.cells #[.int .u8 0, .int .u32 0] 29))) := ((Below.refl _ _).alloc (Nat.le_refl _) _).alloc (by simp) _
  have HS6 : Hid (((w5.alloc (.cells #[.int .u8 0, .int .u8 0, .int .u32 0, .slice none 0 0, .int .i64 0, .int .u32 0, .int .u32 0, .int .u8 0, .bool false, .int .u32 0, .slice none 0 0] 66)).alloc (.cells #[.int .u8 0, .int .u32 0] 29)).heap.size = w5.heap.size + 2) := by show _ = _; simp
  have hs5 := HS5.out
  have H7 := Lib.hid (H5.out.below HB6.out)
  have HF7 := Lib.hid (HF5.out.then_below HB6.out)
  have HX7 := Lib.hid (HX5.out.below HB6.out HX5.out.lt)
  have HT7 := Lib.hid (HT5.out.below HB6.out HT5.out.lt)
  have HS7 : Hid (w.heap.size + 2 ≤ ((w5.alloc (.cells #[.int .u8 0, .int .u8 0, .int .u32 0, .slice none 0 0, .int .i64 0, .int .u32 0, .int .u32 0, .int .u8 0, .bool false, .int .u32 0, .slice none 0 0] 66)).alloc (.cells #[.int .u8 0, .int .u32 0] 29)).heap.size) := Nat.le_trans HS5.out HB6.out.size
  have HB7 := HB6
  clear H5 HF5 HX5 HT5 HS5 HB6
  go_wp2_with (first | (with_reducible show wpList _ _ _ _ _ _; first | (refine wpList_sfm (x := X) rfl _ _ rfl rfl rfl HX6.out ?_) | (refine wpList_sft (s := (greatN H).2.1) (c := (greatN H).2.2) rfl _ _ rfl rfl rfl (HT6.out.setRow' (k := w5.heap.size) (by omega) X.c) ?_)))
  have HX8 := Lib.hid ((HX6.out.setRow X.c).setRow' (k := w5.heap.size + 1) (by omega) (ftc (greatN H).2.1 (greatN H).2.2))
  have HT8 := Lib.hid ((HT6.out.setRow' (k := w5.heap.size) (by omega) X.c).setRow (ftc (greatN H).2.1 (greatN H).2.2))
  have HSS := Lib.hid (((Fs.refl (fun k => k = w5.heap.size ∨ k = w5.heap.size + 1) ((w5.alloc (.cells #[.int .u8 0, .int .u8 0, .int .u32 0, .slice none 0 0, .int .i64 0, .int .u32 0, .int .u32 0, .int .u8 0, .bool false, .int .u32 0, .slice none 0 0] 66)).alloc (.cells #[.int .u8 0, .int .u32 0] 29))).setRow (g := w5.heap.size) (fun _ => .inl rfl) X.c).setRow (g := w5.heap.size + 1) (fun _ => .inr rfl) (ftc (greatN H).2.1 (greatN H).2.2))
  have HY8 := Lib.hid (HSS.out.row (by omega) HX7.out)
  have HU8 := Lib.hid (HSS.out.row (by omega) HT7.out)
  generalize ((((w5.alloc (.cells #[.int .u8 0, .int .u8 0, .int .u32 0, .slice none 0 0, .int .i64 0, .int .u32 0, .int .u32 0, .int .u8 0, .bool false, .int .u32 0, .slice none 0 0] 66)).alloc (.cells #[.int .u8 0, .int .u32 0] 29)).setRow w5.heap.size X.c).setRow (w5.heap.size + 1) (ftc (greatN H).2.1 (greatN H).2.2)) = w8 at *
  have H8 := Lib.hid (H7.out.fs HSS.out (by omega) (by omega))
  have HF8 := Lib.hid (HF7.out.trans HSS.out (fun k hk h => by omega))
  have HM8 := Lib.hid (HM5.out.skip HB7.out rfl HSS.out)
  clear HX6 HT6 HX7 HT7 HSS H7 HF7 HS6 HS7 HM5 HB7
  refine wp_region_held_drew (S := fun w' => Row w' w5.heap.size 66 (Fm.c X) ∧ Row w' (w5.heap.size + 1) 29 (ftc (greatN H).2.1 (greatN H).2.2)) (by kernel_rfl) ⟨HX8.out, HT8.out⟩ (fun hHeld => ?_)
  refine wpAnyH_take (i := 0) (v := _) rfl (by kernel_rfl) (by kernel_rfl) (by kernel_rfl) (fun _ _ _ h => h) (yields_fm (by rfl) _ rfl rfl (fun _ hSw => hSw.1)) (by assumption) ?rest0
  try simp only [Act.put, List.getElem_toArray, List.getElem_cons_zero, List.getElem_cons_succ, List.setIfInBounds_toArray, List.set_cons_zero, List.set_cons_succ]
  refine wpAnyH_take (i := 1) (v := _) rfl (by kernel_rfl) (by kernel_rfl) (by kernel_rfl) (fun _ _ _ h => h) (yields_ft (by rfl) _ rfl rfl (fun _ hSw => hSw.2)) (by assumption) ?rest1q1
  try simp only [Act.put, List.getElem_toArray, List.getElem_cons_zero, List.getElem_cons_succ, List.setIfInBounds_toArray, List.set_cons_zero, List.set_cons_succ]
  refine wpAnyH_ready (rs := [2]) (by kernel_rfl) (by simp) ?_
  refine AllReadyH.cons rfl (fun K hK => ?_) AllReadyH.nil
  refine step_sfm (x := X) rfl (.tmp 2) (.tmp 27) rfl rfl rfl HY8.out ?_
  refine hK.out _ _ ⟨hHeld.1.setRow' (by omega) _, hHeld.2.setRow' (by omega) _⟩ (fun hHeld => ?_)
  clear hK K
  try simp only [Act.put, List.getElem_toArray, List.getElem_cons_zero, List.getElem_cons_succ, List.setIfInBounds_toArray, List.set_cons_zero, List.set_cons_succ]
  refine wpAnyH_ready (rs := [3]) (by kernel_rfl) (by simp) ?_
  refine AllReadyH.cons rfl (fun K hK => ?_) AllReadyH.nil
  refine step_sft rfl (.tmp 3) (.tmp 28) rfl rfl rfl (Row.setRow' (show Row (World.drew _) _ _ _ from HU8.out) (k := w.heap.size) (by omega) _) ?_
  refine hK.out _ _ ⟨hHeld.1.setRow' (by omega) _, hHeld.2.setRow' (by omega) _⟩ (fun hHeld => ?_)
  clear hK K
  try simp only [Act.put, List.getElem_toArray, List.getElem_cons_zero, List.getElem_cons_succ, List.setIfInBounds_toArray, List.set_cons_zero, List.set_cons_succ]
  refine wpAnyH_take (i := 4) (v := ?v4q2) rfl (by kernel_rfl) (by kernel_rfl) (by kernel_rfl) (fun _ _ _ h => h) (Or.inl ⟨by rfl, ?hy4q2⟩) (by assumption) ?rest4q2
  case hy4q2 => (intro w hSw; (try dsimp only at hSw); go_simp <;> with_reducible rfl)
  try simp only [Act.put, List.getElem_toArray, List.getElem_cons_zero, List.getElem_cons_succ, List.setIfInBounds_toArray, List.set_cons_zero, List.set_cons_succ]
  refine wpAnyH_done (by kernel_rfl) ?_ _
  go_wp2_with fail
  refine bodyPost_ret (ret_ffb rfl _ _ w.heap.size (w.heap.size + 1) X (greatN H).2.1 (greatN H).2.2 (.bool true) rfl (Row.setRow' (Row.setRow (show Row w8.drew _ _ _ from HY8.out) _) (by omega) _) rfl (Row.setRow (Row.setRow' (show Row w8.drew _ _ _ from HU8.out) (by omega) _) _) rfl) rfl ?_
  have HZ : Fs (fun k => k = w.heap.size ∨ k = w.heap.size + 1) w8 ((w8.drew.setRow w.heap.size X.c).setRow (w.heap.size + 1) (ftc (greatN H).2.1 (greatN H).2.2)) := (((Fs.refl _ w8).drewN 1).setRow (g := w.heap.size) (fun _ => .inl rfl) X.c).setRow (g := w.heap.size + 1) (fun _ => .inr rfl) (ftc (greatN H).2.1 (greatN H).2.2)
  exact ⟨_, rfl, ⟨X, _, _, _, rfl, rfl, rfl, rfl, (HM8.out.far HZ (fun k hk h => by omega)).mono (by omega)⟩, ⟨fi, H8.out.fs HZ (by omega) (by omega), HQ.out⟩, HF8.out.trans HZ (fun k hk h => by omega)⟩

set_option maxRecDepth 100000 in
set_option maxHeartbeats 4000000 in
theorem nf_C {w : World} {g b fi la : Nat} {L H : List UInt8} {wt : Bool} (h : SpG w g b fi la L wt) (hG : GlobE w) (hH : heldL L fi la = H) (h9 : 9 ≤ H.length) (hsm : wholeN H ≤ 16393) (hlt : H.length < wholeN H) :
    Calls Tryz.prog 98 #[.pointer (some ⟨g, 0, none⟩)] w (NfPost w g b la L wt (none, H)) := by
  have HX0 : Hid (Row ((w.alloc (.cells #[.int .u8 0, .int .u8 0, .int .u32 0, .slice none 0 0, .int .i64 0, .int .u32 0, .int .u32 0, .int .u8 0, .bool false, .int .u32 0, .slice none 0 0] 66)).alloc (.cells #[.int .u8 0, .int .u32 0] 29)) w.heap.size 66 (fm0 0 0 0 0).c) := by show Row _ _ _ _; rw [z_c]; exact (Row.new w _ _).alloc _
  have HT0 : Hid (Row ((w.alloc (.cells #[.int .u8 0, .int .u8 0, .int .u32 0, .slice none 0 0, .int .i64 0, .int .u32 0, .int .u32 0, .int .u8 0, .bool false, .int .u32 0, .slice none 0 0] 66)).alloc (.cells #[.int .u8 0, .int .u32 0] 29)) (w.heap.size + 1) 29 (ftc 0 0)) := by show Row _ _ _ _; rw [ftc_eq]; exact Row.made _ _ _ (by simp)
  have HB0 : Hid (Below w.heap.size w ((w.alloc (.cells #[.int .u8 0, .int .u8 0, .int .u32 0, .slice none 0 0, .int .i64 0, .int .u32 0, .int .u32 0, .int .u8 0, .bool false, .int .u32 0, .slice none 0 0] 66)).alloc (.cells #[.int .u8 0, .int .u32 0] 29))) := ((Below.refl _ _).alloc (Nat.le_refl _) _).alloc (by simp) _
  have HS0 : Hid (((w.alloc (.cells #[.int .u8 0, .int .u8 0, .int .u32 0, .slice none 0 0, .int .i64 0, .int .u32 0, .int .u32 0, .int .u8 0, .bool false, .int .u32 0, .slice none 0 0] 66)).alloc (.cells #[.int .u8 0, .int .u32 0] 29)).heap.size = w.heap.size + 2) := by show _ = _; simp
  have H0 : Hid (SpG ((w.alloc (.cells #[.int .u8 0, .int .u8 0, .int .u32 0, .slice none 0 0, .int .i64 0, .int .u32 0, .int .u32 0, .int .u8 0, .bool false, .int .u32 0, .slice none 0 0] 66)).alloc (.cells #[.int .u8 0, .int .u32 0] 29)) g b fi la L wt) := h.below HB0.out
  have HF0 : Hid (Fs (gbS g b) w ((w.alloc (.cells #[.int .u8 0, .int .u8 0, .int .u32 0, .slice none 0 0, .int .i64 0, .int .u32 0, .int .u32 0, .int .u8 0, .bool false, .int .u32 0, .slice none 0 0] 66)).alloc (.cells #[.int .u8 0, .int .u32 0] 29))) := Fs.of_below HB0.out
  have HG0 : Hid (GlobE ((w.alloc (.cells #[.int .u8 0, .int .u8 0, .int .u32 0, .slice none 0 0, .int .i64 0, .int .u32 0, .int .u32 0, .int .u8 0, .bool false, .int .u32 0, .slice none 0 0] 66)).alloc (.cells #[.int .u8 0, .int .u32 0] 29))) := hG.below HB0.out
  have HL := Lib.hid h.held_len
  have hle := h.le
  have hla := h.la
  have hglt := h.row.lt
  have hblt := h.buf.lt
  have HD := Lib.hid (heldL_drop L fi la)
  have HQ := Lib.hid hH
  have hh0 := held_any H0.out
  rw [hH] at HL HD hh0
  have hnn : la - fi ≤ 16393 := by omega
  obtain ⟨m, hm⟩ : ∃ m, m = la - fi := ⟨_, rfl⟩
  have HM := Lib.hid hm
  obtain ⟨C, hC⟩ : ∃ C, C = 16393 - fi := ⟨_, rfl⟩
  have hmC : m ≤ C := by omega
  rw [← hm, ← hC] at hh0
  rw [← hm] at HL hnn
  clear h hG hH hm hC
  go_enter Tryz.func98, Tryz.ntmps98
  go_upto_region 1 with fail
  generalize ((w.alloc (.cells #[.int .u8 0, .int .u8 0, .int .u32 0, .slice none 0 0, .int .i64 0, .int .u32 0, .int .u32 0, .int .u8 0, .bool false, .int .u32 0, .slice none 0 0] 66)).alloc (.cells #[.int .u8 0, .int .u32 0] 29)) = w1 at *
  go_wp2_with fail
  refine hh0.mono ?_
  rintro e w2' ⟨A, rfl, hr, hsb, n, rfl⟩
  have HSB2 : Hid (RdS (w1.drewN n) (fun k => k = b) A (byc H)) := hsb
  have HR2 : Hid (RdB (w1.drewN n) w1.heap.size A H) := hr
  have H2 : Hid (SpG (w1.drewN n) g b fi la L wt) := H0.out.drewN n
  have HF2 : Hid (Fs (gbS g b) w (w1.drewN n)) := HF0.out.drewN n
  have HG2 : Hid (GlobE (w1.drewN n)) := HG0.out
  have HX2 : Hid (Row (w1.drewN n) w.heap.size 66 (fm0 0 0 0 0).c) := HX0.out
  have HT2 : Hid (Row (w1.drewN n) (w.heap.size + 1) 29 (ftc 0 0)) := HT0.out
  have HS2 : Hid ((w1.drewN n).heap.size = w.heap.size + 2) := HS0.out
  have hr2 : w1.heap.size = (w1.drewN n).heap.size := rfl
  rw [hr2] at HR2
  clear hr hsb hr2 hh0 H0 HF0 HG0 HX0 HT0 HS0 HB0
  generalize w1.drewN n = w2 at *
  have hh := fun W => head_yes (c := C) (w := W) (B := w2.heap.size) (A := A) (l := H)
  rw [HL.out] at hh
  go_wp2_with fail
  refine (hh _ HR2.out (by rw [← HL.out]; exact h9) (by omega)).mono ?_
  rintro e w3' ⟨rfl, nq, rfl⟩
  have HR3 : Hid (RdB (w2.drewN nq) w2.heap.size A H) := HR2.out
  have HSB3 : Hid (RdS (w2.drewN nq) (fun k => k = b) A (byc H)) := HSB2.out
  have H3 : Hid (SpG (w2.drewN nq) g b fi la L wt) := H2.out.drewN nq
  have HF3 : Hid (Fs (gbS g b) w (w2.drewN nq)) := HF2.out.drewN nq
  have HG3 : Hid (GlobE (w2.drewN nq)) := HG2.out
  have HX3 : Hid (Row (w2.drewN nq) w.heap.size 66 (fm0 0 0 0 0).c) := HX2.out
  have HT3 : Hid (Row (w2.drewN nq) (w.heap.size + 1) 29 (ftc 0 0)) := HT2.out
  have HS3 : Hid ((w2.drewN nq).heap.size = w.heap.size + 2) := HS2.out
  have hr2 : w2.heap.size = (w2.drewN nq).heap.size := rfl
  rw [hr2] at HR3
  have hv : valL (H.take 3) < 16777216 := by
    have := valL_lt' (l := H.take 3) (k := 3) (by rw [List.length_take]; omega)
    simpa using this
  have hNv : 9 + valL (H.take 3) = wholeN H := rfl
  rw [hNv]
  have hN9 : 9 ≤ wholeN H := by omega
  have hNb : wholeN H ≤ 17000000 := by omega
  have hml := HL.out
  clear hr2 hh H2 HF2 HG2 HX2 HT2 HS2 HR2 HSB2 hNv hv
  generalize w2.drewN nq = w3 at *
  generalize hNN : wholeN H = N at *
  have HNN := Lib.hid hNN
  clear hNN
  rw [hml] at hlt
  have hd1 : decide ((16393 : Int) < (N : Int)) = false := by simp; omega
  have hd2 : decide ((m : Int) < (N : Int)) = true := by simp; omega
  have HT9 := Lib.hid (HT3.out.setRow' (k := w.heap.size) (by omega) (fm0 0 0 0 0).c)
  have HF9 := Lib.hid ((HF3.out.setRow (g := w.heap.size) (fun h => by omega) (fm0 0 0 0 0).c).setRow (g := w.heap.size + 1) (fun h => by omega) (ftc 0 0))
  have H9 := Lib.hid (H3.out.fs (S := fun k => k = w.heap.size ∨ k = w.heap.size + 1) (((Fs.refl _ w3).setRow (g := w.heap.size) (fun _ => .inl rfl) (fm0 0 0 0 0).c).setRow (g := w.heap.size + 1) (fun _ => .inr rfl) (ftc 0 0)) (by omega) (by omega))
  clear hml
  go_wp2_with (first | (refine wpList_sfm (x := fm0 0 0 0 0) rfl _ _ rfl rfl (by rw [z_c]; rfl) HX3.out ?_) | (refine wpList_sft rfl _ _ rfl rfl (show _ = Value.agg (ftc 0 0) by rw [ftc_eq]; rfl) HT9.out ?_))
  refine bodyPost_ret (ret_ffb rfl _ _ w.heap.size (w.heap.size + 1) (fm0 0 0 0 0) 0 0 (.bool false) rfl ((HX3.out.setRow _).setRow' (by omega) _) rfl (HT9.out.setRow _) rfl) rfl ?_
  exact ⟨_, rfl, ⟨_, _, _, _, rfl, rfl, rfl, rfl, rfl⟩, ⟨fi, H9.out, HQ.out⟩, HF9.out⟩

set_option maxRecDepth 100000 in
set_option maxHeartbeats 4000000 in
theorem nf_D {w : World} {g b fi la : Nat} {L H : List UInt8} {wt : Bool} (h : SpG w g b fi la L wt) (hG : GlobE w) (hH : heldL L fi la = H) (h9 : 9 ≤ H.length) (hsm : wholeN H ≤ 16393) (hge : wholeN H ≤ H.length) :
    Calls Tryz.prog 98 #[.pointer (some ⟨g, 0, none⟩)] w (NfPost w g b la L wt (some (getN (H.take (wholeN H))), H.drop (wholeN H))) := by
  have HX0 : Hid (Row ((w.alloc (.cells #[.int .u8 0, .int .u8 0, .int .u32 0, .slice none 0 0, .int .i64 0, .int .u32 0, .int .u32 0, .int .u8 0, .bool false, .int .u32 0, .slice none 0 0] 66)).alloc (.cells #[.int .u8 0, .int .u32 0] 29)) w.heap.size 66 (fm0 0 0 0 0).c) := by show Row _ _ _ _; rw [z_c]; exact (Row.new w _ _).alloc _
  have HT0 : Hid (Row ((w.alloc (.cells #[.int .u8 0, .int .u8 0, .int .u32 0, .slice none 0 0, .int .i64 0, .int .u32 0, .int .u32 0, .int .u8 0, .bool false, .int .u32 0, .slice none 0 0] 66)).alloc (.cells #[.int .u8 0, .int .u32 0] 29)) (w.heap.size + 1) 29 (ftc 0 0)) := by show Row _ _ _ _; rw [ftc_eq]; exact Row.made _ _ _ (by simp)
  have HB0 : Hid (Below w.heap.size w ((w.alloc (.cells #[.int .u8 0, .int .u8 0, .int .u32 0, .slice none 0 0, .int .i64 0, .int .u32 0, .int .u32 0, .int .u8 0, .bool false, .int .u32 0, .slice none 0 0] 66)).alloc (.cells #[.int .u8 0, .int .u32 0] 29))) := ((Below.refl _ _).alloc (Nat.le_refl _) _).alloc (by simp) _
  have HS0 : Hid (((w.alloc (.cells #[.int .u8 0, .int .u8 0, .int .u32 0, .slice none 0 0, .int .i64 0, .int .u32 0, .int .u32 0, .int .u8 0, .bool false, .int .u32 0, .slice none 0 0] 66)).alloc (.cells #[.int .u8 0, .int .u32 0] 29)).heap.size = w.heap.size + 2) := by show _ = _; simp
  have H0 : Hid (SpG ((w.alloc (.cells #[.int .u8 0, .int .u8 0, .int .u32 0, .slice none 0 0, .int .i64 0, .int .u32 0, .int .u32 0, .int .u8 0, .bool false, .int .u32 0, .slice none 0 0] 66)).alloc (.cells #[.int .u8 0, .int .u32 0] 29)) g b fi la L wt) := h.below HB0.out
  have HF0 : Hid (Fs (gbS g b) w ((w.alloc (.cells #[.int .u8 0, .int .u8 0, .int .u32 0, .slice none 0 0, .int .i64 0, .int .u32 0, .int .u32 0, .int .u8 0, .bool false, .int .u32 0, .slice none 0 0] 66)).alloc (.cells #[.int .u8 0, .int .u32 0] 29))) := Fs.of_below HB0.out
  have HG0 : Hid (GlobE ((w.alloc (.cells #[.int .u8 0, .int .u8 0, .int .u32 0, .slice none 0 0, .int .i64 0, .int .u32 0, .int .u32 0, .int .u8 0, .bool false, .int .u32 0, .slice none 0 0] 66)).alloc (.cells #[.int .u8 0, .int .u32 0] 29))) := hG.below HB0.out
  have HL := Lib.hid h.held_len
  have hle := h.le
  have hla := h.la
  have hglt := h.row.lt
  have hblt := h.buf.lt
  have HD := Lib.hid (heldL_drop L fi la)
  have HQ := Lib.hid hH
  have hh0 := held_any H0.out
  rw [hH] at HL HD hh0
  have hnn : la - fi ≤ 16393 := by omega
  obtain ⟨m, hm⟩ : ∃ m, m = la - fi := ⟨_, rfl⟩
  have HM := Lib.hid hm
  obtain ⟨C, hC⟩ : ∃ C, C = 16393 - fi := ⟨_, rfl⟩
  have hmC : m ≤ C := by omega
  rw [← hm, ← hC] at hh0
  rw [← hm] at HL hnn
  clear h hG hH hm hC
  go_enter Tryz.func98, Tryz.ntmps98
  go_upto_region 1 with fail
  generalize ((w.alloc (.cells #[.int .u8 0, .int .u8 0, .int .u32 0, .slice none 0 0, .int .i64 0, .int .u32 0, .int .u32 0, .int .u8 0, .bool false, .int .u32 0, .slice none 0 0] 66)).alloc (.cells #[.int .u8 0, .int .u32 0] 29)) = w1 at *
  go_wp2_with fail
  refine hh0.mono ?_
  rintro e w2' ⟨A, rfl, hr, hsb, n, rfl⟩
  have HSB2 : Hid (RdS (w1.drewN n) (fun k => k = b) A (byc H)) := hsb
  have HR2 : Hid (RdB (w1.drewN n) w1.heap.size A H) := hr
  have H2 : Hid (SpG (w1.drewN n) g b fi la L wt) := H0.out.drewN n
  have HF2 : Hid (Fs (gbS g b) w (w1.drewN n)) := HF0.out.drewN n
  have HG2 : Hid (GlobE (w1.drewN n)) := HG0.out
  have HX2 : Hid (Row (w1.drewN n) w.heap.size 66 (fm0 0 0 0 0).c) := HX0.out
  have HT2 : Hid (Row (w1.drewN n) (w.heap.size + 1) 29 (ftc 0 0)) := HT0.out
  have HS2 : Hid ((w1.drewN n).heap.size = w.heap.size + 2) := HS0.out
  have hr2 : w1.heap.size = (w1.drewN n).heap.size := rfl
  rw [hr2] at HR2
  clear hr hsb hr2 hh0 H0 HF0 HG0 HX0 HT0 HS0 HB0
  generalize w1.drewN n = w2 at *
  have hh := fun W => head_yes (c := C) (w := W) (B := w2.heap.size) (A := A) (l := H)
  rw [HL.out] at hh
  go_wp2_with fail
  refine (hh _ HR2.out (by rw [← HL.out]; exact h9) (by omega)).mono ?_
  rintro e w3' ⟨rfl, nq, rfl⟩
  have HR3 : Hid (RdB (w2.drewN nq) w2.heap.size A H) := HR2.out
  have HSB3 : Hid (RdS (w2.drewN nq) (fun k => k = b) A (byc H)) := HSB2.out
  have H3 : Hid (SpG (w2.drewN nq) g b fi la L wt) := H2.out.drewN nq
  have HF3 : Hid (Fs (gbS g b) w (w2.drewN nq)) := HF2.out.drewN nq
  have HG3 : Hid (GlobE (w2.drewN nq)) := HG2.out
  have HX3 : Hid (Row (w2.drewN nq) w.heap.size 66 (fm0 0 0 0 0).c) := HX2.out
  have HT3 : Hid (Row (w2.drewN nq) (w.heap.size + 1) 29 (ftc 0 0)) := HT2.out
  have HS3 : Hid ((w2.drewN nq).heap.size = w.heap.size + 2) := HS2.out
  have hr2 : w2.heap.size = (w2.drewN nq).heap.size := rfl
  rw [hr2] at HR3
  have hv : valL (H.take 3) < 16777216 := by
    have := valL_lt' (l := H.take 3) (k := 3) (by rw [List.length_take]; omega)
    simpa using this
  have hNv : 9 + valL (H.take 3) = wholeN H := rfl
  rw [hNv]
  have hN9 : 9 ≤ wholeN H := by omega
  have hNb : wholeN H ≤ 17000000 := by omega
  have hml := HL.out
  clear hr2 hh H2 HF2 HG2 HX2 HT2 HS2 HR2 HSB2 hNv hv
  generalize w2.drewN nq = w3 at *
  generalize hNN : wholeN H = N at *
  have HNN := Lib.hid hNN
  clear hNN
  have hd1 : decide ((16393 : Int) < (N : Int)) = false := by simp; omega
  rw [hml] at hge
  have hd2 : decide ((m : Int) < (N : Int)) = false := by simp; omega
  obtain ⟨i0, hi0, hz0, hz1, hz2⟩ := info_parts u8_info
  obtain ⟨hcut, hRN⟩ := cut_upto (P := Tryz.prog) Tryz.underlying22 hi0 hz1 HR3.out (c := C) (k := N) (by omega) (by omega)
  rw [hml] at hcut
  have hfN : fi + N ≤ la := by have := HM.out; omega
  have c1 := H3.out.c1
  have t1 := Row.thawed H3.out.row 1
  have H3s := Lib.hid (H3.out.set1 (fi' := fi + N) hfN)
  have HF3s := Lib.hid (HF3.out.setCell (g := g) (fun _ => .inl rfl) 1 (.int .i64 ((fi + N : Nat) : Int)))
  have HW := Lib.hid ((Fs.refl (fun k => k = g) w3).setCell (g := g) (fun _ => rfl) 1 (.int .i64 ((fi + N : Nat) : Int)))
  have HG3s := Lib.hid (HG3.out.fs HW.out (by have := H3.out.lo; omega))
  have HX3s := Lib.hid (HW.out.row (b := w.heap.size) (by omega) HX3.out)
  have HT3s := Lib.hid (HW.out.row (b := w.heap.size + 1) (by omega) HT3.out)
  have HR3s : Hid (RdB (w3.setCell ⟨g, 1, none⟩ (.int .i64 ((fi + N : Nat) : Int))) (w3.setCell ⟨g, 1, none⟩ (.int .i64 ((fi + N : Nat) : Int))).heap.size A (H.take N)) := by
    show RdB _ _ _ _
    have hS := HW.out.reads HSB3.out (fun k hk => ⟨by rw [hk]; exact H3.out.buf.lt, fun e => H3.out.ne (hk.symm.trans e)⟩)
    refine RdB.upto (m := H.drop N) ?_
    rw [List.take_append_drop]
    exact RdB.ofS hS fun k hk _ => by rw [hk]; exact Nat.lt_of_lt_of_le H3.out.buf.lt HW.out.size
  have hTN : (H.take N).length = N := by rw [List.length_take]; omega
  have hgt := get_any (c := C) HR3s.out (by rw [hTN]; omega) (by rw [hTN]; omega) HG3s.out
  rw [hTN] at hgt
  generalize hRR : getN (H.take N) = RN at *
  clear hRR hRN HR3s HR3 HSB3 HW HG3 H3 HF3 HX3 HT3 HG3s
  have hs3 : Hid (w.heap.size + 2 ≤ (w3.setCell ⟨g, 1, none⟩ (.int .i64 ((fi + N : Nat) : Int))).heap.size) := by show _ ≤ _; simp [World.setCell, HS3.out]
  rw [show ((fi + N : Nat) : Int) = (fi : Int) + (N : Int) by omega] at hgt H3s HF3s HX3s HT3s hs3
  go_wp2_with fail
  refine hgt.mono ?_
  rintro e w5 ⟨X, rfl, hX, hb5⟩
  generalize w3.setCell ⟨g, 1, none⟩ (.int .i64 ((fi : Int) + (N : Int))) = w4 at *
  have H5 := Lib.hid (H3s.out.below hb5)
  have HF5 := Lib.hid (HF3s.out.then_below hb5)
  have HX5 := Lib.hid (HX3s.out.below hb5 HX3s.out.lt)
  have HT5 := Lib.hid (HT3s.out.below hb5 HT3s.out.lt)
  have HS5 : Hid (w.heap.size + 2 ≤ w5.heap.size) := Nat.le_trans hs3.out hb5.size
  have HM5 : Hid (FmIs w5 (w.heap.size + 2) X RN.1) := hX.mono hs3.out
  clear hgt hX hb5 H3s HF3s HX3s HT3s hs3 c1 t1 hcut hTN
  have HX6 : Hid (Row ((w5.alloc (.cells #[.int .u8 0, .int .u8 0, .int .u32 0, .slice none 0 0, .int .i64 0, .int .u32 0, .int .u32 0, .int .u8 0, .bool false, .int .u32 0, .slice none 0 0] 66)).alloc (.cells #[.int .u8 0, .int .u32 0] 29)) w5.heap.size 66 (fm0 0 0 0 0).c) := by show Row _ _ _ _; rw [z_c]; exact (Row.new w5 _ _).alloc _
  have HT6 : Hid (Row ((w5.alloc (.cells #[.int .u8 0, .int .u8 0, .int .u32 0, .slice none 0 0, .int .i64 0, .int .u32 0, .int .u32 0, .int .u8 0, .bool false, .int .u32 0, .slice none 0 0] 66)).alloc (.cells #[.int .u8 0, .int .u32 0] 29)) (w5.heap.size + 1) 29 (ftc 0 0)) := by show Row _ _ _ _; rw [ftc_eq]; exact Row.made _ _ _ (by simp)
  have HB6 : Hid (Below w5.heap.size w5 ((w5.alloc (.cells #[.int .u8 0, .int .u8 0, .int .u32 0, .slice none 0 0, .int .i64 0, .int .u32 0, .int .u32 0, .int .u8 0, .bool false, .int .u32 0, .slice none 0 0] 66)).alloc (.cells #[.int .u8 0, .int .u32 0] 29))) := ((Below.refl _ _).alloc (Nat.le_refl _) _).alloc (by simp) _
  have HS6 : Hid (((w5.alloc (.cells #[.int .u8 0, .int .u8 0, .int .u32 0, .slice none 0 0, .int .i64 0, .int .u32 0, .int .u32 0, .int .u8 0, .bool false, .int .u32 0, .slice none 0 0] 66)).alloc (.cells #[.int .u8 0, .int .u32 0] 29)).heap.size = w5.heap.size + 2) := by show _ = _; simp
  have hs5 := HS5.out
  have H7 := Lib.hid (H5.out.below HB6.out)
  have HF7 := Lib.hid (HF5.out.then_below HB6.out)
  have HX7 := Lib.hid (HX5.out.below HB6.out HX5.out.lt)
  have HT7 := Lib.hid (HT5.out.below HB6.out HT5.out.lt)
  have HS7 : Hid (w.heap.size + 2 ≤ ((w5.alloc (.cells #[.int .u8 0, .int .u8 0, .int .u32 0, .slice none 0 0, .int .i64 0, .int .u32 0, .int .u32 0, .int .u8 0, .bool false, .int .u32 0, .slice none 0 0] 66)).alloc (.cells #[.int .u8 0, .int .u32 0] 29)).heap.size) := Nat.le_trans HS5.out HB6.out.size
  have HB7 := HB6
  clear H5 HF5 HX5 HT5 HS5 HB6
  go_wp2_with (first | (with_reducible show wpList _ _ _ _ _ _; first | (refine wpList_sfm (x := X) rfl _ _ rfl rfl rfl HX6.out ?_) | (refine wpList_sft (s := RN.2.1) (c := RN.2.2) rfl _ _ rfl rfl rfl (HT6.out.setRow' (k := w5.heap.size) (by omega) X.c) ?_)))
  have HX8 := Lib.hid ((HX6.out.setRow X.c).setRow' (k := w5.heap.size + 1) (by omega) (ftc RN.2.1 RN.2.2))
  have HT8 := Lib.hid ((HT6.out.setRow' (k := w5.heap.size) (by omega) X.c).setRow (ftc RN.2.1 RN.2.2))
  have HSS := Lib.hid (((Fs.refl (fun k => k = w5.heap.size ∨ k = w5.heap.size + 1) ((w5.alloc (.cells #[.int .u8 0, .int .u8 0, .int .u32 0, .slice none 0 0, .int .i64 0, .int .u32 0, .int .u32 0, .int .u8 0, .bool false, .int .u32 0, .slice none 0 0] 66)).alloc (.cells #[.int .u8 0, .int .u32 0] 29))).setRow (g := w5.heap.size) (fun _ => .inl rfl) X.c).setRow (g := w5.heap.size + 1) (fun _ => .inr rfl) (ftc RN.2.1 RN.2.2))
  have HY8 := Lib.hid (HSS.out.row (by omega) HX7.out)
  have HU8 := Lib.hid (HSS.out.row (by omega) HT7.out)
  generalize ((((w5.alloc (.cells #[.int .u8 0, .int .u8 0, .int .u32 0, .slice none 0 0, .int .i64 0, .int .u32 0, .int .u32 0, .int .u8 0, .bool false, .int .u32 0, .slice none 0 0] 66)).alloc (.cells #[.int .u8 0, .int .u32 0] 29)).setRow w5.heap.size X.c).setRow (w5.heap.size + 1) (ftc RN.2.1 RN.2.2)) = w8 at *
  have H8 := Lib.hid (H7.out.fs HSS.out (by omega) (by omega))
  have HF8 := Lib.hid (HF7.out.trans HSS.out (fun k hk h => by omega))
  have HM8 := Lib.hid (HM5.out.skip HB7.out rfl HSS.out)
  clear HX6 HT6 HX7 HT7 HSS H7 HF7 HS6 HS7 HM5 HB7
  refine wp_region_held_drew (S := fun w' => Row w' w5.heap.size 66 (Fm.c X) ∧ Row w' (w5.heap.size + 1) 29 (ftc RN.2.1 RN.2.2)) (by kernel_rfl) ⟨HX8.out, HT8.out⟩ (fun hHeld => ?_)
  refine wpAnyH_take (i := 0) (v := _) rfl (by kernel_rfl) (by kernel_rfl) (by kernel_rfl) (fun _ _ _ h => h) (yields_fm (by rfl) _ rfl rfl (fun _ hSw => hSw.1)) (by assumption) ?rest0q3
  try simp only [Act.put, List.getElem_toArray, List.getElem_cons_zero, List.getElem_cons_succ, List.setIfInBounds_toArray, List.set_cons_zero, List.set_cons_succ]
  refine wpAnyH_take (i := 1) (v := _) rfl (by kernel_rfl) (by kernel_rfl) (by kernel_rfl) (fun _ _ _ h => h) (yields_ft (by rfl) _ rfl rfl (fun _ hSw => hSw.2)) (by assumption) ?rest1q4
  try simp only [Act.put, List.getElem_toArray, List.getElem_cons_zero, List.getElem_cons_succ, List.setIfInBounds_toArray, List.set_cons_zero, List.set_cons_succ]
  refine wpAnyH_ready (rs := [2]) (by kernel_rfl) (by simp) ?_
  refine AllReadyH.cons rfl (fun K hK => ?_) AllReadyH.nil
  refine step_sfm (x := X) rfl (.tmp 2) (.tmp 54) rfl rfl rfl HY8.out ?_
  refine hK.out _ _ ⟨hHeld.1.setRow' (by omega) _, hHeld.2.setRow' (by omega) _⟩ (fun hHeld => ?_)
  clear hK K
  try simp only [Act.put, List.getElem_toArray, List.getElem_cons_zero, List.getElem_cons_succ, List.setIfInBounds_toArray, List.set_cons_zero, List.set_cons_succ]
  refine wpAnyH_ready (rs := [3]) (by kernel_rfl) (by simp) ?_
  refine AllReadyH.cons rfl (fun K hK => ?_) AllReadyH.nil
  refine step_sft rfl (.tmp 3) (.tmp 55) rfl rfl rfl (Row.setRow' (show Row (World.drew _) _ _ _ from HU8.out) (k := w.heap.size) (by omega) _) ?_
  refine hK.out _ _ ⟨hHeld.1.setRow' (by omega) _, hHeld.2.setRow' (by omega) _⟩ (fun hHeld => ?_)
  clear hK K
  try simp only [Act.put, List.getElem_toArray, List.getElem_cons_zero, List.getElem_cons_succ, List.setIfInBounds_toArray, List.set_cons_zero, List.set_cons_succ]
  refine wpAnyH_take (i := 4) (v := ?v4q5) rfl (by kernel_rfl) (by kernel_rfl) (by kernel_rfl) (fun _ _ _ h => h) (Or.inl ⟨by rfl, ?hy4q5⟩) (by assumption) ?rest4q5
  case hy4q5 => (intro w hSw; (try dsimp only at hSw); go_simp <;> with_reducible rfl)
  try simp only [Act.put, List.getElem_toArray, List.getElem_cons_zero, List.getElem_cons_succ, List.setIfInBounds_toArray, List.set_cons_zero, List.set_cons_succ]
  refine wpAnyH_done (by kernel_rfl) ?_ _
  go_wp2_with fail
  refine bodyPost_ret (ret_ffb rfl _ _ w.heap.size (w.heap.size + 1) X RN.2.1 RN.2.2 (.bool true) rfl (Row.setRow' (Row.setRow (show Row w8.drew _ _ _ from HY8.out) _) (by omega) _) rfl (Row.setRow (Row.setRow' (show Row w8.drew _ _ _ from HU8.out) (by omega) _) _) rfl) rfl ?_
  have HZ : Fs (fun k => k = w.heap.size ∨ k = w.heap.size + 1) w8 ((w8.drew.setRow w.heap.size X.c).setRow (w.heap.size + 1) (ftc RN.2.1 RN.2.2)) := (((Fs.refl _ w8).drewN 1).setRow (g := w.heap.size) (fun _ => .inl rfl) X.c).setRow (g := w.heap.size + 1) (fun _ => .inr rfl) (ftc RN.2.1 RN.2.2)
  exact ⟨_, rfl, ⟨X, _, _, _, rfl, rfl, rfl, rfl, (HM8.out.far HZ (fun k hk h => by omega)).mono (by omega)⟩, ⟨(fi + N), H8.out.fs HZ (by omega) (by omega), (HD.out N).trans rfl⟩, HF8.out.trans HZ (fun k hk h => by omega)⟩

theorem nf_any {w : World} {g b fi la : Nat} {L : List UInt8} {wt : Bool} (h : SpG w g b fi la L wt) (hG : GlobE w) :
    Calls Tryz.prog 98 #[.pointer (some ⟨g, 0, none⟩)] w (NfPost w g b la L wt (nfN (heldL L fi la))) := by
  unfold nfN
  split
  · exact nf_A h hG rfl (by assumption)
  · split
    · exact nf_B h hG rfl (by omega) (by assumption)
    · split
      · exact nf_C h hG rfl (by omega) (by omega) (by assumption)
      · exact nf_D h hG rfl (by omega) (by omega) (by omega)
end Go.Proofs.YtooaajnkiokpnaaGreatDoor

namespace Go.Proofs.YtooaajnkiokpnaaGreatDoor
open Go.RowKit Go.WideShapes

def NxPost (w : World) (g b la : Nat) (L : List UInt8) (r : Option Rd × List UInt8 × Bool) (e : Ending) (w' : World) : Prop :=
  ∃ v, e = .returned v ∧ Told w' w.heap.size r.1 v ∧ (∃ fi', SpG w' g b fi' la L r.2.2 ∧ heldL L fi' la = r.2.1) ∧ Fs (gbS g b) w w'
attribute [local irreducible] Fm.c ftc

set_option maxRecDepth 100000 in
set_option maxHeartbeats 4000000 in
theorem nx_A {w : World} {g b fi la : Nat} {L H : List UInt8} {wt : Bool} (h : SpG w g b fi la L wt) (hG : GlobE w) (hH : heldL L fi la = H) (hwt : wt = false) :
    Calls Tryz.prog 64 #[.pointer (some ⟨g, 0, none⟩)] w (NxPost w g b la L ((nfN H).1, (nfN H).2, false)) := by
  have HX0 : Hid (Row ((w.alloc (.cells #[.int .u8 0, .int .u8 0, .int .u32 0, .slice none 0 0, .int .i64 0, .int .u32 0, .int .u32 0, .int .u8 0, .bool false, .int .u32 0, .slice none 0 0] 66)).alloc (.cells #[.int .u8 0, .int .u32 0] 29)) w.heap.size 66 (fm0 0 0 0 0).c) := by show Row _ _ _ _; rw [z_c]; exact (Row.new w _ _).alloc _
  have HT0 : Hid (Row ((w.alloc (.cells #[.int .u8 0, .int .u8 0, .int .u32 0, .slice none 0 0, .int .i64 0, .int .u32 0, .int .u32 0, .int .u8 0, .bool false, .int .u32 0, .slice none 0 0] 66)).alloc (.cells #[.int .u8 0, .int .u32 0] 29)) (w.heap.size + 1) 29 (ftc 0 0)) := by show Row _ _ _ _; rw [ftc_eq]; exact Row.made _ _ _ (by simp)
  have HB0 : Hid (Below w.heap.size w ((w.alloc (.cells #[.int .u8 0, .int .u8 0, .int .u32 0, .slice none 0 0, .int .i64 0, .int .u32 0, .int .u32 0, .int .u8 0, .bool false, .int .u32 0, .slice none 0 0] 66)).alloc (.cells #[.int .u8 0, .int .u32 0] 29))) := ((Below.refl _ _).alloc (Nat.le_refl _) _).alloc (by simp) _
  have HS0 : Hid (((w.alloc (.cells #[.int .u8 0, .int .u8 0, .int .u32 0, .slice none 0 0, .int .i64 0, .int .u32 0, .int .u32 0, .int .u8 0, .bool false, .int .u32 0, .slice none 0 0] 66)).alloc (.cells #[.int .u8 0, .int .u32 0] 29)).heap.size = w.heap.size + 2) := by show _ = _; simp
  have H0 : Hid (SpG ((w.alloc (.cells #[.int .u8 0, .int .u8 0, .int .u32 0, .slice none 0 0, .int .i64 0, .int .u32 0, .int .u32 0, .int .u8 0, .bool false, .int .u32 0, .slice none 0 0] 66)).alloc (.cells #[.int .u8 0, .int .u32 0] 29)) g b fi la L wt) := h.below HB0.out
  have HF0 : Hid (Fs (gbS g b) w ((w.alloc (.cells #[.int .u8 0, .int .u8 0, .int .u32 0, .slice none 0 0, .int .i64 0, .int .u32 0, .int .u32 0, .int .u8 0, .bool false, .int .u32 0, .slice none 0 0] 66)).alloc (.cells #[.int .u8 0, .int .u32 0] 29))) := Fs.of_below HB0.out
  have HG0 : Hid (GlobE ((w.alloc (.cells #[.int .u8 0, .int .u8 0, .int .u32 0, .slice none 0 0, .int .i64 0, .int .u32 0, .int .u32 0, .int .u8 0, .bool false, .int .u32 0, .slice none 0 0] 66)).alloc (.cells #[.int .u8 0, .int .u32 0] 29))) := hG.below HB0.out
  have HL := Lib.hid h.held_len
  have hle := h.le
  have hla := h.la
  have hglt := h.row.lt
  have hblt := h.buf.lt
  have HQ := Lib.hid hH
  have HD := Lib.hid (heldL_drop L fi la)
  rw [hH] at HL HD
  clear h hG hH
  go_enter Tryz.func64, Tryz.ntmps64
  go_upto_region 1 with fail
  generalize ((w.alloc (.cells #[.int .u8 0, .int .u8 0, .int .u32 0, .slice none 0 0, .int .i64 0, .int .u32 0, .int .u32 0, .int .u8 0, .bool false, .int .u32 0, .slice none 0 0] 66)).alloc (.cells #[.int .u8 0, .int .u32 0] 29)) = w1 at *
  have cw := H0.out.c3
  subst hwt
  have hn := nf_any H0.out HG0.out
  rw [HQ.out] at hn
  go_wp2_with fail
  refine hn.mono ?_
  rintro e w5 ⟨v, rfl, ⟨X, s, c, ok, rfl, hT⟩, ⟨fi', h5, hl5⟩, hF5⟩
  have hX5 := hF5.row (b := w.heap.size) (fun e => by rcases e with e | e <;> omega) HX0.out
  have hT5 := hF5.row (b := w.heap.size + 1) (fun e => by rcases e with e | e <;> omega) HT0.out
  have HX5 := Lib.hid hX5
  have HT5 := Lib.hid (hT5.setRow' (k := w.heap.size) (by omega) X.c)
  have H5 := Lib.hid h5
  have HF5 := Lib.hid (HF0.out.trans hF5 (fun k _ e => e))
  have HQ5 := Lib.hid hl5
  have HM5 := Lib.hid (hT.mono (base' := w.heap.size + 2) (by have := HS0.out; omega))
  clear hn hT h5 hl5 hF5 hX5 hT5
  go_wp2_with (first | (with_reducible show wpList _ _ _ _ _ _; first | (refine wpList_sfm (x := X) rfl _ _ rfl rfl rfl HX5.out ?_) | (refine wpList_sft (s := s) (c := c) rfl _ _ rfl rfl rfl HT5.out ?_)))
  refine bodyPost_ret (ret_ffb rfl _ _ w.heap.size (w.heap.size + 1) X s c (.bool ok) rfl ((HX5.out.setRow _).setRow' (by omega) _) rfl (HT5.out.setRow _) rfl) rfl ?_
  have HZ : Fs (fun k => k = w.heap.size ∨ k = w.heap.size + 1) w5 ((w5.setRow w.heap.size X.c).setRow (w.heap.size + 1) (ftc s c)) := ((Fs.refl _ w5).setRow (g := w.heap.size) (fun _ => .inl rfl) X.c).setRow (g := w.heap.size + 1) (fun _ => .inr rfl) (ftc s c)
  exact ⟨_, rfl, ⟨X, s, c, ok, rfl, (HM5.out.keep fun k hk hk2 => HZ.block k hk2 (by omega)).mono (by omega)⟩, ⟨fi', H5.out.fs HZ (by omega) (by omega), HQ5.out⟩, HF5.out.trans HZ (fun k hk h => by omega)⟩

set_option maxRecDepth 100000 in
set_option maxHeartbeats 4000000 in
theorem nx_B {w : World} {g b fi la : Nat} {L H : List UInt8} {wt : Bool} (h : SpG w g b fi la L wt) (hG : GlobE w) (hH : heldL L fi la = H) (hwt : wt = true) (hng : ¬ GreetP H) :
    Calls Tryz.prog 64 #[.pointer (some ⟨g, 0, none⟩)] w (NxPost w g b la L (some noGreet, H, true)) := by
  have HX0 : Hid (Row ((w.alloc (.cells #[.int .u8 0, .int .u8 0, .int .u32 0, .slice none 0 0, .int .i64 0, .int .u32 0, .int .u32 0, .int .u8 0, .bool false, .int .u32 0, .slice none 0 0] 66)).alloc (.cells #[.int .u8 0, .int .u32 0] 29)) w.heap.size 66 (fm0 0 0 0 0).c) := by show Row _ _ _ _; rw [z_c]; exact (Row.new w _ _).alloc _
  have HT0 : Hid (Row ((w.alloc (.cells #[.int .u8 0, .int .u8 0, .int .u32 0, .slice none 0 0, .int .i64 0, .int .u32 0, .int .u32 0, .int .u8 0, .bool false, .int .u32 0, .slice none 0 0] 66)).alloc (.cells #[.int .u8 0, .int .u32 0] 29)) (w.heap.size + 1) 29 (ftc 0 0)) := by show Row _ _ _ _; rw [ftc_eq]; exact Row.made _ _ _ (by simp)
  have HB0 : Hid (Below w.heap.size w ((w.alloc (.cells #[.int .u8 0, .int .u8 0, .int .u32 0, .slice none 0 0, .int .i64 0, .int .u32 0, .int .u32 0, .int .u8 0, .bool false, .int .u32 0, .slice none 0 0] 66)).alloc (.cells #[.int .u8 0, .int .u32 0] 29))) := ((Below.refl _ _).alloc (Nat.le_refl _) _).alloc (by simp) _
  have HS0 : Hid (((w.alloc (.cells #[.int .u8 0, .int .u8 0, .int .u32 0, .slice none 0 0, .int .i64 0, .int .u32 0, .int .u32 0, .int .u8 0, .bool false, .int .u32 0, .slice none 0 0] 66)).alloc (.cells #[.int .u8 0, .int .u32 0] 29)).heap.size = w.heap.size + 2) := by show _ = _; simp
  have H0 : Hid (SpG ((w.alloc (.cells #[.int .u8 0, .int .u8 0, .int .u32 0, .slice none 0 0, .int .i64 0, .int .u32 0, .int .u32 0, .int .u8 0, .bool false, .int .u32 0, .slice none 0 0] 66)).alloc (.cells #[.int .u8 0, .int .u32 0] 29)) g b fi la L wt) := h.below HB0.out
  have HF0 : Hid (Fs (gbS g b) w ((w.alloc (.cells #[.int .u8 0, .int .u8 0, .int .u32 0, .slice none 0 0, .int .i64 0, .int .u32 0, .int .u32 0, .int .u8 0, .bool false, .int .u32 0, .slice none 0 0] 66)).alloc (.cells #[.int .u8 0, .int .u32 0] 29))) := Fs.of_below HB0.out
  have HG0 : Hid (GlobE ((w.alloc (.cells #[.int .u8 0, .int .u8 0, .int .u32 0, .slice none 0 0, .int .i64 0, .int .u32 0, .int .u32 0, .int .u8 0, .bool false, .int .u32 0, .slice none 0 0] 66)).alloc (.cells #[.int .u8 0, .int .u32 0] 29))) := hG.below HB0.out
  have HL := Lib.hid h.held_len
  have hle := h.le
  have hla := h.la
  have hglt := h.row.lt
  have hblt := h.buf.lt
  have HQ := Lib.hid hH
  have HD := Lib.hid (heldL_drop L fi la)
  rw [hH] at HL HD
  clear h hG hH
  go_enter Tryz.func64, Tryz.ntmps64
  go_upto_region 1 with fail
  generalize ((w.alloc (.cells #[.int .u8 0, .int .u8 0, .int .u32 0, .slice none 0 0, .int .i64 0, .int .u32 0, .int .u32 0, .int .u8 0, .bool false, .int .u32 0, .slice none 0 0] 66)).alloc (.cells #[.int .u8 0, .int .u32 0] 29)) = w1 at *
  have cw := H0.out.c3
  subst hwt
  have hh0 := held_any H0.out
  rw [HQ.out] at hh0
  obtain ⟨m, hm⟩ : ∃ m, m = la - fi := ⟨_, rfl⟩
  have hnn : m ≤ 16393 := by omega
  have HM := Lib.hid hm
  obtain ⟨C, hC⟩ : ∃ C, C = 16393 - fi := ⟨_, rfl⟩
  have hmC : m ≤ C := by omega
  rw [← hm, ← hC] at hh0
  rw [← hm] at HL
  have hml := HL.out
  clear hm hC
  go_wp2_with fail
  refine hh0.mono ?_
  rintro e w2' ⟨A, rfl, hr, _, n, rfl⟩
  have HR2 : Hid (RdB (w1.drewN n) w1.heap.size A H) := hr
  have H2 : Hid (SpG (w1.drewN n) g b fi la L true) := H0.out.drewN n
  have HF2 : Hid (Fs (gbS g b) w (w1.drewN n)) := HF0.out.drewN n
  have HG2 : Hid (GlobE (w1.drewN n)) := HG0.out
  have HX2 : Hid (Row (w1.drewN n) w.heap.size 66 (fm0 0 0 0 0).c) := HX0.out
  have HT2 : Hid (Row (w1.drewN n) (w.heap.size + 1) 29 (ftc 0 0)) := HT0.out
  have HS2 : Hid ((w1.drewN n).heap.size = w.heap.size + 2) := HS0.out
  clear hr hh0 H0 HF0 HG0 HX0 HT0 HS0 HB0 cw
  generalize w1.drewN n = w2 at *
  obtain ⟨i0, hi0, hz0, hz1, hz2⟩ := info_parts u8_info
  obtain ⟨k, hk⟩ : ∃ k, k = min m 24 := ⟨_, rfl⟩
  have hkm : k ≤ m := by omega
  have hk24 : k ≤ 24 := by omega
  obtain ⟨hcut, hRN⟩ := cut_upto (P := Tryz.prog) Tryz.underlying22 hi0 hz1 HR2.out (c := C) (k := k) (by omega) (by omega)
  rw [hml] at hcut
  have hkl : (H.take k).length = k := by rw [List.length_take]; omega
  have htx := run_text (P := Tryz.prog) (c := C) Tryz.underlying22 Tryz.underlying5 Tryz.underlying9 hRN
  rw [hkl] at htx
  have hmin : min (m : Int) 24 = (k : Int) := by omega
  have hpr := pre_any greetL (H.take k) (by rw [greetL_length]; omega) (by omega)
  rw [hkl] at hpr
  clear hRN
  have hd : decide (greetL.take k = H.take k) = false := decide_eq_false fun e => hng (by unfold GreetP; rw [hml, ← hk]; exact e.symm)
  rw [hd] at hpr
  clear hd hk
  have HT9 := Lib.hid (HT2.out.setRow' (k := w.heap.size) (by omega) (Fm.c (fm0 0 0 0 (-1))))
  have HZ9 := Lib.hid (((Fs.refl (fun k => k = w.heap.size ∨ k = w.heap.size + 1) w2).setRow (g := w.heap.size) (fun _ => .inl rfl) (Fm.c (fm0 0 0 0 (-1)))).setRow (g := w.heap.size + 1) (fun _ => .inr rfl) (ftc 1 1))
  go_wp2_with fail
  refine (hpr _).mono ?_
  rintro e w3' ⟨rfl, rfl⟩
  go_wp2_with (first | (refine wpList_sfm (x := (fm0 0 0 0 (-1))) rfl _ _ rfl rfl (by rw [hz_c]; rfl) HX2.out ?_) | (refine wpList_sft (s := 1) (c := 1) rfl _ _ rfl rfl (show _ = Value.agg (ftc 1 1) by rw [ftc_eq]; rfl) HT9.out ?_))
  refine bodyPost_ret (ret_ffb rfl _ _ w.heap.size (w.heap.size + 1) (fm0 0 0 0 (-1)) 1 1 (.bool true) rfl ((HX2.out.setRow _).setRow' (by omega) _) rfl (HT9.out.setRow _) rfl) rfl ?_
  exact ⟨_, rfl, ⟨_, _, _, _, rfl, rfl, rfl, rfl, FmIs.hd _ _ _ _ _⟩, ⟨fi, H2.out.fs HZ9.out (by omega) (by omega), HQ.out⟩, HF2.out.trans HZ9.out (fun k hk h => by omega)⟩

set_option maxRecDepth 100000 in
set_option maxHeartbeats 4000000 in
theorem nx_C {w : World} {g b fi la : Nat} {L H : List UInt8} {wt : Bool} (h : SpG w g b fi la L wt) (hG : GlobE w) (hH : heldL L fi la = H) (hwt : wt = true) (hgr : GreetP H) (hlt : H.length < 24) :
    Calls Tryz.prog 64 #[.pointer (some ⟨g, 0, none⟩)] w (NxPost w g b la L (none, H, true)) := by
  have HX0 : Hid (Row ((w.alloc (.cells #[.int .u8 0, .int .u8 0, .int .u32 0, .slice none 0 0, .int .i64 0, .int .u32 0, .int .u32 0, .int .u8 0, .bool false, .int .u32 0, .slice none 0 0] 66)).alloc (.cells #[.int .u8 0, .int .u32 0] 29)) w.heap.size 66 (fm0 0 0 0 0).c) := by show Row _ _ _ _; rw [z_c]; exact (Row.new w _ _).alloc _
  have HT0 : Hid (Row ((w.alloc (.cells #[.int .u8 0, .int .u8 0, .int .u32 0, .slice none 0 0, .int .i64 0, .int .u32 0, .int .u32 0, .int .u8 0, .bool false, .int .u32 0, .slice none 0 0] 66)).alloc (.cells #[.int .u8 0, .int .u32 0] 29)) (w.heap.size + 1) 29 (ftc 0 0)) := by show Row _ _ _ _; rw [ftc_eq]; exact Row.made _ _ _ (by simp)
  have HB0 : Hid (Below w.heap.size w ((w.alloc (.cells #[.int .u8 0, .int .u8 0, .int .u32 0, .slice none 0 0, .int .i64 0, .int .u32 0, .int .u32 0, .int .u8 0, .bool false, .int .u32 0, .slice none 0 0] 66)).alloc (.cells #[.int .u8 0, .int .u32 0] 29))) := ((Below.refl _ _).alloc (Nat.le_refl _) _).alloc (by simp) _
  have HS0 : Hid (((w.alloc (.cells #[.int .u8 0, .int .u8 0, .int .u32 0, .slice none 0 0, .int .i64 0, .int .u32 0, .int .u32 0, .int .u8 0, .bool false, .int .u32 0, .slice none 0 0] 66)).alloc (.cells #[.int .u8 0, .int .u32 0] 29)).heap.size = w.heap.size + 2) := by show _ = _; simp
  have H0 : Hid (SpG ((w.alloc (.cells #[.int .u8 0, .int .u8 0, .int .u32 0, .slice none 0 0, .int .i64 0, .int .u32 0, .int .u32 0, .int .u8 0, .bool false, .int .u32 0, .slice none 0 0] 66)).alloc (.cells #[.int .u8 0, .int .u32 0] 29)) g b fi la L wt) := h.below HB0.out
  have HF0 : Hid (Fs (gbS g b) w ((w.alloc (.cells #[.int .u8 0, .int .u8 0, .int .u32 0, .slice none 0 0, .int .i64 0, .int .u32 0, .int .u32 0, .int .u8 0, .bool false, .int .u32 0, .slice none 0 0] 66)).alloc (.cells #[.int .u8 0, .int .u32 0] 29))) := Fs.of_below HB0.out
  have HG0 : Hid (GlobE ((w.alloc (.cells #[.int .u8 0, .int .u8 0, .int .u32 0, .slice none 0 0, .int .i64 0, .int .u32 0, .int .u32 0, .int .u8 0, .bool false, .int .u32 0, .slice none 0 0] 66)).alloc (.cells #[.int .u8 0, .int .u32 0] 29))) := hG.below HB0.out
  have HL := Lib.hid h.held_len
  have hle := h.le
  have hla := h.la
  have hglt := h.row.lt
  have hblt := h.buf.lt
  have HQ := Lib.hid hH
  have HD := Lib.hid (heldL_drop L fi la)
  rw [hH] at HL HD
  clear h hG hH
  go_enter Tryz.func64, Tryz.ntmps64
  go_upto_region 1 with fail
  generalize ((w.alloc (.cells #[.int .u8 0, .int .u8 0, .int .u32 0, .slice none 0 0, .int .i64 0, .int .u32 0, .int .u32 0, .int .u8 0, .bool false, .int .u32 0, .slice none 0 0] 66)).alloc (.cells #[.int .u8 0, .int .u32 0] 29)) = w1 at *
  have cw := H0.out.c3
  subst hwt
  have hh0 := held_any H0.out
  rw [HQ.out] at hh0
  obtain ⟨m, hm⟩ : ∃ m, m = la - fi := ⟨_, rfl⟩
  have hnn : m ≤ 16393 := by omega
  have HM := Lib.hid hm
  obtain ⟨C, hC⟩ : ∃ C, C = 16393 - fi := ⟨_, rfl⟩
  have hmC : m ≤ C := by omega
  rw [← hm, ← hC] at hh0
  rw [← hm] at HL
  have hml := HL.out
  clear hm hC
  go_wp2_with fail
  refine hh0.mono ?_
  rintro e w2' ⟨A, rfl, hr, _, n, rfl⟩
  have HR2 : Hid (RdB (w1.drewN n) w1.heap.size A H) := hr
  have H2 : Hid (SpG (w1.drewN n) g b fi la L true) := H0.out.drewN n
  have HF2 : Hid (Fs (gbS g b) w (w1.drewN n)) := HF0.out.drewN n
  have HG2 : Hid (GlobE (w1.drewN n)) := HG0.out
  have HX2 : Hid (Row (w1.drewN n) w.heap.size 66 (fm0 0 0 0 0).c) := HX0.out
  have HT2 : Hid (Row (w1.drewN n) (w.heap.size + 1) 29 (ftc 0 0)) := HT0.out
  have HS2 : Hid ((w1.drewN n).heap.size = w.heap.size + 2) := HS0.out
  clear hr hh0 H0 HF0 HG0 HX0 HT0 HS0 HB0 cw
  generalize w1.drewN n = w2 at *
  obtain ⟨i0, hi0, hz0, hz1, hz2⟩ := info_parts u8_info
  obtain ⟨k, hk⟩ : ∃ k, k = min m 24 := ⟨_, rfl⟩
  have hkm : k ≤ m := by omega
  have hk24 : k ≤ 24 := by omega
  obtain ⟨hcut, hRN⟩ := cut_upto (P := Tryz.prog) Tryz.underlying22 hi0 hz1 HR2.out (c := C) (k := k) (by omega) (by omega)
  rw [hml] at hcut
  have hkl : (H.take k).length = k := by rw [List.length_take]; omega
  have htx := run_text (P := Tryz.prog) (c := C) Tryz.underlying22 Tryz.underlying5 Tryz.underlying9 hRN
  rw [hkl] at htx
  have hmin : min (m : Int) 24 = (k : Int) := by omega
  have hpr := pre_any greetL (H.take k) (by rw [greetL_length]; omega) (by omega)
  rw [hkl] at hpr
  clear hRN
  have hd : decide (greetL.take k = H.take k) = true := decide_eq_true (by unfold GreetP at hgr; rw [hml, ← hk] at hgr; exact hgr.symm)
  rw [hd] at hpr
  have hd2 : decide ((m : Int) < 24) = true := by simp; omega
  clear hd hk
  have HT9 := Lib.hid (HT2.out.setRow' (k := w.heap.size) (by omega) (Fm.c (fm0 0 0 0 0)))
  have HZ9 := Lib.hid (((Fs.refl (fun k => k = w.heap.size ∨ k = w.heap.size + 1) w2).setRow (g := w.heap.size) (fun _ => .inl rfl) (Fm.c (fm0 0 0 0 0))).setRow (g := w.heap.size + 1) (fun _ => .inr rfl) (ftc 0 0))
  go_wp2_with fail
  refine (hpr _).mono ?_
  rintro e w3' ⟨rfl, rfl⟩
  go_wp2_with (first | (refine wpList_sfm (x := (fm0 0 0 0 0)) rfl _ _ rfl rfl (by rw [z_c]; rfl) HX2.out ?_) | (refine wpList_sft (s := 0) (c := 0) rfl _ _ rfl rfl (show _ = Value.agg (ftc 0 0) by rw [ftc_eq]; rfl) HT9.out ?_))
  refine bodyPost_ret (ret_ffb rfl _ _ w.heap.size (w.heap.size + 1) (fm0 0 0 0 0) 0 0 (.bool false) rfl ((HX2.out.setRow _).setRow' (by omega) _) rfl (HT9.out.setRow _) rfl) rfl ?_
  exact ⟨_, rfl, ⟨_, _, _, _, rfl, rfl, rfl, rfl, rfl⟩, ⟨fi, H2.out.fs HZ9.out (by omega) (by omega), HQ.out⟩, HF2.out.trans HZ9.out (fun k hk h => by omega)⟩

set_option maxRecDepth 100000 in
set_option maxHeartbeats 4000000 in
theorem nx_D {w : World} {g b fi la : Nat} {L H : List UInt8} {wt : Bool} (h : SpG w g b fi la L wt) (hG : GlobE w) (hH : heldL L fi la = H) (hwt : wt = true) (hgr : GreetP H) (hge : 24 ≤ H.length) :
    Calls Tryz.prog 64 #[.pointer (some ⟨g, 0, none⟩)] w (NxPost w g b la L ((nfN (H.drop 24)).1, (nfN (H.drop 24)).2, false)) := by
  have HX0 : Hid (Row ((w.alloc (.cells #[.int .u8 0, .int .u8 0, .int .u32 0, .slice none 0 0, .int .i64 0, .int .u32 0, .int .u32 0, .int .u8 0, .bool false, .int .u32 0, .slice none 0 0] 66)).alloc (.cells #[.int .u8 0, .int .u32 0] 29)) w.heap.size 66 (fm0 0 0 0 0).c) := by show Row _ _ _ _; rw [z_c]; exact (Row.new w _ _).alloc _
  have HT0 : Hid (Row ((w.alloc (.cells #[.int .u8 0, .int .u8 0, .int .u32 0, .slice none 0 0, .int .i64 0, .int .u32 0, .int .u32 0, .int .u8 0, .bool false, .int .u32 0, .slice none 0 0] 66)).alloc (.cells #[.int .u8 0, .int .u32 0] 29)) (w.heap.size + 1) 29 (ftc 0 0)) := by show Row _ _ _ _; rw [ftc_eq]; exact Row.made _ _ _ (by simp)
  have HB0 : Hid (Below w.heap.size w ((w.alloc (.cells #[.int .u8 0, .int .u8 0, .int .u32 0, .slice none 0 0, .int .i64 0, .int .u32 0, .int .u32 0, .int .u8 0, .bool false, .int .u32 0, .slice none 0 0] 66)).alloc (.cells #[.int .u8 0, .int .u32 0] 29))) := ((Below.refl _ _).alloc (Nat.le_refl _) _).alloc (by simp) _
  have HS0 : Hid (((w.alloc (.cells #[.int .u8 0, .int .u8 0, .int .u32 0, .slice none 0 0, .int .i64 0, .int .u32 0, .int .u32 0, .int .u8 0, .bool false, .int .u32 0, .slice none 0 0] 66)).alloc (.cells #[.int .u8 0, .int .u32 0] 29)).heap.size = w.heap.size + 2) := by show _ = _; simp
  have H0 : Hid (SpG ((w.alloc (.cells #[.int .u8 0, .int .u8 0, .int .u32 0, .slice none 0 0, .int .i64 0, .int .u32 0, .int .u32 0, .int .u8 0, .bool false, .int .u32 0, .slice none 0 0] 66)).alloc (.cells #[.int .u8 0, .int .u32 0] 29)) g b fi la L wt) := h.below HB0.out
  have HF0 : Hid (Fs (gbS g b) w ((w.alloc (.cells #[.int .u8 0, .int .u8 0, .int .u32 0, .slice none 0 0, .int .i64 0, .int .u32 0, .int .u32 0, .int .u8 0, .bool false, .int .u32 0, .slice none 0 0] 66)).alloc (.cells #[.int .u8 0, .int .u32 0] 29))) := Fs.of_below HB0.out
  have HG0 : Hid (GlobE ((w.alloc (.cells #[.int .u8 0, .int .u8 0, .int .u32 0, .slice none 0 0, .int .i64 0, .int .u32 0, .int .u32 0, .int .u8 0, .bool false, .int .u32 0, .slice none 0 0] 66)).alloc (.cells #[.int .u8 0, .int .u32 0] 29))) := hG.below HB0.out
  have HL := Lib.hid h.held_len
  have hle := h.le
  have hla := h.la
  have hglt := h.row.lt
  have hblt := h.buf.lt
  have HQ := Lib.hid hH
  have HD := Lib.hid (heldL_drop L fi la)
  rw [hH] at HL HD
  clear h hG hH
  go_enter Tryz.func64, Tryz.ntmps64
  go_upto_region 1 with fail
  generalize ((w.alloc (.cells #[.int .u8 0, .int .u8 0, .int .u32 0, .slice none 0 0, .int .i64 0, .int .u32 0, .int .u32 0, .int .u8 0, .bool false, .int .u32 0, .slice none 0 0] 66)).alloc (.cells #[.int .u8 0, .int .u32 0] 29)) = w1 at *
  have cw := H0.out.c3
  subst hwt
  have hh0 := held_any H0.out
  rw [HQ.out] at hh0
  obtain ⟨m, hm⟩ : ∃ m, m = la - fi := ⟨_, rfl⟩
  have hnn : m ≤ 16393 := by omega
  have HM := Lib.hid hm
  obtain ⟨C, hC⟩ : ∃ C, C = 16393 - fi := ⟨_, rfl⟩
  have hmC : m ≤ C := by omega
  rw [← hm, ← hC] at hh0
  rw [← hm] at HL
  have hml := HL.out
  clear hm hC
  go_wp2_with fail
  refine hh0.mono ?_
  rintro e w2' ⟨A, rfl, hr, _, n, rfl⟩
  have HR2 : Hid (RdB (w1.drewN n) w1.heap.size A H) := hr
  have H2 : Hid (SpG (w1.drewN n) g b fi la L true) := H0.out.drewN n
  have HF2 : Hid (Fs (gbS g b) w (w1.drewN n)) := HF0.out.drewN n
  have HG2 : Hid (GlobE (w1.drewN n)) := HG0.out
  have HX2 : Hid (Row (w1.drewN n) w.heap.size 66 (fm0 0 0 0 0).c) := HX0.out
  have HT2 : Hid (Row (w1.drewN n) (w.heap.size + 1) 29 (ftc 0 0)) := HT0.out
  have HS2 : Hid ((w1.drewN n).heap.size = w.heap.size + 2) := HS0.out
  clear hr hh0 H0 HF0 HG0 HX0 HT0 HS0 HB0 cw
  generalize w1.drewN n = w2 at *
  obtain ⟨i0, hi0, hz0, hz1, hz2⟩ := info_parts u8_info
  obtain ⟨k, hk⟩ : ∃ k, k = min m 24 := ⟨_, rfl⟩
  have hkm : k ≤ m := by omega
  have hk24 : k ≤ 24 := by omega
  obtain ⟨hcut, hRN⟩ := cut_upto (P := Tryz.prog) Tryz.underlying22 hi0 hz1 HR2.out (c := C) (k := k) (by omega) (by omega)
  rw [hml] at hcut
  have hkl : (H.take k).length = k := by rw [List.length_take]; omega
  have htx := run_text (P := Tryz.prog) (c := C) Tryz.underlying22 Tryz.underlying5 Tryz.underlying9 hRN
  rw [hkl] at htx
  have hmin : min (m : Int) 24 = (k : Int) := by omega
  have hpr := pre_any greetL (H.take k) (by rw [greetL_length]; omega) (by omega)
  rw [hkl] at hpr
  clear hRN
  have hd : decide (greetL.take k = H.take k) = true := decide_eq_true (by unfold GreetP at hgr; rw [hml, ← hk] at hgr; exact hgr.symm)
  rw [hd] at hpr
  have hd2 : decide ((m : Int) < 24) = false := by simp; omega
  clear hd hk
  have hf24 : fi + 24 ≤ la := by have := HM.out; omega
  have c1 := H2.out.c1
  have t1 := Row.thawed H2.out.row 1
  have h3 := H2.out.set1 (fi' := fi + 24) hf24
  have c3 := h3.c3
  have t3 := Row.thawed h3.row 3
  have h4 := h3.set3 false
  have hw4 := ((Fs.refl (fun k => k = g) w2).setCell (g := g) (fun _ => rfl) 1 (.int .i64 ((fi + 24 : Nat) : Int))).setCell (g := g) (fun _ => rfl) 3 (.bool false)
  have HG4 := Lib.hid (HG2.out.fs hw4 (by have := H2.out.lo; omega))
  have HX4 := Lib.hid (hw4.row (b := w.heap.size) (by omega) HX2.out)
  have HT4 := Lib.hid (hw4.row (b := w.heap.size + 1) (by omega) HT2.out)
  have HF4 := Lib.hid (HF2.out.trans hw4 (fun k _ e => .inl e))
  have HS4 : Hid (((w2.setCell ⟨g, 1, none⟩ (.int .i64 ((fi + 24 : Nat) : Int))).setCell ⟨g, 3, none⟩ (.bool false)).heap.size = w.heap.size + 2) := by show _ = _; rw [← HS2.out]; simp [World.setCell]
  have hn := nf_any h4 HG4.out
  rw [HD.out 24] at hn
  rw [show ((fi + 24 : Nat) : Int) = (fi : Int) + 24 by omega] at hn c3 t3 HX4 HT4 HF4 HS4
  clear h3 h4 hw4 HG4 HG2 HX2 HT2 HF2 HS2 H2 HR2
  go_wp2_with fail
  refine (hpr _).mono ?_
  rintro e w3' ⟨rfl, rfl⟩
  go_wp2_with fail
  refine hn.mono ?_
  rintro e w5 ⟨v, rfl, ⟨X, s, c, ok, rfl, hT⟩, ⟨fi', h5, hl5⟩, hF5⟩
  have hX5 := hF5.row (b := w.heap.size) (fun e => by rcases e with e | e <;> omega) HX4.out
  have hT5 := hF5.row (b := w.heap.size + 1) (fun e => by rcases e with e | e <;> omega) HT4.out
  have HX5 := Lib.hid hX5
  have HT5 := Lib.hid (hT5.setRow' (k := w.heap.size) (by omega) X.c)
  have H5 := Lib.hid h5
  have HF5 := Lib.hid (HF4.out.trans hF5 (fun k _ e => e))
  have HQ5 := Lib.hid hl5
  have HM5 := Lib.hid (hT.mono (base' := w.heap.size + 2) (by have := HS4.out; omega))
  clear hn hT h5 hl5 hF5 hX5 hT5
  go_wp2_with (first | (with_reducible show wpList _ _ _ _ _ _; first | (refine wpList_sfm (x := X) rfl _ _ rfl rfl rfl HX5.out ?_) | (refine wpList_sft (s := s) (c := c) rfl _ _ rfl rfl rfl HT5.out ?_)))
  refine bodyPost_ret (ret_ffb rfl _ _ w.heap.size (w.heap.size + 1) X s c (.bool ok) rfl ((HX5.out.setRow _).setRow' (by omega) _) rfl (HT5.out.setRow _) rfl) rfl ?_
  have HZ : Fs (fun k => k = w.heap.size ∨ k = w.heap.size + 1) w5 ((w5.setRow w.heap.size X.c).setRow (w.heap.size + 1) (ftc s c)) := ((Fs.refl _ w5).setRow (g := w.heap.size) (fun _ => .inl rfl) X.c).setRow (g := w.heap.size + 1) (fun _ => .inr rfl) (ftc s c)
  exact ⟨_, rfl, ⟨X, s, c, ok, rfl, (HM5.out.keep fun k hk hk2 => HZ.block k hk2 (by omega)).mono (by omega)⟩, ⟨fi', H5.out.fs HZ (by omega) (by omega), HQ5.out⟩, HF5.out.trans HZ (fun k hk h => by omega)⟩

theorem nx_any {w : World} {g b fi la : Nat} {L : List UInt8} {wt : Bool} (h : SpG w g b fi la L wt) (hG : GlobE w) :
    Calls Tryz.prog 64 #[.pointer (some ⟨g, 0, none⟩)] w (NxPost w g b la L (nxN (heldL L fi la) wt)) := by
  unfold nxN
  split
  · split
    · exact nx_B h hG rfl (by assumption) (by assumption)
    · rename_i hg
      have hg := Classical.not_not.1 hg
      split
      · exact nx_C h hG rfl (by assumption) hg (by assumption)
      · exact nx_D h hG rfl (by assumption) hg (by omega)
  · rename_i hw
    exact nx_A h hG rfl (by simpa using hw)
end Go.Proofs.YtooaajnkiokpnaaGreatDoor

namespace Go.Proofs.YtooaajnkiokpnaaGreatDoor
open Go.RowKit Go.WideShapes

def scopeO : Option Rd → Nat
  | some x => x.2.1
  | none => 0
theorem split_info : (Tryz.prog.info? 118).map (·.size) = some 5 := by kernel_rfl
theorem wpList_ssp {ops : Array Oper} {rest : List Oper} {o : Oper} {a : Act} {w : World} {Q : Exit → Act → World → Prop} (hgd : o.guard = none) (p q : Operand) (ho : o.op = .store 118 p q) {g : Nat} (hp : a.eval p = .pointer (some ⟨g, 0, none⟩)) (hq : a.eval q = .agg #[.slice none 0 0, .int .i64 0, .int .i64 0, .bool false, .bool true]) {v : Value} {x y : Value} {z t : Value} (h : Row w g 118 #[v, x, y, z, t])
    (hk : wpList Tryz.prog ops Q rest (a.put o.dst undef) (w.setRow g #[.slice none 0 0, .int .i64 0, .int .i64 0, .bool false, .bool true])) : wpList Tryz.prog ops Q (o :: rest) a w :=
  wpList_store_row hgd 118 p q ho g _ hp hq 118 _ h split_info rfl (by kernel_rfl) hk
theorem ToldP.scope {w : World} {base : Nat} {o : Option Rd} {X : Fm} {s c : Nat} {ok : Bool} (h : ToldP w base o X s c ok) : s = scopeO o := by
  cases o with
  | none => exact h.2.1
  | some x => exact h.1
theorem ToldP.skip {w w' : World} {base k : Nat} {o : Option Rd} {X : Fm} {s c : Nat} {ok : Bool} (h : ToldP w base o X s c ok) {w1 : World} (hw : Below w.heap.size w w1) (hs : k = w.heap.size) (hf : Fs (fun j => j = k ∨ j = k + 1) w1 w') : ToldP w' base o X s c ok :=
  h.keep fun j _ h2 => (hf.block j (Nat.lt_of_lt_of_le h2 hw.size) (by omega)).trans (hw.block j h2)
attribute [local irreducible] Fm.c ftc

set_option maxRecDepth 100000 in
set_option maxHeartbeats 4000000 in
theorem Next_nil (w : World) :
    Calls Tryz.prog 30 #[.pointer none] w fun e w' => e = .returned (.tuple #[.agg (fm0 0 0 0 0).c, .agg (ftc 0 0), .bool false]) ∧ Below w.heap.size w w' := by
  have HX0 : Hid (Row ((w.alloc (.cells #[.int .u8 0, .int .u8 0, .int .u32 0, .slice none 0 0, .int .i64 0, .int .u32 0, .int .u32 0, .int .u8 0, .bool false, .int .u32 0, .slice none 0 0] 66)).alloc (.cells #[.int .u8 0, .int .u32 0] 29)) w.heap.size 66 (fm0 0 0 0 0).c) := by show Row _ _ _ _; rw [z_c]; exact (Row.new w _ _).alloc _
  have HT0 : Hid (Row ((w.alloc (.cells #[.int .u8 0, .int .u8 0, .int .u32 0, .slice none 0 0, .int .i64 0, .int .u32 0, .int .u32 0, .int .u8 0, .bool false, .int .u32 0, .slice none 0 0] 66)).alloc (.cells #[.int .u8 0, .int .u32 0] 29)) (w.heap.size + 1) 29 (ftc 0 0)) := by show Row _ _ _ _; rw [ftc_eq]; exact Row.made _ _ _ (by simp)
  have HB0 : Hid (Below w.heap.size w ((w.alloc (.cells #[.int .u8 0, .int .u8 0, .int .u32 0, .slice none 0 0, .int .i64 0, .int .u32 0, .int .u32 0, .int .u8 0, .bool false, .int .u32 0, .slice none 0 0] 66)).alloc (.cells #[.int .u8 0, .int .u32 0] 29))) := ((Below.refl _ _).alloc (Nat.le_refl _) _).alloc (by simp) _
  have HS0 : Hid (((w.alloc (.cells #[.int .u8 0, .int .u8 0, .int .u32 0, .slice none 0 0, .int .i64 0, .int .u32 0, .int .u32 0, .int .u8 0, .bool false, .int .u32 0, .slice none 0 0] 66)).alloc (.cells #[.int .u8 0, .int .u32 0] 29)).heap.size = w.heap.size + 2) := by show _ = _; simp
  have HT9 := Lib.hid (HT0.out.setRow' (k := w.heap.size) (by omega) (Fm.c (fm0 0 0 0 0)))
  have HZ9 := Lib.hid (((Fs.of_below (S := fun k => k = w.heap.size ∨ k = w.heap.size + 1) HB0.out).setRow (g := w.heap.size) (fun _ => .inl rfl) (Fm.c (fm0 0 0 0 0))).setRow (g := w.heap.size + 1) (fun _ => .inr rfl) (ftc 0 0))
  go_enter Tryz.func30, Tryz.ntmps30
  go_upto_region 1 with fail
  generalize ((w.alloc (.cells #[.int .u8 0, .int .u8 0, .int .u32 0, .slice none 0 0, .int .i64 0, .int .u32 0, .int .u32 0, .int .u8 0, .bool false, .int .u32 0, .slice none 0 0] 66)).alloc (.cells #[.int .u8 0, .int .u32 0] 29)) = w1 at *
  go_wp2_with fail
  refine (bad_nil _).mono ?_
  rintro e w3' ⟨rfl, rfl⟩
  go_wp2_with (first | (refine wpList_sfm (x := (fm0 0 0 0 0)) rfl _ _ rfl rfl (by rw [z_c]; rfl) HX0.out ?_) | (refine wpList_sft (s := 0) (c := 0) rfl _ _ rfl rfl (show _ = Value.agg (ftc 0 0) by rw [ftc_eq]; rfl) HT9.out ?_))
  refine bodyPost_ret (ret_ffb rfl _ _ w.heap.size (w.heap.size + 1) (fm0 0 0 0 0) 0 0 (.bool false) rfl ((HX0.out.setRow _).setRow' (by omega) _) rfl (HT9.out.setRow _) rfl) rfl ?_
  exact ⟨rfl, HZ9.out.below (fun k hk _ => by omega) (Nat.le_refl _)⟩

set_option maxRecDepth 100000 in
set_option maxHeartbeats 4000000 in
theorem Next_bad {w : World} {g b : Nat} {l : List UInt8} {wt : Bool} (h : Spl w g b l wt true) :
    Calls Tryz.prog 30 #[.pointer (some ⟨g, 0, none⟩)] w fun e w' => e = .returned (.tuple #[.agg (fm0 0 0 0 0).c, .agg (ftc 0 0), .bool false]) ∧ Spl w' g b l wt true ∧ Fs (gbS g b) w w' := by
  have HX0 : Hid (Row ((w.alloc (.cells #[.int .u8 0, .int .u8 0, .int .u32 0, .slice none 0 0, .int .i64 0, .int .u32 0, .int .u32 0, .int .u8 0, .bool false, .int .u32 0, .slice none 0 0] 66)).alloc (.cells #[.int .u8 0, .int .u32 0] 29)) w.heap.size 66 (fm0 0 0 0 0).c) := by show Row _ _ _ _; rw [z_c]; exact (Row.new w _ _).alloc _
  have HT0 : Hid (Row ((w.alloc (.cells #[.int .u8 0, .int .u8 0, .int .u32 0, .slice none 0 0, .int .i64 0, .int .u32 0, .int .u32 0, .int .u8 0, .bool false, .int .u32 0, .slice none 0 0] 66)).alloc (.cells #[.int .u8 0, .int .u32 0] 29)) (w.heap.size + 1) 29 (ftc 0 0)) := by show Row _ _ _ _; rw [ftc_eq]; exact Row.made _ _ _ (by simp)
  have HB0 : Hid (Below w.heap.size w ((w.alloc (.cells #[.int .u8 0, .int .u8 0, .int .u32 0, .slice none 0 0, .int .i64 0, .int .u32 0, .int .u32 0, .int .u8 0, .bool false, .int .u32 0, .slice none 0 0] 66)).alloc (.cells #[.int .u8 0, .int .u32 0] 29))) := ((Below.refl _ _).alloc (Nat.le_refl _) _).alloc (by simp) _
  have HS0 : Hid (((w.alloc (.cells #[.int .u8 0, .int .u8 0, .int .u32 0, .slice none 0 0, .int .i64 0, .int .u32 0, .int .u32 0, .int .u8 0, .bool false, .int .u32 0, .slice none 0 0] 66)).alloc (.cells #[.int .u8 0, .int .u32 0] 29)).heap.size = w.heap.size + 2) := by show _ = _; simp
  have H0 : Hid (Spl ((w.alloc (.cells #[.int .u8 0, .int .u8 0, .int .u32 0, .slice none 0 0, .int .i64 0, .int .u32 0, .int .u32 0, .int .u8 0, .bool false, .int .u32 0, .slice none 0 0] 66)).alloc (.cells #[.int .u8 0, .int .u32 0] 29)) g b l wt true) := h.below HB0.out
  have H00 := Lib.hid h
  clear h
  have HT9 := Lib.hid (HT0.out.setRow' (k := w.heap.size) (by omega) (Fm.c (fm0 0 0 0 0)))
  have HZ9 := Lib.hid (((Fs.of_below (S := fun k => k = w.heap.size ∨ k = w.heap.size + 1) HB0.out).setRow (g := w.heap.size) (fun _ => .inl rfl) (Fm.c (fm0 0 0 0 0))).setRow (g := w.heap.size + 1) (fun _ => .inr rfl) (ftc 0 0))
  go_enter Tryz.func30, Tryz.ntmps30
  go_upto_region 1 with fail
  generalize ((w.alloc (.cells #[.int .u8 0, .int .u8 0, .int .u32 0, .slice none 0 0, .int .i64 0, .int .u32 0, .int .u32 0, .int .u8 0, .bool false, .int .u32 0, .slice none 0 0] 66)).alloc (.cells #[.int .u8 0, .int .u32 0] 29)) = w1 at *
  go_wp2_with fail
  refine (bad_any H0.out).mono ?_
  rintro e w3' ⟨rfl, rfl⟩
  go_wp2_with (first | (refine wpList_sfm (x := (fm0 0 0 0 0)) rfl _ _ rfl rfl (by rw [z_c]; rfl) HX0.out ?_) | (refine wpList_sft (s := 0) (c := 0) rfl _ _ rfl rfl (show _ = Value.agg (ftc 0 0) by rw [ftc_eq]; rfl) HT9.out ?_))
  refine bodyPost_ret (ret_ffb rfl _ _ w.heap.size (w.heap.size + 1) (fm0 0 0 0 0) 0 0 (.bool false) rfl ((HX0.out.setRow _).setRow' (by omega) _) rfl (HT9.out.setRow _) rfl) rfl ?_
  exact ⟨rfl, H00.out.fs HZ9.out (by have := H00.out.lts; omega) (by have := H00.out.lts; omega), HZ9.out.below (B := w.heap.size) (fun k hk _ => by omega) (Nat.le_refl _) |> Fs.of_below⟩

set_option maxRecDepth 100000 in
set_option maxHeartbeats 8000000 in
theorem Next_stay {w : World} {g b fi la : Nat} {L : List UInt8} {wt : Bool} (h : SpG w g b fi la L wt) (hG : GlobE w) {o : Option Rd} {r : List UInt8} {w2 : Bool} (ho : nxN (heldL L fi la) wt = (o, r, w2)) (hs : ∀ s : Nat, (s = scopeO o) → s ≠ 1) :
    Calls Tryz.prog 30 #[.pointer (some ⟨g, 0, none⟩)] w fun e w' => ∃ v, e = .returned v ∧ Told w' w.heap.size o v ∧ Spl w' g b r w2 false ∧ Fs (gbS g b) w w' := by
  have HX0 : Hid (Row ((w.alloc (.cells #[.int .u8 0, .int .u8 0, .int .u32 0, .slice none 0 0, .int .i64 0, .int .u32 0, .int .u32 0, .int .u8 0, .bool false, .int .u32 0, .slice none 0 0] 66)).alloc (.cells #[.int .u8 0, .int .u32 0] 29)) w.heap.size 66 (fm0 0 0 0 0).c) := by show Row _ _ _ _; rw [z_c]; exact (Row.new w _ _).alloc _
  have HT0 : Hid (Row ((w.alloc (.cells #[.int .u8 0, .int .u8 0, .int .u32 0, .slice none 0 0, .int .i64 0, .int .u32 0, .int .u32 0, .int .u8 0, .bool false, .int .u32 0, .slice none 0 0] 66)).alloc (.cells #[.int .u8 0, .int .u32 0] 29)) (w.heap.size + 1) 29 (ftc 0 0)) := by show Row _ _ _ _; rw [ftc_eq]; exact Row.made _ _ _ (by simp)
  have HB0 : Hid (Below w.heap.size w ((w.alloc (.cells #[.int .u8 0, .int .u8 0, .int .u32 0, .slice none 0 0, .int .i64 0, .int .u32 0, .int .u32 0, .int .u8 0, .bool false, .int .u32 0, .slice none 0 0] 66)).alloc (.cells #[.int .u8 0, .int .u32 0] 29))) := ((Below.refl _ _).alloc (Nat.le_refl _) _).alloc (by simp) _
  have HS0 : Hid (((w.alloc (.cells #[.int .u8 0, .int .u8 0, .int .u32 0, .slice none 0 0, .int .i64 0, .int .u32 0, .int .u32 0, .int .u8 0, .bool false, .int .u32 0, .slice none 0 0] 66)).alloc (.cells #[.int .u8 0, .int .u32 0] 29)).heap.size = w.heap.size + 2) := by show _ = _; simp
  have H0 : Hid (SpG ((w.alloc (.cells #[.int .u8 0, .int .u8 0, .int .u32 0, .slice none 0 0, .int .i64 0, .int .u32 0, .int .u32 0, .int .u8 0, .bool false, .int .u32 0, .slice none 0 0] 66)).alloc (.cells #[.int .u8 0, .int .u32 0] 29)) g b fi la L wt) := h.below HB0.out
  have HF0 : Hid (Fs (gbS g b) w ((w.alloc (.cells #[.int .u8 0, .int .u8 0, .int .u32 0, .slice none 0 0, .int .i64 0, .int .u32 0, .int .u32 0, .int .u8 0, .bool false, .int .u32 0, .slice none 0 0] 66)).alloc (.cells #[.int .u8 0, .int .u32 0] 29))) := Fs.of_below HB0.out
  have HG0 : Hid (GlobE ((w.alloc (.cells #[.int .u8 0, .int .u8 0, .int .u32 0, .slice none 0 0, .int .i64 0, .int .u32 0, .int .u32 0, .int .u8 0, .bool false, .int .u32 0, .slice none 0 0] 66)).alloc (.cells #[.int .u8 0, .int .u32 0] 29))) := hG.below HB0.out
  have hglt := h.row.lt
  have hblt := h.buf.lt
  have hbd := bad_cell H0.out.c4
  have hn := nx_any H0.out HG0.out
  rw [ho] at hn
  have HO := Lib.hid hs
  clear h hG ho hs
  go_enter Tryz.func30, Tryz.ntmps30
  go_upto_region 1 with fail
  generalize ((w.alloc (.cells #[.int .u8 0, .int .u8 0, .int .u32 0, .slice none 0 0, .int .i64 0, .int .u32 0, .int .u32 0, .int .u8 0, .bool false, .int .u32 0, .slice none 0 0] 66)).alloc (.cells #[.int .u8 0, .int .u32 0] 29)) = w1 at *
  go_wp2_with fail
  refine hbd.mono ?_
  rintro e w3' ⟨rfl, rfl⟩
  go_wp2_with fail
  refine hn.mono ?_
  rintro e w5 ⟨v, rfl, ⟨X, s, c, ok, rfl, hT⟩, ⟨fi', h5, hl5⟩, hF5⟩
  have HX5 := Lib.hid (hF5.row (b := w.heap.size) (fun e => by rcases e with e | e <;> omega) HX0.out)
  have HT5 := Lib.hid (hF5.row (b := w.heap.size + 1) (fun e => by rcases e with e | e <;> omega) HT0.out)
  have H5 := Lib.hid h5
  have HF5 := Lib.hid (HF0.out.trans hF5 (fun k _ e => e))
  have HQ5 := Lib.hid hl5
  have HS1 := Lib.hid (HO.out s (hT.scope))
  have HM5 := Lib.hid (hT.mono (base' := w.heap.size + 2) (by have := HS0.out; omega))
  have hs5 : w.heap.size + 2 ≤ w5.heap.size := by rw [← HS0.out]; exact hF5.size
  clear hn hbd hT h5 hl5 hF5 HF0 HG0 HX0 HT0 HS0 HB0 HO
  have HX6 : Hid (Row ((w5.alloc (.cells #[.int .u8 0, .int .u8 0, .int .u32 0, .slice none 0 0, .int .i64 0, .int .u32 0, .int .u32 0, .int .u8 0, .bool false, .int .u32 0, .slice none 0 0] 66)).alloc (.cells #[.int .u8 0, .int .u32 0] 29)) w5.heap.size 66 (fm0 0 0 0 0).c) := by show Row _ _ _ _; rw [z_c]; exact (Row.new w5 _ _).alloc _
  have HT6 : Hid (Row ((w5.alloc (.cells #[.int .u8 0, .int .u8 0, .int .u32 0, .slice none 0 0, .int .i64 0, .int .u32 0, .int .u32 0, .int .u8 0, .bool false, .int .u32 0, .slice none 0 0] 66)).alloc (.cells #[.int .u8 0, .int .u32 0] 29)) (w5.heap.size + 1) 29 (ftc 0 0)) := by show Row _ _ _ _; rw [ftc_eq]; exact Row.made _ _ _ (by simp)
  have HB6 : Hid (Below w5.heap.size w5 ((w5.alloc (.cells #[.int .u8 0, .int .u8 0, .int .u32 0, .slice none 0 0, .int .i64 0, .int .u32 0, .int .u32 0, .int .u8 0, .bool false, .int .u32 0, .slice none 0 0] 66)).alloc (.cells #[.int .u8 0, .int .u32 0] 29))) := ((Below.refl _ _).alloc (Nat.le_refl _) _).alloc (by simp) _
  have HS6 : Hid (((w5.alloc (.cells #[.int .u8 0, .int .u8 0, .int .u32 0, .slice none 0 0, .int .i64 0, .int .u32 0, .int .u32 0, .int .u8 0, .bool false, .int .u32 0, .slice none 0 0] 66)).alloc (.cells #[.int .u8 0, .int .u32 0] 29)).heap.size = w5.heap.size + 2) := by show _ = _; simp
  have H7 := Lib.hid (H5.out.below HB6.out)
  have HF7 := Lib.hid (HF5.out.then_below HB6.out)
  have HX7 := Lib.hid (HX5.out.below HB6.out HX5.out.lt)
  have HT7 := Lib.hid (HT5.out.below HB6.out HT5.out.lt)
  clear H5 HF5 HX5 HT5
  go_upto_region 4 with (first | (refine wpList_sfm (x := X) rfl _ _ rfl rfl rfl HX6.out ?_) | (refine wpList_sft (s := s) (c := c) rfl _ _ rfl rfl rfl (HT6.out.setRow' (k := w5.heap.size) (by omega) X.c) ?_))
  have HX8 := Lib.hid ((HX6.out.setRow X.c).setRow' (k := w5.heap.size + 1) (by omega) (ftc s c))
  have HT8 := Lib.hid ((HT6.out.setRow' (k := w5.heap.size) (by omega) X.c).setRow (ftc s c))
  have HSS := Lib.hid (((Fs.refl (fun k => k = w5.heap.size ∨ k = w5.heap.size + 1) ((w5.alloc (.cells #[.int .u8 0, .int .u8 0, .int .u32 0, .slice none 0 0, .int .i64 0, .int .u32 0, .int .u32 0, .int .u8 0, .bool false, .int .u32 0, .slice none 0 0] 66)).alloc (.cells #[.int .u8 0, .int .u32 0] 29))).setRow (g := w5.heap.size) (fun _ => .inl rfl) X.c).setRow (g := w5.heap.size + 1) (fun _ => .inr rfl) (ftc s c))
  have HY8 := Lib.hid (HSS.out.row (by omega) HX7.out)
  have HU8 := Lib.hid (HSS.out.row (by omega) HT7.out)
  have H8 := Lib.hid (H7.out.fs HSS.out (by omega) (by omega))
  have HF8 := Lib.hid (HF7.out.trans HSS.out (fun k hk h => by omega))
  have HM8 := Lib.hid (HM5.out.skip HB6.out rfl HSS.out)
  generalize ((((w5.alloc (.cells #[.int .u8 0, .int .u8 0, .int .u32 0, .slice none 0 0, .int .i64 0, .int .u32 0, .int .u32 0, .int .u8 0, .bool false, .int .u32 0, .slice none 0 0] 66)).alloc (.cells #[.int .u8 0, .int .u32 0] 29)).setRow w5.heap.size X.c).setRow (w5.heap.size + 1) (ftc s c)) = w8 at *
  clear HX6 HT6 HX7 HT7 HSS H7 HF7 HS6 HM5 HB6
  have cs : w8.cell? ⟨w5.heap.size + 1, 0, none⟩ = some (.int .u8 (s : Int)) := HT8.out.cell (by rw [ftc_eq]; rfl)
  have hb1 : ((s : Int) == 1) = false := beq_eq_false_iff_ne.2 (by have := HS1.out; omega)
  go_wp2_with fail
  refine wp_region_held_drew (S := fun w' => Row w' w5.heap.size 66 (Fm.c X) ∧ Row w' (w5.heap.size + 1) 29 (ftc s c)) (by kernel_rfl) ⟨HX8.out, HT8.out⟩ (fun hHeld => ?_)
  refine wpAnyH_take (i := 0) (v := _) rfl (by kernel_rfl) (by kernel_rfl) (by kernel_rfl) (fun _ _ _ h => h) (yields_fm (by rfl) _ rfl rfl (fun _ hSw => hSw.1)) (by assumption) ?rest0
  try simp only [Act.put, List.getElem_toArray, List.getElem_cons_zero, List.getElem_cons_succ, List.setIfInBounds_toArray, List.set_cons_zero, List.set_cons_succ]
  refine wpAnyH_take (i := 1) (v := _) rfl (by kernel_rfl) (by kernel_rfl) (by kernel_rfl) (fun _ _ _ h => h) (yields_ft (by rfl) _ rfl rfl (fun _ hSw => hSw.2)) (by assumption) ?rest1q1
  try simp only [Act.put, List.getElem_toArray, List.getElem_cons_zero, List.getElem_cons_succ, List.setIfInBounds_toArray, List.set_cons_zero, List.set_cons_succ]
  refine wpAnyH_take (i := 2) (v := ?v2q2) rfl (by kernel_rfl) (by kernel_rfl) (by kernel_rfl) (fun _ _ _ h => h) (Or.inl ⟨by rfl, ?hy2q2⟩) (by assumption) ?rest2q2
  case hy2q2 => (intro w hSw; (try dsimp only at hSw); go_simp <;> with_reducible rfl)
  try simp only [Act.put, List.getElem_toArray, List.getElem_cons_zero, List.getElem_cons_succ, List.setIfInBounds_toArray, List.set_cons_zero, List.set_cons_succ]
  refine wpAnyH_ready (rs := [3]) (by kernel_rfl) (by simp) ?_
  refine AllReadyH.cons rfl (fun K hK => ?_) AllReadyH.nil
  refine step_sfm (x := X) rfl (.tmp 2) (.tmp 24) rfl rfl rfl HY8.out ?_
  refine hK.out _ _ ⟨hHeld.1.setRow' (by omega) _, hHeld.2.setRow' (by omega) _⟩ (fun hHeld => ?_)
  clear hK K
  try simp only [Act.put, List.getElem_toArray, List.getElem_cons_zero, List.getElem_cons_succ, List.setIfInBounds_toArray, List.set_cons_zero, List.set_cons_succ]
  refine wpAnyH_ready (rs := [4]) (by kernel_rfl) (by simp) ?_
  refine AllReadyH.cons rfl (fun K hK => ?_) AllReadyH.nil
  refine step_sft rfl (.tmp 3) (.tmp 25) rfl rfl rfl (Row.setRow' (show Row (World.drew _) _ _ _ from HU8.out) (k := w.heap.size) (by omega) _) ?_
  refine hK.out _ _ ⟨hHeld.1.setRow' (by omega) _, hHeld.2.setRow' (by omega) _⟩ (fun hHeld => ?_)
  clear hK K
  try simp only [Act.put, List.getElem_toArray, List.getElem_cons_zero, List.getElem_cons_succ, List.setIfInBounds_toArray, List.set_cons_zero, List.set_cons_succ]
  refine wpAnyH_take (i := 5) (v := ?v5q3) rfl (by kernel_rfl) (by kernel_rfl) (by kernel_rfl) (fun _ _ _ h => h) (Or.inl ⟨by rfl, ?hy5q3⟩) (by assumption) ?rest5q3
  case hy5q3 => (intro w hSw; (try dsimp only at hSw); go_simp <;> with_reducible rfl)
  try simp only [Act.put, List.getElem_toArray, List.getElem_cons_zero, List.getElem_cons_succ, List.setIfInBounds_toArray, List.set_cons_zero, List.set_cons_succ]
  refine wpAnyH_done (by kernel_rfl) ?_ _
  go_wp2_with fail
  refine bodyPost_ret (ret_ffb rfl _ _ w.heap.size (w.heap.size + 1) X s c (.bool ok) rfl (Row.setRow' (Row.setRow (show Row w8.drew _ _ _ from HY8.out) _) (by omega) _) rfl (Row.setRow (Row.setRow' (show Row w8.drew _ _ _ from HU8.out) (by omega) _) _) rfl) rfl ?_
  have HZ : Fs (fun k => k = w.heap.size ∨ k = w.heap.size + 1) w8 ((w8.drew.setRow w.heap.size X.c).setRow (w.heap.size + 1) (ftc s c)) := (((Fs.refl _ w8).drewN 1).setRow (g := w.heap.size) (fun _ => .inl rfl) X.c).setRow (g := w.heap.size + 1) (fun _ => .inr rfl) (ftc s c)
  exact ⟨_, rfl, ⟨X, s, c, ok, rfl, (HM8.out.keep fun k hk hk2 => HZ.block k hk2 (by omega)).mono (by omega)⟩, .inl ⟨rfl, fi', la, L, H8.out.fs HZ (by omega) (by omega), HQ5.out.symm⟩, HF8.out.trans HZ (fun k hk h => by omega)⟩

set_option maxRecDepth 100000 in
set_option maxHeartbeats 8000000 in
theorem Next_turn {w : World} {g b fi la : Nat} {L : List UInt8} {wt : Bool} (h : SpG w g b fi la L wt) (hG : GlobE w) {o : Option Rd} {r : List UInt8} {w2 : Bool} (ho : nxN (heldL L fi la) wt = (o, r, w2)) (hs : ∀ s : Nat, (s = scopeO o) → s = 1) :
    Calls Tryz.prog 30 #[.pointer (some ⟨g, 0, none⟩)] w fun e w' => ∃ v, e = .returned v ∧ Told w' w.heap.size o v ∧ Spl w' g b [] false true ∧ Fs (gbS g b) w w' := by
  have HX0 : Hid (Row ((w.alloc (.cells #[.int .u8 0, .int .u8 0, .int .u32 0, .slice none 0 0, .int .i64 0, .int .u32 0, .int .u32 0, .int .u8 0, .bool false, .int .u32 0, .slice none 0 0] 66)).alloc (.cells #[.int .u8 0, .int .u32 0] 29)) w.heap.size 66 (fm0 0 0 0 0).c) := by show Row _ _ _ _; rw [z_c]; exact (Row.new w _ _).alloc _
  have HT0 : Hid (Row ((w.alloc (.cells #[.int .u8 0, .int .u8 0, .int .u32 0, .slice none 0 0, .int .i64 0, .int .u32 0, .int .u32 0, .int .u8 0, .bool false, .int .u32 0, .slice none 0 0] 66)).alloc (.cells #[.int .u8 0, .int .u32 0] 29)) (w.heap.size + 1) 29 (ftc 0 0)) := by show Row _ _ _ _; rw [ftc_eq]; exact Row.made _ _ _ (by simp)
  have HB0 : Hid (Below w.heap.size w ((w.alloc (.cells #[.int .u8 0, .int .u8 0, .int .u32 0, .slice none 0 0, .int .i64 0, .int .u32 0, .int .u32 0, .int .u8 0, .bool false, .int .u32 0, .slice none 0 0] 66)).alloc (.cells #[.int .u8 0, .int .u32 0] 29))) := ((Below.refl _ _).alloc (Nat.le_refl _) _).alloc (by simp) _
  have HS0 : Hid (((w.alloc (.cells #[.int .u8 0, .int .u8 0, .int .u32 0, .slice none 0 0, .int .i64 0, .int .u32 0, .int .u32 0, .int .u8 0, .bool false, .int .u32 0, .slice none 0 0] 66)).alloc (.cells #[.int .u8 0, .int .u32 0] 29)).heap.size = w.heap.size + 2) := by show _ = _; simp
  have H0 : Hid (SpG ((w.alloc (.cells #[.int .u8 0, .int .u8 0, .int .u32 0, .slice none 0 0, .int .i64 0, .int .u32 0, .int .u32 0, .int .u8 0, .bool false, .int .u32 0, .slice none 0 0] 66)).alloc (.cells #[.int .u8 0, .int .u32 0] 29)) g b fi la L wt) := h.below HB0.out
  have HF0 : Hid (Fs (gbS g b) w ((w.alloc (.cells #[.int .u8 0, .int .u8 0, .int .u32 0, .slice none 0 0, .int .i64 0, .int .u32 0, .int .u32 0, .int .u8 0, .bool false, .int .u32 0, .slice none 0 0] 66)).alloc (.cells #[.int .u8 0, .int .u32 0] 29))) := Fs.of_below HB0.out
  have HG0 : Hid (GlobE ((w.alloc (.cells #[.int .u8 0, .int .u8 0, .int .u32 0, .slice none 0 0, .int .i64 0, .int .u32 0, .int .u32 0, .int .u8 0, .bool false, .int .u32 0, .slice none 0 0] 66)).alloc (.cells #[.int .u8 0, .int .u32 0] 29))) := hG.below HB0.out
  have hglt := h.row.lt
  have hblt := h.buf.lt
  have hbd := bad_cell H0.out.c4
  have hn := nx_any H0.out HG0.out
  rw [ho] at hn
  have HO := Lib.hid hs
  clear h hG ho hs
  go_enter Tryz.func30, Tryz.ntmps30
  go_upto_region 1 with fail
  generalize ((w.alloc (.cells #[.int .u8 0, .int .u8 0, .int .u32 0, .slice none 0 0, .int .i64 0, .int .u32 0, .int .u32 0, .int .u8 0, .bool false, .int .u32 0, .slice none 0 0] 66)).alloc (.cells #[.int .u8 0, .int .u32 0] 29)) = w1 at *
  go_wp2_with fail
  refine hbd.mono ?_
  rintro e w3' ⟨rfl, rfl⟩
  go_wp2_with fail
  refine hn.mono ?_
  rintro e w5 ⟨v, rfl, ⟨X, s, c, ok, rfl, hT⟩, ⟨fi', h5, hl5⟩, hF5⟩
  have HX5 := Lib.hid (hF5.row (b := w.heap.size) (fun e => by rcases e with e | e <;> omega) HX0.out)
  have HT5 := Lib.hid (hF5.row (b := w.heap.size + 1) (fun e => by rcases e with e | e <;> omega) HT0.out)
  have H5 := Lib.hid h5
  have HF5 := Lib.hid (HF0.out.trans hF5 (fun k _ e => e))
  have HQ5 := Lib.hid hl5
  have HS1 := Lib.hid (HO.out s (hT.scope))
  have HM5 := Lib.hid (hT.mono (base' := w.heap.size + 2) (by have := HS0.out; omega))
  have hs5 : w.heap.size + 2 ≤ w5.heap.size := by rw [← HS0.out]; exact hF5.size
  clear hn hbd hT h5 hl5 hF5 HF0 HG0 HX0 HT0 HS0 HB0 HO
  have HX6 : Hid (Row ((w5.alloc (.cells #[.int .u8 0, .int .u8 0, .int .u32 0, .slice none 0 0, .int .i64 0, .int .u32 0, .int .u32 0, .int .u8 0, .bool false, .int .u32 0, .slice none 0 0] 66)).alloc (.cells #[.int .u8 0, .int .u32 0] 29)) w5.heap.size 66 (fm0 0 0 0 0).c) := by show Row _ _ _ _; rw [z_c]; exact (Row.new w5 _ _).alloc _
  have HT6 : Hid (Row ((w5.alloc (.cells #[.int .u8 0, .int .u8 0, .int .u32 0, .slice none 0 0, .int .i64 0, .int .u32 0, .int .u32 0, .int .u8 0, .bool false, .int .u32 0, .slice none 0 0] 66)).alloc (.cells #[.int .u8 0, .int .u32 0] 29)) (w5.heap.size + 1) 29 (ftc 0 0)) := by show Row _ _ _ _; rw [ftc_eq]; exact Row.made _ _ _ (by simp)
  have HB6 : Hid (Below w5.heap.size w5 ((w5.alloc (.cells #[.int .u8 0, .int .u8 0, .int .u32 0, .slice none 0 0, .int .i64 0, .int .u32 0, .int .u32 0, .int .u8 0, .bool false, .int .u32 0, .slice none 0 0] 66)).alloc (.cells #[.int .u8 0, .int .u32 0] 29))) := ((Below.refl _ _).alloc (Nat.le_refl _) _).alloc (by simp) _
  have HS6 : Hid (((w5.alloc (.cells #[.int .u8 0, .int .u8 0, .int .u32 0, .slice none 0 0, .int .i64 0, .int .u32 0, .int .u32 0, .int .u8 0, .bool false, .int .u32 0, .slice none 0 0] 66)).alloc (.cells #[.int .u8 0, .int .u32 0] 29)).heap.size = w5.heap.size + 2) := by show _ = _; simp
  have H7 := Lib.hid (H5.out.below HB6.out)
  have HF7 := Lib.hid (HF5.out.then_below HB6.out)
  have HX7 := Lib.hid (HX5.out.below HB6.out HX5.out.lt)
  have HT7 := Lib.hid (HT5.out.below HB6.out HT5.out.lt)
  clear H5 HF5 HX5 HT5
  go_upto_region 4 with (first | (refine wpList_sfm (x := X) rfl _ _ rfl rfl rfl HX6.out ?_) | (refine wpList_sft (s := s) (c := c) rfl _ _ rfl rfl rfl (HT6.out.setRow' (k := w5.heap.size) (by omega) X.c) ?_))
  have HX8 := Lib.hid ((HX6.out.setRow X.c).setRow' (k := w5.heap.size + 1) (by omega) (ftc s c))
  have HT8 := Lib.hid ((HT6.out.setRow' (k := w5.heap.size) (by omega) X.c).setRow (ftc s c))
  have HSS := Lib.hid (((Fs.refl (fun k => k = w5.heap.size ∨ k = w5.heap.size + 1) ((w5.alloc (.cells #[.int .u8 0, .int .u8 0, .int .u32 0, .slice none 0 0, .int .i64 0, .int .u32 0, .int .u32 0, .int .u8 0, .bool false, .int .u32 0, .slice none 0 0] 66)).alloc (.cells #[.int .u8 0, .int .u32 0] 29))).setRow (g := w5.heap.size) (fun _ => .inl rfl) X.c).setRow (g := w5.heap.size + 1) (fun _ => .inr rfl) (ftc s c))
  have HY8 := Lib.hid (HSS.out.row (by omega) HX7.out)
  have HU8 := Lib.hid (HSS.out.row (by omega) HT7.out)
  have H8 := Lib.hid (H7.out.fs HSS.out (by omega) (by omega))
  have HF8 := Lib.hid (HF7.out.trans HSS.out (fun k hk h => by omega))
  have HM8 := Lib.hid (HM5.out.skip HB6.out rfl HSS.out)
  generalize ((((w5.alloc (.cells #[.int .u8 0, .int .u8 0, .int .u32 0, .slice none 0 0, .int .i64 0, .int .u32 0, .int .u32 0, .int .u8 0, .bool false, .int .u32 0, .slice none 0 0] 66)).alloc (.cells #[.int .u8 0, .int .u32 0] 29)).setRow w5.heap.size X.c).setRow (w5.heap.size + 1) (ftc s c)) = w8 at *
  clear HX6 HT6 HX7 HT7 HSS H7 HF7 HS6 HM5 HB6
  have cs : w8.cell? ⟨w5.heap.size + 1, 0, none⟩ = some (.int .u8 (s : Int)) := HT8.out.cell (by rw [ftc_eq]; rfl)
  have hb1 : ((s : Int) == 1) = true := by rw [HS1.out]; rfl
  have HR8 := Lib.hid H8.out.row
  have hw9 := (Fs.refl (fun k => k = g) w8).setRow (g := g) (fun _ => rfl) #[.slice none 0 0, .int .i64 0, .int .i64 0, .bool false, .bool true]
  have HX9 := Lib.hid (hw9.row (b := w5.heap.size) (by omega) HX8.out)
  have HT9 := Lib.hid (hw9.row (b := w5.heap.size + 1) (by omega) HT8.out)
  have HY9 := Lib.hid (hw9.row (b := w.heap.size) (by omega) HY8.out)
  have HU9 := Lib.hid (hw9.row (b := w.heap.size + 1) (by omega) HU8.out)
  have HM9 := Lib.hid (HM8.out.keep (w' := w8.setRow g #[.slice none 0 0, .int .i64 0, .int .i64 0, .bool false, .bool true]) fun k hk hk2 => hw9.block k hk2 (by omega))
  have HF9 := Lib.hid (HF8.out.trans hw9 (fun k _ e => .inl e))
  have HP9 : Hid (SpX (w8.setRow g #[.slice none 0 0, .int .i64 0, .int .i64 0, .bool false, .bool true]) g ∧ 0 < g ∧ b ≠ g ∧ b < (w8.setRow g #[.slice none 0 0, .int .i64 0, .int .i64 0, .bool false, .bool true]).heap.size) := ⟨H8.out.row.setRow _, H8.out.lo.1, H8.out.ne, Nat.lt_of_lt_of_le H8.out.buf.lt hw9.size⟩
  clear hw9
  go_wp2_with (refine wpList_ssp rfl _ _ rfl rfl rfl HR8.out ?_)
  generalize w8.setRow g #[.slice none 0 0, .int .i64 0, .int .i64 0, .bool false, .bool true] = w9 at *
  clear HX8 HT8 HY8 HU8 HM8 HF8 H8 HR8
  refine wp_region_held_drew (S := fun w' => Row w' w5.heap.size 66 (Fm.c X) ∧ Row w' (w5.heap.size + 1) 29 (ftc s c)) (by kernel_rfl) ⟨HX9.out, HT9.out⟩ (fun hHeld => ?_)
  refine wpAnyH_take (i := 0) (v := _) rfl (by kernel_rfl) (by kernel_rfl) (by kernel_rfl) (fun _ _ _ h => h) (yields_fm (by rfl) _ rfl rfl (fun _ hSw => hSw.1)) (by assumption) ?rest0q4
  try simp only [Act.put, List.getElem_toArray, List.getElem_cons_zero, List.getElem_cons_succ, List.setIfInBounds_toArray, List.set_cons_zero, List.set_cons_succ]
  refine wpAnyH_take (i := 1) (v := _) rfl (by kernel_rfl) (by kernel_rfl) (by kernel_rfl) (fun _ _ _ h => h) (yields_ft (by rfl) _ rfl rfl (fun _ hSw => hSw.2)) (by assumption) ?rest1q5
  try simp only [Act.put, List.getElem_toArray, List.getElem_cons_zero, List.getElem_cons_succ, List.setIfInBounds_toArray, List.set_cons_zero, List.set_cons_succ]
  refine wpAnyH_take (i := 2) (v := ?v2q6) rfl (by kernel_rfl) (by kernel_rfl) (by kernel_rfl) (fun _ _ _ h => h) (Or.inl ⟨by rfl, ?hy2q6⟩) (by assumption) ?rest2q6
  case hy2q6 => (intro w hSw; (try dsimp only at hSw); go_simp <;> with_reducible rfl)
  try simp only [Act.put, List.getElem_toArray, List.getElem_cons_zero, List.getElem_cons_succ, List.setIfInBounds_toArray, List.set_cons_zero, List.set_cons_succ]
  refine wpAnyH_ready (rs := [3]) (by kernel_rfl) (by simp) ?_
  refine AllReadyH.cons rfl (fun K hK => ?_) AllReadyH.nil
  refine step_sfm (x := X) rfl (.tmp 2) (.tmp 24) rfl rfl rfl HY9.out ?_
  refine hK.out _ _ ⟨hHeld.1.setRow' (by omega) _, hHeld.2.setRow' (by omega) _⟩ (fun hHeld => ?_)
  clear hK K
  try simp only [Act.put, List.getElem_toArray, List.getElem_cons_zero, List.getElem_cons_succ, List.setIfInBounds_toArray, List.set_cons_zero, List.set_cons_succ]
  refine wpAnyH_ready (rs := [4]) (by kernel_rfl) (by simp) ?_
  refine AllReadyH.cons rfl (fun K hK => ?_) AllReadyH.nil
  refine step_sft rfl (.tmp 3) (.tmp 25) rfl rfl rfl (Row.setRow' (show Row (World.drew _) _ _ _ from HU9.out) (k := w.heap.size) (by omega) _) ?_
  refine hK.out _ _ ⟨hHeld.1.setRow' (by omega) _, hHeld.2.setRow' (by omega) _⟩ (fun hHeld => ?_)
  clear hK K
  try simp only [Act.put, List.getElem_toArray, List.getElem_cons_zero, List.getElem_cons_succ, List.setIfInBounds_toArray, List.set_cons_zero, List.set_cons_succ]
  refine wpAnyH_take (i := 5) (v := ?v5q7) rfl (by kernel_rfl) (by kernel_rfl) (by kernel_rfl) (fun _ _ _ h => h) (Or.inl ⟨by rfl, ?hy5q7⟩) (by assumption) ?rest5q7
  case hy5q7 => (intro w hSw; (try dsimp only at hSw); go_simp <;> with_reducible rfl)
  try simp only [Act.put, List.getElem_toArray, List.getElem_cons_zero, List.getElem_cons_succ, List.setIfInBounds_toArray, List.set_cons_zero, List.set_cons_succ]
  refine wpAnyH_done (by kernel_rfl) ?_ _
  go_wp2_with fail
  refine bodyPost_ret (ret_ffb rfl _ _ w.heap.size (w.heap.size + 1) X s c (.bool ok) rfl (Row.setRow' (Row.setRow (show Row w9.drew _ _ _ from HY9.out) _) (by omega) _) rfl (Row.setRow (Row.setRow' (show Row w9.drew _ _ _ from HU9.out) (by omega) _) _) rfl) rfl ?_
  have HZ : Fs (fun k => k = w.heap.size ∨ k = w.heap.size + 1) w9 ((w9.drew.setRow w.heap.size X.c).setRow (w.heap.size + 1) (ftc s c)) := (((Fs.refl _ w9).drewN 1).setRow (g := w.heap.size) (fun _ => .inl rfl) X.c).setRow (g := w.heap.size + 1) (fun _ => .inr rfl) (ftc s c)
  exact ⟨_, rfl, ⟨X, s, c, ok, rfl, (HM9.out.keep fun k hk hk2 => HZ.block k hk2 (by omega)).mono (by omega)⟩, .inr ⟨rfl, rfl, rfl, (HZ.block g (Row.lt HP9.out.1) (by omega)).trans HP9.out.1, HP9.out.2.1, HP9.out.2.2.1, Nat.lt_of_lt_of_le HP9.out.2.2.2 HZ.size⟩, HF9.out.trans HZ (fun k hk h => by omega)⟩

theorem Next_any {w : World} {g b : Nat} {l : List UInt8} {wt bad : Bool} (h : Spl w g b l wt bad) (hG : GlobE w) :
    Calls Tryz.prog 30 #[.pointer (some ⟨g, 0, none⟩)] w fun e w' => ∃ v, e = .returned v ∧ Told w' w.heap.size (nsN l wt bad).1 v ∧ Spl w' g b (nsN l wt bad).2.1 (nsN l wt bad).2.2.1 (nsN l wt bad).2.2.2 ∧ Fs (gbS g b) w w' := by
  cases bad with
  | true =>
    refine (Next_bad h).mono ?_
    rintro e w1 ⟨rfl, h1, h2⟩
    refine ⟨_, rfl, ⟨_, _, _, _, rfl, rfl, rfl, rfl, rfl⟩, ?_, h2⟩
    rcases h1 with ⟨h0, _⟩ | ⟨_, hw, hl, hX⟩
    · cases h0
    · exact .inr ⟨rfl, rfl, rfl, hX⟩
  | false =>
    rcases h with ⟨_, fi, la, L, hS, rfl⟩ | ⟨h0, _⟩
    · obtain ⟨o, r, w2, ho⟩ : ∃ o r w2, nxN (heldL L fi la) wt = (o, r, w2) := ⟨_, _, _, rfl⟩
      cases o with
      | none =>
        rw [nsN_none ho]
        exact Next_stay hS hG ho (fun s e => by rw [e]; exact Nat.zero_ne_one)
      | some x =>
        by_cases hx : x.2.1 = 1
        · rw [nsN_fault ho hx]; exact Next_turn hS hG ho (fun s e => by rw [e]; exact hx)
        · rw [nsN_go ho hx]; exact Next_stay hS hG ho (fun s e => by rw [e]; exact hx)
    · cases h0
end Go.Proofs.YtooaajnkiokpnaaGreatDoor

namespace Go.Proofs.YtooaajnkiokpnaaGreatDoor
open Go.RowKit Go.WideShapes

def fedN (l : List UInt8) (bad : Bool) (x : List UInt8) : Nat := if bad = true then 0 else min x.length (16393 - l.length)
def fedL (l : List UInt8) (bad : Bool) (x : List UInt8) : List UInt8 := if bad = true then [] else l ++ x.take (16393 - l.length)
set_option maxRecDepth 100000 in
set_option maxHeartbeats 1000000 in
theorem feed_nil (v : Value) (w : World) : Calls Tryz.prog 39 #[.pointer none, v] w fun e w' => e = .returned (.int .i64 0) ∧ w' = w := by
  go_enter Tryz.func39, Tryz.ntmps39
  go_wp2_with fail
  refine (bad_nil _).mono ?_
  rintro e w1 ⟨rfl, rfl⟩
  go_wp2_with fail
  go_ret
  exact ⟨rfl, rfl⟩
set_option maxRecDepth 100000 in
set_option maxHeartbeats 1000000 in
theorem feed_bad (v : Value) {w : World} {g b : Nat} {l : List UInt8} {wt : Bool} (h : Spl w g b l wt true) : Calls Tryz.prog 39 #[.pointer (some ⟨g, 0, none⟩), v] w fun e w' => e = .returned (.int .i64 0) ∧ w' = w := by
  have hb := bad_any h
  clear h
  go_enter Tryz.func39, Tryz.ntmps39
  go_wp2_with fail
  refine hb.mono ?_
  rintro e w1 ⟨rfl, rfl⟩
  go_wp2_with fail
  go_ret
  exact ⟨rfl, rfl⟩
theorem feed_any {w : World} {g b : Nat} {l x : List UInt8} {wt bad : Bool} {A : Option Addr} {c : Nat} (h : Spl w g b l wt bad) (hx : RdS w (fun k => k < w.heap.size ∧ k ≠ g ∧ k ≠ b) A (byc x)) :
    Calls Tryz.prog 39 #[.pointer (some ⟨g, 0, none⟩), .slice A x.length c] w fun e w' => e = .returned (.int .i64 (fedN l bad x : Int)) ∧ Spl w' g b (fedL l bad x) wt bad ∧ Fs (gbS g b) w w' := by
  cases bad with
  | true =>
    refine (feed_bad _ h).mono ?_
    rintro e w1 ⟨rfl, rfl⟩
    refine ⟨rfl, ?_, Fs.refl _ _⟩
    rcases h with ⟨h0, _⟩ | ⟨h0, hw, hl, hX⟩
    · cases h0
    · exact .inr ⟨rfl, hw, rfl, hX⟩
  | false =>
    rcases h with ⟨_, fi, la, L, hS, rfl⟩ | ⟨h0, _⟩
    · have hl := hS.held_len
      refine (feed_good (c := c) hS hx).mono ?_
      rintro e w1 ⟨rfl, la', L', h1, h2, h3⟩
      refine ⟨?_, ?_, h3⟩
      · unfold fedN; rw [hl]; rfl
      · refine .inl ⟨rfl, 0, la', L', h1, ?_⟩
        rw [h2]
        unfold fedL
        rw [hl]
        rfl
    · cases h0
end Go.Proofs.YtooaajnkiokpnaaGreatDoor
