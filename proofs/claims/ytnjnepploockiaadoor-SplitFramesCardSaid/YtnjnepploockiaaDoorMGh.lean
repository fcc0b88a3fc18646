/-
  SplitFrames: over every input the law answers true, and the arguments read behind the call as they read before. Conditions: the row's own alone (each listed package-level variable reads as the program's text lays it: the card ties that).
  A slice of frames as an argument; an append onto bytes that the call owns or that bear a conversion's mark; how many bytes a frame has. No conditions but those that each theorem names.
  SplitPlays: the law's walk. Conditions: errors.errorType holds what the program's text lays.
  SplitFrames: the law's walk. Conditions: errors.errorType holds what the program's text lays.
-/
import Derived.Test.YtnjnepploockiaaDoorMGd
import Derived.Test.YtnjnepploockiaaDoorFopen
import Derived.Test.YtnjnepploockiaaDoorOpenS
import Derived.Test.YtnjnepploockiaaDoorMGe
import Derived.Test.YtnjnepploockiaaDoorMGc
import Derived.Test.YtnjnepploockiaaDoorRput
import Derived.Test.YtnjnepploockiaaDoorRmay
import Derived.Test.YtnjnepploockiaaDoorFdoor

namespace Go.Proofs.YtnjnepploockiaaDoor
open Go.RowKit Go.WideShapes Go.Deep

section
variable {H : Type} {hc : TypeId × Value → H}
/-- A frame that came in: an element without a fault, whose slices are read. -/
def FrW (W : World) : Type := {e : El // (e.s = 0 ∧ e.c = 0) ∧ e.F.All ∧ ElIn W (· < W.heap.size) e}
def elf (e : El) : List Value := e.fm.c.toList
theorem elf_len (e : El) : (elf e).length = 11 := by unfold elf Fm.c; rfl
def frc (W : World) (x : FrW W) : List Value := elf x.1
theorem frc_len (W : World) (x : FrW W) : (frc W x).length = 11 := elf_len _
theorem enl_frc {W : World} : ∀ L : List (FrW W), enl (frc W) L = enl elf (L.map (·.1))
  | [] => rfl
  | s :: L => by
    have h := enl_frc L
    unfold enl at *
    rw [List.map_cons, List.flatMap_cons, List.flatMap_cons, h]
    rfl
set_option maxRecDepth 100000 in
theorem open_frames {W : World} {base : Nat} {v : Value} {d : DataW H} {p : List MemPlace} (hv : Value.okWide Tryd.prog W .any base 43 v) (h : DataW.Trod hc Tryd.prog W 0 (fun _ => true) true 43 v d p) :
    ∃ (A : Option Addr) (c : Nat) (L : List El), v = .slice A L.length c ∧ L.length ≤ c ∧ RdS W (· < W.heap.size) A (enl elf L) ∧ ∀ e ∈ L, (e.s = 0 ∧ e.c = 0) ∧ e.F.All ∧ ElIn W (· < W.heap.size) e := by
  obtain ⟨A, c, L, h1, h2, _, h4⟩ := open_rows (frc_len W) (by omega) Tryd.underlying43 cells_frame (fun n cs x hx => by
    obtain ⟨F, dA, dc, sA, sc, e, hk, hd, hs⟩ := frame_cells hx
    exact ⟨⟨⟨F, 0, 0, dA, dc, sA, sc⟩, ⟨rfl, rfl⟩, hk, RdB.toS hd, hs⟩, e⟩) hv h
  rw [enl_frc] at h4
  refine ⟨A, c, L.map (·.1), by rw [List.length_map]; exact h1, by rw [List.length_map]; exact h2, h4, fun e he => ?_⟩
  obtain ⟨x, _, rfl⟩ := List.mem_map.1 he
  exact x.2
end
/-- Frame number k of such a slice. -/
theorem fr_at {w : World} {R : Nat → Prop} {A : Option Addr} {L : List El} (h : RdS w R A (enl elf L)) {k : Nat} (hk : k < L.length) : ∃ g p, A = some ⟨g, p, none⟩ ∧ R g ∧ w.rangeAt g (p + k * 11) L[k].fm.c.toList := by
  have hl := enl_length elf_len L
  obtain ⟨g, p, e, hg, hcl⟩ := h (by intro e; rw [e] at hl; simp at hl; omega)
  refine ⟨g, p, e, hg, fun j v hv => ?_⟩
  have hj : j < 11 := by
    have := (List.getElem?_eq_some_iff.1 hv).1
    have e11 : L[k].fm.c.size = 11 := by unfold Fm.c; rfl
    rw [Array.length_toList, e11] at this
    exact this
  have := hcl (k * 11 + j) v (by rw [enl_at elf_len hk hj]; exact hv)
  rwa [show p + (k * 11 + j) = p + k * 11 + j by omega] at this

/-- Bytes that the call owns, or that bear a conversion's mark. -/
def BS (w : World) (base : Nat) (v : Value) (l : List UInt8) : Prop := Bo w base 5 v l ∨ ∃ pb, v = .slice (some ⟨pb, 0, none⟩) l.length l.length ∧ MkRow w pb l ∧ base ≤ pb
section
variable {w w' : World} {base : Nat} {v : Value} {l m : List UInt8}
theorem BS.lt (h : BS w base v l) : ∀ k, ob v k → base ≤ k ∧ k < w.heap.size := fun k hk => by
  rcases h with h | ⟨pb, rfl, h, hb⟩
  · exact OwS.lt h k hk
  · have : pb = k := by simpa [ob, Value.ownBlock] using hk
    subst this
    exact ⟨hb, h.lt⟩
theorem BS.keep (h : BS w base v l) (hk : ∀ k, ob v k → w'.heap[k]? = w.heap[k]?) : BS w' base v l := by
  rcases h with h | ⟨pb, rfl, h, hb⟩
  · exact .inl (OwS.keep h hk)
  · exact .inr ⟨pb, rfl, h.keep (hk pb (by simp [ob, Value.ownBlock])), hb⟩
theorem BS.below (h : BS w base v l) (hb : Below w.heap.size w w') : BS w' base v l := h.keep fun k hk => hb.block k (h.lt k hk).2
theorem BS.shape (h : BS w base v l) : ∃ A c, v = .slice A l.length c ∧ l.length ≤ c ∧ RdS w (fun k => ob v k ∧ k < w.heap.size) A (byc l) := by
  rcases h with h | ⟨pb, rfl, h, hb⟩
  · obtain ⟨A, c, rfl, hle⟩ := Bo.shape h
    exact ⟨A, c, rfl, hle, (OwS.reads h).imp fun k hk hl => ⟨hk, hl⟩⟩
  · refine ⟨_, _, rfl, Nat.le_refl _, fun hne => ⟨pb, 0, rfl, ⟨by simp [ob, Value.ownBlock], h.lt⟩, fun j u hj => ?_⟩⟩
    rw [Nat.zero_add, h.cell]
    exact hj
/-- An append of a string that isn't empty. -/
theorem wpList_appBS {ops : Array Oper} {rest : List Oper} {o : Oper} {a : Act} {Q : Exit → Act → World → Prop} (hgd : o.guard = none) (s x : Operand) (ho : o.op = .call { callee := .builtin .append, args := #[s, x], argTypes := #[22, 9] })
    (hs : a.eval s = v) (h : BS w base v l) (hx : a.eval x = .string (tb m)) (hm : 0 < m.length) (h63 : l.length + m.length ≤ 1099511627776) (hbase : base ≤ w.heap.size)
    (hk : ∀ v' w', BS w' base v' (l ++ m) → Fs (ob v) w w' → Nx w v v' → wpList Tryd.prog ops Q rest (a.put o.dst v') w') : wpList Tryd.prog ops Q (o :: rest) a w := by
  obtain ⟨i0, hi0, hz0, hz1, hz2⟩ := info_parts u8_info
  rcases h with h | ⟨pb, rfl, h, hb⟩
  · exact wpList_appStr hgd s x 22 9 ho base 5 i0 Tryd.underlying22 Tryd.underlying9 hi0 hz0 hz1 hz2 v l hs h m hx h63 hbase fun v' w' h1 h2 h3 => hk v' w' (.inl h1) h2 h3
  · obtain ⟨c', w', hrun, h1, h2⟩ := run_appFullS (P := Tryd.prog) w base 22 9 5 i0 Tryd.underlying22 Tryd.underlying9 hi0 hz0 hz1 hz2 (B := w.heap.size) (h.reads h.lt) hm h63 hbase
    exact wpList_app_run hgd s x 22 9 ho hs hx hrun (hk _ w' (.inl h1) (Fs.of_below h2) (.inr fun k hk' => by
      have : w.heap.size = k := by simpa [ob, Value.ownBlock] using hk'
      omega))
end
theorem put_len (F : Frm) (hm : F.May) (hd : F.dat.length ≤ 1000) (hs : F.sets.length ≤ 100) : 9 ≤ (putL7 F).length ∧ (putL7 F).length ≤ 2000 := by
  have h1 : (putL7 F).length = 9 + (payL F).length := by unfold putL7; rw [List.length_append, headL_length]
  have h2 := payL_length F hm.2.2.2.1.2.2.2.2.2.1 hm.2.2.1
  have h3 : sizeZ F.ty F.fl F.dat.length F.pad F.sets.length ≤ 1900 := by
    have ha : aheadN F.ty F.fl ≤ 8 := by unfold aheadN; (repeat' split) <;> omega
    have hp := hm.2.2.1
    unfold sizeZ
    split
    · rename_i hpb
      have := hp.1 (of_decide_eq_true hpb)
      omega
    · omega
  omega
end Go.Proofs.YtnjnepploockiaaDoor

namespace Go.Proofs.YtnjnepploockiaaDoor
open Go.RowKit Go.WideShapes

theorem el_bd {b0 : List UInt8} {p : Bool} {L : List El} {n : Nat} {b : Bool} (h : AllR b0 p (L.map El.rd) n b) (hb : b0.length ≤ 100000) : (∀ e ∈ L, e.F.dat.length ≤ 1000000 ∧ e.F.sets.length ≤ 1000000) ∧ L.length ≤ 1000000 := by
  refine ⟨fun e he => ?_, ?_⟩
  · have h1 : e.F.dat.length ≤ b0.length ∧ e.F.sets.length ≤ b0.length := h.bd e.rd (List.mem_map_of_mem he)
    omega
  · have := h.len
    rw [List.length_map] at this
    omega
attribute [local irreducible] Fm.c ftc fxc enl

set_option maxRecDepth 100000 in
set_option maxHeartbeats 8000000 in
theorem plays_big {b0 zs : List UInt8} {A Z : Option Addr} {cb cz often : Nat} {p : Bool} {w : World} (hG : GlobE w) (h : 40000 < b0.length ∨ 3000 < zs.length) :
    Calls Tryd.prog 3 #[.slice A b0.length cb, .bool p, .slice Z zs.length cz, .int .u8 often] w fun e w' => e = .returned (.bool true) ∧ Below w.heap.size w w' := by
  have hf := fixed_any8 _ hG
  by_cases c1 : 40000 < b0.length
  · have hd : decide ((40000 : Int) < (b0.length : Int)) = true := by simp; omega
    clear h
    go_enter Tryd.func3, Tryd.ntmps3
    go_wp2_with fail
    refine hf.mono ?_
    rintro e w1 ⟨rfl, hb⟩
    have HB := Lib.hid hb
    clear hb hf
    go_wp2_with fail
    go_ret
    exact ⟨rfl, HB.out⟩
  · have hd : decide ((40000 : Int) < (b0.length : Int)) = false := by simp; omega
    have hd2 : decide ((3000 : Int) < (zs.length : Int)) = true := by simp; omega
    clear h
    go_enter Tryd.func3, Tryd.ntmps3
    go_wp2_with fail
    refine hf.mono ?_
    rintro e w1 ⟨rfl, hb⟩
    have HB := Lib.hid hb
    clear hb hf
    go_wp2_with fail
    go_ret
    exact ⟨rfl, HB.out⟩

set_option maxRecDepth 100000 in
set_option maxHeartbeats 8000000 in
theorem plays_small {b0 zs : List UInt8} {A Z : Option Addr} {cb cz often : Nat} {p : Bool} {w : World} (hG : GlobE w) (hR : RdB w w.heap.size A b0) (hc : b0.length ≤ cb) (hZ : RdB w w.heap.size Z zs) (hof : often < 256) (hb0 : b0.length ≤ 40000) (hzl : zs.length ≤ 3000) :
    Calls Tryd.prog 3 #[.slice A b0.length cb, .bool p, .slice Z zs.length cz, .int .u8 often] w fun e w' => e = .returned (.bool true) ∧ Below w.heap.size w w' := by
  have hd : decide ((40000 : Int) < (b0.length : Int)) = false := by simp; omega
  have hd2 : decide ((3000 : Int) < (zs.length : Int)) = false := by simp; omega
  have hnew := new_any w p hG
  have HG := Lib.hid hG
  have HR := Lib.hid hR
  have HZ := Lib.hid hZ
  have HBL := Lib.hid hb0
  clear hG hR hZ
  go_enter Tryd.func3, Tryd.ntmps3
  go_wp2_with fail
  refine hnew.mono ?_
  rintro e w1 ⟨g, rfl, b, h1, hg1, hb1, hw1⟩
  have hS1 : Spl w1 g b [] p false := by have := h1.spl; rwa [heldL_nil] at this
  have HB1 := Lib.hid hw1
  have hlo : 0 < b := h1.lo.2
  have hlo2 : 0 < g := h1.lo.1
  have HL := Lib.hid hS1.lts
  have hG1 : GlobE w1 := HG.out.below hw1
  have HG1 := Lib.hid hG1
  have hsz1 : w.heap.size ≤ w1.heap.size := hw1.size
  have hpl := play_any (cb := cb) (cz := cz) (often := often) hS1 hG1 hlo ((RdB.toS (HR.out.below hw1)).imp fun k hk _ => ⟨by omega, by omega, by omega⟩) hc ((RdB.toS (HZ.out.below hw1)).imp fun k hk _ => ⟨by omega, by omega, by omega⟩) (by omega) (by omega) hof
  have HR1 := Lib.hid (HR.out.below hw1)
  clear h1 hnew hw1 hS1 hG1 HG HR HZ hzl
  go_wp2_with fail
  refine hpl.mono ?_
  rintro e w2 ⟨L, v, l, wt, bad, rfl, hF2, hS2, hA2, hn2, hW2⟩
  obtain ⟨Av, cv, rfl, _⟩ := hF2.own.shape
  have hb2 : Below w.heap.size w1 w2 := hW2.below (fun k hk _ => by rcases hk with hk | hk <;> omega) hsz1
  have HB2 := Lib.hid (HB1.out.trans hb2)
  have HF2 := Lib.hid hF2
  have HS2 := Lib.hid hS2
  have HA2 := Lib.hid hA2
  have HN2 := Lib.hid hn2
  have HG2 := Lib.hid (HG1.out.fs hW2 (gbS_glob hlo2 hlo))
  have HR2 := Lib.hid (HR1.out.below hb2)
  have htx := run_text (P := Tryd.prog) (c := cb) Tryd.underlying22 Tryd.underlying5 Tryd.underlying9 HR2.out
  have hal := all_any (l := b0) (by omega) p w2
  clear hpl hF2 hS2 hA2 hn2 hW2 hb2 HB1 HG1 HR1
  go_wp2_with (rw [show (⟨b0.toArray⟩ : ByteArray) = tb b0 from rfl] at htx)
  refine hal.mono ?_
  rintro e w3 ⟨M, n, b', v2, hA3, rfl, hF3, hb3⟩
  obtain ⟨e1, rfl, rfl⟩ := HA2.out.det hA3
  obtain ⟨Bv, cv2, rfl, _⟩ := hF3.own.shape
  have hb23 := hb3
  have HB3 := Lib.hid (HB2.out.trans (hb3.mono HB2.out.size))
  have HS3 := Lib.hid (HS2.out.below hb3)
  have HG3 := Lib.hid (HG2.out.below hb3)
  have HR3 := Lib.hid (HR2.out.below (hb3.mono HB2.out.size))
  have hbd1 := el_bd HA2.out (by have := HBL.out; omega)
  have hsm := same8_any (ca := cv) (cb := cv2) e1.symm (HF2.out.below hb3).reads.1 hF3.reads.1 (HF2.out.below hb3).reads.2 hF3.reads.2 hbd1.1 hbd1.2
  clear hal hA3 hF3 hb3 HB2 HS2 HG2 HR2 HF2 HA2 e1 hbd1 hb23
  go_wp2_with fail
  refine hsm.mono ?_
  rintro e w4 ⟨rfl, hb4⟩
  have HB4 := Lib.hid (HB3.out.trans (hb4.mono HB3.out.size))
  have HS4 := Lib.hid (HS3.out.below hb4)
  have HG4 := Lib.hid (HG3.out.below hb4)
  have HR4 := Lib.hid (HR3.out.below (hb4.mono HB3.out.size))
  clear hsm hb4 HB3 HS3 HG3 HR3
  have hbd := bad_any HS4.out
  have hhd := hld_any HS4.out
  go_wp2_with fail
  refine hbd.mono ?_
  rintro e w4' ⟨rfl, rfl⟩
  clear hbd
  go_wp2_with fail
  refine hhd.mono ?_
  rintro e w5 ⟨rfl, q, rfl⟩
  have HS5 : Hid (Spl (w4'.drewN q) g b l wt b') := HS4.out.keep (Nat.le_refl _) rfl rfl
  have HB5 := Lib.hid (below_dN HB4.out q)
  have HG5 : Hid (GlobE (w4'.drewN q)) := HG4.out
  have HR5 : Hid (RdB (w4'.drewN q) w.heap.size A b0) := HR4.out
  clear hhd HS4 HB4 HG4 HR4
  generalize w4'.drewN q = w5 at *
  have hn := Next_any HS5.out HG5.out
  rw [HN2.out] at hn
  go_wp2_with fail
  refine hn.mono ?_
  rintro e w6 ⟨vv, rfl, ⟨X, s, c, ok, rfl, rfl, rfl, rfl, rfl⟩, hS6, hF6⟩
  have hb6 : Below w.heap.size w5 w6 := hF6.below (fun k hk _ => by rcases hk with hk | hk <;> omega) HB5.out.size
  have HS6 : Hid (Spl w6 g b l wt b') := hS6
  have HB6 := Lib.hid (HB5.out.trans hb6)
  have HG6 := Lib.hid (HG5.out.fs hF6 (gbS_glob hlo2 hlo))
  have HR6 := Lib.hid (HR5.out.below hb6)
  have HLt := Lib.hid HS6.out.lts
  clear hn hS6 hF6 hb6 HS5 HB5 HG5 HR5
  have HXe : Hid (Row ((w6.alloc (.cells #[.int .u8 0, .int .u8 0, .int .u32 0, .slice none 0 0, .int .i64 0, .int .u32 0, .int .u32 0, .int .u8 0, .bool false, .int .u32 0, .slice none 0 0] 36)).alloc (.cells #[.int .u8 0, .int .u32 0] 38)) w6.heap.size 36 (fm0 0 0 0 0).c) := by show Row _ _ _ _; rw [z_c]; exact (Row.new w6 _ _).alloc _
  have HTe : Hid (Row ((w6.alloc (.cells #[.int .u8 0, .int .u8 0, .int .u32 0, .slice none 0 0, .int .i64 0, .int .u32 0, .int .u32 0, .int .u8 0, .bool false, .int .u32 0, .slice none 0 0] 36)).alloc (.cells #[.int .u8 0, .int .u32 0] 38)) (w6.heap.size + 1) 38 (ftc 0 0)) := by show Row _ _ _ _; rw [ftc_eq]; exact Row.made _ _ _ (by simp)
  have HBe : Hid (Below w6.heap.size w6 ((w6.alloc (.cells #[.int .u8 0, .int .u8 0, .int .u32 0, .slice none 0 0, .int .i64 0, .int .u32 0, .int .u32 0, .int .u8 0, .bool false, .int .u32 0, .slice none 0 0] 36)).alloc (.cells #[.int .u8 0, .int .u32 0] 38))) := ((Below.refl _ _).alloc (Nat.le_refl _) _).alloc (by simp) _
  have HSe : Hid (((w6.alloc (.cells #[.int .u8 0, .int .u8 0, .int .u32 0, .slice none 0 0, .int .i64 0, .int .u32 0, .int .u32 0, .int .u8 0, .bool false, .int .u32 0, .slice none 0 0] 36)).alloc (.cells #[.int .u8 0, .int .u32 0] 38)).heap.size = w6.heap.size + 2) := by show _ = _; simp
  go_upto_region 9 with (first | (refine wpList_sfm (x := (fm0 0 0 0 0)) rfl _ _ rfl rfl rfl HXe.out ?_) | (refine wpList_sft (s := 0) (c := 0) rfl _ _ rfl rfl rfl (HTe.out.setRow' (k := w6.heap.size) (by omega) (Fm.c (fm0 0 0 0 0))) ?_))
  have HTf := Lib.hid ((HTe.out.setRow' (k := w6.heap.size) (by omega) (Fm.c (fm0 0 0 0 0))).setRow (ftc 0 0))
  have HZ := Lib.hid (((Fs.of_below (S := fun k => k = w6.heap.size ∨ k = w6.heap.size + 1) HBe.out).setRow (g := w6.heap.size) (fun _ => .inl rfl) (Fm.c (fm0 0 0 0 0))).setRow (g := w6.heap.size + 1) (fun _ => .inr rfl) (ftc 0 0))
  have HW := Lib.hid (HZ.out.below (B := w6.heap.size) (fun k hk _ => by omega) (Nat.le_refl _))
  have HS7 := Lib.hid (HS6.out.below HW.out)
  have HB7 := Lib.hid (HB6.out.trans (HW.out.mono HB6.out.size))
  have HG7 := Lib.hid (HG6.out.below HW.out)
  have HR7 := Lib.hid (HR6.out.below (HW.out.mono HB6.out.size))
  generalize ((((w6.alloc (.cells #[.int .u8 0, .int .u8 0, .int .u32 0, .slice none 0 0, .int .i64 0, .int .u32 0, .int .u32 0, .int .u8 0, .bool false, .int .u32 0, .slice none 0 0] 36)).alloc (.cells #[.int .u8 0, .int .u32 0] 38)).setRow w6.heap.size (Fm.c (fm0 0 0 0 0))).setRow (w6.heap.size + 1) (ftc 0 0)) = w7 at *
  clear HXe HTe HBe HSe HZ HW HS6 HB6 HG6 HR6
  go_wp2_with fail
  refine (fixed_any8 _ HG7.out).mono ?_
  rintro e w8 ⟨rfl, hbf⟩
  have HS8 := Lib.hid (HS7.out.below hbf)
  have HB8 := Lib.hid (HB7.out.trans (hbf.mono HB7.out.size))
  have HTg := Lib.hid (HTf.out.below hbf HTf.out.lt)
  clear hbf HS7 HB7 HG7 HTf HR7
  have hsm := ft_00
  cases b' with
  | true =>
    have hfd := feed_bad (.slice A b0.length cb) HS8.out
    go_wp2_with (refine wpList_lftg (by rfl) _ rfl rfl HTg.out ?_)
    refine hfd.mono ?_
    rintro e w9 ⟨rfl, rfl⟩
    clear hfd HS8 HTg
    go_wp2_with fail
    go_ret
    exact ⟨rfl, HB8.out⟩
  | false =>
    clear HS8
    go_wp2_with (refine wpList_lftg (by rfl) _ rfl rfl HTg.out ?_)
    go_ret
    exact ⟨rfl, HB8.out⟩
theorem plays_any {b0 zs : List UInt8} {A Z : Option Addr} {cb cz often : Nat} {p : Bool} {w : World} (hG : GlobE w) (hR : RdB w w.heap.size A b0) (hc : b0.length ≤ cb) (hZ : RdB w w.heap.size Z zs) (hof : often < 256) :
    Calls Tryd.prog 3 #[.slice A b0.length cb, .bool p, .slice Z zs.length cz, .int .u8 often] w fun e w' => e = .returned (.bool true) ∧ Below w.heap.size w w' := by
  by_cases h : 40000 < b0.length ∨ 3000 < zs.length
  · exact plays_big hG h
  · exact plays_small hG hR hc hZ hof (by omega) (by omega)
end Go.Proofs.YtnjnepploockiaaDoor

namespace Go.Proofs.YtnjnepploockiaaDoor
open Go.RowKit Go.WideShapes

theorem wpList_fmA {ops : Array Oper} {rest : List Oper} {o : Oper} {a : Act} {w : World} {Q : Exit → Act → World → Prop} (hw : Region.wanted o (yielded ops a.tmps) = true) (y : Operand) (ho : o.op = .load 36 y) {g p : Nat} (hy : a.eval y = .pointer (some ⟨g, p, none⟩)) {x : Fm} (h : w.rangeAt g p x.c.toList)
    (hk : wpList Tryd.prog ops Q rest (a.put o.dst (.agg x.c)) w) : wpList Tryd.prog ops Q (o :: rest) a w :=
  BigFrame.wpList_want hw fun _ hK => wp_load_mid 36 y ho g p hy x.c.toList _ h Tryd.underlying36 rfl (by rw [Fm.size x]; simp) (hK _ _ (by simpa using hk))
theorem wpList_b71 {ops : Array Oper} {rest : List Oper} {o : Oper} {a : Act} {w : World} {Q : Exit → Act → World → Prop} (hg : o.guard = none) (p : Operand) (ho : o.op = .build 47 #[(0, p)]) {x : Fm} (hp : a.eval p = .agg x.c)
    (h : wpList Tryd.prog ops Q rest (a.put o.dst (.agg (fxc x 0 0))) w) : wpList Tryd.prog ops Q (o :: rest) a w :=
  wpList_build_is hg 47 _ ho (fxc x 0 0) (by simp only [List.map_toArray, List.map_cons, List.map_nil, hp]; exact built7 x) h
theorem fxc_eq (x : Fm) (s c : Nat) : fxc x s c = #[.int .u8 x.ty, .int .u8 x.fl, .int .u32 x.st, .slice x.dA x.dn x.dc, .int .i64 x.pad, .int .u32 x.code, .int .u32 x.oth, .int .u8 x.wt, .bool x.al, .int .u32 x.win, .slice x.sA x.sn x.sc, .int .u8 s, .int .u32 c] := by unfold fxc; rfl
theorem fld7 (x : Fm) (s c : Nat) (w : World) : (Instr.field 47 (.agg #[.int .u8 x.ty, .int .u8 x.fl, .int .u32 x.st, .slice x.dA x.dn x.dc, .int .i64 x.pad, .int .u32 x.code, .int .u32 x.oth, .int .u8 x.wt, .bool x.al, .int .u32 x.win, .slice x.sA x.sn x.sc, .int .u8 s, .int .u32 c]) 1).run Tryd.prog w = .ok (.int .u8 s) w := by kernel_rfl
theorem FL.mk' {w : World} {base : Nat} {v : Value} {L : List El} (h : OwS w base 47 13 v L.length (enl elc L)) (hE : ∀ e ∈ L, ElIn w (· < base) e) : FL w base noX v L :=
  ⟨h, fun e he => (hE e he).imp fun k hk hl => ⟨hl, fun ho => by have := (OwS.lt h k ho).1; omega, fun h => h⟩, fun _ _ h => h⟩
theorem take_F (L : List El) {k : Nat} (hk : k < L.length) : (L.take (k + 1)).map (·.F) = (L.take k).map (·.F) ++ [L[k].F] := by
  rw [List.take_succ_eq_append_getElem hk, List.map_append]
  rfl
theorem putsL_snoc (l : List Frm) (F : Frm) : putsL (l ++ [F]) = putsL l ++ putL7 F := by unfold putsL; rw [List.flatMap_append]; simp
theorem puts_len : ∀ (L : List El), (∀ e ∈ L, (e.F.May ∧ getN (putL7 e.F) = (e.F, 0, 0)) ∧ e.F.dat.length ≤ 1000 ∧ e.F.sets.length ≤ 100) → (putsL (L.map (·.F))).length ≤ 2000 * L.length
  | [], _ => Nat.le_refl _
  | e :: L, h => by
    have h1 := h e (by simp)
    have h2 := put_len e.F h1.1.1 h1.2.1 h1.2.2
    have h3 := puts_len L fun x hx => h x (by simp [hx])
    show (putL7 e.F ++ putsL (L.map (·.F))).length ≤ _
    rw [List.length_append, List.length_cons]
    omega
attribute [local irreducible] Fm.c ftc fxc enl

set_option maxRecDepth 100000 in
set_option maxHeartbeats 8000000 in
theorem frames_big {L : List El} {zs : List UInt8} {A Z : Option Addr} {ca cz : Nat} {w : World} (hG : GlobE w) (h : 30 < L.length ∨ 3000 < zs.length) :
    Calls Tryd.prog 4 #[.slice A L.length ca, .slice Z zs.length cz] w fun e w' => e = .returned (.bool true) ∧ Below w.heap.size w w' := by
  have hf := fixed_any8 _ hG
  by_cases c1 : 30 < L.length
  · have hd : decide ((30 : Int) < (L.length : Int)) = true := by simp; omega
    clear h
    go_enter Tryd.func4, Tryd.ntmps4
    go_wp2_with fail
    refine hf.mono ?_
    rintro e w1 ⟨rfl, hb⟩
    have HB := Lib.hid hb
    clear hb hf
    go_wp2_with fail
    go_ret
    exact ⟨rfl, HB.out⟩
  · have hd : decide ((30 : Int) < (L.length : Int)) = false := by simp; omega
    have hd2 : decide ((3000 : Int) < (zs.length : Int)) = true := by simp; omega
    clear h
    go_enter Tryd.func4, Tryd.ntmps4
    go_wp2_with fail
    refine hf.mono ?_
    rintro e w1 ⟨rfl, hb⟩
    have HB := Lib.hid hb
    clear hb hf
    go_wp2_with fail
    go_ret
    exact ⟨rfl, HB.out⟩

set_option maxRecDepth 100000 in
set_option maxHeartbeats 16000000 in
theorem frames_small {L : List El} {zs : List UInt8} {A Z : Option Addr} {ca cz : Nat} {w : World} (hG : GlobE w) (hA : RdS w (· < w.heap.size) A (enl elf L)) (hE : ∀ e ∈ L, (e.s = 0 ∧ e.c = 0) ∧ e.F.All ∧ ElIn w (· < w.heap.size) e) (hZ : RdB w w.heap.size Z zs) (hl : L.length ≤ 30) (hzl : zs.length ≤ 3000) :
    Calls Tryd.prog 4 #[.slice A L.length ca, .slice Z zs.length cz] w fun e w' => e = .returned (.bool true) ∧ Below w.heap.size w w' := by
  have hd : decide ((30 : Int) < (L.length : Int)) = false := by simp; omega
  have hd2 : decide ((3000 : Int) < (zs.length : Int)) = false := by simp; omega
  have HG := Lib.hid hG
  have HA := Lib.hid hA
  have HE := Lib.hid hE
  have HZ := Lib.hid hZ
  have HLL := Lib.hid hl
  have HZL := Lib.hid hzl
  clear hG hA hE hZ hl hzl
  go_enter Tryd.func4, Tryd.ntmps4
  go_wp2_with fail
  refine (preface_any _).mono ?_
  rintro e w1 ⟨rfl, hm1, hb1⟩
  have HB1 := Lib.hid hb1
  have HS1 : Hid (BS w1 w.heap.size (.slice (some ⟨w.heap.size, 0, none⟩) 24 24) (greetL ++ putsL ((L.take 0).map (·.F)))) := .inr ⟨w.heap.size, rfl, hm1, Nat.le_refl _⟩
  have HO1 : Hid (OwS w1 w.heap.size 47 13 (.slice none 0 0) 0 (enl elc (L.take 0))) := by show OwS _ _ _ _ _ _ _; rw [List.take_zero, enl_nil]; exact OwS.nil
  clear hm1 hb1
  go_wp2_with fail
  go_loopw [5, 6, 24] (fun bb ww i wr => ∃ (k : Nat) (vb vw : Value), vb = bb ∧ vw = ww ∧ k ≤ L.length ∧ i = .int .i64 k ∧ Hid (BS wr w.heap.size vb (greetL ++ putsL ((L.take k).map (·.F)))) ∧ Hid (OwS wr w.heap.size 47 13 vw k (enl elc (L.take k))) ∧ Hid (Below w.heap.size w wr) ∧ Hid (∀ j, ob vb j → ¬ ob vw j) ∧ Hid (∀ e ∈ L.take k, (e.F.May ∧ getN (putL7 e.F) = (e.F, 0, 0)) ∧ e.F.dat.length ≤ 1000 ∧ e.F.sets.length ≤ 100)) (fun _ _ i _ => L.length - (intOf i).toNat)
  case atStart => exact ⟨0, _, _, rfl, rfl, Nat.zero_le _, rfl, HS1, HO1, HB1, fun j _ h => by simp [ob, Value.ownBlock] at h, fun e he => by simp at he⟩
  case round =>
    obtain ⟨k, vb, vw, rfl, rfl, hk, rfl, HS, HO, HB, HNE, HP⟩ := hrel
    clear HS1 HB1 HO1
    by_cases hkn : k < L.length
    · have hki : (k : Int) < (L.length : Int) := by omega
      obtain ⟨g, p, rfl, hg, hr⟩ := fr_at HA.out hkn
      have hel := HE.out _ (List.getElem_mem hkn)
      have htk := take_F L hkn
      have htl : L.take (k + 1) = L.take k ++ [L[k]] := List.take_succ_eq_append_getElem hkn
      have HTK := Lib.hid htk
      have HTL := Lib.hid htl
      have hrw : wr.rangeAt g (p + k * 11) L[k].fm.c.toList := fun j v hv => (HB.out.cell (p := ⟨g, p + k * 11 + j, none⟩) hg).trans (hr j v hv)
      have HRW := Lib.hid hrw
      have HEL := Lib.hid hel
      clear hr hel htk htl hrw
      generalize L[k] = el at *
      have HXe : Hid (Row (wr.alloc (.cells #[.int .u8 0, .int .u8 0, .int .u32 0, .slice none 0 0, .int .i64 0, .int .u32 0, .int .u32 0, .int .u8 0, .bool false, .int .u32 0, .slice none 0 0] 36)) wr.heap.size 36 (fm0 0 0 0 0).c) := by show Row _ _ _ _; rw [z_c]; exact Row.made _ _ _ rfl
      go_upto_region 8 with (first | (refine wpList_fmA (by rfl) _ rfl rfl HRW.out ?_) | (refine wpList_sfm (x := el.fm) rfl _ _ rfl rfl rfl HXe.out ?_))
      have hbq : Below wr.heap.size wr ((wr.alloc (.cells #[.int .u8 0, .int .u8 0, .int .u32 0, .slice none 0 0, .int .i64 0, .int .u32 0, .int .u32 0, .int .u8 0, .bool false, .int .u32 0, .slice none 0 0] 36)).setRow wr.heap.size el.fm.c) := below_setRow ((Below.refl _ _).alloc (Nat.le_refl _) _) _ _ (Nat.le_refl _)
      have HX2 := Lib.hid (HXe.out.setRow el.fm.c)
      have HS2 := Lib.hid (HS.out.below hbq)
      have HO2 := Lib.hid (OwS.below HO.out hbq)
      have HB2 := Lib.hid (HB.out.trans (hbq.mono HB.out.size))
      generalize (wr.alloc (.cells #[.int .u8 0, .int .u8 0, .int .u32 0, .slice none 0 0, .int .i64 0, .int .u32 0, .int .u32 0, .int .u8 0, .bool false, .int .u32 0, .slice none 0 0] 36)).setRow wr.heap.size el.fm.c = w2 at *
      have HQB : Hid (¬ ob vb wr.heap.size ∧ ¬ ob vw wr.heap.size) := ⟨fun h => by have := (HS.out.lt _ h).2; omega, fun h => by have := (OwS.lt HO.out _ h).2; omega⟩
      generalize wr.heap.size = q at *
      clear HXe hbq HRW HS HO HB
      have HBd : Hid (RdB w2 w2.heap.size el.dA el.F.dat ∧ RdS w2 (· < w2.heap.size) el.sA (enl sgc el.F.sets)) := by
        have h1 := HEL.out.2.2
        exact ⟨((RdB.ofS h1.1 (B := w.heap.size) fun _ h _ => h).below HB2.out).more HB2.out.size, (h1.2.below HB2.out).imp fun _ h _ => Nat.lt_of_lt_of_le h HB2.out.size⟩
      have hfm : el.fm = el.F.fm el.dA el.dc el.sA el.sc := rfl
      have HFM := Lib.hid hfm
      clear hfm
      have c3 : w2.cell? ⟨q, 3, none⟩ = some (.slice el.dA el.F.dat.length el.dc) := (fm_cells HX2.out).2.2.2.1
      have c10 : w2.cell? ⟨q, 10, none⟩ = some (.slice el.sA el.F.sets.length el.sc) := (fm_cells HX2.out).2.2.2.2.2.2.2.2.2.2
      have HGf := Lib.hid (HG.out.fs (S := fun k => w.heap.size ≤ k) ⟨HB2.out.os, HB2.out.tape, HB2.out.output, HB2.out.size, fun k hk hn => HB2.out.block k hk⟩ (by have := blk_lt HG.out; omega))
      have HBf := HB2
      by_cases x1 : 1000 < el.F.dat.length
      · have hx1 : decide ((1000 : Int) < (el.F.dat.length : Int)) = true := by simp; omega
        go_wp2_with fail
        refine (fixed_any8 _ HGf.out).mono ?_
        rintro e w9 ⟨rfl, hb9⟩
        have HB9 := Lib.hid (HBf.out.trans (hb9.mono HBf.out.size))
        clear hb9
        go_wp2_with fail
        go_ret
        exact ⟨rfl, HB9.out⟩
      have hx1 : decide ((1000 : Int) < (el.F.dat.length : Int)) = false := by simp; omega
      by_cases x2 : 100 < el.F.sets.length
      · have hx2 : decide ((100 : Int) < (el.F.sets.length : Int)) = true := by simp; omega
        go_wp2_with fail
        refine (fixed_any8 _ HGf.out).mono ?_
        rintro e w9 ⟨rfl, hb9⟩
        have HB9 := Lib.hid (HBf.out.trans (hb9.mono HBf.out.size))
        clear hb9
        go_wp2_with fail
        go_ret
        exact ⟨rfl, HB9.out⟩
      have hx2 : decide ((100 : Int) < (el.F.sets.length : Int)) = false := by simp; omega
      have hmay := rmay_any el.F HEL.out.2.1 (by omega) (by omega) (dc := el.dc) (sc := el.sc) HBd.out.1 HBd.out.2
      rw [← HFM.out] at hmay
      by_cases x3 : el.F.May
      rotate_left
      · rw [decide_eq_false x3] at hmay
        clear HGf HBf
        go_wp2_with (refine wpList_fmg (by rfl) _ rfl rfl HX2.out ?_)
        refine hmay.mono ?_
        rintro e w3 ⟨rfl, hb3⟩
        have HGf := Lib.hid (HG.out.below (HB2.out.trans (hb3.mono HB2.out.size)))
        have HBf := Lib.hid (HB2.out.trans (hb3.mono HB2.out.size))
        clear hb3 hmay
        go_wp2_with fail
        refine (fixed_any8 _ HGf.out).mono ?_
        rintro e w9 ⟨rfl, hb9⟩
        have HB9 := Lib.hid (HBf.out.trans (hb9.mono HBf.out.size))
        clear hb9
        go_wp2_with fail
        go_ret
        exact ⟨rfl, HB9.out⟩
      rw [decide_eq_true x3] at hmay
      have HX3 := HX2
      have hx1n : el.F.dat.length ≤ 1000 := by omega
      have hx2n : el.F.sets.length ≤ 100 := by omega
      have HXN := Lib.hid (And.intro hx1n hx2n)
      clear HGf HBf x1 x2 hx1n hx2n
      go_wp2_with (refine wpList_fmg (by rfl) _ rfl rfl HX2.out ?_)
      refine hmay.mono ?_
      rintro e w3 ⟨rfl, hb3⟩
      have HX3 := Lib.hid (HX2.out.below hb3 HX2.out.lt)
      have HS3 := Lib.hid (HS2.out.below hb3)
      have HO3 := Lib.hid (OwS.below HO2.out hb3)
      have HB3 := Lib.hid (HB2.out.trans (hb3.mono HB2.out.size))
      have HBd3 : Hid (RdB w3 w3.heap.size el.dA el.F.dat ∧ RdS w3 (· < w3.heap.size) el.sA (enl sgc el.F.sets)) := ⟨(HBd.out.1.below hb3).more hb3.size, (HBd.out.2.below hb3).imp fun _ h _ => Nat.lt_of_lt_of_le h hb3.size⟩
      have hq3 : w.heap.size ≤ w3.heap.size := HB3.out.size
      clear hb3 hmay HX2 HS2 HO2 HB2 HBd c3 c10
      have hpad : el.F.pad ≤ 255 := by
        have hp := x3.2.2.1
        by_cases hpp : PadP el.F.ty el.F.fl
        · have := hp.1 hpp; omega
        · have := hp.2 hpp; omega
      have hput := rput_any el.F HEL.out.2.1 (by have := HXN.out; omega) (by have := HXN.out; omega) hpad (dc := el.dc) (sc := el.sc) HBd3.out.1 HBd3.out.2
      rw [← HFM.out] at hput
      have hpl := put_len el.F x3 HXN.out.1 HXN.out.2
      have HPAD := Lib.hid hpad
      go_wp2_with (refine wpList_fmg (by rfl) _ rfl rfl HX3.out ?_)
      refine hput.mono ?_
      rintro e w4 ⟨rfl, hb4⟩
      have HX4 := Lib.hid (HX3.out.below hb4 HX3.out.lt)
      have HS4 := Lib.hid (HS3.out.below hb4)
      have HO4 := Lib.hid (OwS.below HO3.out hb4)
      have HB4 := Lib.hid (HB3.out.trans (hb4.mono HB3.out.size))
      have HBd4 : Hid (RdB w4 w4.heap.size el.dA el.F.dat ∧ RdS w4 (· < w4.heap.size) el.sA (enl sgc el.F.sets)) := ⟨(HBd3.out.1.below hb4).more hb4.size, (HBd3.out.2.below hb4).imp fun _ h _ => Nat.lt_of_lt_of_le h hb4.size⟩
      clear hb4 hput HX3 HS3 HO3 HB3 HBd3 hq3 hpad
      have hget : Calls Tryd.prog 18 #[.string (tb (putL7 el.F))] w4 fun e w' => ∃ x : Fm, e = .returned (.agg #[.int .u8 x.ty, .int .u8 x.fl, .int .u32 x.st, .slice x.dA x.dn x.dc, .int .i64 x.pad, .int .u32 x.code, .int .u32 x.oth, .int .u8 x.wt, .bool x.al, .int .u32 x.win, .slice x.sA x.sn x.sc, .int .u8 (getN (putL7 el.F)).2.1, .int .u32 (getN (putL7 el.F)).2.2]) ∧ Below w4.heap.size w4 w' := by
        refine (rget_any (l := putL7 el.F) (by omega) w4).mono ?_
        rintro e w' ⟨x, rfl, hx, hb⟩
        exact ⟨x, by rw [fxc_eq], hb⟩
      have HGP := Lib.hid (get_put7 el.F HEL.out.2.1.1 x3)
      have HPL := Lib.hid hpl
      clear hpl
      generalize hsc : (getN (putL7 el.F)).2.1 = sc1 at hget
      have HSC := Lib.hid hsc
      clear hsc
      generalize (getN (putL7 el.F)).2.2 = sc2 at hget
      go_wp2_with fail
      refine hget.mono ?_
      rintro e w5 ⟨x, rfl, hb5⟩
      have hfld := fld7 x sc1 sc2
      have HX5 := Lib.hid (HX4.out.below hb5 HX4.out.lt)
      have HS5 := Lib.hid (HS4.out.below hb5)
      have HO5 := Lib.hid (OwS.below HO4.out hb5)
      have HB5 := Lib.hid (HB4.out.trans (hb5.mono HB4.out.size))
      have HBd5 : Hid (RdB w5 w5.heap.size el.dA el.F.dat ∧ RdS w5 (· < w5.heap.size) el.sA (enl sgc el.F.sets)) := ⟨(HBd4.out.1.below hb5).more hb5.size, (HBd4.out.2.below hb5).imp fun _ h _ => Nat.lt_of_lt_of_le h hb5.size⟩
      clear hb5 hget HX4 HS4 HO4 HB4 HBd4
      by_cases x4 : sc1 = 0
      rotate_left
      · have hx4 : ((sc1 : Int) == 0) = false := beq_eq_false_iff_ne.2 (by omega)
        have HGf := Lib.hid (HG.out.below HB5.out)
        have HBf := HB5
        go_wp2_with fail
        refine (fixed_any8 _ HGf.out).mono ?_
        rintro e w9 ⟨rfl, hb9⟩
        have HB9 := Lib.hid (HBf.out.trans (hb9.mono HBf.out.size))
        clear hb9
        go_wp2_with fail
        go_ret
        exact ⟨rfl, HB9.out⟩
      have hx4 : ((sc1 : Int) == 0) = true := by rw [x4]; rfl
      have hgp : getN (putL7 el.F) = (el.F, 0, 0) := by
        rcases HGP.out with h | h
        · exact h
        · exact absurd (HSC.out.trans x4) h
      have HGP2 := Lib.hid hgp
      clear hgp HGP HSC
      have hput5 := rput_any el.F HEL.out.2.1 (by have := HXN.out; omega) (by have := HXN.out; omega) HPAD.out (dc := el.dc) (sc := el.sc) HBd5.out.1 HBd5.out.2
      rw [← HFM.out] at hput5
      clear x4
      go_upto_region 10 with fail
      clear hx1 hx2 hx4
      go_wp2_with (refine wpList_fm rfl _ rfl rfl HX5.out ?_)
      refine hput5.mono ?_
      rintro e w6 ⟨rfl, hb6⟩
      have HX6 := Lib.hid (HX5.out.below hb6 HX5.out.lt)
      have HS6 := Lib.hid (HS5.out.below hb6)
      have HO6 := Lib.hid (OwS.below HO5.out hb6)
      have HB6 := Lib.hid (HB5.out.trans (hb6.mono HB5.out.size))
      have hpl0 : 0 < (putL7 el.F).length := by have := HPL.out; omega
      have hln : (greetL ++ putsL ((L.take k).map (·.F))).length + (putL7 el.F).length ≤ 1099511627776 := by
        have h1 := puts_len (L.take k) HP.out
        have h2 := HPL.out
        have h3 : (L.take k).length ≤ 30 := by rw [List.length_take]; have := HLL.out; omega
        rw [List.length_append, greetL_length]
        omega
      clear hb6 hput5 HX5 HS5 HO5 HB5 HBd5
      go_upto_region 11 with (at_builtin; refine wpList_appBS rfl (.tmp 51) (.tmp 53) rfl rfl HS6.out rfl hpl0 hln HB6.out.size ?_; intro vb2 w7 hS7 hF7 hN7)
      have HX7 := Lib.hid (hF7.row HQB.out.1 HX6.out)
      have HO7 := Lib.hid (hF7.owns HO6.out fun j hj hj2 => HNE.out j hj2 hj)
      have HB7 := Lib.hid (HB6.out.trans (hF7.below (fun j hj _ => (HS6.out.lt j hj).1) HB6.out.size))
      have HNE7 : Hid (∀ j, ob vb2 j → ¬ ob vw j) := fun j hj hj2 => by
        rcases hN7.own hj with h | h
        · exact HNE.out j h hj2
        · have := (OwS.lt HO6.out j hj2).2; omega
      have HS7 := Lib.hid hS7
      have hq7 := HX7.out.lt
      clear hS7 hF7 hN7 HX6 HS6 HO6 HB6 HNE hpl0 hln
      have hbq : Below w7.heap.size w7 (w7.alloc (.cells (fxc el.fm 0 0) 47)) := (Below.refl _ _).alloc (Nat.le_refl _) _
      have HQ : Hid (Row (w7.alloc (.cells (fxc el.fm 0 0) 47)) w7.heap.size 47 (fxc el.fm el.s el.c)) := by show Row _ _ _ _; rw [HEL.out.1.1, HEL.out.1.2]; exact Row.new _ _ _
      have HB8 := Lib.hid (HB7.out.trans (hbq.mono HB7.out.size))
      have HS8 := Lib.hid (HS7.out.below hbq)
      have hkl : (L.take k).length = k := by rw [List.length_take]; omega
      have HF8 : Hid (FL (w7.alloc (.cells (fxc el.fm 0 0) 47)) w.heap.size noX vw (L.take k)) := FL.mk' (by rw [hkl]; exact OwS.below HO7.out hbq) (fun e he => ((HE.out e (List.mem_of_mem_take he)).2.2).keep fun j hj => HB8.out.block j hj)
      have HI8 : Hid (ElIn (w7.alloc (.cells (fxc el.fm 0 0) 47)) (fun j => j < (w7.alloc (.cells (fxc el.fm 0 0) 47)).heap.size ∧ ¬ ob vw j ∧ ¬ noX j) el) := (HEL.out.2.2.keep fun j hj => HB8.out.block j hj).imp fun j hj hl => ⟨hl, fun ho => by have := (OwS.lt HF8.out.own j ho).1; omega, fun h => h⟩
      have hk1 : (L.take k).length ≤ 1000000 := by rw [hkl]; have := HLL.out; omega
      have HSZ8 : Hid ((w7.alloc (.cells (fxc el.fm 0 0) 47)).heap.size = w7.heap.size + 1) := by show _ = _; simp
      clear hbq
      go_wp2_with (first | (refine wpList_fm rfl _ rfl rfl HX7.out ?_) | (refine wpList_b71 rfl _ rfl rfl ?_) | (refine wpList_bs7 rfl _ rfl rfl ?_) | (at_builtin; refine wpList_app7 rfl (.tmp 55) (.tmp 58) rfl rfl HF8.out el _ rfl HQ.out HI8.out hk1 HB8.out.size (fun j h => h.elim) ?_; intro v9 w9 hL9 hF9 hN9; have HL9 := Lib.hid hL9; have HB9 := Lib.hid (HB8.out.trans (hF9.below (fun j hj _ => (OwS.lt HF8.out.own j hj).1) HB8.out.size)); have HS9 := Lib.hid (HS8.out.keep (fun j hj => hF9.block j (HS8.out.lt j hj).2 (HNE7.out j hj))); have HNE9 : Hid (∀ j, ob vb2 j → ¬ ob v9 j) := (fun j hj hj2 => by rcases hN9.own hj2 with h | h; exact HNE7.out j hj h; exact absurd (HS8.out.lt j hj).2 (by omega)); clear hL9 hF9 hN9))
      go_roundw
      case rel =>
        refine ⟨k + 1, vb2, v9, rfl, rfl, by omega, rfl, ?_, ?_, HB9, HNE9, ?_⟩
        · show BS _ _ _ _
          rw [HTK.out, putsL_snoc, ← List.append_assoc]
          exact HS9.out
        · show OwS _ _ _ _ _ _ _
          have := HL9.out.own
          rw [HTL.out]
          rwa [show (L.take k ++ [el]).length = k + 1 by rw [List.length_append, hkl]; rfl] at this
        · show ∀ e ∈ L.take (k + 1), _
          rw [HTL.out]
          intro e he
          rcases List.mem_append.1 he with h | h
          · exact HP.out e h
          · rw [List.mem_singleton.1 h]; exact ⟨⟨x3, HGP2.out⟩, HXN.out.1, HXN.out.2⟩
      case measure => simp [intOf]; omega
    · have hkl : k = L.length := by omega
      subst hkl
      have htl : L.take L.length = L := List.take_length
      rw [htl] at HS HO HP
      obtain ⟨Ab, cb, rfl, hle, hRb⟩ := HS.out.shape
      obtain ⟨Aw, cw, rfl, _⟩ := OwS.shape HO.out
      have hbl : (greetL ++ putsL (L.map (·.F))).length ≤ 100000 := by
        have := puts_len L HP.out
        have := HLL.out
        rw [List.length_append, greetL_length]
        omega
      have hag := all_greet (l := L.map (·.F)) (fun F hF => by
        obtain ⟨x, hx, rfl⟩ := List.mem_map.1 hF
        exact (HP.out x hx).1)
      have hrd : (L.map (·.F)).map (fun F => (F, 0, 0)) = L.map El.rd := by
        rw [List.map_map]
        refine List.map_congr_left fun x hx => ?_
        have := (HE.out x hx).1
        show (x.F, 0, 0) = (x.F, x.s, x.c)
        rw [this.1, this.2]
      rw [hrd] at hag
      have HAG := Lib.hid hag
      generalize greetL ++ putsL (L.map (·.F)) = bytes at *
      have hG1 : GlobE wr := HG.out.below HB.out
      have hnew := new_any wr true hG1
      have HRb := Lib.hid hRb
      have HRw := Lib.hid ((OwS.up HO.out).imp (S' := (· < wr.heap.size)) fun _ h _ => h.2)
      have HLE := Lib.hid hle
      have HBL := Lib.hid hbl
      clear hag hrd htl hRb HS hle hbl HNE
      go_wp2_with fail
      refine hnew.mono ?_
      rintro e w2 ⟨g, rfl, b, h1, hg1, hb1, hw2⟩
      have hS2 : Spl w2 g b [] true false := by have := h1.spl; rwa [heldL_nil] at this
      have hlo : 0 < b := h1.lo.2
      have hlo2 : 0 < g := h1.lo.1
      have hG2 : GlobE w2 := hG1.below hw2
      have hwr := HB.out.size
      have hw2s := hw2.size
      have hlts := hS2.lts
      have hpl := play_any (often := 1) (cb := cb) (cz := cz) (b0 := bytes) (zs := zs) hS2 hG2 hlo ((HRb.out.keep fun j hj => hw2.block j hj.2).imp fun j hj _ => ⟨by omega, by omega, by omega⟩) HLE.out ((RdB.toS ((HZ.out.below HB.out).below (hw2.mono hwr))).imp fun j hj _ => ⟨by omega, by omega, by omega⟩) (by have := HZL.out; omega) (by have := HBL.out; omega) (by omega)
      rw [show (((1 : Nat)) : Int) = 1 from rfl] at hpl
      have HB2 := Lib.hid (HB.out.trans (hw2.mono hwr))
      have HW2 := Lib.hid hw2
      have HG2 := Lib.hid hG2
      clear hnew h1 hw2 hS2 hG2 hG1 hlts HRb hwr
      go_wp2_with fail
      refine hpl.mono ?_
      rintro e w3 ⟨M, v, l, wt, bad, rfl, hF3, hS3, hA3, _, hW3⟩
      obtain ⟨e1, e2, rfl⟩ := HAG.out.det hA3
      have hl0 : l = [] := List.eq_nil_of_length_eq_zero e2
      subst hl0
      obtain ⟨Av, cv, rfl, _⟩ := hF3.own.shape
      have hbw : Below wr.heap.size w2 w3 := hW3.below (fun j hj _ => by rcases hj with hj | hj <;> omega) hw2s
      have HB3 := Lib.hid (HB2.out.trans (hbw.mono HB.out.size))
      have HWr := Lib.hid (HW2.out.trans hbw)
      have HS3 := Lib.hid hS3
      have HF3 := Lib.hid hF3
      have HG3 := Lib.hid (HG2.out.fs hW3 (gbS_glob hlo2 hlo))
      have hbd1 := el_bd hA3 (by have := HBL.out; omega)
      have HBD := Lib.hid hbd1
      have HE1 := Lib.hid e1
      clear hpl hF3 hS3 hA3 hW3 hbw e1 e2 hbd1 HB2 HW2 HG2
      go_wp2_with fail
      refine (fixed_any8 _ HG3.out).mono ?_
      rintro e w4 ⟨rfl, hb4⟩
      have HB4 := Lib.hid (HB3.out.trans (hb4.mono HB3.out.size))
      have HS4 := Lib.hid (HS3.out.below hb4)
      have hsz3 : wr.heap.size ≤ w3.heap.size := HWr.out.size
      have hbr : Below wr.heap.size wr w4 := HWr.out.trans (hb4.mono hsz3)
      have hsm := same8_any (La := M) (Lb := L) (ca := cv) (cb := cw) HE1.out (HF3.out.below hb4).reads.1 ((HRw.out.keep fun j hj => hbr.block j hj).imp fun j hj _ => Nat.lt_of_lt_of_le hj hbr.size) (HF3.out.below hb4).reads.2 (fun x hx => ((HE.out x hx).2.2.keep fun j hj => HB4.out.block j hj).imp fun j hj _ => Nat.lt_of_lt_of_le hj HB4.out.size) HBD.out.1 HBD.out.2
      clear hb4 hbr HB3 HS3 HF3 HG3
      go_wp2_with fail
      refine hsm.mono ?_
      rintro e w5 ⟨rfl, hb5⟩
      have HB5 := Lib.hid (HB4.out.trans (hb5.mono HB4.out.size))
      have HS5 := Lib.hid (HS4.out.below hb5)
      clear hsm hb5 HB4 HS4
      have hhd := hld_any HS5.out
      go_wp2_with fail
      refine hhd.mono ?_
      rintro e w6 ⟨rfl, q, rfl⟩
      have HS6 : Hid (Spl (w5.drewN q) g b [] wt false) := HS5.out.keep (Nat.le_refl _) rfl rfl
      have HB6 := Lib.hid (below_dN HB5.out q)
      clear hhd HS5 HB5
      generalize w5.drewN q = w6 at *
      have hbd := bad_any HS6.out
      go_wp2_with fail
      refine hbd.mono ?_
      rintro e w7 ⟨rfl, rfl⟩
      clear hbd HS6
      go_wp2_with fail
      go_ret
      exact ⟨rfl, HB6.out⟩
theorem frames_any {L : List El} {zs : List UInt8} {A Z : Option Addr} {ca cz : Nat} {w : World} (hG : GlobE w) (hA : RdS w (· < w.heap.size) A (enl elf L)) (hE : ∀ e ∈ L, (e.s = 0 ∧ e.c = 0) ∧ e.F.All ∧ ElIn w (· < w.heap.size) e) (hZ : RdB w w.heap.size Z zs) :
    Calls Tryd.prog 4 #[.slice A L.length ca, .slice Z zs.length cz] w fun e w' => e = .returned (.bool true) ∧ Below w.heap.size w w' := by
  by_cases h : 30 < L.length ∨ 3000 < zs.length
  · exact frames_big hG h
  · exact frames_small hG hA hE hZ (by omega) (by omega)
end Go.Proofs.YtnjnepploockiaaDoor

namespace Go.Proofs.YtnjnepploockiaaDoor
open Go.ChangeShapes Go.WideShapes Go.ChangeAt Go.RowKit Go.Deep Go.Joins

theorem splitFrames_laid {W : World} (h : laidMetH Tryd.prog Rows.splitFramesRow.laid W) : GlobE W := by
  have h' : laidMet Tryd.prog [] W ∧ handlesMet Tryd.prog [("errors.errorType", Rows.laid_errors_errorType)] W := h
  exact handle_cell h'.2 (by simp)

set_option maxRecDepth 100000 in
theorem splitFrames_contract (H : Type) (enc : TypeId × Value → H) (W : World) (base : Nat) (args : Array Value) (ds gs : List (DataW H)) (before : List MemPlace)
    (hval : ∀ (j : Nat) t v, Tryd.f4.params[j]? = some t → args[j]? = some v → Value.okWide Tryd.prog W .any base t v)
    (hW : DataW.Whole enc Tryd.prog Tryd.f4.params.toList Rows.splitFramesSpec.vars false W args.toList ds gs before) (hL : laidMetH Tryd.prog Rows.splitFramesRow.laid W) :
    Calls Tryd.prog 4 args W fun e W' => ∃ v, e = .returned v ∧ Rows.splitFramesSpec.post enc Tryd.prog Tryd.f4 false true false false W args v W' := by
  have hW' := hW
  obtain ⟨p, q, hA0, hV, rfl, hfz, hnd⟩ := hW
  have hA : DataW.TrodAll enc Tryd.prog W 0 (fun _ => true) true Tryd.f4.params.toList args.toList ds p := hA0
  rw [Tryd.params4] at hA hval
  obtain ⟨v0, vs0, d0, ds0, p0, q0, hargs, rfl, rfl, h0, r0⟩ := trodAll_cons hA
  obtain ⟨v1, vs1, d1, ds1, p1, q1, rfl, rfl, rfl, h1, r1⟩ := trodAll_cons r0
  obtain ⟨rfl, rfl, rfl⟩ := trodAll_nil r1
  obtain rfl : args = #[v0, v1] := by cases args; simp_all
  obtain ⟨A0, c0, L0, rfl, _, hr0, hE0⟩ := open_frames (hval 0 43 v0 rfl rfl) h0
  obtain ⟨A1, c1, l1, rfl, hc1, _, hr1⟩ := open_bytesB Tryd.underlying22 Tryd.underlying5 cellsU8 (hval 1 22 v1 rfl rfl) h1
  refine law_post laidOut rfl (by rw [Tryd.params4]; intro t ht; change t ∈ [43, 22] at ht; simp only [List.mem_cons, List.not_mem_nil, or_false] at ht; rcases ht with rfl | rfl <;> exact ⟨by kernel_rfl, of_decide_eq_true (by kernel_rfl)⟩) (rb := 4) (by kernel_rfl) Tryd.underlying4 hW' rfl (frames_any (splitFrames_laid hL) hr0 hE0 hr1)

theorem splitFrames_met (os : Os) : laidMetH Tryd.prog Rows.splitFramesRow.laid ((rowWorld7 os).forCall (fun _ _ => 0) ⟨#[], #[.slice none 0 0, .slice none 0 0], []⟩).memory :=
  laidMetH_of_parts (laidMet_of_run' 8 (by kernel_rfl) (by kernel_rfl)) (by kernel_rfl)
theorem splitFrames_reads (os : Os) {H : Type} (enc : TypeId × Value → H) : ∃ places, DataW.whole enc Tryd.prog ((rowWorld7 os).forCall (fun _ _ => 0) ⟨#[], #[.slice none 0 0, .slice none 0 0], []⟩).memory Tryd.f4.params.toList Rows.splitFramesSpec.vars false (#[.slice none 0 0, .slice none 0 0] : Array Value).toList 8 = some ([.nil, .nil], [], places) :=
  ⟨[], by kernel_rfl⟩

set_option maxRecDepth 100000 in
theorem splitFrames_lifted (os : Os) (started : os.Started) (H : Type) (enc : TypeId × Value → H) (F : Stop.Interp) :
    ReturnsInHanded {} Tryd.checked os 4 .any ((OpenSpec.ofChange Rows.splitFramesSpec).preRow enc Tryd.prog Tryd.f4 Rows.splitFramesRow.domain false Rows.splitFramesRow.laid) (((OpenSpec.ofChange Rows.splitFramesSpec).at F).post enc Tryd.prog Tryd.f4 false true false false) := by
  obtain ⟨places, hx⟩ := splitFrames_reads os enc
  refine returnsInHanded_of_row (C := Tryd.checked) (s := OpenSpec.ofChange Rows.splitFramesSpec) own started (by kernel_rfl) Tryd.func4
    (witness_row_at (enc := enc) (C := Tryd.checked) false (rowWorld7 os) #[.slice none 0 0, .slice none 0 0] rfl (by kernel_rfl) (by kernel_rfl) (by kernel_rfl)
      (OpenSpec.preRow_of_cond 8 hx (by kernel_rfl) (fun k hk => by cases hk) (by kernel_rfl) (splitFrames_met os))) ?_
  intro W base args ds gs before hval hW _ _ _ hL _ _
  exact splitFrames_contract H enc W base args ds gs before hval hW hL

theorem splitFrames_said : Rows.SplitFramesSaid :=
  OpenClaim.holds_of_cond 4 Tryd.f4 rfl rfl rfl rfl rfl rfl rfl ⟨rfl, rfl, rfl, rfl, rfl⟩ rfl rfl rfl rfl rfl (by kernel_rfl) Tryd.func4 (by kernel_rfl)
    (of_decide_eq_true (by kernel_rfl)) (by unfold Func.isWrapper; first | (rw [if_pos (by decide +kernel)]; kernel_rfl) | (rw [if_neg (by decide +kernel)]; exact ⟨rfl, rfl⟩))
    (fun os started H enc _ F => by rw [OpenClaim.pre_eq_preRow]; exact splitFrames_lifted os started H enc F)

theorem splitFrames_plain (f : FuncId) (fn : Func) (hf : Tryd.pinned.checked.prog.funcNamed "louver/louverlaw08.SplitFrames" = some f) (hfn : Tryd.pinned.checked.prog.funcs[f]? = some fn) :
    true = Tryd.pinned.checked.prog.looks [] ∧ ∀ (j : Nat) t, fn.params[j]? = some t → Tryd.pinned.checked.prog.wantsStandIn t = false := by
  obtain rfl : f = 4 := Option.some.inj ((show Tryd.prog.funcNamed "louver/louverlaw08.SplitFrames" = some 4 by kernel_rfl).symm.trans hf) |>.symm
  obtain rfl : fn = Tryd.f4 := (Option.some.inj (Tryd.func4.symm.trans hfn)).symm
  refine ⟨by kernel_rfl, fun j t ht => ?_⟩
  rw [Tryd.params4] at ht
  have ht' := Array.mem_of_getElem? ht
  change t ∈ (#[43, 22] : Array Nat) at ht'
  simp only [List.mem_toArray, List.mem_cons, List.not_mem_nil, or_false] at ht'
  rcases ht' with rfl | rfl
  · exact (show Tryd.prog.wantsStandIn 43 = false by kernel_rfl)
  · exact (show Tryd.prog.wantsStandIn 22 = false by kernel_rfl)

/-- The card. -/
theorem splitFrames_card : Rows.SplitFramesCardSaid :=
  Claim7.holds_tied_plain_at .later [] _ _ _ _ splitFrames_said (fun _ h => by cases h) (by kernel_rfl) (fun _ h => by cases h) splitFrames_row_tie rfl ⟨rfl, rfl⟩ (by kernel_rfl) rfl splitFrames_plain (by kernel_rfl)
end Go.Proofs.YtnjnepploockiaaDoor
