/-
  Bytes turned by a key: bits.RotateLeft32, the program's Turn, the document's, by their contracts. Conditions: that the bytes are read, and how many they may be.
-/
import Derived.Test.YtejlbgllfkfkfaaDoorInum
import Derived.Laws.BitsAllLaws
import Derived.Deep.RegionHeld3
namespace Go.Proofs.YtejlbgllfkfkfaaDoor
open Go.RowKit Go.WideShapes

theorem infoI8 : (Tryd.prog.info? 5).map (fun i => (i.zero, i.size, i.bytes)) = some (some (.int .u8 0), 1, 1) := by kernel_rfl
theorem infoI {P : Program} {t : TypeId} {z : Value} {n b : Nat} (h : (P.info? t).map (fun i => (i.zero, i.size, i.bytes)) = some (some z, n, b)) : ∃ i, P.info? t = some i ∧ i.zero = some z ∧ i.size = n ∧ i.bytes = b := by
  cases hi : P.info? t with
  | none => rw [hi] at h; simp at h
  | some i => rw [hi] at h; simp at h; exact ⟨i, rfl, h.1, h.2.1, h.2.2⟩
/-- make([]byte, n). -/
theorem makeI (n : Nat) (h : n ≤ 1099511627776) (W : World) : (Instr.makeSlice 22 (.int .i64 (n : Int)) (.int .i64 (n : Int))).run Tryd.prog W = .ok (.slice (some ⟨W.heap.size, 0, none⟩) n n) (W.alloc (.cells (byc (List.replicate n 0)).toArray 5)) := by
  obtain ⟨i0, hi0, hz0, hz1, hz2⟩ := infoI infoI8
  have h1 := run_make (P := Tryd.prog) W 22 5 i0 (.int .u8 0) Tryd.underlying22 hi0 hz0 .i64 .i64 (n : Int) (n : Int) (by omega) (by omega) (by rw [hz2]; omega) (by omega)
  have h2 : madeCells (Value.int .u8 0).cells (((n : Nat) : Int).toNat * i0.size) = (byc (List.replicate n 0)).toArray := by
    rw [hz1]
    apply Array.toList_inj.1
    show _ = byc (List.replicate n 0)
    apply List.ext_getElem
    · simp [madeCells, byc]
    · intro i h1 h2; simp [madeCells, byc, Nat.mod_one, Value.cells]
  rw [h1, h2]
  rfl

theorem cell_newI (W : World) (t : TypeId) (v : Value) (p : Nat) (h : p = W.heap.size := by rfl) : (W.alloc (.cells #[v] t)).cell? ⟨p, 0, none⟩ = some v := (Row.made W t #[v] h).cell rfl
theorem RdB.ownI {w : World} {base : Nat} {e : TypeId} {A : Option Addr} {c : Nat} {l : List UInt8} (h : OwB w base e (.slice A l.length c) l) : RdB w w.heap.size A l := by
  obtain ⟨A', c', e1, _, _, hr⟩ := h.shape
  injection e1 with e1 _ _
  rw [e1]
  exact hr
theorem and31I : bits .and .u64 8 31 = 8 := by decide
theorem rot_or {k : Nat} (hk : k < 4294967296) : bits .or .u32 ((k : Int) * 256 % 4294967296) ((k : Int) / 16777216) = ((k * 256 % 4294967296 + k / 16777216 : Nat) : Int) := by
  rw [show (k : Int) * 256 % 4294967296 = ((k * 256 % 4294967296 : Nat) : Int) by omega, show (k : Int) / 16777216 = ((k / 16777216 : Nat) : Int) by omega, u32_or_nat _ _ (by omega) (by omega)]
  have h1 : k * 256 % 4294967296 = 2 ^ 8 * (k % 16777216) := by omega
  rw [h1, Nat.two_pow_add_eq_or_of_lt (show k / 16777216 < 2 ^ 8 by omega)]
set_option maxRecDepth 100000 in
theorem rotl_any (k : Nat) (hk : k < 4294967296) (w : World) : Calls Tryd.prog 39 #[.int .u32 k, .int .i64 8] w fun e w' => e = .returned (.int .u32 (k * 256 % 4294967296 + k / 16777216 : Nat)) ∧ w = w' := by
  have ha := and31I
  have ho := rot_or hk
  go_enter Tryd.func39, Tryd.ntmps39
  go_wp2_with fail
  go_ret
  exact ⟨rfl, rfl⟩
set_option maxRecDepth 100000 in
set_option maxHeartbeats 1000000 in
theorem iturn_any {B : Nat} {A : Option Addr} {c : Nat} {l : List UInt8} {key : Nat} {w : World} (hk : key < 4294967296) (hr : RdB w B A l) (hl : l.length ≤ 1000000) (hB : B ≤ w.heap.size) :
    Calls Tryd.prog 30 #[.slice A l.length c, .int .u32 key] w fun e w' => ∃ g, e = .returned (.slice (some ⟨g, 0, none⟩) l.length l.length) ∧ OwB w' w.heap.size 5 (.slice (some ⟨g, 0, none⟩) l.length l.length) (turnL key l) ∧ Below w.heap.size w w' := by
  have hmk := makeI l.length (by omega)
  have HM := Lib.hid hmk
  have HL0 : Hid (OwB (w.alloc (.cells (byc (List.replicate l.length 0)).toArray 5)) w.heap.size 5 (.slice (some ⟨w.heap.size, 0, none⟩) l.length l.length) (List.replicate l.length 0)) := OwB.lit w 5 _ _ (by simp) (by simp [maxLen]; omega) (Nat.le_refl _)
  have HB0 : Hid (Below w.heap.size w (w.alloc (.cells (byc (List.replicate l.length 0)).toArray 5))) := (Below.refl _ _).alloc (Nat.le_refl _) _
  obtain ⟨p, hp⟩ : ∃ p, p = w.heap.size := ⟨_, rfl⟩
  have HP : Hid (p = w.heap.size) := hp
  rw [← hp] at HL0 HB0 hB
  obtain ⟨N, hN⟩ : ∃ N, N = l.length := ⟨_, rfl⟩
  have HN : Hid (N = l.length) := hN
  rw [← hN] at HL0 hl ⊢
  rw [← hN] at hmk
  simp only [← hN] at HB0
  clear HM
  go_enter Tryd.func30, Tryd.ntmps30
  clear hN
  go_wp2_with fail
  rw [← hp]
  clear hp hmk
  generalize w.alloc (.cells (byc (List.replicate N 0)).toArray 5) = w1 at *
  go_loopw [1, 13] (fun ky iv wr => ∃ (k q : Nat) (X : List UInt8), k ≤ N ∧ ky = .int .u32 q ∧ q < 4294967296 ∧ iv = .int .i64 k ∧ X.length = N ∧ Hid (q = krot key k) ∧ Hid (X = (turnL key l).take k ++ List.replicate (N - k) 0) ∧ Hid (OwB wr p 5 (.slice (some ⟨p, 0, none⟩) N N) X) ∧ Hid (Below p w wr)) (fun _ iv _ => N - (intOf iv).toNat)
  case atStart => exact ⟨0, key, List.replicate N 0, Nat.zero_le _, rfl, hk, rfl, by simp, by show _ = _; rw [krot_zero hk], by show _ = _; simp, HL0, HB0⟩
  case round =>
    obtain ⟨k, q, X, hkN, rfl, hq, rfl, hXl, hqe, hX, hO, hBw⟩ := hrel
    by_cases hlt : k < N
    · have hne : l ≠ [] := by intro e; rw [e] at HN; have := HN.out; simp at this; omega
      obtain ⟨g, o, rfl, hg, hcell⟩ := hr hne
      have hkl : k < l.length := by rw [← HN.out]; exact hlt
      have hc0 := hcell k hkl
      have hc1 : wr.cell? ⟨g, o + k, none⟩ = some (.int .u8 (l[k].toNat : Int)) := by rw [← hc0]; exact hBw.out.cell (p := ⟨g, o + k, none⟩) (by show g < p; omega)
      have HX2 : Hid (X.set k (UInt8.ofNat (l[k].toNat ^^^ kb key k)) = (turnL key l).take (k + 1) ++ List.replicate (N - (k + 1)) 0) := by
        show _ = _
        rw [hX.out, turnL_take _ _ hkl, List.set_append_right _ _ (by simp; omega)]
        have e1 : k - ((turnL key l).take k).length = 0 := by rw [List.length_take, turnL_length]; omega
        rw [e1, show N - k = (N - (k + 1)) + 1 by omega, List.replicate_succ]
        simp
      have HQ2 : Hid (q * 256 % 4294967296 + q / 16777216 = krot key (k + 1)) := by show _ = _; rw [hqe.out]; exact krot_succ hk k
      have hq2 : q * 256 % 4294967296 + q / 16777216 < 4294967296 := by rw [HQ2.out]; exact krot_lt hk _
      have hlow : (q * 256 % 4294967296 + q / 16777216) % 256 = kb key k := by rw [HQ2.out]; exact krot_low hk k
      have hrot := rotl_any q hq
      have hb := l[k].toNat_lt
      generalize l[k].toNat = b at *
      have hkb := kb_lt key k
      generalize kb key k = f at *
      generalize q * 256 % 4294967296 + q / 16777216 = q2 at *
      have hcv : IntKind.u8.wrap (q2 : Int) = (f : Int) := by rw [IntKind.wrap_u8]; omega
      have hxr : bits .xor .u8 (b : Int) (f : Int) = ((b ^^^ f : Nat) : Int) := u8_xor_nat b f hb hkb
      have hxl := xor_lt hb hkb
      have HS := Lib.hid (hO.out.stored k (UInt8.ofNat (b ^^^ f)))
      have e1 : (((UInt8.ofNat (b ^^^ f)).toNat : Nat) : Int) = ((b ^^^ f : Nat) : Int) := by rw [ofNat_toNat_mod]; omega
      rw [e1] at HS
      have hth := hO.out.thawed k
      have hXk : k < X.length := by omega
      have hcX := hO.out.at_ hXk
      generalize X[k].toNat = xk at *
      have hkn : (k : Int) < (N : Int) := by omega
      clear hqe hX hc0 hcell hr hlow e1 hlt hkl
      generalize b ^^^ f = z at *
      go_wp2_with fail
      refine (hrot _).mono ?_
      rintro e w2 ⟨rfl, rfl⟩
      go_wp2_with fail
      go_roundw
      case rel => exact ⟨k + 1, q2, X.set k (UInt8.ofNat z), by omega, rfl, hq2, by go_num, by rw [List.length_set]; exact hXl, HQ2, HX2, HS, hBw.out.setCell (p := ⟨p, k, none⟩) (Nat.le_refl _) _⟩
      case measure => simp [intOf]; omega
    · obtain rfl : k = N := by omega
      have e : X = turnL key l := by rw [hX.out, Nat.sub_self, List.replicate_zero, List.append_nil, HN.out, ← turnL_length key l, List.take_length]
      have HE := Lib.hid e
      clear e hX hqe
      go_wp2_with fail
      go_ret
      rw [← HE.out, ← HP.out]
      exact ⟨p, rfl, hO.out, hBw.out⟩
set_option maxRecDepth 100000 in
set_option maxHeartbeats 1000000 in
theorem rturnI_any (l : List UInt8) (key : Nat) (hk : key < 4294967296) (hl : l.length ≤ 1000000) (w : World) :
    Calls Tryd.prog 24 #[.string (txb l), .int .u32 key] w fun e w' => e = .returned (.string (txb (turnL key l))) ∧ Below w.heap.size w w' := by
  obtain ⟨i0, hi0, hz0, hz1, hz2⟩ := infoI infoI8
  have hnum := inumber_any key 4 (by omega) (by omega)
  have hsz := txb_size l
  go_enter Tryd.func24, Tryd.ntmps24
  go_wp2_with fail
  refine (hnum _).mono ?_
  rintro e w1 ⟨rfl, hb1⟩
  have HB1 := Lib.hid hb1
  have hO0 : Hid (OwB (w1.alloc (.cells #[] 5)) w1.heap.size 5 (.slice (some ⟨w1.heap.size, 0, none⟩) 0 0) []) := OwB.lit w1 5 [] 0 rfl (by simp [maxLen]) (Nat.le_refl _)
  have hB0 : Hid (Below w1.heap.size w1 (w1.alloc (.cells #[] 5))) := (Below.refl _ _).alloc (Nat.le_refl _) _
  clear hb1
  go_wp2_with fail
  have HB2 : Hid (Below w.heap.size w (w1.alloc (.cells #[] 5))) := HB1.out.trans (hB0.out.mono HB1.out.size)
  obtain ⟨p, hp⟩ : ∃ p, p = w1.heap.size := ⟨_, rfl⟩
  have HP : Hid (w.heap.size ≤ p) := by show _ ≤ _; rw [hp]; exact HB1.out.size
  have HPz : Hid (p ≤ (w1.alloc (.cells #[] 5)).heap.size) := by show _ ≤ _; rw [hp]; exact hB0.out.size
  rw [← hp] at hO0 ⊢
  clear hB0 hp
  generalize w1.alloc (.cells #[] 5) = w2 at *
  go_loopw [6, 7] (fun sv iv wr => ∃ (k : Nat) (L : List UInt8) (A : Option Addr) (c : Nat), k ≤ l.length ∧ sv = .slice A L.length c ∧ iv = .int .i64 k ∧ L.length = k ∧ Hid (L = (turnL key l).take k) ∧ Hid (OwB wr p 5 (.slice A L.length c) L) ∧ Hid (Below w.heap.size w wr) ∧ Hid (p ≤ wr.heap.size)) (fun _ iv _ => l.length - (intOf iv).toNat)
  case atStart => exact ⟨0, [], _, _, Nat.zero_le _, rfl, rfl, rfl, by show _ = _; simp, hO0, HB2, HPz⟩
  case round =>
    obtain ⟨k, L, A, c, hkN, rfl, rfl, hLl, hL, hO, hBw, hpz⟩ := hrel
    by_cases hlt : k < l.length
    · have hat := txb_at l k hlt
      have hk4 : k % 4 < (be 4 key).length := by rw [be_length]; omega
      have hkt := fun W => txb_at (be 4 key) (k % 4) hk4 W
      rw [show (be 4 key)[k % 4] = UInt8.ofNat (kb key k) from kb_be k] at hkt
      have hkb := kb_lt key k
      have e1 : (((UInt8.ofNat (kb key k)).toNat : Nat) : Int) = ((kb key k : Nat) : Int) := by rw [ofNat_toNat_mod]; omega
      rw [e1] at hkt
      have HL2 := Lib.hid (turnL_take key l hlt)
      rw [← hL.out] at HL2
      have hb := l[k].toNat_lt
      generalize l[k].toNat = b at *
      generalize kb key k = f at *
      have hxo := xorI_any b f hb hkb
      have hxl := xor_lt hb hkb
      generalize b ^^^ f = z at *
      have hm4 : (k : Int).tmod 4 = ((k % 4 : Nat) : Int) := rfl
      have hm5 : IntKind.i64.wrap ((k : Int).tmod 4) = ((k % 4 : Nat) : Int) := by rw [hm4]; exact IntWalk.i64_in _ (by omega)
      generalize k % 4 = k4 at *
      have hL9 : L.length ≤ 1000000 := by omega
      have HLl := Lib.hid hLl
      clear hL e1 hk4 hLl
      go_wp2_with fail
      have HOd : Hid (OwB wr.drew p 5 (.slice A L.length c) L) := hO.out
      have HBd : Hid (Below w.heap.size w wr.drew) := hBw.out.drew
      have hzd : p ≤ wr.heap.size := hpz.out
      have hwp : w.heap.size ≤ p := HP.out
      go_region_held3 (fun _ => True) (exact trivial) ((first
        | (go_at_call 32; refine (hxo _).mono ?_; rintro e w' ⟨rfl, rfl⟩)
        | (refine step_appB1 rfl (.tmp 18) (.tmp 27) _ rfl p 5 i0 Tryd.underlying22 hi0 hz0 hz1 hz2 _ L rfl (World.ownsRow.alloc HOd.out _) wr.heap.size _ _ rfl (cell_newI _ _ _ _) (by omega) (by omega) (by omega) (by simp; omega) ?_; intro A3 c3 L3 w3 hL3 ho3 hb3)))
      all_goals
        go_wp2_with fail
        go_roundw
        case rel => exact ⟨k + 1, L3, A3, c3, by omega, rfl, by go_num, by rw [hL3.out, List.length_append, HLl.out]; rfl, by show _ = _; rw [hL3.out, HL2.out, Int.toNat_natCast], ho3, hBw.out.trans ((((Below.refl w.heap.size wr).alloc (Nat.le_trans hwp hzd) (.cells #[.int .u8 (z : Int)] 5)).drew).trans (hb3.mono hwp)), by show _ ≤ _; have := hb3.size; simp at this; omega⟩
        case measure => simp [intOf]; omega
    · obtain rfl : k = l.length := by omega
      have e : L = turnL key l := by rw [hL.out, ← turnL_length key l, List.take_length]
      subst e
      have htx := run_text (P := Tryd.prog) (c := c) Tryd.underlying22 Tryd.underlying5 Tryd.underlying9 (RdB.ownI hO.out)
      rw [turnL_length] at htx
      go_wp2_with fail
      go_ret
      exact ⟨rfl, hBw.out⟩
end Go.Proofs.YtejlbgllfkfkfaaDoor
