/-
  The document's Next, by contract. Conditions: the ring is read; the windows are within their bounds; at most 1000000 bytes wait of a stream.
-/
import Derived.Test.YtplohgaecoobaaaUtu
import Derived.Test.YtplohgaecoobaaaUgr
import Derived.Test.YtplohgaecoobaaaLast
import Derived.Lib.MinMax
namespace Go.Proofs.Ytplohgaecoobaaa
open Go.RowKit Go.WideShapes

/-- The place of the first one that can send. -/
def fc (l : Int) : List Sn → Nat
  | [] => 0
  | x :: L => if can l x = true then 0 else fc l L + 1
theorem fc_le (l : Int) : ∀ L : List Sn, fc l L ≤ L.length
  | [] => Nat.le_refl _
  | x :: L => by
    unfold fc
    split
    · omega
    · have := fc_le l L
      simp only [List.length_cons]; omega
theorem fc_hit {l : Int} : ∀ {L : List Sn} {k : Nat} (hk : k < L.length), k ≤ fc l L → can l L[k] = true → fc l L = k
  | x :: L, 0, _, _, h => by
    have h' : can l x = true := h
    unfold fc; rw [if_pos h']
  | x :: L, k + 1, hk, hle, h => by
    unfold fc at hle ⊢
    split at hle
    · omega
    · rename_i hx
      rw [if_neg hx, fc_hit (L := L) (k := k) (by simpa using hk) (by omega) h]
theorem fc_more {l : Int} : ∀ {L : List Sn} {k : Nat} (hk : k < L.length), k ≤ fc l L → can l L[k] = false → k + 1 ≤ fc l L
  | x :: L, 0, _, _, h => by
    have h' : ¬ can l x = true := by rw [show can l x = false from h]; decide
    unfold fc; rw [if_neg h']; omega
  | x :: L, k + 1, hk, hle, h => by
    unfold fc at hle ⊢
    split at hle
    · omega
    · rename_i hx
      rw [if_neg hx]
      have := fc_more (L := L) (k := k) (by simpa using hk) (by omega) h
      omega
/-- How many bytes are sent. -/
def snN (l most : Int) (x : Sn) : Nat := if x.b = [] then 0 else (min (min (min (x.b.length : Int) (max 1 most)) x.lf) l).toNat
/-- The stream behind that. -/
def snY (N : Nat) (x : Sn) : Sn := { x with b := x.b.drop N, lf := x.lf - N, ov := x.en && decide (x.b.drop N = []) }
/-- What is left where a stream sends. -/
def NxSome (w : World) (L : List Sn) (f : Nat) (l most : Int) (k : Nat) (x : Sn) (e : Ending) (w' : World) : Prop :=
  ∃ A c, e = .returned (.tuple #[.agg (rrc A L.length c ((f + (k + 1) % L.length) % L.length) (l - snN l most x)), .int .u32 x.st, .string (tb (x.b.take (snN l most x))), .bool (snY (snN l most x) x).ov, .bool true]) ∧
    Rn w' w.heap.size A c ((L.set k (snY (snN l most x) x)).drop ((k + 1) % L.length) ++ (L.set k (snY (snN l most x) x)).take ((k + 1) % L.length)) ∧ Below w.heap.size w w'
/-- What Next leaves. -/
def NxPost (w : World) (A : Option Addr) (c f : Nat) (l : Int) (L : List Sn) (most : Int) (e : Ending) (w' : World) : Prop :=
  (fc l L = L.length → e = .returned (.tuple #[.agg (rrc A L.length c f l), .int .u32 0, .string (tb []), .bool false, .bool false]) ∧ Below w.heap.size w w') ∧
  (∀ k x, L[k]? = some x → fc l L = k → NxSome w L f l most k x e w')
theorem nx_none {w : World} {A : Option Addr} {c f : Nat} {l : Int} {L : List Sn} {most : Int} {e : Ending} {w' : World} (h : fc l L = L.length) (h1 : e = .returned (.tuple #[.agg (rrc A L.length c f l), .int .u32 0, .string (tb []), .bool false, .bool false])) (h2 : Below w.heap.size w w') : NxPost w A c f l L most e w' :=
  ⟨fun _ => ⟨h1, h2⟩, fun k x hx hk => by
    rw [h] at hk
    subst hk
    simp at hx⟩
theorem nx_some {w : World} {A : Option Addr} {c f : Nat} {l : Int} {L : List Sn} {most : Int} {e : Ending} {w' : World} {k : Nat} (hk : k < L.length) (h : fc l L = k) (h1 : NxSome w L f l most k L[k] e w') : NxPost w A c f l L most e w' :=
  ⟨fun h0 => by omega, fun k' x hx hk' => by
    rw [h] at hk'
    subst hk'
    rw [List.getElem?_eq_getElem hk] at hx
    cases hx
    exact h1⟩
theorem tb_slices {b : List UInt8} {N : Nat} (hN : N ≤ b.length) (_hb : b.length ≤ 1000000) :
    (∀ W, (Instr.slice 9 (.string (tb b)) none (some (.int .i64 (N : Int))) none).run Try.prog W = .ok (.string (tb (b.take N))) W) ∧ (∀ W, (Instr.slice 9 (.string (tb b)) (some (.int .i64 (N : Int))) none none).run Try.prog W = .ok (.string (tb (b.drop N))) W) := by
  have hs : (tb b).size = b.length := by simp [ByteArray.size]
  have hx : ∀ i j, (tb b).extract i j = tb ((b.drop i).take (j - i)) := fun i j => by unfold tb; rw [ByteArray.extract_mk]
  constructor
  · intro W
    rw [run_slice_string_h (P := Try.prog) (s := tb b) W 9 Try.underlying9 .i64 (N : Int) (by omega) (by rw [hs]; omega), hx]
    simp
  · intro W
    rw [run_slice_string_l (P := Try.prog) (s := tb b) W 9 Try.underlying9 .i64 (N : Int) (by omega) (by rw [hs]; omega), hx, hs, List.take_of_length_le (by simp)]
    simp
theorem snY_st (N : Nat) (x : Sn) : (snY N x).st = x.st := rfl
theorem min4_if (a b c d : Int) : (if d < (if c < (if b < a then b else a) then c else (if b < a then b else a)) then d else (if c < (if b < a then b else a) then c else (if b < a then b else a))) = min (min (min a b) c) d := by
  repeat' split
  all_goals omega
theorem run_min4 {P : Program} (W : World) (ts : Array TypeId) (t : TypeId) (a b c d : Int) :
    (Builtin.min_ ts t #[.int .i64 a, .int .i64 b, .int .i64 c, .int .i64 d]).run P W = .ok (.int .i64 (min (min (min a b) c) d)) W := by
  rw [← min4_if]
  simp [Builtin.min_, Builtin.min2]
/-- How many are sent, of one that can. -/
theorem snN_or {l most : Int} {x : Sn} (hc : can l x = true) : (x.b = [] ∧ snN l most x = 0) ∨ (x.b ≠ [] ∧ 0 < x.b.length ∧ min (min (min (x.b.length : Int) (max 1 most)) x.lf) l = (snN l most x : Int)) := by
  unfold can at hc
  unfold snN
  by_cases hb : x.b = []
  · rw [if_pos hb]
    exact .inl ⟨hb, rfl⟩
  · rw [if_neg hb] at hc ⊢
    have h1 : 0 < x.b.length := List.length_pos_iff.2 hb
    simp only [Bool.and_eq_true, decide_eq_true_eq] at hc
    exact .inr ⟨hb, h1, by omega⟩
theorem snN_le {l most : Int} {x : Sn} (hc : can l x = true) : snN l most x ≤ x.b.length := by
  rcases snN_or (most := most) hc with ⟨_, h⟩ | ⟨_, h1, h⟩
  · omega
  · omega
/-- What a function hands back out of a variable, beside four values. -/
theorem ret_ag4 {P : Program} {w : World} {g : Nat} {T : TypeId} {cs : Array Value} {fn : Func} {p q1 q2 q3 q4 : Tmp} {v1 v2 v3 v4 : Value} (h : fn.results = #[.cell p T, .tmp q1, .tmp q2, .tmp q3, .tmp q4]) (tmps : Array Value) (hp : tmps.getD p undef = .pointer (some ⟨g, 0, none⟩)) (hR : Row w g T cs) (hk : AgOk P T cs)
    (h1 : tmps.getD q1 undef = v1) (h2 : tmps.getD q2 undef = v2) (h3 : tmps.getD q3 undef = v3) (h4 : tmps.getD q4 undef = v4) : (results fn tmps).run P w = .ok (.tuple #[.agg cs, v1, v2, v3, v4]) w := by
  have hl := run_ld hk hR
  have hp' : tmps[p]?.getD undef = .pointer (some ⟨g, 0, none⟩) := by simpa using hp
  have h1' : tmps[q1]?.getD undef = v1 := by simpa using h1
  have h2' : tmps[q2]?.getD undef = v2 := by simpa using h2
  have h3' : tmps[q3]?.getD undef = v3 := by simpa using h3
  have h4' : tmps[q4]?.getD undef = v4 := by simpa using h4
  simp only [results, h]
  simp [hp', h1', h2', h3', h4', asAddr, hl]
theorem nxs {w w' : World} {L V U : List Sn} {f k N M F c : Nat} {l most : Int} {x y : Sn} {A : Option Addr} (hN : N = snN l most x) (hy : y = snY N x) (hs : y.st = x.st) (hM : M = (k + 1) % L.length) (hF : F = (f + M) % L.length) (hV : L.set k y = V) (hU : U = V.drop M ++ V.take M) (hR : Rn w' w.heap.size A c U) (hB : Below w.heap.size w w') :
    NxSome w L f l most k x (.returned (.tuple #[.agg (rrc A L.length c F (l - N)), .int .u32 y.st, .string (tb (x.b.take N)), .bool y.ov, .bool true])) w' := by
  subst hU hF hM hV
  rw [hs]
  subst hy hN
  exact ⟨A, c, rfl, hR, hB⟩
attribute [local irreducible] snc rrc rwc can fc snN snY NxPost NxSome
set_option maxRecDepth 100000 in
set_option maxHeartbeats 4000000 in
theorem rnext_any {w : World} {A : Option Addr} {c f : Nat} {l : Int} {L : List Sn} (h : Rg w A c L) (most : Int) (hf : f ≤ L.length) (hl : -2147483648 ≤ l ∧ l ≤ 2147483647) (hlf : ∀ x ∈ L, (-2147483648 ≤ x.lf ∧ x.lf ≤ 2147483647) ∧ x.b.length ≤ 1000000) :
    Calls Try.prog 30 #[.agg (rrc A L.length c f l), .int .i64 most] w (NxPost w A c f l L most) := by
  obtain ⟨w0, hw0, t1, t2, t4, t5⟩ := two_ref w (rrc A L.length c f l) #[.slice none 0 0, .int .i64 0, .int .i64 0, .bool false] 31 31
  have HW := Lib.hid hw0
  rw [rr_zero] at t2
  have T1 := Lib.hid t1
  have T2 := Lib.hid t2
  have T4 := Lib.hid t4
  have HRW := Lib.hid h
  have hbd := h.bd
  have c0 := (rr_cells t1).1
  have HLF := Lib.hid hlf
  have HLB := Lib.hid hl
  clear hw0 t1 t2 t4 t5 h hlf hl
  go_enter Try.func30, Try.ntmps30
  go_upto_region 1 with fail
  rw [HW.out]
  clear HW
  go_wp2_with fail
  clear c0
  go_loopw [16] (fun i wr => ∃ k : Nat, k ≤ L.length ∧ i = .int .i64 k ∧ Hid (Row wr w.heap.size 31 (rrc A L.length c f l)) ∧ Hid (Row wr (w.heap.size + 1) 31 (rrc none 0 0 0 0)) ∧ Hid (Below w.heap.size w wr) ∧ Hid (k ≤ fc l L)) (fun i _ => L.length - (intOf i).toNat)
  case atStart => exact ⟨0, Nat.zero_le _, rfl, T1, T2, T4, Nat.zero_le _⟩
  case round =>
    clear T1 T2 T4
    obtain ⟨k, hk, rfl, T1, T2, T4, HF⟩ := hrel
    by_cases hlt : k < L.length
    · have hR := HRW.out.up T4.out
      obtain ⟨bb, q, rfl, hbb, hr⟩ := hR.at hlt
      have c0 := (rr_cells T1.out).1
      have HXC : Hid (wr.rangeAt bb (q + k * 6) (snc L[k]).toList) := hr
      obtain ⟨x, hxx⟩ : ∃ x, x = L[k] := ⟨_, rfl⟩
      have HXX := Lib.hid hxx
      have hbx := HLF.out x (by rw [hxx]; exact List.getElem_mem hlt)
      rw [← hxx] at HXC
      obtain ⟨w2, hw2, u1, u2, u3, u4⟩ := one_sn wr x
      have HW2 := Lib.hid hw2
      have U1 := Lib.hid u1
      have U2 := Lib.hid u2
      have T12 := Lib.hid (T1.out.below u3 T1.out.lt)
      have T22 := Lib.hid (T2.out.below u3 T2.out.lt)
      have T42 := Lib.hid (T4.out.trans (u3.mono T4.out.size))
      have hpp : w.heap.size + 1 < wr.heap.size := T2.out.lt
      have HBX := Lib.hid hbx
      clear hr hxx hw2 u1 u2 u3 u4 hbb hbx hR
      go_upto_region 5 with (first | (refine wpList_ldm (cs := snc x) rfl _ rfl rfl HXC.out (sn_ok _) ?_) | (refine wpList_sw (cs := snc x) rfl _ _ rfl rfl rfl U1.out (by rw [sn_size]; rfl) (sn_ok _) ?_))
      rw [HW2.out]
      clear HW2 U1 HXC c0 T1 T2 T4
      generalize wr.heap.size = p at *
      go_wp2_with (first | (refine wpList_ld rfl _ rfl rfl T12.out (rr_ok _ _ _ _ _) ?_) | (refine wpList_ld rfl _ rfl rfl U2.out (sn_ok _) ?_))
      refine (rcan_any _ _ _ _ _ _ _).mono ?_
      rintro e w3 ⟨rfl, hb3⟩
      have U23 := Lib.hid (U2.out.below hb3 U2.out.lt)
      have T13 := Lib.hid (T12.out.below hb3 T12.out.lt)
      have T23 := Lib.hid (T22.out.below hb3 T22.out.lt)
      have T43 := Lib.hid (T42.out.trans (hb3.mono T42.out.size))
      clear hb3 U2 T12 T22 T42
      by_cases hc : can l x = true
      · rw [hc]
        have HC : Hid (fc l L = k) := fc_hit hlt HF.out (by rw [← HXX.out]; exact hc)
        have hN0 := snN_or (most := most) hc
        have hNl := snN_le (most := most) hc
        obtain ⟨N, hN⟩ : ∃ N, N = snN l most x := ⟨_, rfl⟩
        rw [← hN] at hN0 hNl
        have HNN := Lib.hid hN
        have HN0 := Lib.hid hN0
        obtain ⟨hup, hfrom⟩ := tb_slices hNl HBX.out.2
        have hw1 : IntKind.i64.wrap (x.lf - (N : Int)) = x.lf - (N : Int) := IntWalk.i64_in _ (by have := HBX.out; omega)
        have hw2 : IntKind.i64.wrap (l - (N : Int)) = l - (N : Int) := IntWalk.i64_in _ (by have := HLB.out; have := HBX.out; omega)
        obtain ⟨_, s1, s2, _, s4, _⟩ := sn_cells U23.out
        have r2 := (rr_cells T13.out).2.2.1
        clear hN hN0 hc HF
        go_upto_region 7 with fail
        go_upto_if 32 with fail
        go_cut [11] from 16 to 88 (fun v wx => v = .int .i64 N ∧ wx = w3)
        case first =>
          rcases HN0.out with ⟨hb, hz⟩ | ⟨hb, hb1, hm⟩
          · have hl0 : x.b.length = 0 := by rw [hb]; rfl
            have hq : decide (0 < x.b.length) = false := decide_eq_false (by omega)
            clear hup hfrom hw1 hw2 s1 s2 s4 r2 hNl hb
            go_wp2_with fail
            go_meet
            case rel => exact ⟨by rw [hz, ← hl0], rfl⟩
          · have hm4 := fun (W : World) (ts : Array TypeId) (t : TypeId) => run_min4 (P := Try.prog) W ts t (x.b.length : Int) (max 1 most) x.lf l
            rw [hm] at hm4
            clear hup hfrom hw1 hw2 s1 s2 hNl hb hm
            go_wp2_with fail
            go_meet
            case rel => exact ⟨rfl, rfl⟩
        case rest =>
          obtain ⟨rfl, rfl⟩ := hcut
          have z1 := U23.out.thawed 1
          go_upto_region 10 with fail
          go_upto_region 11 with fail
          have U24 := Lib.hid (sn_set1 (b := x.b.drop N) U23.out)
          have T14 := Lib.hid (T13.out.stored' (a := ⟨p, 1, none⟩) (by simp; omega) (.string (tb (x.b.drop N))))
          have T24 := Lib.hid (T23.out.stored' (a := ⟨p, 1, none⟩) (by simp; omega) (.string (tb (x.b.drop N))))
          have T44 := Lib.hid (T43.out.setCell (p := ⟨p, 1, none⟩) (by simp; omega) (.string (tb (x.b.drop N))))
          clear z1 s1 s2 s4 r2 U23 T13 T23 T43 hup hfrom
          generalize wc.setCell ⟨p, 1, none⟩ (.string (tb (x.b.drop N))) = w4 at *
          obtain ⟨_, _, _, _, s4, _⟩ := sn_cells U24.out
          have z4 := U24.out.thawed 4
          have U25 := Lib.hid (sn_set4 (l := x.lf - N) U24.out)
          have T15 := Lib.hid (T14.out.stored' (a := ⟨p, 4, none⟩) (by simp; omega) (.int .i64 (x.lf - N)))
          have T25 := Lib.hid (T24.out.stored' (a := ⟨p, 4, none⟩) (by simp; omega) (.int .i64 (x.lf - N)))
          have T45 := Lib.hid (T44.out.setCell (p := ⟨p, 4, none⟩) (by simp; omega) (.int .i64 (x.lf - N)))
          clear U24 T14 T24 T44
          go_upto_region 12 with fail
          generalize w4.setCell ⟨p, 4, none⟩ (.int .i64 (x.lf - N)) = w5 at *
          clear s4 z4 hw1
          have r2 := (rr_cells T15.out).2.2.1
          have z2 := T15.out.thawed 2
          have U26 := Lib.hid (U25.out.stored' (a := ⟨w.heap.size, 2, none⟩) (by simp; omega) (.int .i64 (l - N)))
          have T16 := Lib.hid (rr_set2 (l' := l - N) T15.out)
          have T26 := Lib.hid (T25.out.stored' (a := ⟨w.heap.size, 2, none⟩) (by simp) (.int .i64 (l - N)))
          have T46 := Lib.hid (T45.out.setCell (p := ⟨w.heap.size, 2, none⟩) (Nat.le_refl _) (.int .i64 (l - N)))
          clear U25 T15 T25 T45
          go_upto_region 13 with fail
          generalize w5.setCell ⟨w.heap.size, 2, none⟩ (.int .i64 (l - N)) = w6 at *
          clear r2 z2 hw2
          obtain ⟨s0, s1, s2, s3, _, _⟩ := sn_cells U26.out
          have z3 := U26.out.thawed 3
          obtain ⟨v, hv⟩ : ∃ v : Bool, v = (x.en && decide (x.b.drop N = [])) := ⟨_, rfl⟩
          have HV := Lib.hid hv
          have U27 : Hid (Row (w6.setCell ⟨p, 3, none⟩ (.bool v)) p 40 (snc (snY N x))) := by
            show Row _ _ _ _
            have := sn_set3 (b := v) U26.out
            unfold snY
            rw [hv] at this ⊢
            exact this
          have T17 := Lib.hid (T16.out.stored' (a := ⟨p, 3, none⟩) (by simp; omega) (.bool v))
          have T27 := Lib.hid (T26.out.stored' (a := ⟨p, 3, none⟩) (by simp; omega) (.bool v))
          have T47 := Lib.hid (T46.out.setCell (p := ⟨p, 3, none⟩) (by simp; omega) (.bool v))
          clear U26 T16 T26 T46 hv
          go_cut [] from 16 to 88 (fun wx => wx = w6.setCell ⟨p, 3, none⟩ (.bool v))
          case first =>
            have he := tb_nil (x.b.drop N)
            have hv := HV.out
            clear U27 T17 T27 T47 s0
            generalize x.b.drop N = Bd at *
            cases hen : x.en
            · rw [hen] at s2 hv
              clear he
              go_wp2_with fail
              go_meet
              case rel => rw [hv]; rfl
            · rw [hen] at s2 hv
              by_cases hbd : Bd = []
              · simp only [hbd, decide_true] at he
                have hv' : v = true := by rw [hv]; simp [hbd]
                rw [hbd] at s1
                clear hv hbd
                go_wp2_with fail
                go_meet
                case rel => rw [hv']
              · simp only [hbd, decide_false] at he
                have hv' : v = false := by rw [hv]; simp [hbd]
                clear hv hbd
                go_wp2_with fail
                go_meet
                case rel => rw [hv']
          case rest =>
            obtain rfl := hcut
            clear s0 s1 s2 s3 z3
            generalize hw7 : w6.setCell ⟨p, 3, none⟩ (.bool v) = w7 at *
            clear hw7
            obtain ⟨y, hy⟩ : ∃ y, y = snY N x := ⟨_, rfl⟩
            rw [← hy] at U27
            have HY := Lib.hid hy
            have hyst : y.st = x.st := by rw [hy]; exact snY_st N x
            have HYS := Lib.hid hyst
            clear hy hyst HV HN0
            have HR7 := Lib.hid (HRW.out.up T47.out)
            have hrw := fun W (h : Rg W (some ⟨bb, q, none⟩) c L) => rwith_any (f := f) (l := l - N) h hlt y
            go_wp2_with (first | (refine wpList_ld rfl _ rfl rfl T17.out (rr_ok _ _ _ _ _) ?_) | (refine wpList_ld rfl _ rfl rfl U27.out (sn_ok _) ?_))
            refine (hrw _ HR7.out).mono ?_
            rintro e w8 ⟨A8, c8, rfl, hR8, hb8⟩
            have hV : (L.set k y).length = L.length := List.length_set
            have T18 := Lib.hid (T17.out.below hb8 T17.out.lt)
            have T28 := Lib.hid (T27.out.below hb8 T27.out.lt)
            have U28 := Lib.hid (U27.out.below hb8 U27.out.lt)
            have T48 := Lib.hid (T47.out.trans (hb8.mono T47.out.size))
            have HR8 := Lib.hid (hR8.mono (B' := w.heap.size + 2) T27.out.lt)
            clear hb8 hR8 T17 T27 U27 T47 HR7 hrw
            go_upto_region 15 with (refine wpList_sw (cs := rrc A8 L.length c8 f (l - N)) rfl _ _ rfl rfl rfl T18.out (rr_sz _ _ _ _ _ _ _ _ _ _) (rr_ok _ _ _ _ _) ?_)
            have T19 := Lib.hid (T18.out.setRow (rrc A8 L.length c8 f (l - N)))
            have T29 := Lib.hid (T28.out.setRow' (k := w.heap.size) (by omega) (rrc A8 L.length c8 f (l - N)))
            have U29 := Lib.hid (U28.out.setRow' (k := w.heap.size) (by omega) (rrc A8 L.length c8 f (l - N)))
            have T49 := Lib.hid (below_setRow T48.out w.heap.size (rrc A8 L.length c8 f (l - N)) (Nat.le_refl _))
            have HR9 := Lib.hid (HR8.out.setRow (k := w.heap.size) (by omega) (rrc A8 L.length c8 f (l - N)))
            clear T18 T28 U28 T48 HR8
            generalize w8.setRow w.heap.size (rrc A8 L.length c8 f (l - N)) = w9 at *
            generalize hVV : L.set k y = V at *
            have HVV := Lib.hid hVV
            clear hVV
            have hwk : IntKind.i64.wrap ((k : Int) + 1) = (k : Int) + 1 := IntWalk.i64_in _ (by omega)
            have hrt := fun W (h : Rg W A8 c8 V) => rturned_any (f := f) (l := l - N) h (k + 1) (by omega) (by omega) (by omega)
            rw [hV, show ((k + 1 : Nat) : Int) = (k : Int) + 1 from rfl] at hrt
            have HVL := Lib.hid hV
            clear hV
            have d0 : w9.drew.cell? ⟨p, 0, none⟩ = some (.int .u32 y.st) := (sn_cells U29.out).1
            have d3 : w9.drew.cell? ⟨p, 3, none⟩ = some (.bool y.ov) := (sn_cells U29.out).2.2.2.1
            refine wp_region_E 13 (fun w' => Row w' w.heap.size 31 (rrc A8 L.length c8 f (l - N)) ∧ w'.cell? ⟨p, 0, none⟩ = some (.int .u32 y.st) ∧ w'.cell? ⟨p, 3, none⟩ = some (.bool y.ov)) (by kernel_rfl) ⟨T19.out, d0, d3⟩ (fun hHeld => ?_)
            refine wpAnyE_take (i := 0) (v := _) rfl (by kernel_rfl) (by kernel_rfl) (by kernel_rfl) (by kernel_rfl) (fun _ _ _ h => h) (yields_ld (by rfl) _ rfl rfl (rr_ok _ _ _ _ _) (fun _ hSw => hSw.1)) (by assumption) ?rest0w1
            try simp only [Act.put, List.getElem_toArray, List.getElem_cons_zero, List.setIfInBounds_toArray, List.set_cons_zero, List.set_cons_succ]
            refine wpAnyE_take (i := 1) (v := ?v1) rfl (by kernel_rfl) (by kernel_rfl) (by kernel_rfl) (by kernel_rfl) (fun _ _ _ h => h) (Or.inl ⟨by rfl, ?hy1⟩) (by assumption) ?rest1
            case hy1 => (intro w hSw; (try dsimp only at hSw); go_simp <;> with_reducible rfl)
            try simp only [Act.put, List.getElem_toArray, List.getElem_cons_zero, List.getElem_cons_succ, List.setIfInBounds_toArray, List.set_cons_zero, List.set_cons_succ]
            refine wpAnyE_take (i := 2) (v := ?v2) rfl (by kernel_rfl) (by kernel_rfl) (by kernel_rfl) (by kernel_rfl) (fun _ _ _ h => h) (Or.inl ⟨by rfl, ?hy2⟩) (by assumption) ?rest2
            case hy2 => (intro w hSw; (try dsimp only at hSw); go_simp <;> with_reducible rfl)
            try simp only [Act.put, List.getElem_toArray, List.getElem_cons_zero, List.getElem_cons_succ, List.setIfInBounds_toArray, List.set_cons_zero, List.set_cons_succ]
            refine wpAnyE_take (i := 4) (v := ?v4) rfl (by kernel_rfl) (by kernel_rfl) (by kernel_rfl) (by kernel_rfl) (fun _ _ _ h => h) (Or.inl ⟨by rfl, ?hy4⟩) (by assumption) ?rest4
            case hy4 => (intro w hSw; (try dsimp only at hSw); go_simp <;> with_reducible rfl)
            try simp only [Act.put, List.getElem_toArray, List.getElem_cons_zero, List.getElem_cons_succ, List.setIfInBounds_toArray, List.set_cons_zero, List.set_cons_succ]
            refine wpAnyE_take (i := 5) (v := ?v5) rfl (by kernel_rfl) (by kernel_rfl) (by kernel_rfl) (by kernel_rfl) (fun _ _ _ h => h) (Or.inl ⟨by rfl, ?hy5⟩) (by assumption) ?rest5
            case hy5 => (intro w hSw; (try dsimp only at hSw); go_simp <;> with_reducible rfl)
            try simp only [Act.put, List.getElem_toArray, List.getElem_cons_zero, List.getElem_cons_succ, List.setIfInBounds_toArray, List.set_cons_zero, List.set_cons_succ]
            refine wpAnyE_take (i := 6) (v := ?v6) rfl (by kernel_rfl) (by kernel_rfl) (by kernel_rfl) (by kernel_rfl) (fun _ _ _ h => h) (Or.inl ⟨by rfl, ?hy6⟩) (by assumption) ?rest6
            case hy6 => (intro w hSw; (try dsimp only at hSw); go_simp <;> with_reducible rfl)
            try simp only [Act.put, List.getElem_toArray, List.getElem_cons_zero, List.getElem_cons_succ, List.setIfInBounds_toArray, List.set_cons_zero, List.set_cons_succ]
            refine wpAnyE_take (i := 7) (v := ?v7) rfl (by kernel_rfl) (by kernel_rfl) (by kernel_rfl) (by kernel_rfl) (fun _ _ _ h => h) (Or.inl ⟨by rfl, ?hy7⟩) (by assumption) ?rest7
            case hy7 => (intro w hSw; (try dsimp only at hSw); go_simp <;> with_reducible rfl)
            try simp only [Act.put, List.getElem_toArray, List.getElem_cons_zero, List.getElem_cons_succ, List.setIfInBounds_toArray, List.set_cons_zero, List.set_cons_succ]
            refine wpAnyE_take (i := 8) (v := ?v8) rfl (by kernel_rfl) (by kernel_rfl) (by kernel_rfl) (by kernel_rfl) (fun _ _ _ h => h) (Or.inl ⟨by rfl, ?hy8⟩) (by assumption) ?rest8
            case hy8 => (intro w hSw; (try dsimp only at hSw); go_simp <;> with_reducible rfl)
            try simp only [Act.put, List.getElem_toArray, List.getElem_cons_zero, List.getElem_cons_succ, List.setIfInBounds_toArray, List.set_cons_zero, List.set_cons_succ]
            refine wpAnyE_next (i := 3) (by kernel_rfl) rfl (fun K hK => ?_)
            go_simp
            go_at_call 48
            refine (hrt _ (HR9.out.rg.up ((Below.refl _ _).drew))).mono ?_
            rintro e w10 ⟨A10, c10, rfl, hR10, hb10⟩
            have hbl : Below w9.heap.size w9 w10 := ⟨hb10.os, hb10.tape, hb10.output, hb10.size, hb10.block⟩
            obtain ⟨M, hM⟩ : ∃ M, M = (k + 1) % L.length := ⟨_, rfl⟩
            obtain ⟨F, hFF⟩ : ∃ F, F = (f + M) % L.length := ⟨_, rfl⟩
            obtain ⟨U, hU⟩ : ∃ U, U = V.drop M ++ V.take M := ⟨_, rfl⟩
            have hUL : U.length = L.length := by
              rw [hU, List.length_append, List.length_drop, List.length_take, HVL.out]
              have : M < L.length := by rw [hM]; exact Nat.mod_lt _ (by omega)
              omega
            rw [← hM, ← hFF, ← hU]
            rw [← hM, ← hU] at hR10
            rw [hUL]
            have HM := Lib.hid hM
            have HFF := Lib.hid hFF
            have HU := Lib.hid hU
            have HUL := Lib.hid hUL
            have T1a := Lib.hid (T19.out.below hbl T19.out.lt)
            have T2a := Lib.hid (T29.out.below hbl T29.out.lt)
            have U2a := Lib.hid (U29.out.below hbl U29.out.lt)
            have T4a := Lib.hid (T49.out.trans (hbl.mono T49.out.size))
            have HRa := Lib.hid (hR10.mono (B' := w.heap.size + 2) (T29.out.lt : w.heap.size + 1 < w9.heap.size))
            clear hbl hb10 hR10 hM hFF hU hUL T19 T29 U29 T49 HR9 hrt hHeld d0 d3 hwk
            have d0 := (sn_cells U2a.out).1
            have d3 := (sn_cells U2a.out).2.2.2.1
            go_simp
            refine hK.out _ _ ⟨T1a.out, d0, d3⟩ (fun hHeld => ?_)
            clear hK K hHeld
            try simp only [Act.put, List.getElem_toArray, List.getElem_cons_zero, List.getElem_cons_succ, List.setIfInBounds_toArray, List.set_cons_zero, List.set_cons_succ]
            refine wpAnyE_next (i := 9) (by kernel_rfl) rfl (fun K hK => ?_)
            refine step_sw (cs := rrc A10 L.length c10 F (l - N)) rfl _ _ rfl rfl rfl T2a.out (rr_sz _ _ _ _ _ _ _ _ _ _) (rr_ok _ _ _ _ _) ?_
            have T1b := Lib.hid (T1a.out.setRow' (k := w.heap.size + 1) (by omega) (rrc A10 L.length c10 F (l - N)))
            have T2b := Lib.hid (T2a.out.setRow (rrc A10 L.length c10 F (l - N)))
            have U2b := Lib.hid (U2a.out.setRow' (k := w.heap.size + 1) (by omega) (rrc A10 L.length c10 F (l - N)))
            have T4b := Lib.hid (below_setRow T4a.out (w.heap.size + 1) (rrc A10 L.length c10 F (l - N)) (by omega))
            have HRb := Lib.hid (HRa.out.setRow (k := w.heap.size + 1) (by omega) (rrc A10 L.length c10 F (l - N)))
            clear T1a T2a U2a T4a HRa d0 d3
            generalize w10.setRow (w.heap.size + 1) (rrc A10 L.length c10 F (l - N)) = w11 at *
            have hHeld : Row w11 w.heap.size 31 (rrc A8 L.length c8 f (l - N)) ∧ w11.cell? ⟨p, 0, none⟩ = some (.int .u32 y.st) ∧ w11.cell? ⟨p, 3, none⟩ = some (.bool y.ov) := ⟨T1b.out, (sn_cells U2b.out).1, (sn_cells U2b.out).2.2.2.1⟩
            refine hK.out _ _ hHeld (fun hHeld => ?_)
            clear hK K
            try simp only [Act.put, List.getElem_toArray, List.getElem_cons_zero, List.getElem_cons_succ]
            refine wpAnyE_take (i := 10) (v := ?v10q2) rfl (by kernel_rfl) (by kernel_rfl) (by kernel_rfl) (by kernel_rfl) (fun _ _ _ h => h) (Or.inl ⟨by rfl, ?hy10q2⟩) (by assumption) ?rest10q2
            case hy10q2 => (intro w hSw; (try dsimp only at hSw); go_simp <;> with_reducible rfl)
            try simp only [Act.put, List.getElem_toArray, List.getElem_cons_zero, List.getElem_cons_succ, List.setIfInBounds_toArray, List.set_cons_zero, List.set_cons_succ]
            refine wpAnyE_take (i := 11) (v := ?v11q2) rfl (by kernel_rfl) (by kernel_rfl) (by kernel_rfl) (by kernel_rfl) (fun _ _ _ h => h) (Or.inl ⟨by rfl, ?hy11q2⟩) (by assumption) ?rest11q2
            case hy11q2 => (intro w hSw; (try dsimp only at hSw); go_simp <;> with_reducible rfl)
            try simp only [Act.put, List.getElem_toArray, List.getElem_cons_zero, List.getElem_cons_succ, List.setIfInBounds_toArray, List.set_cons_zero, List.set_cons_succ]
            refine wpAnyE_take (i := 12) (v := ?v12q2) rfl (by kernel_rfl) (by kernel_rfl) (by kernel_rfl) (by kernel_rfl) (fun _ _ _ h => h) (Or.inl ⟨by rfl, ?hy12q2⟩) (by assumption) ?rest12q2
            case hy12q2 => (intro w hSw; (try dsimp only at hSw); go_simp <;> with_reducible rfl)
            try simp only [Act.put, List.getElem_toArray, List.getElem_cons_zero, List.getElem_cons_succ, List.setIfInBounds_toArray, List.set_cons_zero, List.set_cons_succ]
            refine wpAnyE_last (by kernel_rfl) rfl (by kernel_rfl) (fun K hK => ?_)
            go_simp
            refine hK.out _ _ ?_
            clear hK K
            try simp only [Act.put, List.getElem_toArray, List.getElem_cons_zero, List.getElem_cons_succ, List.setIfInBounds_toArray, List.set_cons_zero, List.set_cons_succ]
            have HP := Lib.hid (nx_some (w := w) (A := some ⟨bb, q, none⟩) (c := c) (f := f) (l := l) (most := most) hlt HC.out (by rw [← HXX.out]; exact nxs HNN.out HY.out HYS.out HM.out HFF.out HVV.out HU.out (HRb.out.mono (by omega)) T4b.out))
            clear HNN HY HYS HM HFF HVV HU HUL HVL HXX HC U2b T1b hHeld HRb T4b
            go_wp2_with fail
            exact bodyPost_ret (ret_ag4 (v1 := .int .u32 y.st) (v2 := .string (tb (x.b.take N))) (v3 := .bool y.ov) (v4 := .bool true) rfl _ rfl T2b.out (rr_ok _ _ _ _ _) rfl rfl rfl rfl) rfl HP.out
      · have hc' : can l x = false := by simpa using hc
        rw [hc']
        have HF2 : Hid (k + 1 ≤ fc l L) := fc_more hlt HF.out (by rw [← HXX.out]; exact hc')
        clear hc hc' HF U23
        go_wp2_with fail
        go_roundw
        case rel => exact ⟨k + 1, by omega, by go_num, T13, T23, T43, HF2⟩
        case measure => simp [intOf]; omega
    · obtain rfl : k = L.length := by omega
      have HE : Hid (fc l L = L.length) := by
        show _ = _
        have h1 := HF.out
        have h2 := fc_le l L
        omega
      have HP := Lib.hid (nx_none (w := w) (A := A) (c := c) (f := f) (most := most) HE.out rfl (below_setRow T4.out (w.heap.size + 1) (rrc A L.length c f l) (by omega)))
      clear HF
      go_wp2_with (first | (refine wpList_ld rfl _ rfl rfl T1.out (rr_ok _ _ _ _ _) ?_) | (refine wpList_sw (cs := rrc A L.length c f l) rfl _ _ rfl rfl rfl T2.out (rr_sz _ _ _ _ _ _ _ _ _ _) (rr_ok _ _ _ _ _) ?_))
      exact bodyPost_ret (ret_ag4 (v1 := .int .u32 0) (v2 := .string (tb [])) (v3 := .bool false) (v4 := .bool false) rfl _ rfl (T2.out.setRow _) (rr_ok _ _ _ _ _) rfl rfl rfl rfl) rfl HP.out
end Go.Proofs.Ytplohgaecoobaaa
