/-
  UtfNil, UtfJoins: the laws' walks. No conditions.
-/
import Derived.Test.YtbjefomahopnmaaVfx
import Derived.BigFrame
namespace Go.Proofs.Ytbjefomahopnmaa
open Go.RowKit Go.WideShapes

set_option maxRecDepth 100000 in
theorem vnil_law (v : Value) (w : World) : Calls Try.prog 5 #[v] w fun e w' => e = .returned (.bool true) ∧ Below w.heap.size w w' := by
  have hw0 : whV (some ut0) = true := by decide
  go_enter Try.func5, Try.ntmps5
  go_wp2_with fail
  refine (fixed15_any _).mono ?_
  rintro e w1 ⟨rfl, hb⟩
  have HB1 := Lib.hid hb
  clear hb
  go_wp2_with fail
  refine (feed_nil _ _).mono ?_
  rintro e w2 ⟨rfl, rfl⟩
  go_wp2_with fail
  refine (vbad_nil _).mono ?_
  rintro e w2 ⟨rfl, rfl⟩
  go_wp2_with fail
  refine (vwhole_nil _).mono ?_
  rintro e w2 ⟨rfl, rfl⟩
  go_wp2_with fail
  refine (vnew_any _).mono ?_
  rintro e w3 ⟨g, rfl, hc, hb, hg⟩
  have HB2 := Lib.hid (HB1.out.trans (hb.mono HB1.out.size))
  have hw := vwhole_any hc
  rw [hw0] at hw
  have HW := Lib.hid hw
  clear hw hc hb hg hw0
  go_wp2_with fail
  refine HW.out.mono ?_
  rintro e w4 ⟨rfl, rfl⟩
  go_wp2_with fail
  go_ret
  exact ⟨rfl, HB2.out⟩
theorem u8_infoV : (Try.prog.info? 5).map (fun i => (i.zero, i.size, i.bytes)) = some (some (.int .u8 0), 1, 1) := by kernel_rfl
theorem info_partsV {P : Program} {t : TypeId} {z : Value} {n b : Nat} (h : (P.info? t).map (fun i => (i.zero, i.size, i.bytes)) = some (some z, n, b)) : ∃ i, P.info? t = some i ∧ i.zero = some z ∧ i.size = n ∧ i.bytes = b := by
  cases hi : P.info? t with
  | none => rw [hi] at h; cases h
  | some i =>
    rw [hi] at h
    simp only [Option.map_some, Option.some.injEq, Prod.mk.injEq] at h
    exact ⟨i, rfl, h.1, h.2.1, h.2.2⟩
/-- An append of bytes behind a guard that lets it. -/
theorem wpList_appBg {P : Program} {ops : Array Oper} {rest : List Oper} {o : Oper} {a : Act} {w : World} {Q : Exit → Act → World → Prop} (hw : Region.wanted o (yielded ops a.tmps) = true) (s x : Operand) (t : TypeId)
    (ho : o.op = .call { callee := .builtin .append, args := #[s, x], argTypes := #[t, t] })
    (base : Nat) (e : TypeId) (i : TypeInfo) (ht : P.underlying t = some (.slice e)) (hi : P.info? e = some i) (hz : i.zero = some (.int .u8 0)) (hsize : i.size = 1) (hby : i.bytes = 1)
    (v : Value) (l : List UInt8) (hs : a.eval s = v) (hown : OwB w base e v l) (B : Nat) (A : Option Addr) (m : List UInt8) (n c : Nat) (hx : a.eval x = .slice A n c) (hn : n = m.length) (hr : RdB w B A m)
    (h63 : l.length + m.length ≤ 1099511627776) (hbase : base ≤ w.heap.size)
    (h : ∀ A' c' L w', Hid (L = l ++ m) → OwB w' base e (.slice A' L.length c') L → Below base w w' → wpList P ops Q rest (a.put o.dst (.slice A' L.length c')) w') : wpList P ops Q (o :: rest) a w := by
  subst hn
  refine BigFrame.wpList_want hw fun K hK => ?_
  obtain ⟨A', c', w', hrun, h2, h3⟩ := run_appB (P := P) w base t o.type e i ht hi hz hsize hby hown (c := c) hr h63 hbase
  unfold Oper.wp execOp
  simp only [ho, resolve, invoke, builtin, Sem.run_bind, Sem.run_pure, Result.andThen_ok, List.map_toArray, List.map_cons, List.map_nil, hs, hx, hrun]
  exact hK _ _ (h A' c' _ w' rfl h2 h3)
theorem nats_app (a b : List UInt8) : nats (a ++ b) = nats a ++ nats b := by simp [nats]
set_option maxRecDepth 100000 in
set_option maxHeartbeats 2000000 in
theorem joins_law (A1 A2 : Option Addr) (c1 c2 : Nat) (a b : List UInt8) (w : World) (h1 : RdB w w.heap.size A1 a) (h2 : RdB w w.heap.size A2 b) : Calls Try.prog 6 #[.slice A1 a.length c1, .slice A2 b.length c2] w fun e w' => e = .returned (.bool true) ∧ Below w.heap.size w w' := by
  by_cases hla : a.length ≤ 3000
  case neg =>
    have d1 : decide ((3000 : Int) < (a.length : Int)) = true := by simp; omega
    clear hla h1 h2
    go_enter Try.func6, Try.ntmps6
    go_wp2_with fail
    refine (fixed15_any _).mono ?_
    rintro e w1 ⟨rfl, hb⟩
    have HB1 := Lib.hid hb
    clear hb
    go_wp2_with fail
    go_ret
    exact ⟨rfl, HB1.out⟩
  have d1 : decide ((3000 : Int) < (a.length : Int)) = false := by simp; omega
  by_cases hlb : b.length ≤ 3000
  case neg =>
    have d2 : decide ((3000 : Int) < (b.length : Int)) = true := by simp; omega
    clear hla hlb h1 h2
    go_enter Try.func6, Try.ntmps6
    go_wp2_with fail
    refine (fixed15_any _).mono ?_
    rintro e w1 ⟨rfl, hb⟩
    have HB1 := Lib.hid hb
    clear hb
    go_wp2_with fail
    go_ret
    exact ⟨rfl, HB1.out⟩
  have d2 : decide ((3000 : Int) < (b.length : Int)) = false := by simp; omega
  have HVA := Lib.hid (valid_any (c := c1) h1 (by omega))
  have H1 := Lib.hid h1
  have H2 := Lib.hid h2
  have hT : Hid (txtB (nats a) = true → txtB (nats (a ++ b)) = txtB (nats b)) := fun h => by rw [nats_app, txt_app h]
  clear h1 h2
  cases hta : txtB (nats a) with
  | false =>
    rw [hta] at HVA
    clear hta hT
    go_enter Try.func6, Try.ntmps6
    go_wp2_with fail
    refine HVA.out.mono ?_
    rintro e w1 ⟨rfl, hb⟩
    have HB1 := Lib.hid hb
    clear hb HVA H1 H2
    go_wp2_with fail
    refine (fixed15_any _).mono ?_
    rintro e w2 ⟨rfl, hb⟩
    have HB2 := Lib.hid (HB1.out.trans (hb.mono HB1.out.size))
    clear hb HB1
    go_wp2_with fail
    go_ret
    exact ⟨rfl, HB2.out⟩
  | true =>
    rw [hta] at HVA
    have HT2 : Hid (txtB (nats (a ++ b)) = txtB (nats b)) := hT.out hta
    clear hta hT
    obtain ⟨i0, hi0, hz0, hz1, hz2⟩ := info_partsV u8_infoV
    go_enter Try.func6, Try.ntmps6
    go_wp2_with fail
    refine HVA.out.mono ?_
    rintro e w1 ⟨rfl, hb⟩
    have HB1 := Lib.hid hb
    clear hb HVA
    go_wp2_with fail
    refine (fixed15_any _).mono ?_
    rintro e w2 ⟨rfl, hb⟩
    have HB2 := Lib.hid (HB1.out.trans (hb.mono HB1.out.size))
    clear hb HB1
    have hO := OwB.fresh (base := w2.heap.size) w2 5 #[] 0 rfl (by simp [maxLen]) (Nat.le_refl _)
    have hbx : Below w2.heap.size w2 (w2.alloc (.cells #[] 5)) := (Below.refl _ _).alloc (Nat.le_refl _) _
    have HBX := Lib.hid hbx
    have HO := Lib.hid hO
    have HR1 := Lib.hid ((H1.out.below HB2.out).below (hbx.mono HB2.out.size))
    have HR2 := Lib.hid ((H2.out.below HB2.out).below (hbx.mono HB2.out.size))
    clear hbx hO H1
    go_wp2_with (at_builtin; go_loud (refine wpList_appBg (by rfl) _ _ _ rfl w2.heap.size 5 i0 Try.underlying22 hi0 hz0 hz1 hz2 _ [] rfl HO.out w.heap.size A1 a _ _ rfl rfl HR1.out (by simp; omega) (by simp) ?_))
    intro A3 c3 L3 w3 hL3 ho3 hb3
    have HR3 := Lib.hid (HR2.out.below ((HBX.out.trans hb3).mono HB2.out.size |> fun h => (⟨hb3.os, hb3.tape, hb3.output, hb3.size, fun k hk => hb3.block k (Nat.lt_of_lt_of_le hk HB2.out.size)⟩ : Below w.heap.size _ _)))
    have HB3 := Lib.hid (HBX.out.trans hb3)
    have HO3 := Lib.hid ho3
    have HL3 : Hid (L3.length ≤ 3000) := by have h := congrArg List.length hL3.out; show _ ≤ _; rw [h]; simpa using hla
    clear hb3 ho3 HO HR1 HR2 HBX
    go_wp2_with (at_builtin; go_loud (refine wpList_appBg (by rfl) _ _ _ rfl w2.heap.size 5 i0 Try.underlying22 hi0 hz0 hz1 hz2 _ L3 rfl HO3.out w.heap.size A2 b _ _ rfl rfl HR3.out (by have := HL3.out; omega) HB3.out.size ?_))
    intro A4 c4 L4 w4 hL4 ho4 hb4
    obtain ⟨A5, c5, e1, _, _, hr4⟩ := ho4.shape
    injection e1 with e1 e2 e3
    subst e1 e3
    have hLE : L4 = a ++ b := by rw [hL4.out, hL3.out]
    have hv := valid_any (c := c4) hr4 (by rw [hLE]; simp; omega)
    rw [hLE, HT2.out, ← hLE] at hv
    have HV := Lib.hid hv
    have HB4 := Lib.hid (HB2.out.trans ((HB3.out.trans hb4).mono HB2.out.size))
    have HR5 := Lib.hid (H2.out.below HB4.out)
    clear e2 hr4 hLE hv hL4 hL3 ho4 hb4 HR3 HB2 HB3 HO3 HL3 H2 HT2
    go_wp2_with fail
    refine HV.out.mono ?_
    rintro e w5 ⟨rfl, hb⟩
    have HB5 := Lib.hid (HB4.out.trans (hb.mono HB4.out.size))
    have hv2 := valid_any (c := c2) ((HR5.out.below (hb.mono HB4.out.size)).more HB5.out.size) (by omega)
    have HV2 := Lib.hid hv2
    clear hb HV HB4 HR5 hv2
    generalize txtB (nats b) = tt at *
    go_wp2_with fail
    refine HV2.out.mono ?_
    rintro e w6 ⟨rfl, hb⟩
    have HB6 := Lib.hid (HB5.out.trans (hb.mono HB5.out.size))
    have hbb : (tt == tt) = true := beq_self_eq_true _
    clear hb HV2 HB5
    go_wp2_with fail
    go_ret
    exact ⟨rfl, HB6.out⟩
end Go.Proofs.Ytbjefomahopnmaa
