/-
  WsframeHead: the law's walk. Conditions: errors.errorType holds what the program's text lays.
-/
import Derived.Test.YtffgjnohlcodaaaDoorIrg
import Derived.Test.YtffgjnohlcodaaaDoorIeq
import Derived.Test.YtffgjnohlcodaaaDoorIfx
import Derived.Lib.MinMax
import Derived.Orders
namespace Go.Proofs.YtffgjnohlcodaaaDoor
open Go.RowKit Go.WideShapes

/-- An append at a step of a region that draws its order. -/
theorem step_appI {P : Program} {ops : Array Oper} {o : Oper} {a : Act} {w : World} {K : Act → World → Prop} {Q : Exit → Act → World → Prop} {E : Prop} (hgd : o.guard = none) (s x : Operand) (t : TypeId)
    (ho : o.op = .call { callee := .builtin .append, args := #[s, x], argTypes := #[t, t] })
    (base : Nat) (e : TypeId) (i : TypeInfo) (ht : P.underlying t = some (.slice e)) (hi : P.info? e = some i) (hz : i.zero = some (.int .u8 0)) (hsize : i.size = 1) (hby : i.bytes = 1)
    (v : Value) (l : List UInt8) (hs : a.eval s = v) (hown : OwB w base e v l) (B : Nat) (A : Option Addr) (m : List UInt8) (n c : Nat) (hx : a.eval x = .slice A n c) (hn : n = m.length) (hr : RdB w B A m)
    (h63 : l.length + m.length ≤ 1099511627776) (hbase : base ≤ w.heap.size)
    (h : ∀ A' c' L w', Hid (L = l ++ m) → OwB w' base e (.slice A' L.length c') L → Below base w w' → K (a.put o.dst (.slice A' L.length c')) w') :
    if Region.wanted o (yielded ops a.tmps) = true then Oper.wp P o a w K Q else E := by
  subst hn
  have hw : Region.wanted o (yielded ops a.tmps) = true := by simp [Region.wanted, hgd]
  rw [if_pos hw]
  obtain ⟨A', c', w', hrun, h2, h3⟩ := run_appB (P := P) w base t o.type e i ht hi hz hsize hby hown (c := c) hr h63 hbase
  unfold Oper.wp execOp
  simp only [ho, resolve, invoke, builtin, Sem.run_bind, Sem.run_pure, Result.andThen_ok, List.map_toArray, List.map_cons, List.map_nil, hs, hx, hrun]
  exact h A' c' _ w' rfl h2 h3
/-- A beginning of what the call owns. -/
theorem OwB.uptoI {w : World} {base : Nat} {e : TypeId} {g c : Nat} {l : List UInt8} (h : OwB w base e (.slice (some ⟨g, 0, none⟩) l.length c) l) {k : Nat} (hk : k ≤ l.length) : OwB w base e (.slice (some ⟨g, 0, none⟩) k c) (l.take k) := by
  have hl : (l.take k).length = k := by rw [List.length_take]; omega
  unfold OwB World.ownsRow at h ⊢
  refine ⟨by rw [byc_length, hl, Nat.mul_one], ?_⟩
  rcases h.2 with ⟨e1, _⟩ | ⟨g', cap, cur, e1, e2, e3, e4, e5, e6, e7⟩
  · cases e1
  · refine .inr ⟨g', cap, cur, ?_, e2, e3, by rw [hl]; omega, e5, e6, ?_⟩
    · rw [hl]; injection e1 with h1 h2 h3; rw [h1, h3]
    · rw [hl]
      have h1 := congrArg (List.take k) e7
      rw [List.take_take] at h1
      rw [Nat.mul_one] at h1 ⊢
      rw [Nat.min_eq_left (by omega)] at h1
      rw [h1]
      simp [byc]
set_option maxRecDepth 100000 in
set_option maxHeartbeats 4000000 in
theorem whead_law {first second n cut : Nat} (hf : first < 256) (hs : second < 256) (_hn : n < 18446744073709551616) (hc : cut < 256) {m : Bool} {w : World} (hG : GlobE w) :
    Calls Tryd.prog 5 #[.int .u8 first, .int .u8 second, .int .u64 n, .int .u8 cut, .bool m] w fun e w' => e = .returned (.bool true) ∧ Below w.heap.size w w' := by
  have HG := Lib.hid hG
  obtain ⟨i0, hi0, hz0, hz1, hz2⟩ := infoI infoI8
  have hO0 := lit2I first second hf hs w
  have hB0 : Below w.heap.size w (w.alloc (.cells #[.int .u8 (first : Int), .int .u8 (second : Int)] 5)) := (Below.refl _ _).alloc (Nat.le_refl _) _
  have HO0 := Lib.hid hO0
  have HB0 := Lib.hid hB0
  clear hG hO0 hB0
  go_enter Tryd.func5, Tryd.ntmps5
  go_wp2_with fail
  generalize w.alloc (.cells #[.int .u8 (first : Int), .int .u8 (second : Int)] 5) = w1 at *
  obtain ⟨p, hp⟩ : ∃ p, p = w.heap.size := ⟨_, rfl⟩
  have HP : Hid (p = w.heap.size) := hp
  simp only [← hp] at HO0 HB0 ⊢
  clear hp
  go_loopw [11, 12] (fun sv iv wr => ∃ (k : Nat) (L : List UInt8) (g c : Nat), k ≤ 8 ∧ sv = .slice (some ⟨g, 0, none⟩) L.length c ∧ iv = .int .i64 (56 - 8 * (k : Int)) ∧ L.length = k + 2 ∧ Hid (OwB wr p 5 (.slice (some ⟨g, 0, none⟩) L.length c) L) ∧ Hid (Below p w wr)) (fun _ iv _ => (intOf iv + 8).toNat)
  case atStart => exact ⟨0, _, _, _, by omega, rfl, rfl, rfl, HO0, HB0⟩
  case round =>
    obtain ⟨k, L, g, c, hk8, rfl, rfl, hLl, hO, hBw⟩ := hrel
    by_cases hlt : k < 8
    · obtain ⟨sh, hsh⟩ : ∃ sh : Nat, (56 : Int) - 8 * (k : Int) = (sh : Int) := ⟨56 - 8 * k, by omega⟩
      rw [hsh]
      have hw8 : IntKind.i64.wrap ((sh : Int) - 8) = 56 - 8 * ((k + 1 : Nat) : Int) := by rw [IntWalk.i64_in _ (by omega)]; omega
      have hsp : (0 : Int) ≤ (sh : Int) := by omega
      have hv0 : 0 ≤ ((n : Int) / 2 ^ min sh 64 % 256) := Int.emod_nonneg _ (by omega)
      have hv1 : ((n : Int) / 2 ^ min sh 64 % 256) < 256 := Int.emod_lt_of_pos _ (by omega)
      have hsz : p ≤ wr.heap.size := by rw [HP.out]; exact hBw.out.size
      have hL9 : L.length ≤ 100 := by omega
      have HLl := Lib.hid hLl
      have HSH := Lib.hid hsh
      clear hLl hsh
      go_wp2_with (at_builtin; go_loud (refine wpList_appB1 rfl (.tmp 24) (.tmp 29) 23 rfl p 5 i0 Tryd.underlying23 hi0 hz0 hz1 hz2 _ L rfl (World.ownsRow.alloc hO.out _) wr.heap.size _ _ rfl (cell_newI _ _ _ _) hv0 hv1 (by omega) (by simp; omega) ?_; intro A3 c3 L3 w3 hL3 ho3 hb3))
      have hl3 : L3.length = k + 1 + 2 := by rw [hL3.out, List.length_append, HLl.out]; simp
      obtain ⟨g3, c3', e3, _, _⟩ := ho3.form (by intro e; rw [e] at hl3; simp at hl3)
      injection e3 with e1 _ e2
      subst e1 e2
      go_roundw
      case rel => exact ⟨k + 1, L3, g3, c3, by omega, rfl, by go_num, hl3, ho3, hBw.out.trans (((Below.refl _ _).alloc hsz _).trans hb3)⟩
      case measure =>
        have := HSH.out
        simp [intOf]
        omega
    · obtain rfl : k = 8 := by omega
      have hm : Hid (p ≤ wr.heap.size) := by show _ ≤ _; rw [HP.out]; exact hBw.out.size
      go_upto_if 33 with fail
      go_cut [11] (fun sv wx => ∃ (L' : List UInt8) (g' c' : Nat), sv = .slice (some ⟨g', 0, none⟩) L'.length c' ∧ L'.length ≤ 10 ∧ 4 ≤ L'.length ∧ Hid (OwB wx p 5 (.slice (some ⟨g', 0, none⟩) L'.length c') L') ∧ Hid (Below p w wx))
      case first =>
        by_cases h126 : second % 128 = 126
        · have q1 : ((second : Int) % 128 == 126) = true := by simp; omega
          have hlc : L.length ≤ c := by
            obtain ⟨A', c', e1, h2, _⟩ := hO.out.shape
            injection e1 with _ _ e3
            rw [e3]; exact h2
          have hrl := RdB.ownI (l := L) (A := some ⟨g, 0, none⟩) (c := c) hO.out
          obtain ⟨hc2, _⟩ := cut_upto (P := Tryd.prog) (c := c) (k := 2) Tryd.underlying23 hi0 hz1 hrl hlc (by omega)
          obtain ⟨A8, hc8, hr8⟩ := cut_from (P := Tryd.prog) (c := c) (k := 8) Tryd.underlying23 hi0 hz1 hrl hlc (by omega)
          have HU := Lib.hid (hO.out.uptoI (k := 2) (by omega))
          have HR8 := Lib.hid hr8
          have hl8 : L.length - 8 = (L.drop 8).length := by rw [List.length_drop]
          have hk2 : ∀ W, (Instr.slice 23 (.slice (some ⟨g, 0, none⟩) L.length c) none (some (.int .i64 2)) none).run Tryd.prog W = .ok (.slice (some ⟨g, 0, none⟩) 2 c) W := hc2
          have hk8' : ∀ W, (Instr.slice 23 (.slice (some ⟨g, 0, none⟩) L.length c) (some (.int .i64 8)) none none).run Tryd.prog W = .ok (.slice A8 (L.length - 8) (c - 8)) W := hc8
          have HL10 : Hid (L.length = 10) := hLl
          generalize c - 8 = c8 at *
          generalize L.length - 8 = n8 at *
          have HL8 := Lib.hid hl8
          clear hc2 hc8 hr8 hrl hlc h126 hLl hl8
          go_wp2_with fail
          have hUd : OwB wr.drew p 5 (.slice (some ⟨g, 0, none⟩) 2 c) (L.take 2) := HU.out
          have hRd : RdB wr.drew wr.heap.size A8 (L.drop 8) := HR8.out
          refine wp_region_held_drew (S := fun _ => True) (by kernel_rfl) trivial (fun hHeld => ?_)
          refine wpAnyH_take (i := 0) (v := ?v0) rfl (by kernel_rfl) (by kernel_rfl) (by kernel_rfl) (fun _ _ _ h => h) (Or.inl ⟨by rfl, ?hy0⟩) (by assumption) ?rest0
          case hy0 => (intro w hSw; (try dsimp only at hSw); go_simp <;> with_reducible rfl)
          try simp only [Act.put, List.getElem_toArray, List.getElem_cons_zero, List.setIfInBounds_toArray, List.set_cons_zero, List.set_cons_succ]
          refine wpAnyH_take (i := 1) (v := ?v1) rfl (by kernel_rfl) (by kernel_rfl) (by kernel_rfl) (fun _ _ _ h => h) (Or.inl ⟨by rfl, ?hy1⟩) (by assumption) ?rest1
          case hy1 => (intro w hSw; (try dsimp only at hSw); go_simp <;> with_reducible rfl)
          try simp only [Act.put, List.getElem_toArray, List.getElem_cons_zero, List.getElem_cons_succ, List.setIfInBounds_toArray, List.set_cons_zero, List.set_cons_succ]
          refine wpAnyH_take (i := 2) (v := ?v2) rfl (by kernel_rfl) (by kernel_rfl) (by kernel_rfl) (fun _ _ _ h => h) (Or.inl ⟨by rfl, ?hy2⟩) (by assumption) ?rest2
          case hy2 => (intro w hSw; (try dsimp only at hSw); go_simp <;> with_reducible rfl)
          try simp only [Act.put, List.getElem_toArray, List.getElem_cons_zero, List.getElem_cons_succ, List.setIfInBounds_toArray, List.set_cons_zero, List.set_cons_succ]
          refine wpAnyH_take (i := 3) (v := ?v3) rfl (by kernel_rfl) (by kernel_rfl) (by kernel_rfl) (fun _ _ _ h => h) (Or.inl ⟨by rfl, ?hy3⟩) (by assumption) ?rest3
          case hy3 => (intro w hSw; (try dsimp only at hSw); go_simp <;> with_reducible rfl)
          try simp only [Act.put, List.getElem_toArray, List.getElem_cons_zero, List.getElem_cons_succ, List.setIfInBounds_toArray, List.set_cons_zero, List.set_cons_succ]
          refine wpAnyH_ready (rs := [4]) (by kernel_rfl) (by simp) ?_
          refine AllReadyH.cons rfl (fun K hK => ?_) AllReadyH.nil
          refine step_appI rfl (.tmp 35) (.tmp 37) 23 rfl p 5 i0 Tryd.underlying23 hi0 hz0 hz1 hz2 _ (L.take 2) rfl hUd wr.heap.size A8 (L.drop 8) n8 c8 rfl HL8.out hRd ?_ hm.out ?_
          · rw [List.length_take, List.length_drop, HL10.out]; omega
          intro A3 c3 L3 w3 hL3 ho3 hb3
          refine hK.out _ _ trivial (fun hHeld => ?_)
          clear hK K
          try simp only [Act.put, List.getElem_toArray, List.getElem_cons_zero, List.getElem_cons_succ, List.setIfInBounds_toArray, List.set_cons_zero, List.set_cons_succ]
          refine wpAnyH_take (i := 5) (v := ?v5q2) rfl (by kernel_rfl) (by kernel_rfl) (by kernel_rfl) (fun _ _ _ h => h) (Or.inl ⟨by rfl, ?hy5q2⟩) (by assumption) ?rest5q2
          case hy5q2 => (intro w hSw; (try dsimp only at hSw); go_simp <;> with_reducible rfl)
          try simp only [Act.put, List.getElem_toArray, List.getElem_cons_zero, List.getElem_cons_succ, List.setIfInBounds_toArray, List.set_cons_zero, List.set_cons_succ]
          refine wpAnyH_done (by kernel_rfl) ?_ _
          have hl3 : L3.length = 4 := by rw [hL3.out, List.length_append, List.length_take, List.length_drop, HL10.out]; rfl
          obtain ⟨g3, c3', e3, _, _⟩ := ho3.form (by intro e; rw [e] at hl3; simp at hl3)
          injection e3 with e1 _ e2
          subst e1 e2
          have HL3 := Lib.hid hl3
          clear hl3
          go_wp2_with fail
          go_meet
          exact ⟨L3, g3, c3, rfl, by have := HL3.out; omega, by have := HL3.out; omega, ho3, hBw.out.drew.trans hb3⟩
        · have q1 : ((second : Int) % 128 == 126) = false := by simp; omega
          have HLL := Lib.hid hLl
          clear h126 hLl
          go_wp2_with fail
          go_meet
          exact ⟨L, g, c, rfl, by have := HLL.out; omega, by have := HLL.out; omega, hO, hBw⟩
      case rest =>
        clear hO hBw hm hLl hk8 hlt
        obtain ⟨L', g', c', rfl, hl10, hl4, hO, hBw⟩ := hcut
        have hlc : L'.length ≤ c' := by
          obtain ⟨A', c2, e1, h2, _⟩ := hO.out.shape
          injection e1 with _ _ e3
          rw [e3]; exact h2
        have hrl := RdB.ownI (l := L') (A := some ⟨g', 0, none⟩) (c := c') hO.out
        obtain ⟨z, hz⟩ : ∃ z, z = min L'.length cut := ⟨_, rfl⟩
        have hzl : z ≤ L'.length := by rw [hz]; exact Nat.min_le_left _ _
        have hmn : min (L'.length : Int) (cut : Int) = (z : Int) := by rw [hz]; omega
        obtain ⟨hcz, hrz⟩ := cut_upto (P := Tryd.prog) (c := c') (k := z) Tryd.underlying23 hi0 hz1 hrl hlc hzl
        obtain ⟨D, hD⟩ : ∃ D, D = L'.take z := ⟨_, rfl⟩
        have hDz : D.length = z := by rw [hD, List.length_take]; omega
        rw [← hD] at hrz
        have hzc : D.length ≤ c' := by omega
        have hl9 : D.length ≤ 9000 := by omega
        have HBt : Hid (Below w.heap.size w wc) := by show Below _ _ _; rw [← HP.out]; exact hBw.out
        have hhd := ihead_any (c := c') (m := m) hrz (Nat.le_refl _) (by omega) hzc (HG.out.below HBt.out)
        have HRc := Lib.hid hrz
        rw [hDz] at hhd
        clear hD hz hrl hrz hlc hO hBw HB0 HO0
        go_upto_region 9 with fail
        clear hcz hmn
        go_wp2_with fail
        refine hhd.mono ?_
        rintro e w8 ⟨rfl, hb8⟩
        have hsm := hdI_small m D
        have hrh := rheadI_any D (by omega) m
        generalize hdI m D = h at *
        obtain ⟨w9, e9, r9, hb9, hz9, s9⟩ := varI w8 31 (ftI 0 0) (ftI (scI h.code) h.code)
        have hb89 := hb8.trans (hb9.mono hb8.size)
        have HR9 := Lib.hid ((HRc.out.below hb89).more hb89.size)
        have HB9 := Lib.hid (HBt.out.trans (hb89.mono HBt.out.size))
        have HF9 := Lib.hid r9
        go_upto_region 10 with (refine wpList_sw (cs := ftI (scI h.code) h.code) rfl _ _ rfl rfl rfl s9 (ftI_sz _ _ _ _) (ftI_ok _ _) ?_)
        rw [ftI0_eq, e9]
        have htx := run_text (P := Tryd.prog) (c := c') Tryd.underlying23 Tryd.underlying5 Tryd.underlying9 HR9.out
        rw [show ByteArray.mk D.toArray = txb D from rfl, hDz] at htx
        clear e9 r9 hb8 hb9 hb89 hz9 s9 hhd HRc HBt
        generalize w8.heap.size = p10 at *
        go_wp2_with fail
        refine (hrh _).mono ?_
        rintro e w10 ⟨rfl, hb10⟩
        obtain ⟨w11, e11, r11, hb11, hz11, s11⟩ := varI w10 42 (hdC hd0) (hdC h)
        have hb01 := hb10.trans (hb11.mono hb10.size)
        have HF11 := Lib.hid (HF9.out.below hb01 HF9.out.lt)
        have HB11 := Lib.hid (HB9.out.trans (hb01.mono HB9.out.size))
        have HH11 := Lib.hid r11
        clear htx
        go_upto_region 11 with (refine wpList_sw (cs := hdC h) rfl _ _ rfl rfl rfl s11 (hd_sz _ _) (hd_ok _) ?_)
        rw [hd0_eq, e11]
        clear e11 r11 hb10 hb11 hb01 hz11 s11 hrh HR9 HB9 HF9
        generalize w10.heap.size = p12 at *
        have hS : Hid (∀ W, Below w11.heap.size w11 W → Row W p10 31 (ftI (scI h.code) h.code) ∧ W.cell? ⟨p12, 0, none⟩ = some (.int .i64 h.front) ∧ W.cell? ⟨p12, 1, none⟩ = some (.int .i64 h.size) ∧ W.cell? ⟨p12, 2, none⟩ = some (.int .i64 h.code) ∧ W.cell? ⟨p12, 3, none⟩ = some (.bool h.short)) := fun W hW => by
          obtain ⟨d0, d1, d2, d3⟩ := hd_cells (HH11.out.below hW HH11.out.lt)
          exact ⟨HF11.out.below hW HF11.out.lt, d0, d1, d2, d3⟩
        have hsum : IntKind.i64.wrap ((h.front : Int) + (h.size : Int)) = (h.front : Int) + (h.size : Int) := IntWalk.i64_in _ (by omega)
        have hto := toldI_any h.code (by omega)
        generalize h.front = f at *
        generalize h.size = v at *
        generalize h.short = sh at *
        generalize h.code = code2 at *
        have hqf := fun W => ft_eqlI (scI code2) code2 W
        have hqs : ((!sh) == (!sh)) = true := by simp
        have hqn : ((f : Int) + (v : Int) == (f : Int) + (v : Int)) = true := by simp
        have k11 := hS.out w11.drew (Below.refl _ _).drew
        have HBd : Hid (Below w11.heap.size w11 w11.drew) := (Below.refl _ _).drew
        clear HF11 HH11
        refine wp_region_held_drew (S := fun w' => Row w' p10 31 (ftI (scI code2) code2) ∧ w'.cell? ⟨p12, 0, none⟩ = some (.int .i64 f) ∧ w'.cell? ⟨p12, 1, none⟩ = some (.int .i64 v) ∧ w'.cell? ⟨p12, 2, none⟩ = some (.int .i64 code2) ∧ w'.cell? ⟨p12, 3, none⟩ = some (.bool sh)) (by kernel_rfl) k11 (fun hHeld => ?_)
        refine wpAnyH_ready (rs := [0]) (by kernel_rfl) (by simp) ?_
        refine AllReadyH.cons rfl (fun K hK => ?_) AllReadyH.nil
        go_simp
        go_at_call 8
        refine (fixed16_any _).mono ?_
        rintro e w12 ⟨rfl, hb12⟩
        have HB12 := Lib.hid (HBd.out.trans (hb12.mono HBd.out.size))
        clear hb12 k11 HBd
        have k12 := hS.out w12 HB12.out
        refine hK.out _ _ (k12) (fun hHeld => ?_)
        clear hK K
        try simp only [Act.put, List.getElem_toArray, List.getElem_cons_zero, List.getElem_cons_succ, List.setIfInBounds_toArray, List.set_cons_zero, List.set_cons_succ]
        refine wpAnyH_take (i := 1) (v := ?v1q3) rfl (by kernel_rfl) (by kernel_rfl) (by kernel_rfl) (fun _ _ _ h => h) (Or.inl ⟨by rfl, ?hy1q3⟩) (by assumption) ?rest1q3
        case hy1q3 => (intro w hSw; (try dsimp only at hSw); go_simp <;> with_reducible rfl)
        try simp only [Act.put, List.getElem_toArray, List.getElem_cons_zero, List.getElem_cons_succ, List.setIfInBounds_toArray, List.set_cons_zero, List.set_cons_succ]
        refine wpAnyH_take (i := 2) (v := ?v2q3) rfl (by kernel_rfl) (by kernel_rfl) (by kernel_rfl) (fun _ _ _ h => h) (Or.inl ⟨by rfl, ?hy2q3⟩) (by assumption) ?rest2q3
        case hy2q3 => (intro w hSw; (try dsimp only at hSw); go_simp <;> with_reducible rfl)
        try simp only [Act.put, List.getElem_toArray, List.getElem_cons_zero, List.getElem_cons_succ, List.setIfInBounds_toArray, List.set_cons_zero, List.set_cons_succ]
        refine wpAnyH_take (i := 3) (v := ?v3q3) rfl (by kernel_rfl) (by kernel_rfl) (by kernel_rfl) (fun _ _ _ h => h) (Or.inl ⟨by rfl, ?hy3q3⟩) (by assumption) ?rest3q3
        case hy3q3 => (intro w hSw; (try dsimp only at hSw); go_simp <;> with_reducible rfl)
        try simp only [Act.put, List.getElem_toArray, List.getElem_cons_zero, List.getElem_cons_succ, List.setIfInBounds_toArray, List.set_cons_zero, List.set_cons_succ]
        refine wpAnyH_take (i := 4) (v := ?v4q3) rfl (by kernel_rfl) (by kernel_rfl) (by kernel_rfl) (fun _ _ _ h => h) (Or.inl ⟨by rfl, ?hy4q3⟩) (by assumption) ?rest4q3
        case hy4q3 => (intro w hSw; (try dsimp only at hSw); go_simp <;> with_reducible rfl)
        try simp only [Act.put, List.getElem_toArray, List.getElem_cons_zero, List.getElem_cons_succ, List.setIfInBounds_toArray, List.set_cons_zero, List.set_cons_succ]
        refine wpAnyH_take (i := 5) (v := ?v5q3) rfl (by kernel_rfl) (by kernel_rfl) (by kernel_rfl) (fun _ _ _ h => h) (Or.inl ⟨by rfl, ?hy5q3⟩) (by assumption) ?rest5q3
        case hy5q3 => (intro w hSw; (try dsimp only at hSw); go_simp <;> with_reducible rfl)
        try simp only [Act.put, List.getElem_toArray, List.getElem_cons_zero, List.getElem_cons_succ, List.setIfInBounds_toArray, List.set_cons_zero, List.set_cons_succ]
        refine wpAnyH_take (i := 6) (v := ?v6q3) rfl (by kernel_rfl) (by kernel_rfl) (by kernel_rfl) (fun _ _ _ h => h) (Or.inl ⟨by rfl, ?hy6q3⟩) (by assumption) ?rest6q3
        case hy6q3 => (intro w hSw; (try dsimp only at hSw); go_simp <;> with_reducible rfl)
        try simp only [Act.put, List.getElem_toArray, List.getElem_cons_zero, List.getElem_cons_succ, List.setIfInBounds_toArray, List.set_cons_zero, List.set_cons_succ]
        refine wpAnyH_take (i := 7) (v := ?v7q3) rfl (by kernel_rfl) (by kernel_rfl) (by kernel_rfl) (fun _ _ _ h => h) (Or.inl ⟨by rfl, ?hy7q3⟩) (by assumption) ?rest7q3
        case hy7q3 => (intro w hSw; (try dsimp only at hSw); go_simp <;> with_reducible rfl)
        try simp only [Act.put, List.getElem_toArray, List.getElem_cons_zero, List.getElem_cons_succ, List.setIfInBounds_toArray, List.set_cons_zero, List.set_cons_succ]
        refine wpAnyH_take (i := 8) (v := ?v8q3) rfl (by kernel_rfl) (by kernel_rfl) (by kernel_rfl) (fun _ _ _ h => h) (Or.inl ⟨by rfl, ?hy8q3⟩) (by assumption) ?rest8q3
        case hy8q3 => (intro w hSw; (try dsimp only at hSw); go_simp <;> with_reducible rfl)
        try simp only [Act.put, List.getElem_toArray, List.getElem_cons_zero, List.getElem_cons_succ, List.setIfInBounds_toArray, List.set_cons_zero, List.set_cons_succ]
        refine wpAnyH_take (i := 9) (v := _) rfl (by kernel_rfl) (by kernel_rfl) (by kernel_rfl) (fun _ _ _ h => h) (yields_ld (by rfl) _ rfl rfl (ftI_ok _ _) (fun _ hSw => hSw.1)) (by assumption) ?rest9w1
        try simp only [Act.put, List.getElem_toArray, List.getElem_cons_zero, List.getElem_cons_succ, List.setIfInBounds_toArray, List.set_cons_zero, List.set_cons_succ]
        refine wpAnyH_take (i := 10) (v := ?v10q4) rfl (by kernel_rfl) (by kernel_rfl) (by kernel_rfl) (fun _ _ _ h => h) (Or.inl ⟨by rfl, ?hy10q4⟩) (by assumption) ?rest10q4
        case hy10q4 => (intro w hSw; (try dsimp only at hSw); go_simp <;> with_reducible rfl)
        try simp only [Act.put, List.getElem_toArray, List.getElem_cons_zero, List.getElem_cons_succ, List.setIfInBounds_toArray, List.set_cons_zero, List.set_cons_succ]
        refine wpAnyH_take (i := 11) (v := ?v11q4) rfl (by kernel_rfl) (by kernel_rfl) (by kernel_rfl) (fun _ _ _ h => h) (Or.inl ⟨by rfl, ?hy11q4⟩) (by assumption) ?rest11q4
        case hy11q4 => (intro w hSw; (try dsimp only at hSw); go_simp <;> with_reducible rfl)
        try simp only [Act.put, List.getElem_toArray, List.getElem_cons_zero, List.getElem_cons_succ, List.setIfInBounds_toArray, List.set_cons_zero, List.set_cons_succ]
        refine wpAnyH_ready (rs := [12]) (by kernel_rfl) (by simp) ?_
        refine AllReadyH.cons rfl (fun K hK => ?_) AllReadyH.nil
        go_simp
        go_at_call 14
        refine (hto _).mono ?_
        rintro e w13 ⟨rfl, hb13⟩
        have HB13 := Lib.hid (HB12.out.trans (hb13.mono HB12.out.size))
        clear hb13 k12 HB12
        have k13 := hS.out w13 HB13.out
        refine hK.out _ _ (k13) (fun hHeld => ?_)
        clear hK K
        try simp only [Act.put, List.getElem_toArray, List.getElem_cons_zero, List.getElem_cons_succ, List.setIfInBounds_toArray, List.set_cons_zero, List.set_cons_succ]
        refine wpAnyH_take (i := 13) (v := ?v13q5) rfl (by kernel_rfl) (by kernel_rfl) (by kernel_rfl) (fun _ _ _ h => h) (Or.inl ⟨by rfl, ?hy13q5⟩) (by assumption) ?rest13q5
        case hy13q5 => (intro w hSw; (try dsimp only at hSw); go_simp <;> with_reducible rfl)
        try simp only [Act.put, List.getElem_toArray, List.getElem_cons_zero, List.getElem_cons_succ, List.setIfInBounds_toArray, List.set_cons_zero, List.set_cons_succ]
        refine wpAnyH_take (i := 14) (v := ?v14q5) rfl (by kernel_rfl) (by kernel_rfl) (by kernel_rfl) (fun _ _ _ h => h) (Or.inl ⟨by rfl, ?hy14q5⟩) (by assumption) ?rest14q5
        case hy14q5 => (intro w hSw; (try dsimp only at hSw); go_simp <;> with_reducible rfl)
        try simp only [Act.put, List.getElem_toArray, List.getElem_cons_zero, List.getElem_cons_succ, List.setIfInBounds_toArray, List.set_cons_zero, List.set_cons_succ]
        refine wpAnyH_take (i := 15) (v := ?v15q5) rfl (by kernel_rfl) (by kernel_rfl) (by kernel_rfl) (fun _ _ _ h => h) (Or.inl ⟨by rfl, ?hy15q5⟩) (by assumption) ?rest15q5
        case hy15q5 => (intro w hSw; (try dsimp only at hSw); go_simp <;> with_reducible rfl)
        try simp only [Act.put, List.getElem_toArray, List.getElem_cons_zero, List.getElem_cons_succ, List.setIfInBounds_toArray, List.set_cons_zero, List.set_cons_succ]
        refine wpAnyH_take (i := 16) (v := ?v16q5) rfl (by kernel_rfl) (by kernel_rfl) (by kernel_rfl) (fun _ _ _ h => h) (Or.inl ⟨by rfl, ?hy16q5⟩) (by assumption) ?rest16q5
        case hy16q5 => (intro w hSw; (try dsimp only at hSw); go_simp <;> with_reducible rfl)
        try simp only [Act.put, List.getElem_toArray, List.getElem_cons_zero, List.getElem_cons_succ, List.setIfInBounds_toArray, List.set_cons_zero, List.set_cons_succ]
        refine wpAnyH_take (i := 17) (v := ?v17q5) rfl (by kernel_rfl) (by kernel_rfl) (by kernel_rfl) (fun _ _ _ h => h) (Or.inl ⟨by rfl, ?hy17q5⟩) (by assumption) ?rest17q5
        case hy17q5 => (intro w hSw; (try dsimp only at hSw); go_simp <;> with_reducible rfl)
        try simp only [Act.put, List.getElem_toArray, List.getElem_cons_zero, List.getElem_cons_succ, List.setIfInBounds_toArray, List.set_cons_zero, List.set_cons_succ]
        refine wpAnyH_take (i := 18) (v := ?v18q5) rfl (by kernel_rfl) (by kernel_rfl) (by kernel_rfl) (fun _ _ _ h => h) (Or.inl ⟨by rfl, ?hy18q5⟩) (by assumption) ?rest18q5
        case hy18q5 => (intro w hSw; (try dsimp only at hSw); go_simp <;> with_reducible rfl)
        try simp only [Act.put, List.getElem_toArray, List.getElem_cons_zero, List.getElem_cons_succ, List.setIfInBounds_toArray, List.set_cons_zero, List.set_cons_succ]
        refine wpAnyH_take (i := 19) (v := ?v19q5) rfl (by kernel_rfl) (by kernel_rfl) (by kernel_rfl) (fun _ _ _ h => h) (Or.inl ⟨by rfl, ?hy19q5⟩) (by assumption) ?rest19q5
        case hy19q5 => (intro w hSw; (try dsimp only at hSw); go_simp <;> with_reducible rfl)
        try simp only [Act.put, List.getElem_toArray, List.getElem_cons_zero, List.getElem_cons_succ, List.setIfInBounds_toArray, List.set_cons_zero, List.set_cons_succ]
        refine wpAnyH_take (i := 20) (v := ?v20q5) rfl (by kernel_rfl) (by kernel_rfl) (by kernel_rfl) (fun _ _ _ h => h) (Or.inl ⟨by rfl, ?hy20q5⟩) (by assumption) ?rest20q5
        case hy20q5 => (intro w hSw; (try dsimp only at hSw); go_simp <;> with_reducible rfl)
        try simp only [Act.put, List.getElem_toArray, List.getElem_cons_zero, List.getElem_cons_succ, List.setIfInBounds_toArray, List.set_cons_zero, List.set_cons_succ]
        refine wpAnyH_take (i := 21) (v := ?v21q5) rfl (by kernel_rfl) (by kernel_rfl) (by kernel_rfl) (fun _ _ _ h => h) (Or.inl ⟨by rfl, ?hy21q5⟩) (by assumption) ?rest21q5
        case hy21q5 => (intro w hSw; (try dsimp only at hSw); go_simp <;> with_reducible rfl)
        try simp only [Act.put, List.getElem_toArray, List.getElem_cons_zero, List.getElem_cons_succ, List.setIfInBounds_toArray, List.set_cons_zero, List.set_cons_succ]
        refine wpAnyH_take (i := 22) (v := ?v22q5) rfl (by kernel_rfl) (by kernel_rfl) (by kernel_rfl) (fun _ _ _ h => h) (Or.inl ⟨by rfl, ?hy22q5⟩) (by assumption) ?rest22q5
        case hy22q5 => (intro w hSw; (try dsimp only at hSw); go_simp <;> with_reducible rfl)
        try simp only [Act.put, List.getElem_toArray, List.getElem_cons_zero, List.getElem_cons_succ, List.setIfInBounds_toArray, List.set_cons_zero, List.set_cons_succ]
        refine wpAnyH_take (i := 23) (v := ?v23q5) rfl (by kernel_rfl) (by kernel_rfl) (by kernel_rfl) (fun _ _ _ h => h) (Or.inl ⟨by rfl, ?hy23q5⟩) (by assumption) ?rest23q5
        case hy23q5 => (intro w hSw; (try dsimp only at hSw); go_simp <;> with_reducible rfl)
        try simp only [Act.put, List.getElem_toArray, List.getElem_cons_zero, List.getElem_cons_succ, List.setIfInBounds_toArray, List.set_cons_zero, List.set_cons_succ]
        refine wpAnyH_take (i := 24) (v := ?v24q5) rfl (by kernel_rfl) (by kernel_rfl) (by kernel_rfl) (fun _ _ _ h => h) (Or.inl ⟨by rfl, ?hy24q5⟩) (by assumption) ?rest24q5
        case hy24q5 => (intro w hSw; (try dsimp only at hSw); go_simp <;> with_reducible rfl)
        try simp only [Act.put, List.getElem_toArray, List.getElem_cons_zero, List.getElem_cons_succ, List.setIfInBounds_toArray, List.set_cons_zero, List.set_cons_succ]
        refine wpAnyH_done (by kernel_rfl) ?_ _
        go_wp2_with fail
        go_ret
        exact ⟨rfl, HB11.out.trans (HB13.out.mono HB11.out.size)⟩
end Go.Proofs.YtffgjnohlcodaaaDoor
