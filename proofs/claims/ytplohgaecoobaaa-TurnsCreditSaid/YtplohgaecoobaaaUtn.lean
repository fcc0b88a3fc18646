/-
  The program's ring: Next, by contract. Conditions: the ring lies in memory, few streams, few bytes; its windows are within their bounds.
-/
import Derived.Test.YtplohgaecoobaaaUtk
import Derived.Test.YtplohgaecoobaaaUok
namespace Go.Proofs.Ytplohgaecoobaaa
open Go.RowKit Go.WideShapes

def TNP (w : World) (F : Nat → Prop) (g : Nat) (m : Rm) (r : Option (Sn × Nat × Rm)) (e : Ending) (w' : World) : Prop :=
  match r with
  | none => TP w F g m (.tuple #[.int .u32 0, .slice none 0 0, .bool false, .bool false]) e w'
  | some (x, N, m') => ∃ A c, e = .returned (.tuple #[.int .u32 x.st, .slice A N c, .bool (snY N x).ov, .bool true]) ∧ Bo w' w.heap.size 5 (.slice A N c) (x.b.take N) ∧ ∃ F', Tr w' F' g m' ∧ Fs F w w' ∧ (∀ k, F' k → F k ∨ w.heap.size ≤ k) ∧ ∀ k, ob (.slice A N c) k → ¬ F' k
theorem results_tmp4 {fn : Func} {t u v z : Tmp} (h : fn.results = #[.tmp t, .tmp u, .tmp v, .tmp z]) (tmps : Array Value) (P : Program) (w : World) :
    (results fn tmps).run P w = .ok (.tuple #[tmps.getD t undef, tmps.getD u undef, tmps.getD v undef, tmps.getD z undef]) w := by
  simp [results, h]
theorem TF.set {g q : Nat} {A : Option Addr} {c : Nat} {L : List Se} {i : Nat} {e e' : Se} (hi : L[i]? = some e) (h : ∀ k, e'.fp k → e.fp k) : ∀ k, TF g q A c (L.set i e') k → TF g q A c L k := by
  intro k hk
  unfold TF at hk
  rw [List.length_set] at hk
  rcases hk with h3 | h3 | h3 | ⟨a, ha, h3⟩
  · exact .inl h3
  · exact .inr (.inl h3)
  · exact .inr (.inr (.inl h3))
  · rcases List.mem_or_eq_of_mem_set ha with ha | rfl
    · exact TF.of_e ha h3
    · exact TF.of_e (List.mem_of_getElem? hi) (h k h3)
attribute [local irreducible] sec rgc fd wnc btw can fc snN
set_option maxRecDepth 100000 in
theorem tnext_nil (w : World) (most : Int) : Calls Try.prog 23 #[.pointer none, .int .i64 most] w fun e w' => e = .returned (.tuple #[.int .u32 0, .slice none 0 0, .bool false, .bool false]) ∧ Below w.heap.size w w' := by
  go_enter Try.func23, Try.ntmps23
  go_wp2_with fail
  refine (tnextP_nil _).mono ?_
  rintro r w2 ⟨rfl, hb⟩
  have HB := Lib.hid hb
  clear hb
  go_wp2_with fail
  refine bodyPost_ret (results_tmp4 rfl _ _ _) rfl ?_
  exact ⟨rfl, HB.out⟩
section
variable {w : World} {F : Nat → Prop} {g : Nat} {m : Rm}
set_option maxRecDepth 100000 in
set_option maxHeartbeats 4000000 in
theorem tnext_any (h : Tr w F g m) (hm : m.Ok) (hs : m.Sm) (most : Int) : Calls Try.prog 23 #[.pointer (some ⟨g, 0, none⟩), .int .i64 most] w (TNP w F g m (rmNext m most)) := by
  have HSAME := fun (w' : World) (hb : Below w.heap.size w w') (v : Value) => tp_same (v := v) h hb
  obtain ⟨q, A, c, L, hml, ht, hF, htl, hL⟩ := h.of hm hs
  have hll := map_len hml
  have HC := Lib.hid (tnextP_any hml ht htl hL hs.b)
  unfold nxP at HC
  unfold rmNext
  cases hx : (rot m.l m.t)[fc m.w (rot m.l m.t)]? with
  | none =>
    have hno : ¬ fc m.w (rot m.l m.t) < m.l.length := fun h1 => by
      rw [← rot_len m.l m.t] at h1
      rw [List.getElem?_eq_getElem h1] at hx
      cases hx
    rw [if_neg hno] at HC
    have HS := Lib.hid HSAME
    clear ht hml hs hm htl h HSAME hF hx hno
    go_enter Try.func23, Try.ntmps23
    go_wp2_with fail
    refine HC.out.mono ?_
    rintro r w2 ⟨rfl, hb⟩
    have HP := Lib.hid (HS.out _ hb (.tuple #[.int .u32 0, .slice none 0 0, .bool false, .bool false]))
    clear hb HC HS
    go_wp2_with fail
    refine bodyPost_ret (results_tmp4 rfl _ _ _) rfl ?_
    exact HP.out
  | some x =>
    have hfl : fc m.w (rot m.l m.t) < m.l.length := by rw [← rot_len m.l m.t]; exact (List.getElem?_eq_some_iff.1 hx).1
    have hcx := fc_can hx
    rw [if_pos hfl] at HC
    rw [rot_mod (by omega) hfl] at hx
    generalize hk : (m.t + fc m.w (rot m.l m.t)) % m.l.length = k at *
    obtain ⟨e, he, hex⟩ := se_of hml hx
    subst hex
    have hkl : k < L.length := (List.getElem?_eq_some_iff.1 he).1
    have hlf := hm.lf e.x (List.mem_of_getElem? hx)
    have hbl := hs.b e.x (List.mem_of_getElem? hx)
    have hN := snN_le (most := most) hcx
    have HTK := Lib.hid (fun (w1 : World) (h : TrL w1 g q A c L m.t m.w) => ttake_any h he hcx hlf hm.wn hbl most)
    dsimp only
    generalize snN m.w most e.x = N at *
    have e1 : ((k : Int) == -1) = false := by rw [beq_eq_false_iff_ne]; omega
    have hwk : IntKind.i64.wrap ((k : Int) + 1) = (k : Int) + 1 := IntWalk.i64_in _ (by omega)
    have e0 : ((L.length : Int) == 0) = false := by rw [beq_eq_false_iff_ne]; omega
    have HT := Lib.hid ht
    have HML := Lib.hid hml
    have HFF := Lib.hid hF
    have HE := Lib.hid he
    rw [hll]
    obtain ⟨t', ht'⟩ : ∃ t', t' = (k + 1) % L.length := ⟨_, rfl⟩
    rw [← ht']
    have hmod : Int.tmod ((k : Int) + 1) (L.length : Int) = (t' : Int) := by rw [ht']; rfl
    have HTT := Lib.hid ht'
    clear ht'
    clear ht hml hs hm htl h HSAME hF hx hfl hcx he hlf hbl hk hll
    go_enter Try.func23, Try.ntmps23
    go_wp2_with fail
    refine HC.out.mono ?_
    rintro r w2 ⟨rfl, hb⟩
    have HT2 := Lib.hid (HT.out.below hb)
    have HW := Lib.hid hb
    have c0 := (rg_cells HT2.out).1
    obtain ⟨b, o, hA, hcc, _, _⟩ := HT2.out.at HE.out
    subst hA
    clear hb HC HT
    go_wp2_with fail
    refine (HTK.out w2 HT2.out).mono ?_
    rintro r w3 ⟨vA, vc, e', rfl, hv, hx', hs', hT3, hF3, hN3⟩
    have hi3 : (L.set k e')[k]? = some e' := set_at HE.out
    have hse3 := hT3.i e' (List.mem_of_getElem? hi3)
    obtain ⟨s0, s1, s2, s3, _⟩ : w3.cell? ⟨e.sb, 0, none⟩ = some (.int .u32 e.x.st) ∧ w3.cell? ⟨e.sb, 1, none⟩ = some (.slice e'.A (e.x.b.drop N).length e'.c) ∧ w3.cell? ⟨e.sb, 2, none⟩ = some (.bool e.x.en) ∧ w3.cell? ⟨e.sb, 3, none⟩ = some (.bool e.x.ov) ∧ True := by
      have h9 := se_cells hse3
      rw [hs', hx'] at h9
      exact ⟨h9.1, h9.2.1, h9.2.2.1, h9.2.2.2.1, trivial⟩
    have z3 : w3.frozen? ⟨e.sb, 3, none⟩ = false := by have h9 := hse3.s.thawed 3; rw [hs'] at h9; exact h9
    obtain ⟨v, hv9⟩ : ∃ v : Bool, v = (e.x.en && decide (e.x.b.drop N = [])) := ⟨_, rfl⟩
    obtain ⟨hse4, hf4⟩ := hse3.ov v
    rw [hs'] at hse4 hf4
    have hT4 := hT3.upd hi3 hf4 hse4 rfl (fun k hk => .inl hk)
    rw [List.set_set] at hT4
    have hN4 : ∀ b', TF g q (some ⟨b, o, none⟩) c (L.set k (e'.upOv v)) b' → TF g q (some ⟨b, o, none⟩) c L b' := fun b' hb' => hN3 b' (TF.set hi3 (e' := e'.upOv v) (fun _ h => h) b' (by rw [List.set_set]; exact hb'))
    have hF4 : Fs (TF g q (some ⟨b, o, none⟩) c L) w2 (w3.setCell ⟨e.sb, 3, none⟩ (.bool v)) := hF3.trans (hf4.mono (S' := TF g q (some ⟨b, o, none⟩) c L) fun k' _ hk' => hN3 k' (TF.of_e (List.mem_of_getElem? hi3) hk')) fun _ _ h => h
    have hsbF : TF g q (some ⟨b, o, none⟩) c L e.sb := TF.of_e (List.mem_of_getElem? HE.out) (.inl rfl)
    have hFl : ∀ k', TF g q (some ⟨b, o, none⟩) c L k' → k' < w2.heap.size := fun k' hk' => HT2.out.lt hk'
    have hvl : ∀ k', ob (.slice vA N vc) k' → w2.heap.size ≤ k' := fun k' hk' => (OwS.lt hv k' hk').1
    have hv4 : Bo (w3.setCell ⟨e.sb, 3, none⟩ (.bool v)) w2.heap.size 5 (.slice vA N vc) (e.x.b.take N) := OwS.setCell (a := ⟨e.sb, 3, none⟩) hv (fun h => by have := hvl _ h; have h2 := hFl _ hsbF; have h3 : (⟨e.sb, 3, none⟩ : Addr).block = e.sb := rfl; omega) _
    have hx4 : (e'.upOv v).x = snY N e.x := by
      show ({ e'.x with ov := v } : Sn) = _
      rw [hx', hv9]
      rfl
    have hst4 : (w3.setCell ⟨e.sb, 3, none⟩ (.bool v)).cell? ⟨e.sb, 0, none⟩ = some (.int .u32 e.x.st) ∧ (w3.setCell ⟨e.sb, 3, none⟩ (.bool v)).cell? ⟨e.sb, 3, none⟩ = some (.bool v) := by
      have h9 := se_cells hse4
      have e9 : (e'.upOv v).sb = e.sb := hs'
      rw [e9] at h9
      have h10 : (e'.upOv v).x.st = e.x.st := by rw [hx4]; rfl
      rw [h10] at h9
      exact ⟨h9.1, h9.2.2.2.1⟩
    have HT4 := Lib.hid hT4
    have HF4 := Lib.hid hF4
    have HN4 := Lib.hid hN4
    have HV4 := Lib.hid hv4
    have HX4 := Lib.hid hx4
    have HV9 := Lib.hid hv9
    have HFL := Lib.hid hFl
    have HVL := Lib.hid hvl
    have HC4 := Lib.hid hst4
    have HS' := Lib.hid hs'
    have HSB := Lib.hid hsbF
    clear hT3 hF3 hN3 hi3 hse3 hse4 hf4 hT4 hN4 hF4 hsbF hFl hvl hv4 hx4 hst4 hv hx' hs' HTK HT2 hcc c0 hv9
    go_upto_region 6 with fail
    go_cut [] from 27 to 61 (fun wx => wx = w3.setCell ⟨e.sb, 3, none⟩ (.bool v))
    case first =>
      have hv := HV9.out
      clear s0
      generalize e.x.b.drop N = Bd at *
      cases hen : e.x.en
      · rw [hen] at s2 hv
        go_wp2_with fail
        go_meet
        case rel => rw [hv]; rfl
      · rw [hen] at s2 hv
        by_cases hbd : Bd = []
        · have hv' : v = true := by rw [hv]; simp [hbd]
          rw [hbd] at s1
          clear hv hbd
          go_wp2_with fail
          go_meet
          case rel => rw [hv']
        · have hbn := List.length_pos_iff.2 hbd
          have hv' : v = false := by rw [hv]; simp [hbd]
          have e9 : ((Bd.length : Int) == 0) = false := by rw [beq_eq_false_iff_ne]; omega
          clear hv hbd
          go_wp2_with fail
          go_meet
          case rel => rw [hv']
    case rest =>
      obtain rfl := hcut
      clear s0 s1 s2 s3 z3
      generalize w3.setCell ⟨e.sb, 3, none⟩ (.bool v) = w4 at *
      have hr4 := HT4.out.r
      rw [List.length_set] at hr4
      obtain ⟨c0, c1⟩ : w4.cell? ⟨g, 0, none⟩ = some (.slice (some ⟨b, o, none⟩) L.length c) ∧ w4.cell? ⟨g, 1, none⟩ = some (.int .i64 m.t) := ⟨hr4.cell (by unfold rgc; rfl), hr4.cell (by unfold rgc; rfl)⟩
      have z1 := hr4.thawed 1
      have HT5 : Hid (TrL (w4.setCell ⟨g, 1, none⟩ (.int .i64 t')) g q (some ⟨b, o, none⟩) c (L.set k (e'.upOv v)) t' (m.w - N)) := HT4.out.turn (fs_set _ _ _ _) (rg_turn HT4.out.r)
      have HF5 : Hid (Fs (TF g q (some ⟨b, o, none⟩) c L) w2 (w4.setCell ⟨g, 1, none⟩ (.int .i64 t'))) := HF4.out.setCell (fun _ => .inl rfl) _ _
      have hgF : TF g q (some ⟨b, o, none⟩) c L g := .inl rfl
      have hge : g ≠ e.sb := fun h => by
        have hi9 : (L.set k (e'.upOv v))[k]? = some (e'.upOv v) := set_at HE.out
        exact HT4.out.r.ne_type (HT4.out.i _ (List.mem_of_getElem? hi9)).s (by decide) (h.trans HS'.out.symm)
      have HV5 : Hid (Bo (w4.setCell ⟨g, 1, none⟩ (.int .i64 t')) w2.heap.size 5 (.slice vA N vc) (e.x.b.take N)) := OwS.setCell (a := ⟨g, 1, none⟩) HV4.out (fun h => by have := HVL.out _ h; have h2 := HFL.out _ hgF; have h3 : (⟨g, 1, none⟩ : Addr).block = g := rfl; omega) _
      have d0 : (w4.setCell ⟨g, 1, none⟩ (.int .i64 t')).cell? ⟨e.sb, 0, none⟩ = some (.int .u32 e.x.st) ∧ (w4.setCell ⟨g, 1, none⟩ (.int .i64 t')).cell? ⟨e.sb, 3, none⟩ = some (.bool v) := by
        refine ⟨?_, ?_⟩
        · exact (World.cell?_of_block (a := ⟨e.sb, 0, none⟩) (Below.heap_setCell w4 ⟨g, 1, none⟩ _ e.sb fun h => hge h.symm)).trans HC4.out.1
        · exact (World.cell?_of_block (a := ⟨e.sb, 3, none⟩) (Below.heap_setCell w4 ⟨g, 1, none⟩ _ e.sb fun h => hge h.symm)).trans HC4.out.2
      clear hr4
      go_upto_region 8 with fail
      clear c0 c1 z1
      generalize w4.setCell ⟨g, 1, none⟩ (.int .i64 t') = w5 at *
      obtain ⟨d0, d3⟩ := d0
      have HP : Hid (∀ n, TNP w F g m (some (e.x, N, ⟨m.l.set k (snY N e.x), t', m.w - N⟩)) (.returned (.tuple #[.int .u32 e.x.st, .slice vA N vc, .bool v, .bool true])) (w5.drewN n)) := fun n => by
        refine ⟨vA, vc, ?_, ?_, _, ⟨q, some ⟨b, o, none⟩, c, L.set k (e'.upOv v), ?_, HT5.out.keep fun _ _ => rfl, rfl⟩, ?_, ?_, ?_⟩
        · have : (snY N e.x).ov = v := by rw [HV9.out]; rfl
          rw [this]
        · exact (OwS.keep (w' := w5.drewN n) HV5.out fun _ _ => rfl).mono HW.out.size
        · show m.l.set k (snY N e.x) = _
          rw [List.map_set, HML.out, HX4.out]
        · rw [HFF.out]
          exact ((Fs.of_below HW.out).trans HF5.out fun _ _ h => h).drewN n
        · rw [HFF.out]
          exact fun k' hk' => .inl (HN4.out k' hk')
        · exact fun k' hk' h9 => by
            have h1 := HVL.out k' hk'
            have h2 := HFL.out k' (HN4.out k' h9)
            omega
      clear HT4 HF4 HN4 HV4 HX4 HV9 HFL HVL HC4 HS' HSB HT5 HF5 HV5 HW HML HFF HE hgF hge
      go_quiet (fail)
      go_wp2_with fail
      refine bodyPost_ret (results_tmp4 rfl _ _ _) rfl ?_
      exact HP.out _
end
end Go.Proofs.Ytplohgaecoobaaa
