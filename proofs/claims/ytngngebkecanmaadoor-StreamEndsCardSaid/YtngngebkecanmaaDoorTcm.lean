/-
  What comes on a stream: the program's functions by their contracts. Condition of Come: errors.errorType as the program's text lays it.
-/
import Derived.Test.YtngngebkecanmaaDoorTsd
import Derived.Test.YtngngebkecanmaaDoorFerr
namespace Go.Proofs.YtngngebkecanmaaDoor
open Go.RowKit Go.WideShapes

/-- What is handed back: the state, and the error with this fault. -/
def CmP (p : Int × Int × Int) (w : World) (e : Ending) (w' : World) : Prop :=
  ∃ v, e = .returned (.tuple #[.int .u8 p.1, v]) ∧ Below w.heap.size w w' ∧ ((p.2.1 = 0 ∧ p.2.2 = 0 ∧ v = .nilIface) ∨ ∃ g, v = .iface 47 (.pointer (some ⟨g, 0, none⟩)) ∧ Row w' g 50 #[.int .u8 p.2.1, .int .u32 p.2.2])
theorem CmP.none (s : Int) (w : World) : CmP (s, 0, 0) w (.returned (.tuple #[.int .u8 s, .nilIface])) w := ⟨_, rfl, Below.refl _ _, .inl ⟨rfl, rfl, rfl⟩⟩
theorem CmP.of {s a b : Int} {w w' : World} {v : Value} (h : Err a b w (.returned v) w') : CmP (s, a, b) w (.returned (.tuple #[.int .u8 s, v])) w' := by
  obtain ⟨g, h1, h2, h3⟩ := h
  obtain rfl := Ending.returned.inj h1
  exact ⟨_, rfl, h3, .inr ⟨g, rfl, h2⟩⟩
set_option maxRecDepth 100000 in
set_option maxHeartbeats 1000000 in
theorem cbe_any (s k : Int) (e : Bool) (w : World) : Calls Tryd.prog 23 #[.int .u8 s, .int .u8 k, .bool e] w (CmP (cmBe s k e) w) := by
  by_cases k1 : k = 1
  · subst k1
    cases e
    · rw [show cmBe s 1 false = (s, 2, 1) by simp [cmBe]]
      go_enter Tryd.func23, Tryd.ntmps23
      go_wp2_with fail
      refine (stream_any 1 _).mono ?_
      rintro e' w1 ⟨g, rfl, hr, hb⟩
      have HE := Lib.hid (CmP.of (s := s) ⟨g, rfl, hr, hb⟩)
      clear hr hb
      go_wp2
      go_ret2
      exact HE.out
    · rw [show cmBe s 1 true = (gotS s true, 0, 0) by simp [cmBe]]
      go_enter Tryd.func23, Tryd.ntmps23
      go_wp2_with fail
      refine (got_any s true _).mono ?_
      rintro e' w1 ⟨rfl, rfl⟩
      go_wp2
      go_ret2
      exact CmP.none _ _
  by_cases k0 : k = 0
  · subst k0
    clear k1
    rw [show cmBe s 0 e = (gotS s e, 0, 0) by simp [cmBe]]
    go_enter Tryd.func23, Tryd.ntmps23
    go_wp2_with fail
    refine (got_any s e _).mono ?_
    rintro e' w1 ⟨rfl, rfl⟩
    go_wp2
    go_ret2
    exact CmP.none _ _
  by_cases k3 : k = 3
  · subst k3
    clear k1 k0
    rw [show cmBe s 3 e = (6, 0, 0) by simp [cmBe]]
    go_enter Tryd.func23, Tryd.ntmps23
    go_wp2
    go_ret2
    exact CmP.none _ _
  rw [show cmBe s k e = (s, 0, 0) by simp [cmBe, k1, k0, k3]]
  have e1 := ne_f k1
  have e0 := ne_f k0
  have e3 := ne_f k3
  clear k1 k0 k3
  go_enter Tryd.func23, Tryd.ntmps23
  go_wp2
  go_ret2
  exact CmP.none _ _
set_option maxRecDepth 100000 in
set_option maxHeartbeats 1000000 in
theorem con_any (s k : Int) (e : Bool) (w : World) : Calls Tryd.prog 20 #[.int .u8 s, .int .u8 k, .bool e] w (CmP (cmOn s k e) w) := by
  by_cases s0 : s = 0
  · subst s0
    by_cases k1 : k = 1
    · subst k1
      cases e
      · rw [show cmOn 0 1 false = (1, 0, 0) by simp [cmOn]]
        go_enter Tryd.func20, Tryd.ntmps20
        go_wp2
        go_ret2
        exact CmP.none _ _
      · rw [show cmOn 0 1 true = cmBe 0 1 true by simp [cmOn, cmBe, gotS]]
        go_enter Tryd.func20, Tryd.ntmps20
        go_wp2_with fail
        refine (cbe_any 0 1 true _).mono ?_
        rintro e' w1 ⟨v, rfl, hv⟩
        have HV := Lib.hid hv
        clear hv
        go_wp2
        go_ret2
        exact ⟨_, rfl, HV.out⟩
    rw [show cmOn 0 k e = (0, 1, 1) by simp [cmOn, k1]]
    have e1 := ne_f k1
    clear k1
    go_enter Tryd.func20, Tryd.ntmps20
    go_wp2_with fail
    refine (conn_any 1 _).mono ?_
    rintro e' w1 ⟨g, rfl, hr, hb⟩
    have HE := Lib.hid (CmP.of (s := 0) ⟨g, rfl, hr, hb⟩)
    clear hr hb
    go_wp2
    go_ret2
    exact HE.out
  by_cases s1 : s = 1
  · subst s1
    clear s0
    rw [show cmOn 1 k e = cmBe 1 k e by simp [cmOn]]
    go_enter Tryd.func20, Tryd.ntmps20
    go_wp2_with fail
    refine (cbe_any 1 k e _).mono ?_
    rintro e' w1 ⟨v, rfl, hv⟩
    have HV := Lib.hid hv
    clear hv
    go_wp2
    go_ret2
    exact ⟨_, rfl, HV.out⟩
  by_cases s2 : s = 2
  · subst s2
    clear s0 s1
    rw [show cmOn 2 k e = cmBe 2 k e by simp [cmOn]]
    go_enter Tryd.func20, Tryd.ntmps20
    go_wp2_with fail
    refine (cbe_any 2 k e _).mono ?_
    rintro e' w1 ⟨v, rfl, hv⟩
    have HV := Lib.hid hv
    clear hv
    go_wp2
    go_ret2
    exact ⟨_, rfl, HV.out⟩
  by_cases s3 : s = 3
  · subst s3
    clear s0 s1 s2
    by_cases k3 : k = 3
    · subst k3
      rw [show cmOn 3 3 e = (6, 0, 0) by simp [cmOn]]
      go_enter Tryd.func20, Tryd.ntmps20
      go_wp2
      go_ret2
      exact CmP.none _ _
    have e3 := ne_f k3
    by_cases hc : k = 1 ∨ k = 0
    · rw [show cmOn 3 k e = (3, 2, 5) by simp [cmOn, k3, hc]]
      have HC := Lib.hid (car_yes hc)
      clear hc k3
      go_enter Tryd.func20, Tryd.ntmps20
      go_wp2_with fail
      refine (HC.out _).mono ?_
      rintro e' w1 ⟨rfl, rfl⟩
      go_wp2_with fail
      refine (stream_any 5 _).mono ?_
      rintro e' w1 ⟨g, rfl, hr, hb⟩
      have HE := Lib.hid (CmP.of (s := 3) ⟨g, rfl, hr, hb⟩)
      clear hr hb
      go_wp2
      go_ret2
      exact HE.out
    rw [show cmOn 3 k e = (3, 0, 0) by simp [cmOn, k3, hc]]
    have HC := Lib.hid (car_no (k := k) (by omega) (by omega))
    clear hc k3
    go_enter Tryd.func20, Tryd.ntmps20
    go_wp2_with fail
    refine (HC.out _).mono ?_
    rintro e' w1 ⟨rfl, rfl⟩
    go_wp2
    go_ret2
    exact CmP.none _ _
  by_cases s6 : s = 6
  · subst s6
    clear s0 s1 s2 s3
    by_cases hc : k = 1 ∨ k = 0
    · rw [show cmOn 6 k e = (6, 2, 5) by simp [cmOn, hc]]
      have HC := Lib.hid (car_yes hc)
      clear hc
      go_enter Tryd.func20, Tryd.ntmps20
      go_wp2_with fail
      refine (HC.out _).mono ?_
      rintro e' w1 ⟨rfl, rfl⟩
      go_wp2_with fail
      refine (stream_any 5 _).mono ?_
      rintro e' w1 ⟨g, rfl, hr, hb⟩
      have HE := Lib.hid (CmP.of (s := 6) ⟨g, rfl, hr, hb⟩)
      clear hr hb
      go_wp2
      go_ret2
      exact HE.out
    rw [show cmOn 6 k e = (6, 0, 0) by simp [cmOn, hc]]
    have HC := Lib.hid (car_no (k := k) (by omega) (by omega))
    clear hc
    go_enter Tryd.func20, Tryd.ntmps20
    go_wp2_with fail
    refine (HC.out _).mono ?_
    rintro e' w1 ⟨rfl, rfl⟩
    go_wp2
    go_ret2
    exact CmP.none _ _
  by_cases s4 : s = 4
  · subst s4
    clear s0 s1 s2 s3 s6
    by_cases hc : k = 1 ∨ k = 0
    · rw [show cmOn 4 k e = (4, 1, 5) by simp [cmOn, hc]]
      have HC := Lib.hid (car_yes hc)
      clear hc
      go_enter Tryd.func20, Tryd.ntmps20
      go_wp2_with fail
      refine (HC.out _).mono ?_
      rintro e' w1 ⟨rfl, rfl⟩
      go_wp2_with fail
      refine (conn_any 5 _).mono ?_
      rintro e' w1 ⟨g, rfl, hr, hb⟩
      have HE := Lib.hid (CmP.of (s := 4) ⟨g, rfl, hr, hb⟩)
      clear hr hb
      go_wp2
      go_ret2
      exact HE.out
    rw [show cmOn 4 k e = (4, 0, 0) by simp [cmOn, hc]]
    have HC := Lib.hid (car_no (k := k) (by omega) (by omega))
    clear hc
    go_enter Tryd.func20, Tryd.ntmps20
    go_wp2_with fail
    refine (HC.out _).mono ?_
    rintro e' w1 ⟨rfl, rfl⟩
    go_wp2
    go_ret2
    exact CmP.none _ _
  rw [show cmOn s k e = (s, 0, 0) by simp [cmOn, s0, s1, s2, s3, s4, s6]]
  have e0 := ne_f s0
  have e1 := ne_f s1
  have e2 := ne_f s2
  have e3 := ne_f s3
  have e4 := ne_f s4
  have e6 := ne_f s6
  clear s0 s1 s2 s3 s4 s6
  go_enter Tryd.func20, Tryd.ntmps20
  go_wp2
  go_ret2
  exact CmP.none _ _
set_option maxRecDepth 100000 in
set_option maxHeartbeats 1000000 in
theorem come_any (s k : Int) (e : Bool) (w : World) : Calls Tryd.prog 17 #[.int .u8 s, .int .u8 k, .bool e] w (CmP (cm s k e) w) := by
  by_cases hs : 6 < s
  · rw [show cm s k e = (s, 1, 2) by simp [cm, hs]]
    go_enter Tryd.func17, Tryd.ntmps17
    go_wp2_with fail
    refine (conn_any 2 _).mono ?_
    rintro e' w1 ⟨g, rfl, hr, hb⟩
    have HE := Lib.hid (CmP.of (s := s) ⟨g, rfl, hr, hb⟩)
    clear hr hb
    go_wp2
    go_ret2
    exact HE.out
  have d6 : decide (6 < s) = false := decide_eq_false hs
  by_cases k1 : k = 1
  · subst k1
    rw [show cm s 1 e = cmOn s 1 e by simp [cm, hs]]
    clear hs
    go_enter Tryd.func17, Tryd.ntmps17
    go_wp2_with fail
    refine (con_any s 1 e _).mono ?_
    rintro e' w1 ⟨v, rfl, hv⟩
    have HV := Lib.hid hv
    clear hv
    go_wp2
    go_ret2
    exact ⟨_, rfl, HV.out⟩
  by_cases k0 : k = 0
  · subst k0
    rw [show cm s 0 e = cmOn s 0 e by simp [cm, hs]]
    clear hs k1
    go_enter Tryd.func17, Tryd.ntmps17
    go_wp2_with fail
    refine (con_any s 0 e _).mono ?_
    rintro e' w1 ⟨v, rfl, hv⟩
    have HV := Lib.hid hv
    clear hv
    go_wp2
    go_ret2
    exact ⟨_, rfl, HV.out⟩
  by_cases k3 : k = 3
  · subst k3
    rw [show cm s 3 e = cmOn s 3 e by simp [cm, hs]]
    clear hs k1 k0
    go_enter Tryd.func17, Tryd.ntmps17
    go_wp2_with fail
    refine (con_any s 3 e _).mono ?_
    rintro e' w1 ⟨v, rfl, hv⟩
    have HV := Lib.hid hv
    clear hv
    go_wp2
    go_ret2
    exact ⟨_, rfl, HV.out⟩
  by_cases k8 : k = 8
  · subst k8
    rw [show cm s 8 e = cmOn s 8 e by simp [cm, hs]]
    clear hs k1 k0 k3
    go_enter Tryd.func17, Tryd.ntmps17
    go_wp2_with fail
    refine (con_any s 8 e _).mono ?_
    rintro e' w1 ⟨v, rfl, hv⟩
    have HV := Lib.hid hv
    clear hv
    go_wp2
    go_ret2
    exact ⟨_, rfl, HV.out⟩
  by_cases k2 : k = 2
  · subst k2
    rw [show cm s 2 e = (s, 0, 0) by simp [cm, hs]]
    clear hs k1 k0 k3 k8
    go_enter Tryd.func17, Tryd.ntmps17
    go_wp2
    go_ret2
    exact CmP.none _ _
  rw [show cm s k e = (s, 1, 1) by simp [cm, hs, k0, k1, k2, k3, k8]]
  have e0 := ne_f k0
  have e1 := ne_f k1
  have e2 := ne_f k2
  have e3 := ne_f k3
  have e8 := ne_f k8
  clear hs k1 k0 k3 k8 k2
  go_enter Tryd.func17, Tryd.ntmps17
  go_wp2_with fail
  refine (conn_any 1 _).mono ?_
  rintro e' w1 ⟨g, rfl, hr, hb⟩
  have HE := Lib.hid (CmP.of (s := s) ⟨g, rfl, hr, hb⟩)
  clear hr hb
  go_wp2
  go_ret2
  exact HE.out
/-- What Come hands back. -/
def CmF (p : Int × Int × Int) (w : World) (e : Ending) (w' : World) : Prop := e = .returned (.tuple #[.int .u8 p.1, .agg (ftc p.2.1 p.2.2)]) ∧ Below w.heap.size w w'
theorem ret_vf {P : Program} {T : TypeId} {fn : Func} {u q : Tmp} {v : Value} {w : World} {g : Nat} {cs : Array Value} (h : fn.results = #[.tmp u, .cell q T]) (tmps : Array Value) (hu : tmps.getD u undef = v) (hq : tmps.getD q undef = .pointer (some ⟨g, 0, none⟩)) (hR : Row w g T cs) (hk : AgOk P T cs) :
    (results fn tmps).run P w = .ok (.tuple #[v, .agg cs]) w := by
  have hv := run_ld hk hR
  have hu' : tmps[u]?.getD undef = v := by simpa using hu
  have hq' : tmps[q]?.getD undef = .pointer (some ⟨g, 0, none⟩) := by simpa using hq
  simp only [results, h]
  simp [hu', hq', asAddr, hv]
theorem of_z (w : World) : Calls Tryd.prog 18 #[.nilIface] w fun e w' => e = .returned (.agg (ftc 0 0)) ∧ Below w.heap.size w w' := of_nil w
theorem of_r {g : Nat} {s c : Int} {w : World} (hR : Row w g 50 #[.int .u8 s, .int .u32 c]) (hG : GlobE w) : Calls Tryd.prog 18 #[.iface 47 (.pointer (some ⟨g, 0, none⟩))] w fun e w' => e = .returned (.agg (ftc s c)) ∧ Below w.heap.size w w' := of_row hR hG
attribute [local irreducible] ftc
set_option maxRecDepth 100000 in
set_option maxHeartbeats 1000000 in
theorem comeF_any (s k : Int) (e : Bool) {w : World} (hG : GlobE w) : Calls Tryd.prog 11 #[.int .u8 s, .int .u8 k, .bool e] w (CmF (cm s k e) w) := by
  have HC := Lib.hid (come_any s k e)
  unfold CmF
  generalize cm s k e = p at *
  obtain ⟨w1, hw1, t1, t2, t3⟩ : ∃ w1, w.alloc (.cells #[.int .u8 0, .int .u32 0] 31) = w1 ∧ Row w1 w.heap.size 31 (ftc 0 0) ∧ Below w.heap.size w w1 ∧ w1.heap.size = w.heap.size + 1 := ⟨_, rfl, fault_var w⟩
  have HG1 := Lib.hid (hG.below t2)
  have T1 := Lib.hid t1
  have T2 := Lib.hid t2
  have T7 := Lib.hid hw1
  clear t1 t2 hw1 hG
  go_enter Tryd.func11, Tryd.ntmps11
  go_upto_region 1 with fail
  rw [T7.out]
  go_wp2_with fail
  refine (HC.out _).mono ?_
  rintro e' w2 ⟨v, rfl, hb2, hv⟩
  have HG2 := Lib.hid (HG1.out.below hb2)
  have HR2 : Hid (Row w2 w.heap.size 31 (ftc 0 0)) := T1.out.below hb2 (by omega)
  have HB2 := Lib.hid (T2.out.trans (hb2.mono (by omega)))
  have HO : Hid (Calls Tryd.prog 18 #[v] w2 fun e w' => e = .returned (.agg (ftc p.2.1 p.2.2)) ∧ Below w2.heap.size w2 w') := by
    rcases hv with ⟨h1, h2, rfl⟩ | ⟨g, rfl, hr⟩
    · rw [h1, h2]; exact of_z w2
    · exact of_r hr HG2.out
  clear hb2 hv HC HG1 T1 T2 T7
  go_wp2_with fail
  refine HO.out.mono ?_
  rintro e' w3 ⟨rfl, hb3⟩
  have HR3 : Hid (Row w3 w.heap.size 31 (ftc 0 0)) := HR2.out.below hb3 HR2.out.lt
  have HB3 := Lib.hid (HB2.out.trans (hb3.mono HB2.out.size))
  clear hb3
  go_wp2_with (refine wpList_sw (cs := ftc p.2.1 p.2.2) rfl _ _ rfl rfl rfl HR3.out (ft_sz _ _ _ _) (ft_ok _ _) ?_)
  exact bodyPost_ret (ret_vf rfl _ rfl rfl (HR3.out.setRow _) (ft_ok _ _)) rfl ⟨rfl, below_setRow HB3.out _ _ (Nat.le_refl _)⟩
end Go.Proofs.YtngngebkecanmaaDoor
