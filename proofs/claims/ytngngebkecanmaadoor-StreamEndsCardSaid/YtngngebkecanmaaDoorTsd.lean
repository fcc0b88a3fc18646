/-
  What is sent on a stream: the program's Send and the document's, by their contracts. No conditions.
-/
import Derived.Test.YtngngebkecanmaaDoorTsm
namespace Go.Proofs.YtngngebkecanmaaDoor
open Go.RowKit Go.WideShapes

theorem car_yes {k : Int} (h : k = 1 ∨ k = 0) (w : World) : Calls Tryd.prog 15 #[.int .u8 k] w fun e w' => e = .returned (.bool true) ∧ w' = w := by
  have := car_any k w
  rw [show car k = true from decide_eq_true h] at this
  exact this
theorem car_no {k : Int} (h1 : k ≠ 1) (h0 : k ≠ 0) (w : World) : Calls Tryd.prog 15 #[.int .u8 k] w fun e w' => e = .returned (.bool false) ∧ w' = w := by
  have := car_any k w
  rw [show car k = false from decide_eq_false (by omega)] at this
  exact this
/-- What is sent, as it is handed back. -/
def SdP (p : Int × Bool) (w : World) (e : Ending) (w' : World) : Prop := e = .returned (.tuple #[.int .u8 p.1, .bool p.2]) ∧ w' = w
set_option maxRecDepth 100000 in
set_option maxHeartbeats 1000000 in
theorem send_any (s k : Int) (e : Bool) (w : World) : Calls Tryd.prog 8 #[.int .u8 s, .int .u8 k, .bool e] w (SdP (sd s k e) w) := by
  unfold SdP
  by_cases s0 : s = 0
  · subst s0
    by_cases k1 : k = 1
    · subst k1
      cases e
      · go_enter Tryd.func8, Tryd.ntmps8
        go_wp2
        go_ret2
        exact ⟨rfl, rfl⟩
      · go_enter Tryd.func8, Tryd.ntmps8
        go_wp2_with fail
        refine (car_yes (k := 1) (by omega) _).mono ?_
        rintro e' w1 ⟨rfl, rfl⟩
        go_wp2_with fail
        refine (sent_any 0 true _).mono ?_
        rintro e' w1 ⟨rfl, rfl⟩
        go_wp2
        go_ret2
        exact ⟨rfl, rfl⟩
    rw [show sd 0 k e = (0, false) by simp [sd, k1]]
    have e1 := ne_f k1
    clear k1
    go_enter Tryd.func8, Tryd.ntmps8
    go_wp2
    go_ret2
    exact ⟨rfl, rfl⟩
  by_cases s1 : s = 1
  · subst s1
    clear s0
    by_cases k1 : k = 1
    · subst k1
      rw [show sd 1 1 e = (sentS 1 e, true) by simp [sd]]
      go_enter Tryd.func8, Tryd.ntmps8
      go_wp2_with fail
      refine (car_yes (k := 1) (by omega) _).mono ?_
      rintro e' w1 ⟨rfl, rfl⟩
      go_wp2_with fail
      refine (sent_any 1 e _).mono ?_
      rintro e' w1 ⟨rfl, rfl⟩
      go_wp2
      go_ret2
      exact ⟨rfl, rfl⟩
    by_cases k0 : k = 0
    · subst k0
      rw [show sd 1 0 e = (sentS 1 e, true) by simp [sd]]
      clear k1
      go_enter Tryd.func8, Tryd.ntmps8
      go_wp2_with fail
      refine (car_yes (k := 0) (by omega) _).mono ?_
      rintro e' w1 ⟨rfl, rfl⟩
      go_wp2_with fail
      refine (sent_any 1 e _).mono ?_
      rintro e' w1 ⟨rfl, rfl⟩
      go_wp2
      go_ret2
      exact ⟨rfl, rfl⟩
    by_cases k3 : k = 3
    · subst k3
      rw [show sd 1 3 e = (5, true) by simp [sd]]
      clear k1 k0
      go_enter Tryd.func8, Tryd.ntmps8
      go_wp2_with fail
      refine (car_no (k := 3) (by omega) (by omega) _).mono ?_
      rintro e' w1 ⟨rfl, rfl⟩
      go_wp2
      go_ret2
      exact ⟨rfl, rfl⟩
    by_cases k8 : k = 8
    · subst k8
      rw [show sd 1 8 e = (1, true) by simp [sd]]
      clear k1 k0 k3
      go_enter Tryd.func8, Tryd.ntmps8
      go_wp2_with fail
      refine (car_no (k := 8) (by omega) (by omega) _).mono ?_
      rintro e' w1 ⟨rfl, rfl⟩
      go_wp2
      go_ret2
      exact ⟨rfl, rfl⟩
    rw [show sd 1 k e = (1, false) by simp [sd, k1, k0, k3, k8]]
    have hc := car_no k1 k0
    have e3 := ne_f k3
    have e8 := ne_f k8
    clear k1 k0 k3 k8
    go_enter Tryd.func8, Tryd.ntmps8
    go_wp2_with fail
    refine (hc _).mono ?_
    rintro e' w1 ⟨rfl, rfl⟩
    go_wp2
    go_ret2
    exact ⟨rfl, rfl⟩
  by_cases s3 : s = 3
  · subst s3
    clear s0 s1
    by_cases k1 : k = 1
    · subst k1
      rw [show sd 3 1 e = (sentS 3 e, true) by simp [sd]]
      go_enter Tryd.func8, Tryd.ntmps8
      go_wp2_with fail
      refine (car_yes (k := 1) (by omega) _).mono ?_
      rintro e' w1 ⟨rfl, rfl⟩
      go_wp2_with fail
      refine (sent_any 3 e _).mono ?_
      rintro e' w1 ⟨rfl, rfl⟩
      go_wp2
      go_ret2
      exact ⟨rfl, rfl⟩
    by_cases k0 : k = 0
    · subst k0
      rw [show sd 3 0 e = (sentS 3 e, true) by simp [sd]]
      clear k1
      go_enter Tryd.func8, Tryd.ntmps8
      go_wp2_with fail
      refine (car_yes (k := 0) (by omega) _).mono ?_
      rintro e' w1 ⟨rfl, rfl⟩
      go_wp2_with fail
      refine (sent_any 3 e _).mono ?_
      rintro e' w1 ⟨rfl, rfl⟩
      go_wp2
      go_ret2
      exact ⟨rfl, rfl⟩
    by_cases k3 : k = 3
    · subst k3
      rw [show sd 3 3 e = (5, true) by simp [sd]]
      clear k1 k0
      go_enter Tryd.func8, Tryd.ntmps8
      go_wp2_with fail
      refine (car_no (k := 3) (by omega) (by omega) _).mono ?_
      rintro e' w1 ⟨rfl, rfl⟩
      go_wp2
      go_ret2
      exact ⟨rfl, rfl⟩
    by_cases k8 : k = 8
    · subst k8
      rw [show sd 3 8 e = (3, false) by simp [sd]]
      clear k1 k0 k3
      go_enter Tryd.func8, Tryd.ntmps8
      go_wp2_with fail
      refine (car_no (k := 8) (by omega) (by omega) _).mono ?_
      rintro e' w1 ⟨rfl, rfl⟩
      go_wp2
      go_ret2
      exact ⟨rfl, rfl⟩
    rw [show sd 3 k e = (3, false) by simp [sd, k1, k0, k3, k8]]
    have hc := car_no k1 k0
    have e3 := ne_f k3
    have e8 := ne_f k8
    clear k1 k0 k3 k8
    go_enter Tryd.func8, Tryd.ntmps8
    go_wp2_with fail
    refine (hc _).mono ?_
    rintro e' w1 ⟨rfl, rfl⟩
    go_wp2
    go_ret2
    exact ⟨rfl, rfl⟩
  by_cases s2 : s = 2
  · subst s2
    clear s0 s1 s3
    by_cases k3 : k = 3
    · subst k3
      rw [show sd 2 3 e = (5, true) by simp [sd]]
      go_enter Tryd.func8, Tryd.ntmps8
      go_wp2
      go_ret2
      exact ⟨rfl, rfl⟩
    by_cases k8 : k = 8
    · subst k8
      rw [show sd 2 8 e = (2, true) by simp [sd]]
      clear k3
      go_enter Tryd.func8, Tryd.ntmps8
      go_wp2
      go_ret2
      exact ⟨rfl, rfl⟩
    rw [show sd 2 k e = (2, false) by simp [sd, k3, k8]]
    have e3 := ne_f k3
    have e8 := ne_f k8
    clear k3 k8
    go_enter Tryd.func8, Tryd.ntmps8
    go_wp2
    go_ret2
    exact ⟨rfl, rfl⟩
  rw [show sd s k e = (s, false) by unfold sd; rw [if_neg s0, if_neg (by omega), if_neg (by omega), decide_eq_false (by omega)]]
  have e0 := ne_f s0
  have e1 := ne_f s1
  have e2 := ne_f s2
  have e3 := ne_f s3
  clear s0 s1 s2 s3
  go_enter Tryd.func8, Tryd.ntmps8
  go_wp2
  go_ret2
  exact ⟨rfl, rfl⟩
set_option maxRecDepth 100000 in
set_option maxHeartbeats 1000000 in
/-- The document's. -/
theorem rsend_any (s k : Int) (e : Bool) (hk : 0 ≤ k) (w : World) : Calls Tryd.prog 9 #[.int .u8 s, .int .u8 k, .bool e] w (SdP (sd s k e) w) := by
  unfold SdP
  by_cases s0 : s = 0
  · subst s0
    by_cases k1 : k = 1
    · subst k1
      clear hk
      cases e
      · go_enter Tryd.func9, Tryd.ntmps9
        go_wp2
        go_ret2
        exact ⟨rfl, rfl⟩
      · go_enter Tryd.func9, Tryd.ntmps9
        go_wp2
        go_ret2
        exact ⟨rfl, rfl⟩
    rw [show sd 0 k e = (0, false) by simp [sd, k1]]
    have e1 := ne_f k1
    by_cases k0 : k = 0
    · subst k0
      clear hk e1 k1
      go_enter Tryd.func9, Tryd.ntmps9
      go_wp2
      go_ret2
      exact ⟨rfl, rfl⟩
    have d2 : decide (k < 2) = false := decide_eq_false (by omega)
    clear k1
    clear hk k0
    by_cases k3 : k = 3
    · subst k3
      clear d2 e1
      go_enter Tryd.func9, Tryd.ntmps9
      go_wp2
      go_ret2
      exact ⟨rfl, rfl⟩
    have e3 := ne_f k3
    clear k3
    by_cases k8 : k = 8
    · subst k8
      clear d2 e1 e3
      go_enter Tryd.func9, Tryd.ntmps9
      go_wp2
      go_ret2
      exact ⟨rfl, rfl⟩
    have e8 := ne_f k8
    clear k8
    go_enter Tryd.func9, Tryd.ntmps9
    go_wp2
    go_ret2
    exact ⟨rfl, rfl⟩
  by_cases s1 : s = 1
  · subst s1
    clear s0
    by_cases k1 : k = 1
    · subst k1
      rw [show sd 1 1 e = (sentS 1 e, true) by simp [sd]]
      clear hk
      cases e
      · go_enter Tryd.func9, Tryd.ntmps9
        go_wp2
        go_ret2
        exact ⟨rfl, rfl⟩
      · go_enter Tryd.func9, Tryd.ntmps9
        go_wp2
        go_ret2
        exact ⟨rfl, rfl⟩
    by_cases k0 : k = 0
    · subst k0
      rw [show sd 1 0 e = (sentS 1 e, true) by simp [sd]]
      clear hk k1
      cases e
      · go_enter Tryd.func9, Tryd.ntmps9
        go_wp2
        go_ret2
        exact ⟨rfl, rfl⟩
      · go_enter Tryd.func9, Tryd.ntmps9
        go_wp2
        go_ret2
        exact ⟨rfl, rfl⟩
    by_cases k3 : k = 3
    · subst k3
      rw [show sd 1 3 e = (5, true) by simp [sd]]
      clear hk k1 k0
      go_enter Tryd.func9, Tryd.ntmps9
      go_wp2
      go_ret2
      exact ⟨rfl, rfl⟩
    by_cases k8 : k = 8
    · subst k8
      rw [show sd 1 8 e = (1, true) by simp [sd]]
      clear hk k1 k0 k3
      go_enter Tryd.func9, Tryd.ntmps9
      go_wp2
      go_ret2
      exact ⟨rfl, rfl⟩
    rw [show sd 1 k e = (1, false) by simp [sd, k1, k0, k3, k8]]
    have d2 : decide (k < 2) = false := decide_eq_false (by omega)
    have e1 := ne_f k1
    have e3 := ne_f k3
    have e8 := ne_f k8
    clear hk k1 k0 k3 k8
    go_enter Tryd.func9, Tryd.ntmps9
    go_wp2
    go_ret2
    exact ⟨rfl, rfl⟩
  by_cases s3 : s = 3
  · subst s3
    clear s0 s1
    by_cases k1 : k = 1
    · subst k1
      rw [show sd 3 1 e = (sentS 3 e, true) by simp [sd]]
      clear hk
      cases e
      · go_enter Tryd.func9, Tryd.ntmps9
        go_wp2
        go_ret2
        exact ⟨rfl, rfl⟩
      · go_enter Tryd.func9, Tryd.ntmps9
        go_wp2
        go_ret2
        exact ⟨rfl, rfl⟩
    by_cases k0 : k = 0
    · subst k0
      rw [show sd 3 0 e = (sentS 3 e, true) by simp [sd]]
      clear hk k1
      cases e
      · go_enter Tryd.func9, Tryd.ntmps9
        go_wp2
        go_ret2
        exact ⟨rfl, rfl⟩
      · go_enter Tryd.func9, Tryd.ntmps9
        go_wp2
        go_ret2
        exact ⟨rfl, rfl⟩
    by_cases k3 : k = 3
    · subst k3
      rw [show sd 3 3 e = (5, true) by simp [sd]]
      clear hk k1 k0
      go_enter Tryd.func9, Tryd.ntmps9
      go_wp2
      go_ret2
      exact ⟨rfl, rfl⟩
    by_cases k8 : k = 8
    · subst k8
      rw [show sd 3 8 e = (3, false) by simp [sd]]
      clear hk k1 k0 k3
      go_enter Tryd.func9, Tryd.ntmps9
      go_wp2
      go_ret2
      exact ⟨rfl, rfl⟩
    rw [show sd 3 k e = (3, false) by simp [sd, k1, k0, k3, k8]]
    have d2 : decide (k < 2) = false := decide_eq_false (by omega)
    have e1 := ne_f k1
    have e3 := ne_f k3
    have e8 := ne_f k8
    clear hk k1 k0 k3 k8
    go_enter Tryd.func9, Tryd.ntmps9
    go_wp2
    go_ret2
    exact ⟨rfl, rfl⟩
  by_cases s2 : s = 2
  · subst s2
    clear s0 s1 s3
    by_cases k1 : k = 1
    · subst k1
      rw [show sd 2 1 e = (2, false) by simp [sd]]
      clear hk
      go_enter Tryd.func9, Tryd.ntmps9
      go_wp2
      go_ret2
      exact ⟨rfl, rfl⟩
    by_cases k0 : k = 0
    · subst k0
      rw [show sd 2 0 e = (2, false) by simp [sd]]
      clear hk k1
      go_enter Tryd.func9, Tryd.ntmps9
      go_wp2
      go_ret2
      exact ⟨rfl, rfl⟩
    by_cases k3 : k = 3
    · subst k3
      rw [show sd 2 3 e = (5, true) by simp [sd]]
      clear hk k1 k0
      go_enter Tryd.func9, Tryd.ntmps9
      go_wp2
      go_ret2
      exact ⟨rfl, rfl⟩
    by_cases k8 : k = 8
    · subst k8
      rw [show sd 2 8 e = (2, true) by simp [sd]]
      clear hk k1 k0 k3
      go_enter Tryd.func9, Tryd.ntmps9
      go_wp2
      go_ret2
      exact ⟨rfl, rfl⟩
    rw [show sd 2 k e = (2, false) by simp [sd, k3, k8]]
    have d2 : decide (k < 2) = false := decide_eq_false (by omega)
    have e1 := ne_f k1
    have e3 := ne_f k3
    have e8 := ne_f k8
    clear hk k1 k0 k3 k8
    go_enter Tryd.func9, Tryd.ntmps9
    go_wp2
    go_ret2
    exact ⟨rfl, rfl⟩
  rw [show sd s k e = (s, false) by unfold sd; rw [if_neg s0, if_neg (by omega), if_neg (by omega), decide_eq_false (by omega)]]
  by_cases hs : 1 ≤ s
  · have d3 : decide (s ≤ 3) = false := decide_eq_false (by omega)
    have e0 := ne_f s0
    have e1 := ne_f s1
    have e2 := ne_f s2
    have e3 := ne_f s3
    clear s0 s1 s2 s3
    by_cases k1 : k = 1
    · subst k1
      clear hk
      go_enter Tryd.func9, Tryd.ntmps9
      go_wp2
      go_ret2
      exact ⟨rfl, rfl⟩
    by_cases k0 : k = 0
    · subst k0
      clear hk k1
      go_enter Tryd.func9, Tryd.ntmps9
      go_wp2
      go_ret2
      exact ⟨rfl, rfl⟩
    by_cases k3 : k = 3
    · subst k3
      clear hk k1 k0
      go_enter Tryd.func9, Tryd.ntmps9
      go_wp2
      go_ret2
      exact ⟨rfl, rfl⟩
    by_cases k8 : k = 8
    · subst k8
      clear hk k1 k0 k3
      go_enter Tryd.func9, Tryd.ntmps9
      go_wp2
      go_ret2
      exact ⟨rfl, rfl⟩
    have d2 : decide (k < 2) = false := decide_eq_false (by omega)
    have f1 := ne_f k1
    have f3 := ne_f k3
    have f8 := ne_f k8
    clear hk k1 k0 k3 k8
    go_enter Tryd.func9, Tryd.ntmps9
    go_wp2
    go_ret2
    exact ⟨rfl, rfl⟩
  have d3 : decide (1 ≤ s) = false := decide_eq_false hs
  have e0 := ne_f s0
  have e1 := ne_f s1
  have e2 := ne_f s2
  have e3 := ne_f s3
  clear s0 s1 s2 s3 hs
  by_cases k1 : k = 1
  · subst k1
    clear hk
    go_enter Tryd.func9, Tryd.ntmps9
    go_wp2
    go_ret2
    exact ⟨rfl, rfl⟩
  by_cases k0 : k = 0
  · subst k0
    clear hk k1
    go_enter Tryd.func9, Tryd.ntmps9
    go_wp2
    go_ret2
    exact ⟨rfl, rfl⟩
  by_cases k3 : k = 3
  · subst k3
    clear hk k1 k0
    go_enter Tryd.func9, Tryd.ntmps9
    go_wp2
    go_ret2
    exact ⟨rfl, rfl⟩
  by_cases k8 : k = 8
  · subst k8
    clear hk k1 k0 k3
    go_enter Tryd.func9, Tryd.ntmps9
    go_wp2
    go_ret2
    exact ⟨rfl, rfl⟩
  have d2 : decide (k < 2) = false := decide_eq_false (by omega)
  have f1 := ne_f k1
  have f3 := ne_f k3
  have f8 := ne_f k8
  clear hk k1 k0 k3 k8
  go_enter Tryd.func9, Tryd.ntmps9
  go_wp2
  go_ret2
  exact ⟨rfl, rfl⟩
end Go.Proofs.YtngngebkecanmaaDoor
