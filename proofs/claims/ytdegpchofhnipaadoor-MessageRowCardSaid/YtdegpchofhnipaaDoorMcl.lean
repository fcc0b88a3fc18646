/-
  What a close tells, by its contract. Conditions: the bytes are read; errors.errorType holds what the program's text lays.
-/
import Derived.Test.YtdegpchofhnipaaDoorMtd
import Derived.Test.YtdegpchofhnipaaDoorMbc
namespace Go.Proofs.YtdegpchofhnipaaDoor
open Go.RowKit Go.WideShapes

/-- A note's cells. -/
def ntc (kind : Nat) (text : Bool) (A : Option Addr) (n c code : Nat) : Array Value := #[.int .u8 kind, .bool text, .slice A n c, .int .u32 code]
theorem nt_info : (Tryd.prog.info? 34).map (·.size) = some 4 := by kernel_rfl
theorem nt_ok (kind : Nat) (text : Bool) (A : Option Addr) (n c code : Nat) : AgOk Tryd.prog 34 (ntc kind text A n c code) := ⟨⟨_, Tryd.underlying34⟩, nt_info, by unfold ntc; kernel_rfl⟩
theorem nt_sz (k k' : Nat) (t t' : Bool) (A A' : Option Addr) (n n' c c' d d' : Nat) : (ntc k t A n c d).size = (ntc k' t' A' n' c' d').size := rfl
theorem nt0_eq : #[Value.int .u8 0, .bool false, .slice none 0 0, .int .u32 0] = ntc 0 false none 0 0 0 := rfl
/-- A close's note. -/
def closeN (s : List UInt8) : Nt :=
  if s = [] then ⟨4, false, 1005, []⟩
  else if s.length = 1 then ⟨5, false, 1002, []⟩
  else if ¬ ToldM (codeM s) then ⟨5, false, 1002, []⟩
  else if txtB (nats (s.drop 2)) = false then ⟨5, false, 1007, []⟩
  else ⟨4, false, codeM s, s.drop 2⟩
theorem closeM_is (s : List UInt8) : closeM s = (ggX, some (closeN s)) := by
  unfold closeM closeN badM
  (repeat' split) <;> rfl
/-- What is told, or is wrong: a note and an error. -/
def ClP (w : World) (n : Nt) (e : Ending) (w' : World) : Prop :=
  (n.kind = 5 ∧ n.text = false ∧ n.dat = [] ∧ ∃ er, e = .returned (.tuple #[.agg (ntc 0 false none 0 0 0), er]) ∧ ErrI n.code er w' ∧ n.code ≠ 0 ∧ Below w.heap.size w w') ∨
  (n.kind = 4 ∧ n.text = false ∧ ∃ A c, e = .returned (.tuple #[.agg (ntc 4 false A n.dat.length c n.code), .nilIface]) ∧ Bo w' w.heap.size 5 (.slice A n.dat.length c) n.dat ∧ Below w.heap.size w w')
theorem or_u32M {v b : Nat} (hb : b < 256) (hv : v < 256) : bits .or .u32 ((v : Int) * 256) (b : Int) = ((256 * v + b : Nat) : Int) := by
  rw [show (v : Int) * 256 = ((v * 256 : Nat) : Int) by omega, u32_or_nat _ b (by omega) (by omega), Nat.mul_comm]
  have h : 256 * v + b = 256 * v ||| b := Nat.two_pow_add_eq_or_of_lt (i := 8) (show b < 2 ^ 8 by omega) v
  omega
theorem errM {c g : Nat} {w : World} (hc : c ≠ 0) (h : Row w g 80 #[.int .u8 3, .int .u32 c]) : ErrI c (.iface 77 (.pointer (some ⟨g, 0, none⟩))) w := .inr ⟨hc, g, rfl, h⟩
/-- Behind a fault: the row of the note, as it stands. -/
theorem Row.upM {w w' : World} {g : Nat} {T : TypeId} {cs : Array Value} (h : Row w g T cs) (hb : Below w.heap.size w w') : Row w' g T cs := h.below hb h.lt
set_option maxRecDepth 100000 in
set_option maxHeartbeats 2000000 in
theorem closed_nil (A : Option Addr) (c : Nat) (w : World) : Calls Tryd.prog 35 #[.slice A 0 c] w (ClP w ⟨4, false, 1005, []⟩) := by
  have HR := Lib.hid (Row.new w 34 (ntc 0 false none 0 0 0))
  have HB : Hid (Below w.heap.size w (w.alloc (.cells (ntc 0 false none 0 0 0) 34))) := (Below.refl _ _).alloc (Nat.le_refl _) _
  go_enter Tryd.func35, Tryd.ntmps35
  go_wp2_with (refine wpList_sw (cs := ntc 4 false none 0 0 1005) rfl _ _ rfl rfl rfl HR.out rfl (nt_ok _ _ _ _ _ _) ?_)
  have HR2 := HR.out.setRow (ntc 4 false none 0 0 1005)
  refine bodyPost_ret (ret_agv (by rfl) _ rfl HR2 (nt_ok _ _ _ _ _ _) rfl) rfl ?_
  exact .inr ⟨rfl, rfl, none, 0, rfl, Bo.nil, below_setRow HB.out _ _ (Nat.le_refl _)⟩
set_option maxRecDepth 100000 in
set_option maxHeartbeats 2000000 in
theorem closed_one (A : Option Addr) (c : Nat) (w : World) : Calls Tryd.prog 35 #[.slice A 1 c] w (ClP w ⟨5, false, 1002, []⟩) := by
  have HR := Lib.hid (Row.new w 34 (ntc 0 false none 0 0 0))
  have HB : Hid (Below w.heap.size w (w.alloc (.cells (ntc 0 false none 0 0 0) 34))) := (Below.refl _ _).alloc (Nat.le_refl _) _
  go_enter Tryd.func35, Tryd.ntmps35
  go_wp2_with fail
  refine (socket_any 1002 _).mono ?_
  rintro e w1 ⟨gf, rfl, hf, hb⟩
  have HR1 := Lib.hid (HR.out.upM hb)
  have HF1 := Lib.hid hf
  have HB1 := Lib.hid (HB.out.trans (hb.mono HB.out.size))
  clear hb hf
  go_wp2_with (refine wpList_sw (cs := ntc 0 false none 0 0 0) rfl _ _ rfl rfl rfl HR1.out rfl (nt_ok _ _ _ _ _ _) ?_)
  have HR2 := HR1.out.setRow (ntc 0 false none 0 0 0)
  refine bodyPost_ret (ret_agv (by rfl) _ rfl HR2 (nt_ok _ _ _ _ _ _) rfl) rfl ?_
  exact .inl ⟨rfl, rfl, rfl, _, rfl, errM (by decide) (HF1.out.setRow' (Row.neJ HF1.out HR1.out (by decide)) _), by decide, below_setRow HB1.out _ _ (Nat.le_refl _)⟩
set_option maxRecDepth 100000 in
set_option maxHeartbeats 4000000 in
theorem closed_two {a b : UInt8} {r : List UInt8} {A : Option Addr} {c : Nat} {w : World} (hr : RdB w w.heap.size A (a :: b :: r)) (hl : (a :: b :: r).length ≤ 100000) (hc : (a :: b :: r).length ≤ c) :
    Calls Tryd.prog 35 #[.slice A (a :: b :: r).length c] w (ClP w (closeN (a :: b :: r))) := by
  have HR := Lib.hid (Row.new w 34 (ntc 0 false none 0 0 0))
  have hb0 : Below w.heap.size w (w.alloc (.cells (ntc 0 false none 0 0 0) 34)) := (Below.refl _ _).alloc (Nat.le_refl _) _
  have HB := Lib.hid hb0
  obtain ⟨i0, hi0, hz0, hz1, hz2⟩ := infoI infoI8
  have hr1 := hr.below hb0
  obtain ⟨A2, hcut, hr2⟩ := cut_from (P := Tryd.prog) Tryd.underlying30 hi0 hz1 hr1 hc (k := 2) (by simp)
  have HR2 : Hid (RdB (w.alloc (.cells (ntc 0 false none 0 0 0) 34)) w.heap.size A2 r) := hr2
  obtain ⟨g, o, rfl, hgl, hcell⟩ := hr1 (by simp)
  have c0 : (w.alloc (.cells (ntc 0 false none 0 0 0) 34)).cell? ⟨g, o, none⟩ = some (.int .u8 (a.toNat : Int)) := by have := hcell 0 (by simp); simpa using this
  have c1 : (w.alloc (.cells (ntc 0 false none 0 0 0) 34)).cell? ⟨g, o + 1, none⟩ = some (.int .u8 (b.toNat : Int)) := by have := hcell 1 (by simp); simpa using this
  have ha := a.toNat_lt
  have hb := b.toNat_lt
  have hor := or_u32M hb ha
  have hw : IntKind.u32.wrap ((a.toNat : Int) * 256) = (a.toNat : Int) * 256 := by
    rw [show (a.toNat : Int) * 256 = ((a.toNat * 256 : Nat) : Int) by omega]
    exact IntWalk.u32_in _ (by omega)
  have m0 : (0 : Int) < ((a :: b :: r).length : Int) := by simp; omega
  have m1 : (1 : Int) < ((a :: b :: r).length : Int) := by simp; omega
  have n0 : ¬ ((a :: b :: r).length : Int) = 0 := by simp; omega
  have n2 : decide (((a :: b :: r).length : Int) < 2) = false := by simp; omega
  have hlen : (a :: b :: r).length - 2 = r.length := by simp
  rw [hlen] at hcut
  have HC : Hid (closeN (a :: b :: r) = if ¬ ToldM (256 * a.toNat + b.toNat) then ⟨5, false, 1002, []⟩ else if txtB (nats r) = false then ⟨5, false, 1007, []⟩ else ⟨4, false, 256 * a.toNat + b.toNat, r⟩) := by
    show _ = _
    unfold closeN
    rw [if_neg (by simp), if_neg (by simp)]
    rfl
  have hrl : r.length ≤ 100000 := by simp at hl; omega
  have HRL := Lib.hid hrl
  clear hr hr1 hr2 hcell hgl hb0 hi0 hz0 hz1 hz2 hlen hl hrl hc
  generalize (a :: b :: r).length = n at *
  generalize closeN (a :: b :: r) = N at *
  generalize a.toNat = av at *
  generalize b.toNat = bv at *
  generalize 256 * av + bv = cd at *
  have HT := Lib.hid (fun W => mtold_any (c := cd) W)
  go_enter Tryd.func35, Tryd.ntmps35
  go_upto_region 5 with fail
  rw [nt0_eq]
  generalize w.alloc (.cells (ntc 0 false none 0 0 0) 34) = w1 at *
  have hcu : ∀ W, (Instr.slice 30 (.slice (some ⟨g, o, none⟩) n c) (some (.int .i64 2)) none none).run Tryd.prog W = .ok (.slice A2 r.length (c - 2)) W := hcut
  clear hcut
  go_quiet (fail)
  have HR1 : Hid (Row (w1.drewN nq) w.heap.size 34 (ntc 0 false none 0 0 0)) := HR.out
  have HB1 := Lib.hid (below_dN HB.out nq)
  have HD1 : Hid (RdB (w1.drewN nq) w.heap.size A2 r) := HR2.out
  clear c0 c1 hcu hor hw m0 m1 n0 n2 HR HB HR2 ha hb
  generalize w1.drewN nq = w2 at *
  go_wp2_with fail
  refine (HT.out _).mono ?_
  rintro e w3 ⟨rfl, hb⟩
  have HR3 := Lib.hid (HR1.out.upM hb)
  have HB3 := Lib.hid (HB1.out.trans (hb.mono HB1.out.size))
  have HD3 := Lib.hid (HD1.out.below (hb.mono HB1.out.size))
  clear hb HR1 HB1 HD1 HT
  by_cases hT : ToldM cd
  · rw [decide_eq_true hT]
    rw [if_neg (fun h => h hT)] at HC
    have HV := Lib.hid (valid_any (c := c - 2) (HD3.out.more HB3.out.size) (by have := HRL.out; omega))
    clear hT
    go_wp2_with fail
    refine HV.out.mono ?_
    rintro e w4 ⟨rfl, hb⟩
    have HR4 := Lib.hid (HR3.out.upM hb)
    have HB4 := Lib.hid (HB3.out.trans (hb.mono HB3.out.size))
    have HD4 := Lib.hid (HD3.out.below (hb.mono HB3.out.size))
    clear hb HR3 HB3 HD3 HV
    cases hv : txtB (nats r)
    · rw [if_pos hv] at HC
      have hC := HC.out
      subst hC
      clear hv HC
      go_wp2_with fail
      refine (socket_any 1007 _).mono ?_
      rintro e w5 ⟨gf, rfl, hf, hb⟩
      have HR5 := Lib.hid (HR4.out.upM hb)
      have HF5 := Lib.hid hf
      have HB5 := Lib.hid (HB4.out.trans (hb.mono HB4.out.size))
      clear hb hf
      go_wp2_with (refine wpList_sw (cs := ntc 0 false none 0 0 0) rfl _ _ rfl rfl rfl HR5.out rfl (nt_ok _ _ _ _ _ _) ?_)
      refine bodyPost_ret (ret_agv (by rfl) _ rfl (HR5.out.setRow (ntc 0 false none 0 0 0)) (nt_ok _ _ _ _ _ _) rfl) rfl ?_
      exact .inl ⟨rfl, rfl, rfl, _, rfl, errM (by decide) (HF5.out.setRow' (Row.neJ HF5.out HR5.out (by decide)) _), by decide, below_setRow HB5.out _ _ (Nat.le_refl _)⟩
    · rw [if_neg (by rw [hv]; simp)] at HC
      have hC := HC.out
      subst hC
      clear hv HC
      have HCL := Lib.hid (bcloneM (c := c - 2) (HD4.out.more HB4.out.size) (Nat.le_refl _) (by have := HRL.out; omega))
      go_wp2_with fail
      refine HCL.out.mono ?_
      rintro e w5 ⟨A5, c5, rfl, ho, hb⟩
      have HR5 := Lib.hid (HR4.out.upM hb)
      have HO5 := Lib.hid (OwS.mono ho HB4.out.size)
      have HB5 := Lib.hid (HB4.out.trans (hb.mono HB4.out.size))
      clear hb ho HCL
      go_wp2_with (refine wpList_sw (cs := ntc 4 false A5 r.length c5 cd) rfl _ _ rfl rfl rfl HR5.out rfl (nt_ok _ _ _ _ _ _) ?_)
      refine bodyPost_ret (ret_agv (by rfl) _ rfl (HR5.out.setRow (ntc 4 false A5 r.length c5 cd)) (nt_ok _ _ _ _ _ _) rfl) rfl ?_
      exact .inr ⟨rfl, rfl, A5, c5, rfl, OwS.setRow HO5.out (Bo.neJ HO5.out HR5.out (by decide)) _, below_setRow HB5.out _ _ (Nat.le_refl _)⟩
  · rw [decide_eq_false hT]
    rw [if_pos hT] at HC
    have hC := HC.out
    subst hC
    clear hT HC
    go_wp2_with fail
    refine (socket_any 1002 _).mono ?_
    rintro e w5 ⟨gf, rfl, hf, hb⟩
    have HR5 := Lib.hid (HR3.out.upM hb)
    have HF5 := Lib.hid hf
    have HB5 := Lib.hid (HB3.out.trans (hb.mono HB3.out.size))
    clear hb hf
    go_wp2_with (refine wpList_sw (cs := ntc 0 false none 0 0 0) rfl _ _ rfl rfl rfl HR5.out rfl (nt_ok _ _ _ _ _ _) ?_)
    refine bodyPost_ret (ret_agv (by rfl) _ rfl (HR5.out.setRow (ntc 0 false none 0 0 0)) (nt_ok _ _ _ _ _ _) rfl) rfl ?_
    exact .inl ⟨rfl, rfl, rfl, _, rfl, errM (by decide) (HF5.out.setRow' (Row.neJ HF5.out HR5.out (by decide)) _), by decide, below_setRow HB5.out _ _ (Nat.le_refl _)⟩
theorem closed_any {l : List UInt8} {A : Option Addr} {c : Nat} {w : World} (hr : RdB w w.heap.size A l) (hl : l.length ≤ 100000) (hc : l.length ≤ c) :
    Calls Tryd.prog 35 #[.slice A l.length c] w (ClP w (closeN l)) := by
  match l with
  | [] => exact closed_nil A c w
  | [a] => exact closed_one A c w
  | a :: b :: r => exact closed_two hr hl hc
end Go.Proofs.YtdegpchofhnipaaDoor
