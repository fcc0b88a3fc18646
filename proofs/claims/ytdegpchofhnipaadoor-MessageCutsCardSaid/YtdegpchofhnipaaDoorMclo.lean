/-
  A close that is made (Close), by its contract. Conditions: how many bytes the reason may have.
-/
import Derived.Test.YtdegpchofhnipaaDoorMfi
namespace Go.Proofs.YtdegpchofhnipaaDoor
open Go.RowKit Go.WideShapes

theorem zp_eq : #[Value.bool false, .int .u8 0, .bool false, .int .u32 0, .slice none 0 0] = zpJ := rfl
theorem zp_ok : AgOk Tryd.prog 32 zpJ := pc_ok _ _ _ _ _ _ _
/-- What Close leaves. -/
def CloP (w : World) (l : List UInt8) (e : Ending) (w' : World) : Prop :=
  ∃ A c, e = .returned (.agg (pcC true 8 false 0 A l.length c)) ∧ RdS w' (fun k => w.heap.size ≤ k ∧ k < w'.heap.size) A (byc l) ∧ l.length ≤ c ∧ Below w.heap.size w w'
theorem Bo.newS {w : World} {B n c : Nat} {e : TypeId} {A : Option Addr} {l : List UInt8} (h : Bo w B e (.slice A n c) l) : RdS w (fun k => B ≤ k ∧ k < w.heap.size) A (byc l) := (OwS.reads h).imp fun _ hk _ => OwS.lt h _ hk
set_option maxRecDepth 100000 in
set_option maxHeartbeats 4000000 in
theorem mclose_any {s : List UInt8} {code : Nat} (hl : s.length ≤ 100000) (w : World) : Calls Tryd.prog 19 #[.int .u32 (code : Int), .string (txb s)] w (CloP w (closeB code s)) := by
  have hz1 : Row (w.alloc (.cells zpJ 32)) w.heap.size 32 zpJ := Row.new _ _ _
  have hb1 : Below w.heap.size w (w.alloc (.cells zpJ 32)) := (Below.refl _ _).alloc (Nat.le_refl _) _
  have HZ1 := Lib.hid hz1
  have HB1 := Lib.hid hb1
  have HF := Lib.hid (mfit_any hl)
  have HT := Lib.hid (fun W => mtold_any (c := code) W)
  have HLR := Lib.hid (reasonM_in s).2
  have HCB : Hid (closeB code s = if ToldM code then UInt8.ofNat (code / 256) :: UInt8.ofNat (code % 256) :: reasonM s else []) := rfl
  generalize closeB code s = L at *
  generalize reasonM s = R at *
  obtain ⟨y, hy⟩ : ∃ y, y = txb s := ⟨_, rfl⟩
  rw [← hy] at HF ⊢
  clear hz1 hb1 hl hy
  go_enter Tryd.func19, Tryd.ntmps19
  go_upto_region 1 with fail
  rw [zp_eq]
  generalize w.alloc (.cells zpJ 32) = w1 at *
  have HN2 : Hid (Row (w1.alloc (.cells zpJ 32)) w1.heap.size 32 zpJ) := Row.new _ _ _
  have hb2 : Below w1.heap.size w1 ((w1.alloc (.cells zpJ 32)).setRow w1.heap.size (pcC true 8 false 0 none 0 0)) := below_setRow ((Below.refl _ _).alloc (Nat.le_refl _) _) _ _ (Nat.le_refl _)
  have HP2 := Lib.hid (HN2.out.setRow (pcC true 8 false 0 none 0 0))
  have HZ2 := Lib.hid (HZ1.out.upM hb2)
  have HB2 := Lib.hid (HB1.out.trans (hb2.mono HB1.out.size))
  have HPL : Hid (w.heap.size < w1.heap.size) := HZ1.out.lt
  clear HZ1 HB1 hb2
  go_upto_region 2 with (refine wpList_sw (cs := pcC true 8 false 0 none 0 0) rfl _ _ rfl rfl rfl HN2.out rfl (pc_ok _ _ _ _ _ _ _) ?_)
  rw [zp_eq]
  clear HN2
  generalize (w1.alloc (.cells zpJ 32)).setRow w1.heap.size (pcC true 8 false 0 none 0 0) = w2 at *
  generalize w1.heap.size = p5 at *
  go_wp2_with fail
  refine (HT.out _).mono ?_
  rintro e w3 ⟨rfl, hb⟩
  have HP3 := Lib.hid (HP2.out.upM hb)
  have HZ3 := Lib.hid (HZ2.out.upM hb)
  have HB3 := Lib.hid (HB2.out.trans (hb.mono HB2.out.size))
  clear hb HT HP2 HZ2 HB2
  by_cases hT : ToldM code
  · rw [decide_eq_true hT]
    rw [if_pos hT] at HCB
    have hc5 : code < 5000 := hT.2.1
    obtain ⟨q1, hq1⟩ : ∃ q1, q1 = code / 256 := ⟨_, rfl⟩
    obtain ⟨q2, hq2⟩ : ∃ q2, q2 = code % 256 := ⟨_, rfl⟩
    rw [← hq1, ← hq2] at HCB
    have h1 : (UInt8.ofNat q1).toNat = q1 := by simp; omega
    have h2 : (UInt8.ofNat q2).toNat = q2 := by simp; omega
    have hw1 : IntKind.u8.wrap ((code : Int) / 256) = (q1 : Int) := by rw [IntKind.wrap_u8]; omega
    have hw2 : IntKind.u8.wrap (code : Int) = (q2 : Int) := by rw [IntKind.wrap_u8]; omega
    have HO4 : Hid (Bo (w3.alloc (.cells #[.int .u8 (q1 : Int), .int .u8 (q2 : Int)] 5)) w3.heap.size 5 (.slice (some ⟨w3.heap.size, 0, none⟩) 2 2) [UInt8.ofNat q1, UInt8.ofNat q2]) := by
      have h := OwS.lit (base := w3.heap.size) w3 5 1 2 #[.int .u8 (q1 : Int), .int .u8 (q2 : Int)] (by simp) (by simp [maxLen]) (Nat.le_refl _)
      have e : byc [UInt8.ofNat q1, UInt8.ofNat q2] = [.int .u8 (q1 : Int), .int .u8 (q2 : Int)] := by
        show [Value.int .u8 ((UInt8.ofNat q1).toNat : Int), .int .u8 ((UInt8.ofNat q2).toNat : Int)] = _
        rw [h1, h2]
      show OwS _ _ _ _ _ _ _
      rw [e]
      exact h
    have hb4 : Below w3.heap.size w3 (w3.alloc (.cells #[.int .u8 (q1 : Int), .int .u8 (q2 : Int)] 5)) := (Below.refl _ _).alloc (Nat.le_refl _) _
    have HP4 := Lib.hid (HP3.out.upM hb4)
    have HZ4 := Lib.hid (HZ3.out.upM hb4)
    have HB4 := Lib.hid (HB3.out.trans (hb4.mono HB3.out.size))
    have HS3 : Hid (w.heap.size ≤ w3.heap.size) := HB3.out.size
    have hcb := HCB.out
    have hfit := HF.out (w3.alloc (.cells #[.int .u8 (q1 : Int), .int .u8 (q2 : Int)] 5))
    generalize UInt8.ofNat q1 = b1 at *
    generalize UInt8.ofNat q2 = b2 at *
    have hlL : L.length = 2 + R.length := by rw [hcb]; simp; omega
    have HLL := Lib.hid hlL
    have HCB2 : Hid (L = [b1, b2] ++ R) := hcb
    obtain ⟨i0, hi0, hz0, hz1, hz2⟩ := infoI infoI8
    clear hT hc5 h1 h2 hb4 hq1 hq2 HP3 HZ3 HB3 HCB hcb hlL HF
    go_upto_region 3 with fail
    go_wp2_with fail
    generalize w3.alloc (.cells #[.int .u8 (q1 : Int), .int .u8 (q2 : Int)] 5) = w4 at *
    refine hfit.mono ?_
    rintro e w5 ⟨A5, c5, rfl, hr5, hc5, hb5⟩
    have HO5 := Lib.hid (HO4.out.below hb5)
    have HP5 := Lib.hid (HP4.out.upM hb5)
    have HZ5 := Lib.hid (HZ4.out.upM hb5)
    have HB5 := Lib.hid (HB4.out.trans (hb5.mono HB4.out.size))
    have HR5 := Lib.hid hr5
    have HS5 : Hid (w3.heap.size ≤ w5.heap.size) := by have := (OwS.lt HO4.out w3.heap.size rfl).2; have := hb5.size; show _ ≤ _; omega
    have hle : [b1, b2].length + R.length ≤ 1099511627776 := by have := HLR.out; simp; omega
    clear hr5 hc5 hb5 hfit HO4 HP4 HZ4 HB4 hw1 hw2
    generalize w3.heap.size = p3 at *
    go_upto_region 4 with (at_builtin; go_loud (refine wpList_appBo rfl (.tmp 14) (.tmp 16) 30 rfl p3 5 i0 Tryd.underlying30 hi0 hz0 hz1 hz2 (.slice (some ⟨p3, 0, none⟩) 2 2) [b1, b2] rfl HO5.out w5.heap.size A5 R _ _ rfl rfl HR5.out hle HS5.out ?_; intro v6 w6 hO6 hF6 hN6; rw [← HCB2.out] at hO6; have HO6 := Lib.hid hO6; have HP6 := Lib.hid (hF6.row (Bo.neJ HO5.out HP5.out (by decide)) HP5.out); have HZ6 := Lib.hid (hF6.row (Bo.neJ HO5.out HZ5.out (by decide)) HZ5.out); have HB6 : Hid (Below w.heap.size w w6) := HB5.out.trans (hF6.below (fun k hk _ => Nat.le_trans HS3.out (OwS.lt HO5.out k hk).1) HB5.out.size); obtain ⟨A6, c6, rfl, hc6⟩ := hO6.shape; have HC6 := Lib.hid hc6; clear hO6 hF6 hN6 hc6; have ht := HP6.out.thawed 4; have c4 : w6.cell? ⟨p5, 4, none⟩ = some (.slice none 0 0) := HP6.out.cell rfl))
    have HP7 : Hid (Row (w6.setCell ⟨p5, 4, none⟩ (.slice A6 L.length c6)) p5 32 (pcC true 8 false 0 A6 L.length c6)) := HP6.out.stored 4 _
    have HZ7 := Lib.hid (HZ6.out.stored' (a := ⟨p5, 4, none⟩) (Nat.ne_of_lt HPL.out) (.slice A6 L.length c6))
    have HO7 : Hid (Bo (w6.setCell ⟨p5, 4, none⟩ (.slice A6 L.length c6)) p3 5 (.slice A6 L.length c6) L) := OwS.setCell HO6.out (a := ⟨p5, 4, none⟩) (Bo.neJ HO6.out HP6.out (by decide)) _
    have HB7 : Hid (Below w.heap.size w (w6.setCell ⟨p5, 4, none⟩ (.slice A6 L.length c6))) := HB6.out.setCell (p := ⟨p5, 4, none⟩) (Nat.le_of_lt HPL.out) _
    clear HP6 HZ6 HO6 HB6 ht c4
    generalize w6.setCell ⟨p5, 4, none⟩ (.slice A6 L.length c6) = w7 at *
    go_wp2_with (first
      | (refine wpList_ld (cs := pcC true 8 false 0 A6 L.length c6) rfl _ rfl rfl HP7.out (pc_ok _ _ _ _ _ _ _) ?_)
      | (refine wpList_sw (cs := pcC true 8 false 0 A6 L.length c6) rfl _ _ rfl rfl rfl HZ7.out rfl (pc_ok _ _ _ _ _ _ _) ?_))
    refine bodyPost_ret (ret_ag (by rfl) _ rfl (HZ7.out.setRow (pcC true 8 false 0 A6 L.length c6)) (pc_ok _ _ _ _ _ _ _)) rfl ?_
    refine ⟨A6, c6, rfl, ?_, HC6.out, below_setRow HB7.out _ _ (Nat.le_refl _)⟩
    have hO8 := OwS.setRow HO7.out (Bo.neJ HO7.out HZ7.out (by decide)) (pcC true 8 false 0 A6 L.length c6)
    exact (Bo.newS hO8).imp fun k hk _ => ⟨Nat.le_trans HS3.out hk.1, hk.2⟩
  · rw [decide_eq_false hT]
    rw [if_neg hT] at HCB
    have hL := HCB.out
    subst hL
    clear hT HF HCB
    go_wp2_with (first
      | (refine wpList_ld (cs := pcC true 8 false 0 none 0 0) rfl _ rfl rfl HP3.out (pc_ok _ _ _ _ _ _ _) ?_)
      | (refine wpList_sw (cs := pcC true 8 false 0 none 0 0) rfl _ _ rfl rfl rfl HZ3.out rfl (pc_ok _ _ _ _ _ _ _) ?_))
    refine bodyPost_ret (ret_ag (by rfl) _ rfl (HZ3.out.setRow (pcC true 8 false 0 none 0 0)) (pc_ok _ _ _ _ _ _ _)) rfl ?_
    exact ⟨none, 0, rfl, RdS.nil, Nat.le_refl _, below_setRow HB3.out _ _ (Nat.le_refl _)⟩
end Go.Proofs.YtdegpchofhnipaaDoor
