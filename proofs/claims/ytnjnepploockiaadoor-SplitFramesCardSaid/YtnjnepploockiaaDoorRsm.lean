/-
  The document's answers for frames: Same, of two frames that read the same. Conditions: both read as the same frame, where the call doesn't write.
-/
import Derived.Test.YtnjnepploockiaaDoorRpt
import Derived.Deep.QuietTactic
import Derived.BigQuiet
namespace Go.Proofs.YtnjnepploockiaaDoor
open Go.RowKit Go.WideShapes

attribute [local irreducible] Fm.c fxc enl
set_option maxRecDepth 100000 in
set_option maxHeartbeats 8000000 in
theorem rsame_any (F : Frm) (_hd : F.dat.length ≤ 1000000) (hn : F.sets.length ≤ 1000000) {dA sA eA tA : Option Addr} {dc sc ec tc : Nat} {w : World} (hD : RdB w w.heap.size dA F.dat) (hS : RdS w (· < w.heap.size) sA (enl sgc F.sets)) (hE : RdB w w.heap.size eA F.dat) (hT : RdS w (· < w.heap.size) tA (enl sgc F.sets)) :
    Calls Tryd.prog 24 #[.agg (F.fm dA dc sA sc).c, .agg (F.fm eA ec tA tc).c] w fun e w' => e = .returned (.bool true) ∧ Below w.heap.size w w' := by
  have HX : Hid (Row ((w.alloc (.cells (F.fm dA dc sA sc).c 36)).alloc (.cells (F.fm eA ec tA tc).c 36)) w.heap.size 36 (F.fm dA dc sA sc).c) := (Row.new w _ _).alloc _
  have HY : Hid (Row ((w.alloc (.cells (F.fm dA dc sA sc).c 36)).alloc (.cells (F.fm eA ec tA tc).c 36)) (w.heap.size + 1) 36 (F.fm eA ec tA tc).c) := Row.made _ _ _ (by simp)
  have HB : Hid (Below w.heap.size w ((w.alloc (.cells (F.fm dA dc sA sc).c 36)).alloc (.cells (F.fm eA ec tA tc).c 36))) := ((Below.refl _ _).alloc (Nat.le_refl _) _).alloc (by simp) _
  have HS1 := Lib.hid (hS.below HB.out)
  have HT1 := Lib.hid (hT.below HB.out)
  have htx : (convert 22 9 (.slice dA F.dat.length dc)).run Tryd.prog ((w.alloc (.cells (F.fm dA dc sA sc).c 36)).alloc (.cells (F.fm eA ec tA tc).c 36)) = .ok (.string (tb F.dat)) ((w.alloc (.cells (F.fm dA dc sA sc).c 36)).alloc (.cells (F.fm eA ec tA tc).c 36)) := run_text (P := Tryd.prog) (c := dc) Tryd.underlying22 Tryd.underlying5 Tryd.underlying9 (hD.below HB.out)
  have hty : (convert 22 9 (.slice eA F.dat.length ec)).run Tryd.prog ((w.alloc (.cells (F.fm dA dc sA sc).c 36)).alloc (.cells (F.fm eA ec tA tc).c 36)) = .ok (.string (tb F.dat)) ((w.alloc (.cells (F.fm dA dc sA sc).c 36)).alloc (.cells (F.fm eA ec tA tc).c 36)) := run_text (P := Tryd.prog) (c := ec) Tryd.underlying22 Tryd.underlying5 Tryd.underlying9 (hE.below HB.out)
  clear hD hS hE hT
  have x0 : ((w.alloc (.cells (F.fm dA dc sA sc).c 36)).alloc (.cells (F.fm eA ec tA tc).c 36)).cell? ⟨w.heap.size, 0, none⟩ = some (.int .u8 (F.ty : Int)) := Fm.k0 HX.out
  have y0 : ((w.alloc (.cells (F.fm dA dc sA sc).c 36)).alloc (.cells (F.fm eA ec tA tc).c 36)).cell? ⟨w.heap.size + 1, 0, none⟩ = some (.int .u8 (F.ty : Int)) := Fm.k0 HY.out
  have x1 : ((w.alloc (.cells (F.fm dA dc sA sc).c 36)).alloc (.cells (F.fm eA ec tA tc).c 36)).cell? ⟨w.heap.size, 1, none⟩ = some (.int .u8 (F.fl : Int)) := Fm.k1 HX.out
  have y1 : ((w.alloc (.cells (F.fm dA dc sA sc).c 36)).alloc (.cells (F.fm eA ec tA tc).c 36)).cell? ⟨w.heap.size + 1, 1, none⟩ = some (.int .u8 (F.fl : Int)) := Fm.k1 HY.out
  have x2 : ((w.alloc (.cells (F.fm dA dc sA sc).c 36)).alloc (.cells (F.fm eA ec tA tc).c 36)).cell? ⟨w.heap.size, 2, none⟩ = some (.int .u32 (F.st : Int)) := Fm.k2 HX.out
  have y2 : ((w.alloc (.cells (F.fm dA dc sA sc).c 36)).alloc (.cells (F.fm eA ec tA tc).c 36)).cell? ⟨w.heap.size + 1, 2, none⟩ = some (.int .u32 (F.st : Int)) := Fm.k2 HY.out
  have x3 : ((w.alloc (.cells (F.fm dA dc sA sc).c 36)).alloc (.cells (F.fm eA ec tA tc).c 36)).cell? ⟨w.heap.size, 3, none⟩ = some (.slice dA F.dat.length dc) := Fm.k3 HX.out
  have y3 : ((w.alloc (.cells (F.fm dA dc sA sc).c 36)).alloc (.cells (F.fm eA ec tA tc).c 36)).cell? ⟨w.heap.size + 1, 3, none⟩ = some (.slice eA F.dat.length ec) := Fm.k3 HY.out
  have x4 : ((w.alloc (.cells (F.fm dA dc sA sc).c 36)).alloc (.cells (F.fm eA ec tA tc).c 36)).cell? ⟨w.heap.size, 4, none⟩ = some (.int .i64 F.pad) := Fm.k4 HX.out
  have y4 : ((w.alloc (.cells (F.fm dA dc sA sc).c 36)).alloc (.cells (F.fm eA ec tA tc).c 36)).cell? ⟨w.heap.size + 1, 4, none⟩ = some (.int .i64 F.pad) := Fm.k4 HY.out
  have x5 : ((w.alloc (.cells (F.fm dA dc sA sc).c 36)).alloc (.cells (F.fm eA ec tA tc).c 36)).cell? ⟨w.heap.size, 5, none⟩ = some (.int .u32 (F.code : Int)) := Fm.k5 HX.out
  have y5 : ((w.alloc (.cells (F.fm dA dc sA sc).c 36)).alloc (.cells (F.fm eA ec tA tc).c 36)).cell? ⟨w.heap.size + 1, 5, none⟩ = some (.int .u32 (F.code : Int)) := Fm.k5 HY.out
  have x6 : ((w.alloc (.cells (F.fm dA dc sA sc).c 36)).alloc (.cells (F.fm eA ec tA tc).c 36)).cell? ⟨w.heap.size, 6, none⟩ = some (.int .u32 (F.oth : Int)) := Fm.k6 HX.out
  have y6 : ((w.alloc (.cells (F.fm dA dc sA sc).c 36)).alloc (.cells (F.fm eA ec tA tc).c 36)).cell? ⟨w.heap.size + 1, 6, none⟩ = some (.int .u32 (F.oth : Int)) := Fm.k6 HY.out
  have x7 : ((w.alloc (.cells (F.fm dA dc sA sc).c 36)).alloc (.cells (F.fm eA ec tA tc).c 36)).cell? ⟨w.heap.size, 7, none⟩ = some (.int .u8 (F.wt : Int)) := Fm.k7 HX.out
  have y7 : ((w.alloc (.cells (F.fm dA dc sA sc).c 36)).alloc (.cells (F.fm eA ec tA tc).c 36)).cell? ⟨w.heap.size + 1, 7, none⟩ = some (.int .u8 (F.wt : Int)) := Fm.k7 HY.out
  have x8 : ((w.alloc (.cells (F.fm dA dc sA sc).c 36)).alloc (.cells (F.fm eA ec tA tc).c 36)).cell? ⟨w.heap.size, 8, none⟩ = some (.bool F.al) := Fm.k8 HX.out
  have y8 : ((w.alloc (.cells (F.fm dA dc sA sc).c 36)).alloc (.cells (F.fm eA ec tA tc).c 36)).cell? ⟨w.heap.size + 1, 8, none⟩ = some (.bool F.al) := Fm.k8 HY.out
  have x9 : ((w.alloc (.cells (F.fm dA dc sA sc).c 36)).alloc (.cells (F.fm eA ec tA tc).c 36)).cell? ⟨w.heap.size, 9, none⟩ = some (.int .u32 (F.win : Int)) := Fm.k9 HX.out
  have y9 : ((w.alloc (.cells (F.fm dA dc sA sc).c 36)).alloc (.cells (F.fm eA ec tA tc).c 36)).cell? ⟨w.heap.size + 1, 9, none⟩ = some (.int .u32 (F.win : Int)) := Fm.k9 HY.out
  have x10 : ((w.alloc (.cells (F.fm dA dc sA sc).c 36)).alloc (.cells (F.fm eA ec tA tc).c 36)).cell? ⟨w.heap.size, 10, none⟩ = some (.slice sA F.sets.length sc) := Fm.k10 HX.out
  have y10 : ((w.alloc (.cells (F.fm dA dc sA sc).c 36)).alloc (.cells (F.fm eA ec tA tc).c 36)).cell? ⟨w.heap.size + 1, 10, none⟩ = some (.slice tA F.sets.length tc) := Fm.k10 HY.out
  generalize tb F.dat = T at *
  go_enter Tryd.func24, Tryd.ntmps24
  go_wp2_with fail
  clear x0 x1 x2 x3 x4 x5 x6 x7 x8 x9 y0 y1 y2 y3 y4 y5 y6 y7 y8 y9 htx hty
  generalize ((w.alloc (.cells (F.fm dA dc sA sc).c 36)).alloc (.cells (F.fm eA ec tA tc).c 36)) = w1 at *
  go_loopw [88] (fun i wr => ∃ k : Nat, k ≤ F.sets.length ∧ i = .int .i64 k ∧ Hid (Row wr w.heap.size 36 (F.fm dA dc sA sc).c) ∧ Hid (Row wr (w.heap.size + 1) 36 (F.fm eA ec tA tc).c) ∧ Hid (Below w.heap.size w wr) ∧ Hid (RdS wr (· < w.heap.size) sA (enl sgc F.sets)) ∧ Hid (RdS wr (· < w.heap.size) tA (enl sgc F.sets))) (fun i _ => F.sets.length - (intOf i).toNat)
  case atStart => exact ⟨0, Nat.zero_le _, rfl, HX, HY, HB, HS1, HT1⟩
  case round =>
    clear x10 y10 HX HY HB HS1 HT1
    obtain ⟨k, hk, rfl, HX, HY, HB, HS, HT⟩ := hrel
    by_cases hlt : k < F.sets.length
    · obtain ⟨b1, q1, rfl, _, f0, f1⟩ := HS.out.sett hlt
      obtain ⟨b2, q2, rfl, _, g0, g1⟩ := HT.out.sett hlt
      have x10 : wr.cell? ⟨w.heap.size, 10, none⟩ = some (.slice (some ⟨b1, q1, none⟩) F.sets.length sc) := Fm.k10 HX.out
      have y10 : wr.cell? ⟨w.heap.size + 1, 10, none⟩ = some (.slice (some ⟨b2, q2, none⟩) F.sets.length tc) := Fm.k10 HY.out
      have HXd : Hid (∀ n, Row (wr.drewN n) w.heap.size 36 (F.fm dA dc (some ⟨b1, q1, none⟩) sc).c) := fun n => HX.out
      have HYd : Hid (∀ n, Row (wr.drewN n) (w.heap.size + 1) 36 (F.fm eA ec (some ⟨b2, q2, none⟩) tc).c) := fun n => HY.out
      have HSd : Hid (∀ n, RdS (wr.drewN n) (· < w.heap.size) (some ⟨b1, q1, none⟩) (enl sgc F.sets)) := fun n => HS.out
      have HTd : Hid (∀ n, RdS (wr.drewN n) (· < w.heap.size) (some ⟨b2, q2, none⟩) (enl sgc F.sets)) := fun n => HT.out
      have HBd : Hid (∀ n, Below w.heap.size w (wr.drewN n)) := fun n => below_dN HB.out n
      generalize F.sets[k].1 = a at *
      generalize F.sets[k].2 = z at *
      have hlt' : (k : Int) < (F.sets.length : Int) := by omega
      clear HX HY HS HT HB
      go_wp2_with fail
      go_quiet (fail)
      go_wp2_with fail
      go_roundw
      case rel => exact ⟨k + 1, by omega, by go_num, HXd.out _, HYd.out _, HBd.out _, HSd.out _, HTd.out _⟩
      case measure => simp [intOf]; omega
    · obtain rfl : k = F.sets.length := by omega
      go_wp2_with fail
      go_ret
      exact ⟨rfl, HB.out⟩
end Go.Proofs.YtnjnepploockiaaDoor
