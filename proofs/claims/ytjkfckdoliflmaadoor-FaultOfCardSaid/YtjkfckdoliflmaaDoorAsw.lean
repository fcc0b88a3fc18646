/-
  errors.as walked over a chain: at the target '**failure' it sets the target to the failure at the chain's end; at the target '**passage' it sets it to the chain's head, if that is a passage, and else answers false.
-/
import Derived.Test.YtjkfckdoliflmaaDoorAs
namespace Go.Proofs.YtjkfckdoliflmaaDoor
open Go.RowKit Go.Extern.Stop Go.Stop Go.Extern

set_option maxHeartbeats 4000000 in
theorem asF (xs : List ByteArray) (v : Value) (pf : Nat) (t a : Addr) (old : Value) (w : World) (hch : Ch w v xs pf) (ha : w.cell? a = some (.pointer (some t))) (ht0 : w.cell? t = some old) (hf0 : w.frozen? t = false) :
    Calls Tryd.prog 26 #[v, .iface 54 (.pointer (some t)), .agg #[.pointer (some ⟨5, 54, none⟩), .pointer (some a), .int .u64 150], .iface 70 (.agg #[.pointer (some ⟨5, 41, none⟩)])] w fun e w' => e = .returned (.bool true) ∧
      (((w.alloc (.cells #[.pointer (some ⟨5, 54, none⟩), .pointer (some a), .int .u64 150] 60)).alloc (.cells #[.pointer (some ⟨pf, 0, none⟩)] 41)).setCell t (.pointer (some ⟨pf, 0, none⟩))) = w' := by
  have h23 := @run_callFunc_extern Tryd.prog 23 _ (fun args => ReflectliteValue.unpack (args.getD 0 (.tuple #[]))) Tryd.func23 (by kernel_rfl) (by kernel_rfl) (by kernel_rfl) (by kernel_rfl)
  have h28 := @run_callFunc_extern Tryd.prog 28 _ ReflectliteType.typeOf Tryd.func28 (by kernel_rfl) (by kernel_rfl) (by kernel_rfl) (by kernel_rfl)
  have h66 := @run_callFunc_extern Tryd.prog 66 _ (ReflectliteType.relation "AssignableTo" ReflectliteType.assignableTo) Tryd.func66 (by kernel_rfl) (by kernel_rfl) (by kernel_rfl) (by kernel_rfl)
  have h29 := @run_callFunc_extern Tryd.prog 29 _ (ReflectliteValue.method (ReflectliteValue.valueError "reflectlite.Value.Elem" 0) ReflectliteValue.elem) Tryd.func29 (by kernel_rfl) (by kernel_rfl) (by kernel_rfl) (by kernel_rfl)
  have h30 := @run_callFunc_extern Tryd.prog 30 _ ReflectliteValue.set Tryd.func30 (by kernel_rfl) (by kernel_rfl) (by kernel_rfl) (by kernel_rfl)
  have f1 := typeOfF
  have f2 := typeOfP
  have f3 := methodAssignableTo
  have f4 := assignableFF
  have f5 := assignablePF
  have f6 := valueOfF
  have f7 := noAsP
  have f8 := hasUnP
  have f9 := methodUnwrap
  have halt : a.block < w.heap.size := by
    rcases Nat.lt_or_ge a.block w.heap.size with h | h
    · exact h
    · simp [World.cell?, Array.getElem?_eq_none h] at ha
  have htl : t.block < w.heap.size := by
    rcases Nat.lt_or_ge t.block w.heap.size with h | h
    · exact h
    · simp [World.cell?, Array.getElem?_eq_none h] at ht0
  have HC := Lib.hid (hch.alloc (.cells #[.pointer (some ⟨5, 54, none⟩), .pointer (some a), .int .u64 150] 60))
  clear hch
  have el := elemVPF a t (w.alloc (.cells #[.pointer (some ⟨5, 54, none⟩), .pointer (some a), .int .u64 150] 60)) (by rw [World.cell?_alloc_lt _ _ a halt]; exact ha)
  have st := setF t ⟨w.heap.size + 1, 0, none⟩ ⟨pf, 0, none⟩ old ((w.alloc (.cells #[.pointer (some ⟨5, 54, none⟩), .pointer (some a), .int .u64 150] 60)).alloc (.cells #[.pointer (some ⟨pf, 0, none⟩)] 41))
    (by rw [World.cell?_alloc_at _ _ _ _ (by simp)]; rfl)
    (by rw [World.cell?_alloc_lt _ _ t (by simp; omega), World.cell?_alloc_lt _ _ t htl]; exact ht0)
    (by rw [World.frozen?_alloc_old _ _ t (by simp; omega), World.frozen?_alloc_old _ _ t (Nat.ne_of_lt htl)]; exact hf0)
  go_enter Tryd.func26, Tryd.ntmps26
  go_wp2_with fail
  go_loopg [0] xs.length (fun k v wr => (w.alloc (.cells #[.pointer (some ⟨5, 54, none⟩), .pointer (some a), .int .u64 150] 60)) = wr ∧ ∃ ys, Ch wr v ys pf ∧ ys.length = k)
  case atStart => exact ⟨rfl, xs, HC.out, rfl⟩
  case round =>
    obtain ⟨rfl, ys, hc, rfl⟩ := hrel
    cases ys with
    | nil =>
      obtain rfl := hc
      go_wp2
      go_ret
      exact ⟨rfl, rfl⟩
    | cons y ys =>
      obtain ⟨b, v', rfl, c0, c1, hc'⟩ := hc
      have HC' := Lib.hid hc'
      clear hc'
      cases ys with
      | nil =>
        have e := HC'.out
        obtain rfl : v' = _ := e
        go_wp2_with (first | (go_at_call 61; refine (unwrap_any _ _ _ c1).mono ?_; rintro e w' ⟨rfl, rfl⟩))
        go_roundg 0
        case measure => simp
        case rel => exact ⟨rfl, [], rfl, rfl⟩
      | cons z zs =>
        obtain ⟨b2, v2, rfl, d0, d1, hd⟩ := HC'.out
        go_wp2_with (first | (go_at_call 61; refine (unwrap_any _ _ _ c1).mono ?_; rintro e w' ⟨rfl, rfl⟩))
        go_roundg (zs.length + 1)
        case measure => simp
        case rel => exact ⟨rfl, z :: zs, HC'.out, rfl⟩

set_option maxHeartbeats 4000000 in
theorem asP_hit (pb : Nat) (t a : Addr) (old : Value) (w : World) (ha : w.cell? a = some (.pointer (some t))) (ht0 : w.cell? t = some old) (hf0 : w.frozen? t = false) :
    Calls Tryd.prog 26 #[.iface 44 (.pointer (some ⟨pb, 0, none⟩)), .iface 53 (.pointer (some t)), .agg #[.pointer (some ⟨5, 53, none⟩), .pointer (some a), .int .u64 150], .iface 70 (.agg #[.pointer (some ⟨5, 44, none⟩)])] w fun e w' => e = .returned (.bool true) ∧
      (((w.alloc (.cells #[.pointer (some ⟨5, 53, none⟩), .pointer (some a), .int .u64 150] 60)).alloc (.cells #[.pointer (some ⟨pb, 0, none⟩)] 44)).setCell t (.pointer (some ⟨pb, 0, none⟩))) = w' := by
  have h23 := @run_callFunc_extern Tryd.prog 23 _ (fun args => ReflectliteValue.unpack (args.getD 0 (.tuple #[]))) Tryd.func23 (by kernel_rfl) (by kernel_rfl) (by kernel_rfl) (by kernel_rfl)
  have h28 := @run_callFunc_extern Tryd.prog 28 _ ReflectliteType.typeOf Tryd.func28 (by kernel_rfl) (by kernel_rfl) (by kernel_rfl) (by kernel_rfl)
  have h66 := @run_callFunc_extern Tryd.prog 66 _ (ReflectliteType.relation "AssignableTo" ReflectliteType.assignableTo) Tryd.func66 (by kernel_rfl) (by kernel_rfl) (by kernel_rfl) (by kernel_rfl)
  have h29 := @run_callFunc_extern Tryd.prog 29 _ (ReflectliteValue.method (ReflectliteValue.valueError "reflectlite.Value.Elem" 0) ReflectliteValue.elem) Tryd.func29 (by kernel_rfl) (by kernel_rfl) (by kernel_rfl) (by kernel_rfl)
  have h30 := @run_callFunc_extern Tryd.prog 30 _ ReflectliteValue.set Tryd.func30 (by kernel_rfl) (by kernel_rfl) (by kernel_rfl) (by kernel_rfl)
  have f2 := typeOfP
  have f3 := methodAssignableTo
  have f5 := assignablePP
  have f6 := valueOfP
  have halt : a.block < w.heap.size := by
    rcases Nat.lt_or_ge a.block w.heap.size with h | h
    · exact h
    · simp [World.cell?, Array.getElem?_eq_none h] at ha
  have htl : t.block < w.heap.size := by
    rcases Nat.lt_or_ge t.block w.heap.size with h | h
    · exact h
    · simp [World.cell?, Array.getElem?_eq_none h] at ht0
  have el := elemVPP a t (w.alloc (.cells #[.pointer (some ⟨5, 53, none⟩), .pointer (some a), .int .u64 150] 60)) (by rw [World.cell?_alloc_lt _ _ a halt]; exact ha)
  have st := setP t ⟨w.heap.size + 1, 0, none⟩ ⟨pb, 0, none⟩ old ((w.alloc (.cells #[.pointer (some ⟨5, 53, none⟩), .pointer (some a), .int .u64 150] 60)).alloc (.cells #[.pointer (some ⟨pb, 0, none⟩)] 44))
    (by rw [World.cell?_alloc_at _ _ _ _ (by simp)]; rfl)
    (by rw [World.cell?_alloc_lt _ _ t (by simp; omega), World.cell?_alloc_lt _ _ t htl]; exact ht0)
    (by rw [World.frozen?_alloc_old _ _ t (by simp; omega), World.frozen?_alloc_old _ _ t (Nat.ne_of_lt htl)]; exact hf0)
  go_enter Tryd.func26, Tryd.ntmps26
  go_wp2
  refine wp_loop_rounds 1 ?_
  rw [rounds_succ]
  go_wp2
  go_ret
  exact ⟨rfl, rfl⟩

set_option maxHeartbeats 4000000 in
theorem asP_miss (pf : Nat) (t a : Addr) (w : World) :
    Calls Tryd.prog 26 #[.iface 41 (.pointer (some ⟨pf, 0, none⟩)), .iface 53 (.pointer (some t)), .agg #[.pointer (some ⟨5, 53, none⟩), .pointer (some a), .int .u64 150], .iface 70 (.agg #[.pointer (some ⟨5, 44, none⟩)])] w fun e w' => e = .returned (.bool false) ∧
      w.alloc (.cells #[.pointer (some ⟨5, 53, none⟩), .pointer (some a), .int .u64 150] 60) = w' := by
  have h28 := @run_callFunc_extern Tryd.prog 28 _ ReflectliteType.typeOf Tryd.func28 (by kernel_rfl) (by kernel_rfl) (by kernel_rfl) (by kernel_rfl)
  have h66 := @run_callFunc_extern Tryd.prog 66 _ (ReflectliteType.relation "AssignableTo" ReflectliteType.assignableTo) Tryd.func66 (by kernel_rfl) (by kernel_rfl) (by kernel_rfl) (by kernel_rfl)
  have f2 := typeOfF
  have f3 := methodAssignableTo
  have f5 := assignableFP
  have f7 := noAsF
  have f8 := noUnF
  have f9 := noUnsF
  go_enter Tryd.func26, Tryd.ntmps26
  go_wp2
  refine wp_loop_rounds 1 ?_
  rw [rounds_succ]
  go_wp2
  go_ret
  exact ⟨rfl, rfl⟩
end Go.Proofs.YtjkfckdoliflmaaDoor
