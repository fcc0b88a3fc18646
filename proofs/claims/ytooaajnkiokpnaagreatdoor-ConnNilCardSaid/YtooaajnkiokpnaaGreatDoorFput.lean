/-
  frame's putNumber, by its contract.
-/
import Derived.Test.YtooaajnkiokpnaaGreatDoorFmay
import Derived.Test.YtooaajnkiokpnaaGreatDoorFs
namespace Go.Proofs.YtooaajnkiokpnaaGreatDoor
open Go.RowKit Go.WideShapes
attribute [local irreducible] Fm.c

theorem u8_info : (Tryz.prog.info? 5).map (fun i => (i.zero, i.size, i.bytes)) = some (some (.int .u8 0), 1, 1) := by kernel_rfl
theorem info_parts {P : Program} {t : TypeId} {z : Value} {n b : Nat} (h : (P.info? t).map (fun i => (i.zero, i.size, i.bytes)) = some (some z, n, b)) : ∃ i, P.info? t = some i ∧ i.zero = some z ∧ i.size = n ∧ i.bytes = b := by
  cases hi : P.info? t with
  | none => rw [hi] at h; simp at h
  | some i => rw [hi] at h; simp at h; exact ⟨i, rfl, h.1, h.2.1, h.2.2⟩

/-- What a call leaves that adds to bytes. -/
def MadeB (w : World) (base : Nat) (v : Value) (l : List UInt8) (e : Ending) (w' : World) : Prop := ∃ v', e = .returned v' ∧ Bo w' base 5 v' l ∧ Fs (ob v) w w' ∧ Nx w v v'
theorem Bo.below {w w' : World} {base : Nat} {e : TypeId} {v : Value} {l : List UInt8} (h : Bo w base e v l) (hb : Below w.heap.size w w') : Bo w' base e v l := OwS.below h hb
theorem RdB.row {w : World} {B g : Nat} {t : TypeId} {cs : Array Value} {m : List UInt8} (h : Row w g t cs) (hc : cs.toList = byc m) (hg : g < B) : RdB w B (some ⟨g, 0, none⟩) m := fun _ => ⟨g, 0, rfl, hg, fun j hj => by
  refine h.cell ?_
  rw [Nat.zero_add, ← Array.getElem?_toList, hc]
  exact byc_at hj⟩
theorem num_mod (n : Nat) : ((UInt8.ofNat n).toNat : Int) = (n : Int) % 256 := by rw [ofNat_toNat_mod]; omega
theorem byc_be4 {n : Nat} (hn : n < 4294967296) : byc (be 4 n) = [.int .u8 ((n : Int) / 16777216), .int .u8 ((n : Int) / 65536 % 256), .int .u8 ((n : Int) / 256 % 256), .int .u8 ((n : Int) % 256)] := by
  rw [be4]
  simp only [byc, List.map_cons, List.map_nil, num_mod]
  rw [show (((n / 16777216 : Nat) : Int) % 256) = (n : Int) / 16777216 by omega, show (((n / 65536 : Nat) : Int) % 256) = (n : Int) / 65536 % 256 by omega, show (((n / 256 : Nat) : Int) % 256) = (n : Int) / 256 % 256 by omega]

set_option maxRecDepth 100000 in
set_option maxHeartbeats 1000000 in
theorem putNumber_any7 {n base : Nat} {v : Value} {l : List UInt8} {w : World} (hn : n < 4294967296) (hO : Bo w base 5 v l) (hbase : base ≤ w.heap.size) (hl : l.length ≤ 549755813888) :
    Calls Tryz.prog 149 #[v, .int .u32 (n : Int)] w (MadeB w base v (l ++ be 4 n)) := by
  obtain ⟨i0, hi0, hz0, hz1, hz2⟩ := info_parts u8_info
  go_enter Tryz.func149, Tryz.ntmps149
  go_wp2_with (at_builtin; go_loud (refine wpList_appBo rfl (.tmp 5) (.tmp 17) 22 rfl base 5 i0 Tryz.underlying22 hi0 hz0 hz1 hz2 v l rfl (hO.alloc _) _ _ (be 4 n) _ _ rfl (be_length 4 n).symm (RdB.row (Row.new w _ _) (byc_be4 hn).symm (Nat.lt_succ_self _)) (by rw [be_length]; omega) (by simp; omega) ?_; intro v2 w2 h1 h2 h3))
  go_ret
  exact ⟨v2, rfl, h1, ((Fs.refl (ob v) w).alloc _).trans h2 fun _ _ h => h, (Nx.refl w v).trans h3 (by simp)⟩
end Go.Proofs.YtooaajnkiokpnaaGreatDoor
