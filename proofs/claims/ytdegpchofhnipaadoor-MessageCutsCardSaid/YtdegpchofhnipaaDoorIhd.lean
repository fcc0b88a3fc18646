/-
  wsframe's Head, by its contract. Conditions: the bytes are read; errors.errorType holds what the program's text lays.
-/
import Derived.Test.YtdegpchofhnipaaDoorIsz
import Derived.Test.YtdegpchofhnipaaDoorAg
import Derived.Deep.RegionHeld3
namespace Go.Proofs.YtdegpchofhnipaaDoor
open Go.RowKit Go.WideShapes

/-- A fault's cells. -/
def ftI (s c : Nat) : Array Value := #[.int .u8 s, .int .u32 c]
theorem ftI_info : (Tryd.prog.info? 62).map (·.size) = some 2 := by kernel_rfl
theorem ftI_ok (s c : Nat) : AgOk Tryd.prog 62 (ftI s c) := ⟨⟨_, Tryd.underlying62⟩, ftI_info, by unfold ftI; kernel_rfl⟩
theorem ftI_sz (s c s' c' : Nat) : (ftI s c).size = (ftI s' c').size := rfl
/-- A socket's fault by its code. -/
def scI (c : Nat) : Nat := if c = 0 then 0 else 3
def HeadP (h : Hd) (w : World) (e : Ending) (w' : World) : Prop := e = .returned (.tuple #[.int .i64 ((h.front + h.size : Nat) : Int), .agg (ftI (scI h.code) h.code), .bool (!h.short)]) ∧ Below w.heap.size w w'
theorem ofI_any {code : Nat} {er : Value} {w : World} (h : ErrI code er w) (hG : GlobE w) : Calls Tryd.prog 24 #[er] w fun e w' => e = .returned (.agg (ftI (scI code) code)) ∧ Below w.heap.size w w' := by
  rcases h with ⟨rfl, rfl⟩ | ⟨hc, g, rfl, hR⟩
  · exact of_nil w
  · have h1 := of_row hR hG
    have e : scI code = 3 := if_neg hc
    rw [e]
    exact h1
theorem retI3 {fn : Func} {a p b : Tmp} {g : Nat} {x y : Value} {T : TypeId} {cs : Array Value} {w : World} (h : fn.results = #[.tmp a, .cell p T, .tmp b]) (tmps : Array Value) (ha : tmps.getD a undef = x) (hp : tmps.getD p undef = .pointer (some ⟨g, 0, none⟩)) (hb : tmps.getD b undef = y) (hR : Row w g T cs) (hk : AgOk Tryd.prog T cs) :
    (results fn tmps).run Tryd.prog w = .ok (.tuple #[x, .agg cs, y]) w := by
  have hl := run_ld hk hR
  have ha' : tmps[a]?.getD undef = x := by simpa using ha
  have hp' : tmps[p]?.getD undef = .pointer (some ⟨g, 0, none⟩) := by simpa using hp
  have hb' : tmps[b]?.getD undef = y := by simpa using hb
  simp only [results, h]
  simp [ha', hp', hb', asAddr, hl]
end Go.Proofs.YtdegpchofhnipaaDoor
