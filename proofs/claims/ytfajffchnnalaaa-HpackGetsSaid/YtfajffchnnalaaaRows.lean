/-
  No cell of these rows narrows 'for every input' (looked for: loops, veiled, ifaces, maps, wideKeys, modest, calm, conditions, laid).
  DERIVED. THE GIVEN ROWS OF THIS SEAT. 6 by the template 'for every input the law returns true; each argument reads behind the call as it read before'; 0 by the template 'total and deterministic' (their statements: YtfajffchnnalaaaTotals.lean).
  GIVEN WITH THE SEED: the statements are not yours to turn. If you find one false, say at which input.
  Laid BY PROGRAM, IN A SANDBOX (cutbox-rows.mjs): the forced cells as the released guide's own fill.sh prints them over the translation 2d4c295bf858289e… (all of the seat's roots in one cut). By AI agents, Wed Nov 11 2026. No macro, syntax, notation, axiom, sorry.
-/
import Derived.Test.YtfajffchnnalaaaChecked
import GoSem.Claim
import GoSem.ClaimJoined
import GoSem.ClaimMapViews
import Derived.JoinedTies
import Derived.KernelRfl
namespace Go.Proofs.Ytfajffchnnalaaa
/- THE CELL 'sum', in the pinned program and in every row, IS THE sha256 OF THE DUMP (.gsa) THAT YtfajffchnnalaaaProg.lean LOADS. Nothing in Lean hashes anything: it is a label: what it is worth is what the hold of that sum in a sandbox is worth. -/
noncomputable def Try.pinned : Pinned := { name := "ytfajffchnnalaaa", sum := "2d4c295bf858289e81e716a114b199e45dbc6ff31b066a5e0da61a8f0ad85bfc", checked := Try.checked }
namespace Rows
def none {H : Type} : Left H := { results := [], args := [] }

/-- 'louverlaw06.HpackBack': WHATEVER THE INPUT: true; the input reads as it did. -/
def hpackBackSpec : ChangeSpec := { name := "hpackBack", fn := fun _ => fun
  | [d1, d2, d3] => { results := [.lit (.bool true)], args := [d1, d2, d3] }
  | _ => none }
def hpackBackRow : OpenClaim := { program := "ytfajffchnnalaaa", sum := "2d4c295bf858289e81e716a114b199e45dbc6ff31b066a5e0da61a8f0ad85bfc", func := "louver/louverlaw06.HpackBack", spec := "hpackBack", plainKeys := false, apart := false }
def HpackBackSaid : Prop := hpackBackRow.holds Try.pinned (OpenSpec.ofChange hpackBackSpec)

/-- ITS FALSE NEIGHBOUR: 'it returns false'. Refute it at one input. -/
def hpackBackWrong : ChangeSpec := { name := "hpackBack", fn := fun _ => fun
  | [d1, d2, d3] => { results := [.lit (.bool false)], args := [d1, d2, d3] }
  | _ => none }
def HpackBackWrongFalsely : Prop := hpackBackRow.holds Try.pinned (OpenSpec.ofChange hpackBackWrong)

/-- 'louverlaw06.HpackGets': WHATEVER THE INPUT: true; the input reads as it did. -/
def hpackGetsSpec : ChangeSpec := { name := "hpackGets", fn := fun _ => fun
  | [d1, d2] => { results := [.lit (.bool true)], args := [d1, d2] }
  | _ => none }
def hpackGetsRow : OpenClaim := { program := "ytfajffchnnalaaa", sum := "2d4c295bf858289e81e716a114b199e45dbc6ff31b066a5e0da61a8f0ad85bfc", func := "louver/louverlaw06.HpackGets", spec := "hpackGets", plainKeys := false, apart := false }
def HpackGetsSaid : Prop := hpackGetsRow.holds Try.pinned (OpenSpec.ofChange hpackGetsSpec)

/-- ITS FALSE NEIGHBOUR: 'it returns false'. Refute it at one input. -/
def hpackGetsWrong : ChangeSpec := { name := "hpackGets", fn := fun _ => fun
  | [d1, d2] => { results := [.lit (.bool false)], args := [d1, d2] }
  | _ => none }
def HpackGetsWrongFalsely : Prop := hpackGetsRow.holds Try.pinned (OpenSpec.ofChange hpackGetsWrong)

/-- 'louverlaw06.HpackSame': WHATEVER THE INPUT: true; the input reads as it did. -/
def hpackSameSpec : ChangeSpec := { name := "hpackSame", fn := fun _ => fun
  | [d1, d2] => { results := [.lit (.bool true)], args := [d1, d2] }
  | _ => none }
def hpackSameRow : OpenClaim := { program := "ytfajffchnnalaaa", sum := "2d4c295bf858289e81e716a114b199e45dbc6ff31b066a5e0da61a8f0ad85bfc", func := "louver/louverlaw06.HpackSame", spec := "hpackSame", plainKeys := false, apart := false }
def HpackSameSaid : Prop := hpackSameRow.holds Try.pinned (OpenSpec.ofChange hpackSameSpec)

/-- ITS FALSE NEIGHBOUR: 'it returns false'. Refute it at one input. -/
def hpackSameWrong : ChangeSpec := { name := "hpackSame", fn := fun _ => fun
  | [d1, d2] => { results := [.lit (.bool false)], args := [d1, d2] }
  | _ => none }
def HpackSameWrongFalsely : Prop := hpackSameRow.holds Try.pinned (OpenSpec.ofChange hpackSameWrong)

/-- 'louverlaw06.HpackNil': WHATEVER THE INPUT: true; the input reads as it did. -/
def hpackNilSpec : ChangeSpec := { name := "hpackNil", fn := fun _ => fun
  | [d1, d2] => { results := [.lit (.bool true)], args := [d1, d2] }
  | _ => none }
def hpackNilRow : OpenClaim := { program := "ytfajffchnnalaaa", sum := "2d4c295bf858289e81e716a114b199e45dbc6ff31b066a5e0da61a8f0ad85bfc", func := "louver/louverlaw06.HpackNil", spec := "hpackNil", plainKeys := false, apart := false }
def HpackNilSaid : Prop := hpackNilRow.holds Try.pinned (OpenSpec.ofChange hpackNilSpec)

/-- ITS FALSE NEIGHBOUR: 'it returns false'. Refute it at one input. -/
def hpackNilWrong : ChangeSpec := { name := "hpackNil", fn := fun _ => fun
  | [d1, d2] => { results := [.lit (.bool false)], args := [d1, d2] }
  | _ => none }
def HpackNilWrongFalsely : Prop := hpackNilRow.holds Try.pinned (OpenSpec.ofChange hpackNilWrong)

/-- 'louverlaw06.HpackTwice': WHATEVER THE INPUT: true; the input reads as it did. -/
def hpackTwiceSpec : ChangeSpec := { name := "hpackTwice", fn := fun _ => fun
  | [d] => { results := [.lit (.bool true)], args := [d] }
  | _ => none }
def hpackTwiceRow : OpenClaim := { program := "ytfajffchnnalaaa", sum := "2d4c295bf858289e81e716a114b199e45dbc6ff31b066a5e0da61a8f0ad85bfc", func := "louver/louverlaw06.HpackTwice", spec := "hpackTwice", plainKeys := false, apart := false }
def HpackTwiceSaid : Prop := hpackTwiceRow.holds Try.pinned (OpenSpec.ofChange hpackTwiceSpec)

/-- ITS FALSE NEIGHBOUR: 'it returns false'. Refute it at one input. -/
def hpackTwiceWrong : ChangeSpec := { name := "hpackTwice", fn := fun _ => fun
  | [d] => { results := [.lit (.bool false)], args := [d] }
  | _ => none }
def HpackTwiceWrongFalsely : Prop := hpackTwiceRow.holds Try.pinned (OpenSpec.ofChange hpackTwiceWrong)

/-- 'louverlaw06.HpackGreat': WHATEVER THE INPUT: true; the input reads as it did. -/
def hpackGreatSpec : ChangeSpec := { name := "hpackGreat", fn := fun _ => fun
  | [d1, d2] => { results := [.lit (.bool true)], args := [d1, d2] }
  | _ => none }
def hpackGreatRow : OpenClaim := { program := "ytfajffchnnalaaa", sum := "2d4c295bf858289e81e716a114b199e45dbc6ff31b066a5e0da61a8f0ad85bfc", func := "louver/louverlaw06.HpackGreat", spec := "hpackGreat", plainKeys := false, apart := false }
def HpackGreatSaid : Prop := hpackGreatRow.holds Try.pinned (OpenSpec.ofChange hpackGreatSpec)

/-- ITS FALSE NEIGHBOUR: 'it returns false'. Refute it at one input. -/
def hpackGreatWrong : ChangeSpec := { name := "hpackGreat", fn := fun _ => fun
  | [d1, d2] => { results := [.lit (.bool false)], args := [d1, d2] }
  | _ => none }
def HpackGreatWrongFalsely : Prop := hpackGreatRow.holds Try.pinned (OpenSpec.ofChange hpackGreatWrong)

/- THE SECOND FORM. 'bulk': how many values and letters a reading holds, each counted each time it is reached (what is shared counts as often as it is met; a slice's spare places count too). A statement '..UptoSaid' is the law's where the arguments, and the package variables that the reading takes, are together of bulk at most 1048576: NARROWER than '..Said'. Prove '..Said' where nothing that the law and all that it calls make is longer than what came in: it says more and counts as full. Else prove '..UptoSaid'. A law counts once. -/
mutual
def uptoBulk {H : Type} : DataW H → Nat
  | .lit (.string bytes) => bytes.length + 1
  | .lit _ => 1
  | .nil => 1
  | .ptr d => uptoBulk d + 1
  | .slice elems spare => uptoBulkAll elems + uptoBulkAll spare + 1
  | .agg parts => uptoBulkAll parts + 1
  | .iface _ d => uptoBulk d + 1
  | .map entries => uptoBulkEntries entries + 1
  | .held _ => 1
def uptoBulkAll {H : Type} : List (DataW H) → Nat
  | [] => 0
  | d :: r => uptoBulk d + uptoBulkAll r
def uptoBulkEntries {H : Type} : List (Lit × DataW H) → Nat
  | [] => 0
  | x :: r => uptoBulkEntry x + uptoBulkEntries r
def uptoBulkEntry {H : Type} : Lit × DataW H → Nat
  | (.string bytes, d) => bytes.length + uptoBulk d + 1
  | (_, d) => uptoBulk d + 1
 end
def uptoSmall : (H : Type) → List (DataW H) → Bool := fun _ ds => decide (uptoBulkAll ds ≤ 1048576)
def OpenSpec.upto (s : _root_.Go.ChangeSpec) : _root_.Go.OpenSpec := { _root_.Go.OpenSpec.ofChange s with cond := some uptoSmall }

/-- 'louverlaw06.HpackBack', WHERE WHAT IT READS IS OF BULK AT MOST 1048576: true; the input reads as it did. -/
def hpackBackUptoRow : OpenClaim := { program := "ytfajffchnnalaaa", sum := "2d4c295bf858289e81e716a114b199e45dbc6ff31b066a5e0da61a8f0ad85bfc", func := "louver/louverlaw06.HpackBack", spec := "hpackBack", plainKeys := false, apart := false, narrowed := true }
def HpackBackUptoSaid : Prop := hpackBackUptoRow.holds Try.pinned (OpenSpec.upto hpackBackSpec)

/-- 'louverlaw06.HpackGets', WHERE WHAT IT READS IS OF BULK AT MOST 1048576: true; the input reads as it did. -/
def hpackGetsUptoRow : OpenClaim := { program := "ytfajffchnnalaaa", sum := "2d4c295bf858289e81e716a114b199e45dbc6ff31b066a5e0da61a8f0ad85bfc", func := "louver/louverlaw06.HpackGets", spec := "hpackGets", plainKeys := false, apart := false, narrowed := true }
def HpackGetsUptoSaid : Prop := hpackGetsUptoRow.holds Try.pinned (OpenSpec.upto hpackGetsSpec)

/-- 'louverlaw06.HpackSame', WHERE WHAT IT READS IS OF BULK AT MOST 1048576: true; the input reads as it did. -/
def hpackSameUptoRow : OpenClaim := { program := "ytfajffchnnalaaa", sum := "2d4c295bf858289e81e716a114b199e45dbc6ff31b066a5e0da61a8f0ad85bfc", func := "louver/louverlaw06.HpackSame", spec := "hpackSame", plainKeys := false, apart := false, narrowed := true }
def HpackSameUptoSaid : Prop := hpackSameUptoRow.holds Try.pinned (OpenSpec.upto hpackSameSpec)

/-- 'louverlaw06.HpackNil', WHERE WHAT IT READS IS OF BULK AT MOST 1048576: true; the input reads as it did. -/
def hpackNilUptoRow : OpenClaim := { program := "ytfajffchnnalaaa", sum := "2d4c295bf858289e81e716a114b199e45dbc6ff31b066a5e0da61a8f0ad85bfc", func := "louver/louverlaw06.HpackNil", spec := "hpackNil", plainKeys := false, apart := false, narrowed := true }
def HpackNilUptoSaid : Prop := hpackNilUptoRow.holds Try.pinned (OpenSpec.upto hpackNilSpec)

/-- 'louverlaw06.HpackTwice', WHERE WHAT IT READS IS OF BULK AT MOST 1048576: true; the input reads as it did. -/
def hpackTwiceUptoRow : OpenClaim := { program := "ytfajffchnnalaaa", sum := "2d4c295bf858289e81e716a114b199e45dbc6ff31b066a5e0da61a8f0ad85bfc", func := "louver/louverlaw06.HpackTwice", spec := "hpackTwice", plainKeys := false, apart := false, narrowed := true }
def HpackTwiceUptoSaid : Prop := hpackTwiceUptoRow.holds Try.pinned (OpenSpec.upto hpackTwiceSpec)

/-- 'louverlaw06.HpackGreat', WHERE WHAT IT READS IS OF BULK AT MOST 1048576: true; the input reads as it did. -/
def hpackGreatUptoRow : OpenClaim := { program := "ytfajffchnnalaaa", sum := "2d4c295bf858289e81e716a114b199e45dbc6ff31b066a5e0da61a8f0ad85bfc", func := "louver/louverlaw06.HpackGreat", spec := "hpackGreat", plainKeys := false, apart := false, narrowed := true }
def HpackGreatUptoSaid : Prop := hpackGreatUptoRow.holds Try.pinned (OpenSpec.upto hpackGreatSpec)

end Rows
end Go.Proofs.Ytfajffchnnalaaa
