/-
  No cell of these rows narrows 'for every input' (looked for: loops, veiled, ifaces, maps, wideKeys, modest, calm, conditions, laid).
  DERIVED. THE GIVEN ROWS OF THIS SEAT. 6 by the template 'for every input the law returns true; each argument reads behind the call as it read before'; 0 by the template 'total and deterministic' (their statements: YtaegdageiacdbaaTotals.lean).
  GIVEN WITH THE SEED: the statements are not yours to turn. If you find one false, say at which input.
  Laid BY PROGRAM, IN A SANDBOX (cutbox-rows.mjs): the forced cells as the released guide's own fill.sh prints them over the translation 7b45c1d2b295ac03… (all of the seat's roots in one cut). By AI agents, Wed Nov 11 2026. No macro, syntax, notation, axiom, sorry.
-/
import Derived.Test.YtaegdageiacdbaaChecked
import GoSem.Claim
import GoSem.ClaimJoined
import GoSem.ClaimMapViews
import Derived.JoinedTies
import Derived.KernelRfl
namespace Go.Proofs.Ytaegdageiacdbaa
/- THE CELL 'sum', in the pinned program and in every row, IS THE sha256 OF THE DUMP (.gsa) THAT YtaegdageiacdbaaProg.lean LOADS. Nothing in Lean hashes anything: it is a label: what it is worth is what the hold of that sum in a sandbox is worth. -/
noncomputable def Try.pinned : Pinned := { name := "ytaegdageiacdbaa", sum := "7b45c1d2b295ac0373e375acd1300aa475acfa56846922c47f97e5b136bf77cf", checked := Try.checked }
namespace Rows
def none {H : Type} : Left H := { results := [], args := [] }

/-- 'louverlaw03.HuffmanCode': WHATEVER THE INPUT: true; the input reads as it did. -/
def huffmanCodeSpec : ChangeSpec := { name := "huffmanCode", fn := fun _ => fun
  | [d1, d2] => { results := [.lit (.bool true)], args := [d1, d2] }
  | _ => none }
def huffmanCodeRow : OpenClaim := { program := "ytaegdageiacdbaa", sum := "7b45c1d2b295ac0373e375acd1300aa475acfa56846922c47f97e5b136bf77cf", func := "louver/louverlaw03.HuffmanCode", spec := "huffmanCode", plainKeys := false, apart := false }
def HuffmanCodeSaid : Prop := huffmanCodeRow.holds Try.pinned (OpenSpec.ofChange huffmanCodeSpec)

/-- ITS FALSE NEIGHBOUR: 'it returns false'. Refute it at one input. -/
def huffmanCodeWrong : ChangeSpec := { name := "huffmanCode", fn := fun _ => fun
  | [d1, d2] => { results := [.lit (.bool false)], args := [d1, d2] }
  | _ => none }
def HuffmanCodeWrongFalsely : Prop := huffmanCodeRow.holds Try.pinned (OpenSpec.ofChange huffmanCodeWrong)

/-- 'louverlaw03.HuffmanFull': WHATEVER THE INPUT: true; the input reads as it did. -/
def huffmanFullSpec : ChangeSpec := { name := "huffmanFull", fn := fun _ => fun
  | [d] => { results := [.lit (.bool true)], args := [d] }
  | _ => none }
def huffmanFullRow : OpenClaim := { program := "ytaegdageiacdbaa", sum := "7b45c1d2b295ac0373e375acd1300aa475acfa56846922c47f97e5b136bf77cf", func := "louver/louverlaw03.HuffmanFull", spec := "huffmanFull", plainKeys := false, apart := false }
def HuffmanFullSaid : Prop := huffmanFullRow.holds Try.pinned (OpenSpec.ofChange huffmanFullSpec)

/-- ITS FALSE NEIGHBOUR: 'it returns false'. Refute it at one input. -/
def huffmanFullWrong : ChangeSpec := { name := "huffmanFull", fn := fun _ => fun
  | [d] => { results := [.lit (.bool false)], args := [d] }
  | _ => none }
def HuffmanFullWrongFalsely : Prop := huffmanFullRow.holds Try.pinned (OpenSpec.ofChange huffmanFullWrong)

/-- 'louverlaw03.HuffmanEncodes': WHATEVER THE INPUT: true; the input reads as it did. -/
def huffmanEncodesSpec : ChangeSpec := { name := "huffmanEncodes", fn := fun _ => fun
  | [d] => { results := [.lit (.bool true)], args := [d] }
  | _ => none }
def huffmanEncodesRow : OpenClaim := { program := "ytaegdageiacdbaa", sum := "7b45c1d2b295ac0373e375acd1300aa475acfa56846922c47f97e5b136bf77cf", func := "louver/louverlaw03.HuffmanEncodes", spec := "huffmanEncodes", plainKeys := false, apart := false }
def HuffmanEncodesSaid : Prop := huffmanEncodesRow.holds Try.pinned (OpenSpec.ofChange huffmanEncodesSpec)

/-- ITS FALSE NEIGHBOUR: 'it returns false'. Refute it at one input. -/
def huffmanEncodesWrong : ChangeSpec := { name := "huffmanEncodes", fn := fun _ => fun
  | [d] => { results := [.lit (.bool false)], args := [d] }
  | _ => none }
def HuffmanEncodesWrongFalsely : Prop := huffmanEncodesRow.holds Try.pinned (OpenSpec.ofChange huffmanEncodesWrong)

/-- 'louverlaw03.HuffmanDecodes': WHATEVER THE INPUT: true; the input reads as it did. -/
def huffmanDecodesSpec : ChangeSpec := { name := "huffmanDecodes", fn := fun _ => fun
  | [d] => { results := [.lit (.bool true)], args := [d] }
  | _ => none }
def huffmanDecodesRow : OpenClaim := { program := "ytaegdageiacdbaa", sum := "7b45c1d2b295ac0373e375acd1300aa475acfa56846922c47f97e5b136bf77cf", func := "louver/louverlaw03.HuffmanDecodes", spec := "huffmanDecodes", plainKeys := false, apart := false }
def HuffmanDecodesSaid : Prop := huffmanDecodesRow.holds Try.pinned (OpenSpec.ofChange huffmanDecodesSpec)

/-- ITS FALSE NEIGHBOUR: 'it returns false'. Refute it at one input. -/
def huffmanDecodesWrong : ChangeSpec := { name := "huffmanDecodes", fn := fun _ => fun
  | [d] => { results := [.lit (.bool false)], args := [d] }
  | _ => none }
def HuffmanDecodesWrongFalsely : Prop := huffmanDecodesRow.holds Try.pinned (OpenSpec.ofChange huffmanDecodesWrong)

/-- 'louverlaw03.HuffmanJoins': WHATEVER THE INPUT: true; the input reads as it did. -/
def huffmanJoinsSpec : ChangeSpec := { name := "huffmanJoins", fn := fun _ => fun
  | [d1, d2] => { results := [.lit (.bool true)], args := [d1, d2] }
  | _ => none }
def huffmanJoinsRow : OpenClaim := { program := "ytaegdageiacdbaa", sum := "7b45c1d2b295ac0373e375acd1300aa475acfa56846922c47f97e5b136bf77cf", func := "louver/louverlaw03.HuffmanJoins", spec := "huffmanJoins", plainKeys := false, apart := false }
def HuffmanJoinsSaid : Prop := huffmanJoinsRow.holds Try.pinned (OpenSpec.ofChange huffmanJoinsSpec)

/-- ITS FALSE NEIGHBOUR: 'it returns false'. Refute it at one input. -/
def huffmanJoinsWrong : ChangeSpec := { name := "huffmanJoins", fn := fun _ => fun
  | [d1, d2] => { results := [.lit (.bool false)], args := [d1, d2] }
  | _ => none }
def HuffmanJoinsWrongFalsely : Prop := huffmanJoinsRow.holds Try.pinned (OpenSpec.ofChange huffmanJoinsWrong)

/-- 'louverlaw03.HuffmanCuts': WHATEVER THE INPUT: true; the input reads as it did. -/
def huffmanCutsSpec : ChangeSpec := { name := "huffmanCuts", fn := fun _ => fun
  | [d1, d2] => { results := [.lit (.bool true)], args := [d1, d2] }
  | _ => none }
def huffmanCutsRow : OpenClaim := { program := "ytaegdageiacdbaa", sum := "7b45c1d2b295ac0373e375acd1300aa475acfa56846922c47f97e5b136bf77cf", func := "louver/louverlaw03.HuffmanCuts", spec := "huffmanCuts", plainKeys := false, apart := false }
def HuffmanCutsSaid : Prop := huffmanCutsRow.holds Try.pinned (OpenSpec.ofChange huffmanCutsSpec)

/-- ITS FALSE NEIGHBOUR: 'it returns false'. Refute it at one input. -/
def huffmanCutsWrong : ChangeSpec := { name := "huffmanCuts", fn := fun _ => fun
  | [d1, d2] => { results := [.lit (.bool false)], args := [d1, d2] }
  | _ => none }
def HuffmanCutsWrongFalsely : Prop := huffmanCutsRow.holds Try.pinned (OpenSpec.ofChange huffmanCutsWrong)

/- THE SECOND FORM. 'bulk': how many values and letters a reading holds, each counted each time it is reached (what is shared counts as often as it is met; a slice's spare places count too). A statement '..UptoSaid' is the law's where the arguments, and the package variables that the reading takes, are together of bulk at most 1048576: NARROWER than '..Said'. Prove '..Said' where nothing that the law and all that it calls make is longer than what came in: it says more and counts as full. Else prove '..UptoSaid'. A law counts once. -/
mutual
def uptoBulk {H : Type} : DataW H → Nat
  | .lit (.string bytes) => bytes.length + 1
  | .lit _ => 1
  | .nil => 1
  | .ptr d => uptoBulk d + 1
  | .slice elems spare => uptoBulkAll elems + uptoBulkAll spare + 1
  | .agg parts => uptoBulkAll parts + 1
  | .iface _ d => uptoBulk d + 1
  | .map entries => uptoBulkEntries entries + 1
  | .held _ => 1
def uptoBulkAll {H : Type} : List (DataW H) → Nat
  | [] => 0
  | d :: r => uptoBulk d + uptoBulkAll r
def uptoBulkEntries {H : Type} : List (Lit × DataW H) → Nat
  | [] => 0
  | x :: r => uptoBulkEntry x + uptoBulkEntries r
def uptoBulkEntry {H : Type} : Lit × DataW H → Nat
  | (.string bytes, d) => bytes.length + uptoBulk d + 1
  | (_, d) => uptoBulk d + 1
 end
def uptoSmall : (H : Type) → List (DataW H) → Bool := fun _ ds => decide (uptoBulkAll ds ≤ 1048576)
def OpenSpec.upto (s : _root_.Go.ChangeSpec) : _root_.Go.OpenSpec := { _root_.Go.OpenSpec.ofChange s with cond := some uptoSmall }

/-- 'louverlaw03.HuffmanCode', WHERE WHAT IT READS IS OF BULK AT MOST 1048576: true; the input reads as it did. -/
def huffmanCodeUptoRow : OpenClaim := { program := "ytaegdageiacdbaa", sum := "7b45c1d2b295ac0373e375acd1300aa475acfa56846922c47f97e5b136bf77cf", func := "louver/louverlaw03.HuffmanCode", spec := "huffmanCode", plainKeys := false, apart := false, narrowed := true }
def HuffmanCodeUptoSaid : Prop := huffmanCodeUptoRow.holds Try.pinned (OpenSpec.upto huffmanCodeSpec)

/-- 'louverlaw03.HuffmanFull', WHERE WHAT IT READS IS OF BULK AT MOST 1048576: true; the input reads as it did. -/
def huffmanFullUptoRow : OpenClaim := { program := "ytaegdageiacdbaa", sum := "7b45c1d2b295ac0373e375acd1300aa475acfa56846922c47f97e5b136bf77cf", func := "louver/louverlaw03.HuffmanFull", spec := "huffmanFull", plainKeys := false, apart := false, narrowed := true }
def HuffmanFullUptoSaid : Prop := huffmanFullUptoRow.holds Try.pinned (OpenSpec.upto huffmanFullSpec)

/-- 'louverlaw03.HuffmanEncodes', WHERE WHAT IT READS IS OF BULK AT MOST 1048576: true; the input reads as it did. -/
def huffmanEncodesUptoRow : OpenClaim := { program := "ytaegdageiacdbaa", sum := "7b45c1d2b295ac0373e375acd1300aa475acfa56846922c47f97e5b136bf77cf", func := "louver/louverlaw03.HuffmanEncodes", spec := "huffmanEncodes", plainKeys := false, apart := false, narrowed := true }
def HuffmanEncodesUptoSaid : Prop := huffmanEncodesUptoRow.holds Try.pinned (OpenSpec.upto huffmanEncodesSpec)

/-- 'louverlaw03.HuffmanDecodes', WHERE WHAT IT READS IS OF BULK AT MOST 1048576: true; the input reads as it did. -/
def huffmanDecodesUptoRow : OpenClaim := { program := "ytaegdageiacdbaa", sum := "7b45c1d2b295ac0373e375acd1300aa475acfa56846922c47f97e5b136bf77cf", func := "louver/louverlaw03.HuffmanDecodes", spec := "huffmanDecodes", plainKeys := false, apart := false, narrowed := true }
def HuffmanDecodesUptoSaid : Prop := huffmanDecodesUptoRow.holds Try.pinned (OpenSpec.upto huffmanDecodesSpec)

/-- 'louverlaw03.HuffmanJoins', WHERE WHAT IT READS IS OF BULK AT MOST 1048576: true; the input reads as it did. -/
def huffmanJoinsUptoRow : OpenClaim := { program := "ytaegdageiacdbaa", sum := "7b45c1d2b295ac0373e375acd1300aa475acfa56846922c47f97e5b136bf77cf", func := "louver/louverlaw03.HuffmanJoins", spec := "huffmanJoins", plainKeys := false, apart := false, narrowed := true }
def HuffmanJoinsUptoSaid : Prop := huffmanJoinsUptoRow.holds Try.pinned (OpenSpec.upto huffmanJoinsSpec)

/-- 'louverlaw03.HuffmanCuts', WHERE WHAT IT READS IS OF BULK AT MOST 1048576: true; the input reads as it did. -/
def huffmanCutsUptoRow : OpenClaim := { program := "ytaegdageiacdbaa", sum := "7b45c1d2b295ac0373e375acd1300aa475acfa56846922c47f97e5b136bf77cf", func := "louver/louverlaw03.HuffmanCuts", spec := "huffmanCuts", plainKeys := false, apart := false, narrowed := true }
def HuffmanCutsUptoSaid : Prop := huffmanCutsUptoRow.holds Try.pinned (OpenSpec.upto huffmanCutsSpec)

end Rows
end Go.Proofs.Ytaegdageiacdbaa
