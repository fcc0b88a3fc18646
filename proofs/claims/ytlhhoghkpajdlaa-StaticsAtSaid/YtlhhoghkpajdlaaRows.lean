/-
  No cell of these rows narrows 'for every input' (looked for: loops, veiled, ifaces, maps, wideKeys, modest, calm, conditions, laid).
  DERIVED. THE GIVEN ROWS OF THIS SEAT. 3 by the template 'for every input the law returns true; each argument reads behind the call as it read before'; 0 by the template 'total and deterministic' (their statements: YtlhhoghkpajdlaaTotals.lean).
  GIVEN WITH THE SEED: the statements are not yours to turn. If you find one false, say at which input.
  Laid BY PROGRAM, IN A SANDBOX (cutbox-rows.mjs): the forced cells as the released guide's own fill.sh prints them over the translation d69294a2694fa21f… (all of the seat's roots in one cut). By AI agents, Wed Nov 11 2026. No macro, syntax, notation, axiom, sorry.
-/
import Derived.Test.YtlhhoghkpajdlaaChecked
import GoSem.Claim
import GoSem.ClaimJoined
import GoSem.ClaimMapViews
import Derived.JoinedTies
import Derived.KernelRfl
namespace Go.Proofs.Ytlhhoghkpajdlaa
/- THE CELL 'sum', in the pinned program and in every row, IS THE sha256 OF THE DUMP (.gsa) THAT YtlhhoghkpajdlaaProg.lean LOADS. Nothing in Lean hashes anything: it is a label: what it is worth is what the hold of that sum in a sandbox is worth. -/
noncomputable def Try.pinned : Pinned := { name := "ytlhhoghkpajdlaa", sum := "d69294a2694fa21f687a49e7cb3ebb9261b01d7e93497e7f28fc51552ec09d09", checked := Try.checked }
namespace Rows
def none {H : Type} : Left H := { results := [], args := [] }

/-- 'louverlaw04.StaticsAt': WHATEVER THE INPUT: true; the input reads as it did. -/
def staticsAtSpec : ChangeSpec := { name := "staticsAt", fn := fun _ => fun
  | [d] => { results := [.lit (.bool true)], args := [d] }
  | _ => none }
def staticsAtRow : OpenClaim := { program := "ytlhhoghkpajdlaa", sum := "d69294a2694fa21f687a49e7cb3ebb9261b01d7e93497e7f28fc51552ec09d09", func := "louver/louverlaw04.StaticsAt", spec := "staticsAt", apart := false }
def StaticsAtSaid : Prop := staticsAtRow.holds Try.pinned (OpenSpec.ofChange staticsAtSpec)

/-- ITS FALSE NEIGHBOUR: 'it returns false'. Refute it at one input. -/
def staticsAtWrong : ChangeSpec := { name := "staticsAt", fn := fun _ => fun
  | [d] => { results := [.lit (.bool false)], args := [d] }
  | _ => none }
def StaticsAtWrongFalsely : Prop := staticsAtRow.holds Try.pinned (OpenSpec.ofChange staticsAtWrong)

/-- 'louverlaw04.StaticsFind': WHATEVER THE INPUT: true; the input reads as it did. -/
def staticsFindSpec : ChangeSpec := { name := "staticsFind", fn := fun _ => fun
  | [d1, d2] => { results := [.lit (.bool true)], args := [d1, d2] }
  | _ => none }
def staticsFindRow : OpenClaim := { program := "ytlhhoghkpajdlaa", sum := "d69294a2694fa21f687a49e7cb3ebb9261b01d7e93497e7f28fc51552ec09d09", func := "louver/louverlaw04.StaticsFind", spec := "staticsFind", apart := false }
def StaticsFindSaid : Prop := staticsFindRow.holds Try.pinned (OpenSpec.ofChange staticsFindSpec)

/-- ITS FALSE NEIGHBOUR: 'it returns false'. Refute it at one input. -/
def staticsFindWrong : ChangeSpec := { name := "staticsFind", fn := fun _ => fun
  | [d1, d2] => { results := [.lit (.bool false)], args := [d1, d2] }
  | _ => none }
def StaticsFindWrongFalsely : Prop := staticsFindRow.holds Try.pinned (OpenSpec.ofChange staticsFindWrong)

/-- 'louverlaw04.StaticsNames': WHATEVER THE INPUT: true; the input reads as it did. -/
def staticsNamesSpec : ChangeSpec := { name := "staticsNames", fn := fun _ => fun
  | [d1, d2] => { results := [.lit (.bool true)], args := [d1, d2] }
  | _ => none }
def staticsNamesRow : OpenClaim := { program := "ytlhhoghkpajdlaa", sum := "d69294a2694fa21f687a49e7cb3ebb9261b01d7e93497e7f28fc51552ec09d09", func := "louver/louverlaw04.StaticsNames", spec := "staticsNames", apart := false }
def StaticsNamesSaid : Prop := staticsNamesRow.holds Try.pinned (OpenSpec.ofChange staticsNamesSpec)

/-- ITS FALSE NEIGHBOUR: 'it returns false'. Refute it at one input. -/
def staticsNamesWrong : ChangeSpec := { name := "staticsNames", fn := fun _ => fun
  | [d1, d2] => { results := [.lit (.bool false)], args := [d1, d2] }
  | _ => none }
def StaticsNamesWrongFalsely : Prop := staticsNamesRow.holds Try.pinned (OpenSpec.ofChange staticsNamesWrong)

/- THE SECOND FORM. 'bulk': how many values and letters a reading holds, each counted each time it is reached (what is shared counts as often as it is met; a slice's spare places count too). A statement '..UptoSaid' is the law's where the arguments, and the package variables that the reading takes, are together of bulk at most 1048576: NARROWER than '..Said'. Prove '..Said' where nothing that the law and all that it calls make is longer than what came in: it says more and counts as full. Else prove '..UptoSaid'. A law counts once. -/
mutual
def uptoBulk {H : Type} : DataW H → Nat
  | .lit (.string bytes) => bytes.length + 1
  | .lit _ => 1
  | .nil => 1
  | .ptr d => uptoBulk d + 1
  | .slice elems spare => uptoBulkAll elems + uptoBulkAll spare + 1
  | .agg parts => uptoBulkAll parts + 1
  | .iface _ d => uptoBulk d + 1
  | .map entries => uptoBulkEntries entries + 1
  | .held _ => 1
def uptoBulkAll {H : Type} : List (DataW H) → Nat
  | [] => 0
  | d :: r => uptoBulk d + uptoBulkAll r
def uptoBulkEntries {H : Type} : List (Lit × DataW H) → Nat
  | [] => 0
  | x :: r => uptoBulkEntry x + uptoBulkEntries r
def uptoBulkEntry {H : Type} : Lit × DataW H → Nat
  | (.string bytes, d) => bytes.length + uptoBulk d + 1
  | (_, d) => uptoBulk d + 1
 end
def uptoSmall : (H : Type) → List (DataW H) → Bool := fun _ ds => decide (uptoBulkAll ds ≤ 1048576)
def OpenSpec.upto (s : _root_.Go.ChangeSpec) : _root_.Go.OpenSpec := { _root_.Go.OpenSpec.ofChange s with cond := some uptoSmall }

/-- 'louverlaw04.StaticsAt', WHERE WHAT IT READS IS OF BULK AT MOST 1048576: true; the input reads as it did. -/
def staticsAtUptoRow : OpenClaim := { program := "ytlhhoghkpajdlaa", sum := "d69294a2694fa21f687a49e7cb3ebb9261b01d7e93497e7f28fc51552ec09d09", func := "louver/louverlaw04.StaticsAt", spec := "staticsAt", apart := false, narrowed := true }
def StaticsAtUptoSaid : Prop := staticsAtUptoRow.holds Try.pinned (OpenSpec.upto staticsAtSpec)

/-- 'louverlaw04.StaticsFind', WHERE WHAT IT READS IS OF BULK AT MOST 1048576: true; the input reads as it did. -/
def staticsFindUptoRow : OpenClaim := { program := "ytlhhoghkpajdlaa", sum := "d69294a2694fa21f687a49e7cb3ebb9261b01d7e93497e7f28fc51552ec09d09", func := "louver/louverlaw04.StaticsFind", spec := "staticsFind", apart := false, narrowed := true }
def StaticsFindUptoSaid : Prop := staticsFindUptoRow.holds Try.pinned (OpenSpec.upto staticsFindSpec)

/-- 'louverlaw04.StaticsNames', WHERE WHAT IT READS IS OF BULK AT MOST 1048576: true; the input reads as it did. -/
def staticsNamesUptoRow : OpenClaim := { program := "ytlhhoghkpajdlaa", sum := "d69294a2694fa21f687a49e7cb3ebb9261b01d7e93497e7f28fc51552ec09d09", func := "louver/louverlaw04.StaticsNames", spec := "staticsNames", apart := false, narrowed := true }
def StaticsNamesUptoSaid : Prop := staticsNamesUptoRow.holds Try.pinned (OpenSpec.upto staticsNamesSpec)

end Rows
end Go.Proofs.Ytlhhoghkpajdlaa
