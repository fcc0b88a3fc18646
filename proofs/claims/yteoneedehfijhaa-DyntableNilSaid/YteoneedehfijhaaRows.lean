/-
  No cell of these rows narrows 'for every input' (looked for: loops, veiled, ifaces, maps, wideKeys, modest, calm, conditions, laid).
  DERIVED. THE GIVEN ROWS OF THIS SEAT. 4 by the template 'for every input the law returns true; each argument reads behind the call as it read before'; 0 by the template 'total and deterministic' (their statements: YteoneedehfijhaaTotals.lean).
  GIVEN WITH THE SEED: the statements are not yours to turn. If you find one false, say at which input.
  Laid BY PROGRAM, IN A SANDBOX (cutbox-rows.mjs): the forced cells as the released guide's own fill.sh prints them over the translation e956fb7900587b4b… (all of the seat's roots in one cut). By AI agents, Wed Nov 11 2026. No macro, syntax, notation, axiom, sorry.
-/
import Derived.Test.YteoneedehfijhaaChecked
import GoSem.Claim
import GoSem.ClaimJoined
import GoSem.ClaimMapViews
import Derived.JoinedTies
import Derived.KernelRfl
namespace Go.Proofs.Yteoneedehfijhaa
/- THE CELL 'sum', in the pinned program and in every row, IS THE sha256 OF THE DUMP (.gsa) THAT YteoneedehfijhaaProg.lean LOADS. Nothing in Lean hashes anything: it is a label: what it is worth is what the hold of that sum in a sandbox is worth. -/
noncomputable def Try.pinned : Pinned := { name := "yteoneedehfijhaa", sum := "e956fb7900587b4b6600ab0c1a376718a29109a69cf54b562f3f445dc87f44a5", checked := Try.checked }
namespace Rows
def none {H : Type} : Left H := { results := [], args := [] }

/-- 'louverlaw05.DyntablePlays': WHATEVER THE INPUT: true; the input reads as it did. -/
def dyntablePlaysSpec : ChangeSpec := { name := "dyntablePlays", fn := fun _ => fun
  | [d1, d2] => { results := [.lit (.bool true)], args := [d1, d2] }
  | _ => none }
def dyntablePlaysRow : OpenClaim := { program := "yteoneedehfijhaa", sum := "e956fb7900587b4b6600ab0c1a376718a29109a69cf54b562f3f445dc87f44a5", func := "louver/louverlaw05.DyntablePlays", spec := "dyntablePlays", apart := false }
def DyntablePlaysSaid : Prop := dyntablePlaysRow.holds Try.pinned (OpenSpec.ofChange dyntablePlaysSpec)

/-- ITS FALSE NEIGHBOUR: 'it returns false'. Refute it at one input. -/
def dyntablePlaysWrong : ChangeSpec := { name := "dyntablePlays", fn := fun _ => fun
  | [d1, d2] => { results := [.lit (.bool false)], args := [d1, d2] }
  | _ => none }
def DyntablePlaysWrongFalsely : Prop := dyntablePlaysRow.holds Try.pinned (OpenSpec.ofChange dyntablePlaysWrong)

/-- 'louverlaw05.DyntableSame': WHATEVER THE INPUT: true; the input reads as it did. -/
def dyntableSameSpec : ChangeSpec := { name := "dyntableSame", fn := fun _ => fun
  | [d1, d2, d3] => { results := [.lit (.bool true)], args := [d1, d2, d3] }
  | _ => none }
def dyntableSameRow : OpenClaim := { program := "yteoneedehfijhaa", sum := "e956fb7900587b4b6600ab0c1a376718a29109a69cf54b562f3f445dc87f44a5", func := "louver/louverlaw05.DyntableSame", spec := "dyntableSame", apart := false }
def DyntableSameSaid : Prop := dyntableSameRow.holds Try.pinned (OpenSpec.ofChange dyntableSameSpec)

/-- ITS FALSE NEIGHBOUR: 'it returns false'. Refute it at one input. -/
def dyntableSameWrong : ChangeSpec := { name := "dyntableSame", fn := fun _ => fun
  | [d1, d2, d3] => { results := [.lit (.bool false)], args := [d1, d2, d3] }
  | _ => none }
def DyntableSameWrongFalsely : Prop := dyntableSameRow.holds Try.pinned (OpenSpec.ofChange dyntableSameWrong)

/-- 'louverlaw05.DyntableNil': WHATEVER THE INPUT: true; the input reads as it did. -/
def dyntableNilSpec : ChangeSpec := { name := "dyntableNil", fn := fun _ => fun
  | [d1, d2] => { results := [.lit (.bool true)], args := [d1, d2] }
  | _ => none }
def dyntableNilRow : OpenClaim := { program := "yteoneedehfijhaa", sum := "e956fb7900587b4b6600ab0c1a376718a29109a69cf54b562f3f445dc87f44a5", func := "louver/louverlaw05.DyntableNil", spec := "dyntableNil", apart := false }
def DyntableNilSaid : Prop := dyntableNilRow.holds Try.pinned (OpenSpec.ofChange dyntableNilSpec)

/-- ITS FALSE NEIGHBOUR: 'it returns false'. Refute it at one input. -/
def dyntableNilWrong : ChangeSpec := { name := "dyntableNil", fn := fun _ => fun
  | [d1, d2] => { results := [.lit (.bool false)], args := [d1, d2] }
  | _ => none }
def DyntableNilWrongFalsely : Prop := dyntableNilRow.holds Try.pinned (OpenSpec.ofChange dyntableNilWrong)

/-- 'louverlaw05.DyntableOldest': WHATEVER THE INPUT: true; the input reads as it did. -/
def dyntableOldestSpec : ChangeSpec := { name := "dyntableOldest", fn := fun _ => fun
  | [d1, d2, d3] => { results := [.lit (.bool true)], args := [d1, d2, d3] }
  | _ => none }
def dyntableOldestRow : OpenClaim := { program := "yteoneedehfijhaa", sum := "e956fb7900587b4b6600ab0c1a376718a29109a69cf54b562f3f445dc87f44a5", func := "louver/louverlaw05.DyntableOldest", spec := "dyntableOldest", apart := false }
def DyntableOldestSaid : Prop := dyntableOldestRow.holds Try.pinned (OpenSpec.ofChange dyntableOldestSpec)

/-- ITS FALSE NEIGHBOUR: 'it returns false'. Refute it at one input. -/
def dyntableOldestWrong : ChangeSpec := { name := "dyntableOldest", fn := fun _ => fun
  | [d1, d2, d3] => { results := [.lit (.bool false)], args := [d1, d2, d3] }
  | _ => none }
def DyntableOldestWrongFalsely : Prop := dyntableOldestRow.holds Try.pinned (OpenSpec.ofChange dyntableOldestWrong)

/- THE SECOND FORM. 'bulk': how many values and letters a reading holds, each counted each time it is reached (what is shared counts as often as it is met; a slice's spare places count too). A statement '..UptoSaid' is the law's where the arguments, and the package variables that the reading takes, are together of bulk at most 1048576: NARROWER than '..Said'. Prove '..Said' where nothing that the law and all that it calls make is longer than what came in: it says more and counts as full. Else prove '..UptoSaid'. A law counts once. -/
mutual
def uptoBulk {H : Type} : DataW H → Nat
  | .lit (.string bytes) => bytes.length + 1
  | .lit _ => 1
  | .nil => 1
  | .ptr d => uptoBulk d + 1
  | .slice elems spare => uptoBulkAll elems + uptoBulkAll spare + 1
  | .agg parts => uptoBulkAll parts + 1
  | .iface _ d => uptoBulk d + 1
  | .map entries => uptoBulkEntries entries + 1
  | .held _ => 1
def uptoBulkAll {H : Type} : List (DataW H) → Nat
  | [] => 0
  | d :: r => uptoBulk d + uptoBulkAll r
def uptoBulkEntries {H : Type} : List (Lit × DataW H) → Nat
  | [] => 0
  | x :: r => uptoBulkEntry x + uptoBulkEntries r
def uptoBulkEntry {H : Type} : Lit × DataW H → Nat
  | (.string bytes, d) => bytes.length + uptoBulk d + 1
  | (_, d) => uptoBulk d + 1
 end
def uptoSmall : (H : Type) → List (DataW H) → Bool := fun _ ds => decide (uptoBulkAll ds ≤ 1048576)
def OpenSpec.upto (s : _root_.Go.ChangeSpec) : _root_.Go.OpenSpec := { _root_.Go.OpenSpec.ofChange s with cond := some uptoSmall }

/-- 'louverlaw05.DyntablePlays', WHERE WHAT IT READS IS OF BULK AT MOST 1048576: true; the input reads as it did. -/
def dyntablePlaysUptoRow : OpenClaim := { program := "yteoneedehfijhaa", sum := "e956fb7900587b4b6600ab0c1a376718a29109a69cf54b562f3f445dc87f44a5", func := "louver/louverlaw05.DyntablePlays", spec := "dyntablePlays", apart := false, narrowed := true }
def DyntablePlaysUptoSaid : Prop := dyntablePlaysUptoRow.holds Try.pinned (OpenSpec.upto dyntablePlaysSpec)

/-- 'louverlaw05.DyntableSame', WHERE WHAT IT READS IS OF BULK AT MOST 1048576: true; the input reads as it did. -/
def dyntableSameUptoRow : OpenClaim := { program := "yteoneedehfijhaa", sum := "e956fb7900587b4b6600ab0c1a376718a29109a69cf54b562f3f445dc87f44a5", func := "louver/louverlaw05.DyntableSame", spec := "dyntableSame", apart := false, narrowed := true }
def DyntableSameUptoSaid : Prop := dyntableSameUptoRow.holds Try.pinned (OpenSpec.upto dyntableSameSpec)

/-- 'louverlaw05.DyntableNil', WHERE WHAT IT READS IS OF BULK AT MOST 1048576: true; the input reads as it did. -/
def dyntableNilUptoRow : OpenClaim := { program := "yteoneedehfijhaa", sum := "e956fb7900587b4b6600ab0c1a376718a29109a69cf54b562f3f445dc87f44a5", func := "louver/louverlaw05.DyntableNil", spec := "dyntableNil", apart := false, narrowed := true }
def DyntableNilUptoSaid : Prop := dyntableNilUptoRow.holds Try.pinned (OpenSpec.upto dyntableNilSpec)

/-- 'louverlaw05.DyntableOldest', WHERE WHAT IT READS IS OF BULK AT MOST 1048576: true; the input reads as it did. -/
def dyntableOldestUptoRow : OpenClaim := { program := "yteoneedehfijhaa", sum := "e956fb7900587b4b6600ab0c1a376718a29109a69cf54b562f3f445dc87f44a5", func := "louver/louverlaw05.DyntableOldest", spec := "dyntableOldest", apart := false, narrowed := true }
def DyntableOldestUptoSaid : Prop := dyntableOldestUptoRow.holds Try.pinned (OpenSpec.upto dyntableOldestSpec)

end Rows
end Go.Proofs.Yteoneedehfijhaa
