/-
  NARROWER THAN 'FOR EVERY INPUT', by the rows' own cells (each row's printed sentence says how): StreamSend: laid · StreamOn: laid · StreamEnds: laid · StreamNumber: laid · StreamIgnored: laid.
  DERIVED. THE GIVEN ROWS OF THIS SEAT. 5 by the template 'for every input the law returns true; each argument reads behind the call as it read before'; 0 by the template 'total and deterministic' (their statements: YtngngebkecanmaaDoorTotals.lean).
  GIVEN WITH THE SEED: the statements are not yours to turn. If you find one false, say at which input.
  Laid BY PROGRAM, IN A SANDBOX (cutbox-rows.mjs): the forced cells as the released guide's own fill.sh prints them over the translation 6788ad61904db85a… (all of the seat's roots in one cut). By AI agents, Wed Nov 11 2026. No macro, syntax, notation, axiom, sorry.
-/
import Derived.Test.YtngngebkecanmaaDoorChecked
import GoSem.Claim
import GoSem.ClaimJoined
import GoSem.ClaimMapViews
import Derived.JoinedTies
import Derived.KernelRfl
namespace Go.Proofs.YtngngebkecanmaaDoor
/- THE CELL 'sum', in the pinned program and in every row, IS THE sha256 OF THE DUMP (.gsa) THAT YtngngebkecanmaaDoorProg.lean LOADS. Nothing in Lean hashes anything: it is a label: what it is worth is what the hold of that sum in a sandbox is worth. -/
noncomputable def Tryd.pinned : Pinned := { name := "ytngngebkecanmaadoor", sum := "6788ad61904db85a927602d8d87b7a6a8d48b31ac84ce6f1f888ac5cf31a2100", checked := Tryd.checked }
namespace Rows
def none {H : Type} : Left H := { results := [], args := [] }

/- WHAT THE LISTED PACKAGE-LEVEL VARIABLES READ AS WHEN THE CALL BEGINS. Each datum BY PROGRAM (the guide's laid-datum.mjs) off the statement by which the dump's own 'gosem.cut.vars' lays the variable. In a bare row this is a premise. The card (YtngngebkecanmaaDoorCards.lean) ties it to the program's text. -/
def laid_errors_errorType {H : Type} : DataW H := .iface "internal/reflectlite.rtype" (.agg [.ptr (.lit (.string [101, 114, 114, 111, 114]))])

/-- 'louverlaw11.StreamSend': WHATEVER THE INPUT: true; the input reads as it did. -/
def streamSendSpec : ChangeSpec := { name := "streamSend", fn := fun _ => fun
  | [d1, d2, d3] => { results := [.lit (.bool true)], args := [d1, d2, d3] }
  | _ => none }
def streamSendRow : OpenClaim := { program := "ytngngebkecanmaadoor", sum := "6788ad61904db85a927602d8d87b7a6a8d48b31ac84ce6f1f888ac5cf31a2100", func := "louver/louverlaw11.StreamSend", spec := "streamSend", inPlace := ["internal/reflectlite.ValueOf", "(internal/reflectlite.Value).Type", "(internal/reflectlite.Value).IsNil", "internal/reflectlite.TypeOf", "(internal/reflectlite.Value).Elem", "(internal/reflectlite.Value).Set"], unfollowed := true, recurses := true, named := ["errors.errorType"], apart := false, laid := [("errors.errorType", laid_errors_errorType)] }
def StreamSendSaid : Prop := streamSendRow.holds Tryd.pinned (OpenSpec.ofChange streamSendSpec)

/-- ITS FALSE NEIGHBOUR: 'it returns false'. Refute it at one input. -/
def streamSendWrong : ChangeSpec := { name := "streamSend", fn := fun _ => fun
  | [d1, d2, d3] => { results := [.lit (.bool false)], args := [d1, d2, d3] }
  | _ => none }
def StreamSendWrongFalsely : Prop := streamSendRow.holds Tryd.pinned (OpenSpec.ofChange streamSendWrong)

/-- 'louverlaw11.StreamOn': WHATEVER THE INPUT: true; the input reads as it did. -/
def streamOnSpec : ChangeSpec := { name := "streamOn", fn := fun _ => fun
  | [d] => { results := [.lit (.bool true)], args := [d] }
  | _ => none }
def streamOnRow : OpenClaim := { program := "ytngngebkecanmaadoor", sum := "6788ad61904db85a927602d8d87b7a6a8d48b31ac84ce6f1f888ac5cf31a2100", func := "louver/louverlaw11.StreamOn", spec := "streamOn", inPlace := ["internal/reflectlite.ValueOf", "(internal/reflectlite.Value).Type", "(internal/reflectlite.Value).IsNil", "internal/reflectlite.TypeOf", "(internal/reflectlite.Value).Elem", "(internal/reflectlite.Value).Set"], unfollowed := true, recurses := true, named := ["errors.errorType"], apart := false, laid := [("errors.errorType", laid_errors_errorType)] }
def StreamOnSaid : Prop := streamOnRow.holds Tryd.pinned (OpenSpec.ofChange streamOnSpec)

/-- ITS FALSE NEIGHBOUR: 'it returns false'. Refute it at one input. -/
def streamOnWrong : ChangeSpec := { name := "streamOn", fn := fun _ => fun
  | [d] => { results := [.lit (.bool false)], args := [d] }
  | _ => none }
def StreamOnWrongFalsely : Prop := streamOnRow.holds Tryd.pinned (OpenSpec.ofChange streamOnWrong)

/-- 'louverlaw11.StreamEnds': WHATEVER THE INPUT: true; the input reads as it did. -/
def streamEndsSpec : ChangeSpec := { name := "streamEnds", fn := fun _ => fun
  | [d] => { results := [.lit (.bool true)], args := [d] }
  | _ => none }
def streamEndsRow : OpenClaim := { program := "ytngngebkecanmaadoor", sum := "6788ad61904db85a927602d8d87b7a6a8d48b31ac84ce6f1f888ac5cf31a2100", func := "louver/louverlaw11.StreamEnds", spec := "streamEnds", inPlace := ["internal/reflectlite.ValueOf", "(internal/reflectlite.Value).Type", "(internal/reflectlite.Value).IsNil", "internal/reflectlite.TypeOf", "(internal/reflectlite.Value).Elem", "(internal/reflectlite.Value).Set"], unfollowed := true, recurses := true, named := ["errors.errorType"], apart := false, laid := [("errors.errorType", laid_errors_errorType)] }
def StreamEndsSaid : Prop := streamEndsRow.holds Tryd.pinned (OpenSpec.ofChange streamEndsSpec)

/-- ITS FALSE NEIGHBOUR: 'it returns false'. Refute it at one input. -/
def streamEndsWrong : ChangeSpec := { name := "streamEnds", fn := fun _ => fun
  | [d] => { results := [.lit (.bool false)], args := [d] }
  | _ => none }
def StreamEndsWrongFalsely : Prop := streamEndsRow.holds Tryd.pinned (OpenSpec.ofChange streamEndsWrong)

/-- 'louverlaw11.StreamNumber': WHATEVER THE INPUT: true; the input reads as it did. -/
def streamNumberSpec : ChangeSpec := { name := "streamNumber", fn := fun _ => fun
  | [d1, d2, d3] => { results := [.lit (.bool true)], args := [d1, d2, d3] }
  | _ => none }
def streamNumberRow : OpenClaim := { program := "ytngngebkecanmaadoor", sum := "6788ad61904db85a927602d8d87b7a6a8d48b31ac84ce6f1f888ac5cf31a2100", func := "louver/louverlaw11.StreamNumber", spec := "streamNumber", inPlace := ["internal/reflectlite.ValueOf", "(internal/reflectlite.Value).Type", "(internal/reflectlite.Value).IsNil", "internal/reflectlite.TypeOf", "(internal/reflectlite.Value).Elem", "(internal/reflectlite.Value).Set"], unfollowed := true, recurses := true, named := ["errors.errorType"], apart := false, laid := [("errors.errorType", laid_errors_errorType)] }
def StreamNumberSaid : Prop := streamNumberRow.holds Tryd.pinned (OpenSpec.ofChange streamNumberSpec)

/-- ITS FALSE NEIGHBOUR: 'it returns false'. Refute it at one input. -/
def streamNumberWrong : ChangeSpec := { name := "streamNumber", fn := fun _ => fun
  | [d1, d2, d3] => { results := [.lit (.bool false)], args := [d1, d2, d3] }
  | _ => none }
def StreamNumberWrongFalsely : Prop := streamNumberRow.holds Tryd.pinned (OpenSpec.ofChange streamNumberWrong)

/-- 'louverlaw11.StreamIgnored': WHATEVER THE INPUT: true; the input reads as it did. -/
def streamIgnoredSpec : ChangeSpec := { name := "streamIgnored", fn := fun _ => fun
  | [d1, d2, d3] => { results := [.lit (.bool true)], args := [d1, d2, d3] }
  | _ => none }
def streamIgnoredRow : OpenClaim := { program := "ytngngebkecanmaadoor", sum := "6788ad61904db85a927602d8d87b7a6a8d48b31ac84ce6f1f888ac5cf31a2100", func := "louver/louverlaw11.StreamIgnored", spec := "streamIgnored", inPlace := ["internal/reflectlite.ValueOf", "(internal/reflectlite.Value).Type", "(internal/reflectlite.Value).IsNil", "internal/reflectlite.TypeOf", "(internal/reflectlite.Value).Elem", "(internal/reflectlite.Value).Set"], unfollowed := true, recurses := true, named := ["errors.errorType"], apart := false, laid := [("errors.errorType", laid_errors_errorType)] }
def StreamIgnoredSaid : Prop := streamIgnoredRow.holds Tryd.pinned (OpenSpec.ofChange streamIgnoredSpec)

/-- ITS FALSE NEIGHBOUR: 'it returns false'. Refute it at one input. -/
def streamIgnoredWrong : ChangeSpec := { name := "streamIgnored", fn := fun _ => fun
  | [d1, d2, d3] => { results := [.lit (.bool false)], args := [d1, d2, d3] }
  | _ => none }
def StreamIgnoredWrongFalsely : Prop := streamIgnoredRow.holds Tryd.pinned (OpenSpec.ofChange streamIgnoredWrong)

/- THE SECOND FORM. 'bulk': how many values and letters a reading holds, each counted each time it is reached (what is shared counts as often as it is met; a slice's spare places count too). A statement '..UptoSaid' is the law's where the arguments, and the package variables that the reading takes, are together of bulk at most 1048576: NARROWER than '..Said'. Prove '..Said' where nothing that the law and all that it calls make is longer than what came in: it says more and counts as full. Else prove '..UptoSaid'. A law counts once. -/
mutual
def uptoBulk {H : Type} : DataW H → Nat
  | .lit (.string bytes) => bytes.length + 1
  | .lit _ => 1
  | .nil => 1
  | .ptr d => uptoBulk d + 1
  | .slice elems spare => uptoBulkAll elems + uptoBulkAll spare + 1
  | .agg parts => uptoBulkAll parts + 1
  | .iface _ d => uptoBulk d + 1
  | .map entries => uptoBulkEntries entries + 1
  | .held _ => 1
def uptoBulkAll {H : Type} : List (DataW H) → Nat
  | [] => 0
  | d :: r => uptoBulk d + uptoBulkAll r
def uptoBulkEntries {H : Type} : List (Lit × DataW H) → Nat
  | [] => 0
  | x :: r => uptoBulkEntry x + uptoBulkEntries r
def uptoBulkEntry {H : Type} : Lit × DataW H → Nat
  | (.string bytes, d) => bytes.length + uptoBulk d + 1
  | (_, d) => uptoBulk d + 1
 end
def uptoSmall : (H : Type) → List (DataW H) → Bool := fun _ ds => decide (uptoBulkAll ds ≤ 1048576)
def OpenSpec.upto (s : _root_.Go.ChangeSpec) : _root_.Go.OpenSpec := { _root_.Go.OpenSpec.ofChange s with cond := some uptoSmall }

/-- 'louverlaw11.StreamSend', WHERE WHAT IT READS IS OF BULK AT MOST 1048576: true; the input reads as it did. -/
def streamSendUptoRow : OpenClaim := { program := "ytngngebkecanmaadoor", sum := "6788ad61904db85a927602d8d87b7a6a8d48b31ac84ce6f1f888ac5cf31a2100", func := "louver/louverlaw11.StreamSend", spec := "streamSend", inPlace := ["internal/reflectlite.ValueOf", "(internal/reflectlite.Value).Type", "(internal/reflectlite.Value).IsNil", "internal/reflectlite.TypeOf", "(internal/reflectlite.Value).Elem", "(internal/reflectlite.Value).Set"], unfollowed := true, recurses := true, named := ["errors.errorType"], apart := false, laid := [("errors.errorType", laid_errors_errorType)], narrowed := true }
def StreamSendUptoSaid : Prop := streamSendUptoRow.holds Tryd.pinned (OpenSpec.upto streamSendSpec)

/-- 'louverlaw11.StreamOn', WHERE WHAT IT READS IS OF BULK AT MOST 1048576: true; the input reads as it did. -/
def streamOnUptoRow : OpenClaim := { program := "ytngngebkecanmaadoor", sum := "6788ad61904db85a927602d8d87b7a6a8d48b31ac84ce6f1f888ac5cf31a2100", func := "louver/louverlaw11.StreamOn", spec := "streamOn", inPlace := ["internal/reflectlite.ValueOf", "(internal/reflectlite.Value).Type", "(internal/reflectlite.Value).IsNil", "internal/reflectlite.TypeOf", "(internal/reflectlite.Value).Elem", "(internal/reflectlite.Value).Set"], unfollowed := true, recurses := true, named := ["errors.errorType"], apart := false, laid := [("errors.errorType", laid_errors_errorType)], narrowed := true }
def StreamOnUptoSaid : Prop := streamOnUptoRow.holds Tryd.pinned (OpenSpec.upto streamOnSpec)

/-- 'louverlaw11.StreamEnds', WHERE WHAT IT READS IS OF BULK AT MOST 1048576: true; the input reads as it did. -/
def streamEndsUptoRow : OpenClaim := { program := "ytngngebkecanmaadoor", sum := "6788ad61904db85a927602d8d87b7a6a8d48b31ac84ce6f1f888ac5cf31a2100", func := "louver/louverlaw11.StreamEnds", spec := "streamEnds", inPlace := ["internal/reflectlite.ValueOf", "(internal/reflectlite.Value).Type", "(internal/reflectlite.Value).IsNil", "internal/reflectlite.TypeOf", "(internal/reflectlite.Value).Elem", "(internal/reflectlite.Value).Set"], unfollowed := true, recurses := true, named := ["errors.errorType"], apart := false, laid := [("errors.errorType", laid_errors_errorType)], narrowed := true }
def StreamEndsUptoSaid : Prop := streamEndsUptoRow.holds Tryd.pinned (OpenSpec.upto streamEndsSpec)

/-- 'louverlaw11.StreamNumber', WHERE WHAT IT READS IS OF BULK AT MOST 1048576: true; the input reads as it did. -/
def streamNumberUptoRow : OpenClaim := { program := "ytngngebkecanmaadoor", sum := "6788ad61904db85a927602d8d87b7a6a8d48b31ac84ce6f1f888ac5cf31a2100", func := "louver/louverlaw11.StreamNumber", spec := "streamNumber", inPlace := ["internal/reflectlite.ValueOf", "(internal/reflectlite.Value).Type", "(internal/reflectlite.Value).IsNil", "internal/reflectlite.TypeOf", "(internal/reflectlite.Value).Elem", "(internal/reflectlite.Value).Set"], unfollowed := true, recurses := true, named := ["errors.errorType"], apart := false, laid := [("errors.errorType", laid_errors_errorType)], narrowed := true }
def StreamNumberUptoSaid : Prop := streamNumberUptoRow.holds Tryd.pinned (OpenSpec.upto streamNumberSpec)

/-- 'louverlaw11.StreamIgnored', WHERE WHAT IT READS IS OF BULK AT MOST 1048576: true; the input reads as it did. -/
def streamIgnoredUptoRow : OpenClaim := { program := "ytngngebkecanmaadoor", sum := "6788ad61904db85a927602d8d87b7a6a8d48b31ac84ce6f1f888ac5cf31a2100", func := "louver/louverlaw11.StreamIgnored", spec := "streamIgnored", inPlace := ["internal/reflectlite.ValueOf", "(internal/reflectlite.Value).Type", "(internal/reflectlite.Value).IsNil", "internal/reflectlite.TypeOf", "(internal/reflectlite.Value).Elem", "(internal/reflectlite.Value).Set"], unfollowed := true, recurses := true, named := ["errors.errorType"], apart := false, laid := [("errors.errorType", laid_errors_errorType)], narrowed := true }
def StreamIgnoredUptoSaid : Prop := streamIgnoredUptoRow.holds Tryd.pinned (OpenSpec.upto streamIgnoredSpec)

end Rows
end Go.Proofs.YtngngebkecanmaaDoor
