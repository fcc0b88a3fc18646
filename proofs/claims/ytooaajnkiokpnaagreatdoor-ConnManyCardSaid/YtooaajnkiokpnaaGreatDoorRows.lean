/-
  NARROWER THAN 'FOR EVERY INPUT', by the rows' own cells (each row's printed sentence says how): ConnNil: laid · ConnCredit: laid · ConnMany: laid · ConnLeaves: laid.
  DERIVED. THE GIVEN ROWS OF THIS SEAT. 4 by the template 'for every input the law returns true; each argument reads behind the call as it read before'; 0 by the template 'total and deterministic' (their statements: YtooaajnkiokpnaaGreatDoorTotals.lean).
  GIVEN WITH THE SEED: the statements are not yours to turn. If you find one false, say at which input.
  Laid BY PROGRAM, IN A SANDBOX (cutbox-rows.mjs): the forced cells as the released guide's own fill.sh prints them over the translation df50729a076a5012… (all of the seat's roots in one cut). By AI agents, Wed Nov 11 2026. No macro, syntax, notation, axiom, sorry.
-/
import Derived.Test.YtooaajnkiokpnaaGreatDoorChecked
import GoSem.Claim
import GoSem.ClaimJoined
import GoSem.ClaimMapViews
import Derived.JoinedTies
import Derived.KernelRfl
namespace Go.Proofs.YtooaajnkiokpnaaGreatDoor
/- THE CELL 'sum', in the pinned program and in every row, IS THE sha256 OF THE DUMP (.gsa) THAT YtooaajnkiokpnaaGreatDoorProg.lean LOADS. Nothing in Lean hashes anything: it is a label: what it is worth is what the hold of that sum in a sandbox is worth. -/
noncomputable def Tryz.pinned : Pinned := { name := "ytooaajnkiokpnaagreatdoor", sum := "df50729a076a50126177aa4ec72dcc18cdc3cdf2b28678e13e0c2f8ad81fa9e8", checked := Tryz.checked }
namespace Rows
def none {H : Type} : Left H := { results := [], args := [] }

/- WHAT THE LISTED PACKAGE-LEVEL VARIABLES READ AS WHEN THE CALL BEGINS. Each datum BY PROGRAM (the guide's laid-datum.mjs) off the statement by which the dump's own 'gosem.cut.vars' lays the variable. In a bare row this is a premise. The card (YtooaajnkiokpnaaGreatDoorCards.lean) ties it to the program's text. -/
def laid_errors_errorType {H : Type} : DataW H := .iface "internal/reflectlite.rtype" (.agg [.ptr (.lit (.string [101, 114, 114, 111, 114]))])

/-- 'louverlaw14.ConnNil': WHATEVER THE INPUT: true; the input reads as it did. -/
def connNilSpec : ChangeSpec := { name := "connNil", fn := fun _ => fun
  | [d1, d2, d3] => { results := [.lit (.bool true)], args := [d1, d2, d3] }
  | _ => none }
def connNilRow : OpenClaim := { program := "ytooaajnkiokpnaagreatdoor", sum := "df50729a076a50126177aa4ec72dcc18cdc3cdf2b28678e13e0c2f8ad81fa9e8", func := "louver/louverlaw14.ConnNil", spec := "connNil", inPlace := ["internal/reflectlite.ValueOf", "(internal/reflectlite.Value).Type", "(internal/reflectlite.Value).IsNil", "internal/reflectlite.TypeOf", "(internal/reflectlite.Value).Elem", "(internal/reflectlite.Value).Set"], unfollowed := true, recurses := true, named := ["errors.errorType"], plainKeys := false, apart := false, laid := [("errors.errorType", laid_errors_errorType)] }
def ConnNilSaid : Prop := connNilRow.holds Tryz.pinned (OpenSpec.ofChange connNilSpec)

/-- ITS FALSE NEIGHBOUR: 'it returns false'. Refute it at one input. -/
def connNilWrong : ChangeSpec := { name := "connNil", fn := fun _ => fun
  | [d1, d2, d3] => { results := [.lit (.bool false)], args := [d1, d2, d3] }
  | _ => none }
def ConnNilWrongFalsely : Prop := connNilRow.holds Tryz.pinned (OpenSpec.ofChange connNilWrong)

/-- 'louverlaw14.ConnCredit': WHATEVER THE INPUT: true; the input reads as it did. -/
def connCreditSpec : ChangeSpec := { name := "connCredit", fn := fun _ => fun
  | [d1, d2, d3] => { results := [.lit (.bool true)], args := [d1, d2, d3] }
  | _ => none }
def connCreditRow : OpenClaim := { program := "ytooaajnkiokpnaagreatdoor", sum := "df50729a076a50126177aa4ec72dcc18cdc3cdf2b28678e13e0c2f8ad81fa9e8", func := "louver/louverlaw14.ConnCredit", spec := "connCredit", inPlace := ["internal/reflectlite.ValueOf", "(internal/reflectlite.Value).Type", "(internal/reflectlite.Value).IsNil", "internal/reflectlite.TypeOf", "(internal/reflectlite.Value).Elem", "(internal/reflectlite.Value).Set"], unfollowed := true, recurses := true, named := ["errors.errorType"], plainKeys := false, apart := false, laid := [("errors.errorType", laid_errors_errorType)] }
def ConnCreditSaid : Prop := connCreditRow.holds Tryz.pinned (OpenSpec.ofChange connCreditSpec)

/-- ITS FALSE NEIGHBOUR: 'it returns false'. Refute it at one input. -/
def connCreditWrong : ChangeSpec := { name := "connCredit", fn := fun _ => fun
  | [d1, d2, d3] => { results := [.lit (.bool false)], args := [d1, d2, d3] }
  | _ => none }
def ConnCreditWrongFalsely : Prop := connCreditRow.holds Tryz.pinned (OpenSpec.ofChange connCreditWrong)

/-- 'louverlaw14.ConnMany': WHATEVER THE INPUT: true; the input reads as it did. -/
def connManySpec : ChangeSpec := { name := "connMany", fn := fun _ => fun
  | [d] => { results := [.lit (.bool true)], args := [d] }
  | _ => none }
def connManyRow : OpenClaim := { program := "ytooaajnkiokpnaagreatdoor", sum := "df50729a076a50126177aa4ec72dcc18cdc3cdf2b28678e13e0c2f8ad81fa9e8", func := "louver/louverlaw14.ConnMany", spec := "connMany", inPlace := ["internal/reflectlite.ValueOf", "(internal/reflectlite.Value).Type", "(internal/reflectlite.Value).IsNil", "internal/reflectlite.TypeOf", "(internal/reflectlite.Value).Elem", "(internal/reflectlite.Value).Set"], unfollowed := true, recurses := true, named := ["errors.errorType"], plainKeys := false, apart := false, laid := [("errors.errorType", laid_errors_errorType)] }
def ConnManySaid : Prop := connManyRow.holds Tryz.pinned (OpenSpec.ofChange connManySpec)

/-- ITS FALSE NEIGHBOUR: 'it returns false'. Refute it at one input. -/
def connManyWrong : ChangeSpec := { name := "connMany", fn := fun _ => fun
  | [d] => { results := [.lit (.bool false)], args := [d] }
  | _ => none }
def ConnManyWrongFalsely : Prop := connManyRow.holds Tryz.pinned (OpenSpec.ofChange connManyWrong)

/-- 'louverlaw14.ConnLeaves': WHATEVER THE INPUT: true; the input reads as it did. -/
def connLeavesSpec : ChangeSpec := { name := "connLeaves", fn := fun _ => fun
  | [d1, d2] => { results := [.lit (.bool true)], args := [d1, d2] }
  | _ => none }
def connLeavesRow : OpenClaim := { program := "ytooaajnkiokpnaagreatdoor", sum := "df50729a076a50126177aa4ec72dcc18cdc3cdf2b28678e13e0c2f8ad81fa9e8", func := "louver/louverlaw14.ConnLeaves", spec := "connLeaves", inPlace := ["internal/reflectlite.ValueOf", "(internal/reflectlite.Value).Type", "(internal/reflectlite.Value).IsNil", "internal/reflectlite.TypeOf", "(internal/reflectlite.Value).Elem", "(internal/reflectlite.Value).Set"], unfollowed := true, recurses := true, named := ["errors.errorType"], plainKeys := false, apart := false, laid := [("errors.errorType", laid_errors_errorType)] }
def ConnLeavesSaid : Prop := connLeavesRow.holds Tryz.pinned (OpenSpec.ofChange connLeavesSpec)

/-- ITS FALSE NEIGHBOUR: 'it returns false'. Refute it at one input. -/
def connLeavesWrong : ChangeSpec := { name := "connLeaves", fn := fun _ => fun
  | [d1, d2] => { results := [.lit (.bool false)], args := [d1, d2] }
  | _ => none }
def ConnLeavesWrongFalsely : Prop := connLeavesRow.holds Tryz.pinned (OpenSpec.ofChange connLeavesWrong)

/- THE SECOND FORM. 'bulk': how many values and letters a reading holds, each counted each time it is reached (what is shared counts as often as it is met; a slice's spare places count too). A statement '..UptoSaid' is the law's where the arguments, and the package variables that the reading takes, are together of bulk at most 1048576: NARROWER than '..Said'. Prove '..Said' where nothing that the law and all that it calls make is longer than what came in: it says more and counts as full. Else prove '..UptoSaid'. A law counts once. -/
mutual
def uptoBulk {H : Type} : DataW H → Nat
  | .lit (.string bytes) => bytes.length + 1
  | .lit _ => 1
  | .nil => 1
  | .ptr d => uptoBulk d + 1
  | .slice elems spare => uptoBulkAll elems + uptoBulkAll spare + 1
  | .agg parts => uptoBulkAll parts + 1
  | .iface _ d => uptoBulk d + 1
  | .map entries => uptoBulkEntries entries + 1
  | .held _ => 1
def uptoBulkAll {H : Type} : List (DataW H) → Nat
  | [] => 0
  | d :: r => uptoBulk d + uptoBulkAll r
def uptoBulkEntries {H : Type} : List (Lit × DataW H) → Nat
  | [] => 0
  | x :: r => uptoBulkEntry x + uptoBulkEntries r
def uptoBulkEntry {H : Type} : Lit × DataW H → Nat
  | (.string bytes, d) => bytes.length + uptoBulk d + 1
  | (_, d) => uptoBulk d + 1
 end
def uptoSmall : (H : Type) → List (DataW H) → Bool := fun _ ds => decide (uptoBulkAll ds ≤ 1048576)
def OpenSpec.upto (s : _root_.Go.ChangeSpec) : _root_.Go.OpenSpec := { _root_.Go.OpenSpec.ofChange s with cond := some uptoSmall }

/-- 'louverlaw14.ConnNil', WHERE WHAT IT READS IS OF BULK AT MOST 1048576: true; the input reads as it did. -/
def connNilUptoRow : OpenClaim := { program := "ytooaajnkiokpnaagreatdoor", sum := "df50729a076a50126177aa4ec72dcc18cdc3cdf2b28678e13e0c2f8ad81fa9e8", func := "louver/louverlaw14.ConnNil", spec := "connNil", inPlace := ["internal/reflectlite.ValueOf", "(internal/reflectlite.Value).Type", "(internal/reflectlite.Value).IsNil", "internal/reflectlite.TypeOf", "(internal/reflectlite.Value).Elem", "(internal/reflectlite.Value).Set"], unfollowed := true, recurses := true, named := ["errors.errorType"], plainKeys := false, apart := false, laid := [("errors.errorType", laid_errors_errorType)], narrowed := true }
def ConnNilUptoSaid : Prop := connNilUptoRow.holds Tryz.pinned (OpenSpec.upto connNilSpec)

/-- 'louverlaw14.ConnCredit', WHERE WHAT IT READS IS OF BULK AT MOST 1048576: true; the input reads as it did. -/
def connCreditUptoRow : OpenClaim := { program := "ytooaajnkiokpnaagreatdoor", sum := "df50729a076a50126177aa4ec72dcc18cdc3cdf2b28678e13e0c2f8ad81fa9e8", func := "louver/louverlaw14.ConnCredit", spec := "connCredit", inPlace := ["internal/reflectlite.ValueOf", "(internal/reflectlite.Value).Type", "(internal/reflectlite.Value).IsNil", "internal/reflectlite.TypeOf", "(internal/reflectlite.Value).Elem", "(internal/reflectlite.Value).Set"], unfollowed := true, recurses := true, named := ["errors.errorType"], plainKeys := false, apart := false, laid := [("errors.errorType", laid_errors_errorType)], narrowed := true }
def ConnCreditUptoSaid : Prop := connCreditUptoRow.holds Tryz.pinned (OpenSpec.upto connCreditSpec)

/-- 'louverlaw14.ConnMany', WHERE WHAT IT READS IS OF BULK AT MOST 1048576: true; the input reads as it did. -/
def connManyUptoRow : OpenClaim := { program := "ytooaajnkiokpnaagreatdoor", sum := "df50729a076a50126177aa4ec72dcc18cdc3cdf2b28678e13e0c2f8ad81fa9e8", func := "louver/louverlaw14.ConnMany", spec := "connMany", inPlace := ["internal/reflectlite.ValueOf", "(internal/reflectlite.Value).Type", "(internal/reflectlite.Value).IsNil", "internal/reflectlite.TypeOf", "(internal/reflectlite.Value).Elem", "(internal/reflectlite.Value).Set"], unfollowed := true, recurses := true, named := ["errors.errorType"], plainKeys := false, apart := false, laid := [("errors.errorType", laid_errors_errorType)], narrowed := true }
def ConnManyUptoSaid : Prop := connManyUptoRow.holds Tryz.pinned (OpenSpec.upto connManySpec)

/-- 'louverlaw14.ConnLeaves', WHERE WHAT IT READS IS OF BULK AT MOST 1048576: true; the input reads as it did. -/
def connLeavesUptoRow : OpenClaim := { program := "ytooaajnkiokpnaagreatdoor", sum := "df50729a076a50126177aa4ec72dcc18cdc3cdf2b28678e13e0c2f8ad81fa9e8", func := "louver/louverlaw14.ConnLeaves", spec := "connLeaves", inPlace := ["internal/reflectlite.ValueOf", "(internal/reflectlite.Value).Type", "(internal/reflectlite.Value).IsNil", "internal/reflectlite.TypeOf", "(internal/reflectlite.Value).Elem", "(internal/reflectlite.Value).Set"], unfollowed := true, recurses := true, named := ["errors.errorType"], plainKeys := false, apart := false, laid := [("errors.errorType", laid_errors_errorType)], narrowed := true }
def ConnLeavesUptoSaid : Prop := connLeavesUptoRow.holds Tryz.pinned (OpenSpec.upto connLeavesSpec)

end Rows
end Go.Proofs.YtooaajnkiokpnaaGreatDoor
