/-
  DERIVED. GIVEN WITH THE SEED: THE CARDS: each row of YtjkfckdoliflmaaDoorRows.lean that lists a variable, with what it lists TIED to the program's text (the seventh form; the later family's looks); each row that meets fmt, with fmt's text TOLD by the authors' own Lean function (tested against real Go, not proved from fmt's source: count such statements apart). THE CARD IS WHAT COUNTS. Prove the row's statement (the work); the ties are given (YtjkfckdoliflmaaDoorTie.lean); close each card by the builder's one call (the guide's Derived/Test/ToyasCard.lean, 'card_holds'). Laid BY PROGRAM, IN A SANDBOX (cutbox-door.mjs). By AI agents, Wed Nov 11 2026. No macro, syntax, notation, axiom, sorry.
-/
import Derived.Test.YtjkfckdoliflmaaDoorRows
import GoSem.ClaimSeven
namespace Go.Proofs.YtjkfckdoliflmaaDoor
namespace Rows

/-- THE TIED CARD OF 'louverlaw01.FaultOf'. -/
def faultOfCard : Claim7 := { stood := { row := faultOfRow, standIns := [], harness := (true, "09bb5a61101a7ed7875568706d946df7c22f51d2ec07b423a1594162d3105d3d"), looks := true }, kinds := [], alts := [], laidByText := true, laidKinds := [.data, .data, .data, .handle, .data], laidTests := true, laidLooks := .later }
def FaultOfCardSaid : Prop := Claim7.holds Tryd.pinned (.plain (OpenSpec.ofChange faultOfSpec)) faultOfCard

/-- THE TIED CARD OF 'louverlaw01.FaultRow'. -/
def faultRowCard : Claim7 := { stood := { row := faultRowRow, standIns := [], harness := (true, "09bb5a61101a7ed7875568706d946df7c22f51d2ec07b423a1594162d3105d3d"), looks := true }, kinds := [], alts := [], laidByText := true, laidKinds := [.data, .data, .data, .handle, .data], laidTests := true, laidLooks := .later }
def FaultRowCardSaid : Prop := Claim7.holds Tryd.pinned (.plain (OpenSpec.ofChange faultRowSpec)) faultRowCard

/-- THE SECOND FORM's CARD OF 'louverlaw01.FaultOf'. -/
def faultOfUptoCard : Claim7 := { stood := { row := faultOfUptoRow, standIns := [], harness := (true, "09bb5a61101a7ed7875568706d946df7c22f51d2ec07b423a1594162d3105d3d"), looks := true }, kinds := [], alts := [], laidByText := true, laidKinds := [.data, .data, .data, .handle, .data], laidTests := true, laidLooks := .later }
def FaultOfUptoCardSaid : Prop := Claim7.holds Tryd.pinned (.plain (OpenSpec.upto faultOfSpec)) faultOfUptoCard

/-- THE SECOND FORM's CARD OF 'louverlaw01.FaultRow'. -/
def faultRowUptoCard : Claim7 := { stood := { row := faultRowUptoRow, standIns := [], harness := (true, "09bb5a61101a7ed7875568706d946df7c22f51d2ec07b423a1594162d3105d3d"), looks := true }, kinds := [], alts := [], laidByText := true, laidKinds := [.data, .data, .data, .handle, .data], laidTests := true, laidLooks := .later }
def FaultRowUptoCardSaid : Prop := Claim7.holds Tryd.pinned (.plain (OpenSpec.upto faultRowSpec)) faultRowUptoCard
end Rows
end Go.Proofs.YtjkfckdoliflmaaDoor
