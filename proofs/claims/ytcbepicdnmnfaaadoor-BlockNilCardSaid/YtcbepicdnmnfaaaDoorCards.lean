/-
  DERIVED. GIVEN WITH THE SEED: THE CARDS: each row of YtcbepicdnmnfaaaDoorRows.lean that lists a variable, with what it lists TIED to the program's text (the seventh form; the later family's looks); each row that meets fmt, with fmt's text TOLD by the authors' own Lean function (tested against real Go, not proved from fmt's source: count such statements apart). THE CARD IS WHAT COUNTS. Prove the row's statement (the work); the ties are given (YtcbepicdnmnfaaaDoorTie.lean); close each card by the builder's one call (the guide's Derived/Test/ToyasCard.lean, 'card_holds'). Laid BY PROGRAM, IN A SANDBOX (cutbox-door.mjs). By AI agents, Wed Nov 11 2026. No macro, syntax, notation, axiom, sorry.
-/
import Derived.Test.YtcbepicdnmnfaaaDoorRows
import GoSem.ClaimSeven
namespace Go.Proofs.YtcbepicdnmnfaaaDoor
namespace Rows

/-- THE TIED CARD OF 'louverlaw12.BlockPlays'. -/
def blockPlaysCard : Claim7 := { stood := { row := blockPlaysRow, standIns := [], harness := (true, "15b46fe5c225fb75fdce5e550cfa67ccc1fca5f66e6ccaa06e581234daff92a3"), looks := true }, kinds := [], alts := [], laidByText := true, laidKinds := [.handle], laidTests := true, laidLooks := .later }
def BlockPlaysCardSaid : Prop := Claim7.holds Tryd.pinned (.plain (OpenSpec.ofChange blockPlaysSpec)) blockPlaysCard

/-- THE TIED CARD OF 'louverlaw12.BlockNil'. -/
def blockNilCard : Claim7 := { stood := { row := blockNilRow, standIns := [], harness := (true, "15b46fe5c225fb75fdce5e550cfa67ccc1fca5f66e6ccaa06e581234daff92a3"), looks := true }, kinds := [], alts := [], laidByText := true, laidKinds := [.handle], laidTests := true, laidLooks := .later }
def BlockNilCardSaid : Prop := Claim7.holds Tryd.pinned (.plain (OpenSpec.ofChange blockNilSpec)) blockNilCard

/-- THE TIED CARD OF 'louverlaw12.BlockGoes'. -/
def blockGoesCard : Claim7 := { stood := { row := blockGoesRow, standIns := [], harness := (true, "15b46fe5c225fb75fdce5e550cfa67ccc1fca5f66e6ccaa06e581234daff92a3"), looks := true }, kinds := [], alts := [], laidByText := true, laidKinds := [.handle], laidTests := true, laidLooks := .later }
def BlockGoesCardSaid : Prop := Claim7.holds Tryd.pinned (.plain (OpenSpec.ofChange blockGoesSpec)) blockGoesCard

/-- THE SECOND FORM's CARD OF 'louverlaw12.BlockPlays'. -/
def blockPlaysUptoCard : Claim7 := { stood := { row := blockPlaysUptoRow, standIns := [], harness := (true, "15b46fe5c225fb75fdce5e550cfa67ccc1fca5f66e6ccaa06e581234daff92a3"), looks := true }, kinds := [], alts := [], laidByText := true, laidKinds := [.handle], laidTests := true, laidLooks := .later }
def BlockPlaysUptoCardSaid : Prop := Claim7.holds Tryd.pinned (.plain (OpenSpec.upto blockPlaysSpec)) blockPlaysUptoCard

/-- THE SECOND FORM's CARD OF 'louverlaw12.BlockNil'. -/
def blockNilUptoCard : Claim7 := { stood := { row := blockNilUptoRow, standIns := [], harness := (true, "15b46fe5c225fb75fdce5e550cfa67ccc1fca5f66e6ccaa06e581234daff92a3"), looks := true }, kinds := [], alts := [], laidByText := true, laidKinds := [.handle], laidTests := true, laidLooks := .later }
def BlockNilUptoCardSaid : Prop := Claim7.holds Tryd.pinned (.plain (OpenSpec.upto blockNilSpec)) blockNilUptoCard

/-- THE SECOND FORM's CARD OF 'louverlaw12.BlockGoes'. -/
def blockGoesUptoCard : Claim7 := { stood := { row := blockGoesUptoRow, standIns := [], harness := (true, "15b46fe5c225fb75fdce5e550cfa67ccc1fca5f66e6ccaa06e581234daff92a3"), looks := true }, kinds := [], alts := [], laidByText := true, laidKinds := [.handle], laidTests := true, laidLooks := .later }
def BlockGoesUptoCardSaid : Prop := Claim7.holds Tryd.pinned (.plain (OpenSpec.upto blockGoesSpec)) blockGoesUptoCard
end Rows
end Go.Proofs.YtcbepicdnmnfaaaDoor
