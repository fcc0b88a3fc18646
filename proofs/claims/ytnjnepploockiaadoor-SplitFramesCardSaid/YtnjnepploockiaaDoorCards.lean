/-
  DERIVED. GIVEN WITH THE SEED: THE CARDS: each row of YtnjnepploockiaaDoorRows.lean that lists a variable, with what it lists TIED to the program's text (the seventh form; the later family's looks); each row that meets fmt, with fmt's text TOLD by the authors' own Lean function (tested against real Go, not proved from fmt's source: count such statements apart). THE CARD IS WHAT COUNTS. Prove the row's statement (the work); the ties are given (YtnjnepploockiaaDoorTie.lean); close each card by the builder's one call (the guide's Derived/Test/ToyasCard.lean, 'card_holds'). Laid BY PROGRAM, IN A SANDBOX (cutbox-door.mjs). By AI agents, Wed Nov 11 2026. No macro, syntax, notation, axiom, sorry.
-/
import Derived.Test.YtnjnepploockiaaDoorRows
import GoSem.ClaimSeven
namespace Go.Proofs.YtnjnepploockiaaDoor
namespace Rows

/-- THE TIED CARD OF 'louverlaw08.SplitPlays'. -/
def splitPlaysCard : Claim7 := { stood := { row := splitPlaysRow, standIns := [], harness := (true, "916f801bed00df5fcc3b11532772000e9fa79b9f6b5c735513588a753e5a36c7"), looks := true }, kinds := [], alts := [], laidByText := true, laidKinds := [.handle], laidTests := true, laidLooks := .later }
def SplitPlaysCardSaid : Prop := Claim7.holds Tryd.pinned (.plain (OpenSpec.ofChange splitPlaysSpec)) splitPlaysCard

/-- THE TIED CARD OF 'louverlaw08.SplitFrames'. -/
def splitFramesCard : Claim7 := { stood := { row := splitFramesRow, standIns := [], harness := (true, "916f801bed00df5fcc3b11532772000e9fa79b9f6b5c735513588a753e5a36c7"), looks := true }, kinds := [], alts := [], laidByText := true, laidKinds := [.handle], laidTests := true, laidLooks := .later }
def SplitFramesCardSaid : Prop := Claim7.holds Tryd.pinned (.plain (OpenSpec.ofChange splitFramesSpec)) splitFramesCard

/-- THE TIED CARD OF 'louverlaw08.SplitNil'. -/
def splitNilCard : Claim7 := { stood := { row := splitNilRow, standIns := [], harness := (true, "916f801bed00df5fcc3b11532772000e9fa79b9f6b5c735513588a753e5a36c7"), looks := true }, kinds := [], alts := [], laidByText := true, laidKinds := [.handle], laidTests := true, laidLooks := .later }
def SplitNilCardSaid : Prop := Claim7.holds Tryd.pinned (.plain (OpenSpec.ofChange splitNilSpec)) splitNilCard

/-- THE TIED CARD OF 'louverlaw08.SplitGreat'. -/
def splitGreatCard : Claim7 := { stood := { row := splitGreatRow, standIns := [], harness := (true, "916f801bed00df5fcc3b11532772000e9fa79b9f6b5c735513588a753e5a36c7"), looks := true }, kinds := [], alts := [], laidByText := true, laidKinds := [.handle], laidTests := true, laidLooks := .later }
def SplitGreatCardSaid : Prop := Claim7.holds Tryd.pinned (.plain (OpenSpec.ofChange splitGreatSpec)) splitGreatCard

/-- THE SECOND FORM's CARD OF 'louverlaw08.SplitPlays'. -/
def splitPlaysUptoCard : Claim7 := { stood := { row := splitPlaysUptoRow, standIns := [], harness := (true, "916f801bed00df5fcc3b11532772000e9fa79b9f6b5c735513588a753e5a36c7"), looks := true }, kinds := [], alts := [], laidByText := true, laidKinds := [.handle], laidTests := true, laidLooks := .later }
def SplitPlaysUptoCardSaid : Prop := Claim7.holds Tryd.pinned (.plain (OpenSpec.upto splitPlaysSpec)) splitPlaysUptoCard

/-- THE SECOND FORM's CARD OF 'louverlaw08.SplitFrames'. -/
def splitFramesUptoCard : Claim7 := { stood := { row := splitFramesUptoRow, standIns := [], harness := (true, "916f801bed00df5fcc3b11532772000e9fa79b9f6b5c735513588a753e5a36c7"), looks := true }, kinds := [], alts := [], laidByText := true, laidKinds := [.handle], laidTests := true, laidLooks := .later }
def SplitFramesUptoCardSaid : Prop := Claim7.holds Tryd.pinned (.plain (OpenSpec.upto splitFramesSpec)) splitFramesUptoCard

/-- THE SECOND FORM's CARD OF 'louverlaw08.SplitNil'. -/
def splitNilUptoCard : Claim7 := { stood := { row := splitNilUptoRow, standIns := [], harness := (true, "916f801bed00df5fcc3b11532772000e9fa79b9f6b5c735513588a753e5a36c7"), looks := true }, kinds := [], alts := [], laidByText := true, laidKinds := [.handle], laidTests := true, laidLooks := .later }
def SplitNilUptoCardSaid : Prop := Claim7.holds Tryd.pinned (.plain (OpenSpec.upto splitNilSpec)) splitNilUptoCard

/-- THE SECOND FORM's CARD OF 'louverlaw08.SplitGreat'. -/
def splitGreatUptoCard : Claim7 := { stood := { row := splitGreatUptoRow, standIns := [], harness := (true, "916f801bed00df5fcc3b11532772000e9fa79b9f6b5c735513588a753e5a36c7"), looks := true }, kinds := [], alts := [], laidByText := true, laidKinds := [.handle], laidTests := true, laidLooks := .later }
def SplitGreatUptoCardSaid : Prop := Claim7.holds Tryd.pinned (.plain (OpenSpec.upto splitGreatSpec)) splitGreatUptoCard
end Rows
end Go.Proofs.YtnjnepploockiaaDoor
