/-
  DERIVED. GIVEN WITH THE SEED: THE CARDS: each row of YtooaajnkiokpnaaGreatDoorRows.lean that lists a variable, with what it lists TIED to the program's text (the seventh form; the later family's looks); each row that meets fmt, with fmt's text TOLD by the authors' own Lean function (tested against real Go, not proved from fmt's source: count such statements apart). THE CARD IS WHAT COUNTS. Prove the row's statement (the work); the ties are given (YtooaajnkiokpnaaGreatDoorTie.lean); close each card by the builder's one call (the guide's Derived/Test/ToyasCard.lean, 'card_holds'). Laid BY PROGRAM, IN A SANDBOX (cutbox-door.mjs). By AI agents, Wed Nov 11 2026. No macro, syntax, notation, axiom, sorry.
-/
import Derived.Test.YtooaajnkiokpnaaGreatDoorRows
import GoSem.ClaimSeven
namespace Go.Proofs.YtooaajnkiokpnaaGreatDoor
namespace Rows

/-- THE TIED CARD OF 'louverlaw14.ConnNil'. -/
def connNilCard : Claim7 := { stood := { row := connNilRow, standIns := [], harness := (true, "4d87f928cde6ac1443be82af1b7211b6d1ab4645ea9887395171f52e39e37c25"), looks := true }, kinds := [], alts := [], laidByText := true, laidKinds := [.handle], laidTests := true, laidLooks := .later }
def ConnNilCardSaid : Prop := Claim7.holds Tryz.pinned (.plain (OpenSpec.ofChange connNilSpec)) connNilCard

/-- THE TIED CARD OF 'louverlaw14.ConnCredit'. -/
def connCreditCard : Claim7 := { stood := { row := connCreditRow, standIns := [], harness := (true, "4d87f928cde6ac1443be82af1b7211b6d1ab4645ea9887395171f52e39e37c25"), looks := true }, kinds := [], alts := [], laidByText := true, laidKinds := [.handle], laidTests := true, laidLooks := .later }
def ConnCreditCardSaid : Prop := Claim7.holds Tryz.pinned (.plain (OpenSpec.ofChange connCreditSpec)) connCreditCard

/-- THE TIED CARD OF 'louverlaw14.ConnMany'. -/
def connManyCard : Claim7 := { stood := { row := connManyRow, standIns := [], harness := (true, "4d87f928cde6ac1443be82af1b7211b6d1ab4645ea9887395171f52e39e37c25"), looks := true }, kinds := [], alts := [], laidByText := true, laidKinds := [.handle], laidTests := true, laidLooks := .later }
def ConnManyCardSaid : Prop := Claim7.holds Tryz.pinned (.plain (OpenSpec.ofChange connManySpec)) connManyCard

/-- THE TIED CARD OF 'louverlaw14.ConnLeaves'. -/
def connLeavesCard : Claim7 := { stood := { row := connLeavesRow, standIns := [], harness := (true, "4d87f928cde6ac1443be82af1b7211b6d1ab4645ea9887395171f52e39e37c25"), looks := true }, kinds := [], alts := [], laidByText := true, laidKinds := [.handle], laidTests := true, laidLooks := .later }
def ConnLeavesCardSaid : Prop := Claim7.holds Tryz.pinned (.plain (OpenSpec.ofChange connLeavesSpec)) connLeavesCard

/-- THE SECOND FORM's CARD OF 'louverlaw14.ConnNil'. -/
def connNilUptoCard : Claim7 := { stood := { row := connNilUptoRow, standIns := [], harness := (true, "4d87f928cde6ac1443be82af1b7211b6d1ab4645ea9887395171f52e39e37c25"), looks := true }, kinds := [], alts := [], laidByText := true, laidKinds := [.handle], laidTests := true, laidLooks := .later }
def ConnNilUptoCardSaid : Prop := Claim7.holds Tryz.pinned (.plain (OpenSpec.upto connNilSpec)) connNilUptoCard

/-- THE SECOND FORM's CARD OF 'louverlaw14.ConnCredit'. -/
def connCreditUptoCard : Claim7 := { stood := { row := connCreditUptoRow, standIns := [], harness := (true, "4d87f928cde6ac1443be82af1b7211b6d1ab4645ea9887395171f52e39e37c25"), looks := true }, kinds := [], alts := [], laidByText := true, laidKinds := [.handle], laidTests := true, laidLooks := .later }
def ConnCreditUptoCardSaid : Prop := Claim7.holds Tryz.pinned (.plain (OpenSpec.upto connCreditSpec)) connCreditUptoCard

/-- THE SECOND FORM's CARD OF 'louverlaw14.ConnMany'. -/
def connManyUptoCard : Claim7 := { stood := { row := connManyUptoRow, standIns := [], harness := (true, "4d87f928cde6ac1443be82af1b7211b6d1ab4645ea9887395171f52e39e37c25"), looks := true }, kinds := [], alts := [], laidByText := true, laidKinds := [.handle], laidTests := true, laidLooks := .later }
def ConnManyUptoCardSaid : Prop := Claim7.holds Tryz.pinned (.plain (OpenSpec.upto connManySpec)) connManyUptoCard

/-- THE SECOND FORM's CARD OF 'louverlaw14.ConnLeaves'. -/
def connLeavesUptoCard : Claim7 := { stood := { row := connLeavesUptoRow, standIns := [], harness := (true, "4d87f928cde6ac1443be82af1b7211b6d1ab4645ea9887395171f52e39e37c25"), looks := true }, kinds := [], alts := [], laidByText := true, laidKinds := [.handle], laidTests := true, laidLooks := .later }
def ConnLeavesUptoCardSaid : Prop := Claim7.holds Tryz.pinned (.plain (OpenSpec.upto connLeavesSpec)) connLeavesUptoCard
end Rows
end Go.Proofs.YtooaajnkiokpnaaGreatDoor
