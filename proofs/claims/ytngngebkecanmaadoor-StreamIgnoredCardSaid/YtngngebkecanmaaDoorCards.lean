/-
  DERIVED. GIVEN WITH THE SEED: THE CARDS: each row of YtngngebkecanmaaDoorRows.lean that lists a variable, with what it lists TIED to the program's text (the seventh form; the later family's looks); each row that meets fmt, with fmt's text TOLD by the authors' own Lean function (tested against real Go, not proved from fmt's source: count such statements apart). THE CARD IS WHAT COUNTS. Prove the row's statement (the work); the ties are given (YtngngebkecanmaaDoorTie.lean); close each card by the builder's one call (the guide's Derived/Test/ToyasCard.lean, 'card_holds'). Laid BY PROGRAM, IN A SANDBOX (cutbox-door.mjs). By AI agents, Wed Nov 11 2026. No macro, syntax, notation, axiom, sorry.
-/
import Derived.Test.YtngngebkecanmaaDoorRows
import GoSem.ClaimSeven
namespace Go.Proofs.YtngngebkecanmaaDoor
namespace Rows

/-- THE TIED CARD OF 'louverlaw11.StreamSend'. -/
def streamSendCard : Claim7 := { stood := { row := streamSendRow, standIns := [], harness := (true, "ce0c9521a1255891881963f5e80d05c1a2f845eda5641ce7a14e454e1ef32df9"), looks := true }, kinds := [], alts := [], laidByText := true, laidKinds := [.handle], laidTests := true, laidLooks := .later }
def StreamSendCardSaid : Prop := Claim7.holds Tryd.pinned (.plain (OpenSpec.ofChange streamSendSpec)) streamSendCard

/-- THE TIED CARD OF 'louverlaw11.StreamOn'. -/
def streamOnCard : Claim7 := { stood := { row := streamOnRow, standIns := [], harness := (true, "ce0c9521a1255891881963f5e80d05c1a2f845eda5641ce7a14e454e1ef32df9"), looks := true }, kinds := [], alts := [], laidByText := true, laidKinds := [.handle], laidTests := true, laidLooks := .later }
def StreamOnCardSaid : Prop := Claim7.holds Tryd.pinned (.plain (OpenSpec.ofChange streamOnSpec)) streamOnCard

/-- THE TIED CARD OF 'louverlaw11.StreamEnds'. -/
def streamEndsCard : Claim7 := { stood := { row := streamEndsRow, standIns := [], harness := (true, "ce0c9521a1255891881963f5e80d05c1a2f845eda5641ce7a14e454e1ef32df9"), looks := true }, kinds := [], alts := [], laidByText := true, laidKinds := [.handle], laidTests := true, laidLooks := .later }
def StreamEndsCardSaid : Prop := Claim7.holds Tryd.pinned (.plain (OpenSpec.ofChange streamEndsSpec)) streamEndsCard

/-- THE TIED CARD OF 'louverlaw11.StreamNumber'. -/
def streamNumberCard : Claim7 := { stood := { row := streamNumberRow, standIns := [], harness := (true, "ce0c9521a1255891881963f5e80d05c1a2f845eda5641ce7a14e454e1ef32df9"), looks := true }, kinds := [], alts := [], laidByText := true, laidKinds := [.handle], laidTests := true, laidLooks := .later }
def StreamNumberCardSaid : Prop := Claim7.holds Tryd.pinned (.plain (OpenSpec.ofChange streamNumberSpec)) streamNumberCard

/-- THE TIED CARD OF 'louverlaw11.StreamIgnored'. -/
def streamIgnoredCard : Claim7 := { stood := { row := streamIgnoredRow, standIns := [], harness := (true, "ce0c9521a1255891881963f5e80d05c1a2f845eda5641ce7a14e454e1ef32df9"), looks := true }, kinds := [], alts := [], laidByText := true, laidKinds := [.handle], laidTests := true, laidLooks := .later }
def StreamIgnoredCardSaid : Prop := Claim7.holds Tryd.pinned (.plain (OpenSpec.ofChange streamIgnoredSpec)) streamIgnoredCard

/-- THE SECOND FORM's CARD OF 'louverlaw11.StreamSend'. -/
def streamSendUptoCard : Claim7 := { stood := { row := streamSendUptoRow, standIns := [], harness := (true, "ce0c9521a1255891881963f5e80d05c1a2f845eda5641ce7a14e454e1ef32df9"), looks := true }, kinds := [], alts := [], laidByText := true, laidKinds := [.handle], laidTests := true, laidLooks := .later }
def StreamSendUptoCardSaid : Prop := Claim7.holds Tryd.pinned (.plain (OpenSpec.upto streamSendSpec)) streamSendUptoCard

/-- THE SECOND FORM's CARD OF 'louverlaw11.StreamOn'. -/
def streamOnUptoCard : Claim7 := { stood := { row := streamOnUptoRow, standIns := [], harness := (true, "ce0c9521a1255891881963f5e80d05c1a2f845eda5641ce7a14e454e1ef32df9"), looks := true }, kinds := [], alts := [], laidByText := true, laidKinds := [.handle], laidTests := true, laidLooks := .later }
def StreamOnUptoCardSaid : Prop := Claim7.holds Tryd.pinned (.plain (OpenSpec.upto streamOnSpec)) streamOnUptoCard

/-- THE SECOND FORM's CARD OF 'louverlaw11.StreamEnds'. -/
def streamEndsUptoCard : Claim7 := { stood := { row := streamEndsUptoRow, standIns := [], harness := (true, "ce0c9521a1255891881963f5e80d05c1a2f845eda5641ce7a14e454e1ef32df9"), looks := true }, kinds := [], alts := [], laidByText := true, laidKinds := [.handle], laidTests := true, laidLooks := .later }
def StreamEndsUptoCardSaid : Prop := Claim7.holds Tryd.pinned (.plain (OpenSpec.upto streamEndsSpec)) streamEndsUptoCard

/-- THE SECOND FORM's CARD OF 'louverlaw11.StreamNumber'. -/
def streamNumberUptoCard : Claim7 := { stood := { row := streamNumberUptoRow, standIns := [], harness := (true, "ce0c9521a1255891881963f5e80d05c1a2f845eda5641ce7a14e454e1ef32df9"), looks := true }, kinds := [], alts := [], laidByText := true, laidKinds := [.handle], laidTests := true, laidLooks := .later }
def StreamNumberUptoCardSaid : Prop := Claim7.holds Tryd.pinned (.plain (OpenSpec.upto streamNumberSpec)) streamNumberUptoCard

/-- THE SECOND FORM's CARD OF 'louverlaw11.StreamIgnored'. -/
def streamIgnoredUptoCard : Claim7 := { stood := { row := streamIgnoredUptoRow, standIns := [], harness := (true, "ce0c9521a1255891881963f5e80d05c1a2f845eda5641ce7a14e454e1ef32df9"), looks := true }, kinds := [], alts := [], laidByText := true, laidKinds := [.handle], laidTests := true, laidLooks := .later }
def StreamIgnoredUptoCardSaid : Prop := Claim7.holds Tryd.pinned (.plain (OpenSpec.upto streamIgnoredSpec)) streamIgnoredUptoCard
end Rows
end Go.Proofs.YtngngebkecanmaaDoor
