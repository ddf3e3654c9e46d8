/-
  DERIVED. GIVEN WITH THE SEED: THE CARDS: each row of YtljkhlbfjcbkiaaDoorRows.lean that lists a variable, with what it lists TIED to the program's text (the seventh form; the later family's looks); each row that meets fmt, with fmt's text TOLD by the authors' own Lean function (tested against real Go, not proved from fmt's source: count such statements apart). THE CARD IS WHAT COUNTS. Prove the row's statement (the work); the ties are given (YtljkhlbfjcbkiaaDoorTie.lean); close each card by the builder's one call (the guide's Derived/Test/ToyasCard.lean, 'card_holds'). Laid BY PROGRAM, IN A SANDBOX (cutbox-door.mjs). By AI agents, Wed Nov 11 2026. No macro, syntax, notation, axiom, sorry.
-/
import Derived.Test.YtljkhlbfjcbkiaaDoorRows
import GoSem.ClaimSeven
namespace Go.Proofs.YtljkhlbfjcbkiaaDoor
namespace Rows

/-- THE TIED CARD OF 'milepostlaw14.HoldTells'. -/
def holdTellsCard : Claim7 := { stood := { row := holdTellsRow, standIns := [], harness := (true, "7bb8722e63a46b785bb0b4604b39f937ea6e5c68ad986d8116623a57e205ec0e"), looks := false }, kinds := [], alts := [], laidByText := true, laidKinds := [.data], laidTests := true, laidLooks := .later }
def HoldTellsCardSaid : Prop := Claim7.holds Tryd.pinned (.plain (OpenSpec.ofChange holdTellsSpec)) holdTellsCard

/-- THE TIED CARD OF 'milepostlaw14.HoldOpened'. -/
def holdOpenedCard : Claim7 := { stood := { row := holdOpenedRow, standIns := [], harness := (true, "7bb8722e63a46b785bb0b4604b39f937ea6e5c68ad986d8116623a57e205ec0e"), looks := false }, kinds := [], alts := [], laidByText := true, laidKinds := [.data], laidTests := true, laidLooks := .later }
def HoldOpenedCardSaid : Prop := Claim7.holds Tryd.pinned (.plain (OpenSpec.ofChange holdOpenedSpec)) holdOpenedCard

/-- THE SECOND FORM's CARD OF 'milepostlaw14.HoldTells'. -/
def holdTellsUptoCard : Claim7 := { stood := { row := holdTellsUptoRow, standIns := [], harness := (true, "7bb8722e63a46b785bb0b4604b39f937ea6e5c68ad986d8116623a57e205ec0e"), looks := false }, kinds := [], alts := [], laidByText := true, laidKinds := [.data], laidTests := true, laidLooks := .later }
def HoldTellsUptoCardSaid : Prop := Claim7.holds Tryd.pinned (.plain (OpenSpec.upto holdTellsSpec)) holdTellsUptoCard

/-- THE SECOND FORM's CARD OF 'milepostlaw14.HoldOpened'. -/
def holdOpenedUptoCard : Claim7 := { stood := { row := holdOpenedUptoRow, standIns := [], harness := (true, "7bb8722e63a46b785bb0b4604b39f937ea6e5c68ad986d8116623a57e205ec0e"), looks := false }, kinds := [], alts := [], laidByText := true, laidKinds := [.data], laidTests := true, laidLooks := .later }
def HoldOpenedUptoCardSaid : Prop := Claim7.holds Tryd.pinned (.plain (OpenSpec.upto holdOpenedSpec)) holdOpenedUptoCard
end Rows
end Go.Proofs.YtljkhlbfjcbkiaaDoor
