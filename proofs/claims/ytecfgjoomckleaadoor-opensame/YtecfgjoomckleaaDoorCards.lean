/-
  DERIVED. GIVEN WITH THE SEED: THE CARDS: each row of YtecfgjoomckleaaDoorRows.lean that lists a variable, with what it lists TIED to the program's text (the seventh form; the later family's looks); each row that meets fmt, with fmt's text TOLD by the authors' own Lean function (tested against real Go, not proved from fmt's source: count such statements apart). THE CARD IS WHAT COUNTS. Prove the row's statement (the work); the ties are given (YtecfgjoomckleaaDoorTie.lean); close each card by the builder's one call (the guide's Derived/Test/ToyasCard.lean, 'card_holds'). Laid BY PROGRAM, IN A SANDBOX (cutbox-door.mjs). By AI agents, Wed Nov 11 2026. No macro, syntax, notation, axiom, sorry.
-/
import Derived.Test.YtecfgjoomckleaaDoorRows
import GoSem.ClaimSeven
namespace Go.Proofs.YtecfgjoomckleaaDoor
namespace Rows

/-- THE TIED CARD OF 'milepostlaw13.OpenLeaves'. -/
def openLeavesCard : Claim7 := { stood := { row := openLeavesRow, standIns := [], harness := (true, "121d3008c91a42be9b9fca8af4b73f6689e190c4c5aeb7ce629360028d1ca94b"), looks := false }, kinds := [], alts := [], laidByText := true, laidKinds := [.data], laidTests := true, laidLooks := .later }
def OpenLeavesCardSaid : Prop := Claim7.holds Tryd.pinned (.plain (OpenSpec.ofChange openLeavesSpec)) openLeavesCard

/-- THE TIED CARD OF 'milepostlaw13.OpenSame'. -/
def openSameCard : Claim7 := { stood := { row := openSameRow, standIns := [], harness := (true, "121d3008c91a42be9b9fca8af4b73f6689e190c4c5aeb7ce629360028d1ca94b"), looks := false }, kinds := [], alts := [], laidByText := true, laidKinds := [.data], laidTests := true, laidLooks := .later }
def OpenSameCardSaid : Prop := Claim7.holds Tryd.pinned (.plain (OpenSpec.ofChange openSameSpec)) openSameCard

/-- THE SECOND FORM's CARD OF 'milepostlaw13.OpenLeaves'. -/
def openLeavesUptoCard : Claim7 := { stood := { row := openLeavesUptoRow, standIns := [], harness := (true, "121d3008c91a42be9b9fca8af4b73f6689e190c4c5aeb7ce629360028d1ca94b"), looks := false }, kinds := [], alts := [], laidByText := true, laidKinds := [.data], laidTests := true, laidLooks := .later }
def OpenLeavesUptoCardSaid : Prop := Claim7.holds Tryd.pinned (.plain (OpenSpec.upto openLeavesSpec)) openLeavesUptoCard

/-- THE SECOND FORM's CARD OF 'milepostlaw13.OpenSame'. -/
def openSameUptoCard : Claim7 := { stood := { row := openSameUptoRow, standIns := [], harness := (true, "121d3008c91a42be9b9fca8af4b73f6689e190c4c5aeb7ce629360028d1ca94b"), looks := false }, kinds := [], alts := [], laidByText := true, laidKinds := [.data], laidTests := true, laidLooks := .later }
def OpenSameUptoCardSaid : Prop := Claim7.holds Tryd.pinned (.plain (OpenSpec.upto openSameSpec)) openSameUptoCard
end Rows
end Go.Proofs.YtecfgjoomckleaaDoor
