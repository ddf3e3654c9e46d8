/-
  DERIVED. GIVEN WITH THE SEED: THE CARDS: each row of YtncnlmjhejminaaDoorRows.lean that lists a variable, with what it lists TIED to the program's text (the seventh form; the later family's looks); each row that meets fmt, with fmt's text TOLD by the authors' own Lean function (tested against real Go, not proved from fmt's source: count such statements apart). THE CARD IS WHAT COUNTS. Prove the row's statement (the work); the ties are given (YtncnlmjhejminaaDoorTie.lean); close each card by the builder's one call (the guide's Derived/Test/ToyasCard.lean, 'card_holds'). Laid BY PROGRAM, IN A SANDBOX (cutbox-door.mjs). By AI agents, Wed Nov 11 2026. No macro, syntax, notation, axiom, sorry.
-/
import Derived.Test.YtncnlmjhejminaaDoorRows
import GoSem.ClaimSeven
namespace Go.Proofs.YtncnlmjhejminaaDoor
namespace Rows

/-- THE TIED CARD OF 'milepostlaw18.IdentIds'. -/
def identIdsCard : Claim7 := { stood := { row := identIdsRow, standIns := [], harness := (true, "f76569e19b13405f4d40f90b9e0120c3d7734e180611063ab5fdfb662327150c"), looks := false }, kinds := [], alts := [], laidByText := true, laidKinds := [.data], laidTests := true, laidLooks := .later }
def IdentIdsCardSaid : Prop := Claim7.holds Tryd.pinned (.plain (OpenSpec.ofChange identIdsSpec)) identIdsCard

/-- THE TIED CARD OF 'milepostlaw18.IdentFirst'. -/
def identFirstCard : Claim7 := { stood := { row := identFirstRow, standIns := [], harness := (true, "f76569e19b13405f4d40f90b9e0120c3d7734e180611063ab5fdfb662327150c"), looks := false }, kinds := [], alts := [], laidByText := true, laidKinds := [.data], laidTests := true, laidLooks := .later }
def IdentFirstCardSaid : Prop := Claim7.holds Tryd.pinned (.plain (OpenSpec.ofChange identFirstSpec)) identFirstCard

/-- THE TIED CARD OF 'milepostlaw18.IdentApart'. -/
def identApartCard : Claim7 := { stood := { row := identApartRow, standIns := [], harness := (true, "f76569e19b13405f4d40f90b9e0120c3d7734e180611063ab5fdfb662327150c"), looks := false }, kinds := [], alts := [], laidByText := true, laidKinds := [.data], laidTests := true, laidLooks := .later }
def IdentApartCardSaid : Prop := Claim7.holds Tryd.pinned (.plain (OpenSpec.ofChange identApartSpec)) identApartCard

/-- THE SECOND FORM's CARD OF 'milepostlaw18.IdentIds'. -/
def identIdsUptoCard : Claim7 := { stood := { row := identIdsUptoRow, standIns := [], harness := (true, "f76569e19b13405f4d40f90b9e0120c3d7734e180611063ab5fdfb662327150c"), looks := false }, kinds := [], alts := [], laidByText := true, laidKinds := [.data], laidTests := true, laidLooks := .later }
def IdentIdsUptoCardSaid : Prop := Claim7.holds Tryd.pinned (.plain (OpenSpec.upto identIdsSpec)) identIdsUptoCard

/-- THE SECOND FORM's CARD OF 'milepostlaw18.IdentFirst'. -/
def identFirstUptoCard : Claim7 := { stood := { row := identFirstUptoRow, standIns := [], harness := (true, "f76569e19b13405f4d40f90b9e0120c3d7734e180611063ab5fdfb662327150c"), looks := false }, kinds := [], alts := [], laidByText := true, laidKinds := [.data], laidTests := true, laidLooks := .later }
def IdentFirstUptoCardSaid : Prop := Claim7.holds Tryd.pinned (.plain (OpenSpec.upto identFirstSpec)) identFirstUptoCard

/-- THE SECOND FORM's CARD OF 'milepostlaw18.IdentApart'. -/
def identApartUptoCard : Claim7 := { stood := { row := identApartUptoRow, standIns := [], harness := (true, "f76569e19b13405f4d40f90b9e0120c3d7734e180611063ab5fdfb662327150c"), looks := false }, kinds := [], alts := [], laidByText := true, laidKinds := [.data], laidTests := true, laidLooks := .later }
def IdentApartUptoCardSaid : Prop := Claim7.holds Tryd.pinned (.plain (OpenSpec.upto identApartSpec)) identApartUptoCard
end Rows
end Go.Proofs.YtncnlmjhejminaaDoor
