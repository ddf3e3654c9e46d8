/-
  DERIVED. GIVEN WITH THE SEED: THE CARDS: each row of YthafohijocidlaaDoorRows.lean that lists a variable, with what it lists TIED to the program's text (the seventh form; the later family's looks); each row that meets fmt, with fmt's text TOLD by the authors' own Lean function (tested against real Go, not proved from fmt's source: count such statements apart). THE CARD IS WHAT COUNTS. Prove the row's statement (the work); the ties are given (YthafohijocidlaaDoorTie.lean); close each card by the builder's one call (the guide's Derived/Test/ToyasCard.lean, 'card_holds'). Laid BY PROGRAM, IN A SANDBOX (cutbox-door.mjs). By AI agents, Wed Nov 11 2026. No macro, syntax, notation, axiom, sorry.
-/
import Derived.Test.YthafohijocidlaaDoorRows
import GoSem.ClaimSeven
namespace Go.Proofs.YthafohijocidlaaDoor
namespace Rows

/-- THE TIED CARD OF 'milepostlaw15.ClashIs'. -/
def clashIsCard : Claim7 := { stood := { row := clashIsRow, standIns := [], harness := (true, "0bff8d42d30ff236f4d1af1c11e02f2c110f2f64fb2728ec241eab8c73aa2bee"), looks := false }, kinds := [], alts := [], laidByText := true, laidKinds := [.data], laidTests := true, laidLooks := .later }
def ClashIsCardSaid : Prop := Claim7.holds Tryd.pinned (.plain (OpenSpec.ofChange clashIsSpec)) clashIsCard

/-- THE TIED CARD OF 'milepostlaw15.ClashFinds'. -/
def clashFindsCard : Claim7 := { stood := { row := clashFindsRow, standIns := [], harness := (true, "0bff8d42d30ff236f4d1af1c11e02f2c110f2f64fb2728ec241eab8c73aa2bee"), looks := false }, kinds := [], alts := [], laidByText := true, laidKinds := [.data], laidTests := true, laidLooks := .later }
def ClashFindsCardSaid : Prop := Claim7.holds Tryd.pinned (.plain (OpenSpec.ofChange clashFindsSpec)) clashFindsCard

/-- THE TIED CARD OF 'milepostlaw15.ClashOpened'. -/
def clashOpenedCard : Claim7 := { stood := { row := clashOpenedRow, standIns := [], harness := (true, "0bff8d42d30ff236f4d1af1c11e02f2c110f2f64fb2728ec241eab8c73aa2bee"), looks := false }, kinds := [], alts := [], laidByText := true, laidKinds := [.data], laidTests := true, laidLooks := .later }
def ClashOpenedCardSaid : Prop := Claim7.holds Tryd.pinned (.plain (OpenSpec.ofChange clashOpenedSpec)) clashOpenedCard

/-- THE SECOND FORM's CARD OF 'milepostlaw15.ClashIs'. -/
def clashIsUptoCard : Claim7 := { stood := { row := clashIsUptoRow, standIns := [], harness := (true, "0bff8d42d30ff236f4d1af1c11e02f2c110f2f64fb2728ec241eab8c73aa2bee"), looks := false }, kinds := [], alts := [], laidByText := true, laidKinds := [.data], laidTests := true, laidLooks := .later }
def ClashIsUptoCardSaid : Prop := Claim7.holds Tryd.pinned (.plain (OpenSpec.upto clashIsSpec)) clashIsUptoCard

/-- THE SECOND FORM's CARD OF 'milepostlaw15.ClashFinds'. -/
def clashFindsUptoCard : Claim7 := { stood := { row := clashFindsUptoRow, standIns := [], harness := (true, "0bff8d42d30ff236f4d1af1c11e02f2c110f2f64fb2728ec241eab8c73aa2bee"), looks := false }, kinds := [], alts := [], laidByText := true, laidKinds := [.data], laidTests := true, laidLooks := .later }
def ClashFindsUptoCardSaid : Prop := Claim7.holds Tryd.pinned (.plain (OpenSpec.upto clashFindsSpec)) clashFindsUptoCard

/-- THE SECOND FORM's CARD OF 'milepostlaw15.ClashOpened'. -/
def clashOpenedUptoCard : Claim7 := { stood := { row := clashOpenedUptoRow, standIns := [], harness := (true, "0bff8d42d30ff236f4d1af1c11e02f2c110f2f64fb2728ec241eab8c73aa2bee"), looks := false }, kinds := [], alts := [], laidByText := true, laidKinds := [.data], laidTests := true, laidLooks := .later }
def ClashOpenedUptoCardSaid : Prop := Claim7.holds Tryd.pinned (.plain (OpenSpec.upto clashOpenedSpec)) clashOpenedUptoCard
end Rows
end Go.Proofs.YthafohijocidlaaDoor
