/-
  DERIVED. GIVEN WITH THE SEED: THE CARDS: each row of YtcbcjiaedoeaeaaDoorRows.lean that lists a variable, with what it lists TIED to the program's text (the seventh form; the later family's looks); each row that meets fmt, with fmt's text TOLD by the authors' own Lean function (tested against real Go, not proved from fmt's source: count such statements apart). THE CARD IS WHAT COUNTS. Prove the row's statement (the work); the ties are given (YtcbcjiaedoeaeaaDoorTie.lean); close each card by the builder's one call (the guide's Derived/Test/ToyasCard.lean, 'card_holds'). Laid BY PROGRAM, IN A SANDBOX (cutbox-door.mjs). By AI agents, Wed Nov 11 2026. No macro, syntax, notation, axiom, sorry.
-/
import Derived.Test.YtcbcjiaedoeaeaaDoorRows
import GoSem.ClaimSeven
namespace Go.Proofs.YtcbcjiaedoeaeaaDoor
namespace Rows

/-- THE TIED CARD OF 'milepostlaw22.TxsRoots'. -/
def txsRootsCard : Claim7 := { stood := { row := txsRootsRow, standIns := [], harness := (true, "b2ada0222238b61a593490755c687325dba9eef29d1dcfe40011fc54ec8c5a67"), looks := false }, kinds := [], alts := [], laidByText := true, laidKinds := [.data], laidTests := true, laidLooks := .later }
def TxsRootsCardSaid : Prop := Claim7.holds Tryd.pinned (.plain (OpenSpec.ofChange txsRootsSpec)) txsRootsCard

/-- THE TIED CARD OF 'milepostlaw22.TxsChecks'. -/
def txsChecksCard : Claim7 := { stood := { row := txsChecksRow, standIns := [], harness := (true, "b2ada0222238b61a593490755c687325dba9eef29d1dcfe40011fc54ec8c5a67"), looks := false }, kinds := [], alts := [], laidByText := true, laidKinds := [.data], laidTests := true, laidLooks := .later }
def TxsChecksCardSaid : Prop := Claim7.holds Tryd.pinned (.plain (OpenSpec.ofChange txsChecksSpec)) txsChecksCard

/-- THE TIED CARD OF 'milepostlaw22.TxsApart'. -/
def txsApartCard : Claim7 := { stood := { row := txsApartRow, standIns := [], harness := (true, "b2ada0222238b61a593490755c687325dba9eef29d1dcfe40011fc54ec8c5a67"), looks := false }, kinds := [], alts := [], laidByText := true, laidKinds := [.data], laidTests := true, laidLooks := .later }
def TxsApartCardSaid : Prop := Claim7.holds Tryd.pinned (.plain (OpenSpec.ofChange txsApartSpec)) txsApartCard

/-- THE SECOND FORM's CARD OF 'milepostlaw22.TxsRoots'. -/
def txsRootsUptoCard : Claim7 := { stood := { row := txsRootsUptoRow, standIns := [], harness := (true, "b2ada0222238b61a593490755c687325dba9eef29d1dcfe40011fc54ec8c5a67"), looks := false }, kinds := [], alts := [], laidByText := true, laidKinds := [.data], laidTests := true, laidLooks := .later }
def TxsRootsUptoCardSaid : Prop := Claim7.holds Tryd.pinned (.plain (OpenSpec.upto txsRootsSpec)) txsRootsUptoCard

/-- THE SECOND FORM's CARD OF 'milepostlaw22.TxsChecks'. -/
def txsChecksUptoCard : Claim7 := { stood := { row := txsChecksUptoRow, standIns := [], harness := (true, "b2ada0222238b61a593490755c687325dba9eef29d1dcfe40011fc54ec8c5a67"), looks := false }, kinds := [], alts := [], laidByText := true, laidKinds := [.data], laidTests := true, laidLooks := .later }
def TxsChecksUptoCardSaid : Prop := Claim7.holds Tryd.pinned (.plain (OpenSpec.upto txsChecksSpec)) txsChecksUptoCard

/-- THE SECOND FORM's CARD OF 'milepostlaw22.TxsApart'. -/
def txsApartUptoCard : Claim7 := { stood := { row := txsApartUptoRow, standIns := [], harness := (true, "b2ada0222238b61a593490755c687325dba9eef29d1dcfe40011fc54ec8c5a67"), looks := false }, kinds := [], alts := [], laidByText := true, laidKinds := [.data], laidTests := true, laidLooks := .later }
def TxsApartUptoCardSaid : Prop := Claim7.holds Tryd.pinned (.plain (OpenSpec.upto txsApartSpec)) txsApartUptoCard
end Rows
end Go.Proofs.YtcbcjiaedoeaeaaDoor
