/-
  DERIVED. GIVEN WITH THE SEED: THE CARDS: each row of YtfdjbomofmeolaaDoorRows.lean that lists a variable, with what it lists TIED to the program's text (the seventh form; the later family's looks); each row that meets fmt, with fmt's text TOLD by the authors' own Lean function (tested against real Go, not proved from fmt's source: count such statements apart). THE CARD IS WHAT COUNTS. Prove the row's statement (the work); the ties are given (YtfdjbomofmeolaaDoorTie.lean); close each card by the builder's one call (the guide's Derived/Test/ToyasCard.lean, 'card_holds'). Laid BY PROGRAM, IN A SANDBOX (cutbox-door.mjs). By AI agents, Wed Nov 11 2026. No macro, syntax, notation, axiom, sorry.
-/
import Derived.Test.YtfdjbomofmeolaaDoorRows
import GoSem.ClaimSeven
namespace Go.Proofs.YtfdjbomofmeolaaDoor
namespace Rows

/-- THE TIED CARD OF 'milepostlaw21.LinkRoots'. -/
def linkRootsCard : Claim7 := { stood := { row := linkRootsRow, standIns := [], harness := (true, "d2ac4cb282a8d19ab587d1f9d57132f56d731b40c2108f70222c128de4a60e05"), looks := false }, kinds := [], alts := [], laidByText := true, laidKinds := [.data], laidTests := true, laidLooks := .later }
def LinkRootsCardSaid : Prop := Claim7.holds Tryd.pinned (.plain (OpenSpec.ofChange linkRootsSpec)) linkRootsCard

/-- THE TIED CARD OF 'milepostlaw21.LinkChecks'. -/
def linkChecksCard : Claim7 := { stood := { row := linkChecksRow, standIns := [], harness := (true, "d2ac4cb282a8d19ab587d1f9d57132f56d731b40c2108f70222c128de4a60e05"), looks := false }, kinds := [], alts := [], laidByText := true, laidKinds := [.data], laidTests := true, laidLooks := .later }
def LinkChecksCardSaid : Prop := Claim7.holds Tryd.pinned (.plain (OpenSpec.ofChange linkChecksSpec)) linkChecksCard

/-- THE TIED CARD OF 'milepostlaw21.LinkBack'. -/
def linkBackCard : Claim7 := { stood := { row := linkBackRow, standIns := [], harness := (true, "d2ac4cb282a8d19ab587d1f9d57132f56d731b40c2108f70222c128de4a60e05"), looks := false }, kinds := [], alts := [], laidByText := true, laidKinds := [.data], laidTests := true, laidLooks := .later }
def LinkBackCardSaid : Prop := Claim7.holds Tryd.pinned (.plain (OpenSpec.ofChange linkBackSpec)) linkBackCard

/-- THE SECOND FORM's CARD OF 'milepostlaw21.LinkRoots'. -/
def linkRootsUptoCard : Claim7 := { stood := { row := linkRootsUptoRow, standIns := [], harness := (true, "d2ac4cb282a8d19ab587d1f9d57132f56d731b40c2108f70222c128de4a60e05"), looks := false }, kinds := [], alts := [], laidByText := true, laidKinds := [.data], laidTests := true, laidLooks := .later }
def LinkRootsUptoCardSaid : Prop := Claim7.holds Tryd.pinned (.plain (OpenSpec.upto linkRootsSpec)) linkRootsUptoCard

/-- THE SECOND FORM's CARD OF 'milepostlaw21.LinkChecks'. -/
def linkChecksUptoCard : Claim7 := { stood := { row := linkChecksUptoRow, standIns := [], harness := (true, "d2ac4cb282a8d19ab587d1f9d57132f56d731b40c2108f70222c128de4a60e05"), looks := false }, kinds := [], alts := [], laidByText := true, laidKinds := [.data], laidTests := true, laidLooks := .later }
def LinkChecksUptoCardSaid : Prop := Claim7.holds Tryd.pinned (.plain (OpenSpec.upto linkChecksSpec)) linkChecksUptoCard

/-- THE SECOND FORM's CARD OF 'milepostlaw21.LinkBack'. -/
def linkBackUptoCard : Claim7 := { stood := { row := linkBackUptoRow, standIns := [], harness := (true, "d2ac4cb282a8d19ab587d1f9d57132f56d731b40c2108f70222c128de4a60e05"), looks := false }, kinds := [], alts := [], laidByText := true, laidKinds := [.data], laidTests := true, laidLooks := .later }
def LinkBackUptoCardSaid : Prop := Claim7.holds Tryd.pinned (.plain (OpenSpec.upto linkBackSpec)) linkBackUptoCard
end Rows
end Go.Proofs.YtfdjbomofmeolaaDoor
