/-
  DERIVED. GIVEN WITH THE SEED: THE CARDS: each row of YtbjomgbekkgdlaaDoorRows.lean that lists a variable, with what it lists TIED to the program's text (the seventh form; the later family's looks); each row that meets fmt, with fmt's text TOLD by the authors' own Lean function (tested against real Go, not proved from fmt's source: count such statements apart). THE CARD IS WHAT COUNTS. Prove the row's statement (the work); the ties are given (YtbjomgbekkgdlaaDoorTie.lean); close each card by the builder's one call (the guide's Derived/Test/ToyasCard.lean, 'card_holds'). Laid BY PROGRAM, IN A SANDBOX (cutbox-door.mjs). By AI agents, Wed Nov 11 2026. No macro, syntax, notation, axiom, sorry.
-/
import Derived.Test.YtbjomgbekkgdlaaDoorRows
import GoSem.ClaimSeven
namespace Go.Proofs.YtbjomgbekkgdlaaDoor
namespace Rows

/-- THE TIED CARD OF 'milepostlaw12.TreeRoots'. -/
def treeRootsCard : Claim7 := { stood := { row := treeRootsRow, standIns := [], harness := (true, "16680ee99572903cff2778b9fdd74bc0ae8ae01935b64b2c2c76b27edb33b269"), looks := false }, kinds := [], alts := [], laidByText := true, laidKinds := [.data], laidTests := true, laidLooks := .later }
def TreeRootsCardSaid : Prop := Claim7.holds Tryd.pinned (.plain (OpenSpec.ofChange treeRootsSpec)) treeRootsCard

/-- THE TIED CARD OF 'milepostlaw12.TreeTops'. -/
def treeTopsCard : Claim7 := { stood := { row := treeTopsRow, standIns := [], harness := (true, "16680ee99572903cff2778b9fdd74bc0ae8ae01935b64b2c2c76b27edb33b269"), looks := false }, kinds := [], alts := [], laidByText := true, laidKinds := [.data], laidTests := true, laidLooks := .later }
def TreeTopsCardSaid : Prop := Claim7.holds Tryd.pinned (.plain (OpenSpec.ofChange treeTopsSpec)) treeTopsCard

/-- THE TIED CARD OF 'milepostlaw12.TreeApart'. -/
def treeApartCard : Claim7 := { stood := { row := treeApartRow, standIns := [], harness := (true, "16680ee99572903cff2778b9fdd74bc0ae8ae01935b64b2c2c76b27edb33b269"), looks := false }, kinds := [], alts := [], laidByText := true, laidKinds := [.data], laidTests := true, laidLooks := .later }
def TreeApartCardSaid : Prop := Claim7.holds Tryd.pinned (.plain (OpenSpec.ofChange treeApartSpec)) treeApartCard

/-- THE SECOND FORM's CARD OF 'milepostlaw12.TreeRoots'. -/
def treeRootsUptoCard : Claim7 := { stood := { row := treeRootsUptoRow, standIns := [], harness := (true, "16680ee99572903cff2778b9fdd74bc0ae8ae01935b64b2c2c76b27edb33b269"), looks := false }, kinds := [], alts := [], laidByText := true, laidKinds := [.data], laidTests := true, laidLooks := .later }
def TreeRootsUptoCardSaid : Prop := Claim7.holds Tryd.pinned (.plain (OpenSpec.upto treeRootsSpec)) treeRootsUptoCard

/-- THE SECOND FORM's CARD OF 'milepostlaw12.TreeTops'. -/
def treeTopsUptoCard : Claim7 := { stood := { row := treeTopsUptoRow, standIns := [], harness := (true, "16680ee99572903cff2778b9fdd74bc0ae8ae01935b64b2c2c76b27edb33b269"), looks := false }, kinds := [], alts := [], laidByText := true, laidKinds := [.data], laidTests := true, laidLooks := .later }
def TreeTopsUptoCardSaid : Prop := Claim7.holds Tryd.pinned (.plain (OpenSpec.upto treeTopsSpec)) treeTopsUptoCard

/-- THE SECOND FORM's CARD OF 'milepostlaw12.TreeApart'. -/
def treeApartUptoCard : Claim7 := { stood := { row := treeApartUptoRow, standIns := [], harness := (true, "16680ee99572903cff2778b9fdd74bc0ae8ae01935b64b2c2c76b27edb33b269"), looks := false }, kinds := [], alts := [], laidByText := true, laidKinds := [.data], laidTests := true, laidLooks := .later }
def TreeApartUptoCardSaid : Prop := Claim7.holds Tryd.pinned (.plain (OpenSpec.upto treeApartSpec)) treeApartUptoCard
end Rows
end Go.Proofs.YtbjomgbekkgdlaaDoor
