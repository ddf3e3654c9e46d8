/-
  DERIVED. GIVEN WITH THE SEED: THE CARDS: each row of YthngohgfdainaaaDoorRows.lean that lists a variable, with what it lists TIED to the program's text (the seventh form; the later family's looks); each row that meets fmt, with fmt's text TOLD by the authors' own Lean function (tested against real Go, not proved from fmt's source: count such statements apart). THE CARD IS WHAT COUNTS. Prove the row's statement (the work); the ties are given (YthngohgfdainaaaDoorTie.lean); close each card by the builder's one call (the guide's Derived/Test/ToyasCard.lean, 'card_holds'). Laid BY PROGRAM, IN A SANDBOX (cutbox-door.mjs). By AI agents, Wed Nov 11 2026. No macro, syntax, notation, axiom, sorry.
-/
import Derived.Test.YthngohgfdainaaaDoorRows
import GoSem.ClaimSeven
namespace Go.Proofs.YthngohgfdainaaaDoor
namespace Rows

/-- THE TIED CARD OF 'milepostlaw03.TagSums'. -/
def tagSumsCard : Claim7 := { stood := { row := tagSumsRow, standIns := [], harness := (true, "53fb29ac64407256fb59572e6da42fbaf753f57690c8445cc06f24266381610c"), looks := false }, kinds := [], alts := [], laidByText := true, laidKinds := [.data], laidTests := true, laidLooks := .later }
def TagSumsCardSaid : Prop := Claim7.holds Tryd.pinned (.plain (OpenSpec.ofChange tagSumsSpec)) tagSumsCard

/-- THE SECOND FORM's CARD OF 'milepostlaw03.TagSums'. -/
def tagSumsUptoCard : Claim7 := { stood := { row := tagSumsUptoRow, standIns := [], harness := (true, "53fb29ac64407256fb59572e6da42fbaf753f57690c8445cc06f24266381610c"), looks := false }, kinds := [], alts := [], laidByText := true, laidKinds := [.data], laidTests := true, laidLooks := .later }
def TagSumsUptoCardSaid : Prop := Claim7.holds Tryd.pinned (.plain (OpenSpec.upto tagSumsSpec)) tagSumsUptoCard
end Rows
end Go.Proofs.YthngohgfdainaaaDoor
