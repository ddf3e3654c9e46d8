/-
  DERIVED. GIVEN WITH THE SEED: THE CARDS: each row of YtggpjhldmaflaaaDoorRows.lean that lists a variable, with what it lists TIED to the program's text (the seventh form; the later family's looks); each row that meets fmt, with fmt's text TOLD by the authors' own Lean function (tested against real Go, not proved from fmt's source: count such statements apart). THE CARD IS WHAT COUNTS. Prove the row's statement (the work); the ties are given (YtggpjhldmaflaaaDoorTie.lean); close each card by the builder's one call (the guide's Derived/Test/ToyasCard.lean, 'card_holds'). Laid BY PROGRAM, IN A SANDBOX (cutbox-door.mjs). By AI agents, Wed Nov 11 2026. No macro, syntax, notation, axiom, sorry.
-/
import Derived.Test.YtggpjhldmaflaaaDoorRows
import GoSem.ClaimSeven
namespace Go.Proofs.YtggpjhldmaflaaaDoor
namespace Rows

/-- THE TIED CARD OF 'milepostlaw16.MultiOpens'. -/
def multiOpensCard : Claim7 := { stood := { row := multiOpensRow, standIns := [], harness := (true, "d35ee8a81d3cf5a6351c78eb7c8ada333cc817468752d51f115c50cb0b0845aa"), looks := false }, kinds := [], alts := [], laidByText := true, laidKinds := [.data], laidTests := true, laidLooks := .later }
def MultiOpensCardSaid : Prop := Claim7.holds Tryd.pinned (.plain (OpenSpec.ofChange multiOpensSpec)) multiOpensCard

/-- THE TIED CARD OF 'milepostlaw16.MultiTells'. -/
def multiTellsCard : Claim7 := { stood := { row := multiTellsRow, standIns := [], harness := (true, "d35ee8a81d3cf5a6351c78eb7c8ada333cc817468752d51f115c50cb0b0845aa"), looks := false }, kinds := [], alts := [], laidByText := true, laidKinds := [.data], laidTests := true, laidLooks := .later }
def MultiTellsCardSaid : Prop := Claim7.holds Tryd.pinned (.plain (OpenSpec.ofChange multiTellsSpec)) multiTellsCard

/-- THE TIED CARD OF 'milepostlaw16.MultiOnes'. -/
def multiOnesCard : Claim7 := { stood := { row := multiOnesRow, standIns := [], harness := (true, "d35ee8a81d3cf5a6351c78eb7c8ada333cc817468752d51f115c50cb0b0845aa"), looks := false }, kinds := [], alts := [], laidByText := true, laidKinds := [.data], laidTests := true, laidLooks := .later }
def MultiOnesCardSaid : Prop := Claim7.holds Tryd.pinned (.plain (OpenSpec.ofChange multiOnesSpec)) multiOnesCard

/-- THE TIED CARD OF 'milepostlaw16.MultiAlone'. -/
def multiAloneCard : Claim7 := { stood := { row := multiAloneRow, standIns := [], harness := (true, "d35ee8a81d3cf5a6351c78eb7c8ada333cc817468752d51f115c50cb0b0845aa"), looks := false }, kinds := [], alts := [], laidByText := true, laidKinds := [.data], laidTests := true, laidLooks := .later }
def MultiAloneCardSaid : Prop := Claim7.holds Tryd.pinned (.plain (OpenSpec.ofChange multiAloneSpec)) multiAloneCard

/-- THE SECOND FORM's CARD OF 'milepostlaw16.MultiOpens'. -/
def multiOpensUptoCard : Claim7 := { stood := { row := multiOpensUptoRow, standIns := [], harness := (true, "d35ee8a81d3cf5a6351c78eb7c8ada333cc817468752d51f115c50cb0b0845aa"), looks := false }, kinds := [], alts := [], laidByText := true, laidKinds := [.data], laidTests := true, laidLooks := .later }
def MultiOpensUptoCardSaid : Prop := Claim7.holds Tryd.pinned (.plain (OpenSpec.upto multiOpensSpec)) multiOpensUptoCard

/-- THE SECOND FORM's CARD OF 'milepostlaw16.MultiTells'. -/
def multiTellsUptoCard : Claim7 := { stood := { row := multiTellsUptoRow, standIns := [], harness := (true, "d35ee8a81d3cf5a6351c78eb7c8ada333cc817468752d51f115c50cb0b0845aa"), looks := false }, kinds := [], alts := [], laidByText := true, laidKinds := [.data], laidTests := true, laidLooks := .later }
def MultiTellsUptoCardSaid : Prop := Claim7.holds Tryd.pinned (.plain (OpenSpec.upto multiTellsSpec)) multiTellsUptoCard

/-- THE SECOND FORM's CARD OF 'milepostlaw16.MultiOnes'. -/
def multiOnesUptoCard : Claim7 := { stood := { row := multiOnesUptoRow, standIns := [], harness := (true, "d35ee8a81d3cf5a6351c78eb7c8ada333cc817468752d51f115c50cb0b0845aa"), looks := false }, kinds := [], alts := [], laidByText := true, laidKinds := [.data], laidTests := true, laidLooks := .later }
def MultiOnesUptoCardSaid : Prop := Claim7.holds Tryd.pinned (.plain (OpenSpec.upto multiOnesSpec)) multiOnesUptoCard

/-- THE SECOND FORM's CARD OF 'milepostlaw16.MultiAlone'. -/
def multiAloneUptoCard : Claim7 := { stood := { row := multiAloneUptoRow, standIns := [], harness := (true, "d35ee8a81d3cf5a6351c78eb7c8ada333cc817468752d51f115c50cb0b0845aa"), looks := false }, kinds := [], alts := [], laidByText := true, laidKinds := [.data], laidTests := true, laidLooks := .later }
def MultiAloneUptoCardSaid : Prop := Claim7.holds Tryd.pinned (.plain (OpenSpec.upto multiAloneSpec)) multiAloneUptoCard
end Rows
end Go.Proofs.YtggpjhldmaflaaaDoor
