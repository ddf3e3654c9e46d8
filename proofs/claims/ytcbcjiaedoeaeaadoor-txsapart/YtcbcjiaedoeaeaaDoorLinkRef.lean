/-
  Contract of the reference's Leads (milepostref17). Condition: a slice's length and capacity fit.
-/
import Derived.Test.YtcbcjiaedoeaeaaDoorLinkForm
import Derived.Test.YtcbcjiaedoeaeaaDoorLinkRefA
import Derived.Test.YtcbcjiaedoeaeaaDoorHld
namespace Go.Proofs.YtcbcjiaedoeaeaaDoor
set_option maxRecDepth 4000
open Go.RowKit

end Go.Proofs.YtcbcjiaedoeaeaaDoor
