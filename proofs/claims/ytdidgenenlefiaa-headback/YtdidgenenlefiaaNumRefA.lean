/-
  Contracts of milepostref07: Put and Take.
-/
import Derived.Test.YtdidgenenlefiaaNumWalkB
namespace Go.Proofs.Ytdidgenenlefiaa
set_option maxRecDepth 4000
open Go.RowKit

end Go.Proofs.Ytdidgenenlefiaa
