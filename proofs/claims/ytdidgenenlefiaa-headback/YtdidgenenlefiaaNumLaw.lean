/-
  What the laws of num share: Take's answer as a tuple, the examples.
-/
import Derived.Test.YtdidgenenlefiaaNumRefA
import Derived.Test.YtdidgenenlefiaaBas
namespace Go.Proofs.Ytdidgenenlefiaa
set_option maxRecDepth 4000
open Go.RowKit

theorem sl_append (a b : ByteArray) : sl (a ++ b) = sl a ++ sl b := by
  show (a ++ b).data.toList = a.data.toList ++ b.data.toList
  rw [ByteArray.data_append, Array.toList_append]
theorem sl_vS (x : Nat) : sl (vS x) = vs x := rfl
theorem vS_taken (s : ByteArray) (k x : Nat) (hv : vs x = (sl s).take k) : vS x = s.extract 0 k := by
  have e : (s.extract 0 k).data = s.data.extract 0 k := by rw [ByteArray.data_extract]
  apply ByteArray.ext
  rw [e, ← Array.toList_inj, Array.toList_extract]
  show vs x = _
  rw [hv]
  simp [sl, List.extract]
end Go.Proofs.Ytdidgenenlefiaa
