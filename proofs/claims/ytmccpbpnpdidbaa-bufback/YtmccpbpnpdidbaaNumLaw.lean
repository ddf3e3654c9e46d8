/-
  What the laws of num share: Take's answer as a tuple, the examples.
-/
import Derived.Test.YtmccpbpnpdidbaaNumRefA
import Derived.Test.YtmccpbpnpdidbaaFactLib
namespace Go.Proofs.Ytmccpbpnpdidbaa
open Go.RowKit

theorem numTake_at (s : ByteArray) (X n e : Nat) (h : tkL (sl s) = (X, n, e)) (w : World) :
    Calls Try.prog 34 #[.string s] w fun r w' => r = .returned (.tuple #[.int .u64 (X : Int), .int .i64 (n : Int), .int .i64 (e : Int)]) ∧ w = w' := by
  have h1 := numTake_any s w
  rw [tkV, h] at h1
  exact h1
theorem sl_append (a b : ByteArray) : sl (a ++ b) = sl a ++ sl b := by
  show (a ++ b).data.toList = a.data.toList ++ b.data.toList
  rw [ByteArray.data_append, Array.toList_append]
theorem sl_vS (x : Nat) : sl (vS x) = vs x := rfl
theorem vS_taken (s : ByteArray) (k x : Nat) (hv : vs x = (sl s).take k) : vS x = s.extract 0 k := by
  have e : (s.extract 0 k).data = s.data.extract 0 k := by rw [ByteArray.data_extract]
  apply ByteArray.ext
  rw [e, ← Array.toList_inj, Array.toList_extract]
  show vs x = _
  rw [hv]
  simp [sl, List.extract]
end Go.Proofs.Ytmccpbpnpdidbaa
