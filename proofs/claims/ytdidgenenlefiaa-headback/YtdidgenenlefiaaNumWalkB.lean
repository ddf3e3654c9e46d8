/-
  Contract of num.Take.
-/
import Derived.Test.YtdidgenenlefiaaNumWalkA
namespace Go.Proofs.Ytdidgenenlefiaa
set_option maxRecDepth 4000
open Go.RowKit

def sl (s : ByteArray) : List UInt8 := s.data.toList
theorem sl_length (s : ByteArray) : (sl s).length = s.size := rfl
theorem sl_get (s : ByteArray) (k : Nat) (h : k < s.size) : (s[k]).toNat = ((sl s).getD k 0).toNat := by
  have h2 : k < (sl s).length := by rw [sl_length]; exact h
  rw [List.getD_eq_getElem?_getD, List.getElem?_eq_getElem h2]
  rfl
/-- What Take answers. -/
def tkV (l : List UInt8) : Value := .tuple #[.int .u64 ((tkL l).1 : Int), .int .i64 ((tkL l).2.1 : Int), .int .i64 ((tkL l).2.2 : Int)]
theorem ret_tk {l : List UInt8} {a b c : Nat} (h : tkL l = (a, b, c)) : Ending.returned (.tuple #[.int .u64 (a : Int), .int .i64 (b : Int), .int .i64 (c : Int)]) = .returned (tkV l) := by
  rw [tkV, h]

end Go.Proofs.Ytdidgenenlefiaa
