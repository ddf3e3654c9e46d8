/-
  The forms of the contracts of head's Bytes and Take.
-/
import Derived.Test.YtncnlmjhejminaaDoorHeadRef
namespace Go.Proofs.YtncnlmjhejminaaDoor
set_option maxRecDepth 4000
open Go.RowKit

def hT (s : ByteArray) : Hd := if s.size = 76 then hdT s else hdZ
def hE (s : ByteArray) : Int := if s.size = 76 then 0 else if s.size < 76 then 1 else 2
theorem hT_ok (s : ByteArray) : (hT s).ok := by
  unfold hT
  split
  · exact hdT_ok _
  · exact hdZ_ok
theorem hT_hdS (x : Hd) (hx : x.ok) : hT (hdS x) = x := by rw [hT, if_pos (hdS_size x hx), hdT_hdS x hx]
theorem hE_hdS (x : Hd) (hx : x.ok) : hE (hdS x) = 0 := by rw [hE, if_pos (hdS_size x hx)]
theorem hE_zero (s : ByteArray) : hE s = 0 ↔ s.size = 76 := by
  unfold hE
  split
  · simp [*]
  · split <;> simp [*]
def HeadBytesC (f : FuncId) : Prop := ∀ (x : Hd) (w : World), x.ok → Calls Tryd.prog f #[.agg (hdC x)] w fun e w' => e = .returned (.string (hdS x)) ∧ Kept w w'
def HeadTakeC (f : FuncId) : Prop := ∀ (s : ByteArray) (w : World), s.size ≤ maxLen → Calls Tryd.prog f #[.string s] w fun e w' => e = .returned (.tuple #[.agg (hdC (hT s)), .int .i64 (hE s)]) ∧ Kept w w'
end Go.Proofs.YtncnlmjhejminaaDoor
