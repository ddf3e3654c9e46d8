/-
  For BufBack: what the steps put, one behind the other. No condition.
-/
import Derived.Test.YtmccpbpnpdidbaaBufBackB
namespace Go.Proofs.Ytmccpbpnpdidbaa
open Go.RowKit

def preX (X : Nat → ByteArray) : Nat → ByteArray
  | 0 => noB
  | k + 1 => preX X k ++ X k
def sufX (X : Nat → ByteArray) : Nat → Nat → ByteArray
  | _, 0 => noB
  | k, m + 1 => X k ++ sufX X (k + 1) m
theorem noB_app (s : ByteArray) : noB ++ s = s := by apply ByteArray.ext; simp [ByteArray.data_append, noB]
theorem app_noB (s : ByteArray) : s ++ noB = s := by apply ByteArray.ext; simp [ByteArray.data_append, noB]
theorem pre_suf (X : Nat → ByteArray) : ∀ m k, preX X (k + m) = preX X k ++ sufX X k m
  | 0, k => (app_noB _).symm
  | m + 1, k => by
    rw [show k + (m + 1) = (k + 1) + m by omega, pre_suf X m (k + 1), preX, sufX, ba_assoc]
theorem pre_all (X : Nat → ByteArray) (n : Nat) : preX X n = sufX X 0 n := by
  have h := pre_suf X n 0
  rw [Nat.zero_add] at h
  rw [h]
  exact noB_app _
theorem suf_step (X : Nat → ByteArray) (k n : Nat) (h : k < n) : sufX X k (n - k) = X k ++ sufX X (k + 1) (n - (k + 1)) := by
  rw [show n - k = (n - (k + 1)) + 1 by omega, sufX]
theorem suf_end (X : Nat → ByteArray) (n : Nat) : sufX X n (n - n) = noB := by rw [Nat.sub_self]; rfl
theorem CurAt.keptB {w w' : World} {g : Nat} {c : Cu} (h : CurAt w g c) (k : Kept w w') : CurAt w' g c := Rowz.kept h k
end Go.Proofs.Ytmccpbpnpdidbaa
