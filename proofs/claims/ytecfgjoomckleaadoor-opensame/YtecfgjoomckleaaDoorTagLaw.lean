/-
  For the laws of layer 3: hashes loaded out of an array of them; slices of strings made. No condition.
-/
import Derived.Test.YtecfgjoomckleaaDoorTagRefA
import Derived.Test.YtecfgjoomckleaaDoorLawLib
import Derived.Test.YtecfgjoomckleaaDoorEqHash
namespace Go.Proofs.YtecfgjoomckleaaDoor
set_option maxRecDepth 4000
open Go.RowKit

def xS : ByteArray := ⟨#[120]⟩
theorem xS_size : xS.size = 1 := rfl
theorem load_hash (w : World) (b i n : Nat) (T : TypeId) (l : List UInt8) (h : Rowz w b (bC n l) T) (hn : 32 * i + 32 ≤ n) :
    (Instr.loadAt 41 (.pointer (some ⟨b, 32 * i, none⟩))).run Tryd.prog w = .ok (.agg (bC 32 (hAt l i))) w := by
  have h1 := run_loadAt_mid (P := Tryd.prog) w b (32 * i) 41 (bC 32 (hAt l i)).toList _ (hash_range h i hn) Tryd.underlying41 rfl (by rw [Array.length_toList, bC_size]; kernel_rfl)
  simpa using h1
theorem run_build3s (x y z : ByteArray) (w : World) : (Instr.buildSlice 22 3 #[(0, .string x), (1, .string y), (2, .string z)]).run Tryd.prog w = .ok (.slice (some ⟨w.heap.size, 0, none⟩) 3 3) (w.alloc (.cells #[.string x, .string y, .string z] 9)) := by kernel_rfl
theorem run_build4s (x y z u : ByteArray) (w : World) : (Instr.buildSlice 22 4 #[(0, .string x), (1, .string y), (2, .string z), (3, .string u)]).run Tryd.prog w = .ok (.slice (some ⟨w.heap.size, 0, none⟩) 4 4) (w.alloc (.cells #[.string x, .string y, .string z, .string u] 9)) := by kernel_rfl
theorem beq_strs (a b : ByteArray) : (a.toList == b.toList) = decide (a = b) := by
  rw [ByteArray.toList_eq, ByteArray.toList_eq]
  by_cases h : a = b
  · subst h; simp
  · rw [decide_eq_false h, beq_eq_false_iff_ne]
    intro e
    exact h (ByteArray.ext (Array.toList_inj.1 e))
theorem beq_nats (a b : Nat) : (((a : Nat) : Int) == ((b : Nat) : Int)) = decide (a = b) := by
  by_cases h : a = b
  · subst h; simp
  · rw [decide_eq_false h, beq_eq_false_iff_ne]; omega
/-! ### Texts of different kinds are different -/
def txt (s : ByteArray) (a b : List UInt8) (n : Nat) : Nat → ByteArray
  | 0 => leafS s
  | 1 => nodeS a b
  | 2 => rootS n a
  | _ => headS s
def sameB (b0 b1 b2 b3 : Bool) : Nat → Bool
  | 0 => b0
  | 1 => b1 && b2
  | 2 => b3 && b1
  | _ => b0
def bvC (n : Nat) (f : Nat → Bool) : Array Value := ((List.range n).map fun i => Value.bool (f i)).toArray
theorem tagS_inj (k : Nat) (x y : ByteArray) : tagS k x = tagS k y ↔ x = y := by
  constructor
  · intro h
    have := congrArg ByteArray.data h
    simp only [tagS, ByteArray.data_append] at this
    exact ByteArray.ext (Array.append_right_inj _ |>.1 this)
  · rintro rfl; rfl
theorem tagS_head (k : Nat) (x : ByteArray) : (tagS k x).data.toList.head? = some (UInt8.ofNat k) := by
  simp [tagS, tagB, ByteArray.data_append]
theorem app_inj (x y u v : ByteArray) (h : x.size = u.size) : x ++ y = u ++ v ↔ x = u ∧ y = v := by
  constructor
  · intro e
    have := congrArg (fun b => b.data.toList) e
    simp only [ByteArray.data_append, Array.toList_append] at this
    have h2 := List.append_inj this (by rw [Array.length_toList, Array.length_toList]; exact h)
    exact ⟨ByteArray.ext (Array.toList_inj.1 h2.1), ByteArray.ext (Array.toList_inj.1 h2.2)⟩
  · rintro ⟨rfl, rfl⟩; rfl
theorem hS_inj (a b : List UInt8) : hS a = hS b ↔ a = b := by
  constructor
  · intro h; have := congrArg (fun x => x.data.toList) h; simpa [hS] using this
  · rintro rfl; rfl
theorem beS_inj (n m : Nat) (hn : n < 18446744073709551616) (hm : m < 18446744073709551616) : beS 8 n = beS 8 m ↔ n = m := by
  constructor
  · intro h
    have h1 := take_put' ByteArray.empty 8 n (by omega)
    have h2 := take_put' ByteArray.empty 8 m (by omega)
    rw [h] at h1
    omega
  · rintro rfl; rfl
theorem txt_apart (s s' : ByteArray) (a b a' b' : List UInt8) (n n' : Nat) (ha : a.length = 32) (ha' : a'.length = 32) (hn : n < 18446744073709551616) (hn' : n' < 18446744073709551616) (i k : Nat) (hi : i < 4) (hk : k < 4) :
    decide (txt s a b n i = txt s' a' b' n' k) = (decide (i = k) && sameB (decide (s = s')) (decide (a = a')) (decide (b = b')) (decide (n = n')) i) := by
  have hd : ∀ (s : ByteArray) (a b : List UInt8) (n j : Nat), j < 4 → (txt s a b n j).data.toList.head? = some (UInt8.ofNat j) := by
    intro s a b n j hj
    match j, hj with
    | 0, _ => exact tagS_head 0 _
    | 1, _ => exact tagS_head 1 _
    | 2, _ => exact tagS_head 2 _
    | 3, _ => exact tagS_head 3 _
  by_cases e : i = k
  · subst e
    rw [decide_eq_true rfl, Bool.true_and]
    match i, hi with
    | 0, _ => simp only [txt, sameB, leafS, tagS_inj]
    | 1, _ => simp only [txt, sameB, nodeS, tagS_inj, app_inj _ _ _ _ (show (hS a).size = (hS a').size by rw [hS_size, hS_size]; omega), hS_inj, Bool.decide_and]
    | 2, _ => simp only [txt, sameB, rootS, tagS_inj, app_inj _ _ _ _ (show (beS 8 n).size = (beS 8 n').size by rw [beS_size, beS_size]), hS_inj, beS_inj n n' hn hn', Bool.decide_and]
    | 3, _ => simp only [txt, sameB, headS, tagS_inj]
  · rw [decide_eq_false e, Bool.false_and]
    apply decide_eq_false
    intro h
    have h1 := hd s a b n i hi
    rw [h, hd s' a' b' n' k hk] at h1
    have h2 := congrArg UInt8.toNat (Option.some.inj h1)
    simp at h2
    omega
end Go.Proofs.YtecfgjoomckleaaDoor
