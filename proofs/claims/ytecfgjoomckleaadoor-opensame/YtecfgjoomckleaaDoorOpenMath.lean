/-
  Inclusion proofs as mathematics: pathN F n i (the tops beside the way up from leaf i of n), as many as the way up has steps.
-/
import Derived.Test.YtecfgjoomckleaaDoorTreeMath
namespace Go.Proofs.YtecfgjoomckleaaDoor
set_option maxRecDepth 4000

/-- The tops beside the way up, the lowest first. -/
def pathN (F : Nat → List UInt8) (n i : Nat) : List (List UInt8) :=
  if _h : n < 2 then []
  else if i < leftN n then pathN F (leftN n) i ++ [topN (fun j => F (leftN n + j)) (n - leftN n)]
  else pathN (fun j => F (leftN n + j)) (n - leftN n) (i - leftN n) ++ [topN F (leftN n)]
termination_by n
decreasing_by
  · exact leftN_lt (by omega)
  · have := leftN_pos (n := n) (by omega); omega
theorem pathN_one (F : Nat → List UInt8) {n : Nat} (i : Nat) (h : n < 2) : pathN F n i = [] := by rw [pathN, dif_pos h]
theorem pathN_left (F : Nat → List UInt8) {n i : Nat} (h : 2 ≤ n) (hi : i < leftN n) : pathN F n i = pathN F (leftN n) i ++ [topN (fun j => F (leftN n + j)) (n - leftN n)] := by rw [pathN, dif_neg (by omega), if_pos hi]
theorem pathN_right (F : Nat → List UInt8) {n i : Nat} (h : 2 ≤ n) (hi : leftN n ≤ i) : pathN F n i = pathN (fun j => F (leftN n + j)) (n - leftN n) (i - leftN n) ++ [topN F (leftN n)] := by rw [pathN, dif_neg (by omega), if_neg (by omega)]
theorem pathN_length (n : Nat) : ∀ (F : Nat → List UInt8) (i : Nat), (pathN F n i).length = (sidesN n i).length := by
  induction n using Nat.strongRecOn with
  | _ n ih =>
    intro F i
    by_cases h2 : n < 2
    · rw [pathN_one F i h2, sidesN_one i h2]; rfl
    · have hp := leftN_pos (n := n) (by omega)
      have hl := leftN_lt (n := n) (by omega)
      by_cases hi : i < leftN n
      · rw [pathN_left F (by omega) hi, sidesN_left (by omega) hi, List.length_append, List.length_append, ih _ hl F i]; rfl
      · rw [pathN_right F (by omega) (by omega), sidesN_right (by omega) (by omega), List.length_append, List.length_append, ih _ (by omega) (fun j => F (leftN n + j)) (i - leftN n)]; rfl
theorem pathN_len63 (F : Nat → List UInt8) {n : Nat} (i : Nat) (h : n ≤ 9223372036854775808) : (pathN F n i).length ≤ 63 := by rw [pathN_length, sidesN_length]; exact dn_len63 i h
theorem pathN_32 (n : Nat) : ∀ (F : Nat → List UInt8) (i : Nat), (∀ j, j < n → (F j).length = 32) → ∀ x ∈ pathN F n i, x.length = 32 := by
  induction n using Nat.strongRecOn with
  | _ n ih =>
    intro F i h x hx
    by_cases h2 : n < 2
    · rw [pathN_one F i h2] at hx; cases hx
    · have hp := leftN_pos (n := n) (by omega)
      have hl := leftN_lt (n := n) (by omega)
      by_cases hi : i < leftN n
      · rw [pathN_left F (by omega) hi] at hx
        rcases List.mem_append.1 hx with hx | hx
        · exact ih _ hl F i (fun j hj => h j (by omega)) x hx
        · obtain rfl := List.mem_singleton.1 hx
          exact topN_length _ _ (fun j hj => h _ (by omega))
      · rw [pathN_right F (by omega) (by omega)] at hx
        rcases List.mem_append.1 hx with hx | hx
        · exact ih _ (by omega) (fun j => F (leftN n + j)) (i - leftN n) (fun j hj => h _ (by omega)) x hx
        · obtain rfl := List.mem_singleton.1 hx
          exact topN_length _ _ (fun j hj => h j (by omega))

/-! ### What Open answers -/
def opE (n : Nat) (i : Int) : Int := if 0 ≤ i ∧ i < (n : Int) then 0 else 3
def opI (n : Nat) (i : Int) : Int := if 0 ≤ i ∧ i < (n : Int) then i else 0
def opC (n : Nat) (i : Int) : Int := if 0 ≤ i ∧ i < (n : Int) then (n : Int) else 0
def opL (S : Nat → ByteArray) (n : Nat) (i : Int) : List (List UInt8) := if 0 ≤ i ∧ i < (n : Int) then pathN (lf S) n i.toNat else []
/-- The hashes of a list, by their numbers. -/
def lh (L : List (List UInt8)) (i : Nat) : List UInt8 := L.getD i []
theorem lh_snoc (L : List (List UInt8)) (h : List UInt8) (i : Nat) (hi : i < L.length) : lh (L ++ [h]) i = lh L i := by
  unfold lh; rw [List.getD_eq_getElem?_getD, List.getD_eq_getElem?_getD, List.getElem?_append_left hi]
theorem lh_last (L : List (List UInt8)) (h : List UInt8) : lh (L ++ [h]) L.length = h := by
  unfold lh; rw [List.getD_eq_getElem?_getD, List.getElem?_append_right (Nat.le_refl _)]; simp
theorem lh_32 {L : List (List UInt8)} (h : ∀ x ∈ L, x.length = 32) (i : Nat) (hi : i < L.length) : (lh L i).length = 32 := by
  unfold lh; rw [List.getD_eq_getElem?_getD, List.getElem?_eq_getElem hi]; exact h _ (List.getElem_mem hi)
theorem opL_32 (S : Nat → ByteArray) (n : Nat) (i : Int) : ∀ x ∈ opL S n i, x.length = 32 := by
  unfold opL
  split
  · exact pathN_32 n _ _ (fun j _ => lf_length S j)
  · intro x hx; cases hx
/-- Are two openings the same, field by field? -/
def sameO (I N : Int) (m : Nat) (F : Nat → List UInt8) (I' N' : Int) (m' : Nat) (G : Nat → List UInt8) : Bool := decide (I = I' ∧ N = N' ∧ m = m' ∧ ∀ i, i < m → F i = G i)
theorem sameO_self (I N : Int) (m : Nat) (F : Nat → List UInt8) : sameO I N m F I N m F = true := decide_eq_true ⟨rfl, rfl, rfl, fun _ _ => rfl⟩
theorem sameO_none (I N : Int) (m : Nat) (F G : Nat → List UInt8) : sameO I N m F 0 0 0 G = decide (I = 0 ∧ N = 0 ∧ m = 0) := by
  unfold sameO
  rw [decide_eq_decide]
  constructor
  · rintro ⟨h1, h2, h3, _⟩; exact ⟨h1, h2, h3⟩
  · rintro ⟨h1, h2, h3⟩; exact ⟨h1, h2, h3, fun i hi => by omega⟩
end Go.Proofs.YtecfgjoomckleaaDoor
