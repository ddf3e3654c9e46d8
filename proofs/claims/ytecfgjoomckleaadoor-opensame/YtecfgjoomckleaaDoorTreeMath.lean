/-
  Trees of hashes as mathematics: topN F n (the top of n hashes), lf S (the hashes of leaves), txtsN S n (the texts of a tree of n leaves), and: trees that differ have different roots or two different texts of one hash.
-/
import Derived.Test.YtecfgjoomckleaaDoorTagLaw
import Derived.Test.YtecfgjoomckleaaDoorShaMath
import Derived.Test.YtecfgjoomckleaaDoorShapeMath
namespace Go.Proofs.YtecfgjoomckleaaDoor
set_option maxRecDepth 4000

def zeroH : List UInt8 := List.replicate 32 0
/-- The top of n hashes. -/
def topN (F : Nat → List UInt8) (n : Nat) : List UInt8 :=
  if _h : n < 2 then (if n = 0 then zeroH else F 0)
  else shaL (nodeS (topN F (leftN n)) (topN (fun i => F (leftN n + i)) (n - leftN n)))
termination_by n
decreasing_by
  · exact leftN_lt (by omega)
  · have := leftN_pos (n := n) (by omega); omega
theorem topN_zero (F : Nat → List UInt8) : topN F 0 = zeroH := by rw [topN, dif_pos (by omega), if_pos rfl]
theorem topN_one (F : Nat → List UInt8) : topN F 1 = F 0 := by rw [topN, dif_pos (by omega), if_neg (by omega)]
theorem topN_two (F : Nat → List UInt8) {n : Nat} (h : 2 ≤ n) : topN F n = shaL (nodeS (topN F (leftN n)) (topN (fun i => F (leftN n + i)) (n - leftN n))) := by rw [topN, dif_neg (by omega)]
theorem topN_length (F : Nat → List UInt8) (n : Nat) (h : ∀ i, i < n → (F i).length = 32) : (topN F n).length = 32 := by
  by_cases h2 : n < 2
  · by_cases h0 : n = 0
    · subst h0; rw [topN_zero]; rfl
    · obtain rfl : n = 1 := by omega
      rw [topN_one]; exact h 0 (by omega)
  · rw [topN_two F (by omega), shaL_length]
theorem topN_congr (n : Nat) : ∀ (F G : Nat → List UInt8), (∀ i, i < n → F i = G i) → topN F n = topN G n := by
  induction n using Nat.strongRecOn with
  | _ n ih =>
    intro F G h
    by_cases h2 : n < 2
    · by_cases h0 : n = 0
      · subst h0; rw [topN_zero, topN_zero]
      · obtain rfl : n = 1 := by omega
        rw [topN_one, topN_one]; exact h 0 (by omega)
    · have hp := leftN_pos (n := n) (by omega)
      have hl := leftN_lt (n := n) (by omega)
      rw [topN_two F (by omega), topN_two G (by omega), ih _ hl F G (fun i hi => h i (by omega)), ih (n - leftN n) (by omega) (fun i => F (leftN n + i)) (fun i => G (leftN n + i)) (fun i hi => h _ (by omega))]

/-- The hashes of leaves. -/
def lf (S : Nat → ByteArray) (i : Nat) : List UInt8 := shaL (leafS (S i))
theorem lf_length (S : Nat → ByteArray) (i : Nat) : (lf S i).length = 32 := shaL_length _
theorem top_lf_length (S : Nat → ByteArray) (n : Nat) : (topN (lf S) n).length = 32 := topN_length _ _ (fun i _ => lf_length S i)
def rootL (S : Nat → ByteArray) (n : Nat) : List UInt8 := shaL (rootS n (topN (lf S) n))

/-- The texts of a tree of n leaves. -/
def txtsN (S : Nat → ByteArray) (n : Nat) : List ByteArray :=
  if _h : n < 2 then (if n = 1 then [leafS (S 0)] else [])
  else nodeS (topN (lf S) (leftN n)) (topN (lf fun i => S (leftN n + i)) (n - leftN n)) :: (txtsN S (leftN n) ++ txtsN (fun i => S (leftN n + i)) (n - leftN n))
termination_by n
decreasing_by
  · exact leftN_lt (by omega)
  · have := leftN_pos (n := n) (by omega); omega
theorem txtsN_zero (S : Nat → ByteArray) : txtsN S 0 = [] := by rw [txtsN, dif_pos (by omega), if_neg (by omega)]
theorem txtsN_one (S : Nat → ByteArray) : txtsN S 1 = [leafS (S 0)] := by rw [txtsN, dif_pos (by omega), if_pos rfl]
theorem txtsN_two (S : Nat → ByteArray) {n : Nat} (h : 2 ≤ n) : txtsN S n = nodeS (topN (lf S) (leftN n)) (topN (lf fun i => S (leftN n + i)) (n - leftN n)) :: (txtsN S (leftN n) ++ txtsN (fun i => S (leftN n + i)) (n - leftN n)) := by rw [txtsN, dif_neg (by omega)]
theorem txtsN_len (n : Nat) : ∀ S : Nat → ByteArray, 0 < n → (txtsN S n).length + 1 = 2 * n := by
  induction n using Nat.strongRecOn with
  | _ n ih =>
    intro S h
    by_cases h2 : n < 2
    · obtain rfl : n = 1 := by omega
      rw [txtsN_one]; rfl
    · have hp := leftN_pos (n := n) (by omega)
      have hl := leftN_lt (n := n) (by omega)
      have h1 := ih _ hl S hp
      have h3 := ih (n - leftN n) (by omega) (fun i => S (leftN n + i)) (by omega)
      rw [txtsN_two S (by omega)]
      simp only [List.length_cons, List.length_append]
      omega
theorem txtsN_le (S : Nat → ByteArray) (n : Nat) : (txtsN S n).length ≤ 2 * n := by
  rcases Nat.eq_zero_or_pos n with rfl | h
  · rw [txtsN_zero]; exact Nat.zero_le _
  · have := txtsN_len n S h; omega
theorem leafS_size (s : ByteArray) : (leafS s).size = 1 + s.size := by rw [leafS, tagS_size]
theorem nodeS_size (a b : List UInt8) : (nodeS a b).size = 1 + (a.length + b.length) := by rw [nodeS, tagS_size, ByteArray.size_append, hS_size, hS_size]
theorem rootS_size (n : Nat) (a : List UInt8) : (rootS n a).size = 1 + (8 + a.length) := by rw [rootS, tagS_size, ByteArray.size_append, hS_size, beS_size]
theorem txtsN_small (B n : Nat) (hB : 100 ≤ B) : ∀ S : Nat → ByteArray, (∀ i, i < n → (S i).size < B) → ∀ x ∈ txtsN S n, x.size ≤ B := by
  induction n using Nat.strongRecOn with
  | _ n ih =>
    intro S h x hx
    by_cases h2 : n < 2
    · by_cases h0 : n = 0
      · subst h0; rw [txtsN_zero] at hx; cases hx
      · obtain rfl : n = 1 := by omega
        rw [txtsN_one] at hx
        obtain rfl := List.mem_singleton.1 hx
        have := h 0 (by omega)
        rw [leafS_size]; omega
    · have hp := leftN_pos (n := n) (by omega)
      have hl := leftN_lt (n := n) (by omega)
      rw [txtsN_two S (by omega)] at hx
      rcases List.mem_cons.1 hx with rfl | hx
      · rw [nodeS_size, top_lf_length, top_lf_length]; omega
      · rcases List.mem_append.1 hx with hx | hx
        · exact ih _ hl S (fun i hi => h i (by omega)) x hx
        · exact ih (n - leftN n) (by omega) (fun i => S (leftN n + i)) (fun i hi => h _ (by omega)) x hx

/-- All the texts of a list's tree. -/
def allT (S : Nat → ByteArray) (n : Nat) : List ByteArray := txtsN S n ++ [rootS n (topN (lf S) n)]
theorem allT_length (S : Nat → ByteArray) (n : Nat) : (allT S n).length = (txtsN S n).length + 1 := by simp [allT]
theorem allT_small (B n : Nat) (hB : 100 ≤ B) (S : Nat → ByteArray) (h : ∀ i, i < n → (S i).size < B) : ∀ x ∈ allT S n, x.size ≤ B := by
  intro x hx
  rcases List.mem_append.1 hx with hx | hx
  · exact txtsN_small B n hB S h x hx
  · obtain rfl := List.mem_singleton.1 hx
    rw [rootS_size, top_lf_length]; omega
def clashL (X Y : List ByteArray) : Prop := ∃ x ∈ X, ∃ y ∈ Y, x ≠ y ∧ shaL x = shaL y
theorem clashL_mono {X Y X' Y' : List ByteArray} (h : clashL X Y) (hx : ∀ x ∈ X, x ∈ X') (hy : ∀ y ∈ Y, y ∈ Y') : clashL X' Y' := by
  obtain ⟨x, h1, y, h2, h3⟩ := h
  exact ⟨x, hx x h1, y, hy y h2, h3⟩
theorem leafS_inj (s t : ByteArray) : leafS s = leafS t ↔ s = t := tagS_inj 0 s t
theorem nodeS_inj (a b a' b' : List UInt8) (h : a.length = a'.length) : nodeS a b = nodeS a' b' ↔ a = a' ∧ b = b' := by
  rw [nodeS, nodeS, tagS_inj, app_inj _ _ _ _ (by rw [hS_size, hS_size, h]), hS_inj, hS_inj]
theorem rootS_inj (n m : Nat) (a b : List UInt8) (hn : n < 18446744073709551616) (hm : m < 18446744073709551616) : rootS n a = rootS m b ↔ n = m ∧ a = b := by
  rw [rootS, rootS, tagS_inj, app_inj _ _ _ _ (by rw [beS_size, beS_size]), hS_inj, beS_inj n m hn hm]
/-- Trees of one size and one top that differ have two different texts of one hash. -/
theorem tops_apart (n : Nat) : ∀ S R : Nat → ByteArray, (∃ i, i < n ∧ S i ≠ R i) → topN (lf S) n = topN (lf R) n → clashL (txtsN S n) (txtsN R n) := by
  induction n using Nat.strongRecOn with
  | _ n ih =>
    intro S R hd ht
    obtain ⟨i, hi, hne⟩ := hd
    by_cases h2 : n < 2
    · obtain rfl : n = 1 := by omega
      obtain rfl : i = 0 := by omega
      rw [topN_one, topN_one] at ht
      rw [txtsN_one, txtsN_one]
      exact ⟨_, List.mem_singleton.2 rfl, _, List.mem_singleton.2 rfl, fun e => hne ((leafS_inj _ _).1 e), ht⟩
    · have hp := leftN_pos (n := n) (by omega)
      have hl := leftN_lt (n := n) (by omega)
      rw [topN_two (lf S) (n := n) (by omega), topN_two (lf R) (n := n) (by omega)] at ht
      rw [txtsN_two S (by omega), txtsN_two R (by omega)]
      by_cases he : nodeS (topN (lf S) (leftN n)) (topN (lf fun i => S (leftN n + i)) (n - leftN n)) = nodeS (topN (lf R) (leftN n)) (topN (lf fun i => R (leftN n + i)) (n - leftN n))
      · obtain ⟨e1, e2⟩ := (nodeS_inj _ _ _ _ (by rw [top_lf_length, top_lf_length])).1 he
        by_cases hil : i < leftN n
        · refine clashL_mono (ih _ hl S R ⟨i, hil, hne⟩ e1) (fun x hx => ?_) (fun x hx => ?_)
          · exact List.mem_cons_of_mem _ (List.mem_append_left _ hx)
          · exact List.mem_cons_of_mem _ (List.mem_append_left _ hx)
        · refine clashL_mono (ih (n - leftN n) (by omega) (fun i => S (leftN n + i)) (fun i => R (leftN n + i)) ⟨i - leftN n, by omega, by simpa [show leftN n + (i - leftN n) = i by omega] using hne⟩ e2) (fun x hx => ?_) (fun x hx => ?_)
          · exact List.mem_cons_of_mem _ (List.mem_append_right _ hx)
          · exact List.mem_cons_of_mem _ (List.mem_append_right _ hx)
      · exact ⟨_, List.mem_cons_self, _, List.mem_cons_self, he, ht⟩
def sameS (n m : Nat) (S R : Nat → ByteArray) : Prop := n = m ∧ ∀ i, i < n → S i = R i
theorem rootL_same {n m : Nat} {S R : Nat → ByteArray} (h : sameS n m S R) : rootL S n = rootL R m := by
  obtain ⟨rfl, h⟩ := h
  rw [rootL, rootL, topN_congr n (lf S) (lf R) (fun i hi => by rw [lf, lf, h i hi])]
theorem roots_apart (n m : Nat) (S R : Nat → ByteArray) (hn : n < 18446744073709551616) (hm : m < 18446744073709551616) (hd : ¬ sameS n m S R) (hr : rootL S n = rootL R m) : clashL (allT S n) (allT R m) := by
  by_cases he : rootS n (topN (lf S) n) = rootS m (topN (lf R) m)
  · obtain ⟨rfl, ht⟩ := (rootS_inj n m _ _ hn hm).1 he
    have hex : ∃ i, i < n ∧ S i ≠ R i := by
      refine Classical.byContradiction fun hno => hd ⟨rfl, fun i hi => Classical.byContradiction fun h => hno ⟨i, hi, h⟩⟩
    exact clashL_mono (tops_apart n S R hex ht) (fun x hx => List.mem_append_left _ hx) (fun x hx => List.mem_append_left _ hx)
  · exact ⟨_, List.mem_append_right _ (List.mem_singleton.2 rfl), _, List.mem_append_right _ (List.mem_singleton.2 rfl), he, hr⟩
end Go.Proofs.YtecfgjoomckleaaDoor
