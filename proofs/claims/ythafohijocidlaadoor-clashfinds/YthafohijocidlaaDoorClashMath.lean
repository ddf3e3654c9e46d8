/-
  The texts of an opened leaf from the top down, as mathematics: txA s i n m F j (the j-th of m + 2); two leaves that are opened at one place of one root and are unlike have a first place where the texts differ, and there they have one hash.
-/
import Derived.Test.YthafohijocidlaaDoorHld
namespace Go.Proofs.YthafohijocidlaaDoor
set_option maxRecDepth 4000

theorem least_at {P : Nat → Prop} (n : Nat) (h : P n) : ∃ j, j ≤ n ∧ P j ∧ ∀ k, k < j → ¬ P k := by
  induction n using Nat.strongRecOn with
  | _ n ih =>
    by_cases hx : ∃ k, k < n ∧ P k
    · obtain ⟨k, hk, hp⟩ := hx
      obtain ⟨j, h1, h2, h3⟩ := ih k hk hp
      exact ⟨j, by omega, h2, h3⟩
    · exact ⟨n, Nat.le_refl _, h, fun k hk hp => hx ⟨k, hk, hp⟩⟩
/-- The text of the k-th step up (its hash is the hash behind k + 1 steps). -/
def ntx (s : ByteArray) (i n m : Nat) (F : Nat → List UInt8) (k : Nat) : ByteArray :=
  bif (sidesN n i).getD k false then nodeS (F k) (uH s i n m F k) else nodeS (uH s i n m F k) (F k)
theorem ntx_sum (s : ByteArray) (i n m : Nat) (F : Nat → List UInt8) (k : Nat) (hm : m = (sidesN n i).length) (hk : k < m) : shaL (ntx s i n m F k) = uH s i n m F (k + 1) := by
  rw [uH_succ s i n m F k hm hk]
  unfold ntx stepU
  cases (sidesN n i).getD k false <;> rfl
/-- The texts from the top down: the root's, the inner nodes', the leaf's. -/
def txA (s : ByteArray) (i n m : Nat) (F : Nat → List UInt8) (j : Nat) : ByteArray :=
  if j = 0 then rootS n (uH s i n m F m) else if j ≤ m then ntx s i n m F (m - j) else leafS s
theorem txA_zero (s : ByteArray) (i n m : Nat) (F : Nat → List UInt8) : txA s i n m F 0 = rootS n (uH s i n m F m) := if_pos rfl
theorem txA_node (s : ByteArray) (i n m : Nat) (F : Nat → List UInt8) (j : Nat) (h0 : j ≠ 0) (h : j ≤ m) : txA s i n m F j = ntx s i n m F (m - j) := by rw [txA, if_neg h0, if_pos h]
theorem txA_leaf (s : ByteArray) (i n m : Nat) (F : Nat → List UInt8) : txA s i n m F (m + 1) = leafS s := by rw [txA, if_neg (by omega), if_neg (by omega)]
theorem txA_sum (s : ByteArray) (i n m : Nat) (F : Nat → List UInt8) (j : Nat) (hm : m = (sidesN n i).length) (h0 : j ≠ 0) (h : j ≤ m + 1) : shaL (txA s i n m F j) = uH s i n m F (m + 1 - j) := by
  by_cases hj : j ≤ m
  · rw [txA_node s i n m F j h0 hj, ntx_sum s i n m F (m - j) hm (by omega), show m - j + 1 = m + 1 - j by omega]
  · obtain rfl : j = m + 1 := by omega
    rw [txA_leaf, Nat.sub_self, uH_zero]
theorem txA_root (s : ByteArray) (i n m : Nat) (F : Nat → List UInt8) (hm : m = (sidesN n i).length) : shaL (txA s i n m F 0) = shaL (rootS n (upL n i (shaL (leafS s)) (fl m F))) := by
  rw [txA_zero, uH_all s i n m F hm]
theorem txA_size (s : ByteArray) (i n m : Nat) (F : Nat → List UInt8) (hm : m = (sidesN n i).length) (hF : ∀ k, k < m → (F k).length = 32) (j : Nat) : (txA s i n m F j).size ≤ s.size + 65 := by
  have hl : ∀ k, k ≤ m → (uH s i n m F k).length = 32 := fun k hk => uH_length s i n m F k hm hk
  unfold txA
  split
  · rw [rootS, tagS_size, ByteArray.size_append, hS_size, beS_size, hl m (Nat.le_refl _)]; omega
  · split
    · rename_i h0 h1
      have h2 := hl (m - j) (by omega)
      have h3 := hF (m - j) (by omega)
      unfold ntx
      cases (sidesN n i).getD (m - j) false
      · simp only [cond_false]; rw [nodeS, tagS_size, ByteArray.size_append, hS_size, hS_size, h2, h3]; omega
      · simp only [cond_true]; rw [nodeS, tagS_size, ByteArray.size_append, hS_size, hS_size, h2, h3]; omega
    · rw [leafS, tagS_size]; omega
/-- Texts that agree down to place j have, one place below, one hash. -/
theorem txA_next (s t : ByteArray) (i n m : Nat) (F G : Nat → List UInt8) (hm : m = (sidesN n i).length) (hF : ∀ k, k < m → (F k).length = 32) (hG : ∀ k, k < m → (G k).length = 32) (hn : n < 18446744073709551616)
    (j : Nat) (hj : j ≤ m) (he : txA s i n m F j = txA t i n m G j) : uH s i n m F (m - j) = uH t i n m G (m - j) := by
  have hl : ∀ k, k ≤ m → (uH s i n m F k).length = 32 := fun k hk => uH_length s i n m F k hm hk
  have hl' : ∀ k, k ≤ m → (uH t i n m G k).length = 32 := fun k hk => uH_length t i n m G k hm hk
  by_cases h0 : j = 0
  · subst h0
    rw [txA_zero, txA_zero] at he
    exact ((rootS_inj n n _ _ hn hn).1 he).2
  · rw [txA_node _ _ _ _ _ _ h0 hj, txA_node _ _ _ _ _ _ h0 hj] at he
    unfold ntx at he
    cases hb : (sidesN n i).getD (m - j) false
    · rw [hb] at he
      exact ((nodeS_inj _ _ _ _ (by rw [hl _ (by omega), hl' _ (by omega)])).1 he).1
    · rw [hb] at he
      exact ((nodeS_inj _ _ _ _ (by rw [hF _ (by omega), hG _ (by omega)])).1 he).2
/-- The first place where the texts differ. -/
theorem txA_find (s t : ByteArray) (i n n' m m' : Nat) (F G : Nat → List UInt8) (hm : m = (sidesN n i).length) (hm' : m' = (sidesN n' i).length) (hF : ∀ k, k < m → (F k).length = 32) (hG : ∀ k, k < m' → (G k).length = 32)
    (hn : n < 18446744073709551616) (hn' : n' < 18446744073709551616) (hst : s ≠ t) (hr : shaL (txA s i n m F 0) = shaL (txA t i n' m' G 0)) :
    ∃ j, j < m + 2 ∧ j < m' + 2 ∧ (∀ k, k < j → txA s i n m F k = txA t i n' m' G k) ∧ txA s i n m F j ≠ txA t i n' m' G j ∧ shaL (txA s i n m F j) = shaL (txA t i n' m' G j) := by
  by_cases h0 : txA s i n m F 0 = txA t i n' m' G 0
  · have h1 := h0
    rw [txA_zero, txA_zero] at h1
    obtain ⟨rfl, _⟩ := (rootS_inj n n' _ _ hn hn').1 h1
    obtain rfl : m = m' := by rw [hm, hm']
    have hex : txA s i n m F (m + 1) ≠ txA t i n m G (m + 1) := by rw [txA_leaf, txA_leaf]; exact fun h => hst ((leafS_inj s t).1 h)
    obtain ⟨j, hle, hj, hlt'⟩ := least_at (P := fun j => txA s i n m F j ≠ txA t i n m G j) (m + 1) hex
    have hlt := fun k (hk : k < j) => Decidable.not_not.1 (hlt' k hk)
    have hj0 : j ≠ 0 := fun h => hj (by rw [h]; exact h0)
    refine ⟨j, by omega, by omega, hlt, hj, ?_⟩
    rw [txA_sum s i n m F j hm hj0 hle, txA_sum t i n m G j hm hj0 hle]
    have := txA_next s t i n m F G hm hF hG hn (j - 1) (by omega) (hlt (j - 1) (by omega))
    rwa [show m - (j - 1) = m + 1 - j by omega] at this
  · exact ⟨0, by omega, by omega, fun k hk => absurd hk (Nat.not_lt_zero k), h0, hr⟩

/-! ### Lists of the texts; when two leaves contradict each other -/
/-- The first k texts. -/
def txL (s : ByteArray) (i n m : Nat) (F : Nat → List UInt8) (k : Nat) : List ByteArray := (List.range k).map (txA s i n m F)
theorem txL_succ (s : ByteArray) (i n m : Nat) (F : Nat → List UInt8) (k : Nat) : txL s i n m F (k + 1) = txL s i n m F k ++ [txA s i n m F k] := by
  unfold txL; rw [List.range_succ, List.map_append]; rfl
theorem txL_one (s : ByteArray) (i n m : Nat) (F : Nat → List UInt8) : txL s i n m F 1 = [txA s i n m F 0] := rfl
theorem txL_length (s : ByteArray) (i n m : Nat) (F : Nat → List UInt8) (k : Nat) : (txL s i n m F k).length = k := by simp [txL]
theorem txL_get (s : ByteArray) (i n m : Nat) (F : Nat → List UInt8) (k j : Nat) (x : ByteArray) (h : j < k) : (txL s i n m F k).getD j x = txA s i n m F j := by
  simp [txL, List.getD_eq_getElem?_getD, h]
theorem upsL_get (s : ByteArray) (i n m : Nat) (F : Nat → List UInt8) (k j : Nat) (h : j ≤ k) : lh (upsL s i n m F k) j = uH s i n m F j := by
  unfold lh upsL
  rw [List.getD_eq_getElem?_getD]
  have : j < k + 1 := by omega
  simp [this]
/-- Two different leaves, each opened at one index of the root r. -/
def coB (r : List UInt8) (s : ByteArray) (I N : Int) (m : Nat) (F : Nat → List UInt8) (t : ByteArray) (I' N' : Int) (m' : Nat) (G : Nat → List UInt8) : Bool :=
  decide (s ≠ t ∧ I = I' ∧ ckO r s I N m F = true ∧ ckO r t I' N' m' G = true)
theorem ckO_root {r : List UInt8} {s : ByteArray} {I N : Int} {m : Nat} {F : Nat → List UInt8} (h : ckO r s I N m F = true) :
    ∃ i n : Nat, I = i ∧ N = n ∧ i < n ∧ n ≤ 1048576 ∧ m = (sidesN n i).length ∧ m ≤ 63 ∧ mayE (i : Int) (n : Int) m = 0 ∧ r = shaL (txA s i n m F 0) := by
  obtain ⟨h0, h1⟩ := of_decide_eq_true h
  have h0' := h0
  obtain ⟨i, n, rfl, rfl, h3, h4, h5, h6⟩ := mayE_nat h0
  refine ⟨i, n, rfl, rfl, h3, h4, h5, h6, h0', ?_⟩
  rw [txA_root s i n m F h5, ← h1, rtO, if_pos h0]
  rfl
theorem co_find {r : List UInt8} {s : ByteArray} {I N : Int} {m : Nat} {F : Nat → List UInt8} {t : ByteArray} {I' N' : Int} {m' : Nat} {G : Nat → List UInt8} (h : coB r s I N m F t I' N' m' G = true)
    (hF : ∀ k, k < m → (F k).length = 32) (hG : ∀ k, k < m' → (G k).length = 32) :
    ∃ i n n' j : Nat, (I = i ∧ N = n ∧ i < n ∧ n ≤ 1048576 ∧ m = (sidesN n i).length ∧ m ≤ 63 ∧ mayE (i : Int) (n : Int) m = 0) ∧ (I' = i ∧ N' = n' ∧ i < n' ∧ n' ≤ 1048576 ∧ m' = (sidesN n' i).length ∧ m' ≤ 63 ∧ mayE (i : Int) (n' : Int) m' = 0) ∧
      j < m + 2 ∧ j < m' + 2 ∧ (∀ k, k < j → txA s i n m F k = txA t i n' m' G k) ∧ txA s i n m F j ≠ txA t i n' m' G j ∧ shaL (txA s i n m F j) = shaL (txA t i n' m' G j) := by
  obtain ⟨hst, hI, h1, h2⟩ := of_decide_eq_true h
  obtain ⟨i, n, rfl, rfl, a3, a4, a5, a6, a7, a8⟩ := ckO_root h1
  obtain ⟨i', n', e1, rfl, b3, b4, b5, b6, b7, b8⟩ := ckO_root h2
  obtain rfl : i = i' := by omega
  obtain ⟨j, c1, c2, c3, c4, c5⟩ := txA_find s t i n n' m m' F G a5 b5 hF hG (by omega) (by omega) hst (by rw [← a8, ← b8])
  exact ⟨i, n, n', j, ⟨rfl, rfl, a3, a4, a5, a6, a7⟩, ⟨e1, rfl, b3, b4, b5, b6, b7⟩, c1, c2, c3, c4, c5⟩
end Go.Proofs.YthafohijocidlaaDoor
