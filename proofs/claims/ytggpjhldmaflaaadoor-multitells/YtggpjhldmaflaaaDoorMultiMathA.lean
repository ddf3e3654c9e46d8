/-
  Several leaves' places as mathematics: Q tells which leaves are opened; needN (how many hashes stand beside); places that rise (risP), which leaves they open (qP), Need's answer (needI).
-/
import Derived.Test.YtggpjhldmaflaaaDoorTre
namespace Go.Proofs.YtggpjhldmaflaaaDoor
set_option maxRecDepth 4000

/-- Is a leaf from f on, of n, opened? -/
def hasQ (Q : Nat → Bool) (f n : Nat) : Bool := (List.range n).any fun j => Q (f + j)
theorem hasQ_iff {Q : Nat → Bool} {f n : Nat} : hasQ Q f n = true ↔ ∃ x, f ≤ x ∧ x < f + n ∧ Q x = true := by
  unfold hasQ
  rw [List.any_eq_true]
  constructor
  · rintro ⟨j, hj, h⟩
    exact ⟨f + j, by omega, by have := List.mem_range.1 hj; omega, h⟩
  · rintro ⟨x, h1, h2, h⟩
    exact ⟨x - f, List.mem_range.2 (by omega), by rw [show f + (x - f) = x by omega]; exact h⟩
theorem hasQ_not {Q : Nat → Bool} {f n : Nat} : hasQ Q f n = false ↔ ∀ x, f ≤ x → x < f + n → Q x = false := by
  constructor
  · intro h x h1 h2
    cases e : Q x with
    | false => rfl
    | true => rw [hasQ_iff.2 ⟨x, h1, h2, e⟩] at h; cases h
  · intro h
    cases e : hasQ Q f n with
    | false => rfl
    | true =>
      obtain ⟨x, h1, h2, h3⟩ := hasQ_iff.1 e
      rw [h x h1 h2] at h3; cases h3
/-- How many hashes stand beside, of the n leaves from f on. -/
def needN (Q : Nat → Bool) (f n : Nat) : Nat :=
  if hasQ Q f n = false then 1 else if _h : n < 2 then 0 else needN Q f (leftN n) + needN Q (f + leftN n) (n - leftN n)
termination_by n
decreasing_by
  · exact leftN_lt (by omega)
  · have := leftN_pos (n := n) (by omega); omega
theorem needN_none {Q : Nat → Bool} {f n : Nat} (h : hasQ Q f n = false) : needN Q f n = 1 := by rw [needN, if_pos h]
theorem needN_one {Q : Nat → Bool} {f n : Nat} (h : hasQ Q f n = true) (h2 : n < 2) : needN Q f n = 0 := by rw [needN, if_neg (by rw [h]; decide), dif_pos h2]
theorem needN_two {Q : Nat → Bool} {f n : Nat} (h : hasQ Q f n = true) (h2 : 2 ≤ n) : needN Q f n = needN Q f (leftN n) + needN Q (f + leftN n) (n - leftN n) := by rw [needN, if_neg (by rw [h]; decide), dif_neg (by omega)]
theorem needN_le (Q : Nat → Bool) (n : Nat) : ∀ f, 0 < n → needN Q f n ≤ n := by
  induction n using Nat.strongRecOn with
  | _ n ih =>
    intro f h0
    cases h : hasQ Q f n with
    | false => rw [needN_none h]; omega
    | true =>
      by_cases h2 : n < 2
      · rw [needN_one h h2]; omega
      · have hp := leftN_pos (n := n) (by omega)
        have hl := leftN_lt (n := n) (by omega)
        rw [needN_two h (by omega)]
        have := ih (leftN n) hl f hp
        have := ih (n - leftN n) (by omega) (f + leftN n) (by omega)
        omega
/-! ### Places that rise -/
def risP (n : Int) (K : Nat) (Pl : Nat → Int) : Prop := 0 < K ∧ ∀ i, i < K → 0 ≤ Pl i ∧ Pl i < n ∧ (0 < i → Pl (i - 1) < Pl i)
theorem risP.mono {n : Int} {K : Nat} {Pl : Nat → Int} (h : risP n K Pl) : ∀ j i, i < j → j < K → Pl i < Pl j := by
  intro j
  induction j with
  | zero => intro i hi; omega
  | succ j ih =>
    intro i hi hj
    have h1 := (h.2 (j + 1) hj).2.2 (by omega)
    rw [Nat.add_sub_cancel] at h1
    by_cases he : i = j
    · subst he; exact h1
    · have := ih i (by omega) (by omega); omega
theorem risP.inj {n : Int} {K : Nat} {Pl : Nat → Int} (h : risP n K Pl) {i j : Nat} (hi : i < K) (hj : j < K) (he : Pl i = Pl j) : i = j := by
  rcases Nat.lt_trichotomy i j with h1 | h1 | h1
  · have := h.mono j i h1 hj; omega
  · exact h1
  · have := h.mono i j h1 hi; omega
/-- Which leaves are opened. -/
def qP (K : Nat) (Pl : Nat → Int) (x : Nat) : Bool := (List.range K).any fun i => decide (Pl i = (x : Int))
theorem qP_iff {K : Nat} {Pl : Nat → Int} {x : Nat} : qP K Pl x = true ↔ ∃ i, i < K ∧ Pl i = (x : Int) := by
  unfold qP
  rw [List.any_eq_true]
  constructor
  · rintro ⟨i, hi, h⟩; exact ⟨i, List.mem_range.1 hi, of_decide_eq_true h⟩
  · rintro ⟨i, hi, h⟩; exact ⟨i, List.mem_range.2 hi, decide_eq_true h⟩
/-- The number of a place. -/
def ixP (Pl : Nat → Int) (x : Nat) : Nat → Nat
  | 0 => 0
  | k + 1 => if Pl k = (x : Int) then k else ixP Pl x k
theorem ixP_eq {Pl : Nat → Int} {x i : Nat} : ∀ K, i < K → Pl i = (x : Int) → (∀ j, j < K → Pl j = (x : Int) → j = i) → ixP Pl x K = i := by
  intro K
  induction K with
  | zero => intro hi; omega
  | succ k ih =>
    intro hi hx hu
    unfold ixP
    by_cases h : Pl k = (x : Int)
    · rw [if_pos h]; exact hu k (by omega) h
    · rw [if_neg h]
      have : i ≠ k := fun e => h (e ▸ hx)
      exact ih (by omega) hx fun j hj => hu j (by omega)
/-- A place between f and t, as the loops ask. -/
theorem among_iff {K : Nat} {Pl : Nat → Int} {f n : Nat} : hasQ (qP K Pl) f n = true ↔ ∃ i, i < K ∧ (f : Int) ≤ Pl i ∧ Pl i < ((f + n : Nat) : Int) := by
  rw [hasQ_iff]
  constructor
  · rintro ⟨x, h1, h2, h3⟩
    obtain ⟨i, hi, he⟩ := qP_iff.1 h3
    exact ⟨i, hi, by omega, by omega⟩
  · rintro ⟨i, hi, h1, h2⟩
    exact ⟨(Pl i).toNat, by omega, by omega, qP_iff.2 ⟨i, hi, by omega⟩⟩
noncomputable instance (n : Int) (K : Nat) (Pl : Nat → Int) : Decidable (risP n K Pl) := Classical.propDecidable _
/-- Need's answer. -/
noncomputable def needI (n : Int) (K : Nat) (Pl : Nat → Int) : Int := if risP n K Pl then (needN (qP K Pl) 0 n.toNat : Int) else -1
theorem risP_nat {N : Int} {K : Nat} {Pl : Nat → Int} (h : risP N K Pl) : ∃ n : Nat, N = n ∧ 0 < n := by
  obtain ⟨h1, h2, _⟩ := h.2 0 h.1
  exact ⟨N.toNat, by omega, by omega⟩
theorem risP_at {n K : Nat} {Pl : Nat → Int} (h : risP (n : Int) K Pl) {i : Nat} (hi : i < K) : ∃ x : Nat, Pl i = (x : Int) ∧ x < n ∧ qP K Pl x = true := by
  obtain ⟨h1, h2, _⟩ := h.2 i hi
  exact ⟨(Pl i).toNat, by omega, by omega, qP_iff.2 ⟨i, hi, by omega⟩⟩
theorem needI_yes {n K : Nat} {Pl : Nat → Int} (h : risP (n : Int) K Pl) : needI (n : Int) K Pl = (needN (qP K Pl) 0 n : Int) := by rw [needI, if_pos h]; rfl
theorem needI_no {N : Int} {K : Nat} {Pl : Nat → Int} (h : ¬ risP N K Pl) : needI N K Pl = -1 := if_neg h
end Go.Proofs.YtggpjhldmaflaaaDoor
