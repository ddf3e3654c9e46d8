/-
  The cursor as a value: what is left and the first error; each method's answer and what it leaves, for the program and for the reference, and that both agree where nothing is left behind an error. No condition.
-/
import Derived.Test.YtdidgenenlefiaaNumLaw
import Derived.Test.YtdidgenenlefiaaGuardLib
namespace Go.Proofs.Ytdidgenenlefiaa
set_option maxRecDepth 4000

structure Cu where
  b : ByteArray
  e : Int
def Cu.ok (c : Cu) : Prop := c.e ≠ 0 → c.b = noB
def failC (c : Cu) (x : Int) : Cu := if x ≠ 0 ∧ c.e = 0 then ⟨noB, x⟩ else c
def rawP (c : Cu) (n : Int) : ByteArray × Cu :=
  if n < 0 then (noB, failC c 3) else if (c.b.size : Int) < n then (noB, failC c 1) else (c.b.extract 0 n.toNat, ⟨c.b.extract n.toNat c.b.size, c.e⟩)
def numP (c : Cu) (most : Nat) : Nat × Cu :=
  if (tkL (sl c.b)).2.2 ≠ 0 then (0, failC c (tkL (sl c.b)).2.2) else if most < (tkL (sl c.b)).1 then (0, failC c 3) else ((tkL (sl c.b)).1, ⟨c.b.extract (tkL (sl c.b)).2.1 c.b.size, c.e⟩)
def firstB (s : ByteArray) : Nat := ((sl s).getD 0 0).toNat
def textP (c : Cu) (most : Int) : ByteArray × Cu := rawP (numP c most.toNat).2 ((numP c most.toNat).1 : Int)
def rawR (c : Cu) (n : Int) : ByteArray × Cu :=
  if n < 0 then (noB, failC c 3) else if c.e ≠ 0 then (noB, c) else if (c.b.size : Int) < n then (noB, failC c 1) else (c.b.extract 0 n.toNat, ⟨c.b.extract n.toNat c.b.size, 0⟩)
def numR (c : Cu) (most : Nat) : Nat × Cu :=
  if c.e ≠ 0 then (0, c) else if (tkL (sl c.b)).2.2 ≠ 0 then (0, failC c (tkL (sl c.b)).2.2) else if most < (tkL (sl c.b)).1 then (0, failC c 3) else ((tkL (sl c.b)).1, ⟨c.b.extract (tkL (sl c.b)).2.1 c.b.size, 0⟩)
def textR (c : Cu) (most : Int) : ByteArray × Cu := rawR (numR c most.toNat).2 ((numR c most.toNat).1 : Int)
def doneC (c : Cu) : Int := if c.e = 0 ∧ 0 < c.b.size then 2 else c.e

theorem noB_extract (a b : Nat) : noB.extract a b = noB := size0 (by rw [ByteArray.size_extract, noB_size]; omega)
theorem failC_err (c : Cu) (x : Int) (h : c.e ≠ 0) : failC c x = c := by rw [failC, if_neg (fun h2 => h h2.2)]
theorem failC_set (c : Cu) (x : Int) (h : c.e = 0) (hx : x ≠ 0) : failC c x = ⟨noB, x⟩ := by rw [failC, if_pos ⟨hx, h⟩]
theorem failC_ok (c : Cu) (x : Int) (h : c.ok) : (failC c x).ok := by
  unfold failC
  split
  · exact fun _ => rfl
  · exact h
theorem rawP_eq (c : Cu) (n : Int) (h : c.ok) : rawP c n = rawR c n := by
  unfold rawP rawR
  by_cases h1 : n < 0
  · rw [if_pos h1, if_pos h1]
  rw [if_neg h1, if_neg h1]
  by_cases h2 : c.e = 0
  · rw [if_neg (show ¬ c.e ≠ 0 from fun h => h h2), h2]
  rw [if_pos h2, failC_err c 1 h2]
  have hb := h h2
  obtain ⟨b, e⟩ := c
  simp only at hb
  subst hb
  split
  · rfl
  · rw [noB_extract, noB_extract]
theorem numP_eq (c : Cu) (most : Nat) (h : c.ok) : numP c most = numR c most := by
  unfold numP numR
  by_cases h2 : c.e = 0
  · rw [if_neg (show ¬ c.e ≠ 0 from fun h => h h2), h2]
  rw [if_pos h2, h h2, if_pos (show (tkL (sl noB)).2.2 ≠ 0 by decide), failC_err _ _ h2]
theorem rawP_ok (c : Cu) (n : Int) (h : c.ok) : (rawP c n).2.ok := by
  unfold rawP
  split
  · exact failC_ok c 3 h
  split
  · exact failC_ok c 1 h
  intro he
  show c.b.extract _ _ = noB
  rw [h he, noB_extract]
theorem numP_ok (c : Cu) (most : Nat) (h : c.ok) : (numP c most).2.ok := by
  unfold numP
  split
  · exact failC_ok c _ h
  split
  · exact failC_ok c _ h
  intro he
  show c.b.extract _ _ = noB
  rw [h he, noB_extract]
theorem textP_eq (c : Cu) (most : Int) (h : c.ok) : textP c most = textR c most := by
  unfold textP textR
  rw [rawP_eq _ _ (numP_ok c _ h), numP_eq c _ h]
theorem textP_ok (c : Cu) (most : Int) (h : c.ok) : (textP c most).2.ok := rawP_ok _ _ (numP_ok c _ h)
theorem numP_le (c : Cu) (most : Nat) : (numP c most).1 ≤ most := by
  unfold numP
  split
  · exact Nat.zero_le _
  split
  · exact Nat.zero_le _
  · show (tkL (sl c.b)).1 ≤ most
    omega
theorem numR_le (c : Cu) (most : Nat) : (numR c most).1 ≤ most := by
  unfold numR
  split
  · exact Nat.zero_le _
  split
  · exact Nat.zero_le _
  split
  · exact Nat.zero_le _
  · show (tkL (sl c.b)).1 ≤ most
    omega
theorem firstB_noB : firstB noB = 0 := rfl
end Go.Proofs.Ytdidgenenlefiaa
