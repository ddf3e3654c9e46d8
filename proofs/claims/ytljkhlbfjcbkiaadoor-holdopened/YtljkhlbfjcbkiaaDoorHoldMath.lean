/-
  What an opening determines, as mathematics: upL n i h P (the top, from the leaf's hash h and the hashes P beside the way up), upAt (the hashes on the way); an opening that pathN tells determines the tree's top.
-/
import Derived.Test.YtljkhlbfjcbkiaaDoorOpe
import Derived.Test.YtljkhlbfjcbkiaaDoorTre
namespace Go.Proofs.YtljkhlbfjcbkiaaDoor
set_option maxRecDepth 4000

/-- One step up: the other side's hash on its side. -/
def stepU (h : List UInt8) (s : Bool × List UInt8) : List UInt8 := bif s.1 then shaL (nodeS s.2 h) else shaL (nodeS h s.2)
theorem stepU_length (h : List UInt8) (s : Bool × List UInt8) : (stepU h s).length = 32 := by
  unfold stepU; cases s.1 <;> exact shaL_length _
/-- The hash behind k steps. -/
def upAt (Z : List (Bool × List UInt8)) (h : List UInt8) (k : Nat) : List UInt8 := (Z.take k).foldl stepU h
theorem upAt_zero (Z : List (Bool × List UInt8)) (h : List UInt8) : upAt Z h 0 = h := rfl
theorem upAt_succ (Z : List (Bool × List UInt8)) (h : List UInt8) (k : Nat) (hk : k < Z.length) : upAt Z h (k + 1) = stepU (upAt Z h k) (Z[k]'hk) := by
  unfold upAt
  rw [List.take_succ_eq_append_getElem hk, List.foldl_append]; rfl
theorem upAt_all (Z : List (Bool × List UInt8)) (h : List UInt8) : upAt Z h Z.length = Z.foldl stepU h := by unfold upAt; rw [List.take_length]
theorem upAt_length (Z : List (Bool × List UInt8)) (h : List UInt8) (hl : h.length = 32) (k : Nat) (hk : k ≤ Z.length) : (upAt Z h k).length = 32 := by
  cases k with
  | zero => exact hl
  | succ k => rw [upAt_succ Z h k (by omega)]; exact stepU_length _ _
/-- The steps of the way up from leaf i of n: the side that each comes from, and the other side's hash. -/
def stepsL (n i : Nat) (P : List (List UInt8)) : List (Bool × List UInt8) := (sidesN n i).zip P
theorem stepsL_length (n i : Nat) (P : List (List UInt8)) (h : P.length = (sidesN n i).length) : (stepsL n i P).length = P.length := by simp [stepsL, h]
def upL (n i : Nat) (h : List UInt8) (P : List (List UInt8)) : List UInt8 := (stepsL n i P).foldl stepU h
theorem upL_one {n : Nat} (i : Nat) (hn : n < 2) (h : List UInt8) (P : List (List UInt8)) : upL n i h P = h := by simp [upL, stepsL, sidesN_one i hn]
theorem stepsL_left {n i : Nat} (h2 : 2 ≤ n) (hi : i < leftN n) (P : List (List UInt8)) (x : List UInt8) (hP : P.length = (sidesN (leftN n) i).length) : stepsL n i (P ++ [x]) = stepsL (leftN n) i P ++ [(false, x)] := by
  unfold stepsL; rw [sidesN_left h2 hi, List.zip_append hP.symm]; rfl
theorem stepsL_right {n i : Nat} (h2 : 2 ≤ n) (hi : leftN n ≤ i) (P : List (List UInt8)) (x : List UInt8) (hP : P.length = (sidesN (n - leftN n) (i - leftN n)).length) : stepsL n i (P ++ [x]) = stepsL (n - leftN n) (i - leftN n) P ++ [(true, x)] := by
  unfold stepsL; rw [sidesN_right h2 hi, List.zip_append hP.symm]; rfl
theorem upL_left {n i : Nat} (h2 : 2 ≤ n) (hi : i < leftN n) (h : List UInt8) (P : List (List UInt8)) (x : List UInt8) (hP : P.length = (sidesN (leftN n) i).length) : upL n i h (P ++ [x]) = shaL (nodeS (upL (leftN n) i h P) x) := by
  unfold upL; rw [stepsL_left h2 hi P x hP, List.foldl_append]; rfl
theorem upL_right {n i : Nat} (h2 : 2 ≤ n) (hi : leftN n ≤ i) (h : List UInt8) (P : List (List UInt8)) (x : List UInt8) (hP : P.length = (sidesN (n - leftN n) (i - leftN n)).length) : upL n i h (P ++ [x]) = shaL (nodeS x (upL (n - leftN n) (i - leftN n) h P)) := by
  unfold upL; rw [stepsL_right h2 hi P x hP, List.foldl_append]; rfl
theorem upL_length (n i : Nat) (h : List UInt8) (P : List (List UInt8)) (hl : h.length = 32) : (upL n i h P).length = 32 := by
  have := upAt_length (stepsL n i P) h hl _ (Nat.le_refl _)
  rwa [upAt_all] at this
/-- What Open tells determines the tree's top. -/
theorem upL_path (n : Nat) : ∀ (F : Nat → List UInt8) (i : Nat), i < n → upL n i (F i) (pathN F n i) = topN F n := by
  induction n using Nat.strongRecOn with
  | _ n ih =>
    intro F i hi
    by_cases h2 : n < 2
    · obtain rfl : n = 1 := by omega
      obtain rfl : i = 0 := by omega
      rw [upL_one 0 (by omega), topN_one]
    · have hp := leftN_pos (n := n) (by omega)
      have hl := leftN_lt (n := n) (by omega)
      by_cases h : i < leftN n
      · rw [pathN_left F (by omega) h, upL_left (by omega) h _ _ _ (pathN_length _ _ _), ih _ hl F i h, topN_two F (n := n) (by omega)]
      · have := ih (n - leftN n) (by omega) (fun j => F (leftN n + j)) (i - leftN n) (by omega)
        rw [show leftN n + (i - leftN n) = i by omega] at this
        rw [pathN_right F (by omega) (by omega), upL_right (by omega) (by omega) _ _ _ (pathN_length _ _ _), this, topN_two F (n := n) (by omega)]
/-- The root of a single leaf "a" is not the zero hash. -/
theorem root_a : shaL (rootS 1 (shaL (leafS ⟨#[97]⟩))) ≠ zeroH := by decide +kernel

/-! ### What May, Up, Root and Check answer -/
/-- May's answer, of Index, Count and the path's length. -/
def mayE (I N : Int) (m : Nat) : Int := if 1 ≤ N ∧ N ≤ 1048576 ∧ 0 ≤ I ∧ I < N then (if (m : Int) = depthI N I then 0 else 2) else 3
theorem mayE_bad {I N : Int} {m : Nat} (h : ¬ (1 ≤ N ∧ N ≤ 1048576 ∧ 0 ≤ I ∧ I < N)) : mayE I N m = 3 := if_neg h
theorem mayE_good {I N : Int} {m : Nat} (h : 1 ≤ N ∧ N ≤ 1048576 ∧ 0 ≤ I ∧ I < N) : mayE I N m = if (m : Int) = depthI N I then 0 else 2 := if_pos h
theorem mayE_zero {I N : Int} {m : Nat} : mayE I N m = 0 ↔ (1 ≤ N ∧ N ≤ 1048576 ∧ 0 ≤ I ∧ I < N) ∧ (m : Int) = depthI N I := by
  unfold mayE
  by_cases h : 1 ≤ N ∧ N ≤ 1048576 ∧ 0 ≤ I ∧ I < N
  · rw [if_pos h]
    by_cases h2 : (m : Int) = depthI N I
    · rw [if_pos h2]; exact ⟨fun _ => ⟨h, h2⟩, fun _ => rfl⟩
    · rw [if_neg h2]; exact ⟨fun h' => absurd h' (by decide), fun h' => absurd h'.2 h2⟩
  · rw [if_neg h]; exact ⟨fun h' => absurd h' (by decide), fun h' => absurd h'.1 h⟩
/-- What a valid opening is, in natural numbers. -/
theorem mayE_nat {I N : Int} {m : Nat} (h : mayE I N m = 0) : ∃ i n : Nat, I = i ∧ N = n ∧ i < n ∧ n ≤ 1048576 ∧ m = (sidesN n i).length ∧ m ≤ 63 := by
  obtain ⟨⟨h1, h2, h3, h4⟩, h5⟩ := mayE_zero.1 h
  obtain ⟨i, rfl⟩ := Int.eq_ofNat_of_zero_le h3
  obtain ⟨n, rfl⟩ := Int.eq_ofNat_of_zero_le (show 0 ≤ N by omega)
  rw [depthI_yes (by omega)] at h5
  have h6 := dn_len63 i (show n ≤ 9223372036854775808 by omega)
  exact ⟨i, n, rfl, rfl, by omega, by omega, by rw [sidesN_length]; omega, by omega⟩
/-- The first m hashes, as a list. -/
def fl (m : Nat) (F : Nat → List UInt8) : List (List UInt8) := (List.range m).map F
theorem fl_length (m : Nat) (F : Nat → List UInt8) : (fl m F).length = m := by simp [fl]
theorem fl_get (m : Nat) (F : Nat → List UInt8) (i : Nat) (h : i < m) : (fl m F)[i]'(by rw [fl_length]; exact h) = F i := by simp [fl]
theorem fl_snoc (m : Nat) (F : Nat → List UInt8) : fl (m + 1) F = fl m F ++ [F m] := by simp [fl, List.range_succ]
theorem fl_lh (L : List (List UInt8)) : fl L.length (lh L) = L := by
  apply List.ext_getElem (fl_length _ _)
  intro i h1 h2
  rw [fl_get _ _ _ h2]
  unfold lh; rw [List.getD_eq_getElem?_getD, List.getElem?_eq_getElem h2]; rfl
/-- The hash behind k steps up from a leaf. -/
def uH (s : ByteArray) (i n m : Nat) (F : Nat → List UInt8) (k : Nat) : List UInt8 := upAt (stepsL n i (fl m F)) (shaL (leafS s)) k
theorem uH_zero (s : ByteArray) (i n m : Nat) (F : Nat → List UInt8) : uH s i n m F 0 = shaL (leafS s) := rfl
theorem uH_length (s : ByteArray) (i n m : Nat) (F : Nat → List UInt8) (k : Nat) (hm : m = (sidesN n i).length) (hk : k ≤ m) : (uH s i n m F k).length = 32 :=
  upAt_length _ _ (shaL_length _) k (by rw [stepsL_length n i _ (by rw [fl_length]; exact hm), fl_length]; exact hk)
theorem uH_succ (s : ByteArray) (i n m : Nat) (F : Nat → List UInt8) (k : Nat) (hm : m = (sidesN n i).length) (hk : k < m) :
    uH s i n m F (k + 1) = stepU (uH s i n m F k) ((sidesN n i).getD k false, F k) := by
  have hl : (stepsL n i (fl m F)).length = m := by rw [stepsL_length n i _ (by rw [fl_length]; exact hm), fl_length]
  unfold uH
  rw [upAt_succ _ _ k (by omega)]
  congr 1
  have hs : k < (sidesN n i).length := by omega
  simp only [stepsL, List.getElem_zip, fl_get m F k hk, List.getD_eq_getElem?_getD, List.getElem?_eq_getElem hs, Option.getD_some]
theorem uH_all (s : ByteArray) (i n m : Nat) (F : Nat → List UInt8) (hm : m = (sidesN n i).length) : uH s i n m F m = upL n i (shaL (leafS s)) (fl m F) := by
  have hl : (stepsL n i (fl m F)).length = m := by rw [stepsL_length n i _ (by rw [fl_length]; exact hm), fl_length]
  unfold uH upL
  rw [← upAt_all, hl]
/-- The hashes on the way, the leaf's first. -/
def upsL (s : ByteArray) (i n m : Nat) (F : Nat → List UInt8) (k : Nat) : List (List UInt8) := (List.range (k + 1)).map (uH s i n m F)
theorem upsL_zero (s : ByteArray) (i n m : Nat) (F : Nat → List UInt8) : upsL s i n m F 0 = [shaL (leafS s)] := rfl
theorem upsL_succ (s : ByteArray) (i n m : Nat) (F : Nat → List UInt8) (k : Nat) : upsL s i n m F (k + 1) = upsL s i n m F k ++ [uH s i n m F (k + 1)] := by
  unfold upsL; rw [List.range_succ (n := k + 1), List.map_append]; rfl
theorem upsL_length (s : ByteArray) (i n m : Nat) (F : Nat → List UInt8) (k : Nat) : (upsL s i n m F k).length = k + 1 := by simp [upsL]
theorem upsL_32 (s : ByteArray) (i n m : Nat) (F : Nat → List UInt8) (hm : m = (sidesN n i).length) : ∀ x ∈ upsL s i n m F m, x.length = 32 := by
  intro x hx
  simp only [upsL, List.mem_map, List.mem_range] at hx
  obtain ⟨k, hk, rfl⟩ := hx
  exact uH_length s i n m F k hm (by omega)
theorem upsL_last (s : ByteArray) (i n m : Nat) (F : Nat → List UInt8) (k : Nat) : lh (upsL s i n m F k) k = uH s i n m F k := by
  unfold lh upsL
  rw [List.getD_eq_getElem?_getD]
  simp
theorem upsL_first (s : ByteArray) (i n m : Nat) (F : Nat → List UInt8) (k : Nat) : lh (upsL s i n m F k) 0 = shaL (leafS s) := by
  unfold lh upsL
  rw [List.getD_eq_getElem?_getD]
  simp [uH_zero]
/-- What Up answers. -/
def upO (s : ByteArray) (I N : Int) (m : Nat) (F : Nat → List UInt8) : List (List UInt8) := if mayE I N m = 0 then upsL s I.toNat N.toNat m F m else []
/-- What Root answers. -/
def rtO (s : ByteArray) (I N : Int) (m : Nat) (F : Nat → List UInt8) : List UInt8 := if mayE I N m = 0 then shaL (rootS N.toNat (upL N.toNat I.toNat (shaL (leafS s)) (fl m F))) else zeroH
theorem rtO_length (s : ByteArray) (I N : Int) (m : Nat) (F : Nat → List UInt8) : (rtO s I N m F).length = 32 := by
  unfold rtO
  split
  · exact shaL_length _
  · rfl
/-- What Check answers. -/
def ckO (r : List UInt8) (s : ByteArray) (I N : Int) (m : Nat) (F : Nat → List UInt8) : Bool := decide (mayE I N m = 0 ∧ rtO s I N m F = r)
theorem ckO_own (s : ByteArray) (I N : Int) (m : Nat) (F : Nat → List UInt8) (h : mayE I N m = 0) : ckO (rtO s I N m F) s I N m F = true := decide_eq_true ⟨h, rfl⟩
/-- An opening that Open tells is valid, and determines the root of the list. -/
theorem may_opL (S : Nat → ByteArray) (n : Nat) (i : Int) (h : 0 ≤ i ∧ i < (n : Int)) (hn : n ≤ 1048576) : mayE (opI n i) (opC n i) (opL S n i).length = 0 := by
  rw [mayE_zero, opI, opC, if_pos h, if_pos h]
  refine ⟨by omega, ?_⟩
  obtain ⟨k, rfl⟩ := Int.eq_ofNat_of_zero_le h.1
  rw [depthI, if_pos h, opL, if_pos h, pathN_length]
  simp
theorem rt_opL (S : Nat → ByteArray) (n : Nat) (i : Int) (h : 0 ≤ i ∧ i < (n : Int)) (hn : n ≤ 1048576) : rtO (S i.toNat) (opI n i) (opC n i) (opL S n i).length (lh (opL S n i)) = rootL S n := by
  have hm := may_opL S n i h hn
  rw [rtO, if_pos hm, fl_lh, opI, opC, opL, if_pos h, if_pos h, if_pos h]
  have := upL_path n (lf S) i.toNat (by omega)
  simp only [Int.toNat_natCast]
  rw [show shaL (leafS (S i.toNat)) = lf S i.toNat from rfl, this]
  rfl
theorem up_opL (S : Nat → ByteArray) (n : Nat) (i : Int) (h : 0 ≤ i ∧ i < (n : Int)) (hn : n ≤ 1048576) : lh (upO (S i.toNat) (opI n i) (opC n i) (opL S n i).length (lh (opL S n i))) (opL S n i).length = topN (lf S) n := by
  have hm := may_opL S n i h hn
  obtain ⟨i', n', e1, e2, h3, h4, h5, h6⟩ := mayE_nat hm
  rw [upO, if_pos hm, upsL_last, e1, e2]
  simp only [Int.toNat_natCast]
  rw [uH_all _ _ _ _ _ h5, fl_lh]
  rw [opI, if_pos h] at e1
  rw [opC, if_pos h] at e2
  obtain rfl : i.toNat = i' := by omega
  obtain rfl : n = n' := by omega
  rw [opL, if_pos h]
  exact upL_path n (lf S) i.toNat (by omega)
end Go.Proofs.YtljkhlbfjcbkiaaDoor
