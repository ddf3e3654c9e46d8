/-
  What an opening determines, as mathematics: upL n i h P (the top, from the leaf's hash h and the hashes P beside the way up), upAt (the hashes on the way); an opening that pathN tells determines the tree's top.
  Contracts of hold.May, of the reference's May, and of hold.joined. Conditions: sha's table of round constants stands (joined).
  Contracts of hold.Up, Root and Check. Conditions: a leaf of at most a million bytes; a slice's length and capacity fit; sha's table of round constants stands.
  Contract of the reference's up. Conditions: the leaf exists; the path has as many hashes as the way up has steps.
  Contracts of hold.Root and Check, and of the reference's Told and Check. Conditions: a leaf of at most a million bytes; a slice's length and capacity fit; sha's table of round constants stands (hold).
  Strings in slices, in drawn statements: an index, a load, comparisons, a slice of one string. No condition.
  For layer 14's laws: comparisons of hashes in drawn statements, a pointer at a hash, awake of milepostlaw14. Conditions: sha's table of round constants stands.
-/
import Derived.Test.YtcbcjiaedoeaeaaDoorOpe
import Derived.Test.YtcbcjiaedoeaeaaDoorTre
import Derived.BigQuiet
import Derived.Test.YtcbcjiaedoeaeaaDoorTag
namespace Go.Proofs.YtcbcjiaedoeaeaaDoor
set_option maxRecDepth 4000

/-- One step up: the other side's hash on its side. -/
def stepU (h : List UInt8) (s : Bool × List UInt8) : List UInt8 := bif s.1 then shaL (nodeS s.2 h) else shaL (nodeS h s.2)
theorem stepU_length (h : List UInt8) (s : Bool × List UInt8) : (stepU h s).length = 32 := by
  unfold stepU; cases s.1 <;> exact shaL_length _
/-- The hash behind k steps. -/
def upAt (Z : List (Bool × List UInt8)) (h : List UInt8) (k : Nat) : List UInt8 := (Z.take k).foldl stepU h
theorem upAt_zero (Z : List (Bool × List UInt8)) (h : List UInt8) : upAt Z h 0 = h := rfl
theorem upAt_succ (Z : List (Bool × List UInt8)) (h : List UInt8) (k : Nat) (hk : k < Z.length) : upAt Z h (k + 1) = stepU (upAt Z h k) (Z[k]'hk) := by
  unfold upAt
  rw [List.take_succ_eq_append_getElem hk, List.foldl_append]; rfl
theorem upAt_all (Z : List (Bool × List UInt8)) (h : List UInt8) : upAt Z h Z.length = Z.foldl stepU h := by unfold upAt; rw [List.take_length]
theorem upAt_length (Z : List (Bool × List UInt8)) (h : List UInt8) (hl : h.length = 32) (k : Nat) (hk : k ≤ Z.length) : (upAt Z h k).length = 32 := by
  cases k with
  | zero => exact hl
  | succ k => rw [upAt_succ Z h k (by omega)]; exact stepU_length _ _
/-- The steps of the way up from leaf i of n: the side that each comes from, and the other side's hash. -/
def stepsL (n i : Nat) (P : List (List UInt8)) : List (Bool × List UInt8) := (sidesN n i).zip P
theorem stepsL_length (n i : Nat) (P : List (List UInt8)) (h : P.length = (sidesN n i).length) : (stepsL n i P).length = P.length := by simp [stepsL, h]
def upL (n i : Nat) (h : List UInt8) (P : List (List UInt8)) : List UInt8 := (stepsL n i P).foldl stepU h
theorem upL_one {n : Nat} (i : Nat) (hn : n < 2) (h : List UInt8) (P : List (List UInt8)) : upL n i h P = h := by simp [upL, stepsL, sidesN_one i hn]
theorem stepsL_left {n i : Nat} (h2 : 2 ≤ n) (hi : i < leftN n) (P : List (List UInt8)) (x : List UInt8) (hP : P.length = (sidesN (leftN n) i).length) : stepsL n i (P ++ [x]) = stepsL (leftN n) i P ++ [(false, x)] := by
  unfold stepsL; rw [sidesN_left h2 hi, List.zip_append hP.symm]; rfl
theorem stepsL_right {n i : Nat} (h2 : 2 ≤ n) (hi : leftN n ≤ i) (P : List (List UInt8)) (x : List UInt8) (hP : P.length = (sidesN (n - leftN n) (i - leftN n)).length) : stepsL n i (P ++ [x]) = stepsL (n - leftN n) (i - leftN n) P ++ [(true, x)] := by
  unfold stepsL; rw [sidesN_right h2 hi, List.zip_append hP.symm]; rfl
theorem upL_left {n i : Nat} (h2 : 2 ≤ n) (hi : i < leftN n) (h : List UInt8) (P : List (List UInt8)) (x : List UInt8) (hP : P.length = (sidesN (leftN n) i).length) : upL n i h (P ++ [x]) = shaL (nodeS (upL (leftN n) i h P) x) := by
  unfold upL; rw [stepsL_left h2 hi P x hP, List.foldl_append]; rfl
theorem upL_right {n i : Nat} (h2 : 2 ≤ n) (hi : leftN n ≤ i) (h : List UInt8) (P : List (List UInt8)) (x : List UInt8) (hP : P.length = (sidesN (n - leftN n) (i - leftN n)).length) : upL n i h (P ++ [x]) = shaL (nodeS x (upL (n - leftN n) (i - leftN n) h P)) := by
  unfold upL; rw [stepsL_right h2 hi P x hP, List.foldl_append]; rfl
theorem upL_length (n i : Nat) (h : List UInt8) (P : List (List UInt8)) (hl : h.length = 32) : (upL n i h P).length = 32 := by
  have := upAt_length (stepsL n i P) h hl _ (Nat.le_refl _)
  rwa [upAt_all] at this
/-- What Open tells determines the tree's top. -/
theorem upL_path (n : Nat) : ∀ (F : Nat → List UInt8) (i : Nat), i < n → upL n i (F i) (pathN F n i) = topN F n := by
  induction n using Nat.strongRecOn with
  | _ n ih =>
    intro F i hi
    by_cases h2 : n < 2
    · obtain rfl : n = 1 := by omega
      obtain rfl : i = 0 := by omega
      rw [upL_one 0 (by omega), topN_one]
    · have hp := leftN_pos (n := n) (by omega)
      have hl := leftN_lt (n := n) (by omega)
      by_cases h : i < leftN n
      · rw [pathN_left F (by omega) h, upL_left (by omega) h _ _ _ (pathN_length _ _ _), ih _ hl F i h, topN_two F (n := n) (by omega)]
      · have := ih (n - leftN n) (by omega) (fun j => F (leftN n + j)) (i - leftN n) (by omega)
        rw [show leftN n + (i - leftN n) = i by omega] at this
        rw [pathN_right F (by omega) (by omega), upL_right (by omega) (by omega) _ _ _ (pathN_length _ _ _), this, topN_two F (n := n) (by omega)]
/-- The root of a single leaf "a" is not the zero hash. -/
theorem root_a : shaL (rootS 1 (shaL (leafS ⟨#[97]⟩))) ≠ zeroH := by decide +kernel

/-! ### What May, Up, Root and Check answer -/
/-- May's answer, of Index, Count and the path's length. -/
def mayE (I N : Int) (m : Nat) : Int := if 1 ≤ N ∧ N ≤ 1048576 ∧ 0 ≤ I ∧ I < N then (if (m : Int) = depthI N I then 0 else 2) else 3
theorem mayE_bad {I N : Int} {m : Nat} (h : ¬ (1 ≤ N ∧ N ≤ 1048576 ∧ 0 ≤ I ∧ I < N)) : mayE I N m = 3 := if_neg h
theorem mayE_good {I N : Int} {m : Nat} (h : 1 ≤ N ∧ N ≤ 1048576 ∧ 0 ≤ I ∧ I < N) : mayE I N m = if (m : Int) = depthI N I then 0 else 2 := if_pos h
theorem mayE_zero {I N : Int} {m : Nat} : mayE I N m = 0 ↔ (1 ≤ N ∧ N ≤ 1048576 ∧ 0 ≤ I ∧ I < N) ∧ (m : Int) = depthI N I := by
  unfold mayE
  by_cases h : 1 ≤ N ∧ N ≤ 1048576 ∧ 0 ≤ I ∧ I < N
  · rw [if_pos h]
    by_cases h2 : (m : Int) = depthI N I
    · rw [if_pos h2]; exact ⟨fun _ => ⟨h, h2⟩, fun _ => rfl⟩
    · rw [if_neg h2]; exact ⟨fun h' => absurd h' (by decide), fun h' => absurd h'.2 h2⟩
  · rw [if_neg h]; exact ⟨fun h' => absurd h' (by decide), fun h' => absurd h'.1 h⟩
/-- What a valid opening is, in natural numbers. -/
theorem mayE_nat {I N : Int} {m : Nat} (h : mayE I N m = 0) : ∃ i n : Nat, I = i ∧ N = n ∧ i < n ∧ n ≤ 1048576 ∧ m = (sidesN n i).length ∧ m ≤ 63 := by
  obtain ⟨⟨h1, h2, h3, h4⟩, h5⟩ := mayE_zero.1 h
  obtain ⟨i, rfl⟩ := Int.eq_ofNat_of_zero_le h3
  obtain ⟨n, rfl⟩ := Int.eq_ofNat_of_zero_le (show 0 ≤ N by omega)
  rw [depthI_yes (by omega)] at h5
  have h6 := dn_len63 i (show n ≤ 9223372036854775808 by omega)
  exact ⟨i, n, rfl, rfl, by omega, by omega, by rw [sidesN_length]; omega, by omega⟩
/-- The first m hashes, as a list. -/
def fl (m : Nat) (F : Nat → List UInt8) : List (List UInt8) := (List.range m).map F
theorem fl_length (m : Nat) (F : Nat → List UInt8) : (fl m F).length = m := by simp [fl]
theorem fl_get (m : Nat) (F : Nat → List UInt8) (i : Nat) (h : i < m) : (fl m F)[i]'(by rw [fl_length]; exact h) = F i := by simp [fl]
theorem fl_snoc (m : Nat) (F : Nat → List UInt8) : fl (m + 1) F = fl m F ++ [F m] := by simp [fl, List.range_succ]
theorem fl_lh (L : List (List UInt8)) : fl L.length (lh L) = L := by
  apply List.ext_getElem (fl_length _ _)
  intro i h1 h2
  rw [fl_get _ _ _ h2]
  unfold lh; rw [List.getD_eq_getElem?_getD, List.getElem?_eq_getElem h2]; rfl
/-- The hash behind k steps up from a leaf. -/
def uH (s : ByteArray) (i n m : Nat) (F : Nat → List UInt8) (k : Nat) : List UInt8 := upAt (stepsL n i (fl m F)) (shaL (leafS s)) k
theorem uH_zero (s : ByteArray) (i n m : Nat) (F : Nat → List UInt8) : uH s i n m F 0 = shaL (leafS s) := rfl
theorem uH_length (s : ByteArray) (i n m : Nat) (F : Nat → List UInt8) (k : Nat) (hm : m = (sidesN n i).length) (hk : k ≤ m) : (uH s i n m F k).length = 32 :=
  upAt_length _ _ (shaL_length _) k (by rw [stepsL_length n i _ (by rw [fl_length]; exact hm), fl_length]; exact hk)
theorem uH_succ (s : ByteArray) (i n m : Nat) (F : Nat → List UInt8) (k : Nat) (hm : m = (sidesN n i).length) (hk : k < m) :
    uH s i n m F (k + 1) = stepU (uH s i n m F k) ((sidesN n i).getD k false, F k) := by
  have hl : (stepsL n i (fl m F)).length = m := by rw [stepsL_length n i _ (by rw [fl_length]; exact hm), fl_length]
  unfold uH
  rw [upAt_succ _ _ k (by omega)]
  congr 1
  have hs : k < (sidesN n i).length := by omega
  simp only [stepsL, List.getElem_zip, fl_get m F k hk, List.getD_eq_getElem?_getD, List.getElem?_eq_getElem hs, Option.getD_some]
theorem uH_all (s : ByteArray) (i n m : Nat) (F : Nat → List UInt8) (hm : m = (sidesN n i).length) : uH s i n m F m = upL n i (shaL (leafS s)) (fl m F) := by
  have hl : (stepsL n i (fl m F)).length = m := by rw [stepsL_length n i _ (by rw [fl_length]; exact hm), fl_length]
  unfold uH upL
  rw [← upAt_all, hl]
/-- The hashes on the way, the leaf's first. -/
def upsL (s : ByteArray) (i n m : Nat) (F : Nat → List UInt8) (k : Nat) : List (List UInt8) := (List.range (k + 1)).map (uH s i n m F)
theorem upsL_zero (s : ByteArray) (i n m : Nat) (F : Nat → List UInt8) : upsL s i n m F 0 = [shaL (leafS s)] := rfl
theorem upsL_succ (s : ByteArray) (i n m : Nat) (F : Nat → List UInt8) (k : Nat) : upsL s i n m F (k + 1) = upsL s i n m F k ++ [uH s i n m F (k + 1)] := by
  unfold upsL; rw [List.range_succ (n := k + 1), List.map_append]; rfl
theorem upsL_length (s : ByteArray) (i n m : Nat) (F : Nat → List UInt8) (k : Nat) : (upsL s i n m F k).length = k + 1 := by simp [upsL]
theorem upsL_32 (s : ByteArray) (i n m : Nat) (F : Nat → List UInt8) (hm : m = (sidesN n i).length) : ∀ x ∈ upsL s i n m F m, x.length = 32 := by
  intro x hx
  simp only [upsL, List.mem_map, List.mem_range] at hx
  obtain ⟨k, hk, rfl⟩ := hx
  exact uH_length s i n m F k hm (by omega)
theorem upsL_last (s : ByteArray) (i n m : Nat) (F : Nat → List UInt8) (k : Nat) : lh (upsL s i n m F k) k = uH s i n m F k := by
  unfold lh upsL
  rw [List.getD_eq_getElem?_getD]
  simp
theorem upsL_first (s : ByteArray) (i n m : Nat) (F : Nat → List UInt8) (k : Nat) : lh (upsL s i n m F k) 0 = shaL (leafS s) := by
  unfold lh upsL
  rw [List.getD_eq_getElem?_getD]
  simp [uH_zero]
/-- What Up answers. -/
def upO (s : ByteArray) (I N : Int) (m : Nat) (F : Nat → List UInt8) : List (List UInt8) := if mayE I N m = 0 then upsL s I.toNat N.toNat m F m else []
/-- What Root answers. -/
def rtO (s : ByteArray) (I N : Int) (m : Nat) (F : Nat → List UInt8) : List UInt8 := if mayE I N m = 0 then shaL (rootS N.toNat (upL N.toNat I.toNat (shaL (leafS s)) (fl m F))) else zeroH
theorem rtO_length (s : ByteArray) (I N : Int) (m : Nat) (F : Nat → List UInt8) : (rtO s I N m F).length = 32 := by
  unfold rtO
  split
  · exact shaL_length _
  · rfl
/-- What Check answers. -/
def ckO (r : List UInt8) (s : ByteArray) (I N : Int) (m : Nat) (F : Nat → List UInt8) : Bool := decide (mayE I N m = 0 ∧ rtO s I N m F = r)
theorem ckO_own (s : ByteArray) (I N : Int) (m : Nat) (F : Nat → List UInt8) (h : mayE I N m = 0) : ckO (rtO s I N m F) s I N m F = true := decide_eq_true ⟨h, rfl⟩
/-- An opening that Open tells is valid, and determines the root of the list. -/
theorem may_opL (S : Nat → ByteArray) (n : Nat) (i : Int) (h : 0 ≤ i ∧ i < (n : Int)) (hn : n ≤ 1048576) : mayE (opI n i) (opC n i) (opL S n i).length = 0 := by
  rw [mayE_zero, opI, opC, if_pos h, if_pos h]
  refine ⟨by omega, ?_⟩
  obtain ⟨k, rfl⟩ := Int.eq_ofNat_of_zero_le h.1
  rw [depthI, if_pos h, opL, if_pos h, pathN_length]
  simp
theorem rt_opL (S : Nat → ByteArray) (n : Nat) (i : Int) (h : 0 ≤ i ∧ i < (n : Int)) (hn : n ≤ 1048576) : rtO (S i.toNat) (opI n i) (opC n i) (opL S n i).length (lh (opL S n i)) = rootL S n := by
  have hm := may_opL S n i h hn
  rw [rtO, if_pos hm, fl_lh, opI, opC, opL, if_pos h, if_pos h, if_pos h]
  have := upL_path n (lf S) i.toNat (by omega)
  simp only [Int.toNat_natCast]
  rw [show shaL (leafS (S i.toNat)) = lf S i.toNat from rfl, this]
  rfl
theorem up_opL (S : Nat → ByteArray) (n : Nat) (i : Int) (h : 0 ≤ i ∧ i < (n : Int)) (hn : n ≤ 1048576) : lh (upO (S i.toNat) (opI n i) (opC n i) (opL S n i).length (lh (opL S n i))) (opL S n i).length = topN (lf S) n := by
  have hm := may_opL S n i h hn
  obtain ⟨i', n', e1, e2, h3, h4, h5, h6⟩ := mayE_nat hm
  rw [upO, if_pos hm, upsL_last, e1, e2]
  simp only [Int.toNat_natCast]
  rw [uH_all _ _ _ _ _ h5, fl_lh]
  rw [opI, if_pos h] at e1
  rw [opC, if_pos h] at e2
  obtain rfl : i.toNat = i' := by omega
  obtain rfl : n = n' := by omega
  rw [opL, if_pos h]
  exact upL_path n (lf S) i.toNat (by omega)
end Go.Proofs.YtcbcjiaedoeaeaaDoor
namespace Go.Proofs.YtcbcjiaedoeaeaaDoor
set_option maxRecDepth 4000
open Go.RowKit

theorem loadHr {o : Oper} {t : Array Value} {x : Operand} {w : World} {g : Nat} {l : List UInt8} (ho : o.op = .load 34 x) (hx : evS t x = .pointer (some ⟨g, 0, none⟩)) (hg : Rowz w g (bC 32 l) 34) :
    (execOp (evS t) o).run Tryd.prog w = .ok (.value (.agg (bC 32 l))) w :=
  execLoadRow 34 ho g hx _ 34 _ hg Tryd.underlying34 rfl (info_hash _)

set_option maxRecDepth 100000 in
set_option maxHeartbeats 1000000 in
theorem holdMay_any (I N : Int) (p : Option Addr) (m c : Nat) (w : World) :
    Calls Tryd.prog 52 #[.agg #[.int .i64 I, .int .i64 N, .slice p m c]] w fun e w' => e = .returned (.int .i64 (mayE I N m)) ∧ Kept w w' := by
  have K1 := Lib.hid ((Kept.refl w).alloc (.cells #[.int .i64 I, .int .i64 N, .slice p m c] 27))
  have R1 := Lib.hid (Rowz.new w #[.int .i64 I, .int .i64 N, .slice p m c] 27)
  by_cases h1 : N < 1
  · rw [mayE_bad (by omega)]
    have hd1 : decide (N < 1) = true := decide_eq_true h1
    clear h1 R1
    go_enter Tryd.func52, Tryd.ntmps52
    go_wp2_with fail
    go_ret
    exact ⟨rfl, K1.out⟩
  have hd1 : decide (N < 1) = false := decide_eq_false h1
  by_cases h2 : N > 1048576
  · rw [mayE_bad (by omega)]
    have hd2 : decide (N > 1048576) = true := decide_eq_true h2
    clear h1 h2 R1
    go_enter Tryd.func52, Tryd.ntmps52
    go_wp2_with fail
    go_ret
    exact ⟨rfl, K1.out⟩
  have hd2 : decide (N > 1048576) = false := decide_eq_false h2
  by_cases h3 : I < 0
  · rw [mayE_bad (by omega)]
    have hd3 : decide (I < 0) = true := decide_eq_true h3
    clear h1 h2 h3 R1
    go_enter Tryd.func52, Tryd.ntmps52
    go_wp2_with fail
    go_ret
    exact ⟨rfl, K1.out⟩
  have hd3 : decide (I < 0) = false := decide_eq_false h3
  by_cases h4 : I ≥ N
  · rw [mayE_bad (by omega)]
    have hd4 : decide (I ≥ N) = true := decide_eq_true h4
    have hd4' : decide (N ≤ I) = true := decide_eq_true h4
    clear h1 h2 h3 h4 R1
    go_enter Tryd.func52, Tryd.ntmps52
    go_wp2_with fail
    go_ret
    exact ⟨rfl, K1.out⟩
  have hd4 : decide (I ≥ N) = false := decide_eq_false h4
  have hd4' : decide (N ≤ I) = false := decide_eq_false h4
  rw [mayE_good (by omega)]
  have HD : Hid (∀ w, _) := Lib.hid fun w => shapeDepth_any N I w (by omega)
  have hBE : ((m : Int) != depthI N I) = !decide ((m : Int) = depthI N I) := by
    by_cases h : (m : Int) = depthI N I
    · rw [decide_eq_true h]; simp [h]
    · rw [decide_eq_false h]; simp [h]
  have hpost : (if (m : Int) = depthI N I then (0 : Int) else 2) = bif decide ((m : Int) = depthI N I) then 0 else 2 := by
    by_cases h : (m : Int) = depthI N I
    · rw [if_pos h, decide_eq_true h]; rfl
    · rw [if_neg h, decide_eq_false h]; rfl
  rw [hpost]
  clear hpost h1 h2 h3 h4
  generalize decide ((m : Int) = depthI N I) = B at hBE ⊢
  generalize depthI N I = D at HD hBE
  go_enter Tryd.func52, Tryd.ntmps52
  go_wp2_with fail
  change Code.wp _ _ _ _ (w.alloc (.cells #[.int .i64 I, .int .i64 N, .slice p m c] 27))
  generalize w.alloc (.cells #[.int .i64 I, .int .i64 N, .slice p m c] 27) = v at K1 R1 ⊢
  refine wp_region_table [(23, .is (.pointer (some ⟨w.heap.size, 2, none⟩))), (24, .is (.slice p m c)), (25, .is (.int .i64 (m : Int))), (26, .is (.pointer (some ⟨w.heap.size, 1, none⟩))), (27, .is (.int .i64 N)), (28, .is (.pointer (some ⟨w.heap.size, 0, none⟩))), (29, .is (.int .i64 I)), (30, .is (.int .i64 D)), (31, .is (.bool (!B)))] (by kernel_rfl) (by kernel_rfl) ?_ ?_
  · refine ⟨fun t w1 hf hk hp => ?_, ?_⟩
    · have h1 : slot t 1 = .pointer (some ⟨w.heap.size, 0, none⟩) := hf 1 (by kernel_rfl)
      clear hf hp
      refine stepAt_plain rfl ?_
      exact stepOK_pure (.pointer (some ⟨w.heap.size, 2, none⟩)) (execFieldO w.heap.size 2 (by omega) w1 rfl h1) rfl
    refine ⟨fun t w1 hf hk hp => ?_, ?_⟩
    · have h23 : slot t 23 = .pointer (some ⟨w.heap.size, 2, none⟩) := hp 23 (by kernel_rfl)
      clear hf hp
      refine stepAt_plain rfl ?_
      have hq0 := run_loadHs ((R1.out.kept hk).cell 2)
      exact stepOK_sem (.slice p m c) (by simp only [execOp, evS, h23]) hq0 rfl
    refine ⟨fun t w1 hf hk hp => ?_, ?_⟩
    · have h24 : slot t 24 = .slice p m c := hp 24 (by kernel_rfl)
      clear hf hp
      refine stepAt_plain rfl ?_
      exact stepOK_pure (.int .i64 (m : Int)) (execLenHs w1 rfl h24) rfl
    refine ⟨fun t w1 hf hk hp => ?_, ?_⟩
    · have h1 : slot t 1 = .pointer (some ⟨w.heap.size, 0, none⟩) := hf 1 (by kernel_rfl)
      clear hf hp
      refine stepAt_plain rfl ?_
      exact stepOK_pure (.pointer (some ⟨w.heap.size, 1, none⟩)) (execFieldO w.heap.size 1 (by omega) w1 rfl h1) rfl
    refine ⟨fun t w1 hf hk hp => ?_, ?_⟩
    · have h26 : slot t 26 = .pointer (some ⟨w.heap.size, 1, none⟩) := hp 26 (by kernel_rfl)
      clear hf hp
      refine stepAt_plain rfl ?_
      have hq0 := run_loadI ((R1.out.kept hk).cell 1)
      exact stepOK_sem (.int .i64 N) (by simp only [execOp, evS, h26]) hq0 rfl
    refine ⟨fun t w1 hf hk hp => ?_, ?_⟩
    · have h1 : slot t 1 = .pointer (some ⟨w.heap.size, 0, none⟩) := hf 1 (by kernel_rfl)
      clear hf hp
      refine stepAt_plain rfl ?_
      exact stepOK_pure (.pointer (some ⟨w.heap.size, 0, none⟩)) (execFieldO w.heap.size 0 (by omega) w1 rfl h1) rfl
    refine ⟨fun t w1 hf hk hp => ?_, ?_⟩
    · have h28 : slot t 28 = .pointer (some ⟨w.heap.size, 0, none⟩) := hp 28 (by kernel_rfl)
      clear hf hp
      refine stepAt_plain rfl ?_
      have hq0 := run_loadI ((R1.out.kept hk).cell 0)
      exact stepOK_sem (.int .i64 I) (by simp only [execOp, evS, h28]) hq0 rfl
    refine ⟨fun t w1 hf hk hp => ?_, ?_⟩
    · have h27 : slot t 27 = .int .i64 N := hp 27 (by kernel_rfl)
      have h29 : slot t 29 = .int .i64 I := hp 29 (by kernel_rfl)
      clear hf hp
      refine stepAt_plain rfl ?_
      refine stepOK_call #[.int .i64 N, .int .i64 I] rfl (by simp only [List.map_toArray, List.map_cons, List.map_nil, evS, h27, h29]) (by go_simp) ((HD.out w1).mono fun e w' ⟨he, hk'⟩ => ⟨_, he, hk', rfl⟩)
    refine ⟨fun t w1 hf hk hp => ?_, ?_⟩
    · have h25 : slot t 25 = .int .i64 (m : Int) := hp 25 (by kernel_rfl)
      have h30 : slot t 30 = .int .i64 D := hp 30 (by kernel_rfl)
      clear hf hp
      refine stepAt_plain rfl ?_
      have hq0 := hBE
      refine stepOK_pure (.bool (!B)) ?_ rfl
      simp only [execOp, evS, h25, h30]
      go_simp
    exact trivial
  · intro t w1 hsz hf hk hfacts
    have h31 : slot t 31 = .bool (!B) := hfacts 8 _ rfl 31 rfl
    have h1 : slot t 1 = .pointer (some ⟨w.heap.size, 0, none⟩) := hf 1 (by kernel_rfl)
    have harr : t = #[slot t 0, slot t 1, slot t 2, slot t 3, slot t 4, slot t 5, slot t 6, slot t 7, slot t 8, slot t 9, slot t 10, slot t 11, slot t 12, slot t 13, slot t 14, slot t 15, slot t 16, slot t 17, slot t 18, slot t 19, slot t 20, slot t 21, slot t 22, slot t 23, slot t 24, slot t 25, slot t 26, slot t 27, slot t 28, slot t 29, slot t 30, slot t 31] := arr_eq t 32 hsz
    rw [harr, h31, h1]
    clear harr hfacts hf h31 h1
    generalize slot t 0 = x0; generalize slot t 2 = x2; generalize slot t 3 = x3; generalize slot t 4 = x4; generalize slot t 5 = x5; generalize slot t 6 = x6; generalize slot t 7 = x7; generalize slot t 8 = x8; generalize slot t 9 = x9; generalize slot t 10 = x10; generalize slot t 11 = x11; generalize slot t 12 = x12
    generalize slot t 13 = x13; generalize slot t 14 = x14; generalize slot t 15 = x15; generalize slot t 16 = x16; generalize slot t 17 = x17; generalize slot t 18 = x18; generalize slot t 19 = x19; generalize slot t 20 = x20; generalize slot t 21 = x21; generalize slot t 22 = x22; generalize slot t 23 = x23; generalize slot t 24 = x24
    generalize slot t 25 = x25; generalize slot t 26 = x26; generalize slot t 27 = x27; generalize slot t 28 = x28; generalize slot t 29 = x29; generalize slot t 30 = x30
    clear hsz t
    have K2 := Lib.hid (K1.out.trans hk)
    clear hk hBE
    cases B with
    | true =>
      go_wp2_with fail
      go_ret
      exact ⟨rfl, K2.out⟩
    | false =>
      go_wp2_with fail
      go_ret
      exact ⟨rfl, K2.out⟩

set_option maxRecDepth 100000 in
set_option maxHeartbeats 1000000 in
theorem refMay_any (I N : Int) (p : Option Addr) (m c : Nat) (w : World) :
    Calls Tryd.prog 54 #[.agg #[.int .i64 I, .int .i64 N, .slice p m c]] w fun e w' => e = .returned (.int .i64 (mayE I N m)) ∧ Kept w w' := by
  have K1 := Lib.hid ((Kept.refl w).alloc (.cells #[.int .i64 I, .int .i64 N, .slice p m c] 27))
  have R1 := Lib.hid (Rowz.new w #[.int .i64 I, .int .i64 N, .slice p m c] 27)
  by_cases h1 : N < 1
  · rw [mayE_bad (by omega)]
    have hd1 : decide (N < 1) = true := decide_eq_true h1
    clear h1 R1
    go_enter Tryd.func54, Tryd.ntmps54
    go_wp2_with fail
    go_ret
    exact ⟨rfl, K1.out⟩
  have hd1 : decide (N < 1) = false := decide_eq_false h1
  by_cases h2 : N > 1048576
  · rw [mayE_bad (by omega)]
    have hd2 : decide (N > 1048576) = true := decide_eq_true h2
    clear h1 h2 R1
    go_enter Tryd.func54, Tryd.ntmps54
    go_wp2_with fail
    go_ret
    exact ⟨rfl, K1.out⟩
  have hd2 : decide (N > 1048576) = false := decide_eq_false h2
  by_cases h3 : I < 0
  · rw [mayE_bad (by omega)]
    have hd3 : decide (I < 0) = true := decide_eq_true h3
    clear h1 h2 h3 R1
    go_enter Tryd.func54, Tryd.ntmps54
    go_wp2_with fail
    go_ret
    exact ⟨rfl, K1.out⟩
  have hd3 : decide (I < 0) = false := decide_eq_false h3
  by_cases h4 : I ≥ N
  · rw [mayE_bad (by omega)]
    have hd4 : decide (I ≥ N) = true := decide_eq_true h4
    have hd4' : decide (N ≤ I) = true := decide_eq_true h4
    clear h1 h2 h3 h4 R1
    go_enter Tryd.func54, Tryd.ntmps54
    go_wp2_with fail
    go_ret
    exact ⟨rfl, K1.out⟩
  have hd4 : decide (I ≥ N) = false := decide_eq_false h4
  have hd4' : decide (N ≤ I) = false := decide_eq_false h4
  rw [mayE_good (by omega)]
  have HD : Hid (∀ w, _) := Lib.hid fun w => refDepth_any N I w (by omega)
  have hBE : ((m : Int) != depthI N I) = !decide ((m : Int) = depthI N I) := by
    by_cases h : (m : Int) = depthI N I
    · rw [decide_eq_true h]; simp [h]
    · rw [decide_eq_false h]; simp [h]
  have hpost : (if (m : Int) = depthI N I then (0 : Int) else 2) = bif decide ((m : Int) = depthI N I) then 0 else 2 := by
    by_cases h : (m : Int) = depthI N I
    · rw [if_pos h, decide_eq_true h]; rfl
    · rw [if_neg h, decide_eq_false h]; rfl
  rw [hpost]
  clear hpost h1 h2 h3 h4
  generalize decide ((m : Int) = depthI N I) = B at hBE ⊢
  generalize depthI N I = D at HD hBE
  go_enter Tryd.func54, Tryd.ntmps54
  go_wp2_with fail
  change Code.wp _ _ _ _ (w.alloc (.cells #[.int .i64 I, .int .i64 N, .slice p m c] 27))
  generalize w.alloc (.cells #[.int .i64 I, .int .i64 N, .slice p m c] 27) = v at K1 R1 ⊢
  refine wp_region_table [(23, .is (.pointer (some ⟨w.heap.size, 2, none⟩))), (24, .is (.slice p m c)), (25, .is (.int .i64 (m : Int))), (26, .is (.pointer (some ⟨w.heap.size, 1, none⟩))), (27, .is (.int .i64 N)), (28, .is (.pointer (some ⟨w.heap.size, 0, none⟩))), (29, .is (.int .i64 I)), (30, .is (.int .i64 D)), (31, .is (.bool (!B)))] (by kernel_rfl) (by kernel_rfl) ?_ ?_
  · refine ⟨fun t w1 hf hk hp => ?_, ?_⟩
    · have h1 : slot t 1 = .pointer (some ⟨w.heap.size, 0, none⟩) := hf 1 (by kernel_rfl)
      clear hf hp
      refine stepAt_plain rfl ?_
      exact stepOK_pure (.pointer (some ⟨w.heap.size, 2, none⟩)) (execFieldO w.heap.size 2 (by omega) w1 rfl h1) rfl
    refine ⟨fun t w1 hf hk hp => ?_, ?_⟩
    · have h23 : slot t 23 = .pointer (some ⟨w.heap.size, 2, none⟩) := hp 23 (by kernel_rfl)
      clear hf hp
      refine stepAt_plain rfl ?_
      have hq0 := run_loadHs ((R1.out.kept hk).cell 2)
      exact stepOK_sem (.slice p m c) (by simp only [execOp, evS, h23]) hq0 rfl
    refine ⟨fun t w1 hf hk hp => ?_, ?_⟩
    · have h24 : slot t 24 = .slice p m c := hp 24 (by kernel_rfl)
      clear hf hp
      refine stepAt_plain rfl ?_
      exact stepOK_pure (.int .i64 (m : Int)) (execLenHs w1 rfl h24) rfl
    refine ⟨fun t w1 hf hk hp => ?_, ?_⟩
    · have h1 : slot t 1 = .pointer (some ⟨w.heap.size, 0, none⟩) := hf 1 (by kernel_rfl)
      clear hf hp
      refine stepAt_plain rfl ?_
      exact stepOK_pure (.pointer (some ⟨w.heap.size, 1, none⟩)) (execFieldO w.heap.size 1 (by omega) w1 rfl h1) rfl
    refine ⟨fun t w1 hf hk hp => ?_, ?_⟩
    · have h26 : slot t 26 = .pointer (some ⟨w.heap.size, 1, none⟩) := hp 26 (by kernel_rfl)
      clear hf hp
      refine stepAt_plain rfl ?_
      have hq0 := run_loadI ((R1.out.kept hk).cell 1)
      exact stepOK_sem (.int .i64 N) (by simp only [execOp, evS, h26]) hq0 rfl
    refine ⟨fun t w1 hf hk hp => ?_, ?_⟩
    · have h1 : slot t 1 = .pointer (some ⟨w.heap.size, 0, none⟩) := hf 1 (by kernel_rfl)
      clear hf hp
      refine stepAt_plain rfl ?_
      exact stepOK_pure (.pointer (some ⟨w.heap.size, 0, none⟩)) (execFieldO w.heap.size 0 (by omega) w1 rfl h1) rfl
    refine ⟨fun t w1 hf hk hp => ?_, ?_⟩
    · have h28 : slot t 28 = .pointer (some ⟨w.heap.size, 0, none⟩) := hp 28 (by kernel_rfl)
      clear hf hp
      refine stepAt_plain rfl ?_
      have hq0 := run_loadI ((R1.out.kept hk).cell 0)
      exact stepOK_sem (.int .i64 I) (by simp only [execOp, evS, h28]) hq0 rfl
    refine ⟨fun t w1 hf hk hp => ?_, ?_⟩
    · have h27 : slot t 27 = .int .i64 N := hp 27 (by kernel_rfl)
      have h29 : slot t 29 = .int .i64 I := hp 29 (by kernel_rfl)
      clear hf hp
      refine stepAt_plain rfl ?_
      refine stepOK_call #[.int .i64 N, .int .i64 I] rfl (by simp only [List.map_toArray, List.map_cons, List.map_nil, evS, h27, h29]) (by go_simp) ((HD.out w1).mono fun e w' ⟨he, hk'⟩ => ⟨_, he, hk', rfl⟩)
    refine ⟨fun t w1 hf hk hp => ?_, ?_⟩
    · have h25 : slot t 25 = .int .i64 (m : Int) := hp 25 (by kernel_rfl)
      have h30 : slot t 30 = .int .i64 D := hp 30 (by kernel_rfl)
      clear hf hp
      refine stepAt_plain rfl ?_
      have hq0 := hBE
      refine stepOK_pure (.bool (!B)) ?_ rfl
      simp only [execOp, evS, h25, h30]
      go_simp
    exact trivial
  · intro t w1 hsz hf hk hfacts
    have h31 : slot t 31 = .bool (!B) := hfacts 8 _ rfl 31 rfl
    have h1 : slot t 1 = .pointer (some ⟨w.heap.size, 0, none⟩) := hf 1 (by kernel_rfl)
    have harr : t = #[slot t 0, slot t 1, slot t 2, slot t 3, slot t 4, slot t 5, slot t 6, slot t 7, slot t 8, slot t 9, slot t 10, slot t 11, slot t 12, slot t 13, slot t 14, slot t 15, slot t 16, slot t 17, slot t 18, slot t 19, slot t 20, slot t 21, slot t 22, slot t 23, slot t 24, slot t 25, slot t 26, slot t 27, slot t 28, slot t 29, slot t 30, slot t 31] := arr_eq t 32 hsz
    rw [harr, h31, h1]
    clear harr hfacts hf h31 h1
    generalize slot t 0 = x0; generalize slot t 2 = x2; generalize slot t 3 = x3; generalize slot t 4 = x4; generalize slot t 5 = x5; generalize slot t 6 = x6; generalize slot t 7 = x7; generalize slot t 8 = x8; generalize slot t 9 = x9; generalize slot t 10 = x10; generalize slot t 11 = x11; generalize slot t 12 = x12
    generalize slot t 13 = x13; generalize slot t 14 = x14; generalize slot t 15 = x15; generalize slot t 16 = x16; generalize slot t 17 = x17; generalize slot t 18 = x18; generalize slot t 19 = x19; generalize slot t 20 = x20; generalize slot t 21 = x21; generalize slot t 22 = x22; generalize slot t 23 = x23; generalize slot t 24 = x24
    generalize slot t 25 = x25; generalize slot t 26 = x26; generalize slot t 27 = x27; generalize slot t 28 = x28; generalize slot t 29 = x29; generalize slot t 30 = x30
    clear hsz t
    have K2 := Lib.hid (K1.out.trans hk)
    clear hk hBE
    cases B with
    | true =>
      go_wp2_with fail
      go_ret
      exact ⟨rfl, K2.out⟩
    | false =>
      go_wp2_with fail
      go_ret
      exact ⟨rfl, K2.out⟩

set_option maxRecDepth 100000 in
set_option maxHeartbeats 1000000 in
theorem holdJoined_any (a b : List UInt8) (r : Bool) (ha : a.length = 32) (hb : b.length = 32) (w : World) (ht : Tab w) :
    Calls Tryd.prog 73 #[.agg (bC 32 a), .agg (bC 32 b), .bool r] w fun e w' => e = .returned (.agg (bC 32 (stepU a (r, b)))) ∧ Kept w w' := by
  have HN1 : Hid (∀ w, Tab w → _) := Lib.hid fun w ht => tagNodeSum_any a b ha hb w ht
  have HN2 : Hid (∀ w, Tab w → _) := Lib.hid fun w ht => tagNodeSum_any b a hb ha w ht
  have A0 : Hid (Rowz (((w.alloc (.cells (bC 32 a) 34)).alloc (.cells (bC 32 b) 34)).alloc (.cells (bC 32 []) 34)) (w.heap.size + 2) (bC 32 []) 34) := Lib.hid (by
    have h := Rowz.new ((w.alloc (.cells (bC 32 a) 34)).alloc (.cells (bC 32 b) 34)) (bC 32 []) 34
    simpa using h)
  have K0 : Hid (Kept w (((w.alloc (.cells (bC 32 a) 34)).alloc (.cells (bC 32 b) 34)).alloc (.cells (bC 32 []) 34))) := Lib.hid ((((Kept.refl w).alloc (.cells (bC 32 a) 34)).alloc (.cells (bC 32 b) 34)).alloc (.cells (bC 32 []) 34))
  have T0 := Lib.hid (ht.kept K0.out)
  clear ht
  cases r with
  | true =>
    rw [show stepU a (true, b) = shaL (nodeS b a) from rfl]
    generalize shaL (nodeS b a) = B at HN2 ⊢
    clear HN1
    go_enter Tryd.func73, Tryd.ntmps73
    go_wp2_with (first | (refine wpList_load_row rfl 34 _ rfl w.heap.size rfl 34 (bC 32 a) (0, 0) _ (by exact ((Rowz.new w _ _).alloc _).alloc _) Tryd.underlying34 rfl (info_hash _) ?_) | (refine wpList_load_row rfl 34 _ rfl (w.heap.size + 1) rfl 34 (bC 32 b) (0, 0) _ (by exact (Rowz.newEq1 w _ _ _ _ rfl).alloc _) Tryd.underlying34 rfl (info_hash _) ?_))
    change Calls _ _ _ (((w.alloc (.cells (bC 32 a) 34)).alloc (.cells (bC 32 b) 34)).alloc (.cells (bC 32 []) 34)) _
    generalize ((w.alloc (.cells (bC 32 a) 34)).alloc (.cells (bC 32 b) 34)).alloc (.cells (bC 32 []) 34) = v at A0 K0 T0 ⊢
    refine (HN2.out v T0.out).mono ?_
    rintro e v1 ⟨rfl, hk1⟩
    have E1 := Lib.hid (A0.out.kept hk1)
    have E3 := Lib.hid (K0.out.trans hk1)
    go_wp2_with (refine wpList_store_row rfl 34 _ _ rfl (w.heap.size + 2) (bC 32 B) rfl rfl 34 (bC 32 []) E1.out (info_hash _) (by simp [bC_size]) (bC_one _ _) ?_)
    refine bodyPost_ret (v := .agg (bC 32 B)) (results_cell_row Tryd.results73 _ _ (w.heap.size + 2) 34 _ (0, 0) _ rfl E1.out.row Tryd.underlying34 rfl (info_hash _)) rfl ⟨rfl, ?_⟩
    exact E3.out.setRow (by omega) _
  | false =>
    rw [show stepU a (false, b) = shaL (nodeS a b) from rfl]
    generalize shaL (nodeS a b) = B at HN1 ⊢
    clear HN2
    go_enter Tryd.func73, Tryd.ntmps73
    go_wp2_with (first | (refine wpList_load_row rfl 34 _ rfl w.heap.size rfl 34 (bC 32 a) (0, 0) _ (by exact ((Rowz.new w _ _).alloc _).alloc _) Tryd.underlying34 rfl (info_hash _) ?_) | (refine wpList_load_row rfl 34 _ rfl (w.heap.size + 1) rfl 34 (bC 32 b) (0, 0) _ (by exact (Rowz.newEq1 w _ _ _ _ rfl).alloc _) Tryd.underlying34 rfl (info_hash _) ?_))
    change Calls _ _ _ (((w.alloc (.cells (bC 32 a) 34)).alloc (.cells (bC 32 b) 34)).alloc (.cells (bC 32 []) 34)) _
    generalize ((w.alloc (.cells (bC 32 a) 34)).alloc (.cells (bC 32 b) 34)).alloc (.cells (bC 32 []) 34) = v at A0 K0 T0 ⊢
    refine (HN1.out v T0.out).mono ?_
    rintro e v1 ⟨rfl, hk1⟩
    have E1 := Lib.hid (A0.out.kept hk1)
    have E3 := Lib.hid (K0.out.trans hk1)
    go_wp2_with (refine wpList_store_row rfl 34 _ _ rfl (w.heap.size + 2) (bC 32 B) rfl rfl 34 (bC 32 []) E1.out (info_hash _) (by simp [bC_size]) (bC_one _ _) ?_)
    refine bodyPost_ret (v := .agg (bC 32 B)) (results_cell_row Tryd.results73 _ _ (w.heap.size + 2) 34 _ (0, 0) _ rfl E1.out.row Tryd.underlying34 rfl (info_hash _)) rfl ⟨rfl, ?_⟩
    exact E3.out.setRow (by omega) _
end Go.Proofs.YtcbcjiaedoeaeaaDoor
namespace Go.Proofs.YtcbcjiaedoeaeaaDoor
set_option maxRecDepth 4000
open Go.RowKit

theorem PaS.one {base g : Nat} {h : List UInt8} {w : World} (hr : Rowz w g (bC 32 h) 34) (hb : base ≤ g) : PaS base [h] (.slice (some ⟨g, 0, none⟩) 1 1) w := by
  have e : (bC 32 h).toList = (hC 1 (lh [h])).toList := by
    have := hC_snoc 0 (lh [h])
    rw [← this, show lh [h] 0 = h from rfl]
    simp [hC]
  refine ⟨by simp [hC_size], .inr ⟨g, 1, bC 32 h, rfl, hb, hr, Nat.le_refl _, by unfold maxLen; omega, by rw [bC_size], ?_⟩⟩
  rw [show ([h] : List (List UInt8)).length = 1 from rfl, ← e, List.take_of_length_le (by rw [Array.length_toList, bC_size]; omega)]
theorem BRow.setRow {w : World} {v : Value} {l : List Bool} {g : Nat} {C : Array Value} (h : BRow w v l) (hr : Rowz w g C 34) (D : Array Value) : BRow (w.setRow g D) v l := by
  obtain ⟨p, cap, hv, h⟩ := h
  refine ⟨p, cap, hv, fun hl => ?_⟩
  obtain ⟨k, cur, hp, hk, hc⟩ := h hl
  refine ⟨k, cur, hp, hk.rowOther ?_, hc⟩
  rintro rfl
  have := hk.symm.trans hr
  simp at this
/-- What an append onto a slice of hashes of the call's own, in a block from b on, leaves. -/
def Past (b : Nat) (w w' : World) : Prop := (∀ W : World, W.heap.size ≤ b → Kept W w → Kept W w') ∧ (∀ g C T, Rowz w g C T → g < b ∨ T ≠ 34 → Rowz w' g C T) ∧ w.heap.size ≤ w'.heap.size
theorem BRow.past {b : Nat} {w w' : World} {v : Value} {l : List Bool} (h : BRow w v l) (k : Past b w w') : BRow w' v l := by
  obtain ⟨p, cap, hv, h⟩ := h
  refine ⟨p, cap, hv, fun hl => ?_⟩
  obtain ⟨g, cur, hp, hr, hc⟩ := h hl
  exact ⟨g, cur, hp, k.2.1 g cur _ hr (.inr (by decide)), hc⟩
/-- 'append(l, h)' on such a slice, in a block from b on. -/
theorem wpList_append_pathB {w : World} {T : TypeId} {h0 : List UInt8} {ops : Array Oper} {rest : List Oper} {o : Oper} {a : Act} {Q : Exit → Act → World → Prop} (hgd : o.guard = none) (s x : Operand)
    (ho : o.op = .call { callee := .builtin .append, args := #[s, x], argTypes := #[25, 25] }) (b : Nat) (hbw : b ≤ w.heap.size)
    (v : Value) (L : List (List UInt8)) (g : Nat) (hs : a.eval s = v) (hown : Hid (PaS b L v w)) (hx : a.eval x = .slice (some ⟨g, 0, none⟩) 1 1) (hr : Hid (Rowz w g (bC 32 h0) T))
    (hn : L.length ≤ 1000)
    (h : ∀ v' w', Hid (PaS b (L ++ [h0]) v' w') → Hid (Past b w w') → wpList Tryd.prog ops Q rest (a.put o.dst v') w') :
    wpList Tryd.prog ops Q (o :: rest) a w := by
  obtain ⟨i, hi⟩ : ∃ i, Tryd.prog.info? 34 = some i := Option.isSome_iff_exists.1 (by kernel_rfl)
  have h32 := info_hash32
  rw [hi] at h32
  have h0' := zero_hash
  rw [hi] at h0'
  obtain ⟨z, hz⟩ : ∃ z, i.zero = some z := by cases e : i.zero with | none => simp [e] at h0' | some z => exact ⟨z, rfl⟩
  have hz' : z.cells = bC 32 [] := by simpa [hz] using h0'
  have hs32 : i.size = 32 := by simpa using congrArg (Option.map (·.1)) h32
  have hb32 : i.bytes = 32 := by simpa using congrArg (Option.map (·.2)) h32
  refine wpList_append_own w hgd s x 25 ho b 34 i z 32 32 Tryd.underlying25 hi hz hs32 hb32 (by rw [hz', bC_size]) (by decide) v L.length (hC L.length (lh L)).toList hs hown.out ⟨g, 0, none⟩ 1 1 (bC 32 h0).toList hx (by rw [Array.length_toList, bC_size]) ?_ ?_ (by unfold maxLen; omega) (by omega) hbw ?_
  · intro j y hj
    rw [Addr.add_mid, hr.out.cell, ← hj, Array.getElem?_toList]
    simp
  · intro y hy
    exact Array.all_eq_true_iff_forall_mem.1 (bC_one 32 h0) y (by simpa using hy)
  · intro v' w' ho' hg _
    have hlt := fun k hk' => (hown.out.lt k hk').1
    refine h v' w' (Lib.hid ?_) (Lib.hid ⟨fun W hW K => K.grownBy hg fun k hk' => Nat.le_trans hW (hlt k hk'), fun k C T' hR hk => ?_, ?_⟩)
    · have e1 : hC L.length (lh L) = hC L.length (lh (L ++ [h0])) := hC_congr _ _ _ fun i hi => (lh_snoc L h0 i hi).symm
      have e2 : bC 32 h0 = bC 32 (lh (L ++ [h0]) L.length) := by rw [lh_last]
      rw [e1, e2, hC_snoc] at ho'
      unfold PaS
      rw [List.length_append]
      exact ho'
    · refine (hg.block k hR.lt fun e => ?_).trans hR
      rcases hk with hk | hk
      · have := hlt k e.symm; omega
      · rcases hown.out.2 with ⟨rfl, _⟩ | ⟨g', cap, cur, rfl, _, hg', _⟩
        · cases e
        · obtain rfl : k = g' := by simpa [Value.ownBlock] using e
          have e3 := hg'.symm.trans hR
          simp at e3
          exact hk e3.2.symm
    · exact hg.size
set_option maxRecDepth 100000 in
set_option maxHeartbeats 2000000 in
theorem holdUp_any (s : ByteArray) (hs : s.size ≤ 1000000) (I N : Int) (m : Nat) (F : Nat → List UInt8) (v : Value) (w : World) (hv : HSl m F v w) (ht : Tab w) :
    Calls Tryd.prog 53 #[.string s, .agg #[.int .i64 I, .int .i64 N, v]] w fun e w' => ∃ x, e = .returned x ∧ PaS w.heap.size (upO s I N m F) x w' ∧ Kept w w' := by
  obtain ⟨p, c, rfl, hc, hcm, hF⟩ := hv
  have HM : Hid (∀ w, _) := Lib.hid fun w => holdMay_any I N p m c w
  have K1 := Lib.hid ((Kept.refl w).alloc (.cells #[.int .i64 I, .int .i64 N, .slice p m c] 27))
  have R1 := Lib.hid (Rowz.new w #[.int .i64 I, .int .i64 N, .slice p m c] 27)
  by_cases h0 : mayE I N m = 0
  · rw [upO, if_pos h0]
    rw [h0] at HM
    obtain ⟨i, n, rfl, rfl, hi, hn, hml, hm63⟩ := mayE_nat h0
    simp only [Int.toNat_natCast]
    have HL : Hid (∀ w, Tab w → _) := Lib.hid fun w ht => tagLeafSum_any s hs w ht
    have HS : Hid (∀ w, Calls Tryd.prog 72 #[.int .i64 (n : Int), .int .i64 (i : Int)] w fun e w' => ∃ zp zc, e = .returned (.slice zp m zc) ∧ BRow w' (.slice zp m zc) (sidesN n i) ∧ Kept w w') := Lib.hid fun w => by
      have h := shapeSides_any (n : Int) (i : Int) w (by omega)
      rw [sidesI_yes hi] at h
      refine h.mono ?_
      rintro e w' ⟨v, rfl, hb, hk⟩
      have hb' := hb
      obtain ⟨zp, zc, rfl, _⟩ := hb
      rw [← hml] at hb' ⊢
      exact ⟨zp, zc, rfl, hb', hk⟩
    have hU0 : Hid (shaL (leafS s) = uH s i n m F 0) := Lib.hid (uH_zero s i n m F).symm
    have hUs : Hid (∀ k, k < m → uH s i n m F (k + 1) = stepU (uH s i n m F k) ((sidesN n i).getD k false, F k)) := Lib.hid fun k hk => uH_succ s i n m F k hml hk
    have hUl : Hid (∀ k, k ≤ m → (uH s i n m F k).length = 32) := Lib.hid fun k hk => uH_length s i n m F k hml hk
    have hL0 : Hid (upsL s i n m F 0 = [uH s i n m F 0]) := Lib.hid rfl
    have hLs : Hid (∀ k, upsL s i n m F (k + 1) = upsL s i n m F k ++ [uH s i n m F (k + 1)]) := Lib.hid fun k => upsL_succ s i n m F k
    have hLl : Hid (∀ k, (upsL s i n m F k).length = k + 1) := Lib.hid fun k => upsL_length s i n m F k
    have hZ : Hid ((sidesN n i).length = m) := Lib.hid hml.symm
    clear h0 hml
    generalize upsL s i n m F = LL at hL0 hLs hLl ⊢
    generalize uH s i n m F = U at hU0 hUs hUl hL0 hLs
    generalize sidesN n i = Z at HS hUs hZ
    rw [hU0.out] at HL
    clear hU0
    have HF := Lib.hid hF
    have HT := Lib.hid ht
    clear hF ht
    go_enter Tryd.func53, Tryd.ntmps53
    go_wp2_with fail
    change Calls _ _ _ (w.alloc (.cells #[.int .i64 (i : Int), .int .i64 (n : Int), .slice p m c] 27)) _
    generalize w.alloc (.cells #[.int .i64 (i : Int), .int .i64 (n : Int), .slice p m c] 27) = w1 at K1 R1 ⊢
    refine (HM.out w1).mono ?_
    rintro e w2 ⟨rfl, k2⟩
    have R2 := Lib.hid (R1.out.kept k2)
    have K2 := Lib.hid (K1.out.trans k2)
    clear R1 K1 k2 HM
    go_wp2_with fail
    refine (HL.out w2 (HT.out.kept K2.out)).mono ?_
    rintro e w3 ⟨rfl, k3⟩
    have R3 := Lib.hid (R2.out.kept k3)
    have K3 := Lib.hid (K2.out.trans k3)
    clear R2 K2 k3 HL
    go_wp2_with (first
      | (refine wpList_store_made rfl 34 _ _ rfl _ _ (bC 32 (U 0)) rfl rfl 34 _ rfl (info_hash _) (by simp [bC_size]) (bC_one _ _) ?_; intro w4 R4 k4)
      | (refine park_at 14 rfl ?_))
    obtain ⟨g5, hg5⟩ : ∃ g, g = w3.heap.size := ⟨_, rfl⟩
    have HG : Hid (w.heap.size < g5) := Lib.hid (by rw [hg5]; exact R3.out.lt)
    rw [← hg5] at R4 ⊢
    clear hg5
    have RO := Lib.hid (R3.out.kept k4.out)
    have K4 := Lib.hid (K3.out.trans k4.out)
    clear R3 K3 k4
    refine unpark ?_
    refine wpList_exec 14 rfl (by rfl) (.agg (bC 32 (U 0))) _ (loadHr rfl rfl R4.out) ?_
    refine wpList_exec 15 rfl (by rfl) (.slice (some ⟨w4.heap.size, 0, none⟩) 1 1) (w4.alloc (.cells (bC 32 (U 0)) 34)) (execBuild1 rfl rfl (run_build1h _ _)) ?_
    have O5 := Lib.hid (PaS.one (Rowz.new w4 (bC 32 (U 0)) 34) (Nat.le_refl _))
    rw [← hL0.out] at O5
    have HB : Hid (g5 < w4.heap.size) := Lib.hid R4.out.lt
    have HB2 : Hid (w4.heap.size ≤ (w4.alloc (.cells (bC 32 (U 0)) 34)).heap.size) := Lib.hid (by simp)
    replace R4 := Lib.hid (R4.out.alloc (.cells (bC 32 (U 0)) 34))
    replace RO := Lib.hid (RO.out.alloc (.cells (bC 32 (U 0)) 34))
    replace K4 := Lib.hid (K4.out.alloc (.cells (bC 32 (U 0)) 34))
    generalize w4.alloc (.cells (bC 32 (U 0)) 34) = w5 at O5 HB2 R4 RO K4 ⊢
    generalize w4.heap.size = b at O5 HB HB2 ⊢
    have c0 := RO.out.cell 0
    have c1 := RO.out.cell 1
    go_wp2_with fail
    clear c0 c1
    refine (HS.out _).mono ?_
    rintro e w6 ⟨zp, zc, rfl, hb6, k6⟩
    have B6 := Lib.hid hb6
    have O6 := Lib.hid (PaS.kept _ _ _ _ _ k6 O5.out)
    have R6 := Lib.hid (R4.out.kept k6)
    have RO6 := Lib.hid (RO.out.kept k6)
    have K6 := Lib.hid (K4.out.trans k6)
    have HB6 : Hid (b ≤ w6.heap.size) := Lib.hid (Nat.le_trans HB2.out k6.size)
    clear hb6 k6 O5 R4 RO K4 HS HB2
    go_wp2_with fail
    go_loopw [6, 22] (fun x j wr => ∃ k : Nat, k ≤ m ∧ j = .int .i64 (k : Int) ∧ Hid (PaS b (LL k) x wr) ∧ Hid (Rowz wr g5 (bC 32 (U k)) 34) ∧ Hid (BRow wr (.slice zp m zc) Z) ∧ Hid (Rowz wr w.heap.size #[.int .i64 (i : Int), .int .i64 (n : Int), .slice p m c] 27) ∧ Hid (b ≤ wr.heap.size) ∧ Hid (Kept w wr)) (fun _ j _ => m - (intOf j).toNat)
    case atStart => exact ⟨0, by omega, rfl, O6, R6, B6, RO6, HB6, K6⟩
    case round =>
      clear O6 R6 B6 RO6 HB6 K6
      rename_i x _
      obtain ⟨k, hk, rfl, OX, RU, BX, RO, HBX, HK⟩ := hrel
      by_cases hlt : k < m
      · have hd1 : decide ((k : Int) < (m : Int)) = true := decide_eq_true (by omega)
        have hd1' : decide (k < m) = true := decide_eq_true hlt
        obtain ⟨q, rfl, _⟩ := HF.out.some (by omega)
        have hkF := HF.out.length k hlt
        have hUk := hUl.out k (by omega)
        have HZk : Hid (0 < Z.length) := Lib.hid (by rw [hZ.out]; omega)
        have BX' := BX.out
        obtain ⟨zp', zc', hzz, hzr⟩ := BX'
        obtain ⟨gz, cz, hzp, rz, ez⟩ := hzr HZk.out
        have hzp2 : zp = some ⟨gz, 0, none⟩ := by
          injection hzz with h1 h2 h3
          rw [h1, hzp]
        have cB : wr.cell? ⟨gz, k, none⟩ = some (.bool (Z.getD k false)) := by rw [rz.cell, ez k (by rw [hZ.out]; exact hlt)]
        clear hzr hzp hzz rz ez
        subst hzp2
        have hU1 := hUs.out k hlt
        generalize Z.getD k false = r at cB hU1
        have HJ : Hid (∀ w, Tab w → Calls Tryd.prog 73 #[.agg (bC 32 (U k)), .agg (bC 32 (F k)), .bool r] w fun e w' => e = .returned (.agg (bC 32 (U (k + 1)))) ∧ Kept w w') := Lib.hid fun w ht => by
          rw [hU1]; exact holdJoined_any (U k) (F k) r hUk hkF w ht
        clear hU1
        go_wp2_with fail
        refine wp_region_tail 8 [(27, .is (.agg (bC 32 (U k)))), (28, .is (.pointer (some ⟨w.heap.size, 2, none⟩))), (29, .is (.slice (some q) m c)), (30, .is (.int .i64 (k : Int))), (31, .is (.pointer (some (q.add (k * 32))))), (32, .is (.agg (bC 32 (F k)))), (33, .is (.bool r)), (34, .is (.agg (bC 32 (U (k + 1)))))] (by kernel_rfl) (by kernel_rfl) ?_ ?_
        · refine ⟨fun t w1 hf hk hp => ?_, ?_⟩
          · have h5 : slot t 5 = .pointer (some ⟨g5, 0, none⟩) := hf 5 (by kernel_rfl)
            clear hf hp
            refine stepM_at (by kernel_rfl) ?_
            refine stepAt_plain rfl ?_
            exact stepOK_pure (.agg (bC 32 (U k))) (loadHr rfl h5 (RU.out.kept hk)) rfl
          refine ⟨fun t w1 hf hk hp => ?_, ?_⟩
          · have h3 : slot t 3 = .pointer (some ⟨w.heap.size, 0, none⟩) := hf 3 (by kernel_rfl)
            clear hf hp
            refine stepM_at (by kernel_rfl) ?_
            refine stepAt_plain rfl ?_
            exact stepOK_pure (.pointer (some ⟨w.heap.size, 2, none⟩)) (execFieldO w.heap.size 2 (by omega) w1 rfl h3) rfl
          refine ⟨fun t w1 hf hk hp => ?_, ?_⟩
          · have h28 : slot t 28 = .pointer (some ⟨w.heap.size, 2, none⟩) := hp 28 (by kernel_rfl)
            clear hf hp
            refine stepM_at (by kernel_rfl) ?_
            refine stepAt_plain rfl ?_
            have hq0 := run_loadHs ((RO.out.kept hk).cell 2)
            exact stepOK_sem (.slice (some q) m c) (by simp only [execOp, evS, h28]) hq0 rfl
          refine ⟨fun t w1 hf hk hp => ?_, ?_⟩
          · have h7 : slot t 7 = .int .i64 (k : Int) := hf 7 (by kernel_rfl)
            clear hf hp
            refine stepM_at (by kernel_rfl) ?_
            refine stepAt_plain rfl ?_
            exact stepOK_move _ (.inl rfl) h7
          refine ⟨fun t w1 hf hk hp => ?_, ?_⟩
          · have h29 : slot t 29 = .slice (some q) m c := hp 29 (by kernel_rfl)
            have h30 : slot t 30 = .int .i64 (k : Int) := hp 30 (by kernel_rfl)
            clear hf hp
            refine stepM_at (by kernel_rfl) ?_
            refine stepAt_plain rfl ?_
            exact stepOK_pure (.pointer (some (q.add (k * 32)))) (execIndexH q m c k hlt w1 rfl h29 h30) rfl
          refine ⟨fun t w1 hf hk hp => ?_, ?_⟩
          · have h31 : slot t 31 = .pointer (some (q.add (k * 32))) := hp 31 (by kernel_rfl)
            clear hf hp
            refine stepM_at (by kernel_rfl) ?_
            refine stepAt_plain rfl ?_
            have hq0 := (HF.out.kept (HK.out.trans hk)).load k hlt
            exact stepOK_sem (.agg (bC 32 (F k))) (by simp only [execOp, evS, h31]) hq0 rfl
          refine ⟨fun t w1 hf hk hp => ?_, ?_⟩
          · have h8 : slot t 8 = .bool r := hf 8 (by kernel_rfl)
            clear hf hp
            refine stepM_at (by kernel_rfl) ?_
            refine stepAt_plain rfl ?_
            exact stepOK_move _ (.inl rfl) h8
          refine ⟨fun t w1 hf hk hp => ?_, ?_⟩
          · have h27 : slot t 27 = .agg (bC 32 (U k)) := hp 27 (by kernel_rfl)
            have h32 : slot t 32 = .agg (bC 32 (F k)) := hp 32 (by kernel_rfl)
            have h33 : slot t 33 = .bool r := hp 33 (by kernel_rfl)
            clear hf hp
            refine stepM_at (by kernel_rfl) ?_
            refine stepAt_plain rfl ?_
            refine stepOK_call #[.agg (bC 32 (U k)), .agg (bC 32 (F k)), .bool r] rfl (by simp only [List.map_toArray, List.map_cons, List.map_nil, evS, h27, h32, h33]) (by go_simp) ((HJ.out w1 (HT.out.kept (HK.out.trans hk))).mono fun e w' ⟨he, hk'⟩ => ⟨_, he, hk', rfl⟩)
          exact trivial
        · intro t w1 hsz hf hk hfacts
          have h34 : slot t 34 = .agg (bC 32 (U (k + 1))) := hfacts 7 _ (by decide) rfl 34 rfl
          have h3 : slot t 3 = .pointer (some ⟨w.heap.size, 0, none⟩) := hf 3 (by kernel_rfl)
          have h5 : slot t 5 = .pointer (some ⟨g5, 0, none⟩) := hf 5 (by kernel_rfl)
          have h7 : slot t 7 = .int .i64 (k : Int) := hf 7 (by kernel_rfl)
          have h8 : slot t 8 = .bool r := hf 8 (by kernel_rfl)
          have h0 := hf 0 (by kernel_rfl)
          conv at h0 => rhs; whnf
          try change slot t 0 = undef at h0
          have h1 := hf 1 (by kernel_rfl)
          conv at h1 => rhs; whnf
          try change slot t 1 = undef at h1
          have h2 := hf 2 (by kernel_rfl)
          conv at h2 => rhs; whnf
          try change slot t 2 = undef at h2
          have h4 := hf 4 (by kernel_rfl)
          conv at h4 => rhs; whnf
          try change slot t 4 = undef at h4
          have h6 := hf 6 (by kernel_rfl)
          conv at h6 => rhs; whnf
          try change slot t 6 = undef at h6
          have h9 := hf 9 (by kernel_rfl)
          conv at h9 => rhs; whnf
          try change slot t 9 = undef at h9
          have h10 := hf 10 (by kernel_rfl)
          conv at h10 => rhs; whnf
          try change slot t 10 = undef at h10
          have h11 := hf 11 (by kernel_rfl)
          conv at h11 => rhs; whnf
          try change slot t 11 = undef at h11
          have h12 := hf 12 (by kernel_rfl)
          conv at h12 => rhs; whnf
          try change slot t 12 = undef at h12
          have h13 := hf 13 (by kernel_rfl)
          conv at h13 => rhs; whnf
          try change slot t 13 = undef at h13
          have h14 := hf 14 (by kernel_rfl)
          conv at h14 => rhs; whnf
          try change slot t 14 = undef at h14
          have h15 := hf 15 (by kernel_rfl)
          conv at h15 => rhs; whnf
          try change slot t 15 = undef at h15
          have h16 := hf 16 (by kernel_rfl)
          conv at h16 => rhs; whnf
          try change slot t 16 = undef at h16
          have h17 := hf 17 (by kernel_rfl)
          conv at h17 => rhs; whnf
          try change slot t 17 = undef at h17
          have h18 := hf 18 (by kernel_rfl)
          conv at h18 => rhs; whnf
          try change slot t 18 = undef at h18
          have h19 := hf 19 (by kernel_rfl)
          conv at h19 => rhs; whnf
          try change slot t 19 = undef at h19
          have h20 := hf 20 (by kernel_rfl)
          conv at h20 => rhs; whnf
          try change slot t 20 = undef at h20
          have h21 := hf 21 (by kernel_rfl)
          conv at h21 => rhs; whnf
          try change slot t 21 = undef at h21
          have h22 := hf 22 (by kernel_rfl)
          conv at h22 => rhs; whnf
          try change slot t 22 = undef at h22
          have h23 := hf 23 (by kernel_rfl)
          conv at h23 => rhs; whnf
          try change slot t 23 = undef at h23
          have h24 := hf 24 (by kernel_rfl)
          conv at h24 => rhs; whnf
          try change slot t 24 = undef at h24
          have h25 := hf 25 (by kernel_rfl)
          conv at h25 => rhs; whnf
          try change slot t 25 = undef at h25
          have h26 := hf 26 (by kernel_rfl)
          conv at h26 => rhs; whnf
          try change slot t 26 = undef at h26
          have h35 := hf 35 (by kernel_rfl)
          conv at h35 => rhs; whnf
          try change slot t 35 = undef at h35
          have h36 := hf 36 (by kernel_rfl)
          conv at h36 => rhs; whnf
          try change slot t 36 = undef at h36
          have h37 := hf 37 (by kernel_rfl)
          conv at h37 => rhs; whnf
          try change slot t 37 = undef at h37
          have h38 := hf 38 (by kernel_rfl)
          conv at h38 => rhs; whnf
          try change slot t 38 = undef at h38
          have h39 := hf 39 (by kernel_rfl)
          conv at h39 => rhs; whnf
          try change slot t 39 = undef at h39
          have h40 := hf 40 (by kernel_rfl)
          conv at h40 => rhs; whnf
          try change slot t 40 = undef at h40
          have harr : t = #[slot t 0, slot t 1, slot t 2, slot t 3, slot t 4, slot t 5, slot t 6, slot t 7, slot t 8, slot t 9, slot t 10, slot t 11, slot t 12, slot t 13, slot t 14, slot t 15, slot t 16, slot t 17, slot t 18, slot t 19, slot t 20, slot t 21, slot t 22, slot t 23, slot t 24, slot t 25, slot t 26, slot t 27, slot t 28, slot t 29, slot t 30, slot t 31, slot t 32, slot t 33, slot t 34, slot t 35, slot t 36, slot t 37, slot t 38, slot t 39, slot t 40] := arr_eq t 41 hsz
          rw [harr, h34, h3, h5, h7, h8, h0, h1, h2, h4, h6, h9, h10, h11, h12, h13, h14, h15, h16, h17, h18, h19, h20, h21, h22, h23, h24, h25, h26, h35, h36, h37, h38, h39, h40]
          clear harr hfacts hf h34 h3 h5 h7 h8 h0 h1 h2 h4 h6 h9 h10 h11 h12 h13 h14 h15 h16 h17 h18 h19 h20 h21 h22 h23 h24 h25 h26 h35 h36 h37 h38 h39 h40
          generalize slot t 27 = x27; generalize slot t 28 = x28; generalize slot t 29 = x29; generalize slot t 30 = x30; generalize slot t 31 = x31; generalize slot t 32 = x32; generalize slot t 33 = x33
          clear hsz t
          simp only [List.drop_succ_cons, List.drop_zero]
          have RU1 := Lib.hid (RU.out.kept hk)
          have OX1 := Lib.hid (PaS.setRow (PaS.kept _ _ _ _ _ hk OX.out) HB.out (bC 32 (U (k + 1))))
          have BX1 := Lib.hid ((BX.out.kept hk).setRow RU1.out (bC 32 (U (k + 1))))
          have RO1 := Lib.hid ((RO.out.kept hk).rowOther (D := bC 32 (U (k + 1))) (k := g5) (by have := HG.out; omega))
          have HK1 := Lib.hid ((HK.out.trans hk).setRow (g := g5) (Nat.le_of_lt HG.out) (bC 32 (U (k + 1))))
          have HB1 : Hid (b ≤ w1.heap.size) := Lib.hid (Nat.le_trans HBX.out hk.size)
          have RU2 := Lib.hid (RU1.out.row (D := bC 32 (U (k + 1))))
          clear hk RU OX BX RO HK HBX cB HJ
          go_wp2_with (first
            | (refine wpList_store_row rfl 34 _ _ rfl g5 (bC 32 (U (k + 1))) rfl rfl 34 (bC 32 (U k)) RU1.out (info_hash _) (by simp [bC_size]) (bC_one _ _) ?_)
            | (refine park_at 36 rfl ?_))
          have HB2 : Hid (b ≤ (w1.setRow g5 (bC 32 (U (k + 1)))).heap.size) := Lib.hid (by simpa using HB1.out)
          generalize w1.setRow g5 (bC 32 (U (k + 1))) = w2 at OX1 BX1 RO1 HK1 HB2 RU2 ⊢
          refine unpark ?_
          refine wpList_exec 36 rfl (by rfl) (.agg (bC 32 (U (k + 1)))) _ (loadHr rfl rfl RU2.out) ?_
          refine wpList_exec 37 rfl (by rfl) (.slice (some ⟨w2.heap.size, 0, none⟩) 1 1) (w2.alloc (.cells (bC 32 (U (k + 1))) 34)) (execBuild1 rfl rfl (run_build1h _ _)) ?_
          have RN := Lib.hid (Rowz.new w2 (bC 32 (U (k + 1))) 34)
          replace OX1 := Lib.hid (PaS.kept _ _ _ _ _ ((Kept.refl w2).alloc (.cells (bC 32 (U (k + 1))) 34)) OX1.out)
          replace BX1 := Lib.hid (BX1.out.kept ((Kept.refl w2).alloc (.cells (bC 32 (U (k + 1))) 34)))
          replace RO1 := Lib.hid (RO1.out.alloc (.cells (bC 32 (U (k + 1))) 34))
          replace RU2 := Lib.hid (RU2.out.alloc (.cells (bC 32 (U (k + 1))) 34))
          replace HK1 := Lib.hid (HK1.out.alloc (.cells (bC 32 (U (k + 1))) 34))
          have hB3 : b ≤ (w2.alloc (.cells (bC 32 (U (k + 1))) 34)).heap.size := by have := HB2.out; simp; omega
          have hLk : (LL k).length ≤ 1000 := by rw [hLl.out]; omega
          generalize w2.alloc (.cells (bC 32 (U (k + 1))) 34) = w3 at OX1 BX1 RO1 HK1 RU2 RN hB3 ⊢
          go_wp2_with (at_builtin; refine wpList_append_pathB rfl _ _ rfl b hB3 _ (LL k) _ rfl OX1 rfl RN hLk ?_; rw [← hLs.out]; intro v' w' O4 Q4)
          have R9 := Lib.hid (Q4.out.2.1 _ _ _ RU2.out (.inl HB.out))
          have B9 := Lib.hid (BX1.out.past Q4.out)
          have RO9 := Lib.hid (Q4.out.2.1 _ _ _ RO1.out (.inl (by have := HG.out; have := HB.out; omega)))
          have K9 := Lib.hid (Q4.out.1 w (by have := HG.out; have := HB.out; omega) HK1.out)
          go_roundw
          case rel => exact ⟨k + 1, by omega, by first | rfl | go_num, O4, R9, B9, RO9, Lib.hid (Nat.le_trans hB3 Q4.out.2.2), K9⟩
          case measure => simp [intOf]; omega
      · have hd1 : decide ((k : Int) < (m : Int)) = false := decide_eq_false (by omega)
        have hd1' : decide (k < m) = false := decide_eq_false hlt
        obtain rfl : k = m := by omega
        go_wp2_with fail
        go_ret
        exact ⟨_, rfl, OX.out.base (by have := HG.out; have := HB.out; omega), HK.out⟩
  · rw [upO, if_neg h0]
    generalize mayE I N m = E at HM h0
    have hd0 : (E != 0) = true := by simpa using h0
    have HE := Lib.hid h0
    clear h0 hF ht R1
    go_enter Tryd.func53, Tryd.ntmps53
    go_wp2_with fail
    change Calls _ _ _ (w.alloc (.cells #[.int .i64 I, .int .i64 N, .slice p m c] 27)) _
    generalize w.alloc (.cells #[.int .i64 I, .int .i64 N, .slice p m c] 27) = w1 at K1 ⊢
    refine (HM.out w1).mono ?_
    rintro e w2 ⟨rfl, k2⟩
    have K2 := Lib.hid (K1.out.trans k2)
    clear K1 k2 HM
    go_wp2_with fail
    go_ret
    exact ⟨_, rfl, PaS.nil _ _, K2.out⟩
end Go.Proofs.YtcbcjiaedoeaeaaDoor
namespace Go.Proofs.YtcbcjiaedoeaeaaDoor
set_option maxRecDepth 4000
open Go.RowKit

theorem run_cutH_init (q : Addr) (n c m : Nat) (w : World) (hm : m ≤ c) :
    (Instr.sliceAt 25 (.slice (some q) n c) none (some (.int .i64 (m : Int))) none).run Tryd.prog w = .ok (.slice (some q) m c) w := run_cutH_left q n c m w hm
theorem fl_init {m : Nat} (F : Nat → List UInt8) (h : 0 < m) : fl m F = fl (m - 1) F ++ [F (m - 1)] := by
  obtain ⟨k, rfl⟩ : ∃ k, m = k + 1 := ⟨m - 1, by omega⟩
  exact fl_snoc k F
def UpOkR (f : FuncId) (n : Nat) : Prop := ∀ (p : Option Addr) (m c : Nat) (F : Nat → List UInt8) (i : Nat) (h : List UInt8) (w : World), m ≤ c → c ≤ maxLen → i < n → n ≤ 1048576 → m = (sidesN n i).length → h.length = 32 → HAt w p m F →
    Calls Tryd.prog f #[.int .i64 (n : Int), .int .i64 (i : Int), .agg (bC 32 h), .slice p m c] w fun e w' => e = .returned (.agg (bC 32 (upL n i h (fl m F)))) ∧ Kept w w'
set_option maxRecDepth 100000 in
set_option maxHeartbeats 2000000 in
theorem refUp_any (n : Nat) : UpOkR 55 n := by
  induction n using Nat.strongRecOn with
  | _ n ih =>
    intro p m c F i h w hc hm hi hn hml hh hF
    have A0 : Hid (Rowz ((w.alloc (.cells (bC 32 h) 34)).alloc (.cells (bC 32 []) 34)) w.heap.size (bC 32 h) 34) := Lib.hid ((Rowz.new w _ _).alloc _)
    have A1 : Hid (Rowz ((w.alloc (.cells (bC 32 h) 34)).alloc (.cells (bC 32 []) 34)) (w.heap.size + 1) (bC 32 []) 34) := Lib.hid (Rowz.newEq1 w _ _ _ _ rfl)
    have K0 : Hid (Kept w ((w.alloc (.cells (bC 32 h) 34)).alloc (.cells (bC 32 []) 34))) := Lib.hid (((Kept.refl w).alloc _).alloc _)
    by_cases h1 : n < 2
    · obtain rfl : n = 1 := by omega
      rw [upL_one i (by omega)]
      clear ih hF hml
      go_enter Tryd.func55, Tryd.ntmps55
      go_wp2_with (first
        | (refine wpList_load_row rfl 34 _ rfl w.heap.size rfl 34 (bC 32 h) (0, 0) _ (by exact A0.out) Tryd.underlying34 rfl (info_hash _) ?_)
        | (refine wpList_store_row rfl 34 _ _ rfl (w.heap.size + 1) (bC 32 h) rfl rfl 34 (bC 32 []) A1.out (info_hash _) (by simp [bC_size]) (bC_one _ _) ?_))
      refine bodyPost_ret (v := .agg (bC 32 h)) (results_cell_row Tryd.results55 _ _ (w.heap.size + 1) 34 _ (0, 0) _ rfl A1.out.row Tryd.underlying34 rfl (info_hash _)) rfl ⟨rfl, ?_⟩
      exact K0.out.setRow (by omega) _
    · have h2 : 2 ≤ n := by omega
      have hL := leftN_lt h2
      have hP := leftN_pos h2
      have hd0 : ((n : Int) == 1) = false := by rw [beq_eq_false_iff_ne]; omega
      have hd0' : ¬ (n : Int) = 1 := by omega
      have hSL : Hid (∀ w, Calls Tryd.prog 43 #[.int .i64 (n : Int)] w fun e w' => e = .returned (.int .i64 (leftN n : Int)) ∧ w = w') := Lib.hid fun w => refLeft_any (n : Int) w (by omega)
      by_cases hl : i < leftN n
      · have hs : (sidesN n i).length = (sidesN (leftN n) i).length + 1 := by rw [sidesN_left h2 hl, List.length_append]; rfl
        obtain ⟨k, rfl⟩ : ∃ k, m = k + 1 := ⟨m - 1, by omega⟩
        obtain ⟨q, rfl, _⟩ := hF.some (by omega)
        have HC : Hid (∀ w, HAt w (some q) (k + 1) F → _) := Lib.hid fun w hF => ih (leftN n) hL (some q) k c F i h w (by omega) hm hl (by omega) (by omega) hh (hF.left k (by omega))
        have hkF := hF.length k (by omega)
        have e1 : fl (k + 1) F = fl k F ++ [F k] := fl_snoc k F
        rw [e1, upL_left h2 hl h _ _ (by rw [fl_length]; omega)]
        have hu := upL_length (leftN n) i h (fl k F) hh
        have HN : Hid (∀ w, _) := Lib.hid fun w => refNodeSum_any (upL (leftN n) i h (fl k F)) (F k) hu hkF w
        have hd1 : decide ((i : Int) < (leftN n : Int)) = true := decide_eq_true (by omega)
        have hd1' : decide (i < leftN n) = true := decide_eq_true hl
        have hk63 : k < 9223372036854775807 := by unfold maxLen at hm; omega
        have hsub : IntKind.i64.wrap (((k + 1 : Nat) : Int) - 1) = (k : Int) := by simp only [IntKind.wrap, IntKind.signed, IntKind.bits]; simp; omega
        clear ih hu e1 hs hml
        generalize upL (leftN n) i h (fl k F) = B at HC HN ⊢
        generalize leftN n = l at hL hP hSL hl HC hd1 hd1'
        have HF := Lib.hid hF
        clear hF
        go_enter Tryd.func55, Tryd.ntmps55
        go_wp2_with fail
        change Calls _ _ _ ((w.alloc (.cells (bC 32 h) 34)).alloc (.cells (bC 32 []) 34)) _
        generalize (w.alloc (.cells (bC 32 h) 34)).alloc (.cells (bC 32 []) 34) = v at A0 A1 K0 ⊢
        refine (hSL.out _).mono ?_
        rintro e v1 ⟨rfl, rfl⟩
        go_wp2_with fail
        refine wp_region_tail 12 [(22, .is (.int .i64 (l : Int))), (23, .is (.int .i64 (i : Int))), (24, .is (.agg (bC 32 h))), (25, .is (.slice (some q) (k + 1) c)), (26, .is (.int .i64 (k : Int))), (27, .is (.slice (some q) k c)), (28, .is (.agg (bC 32 B))), (29, .is (.slice (some q) (k + 1) c)), (30, .is (.int .i64 (k : Int))), (31, .is (.pointer (some (q.add (k * 32))))), (32, .is (.agg (bC 32 (F k)))), (33, .is (.agg (bC 32 (shaL (nodeS B (F k))))))] (by kernel_rfl) (by kernel_rfl) ?_ ?_
        · refine ⟨fun t w1 hf hk hp => ?_, ?_⟩
          · have h9 : slot t 9 = .int .i64 (l : Int) := hf 9 (by kernel_rfl)
            clear hf hp
            refine stepM_at (by kernel_rfl) ?_
            refine stepAt_plain rfl ?_
            exact stepOK_move _ (.inl rfl) h9
          refine ⟨fun t w1 hf hk hp => ?_, ?_⟩
          · have h1 : slot t 1 = .int .i64 (i : Int) := hf 1 (by kernel_rfl)
            clear hf hp
            refine stepM_at (by kernel_rfl) ?_
            refine stepAt_plain rfl ?_
            exact stepOK_move _ (.inl rfl) h1
          refine ⟨fun t w1 hf hk hp => ?_, ?_⟩
          · have h6 : slot t 6 = .pointer (some ⟨w.heap.size, 0, none⟩) := hf 6 (by kernel_rfl)
            clear hf hp
            refine stepM_at (by kernel_rfl) ?_
            refine stepAt_plain rfl ?_
            exact stepOK_pure (.agg (bC 32 h)) (loadHr rfl h6 (A0.out.kept hk)) rfl
          refine ⟨fun t w1 hf hk hp => ?_, ?_⟩
          · have h3 : slot t 3 = .slice (some q) (k + 1) c := hf 3 (by kernel_rfl)
            clear hf hp
            refine stepM_at (by kernel_rfl) ?_
            refine stepAt_plain rfl ?_
            exact stepOK_move _ (.inl rfl) h3
          refine ⟨fun t w1 hf hk hp => ?_, ?_⟩
          · have h10 : slot t 10 = .int .i64 (k : Int) := hf 10 (by kernel_rfl)
            clear hf hp
            refine stepM_at (by kernel_rfl) ?_
            refine stepAt_plain rfl ?_
            exact stepOK_move _ (.inl rfl) h10
          refine ⟨fun t w1 hf hk hp => ?_, ?_⟩
          · have h25 : slot t 25 = .slice (some q) (k + 1) c := hp 25 (by kernel_rfl)
            have h26 : slot t 26 = .int .i64 (k : Int) := hp 26 (by kernel_rfl)
            clear hf hp
            refine stepM_at (by kernel_rfl) ?_
            refine stepAt_plain rfl ?_
            have hq0 := run_cutH_init q (k + 1) c k w1 (by omega)
            exact stepOK_sem (.slice (some q) k c) (by simp only [execOp, evS, Option.map_some, Option.map_none, h25, h26]) hq0 rfl
          refine ⟨fun t w1 hf hk hp => ?_, ?_⟩
          · have h22 : slot t 22 = .int .i64 (l : Int) := hp 22 (by kernel_rfl)
            have h23 : slot t 23 = .int .i64 (i : Int) := hp 23 (by kernel_rfl)
            have h24 : slot t 24 = .agg (bC 32 h) := hp 24 (by kernel_rfl)
            have h27 : slot t 27 = .slice (some q) k c := hp 27 (by kernel_rfl)
            clear hf hp
            refine stepM_at (by kernel_rfl) ?_
            refine stepAt_plain rfl ?_
            refine stepOK_call #[.int .i64 (l : Int), .int .i64 (i : Int), .agg (bC 32 h), .slice (some q) k c] rfl (by simp only [List.map_toArray, List.map_cons, List.map_nil, evS, h22, h23, h24, h27]) (by go_simp) ((HC.out w1 (HF.out.kept (K0.out.trans hk))).mono fun e w' ⟨he, hk'⟩ => ⟨_, he, hk', rfl⟩)
          refine ⟨fun t w1 hf hk hp => ?_, ?_⟩
          · have h3 : slot t 3 = .slice (some q) (k + 1) c := hf 3 (by kernel_rfl)
            clear hf hp
            refine stepM_at (by kernel_rfl) ?_
            refine stepAt_plain rfl ?_
            exact stepOK_move _ (.inl rfl) h3
          refine ⟨fun t w1 hf hk hp => ?_, ?_⟩
          · have h10 : slot t 10 = .int .i64 (k : Int) := hf 10 (by kernel_rfl)
            clear hf hp
            refine stepM_at (by kernel_rfl) ?_
            refine stepAt_plain rfl ?_
            exact stepOK_move _ (.inl rfl) h10
          refine ⟨fun t w1 hf hk hp => ?_, ?_⟩
          · have h29 : slot t 29 = .slice (some q) (k + 1) c := hp 29 (by kernel_rfl)
            have h30 : slot t 30 = .int .i64 (k : Int) := hp 30 (by kernel_rfl)
            clear hf hp
            refine stepM_at (by kernel_rfl) ?_
            refine stepAt_plain rfl ?_
            exact stepOK_pure (.pointer (some (q.add (k * 32)))) (execIndexH q (k + 1) c k (by omega) w1 rfl h29 h30) rfl
          refine ⟨fun t w1 hf hk hp => ?_, ?_⟩
          · have h31 : slot t 31 = .pointer (some (q.add (k * 32))) := hp 31 (by kernel_rfl)
            clear hf hp
            refine stepM_at (by kernel_rfl) ?_
            refine stepAt_plain rfl ?_
            have hq0 := (HF.out.kept (K0.out.trans hk)).load k (by omega)
            exact stepOK_sem (.agg (bC 32 (F k))) (by simp only [execOp, evS, h31]) hq0 rfl
          refine ⟨fun t w1 hf hk hp => ?_, ?_⟩
          · have h28 : slot t 28 = .agg (bC 32 B) := hp 28 (by kernel_rfl)
            have h32 : slot t 32 = .agg (bC 32 (F k)) := hp 32 (by kernel_rfl)
            clear hf hp
            refine stepM_at (by kernel_rfl) ?_
            refine stepAt_plain rfl ?_
            refine stepOK_call #[.agg (bC 32 B), .agg (bC 32 (F k))] rfl (by simp only [List.map_toArray, List.map_cons, List.map_nil, evS, h28, h32]) (by go_simp) ((HN.out w1).mono fun e w' ⟨he, hk'⟩ => ⟨_, he, hk', rfl⟩)
          exact trivial
        · intro t w1 hsz hf hk hfacts
          have h33 : slot t 33 = .agg (bC 32 (shaL (nodeS B (F k)))) := hfacts 11 _ (by decide) rfl 33 rfl
          have h0 : slot t 0 = .int .i64 (n : Int) := hf 0 (by kernel_rfl)
          have h1 : slot t 1 = .int .i64 (i : Int) := hf 1 (by kernel_rfl)
          have h3 : slot t 3 = .slice (some q) (k + 1) c := hf 3 (by kernel_rfl)
          have h6 : slot t 6 = .pointer (some ⟨w.heap.size, 0, none⟩) := hf 6 (by kernel_rfl)
          have h8 : slot t 8 = .pointer (some ⟨w.heap.size + 1, 0, none⟩) := hf 8 (by kernel_rfl)
          have h9 : slot t 9 = .int .i64 (l : Int) := hf 9 (by kernel_rfl)
          have h10 : slot t 10 = .int .i64 (k : Int) := hf 10 (by kernel_rfl)
          have harr : t = #[slot t 0, slot t 1, slot t 2, slot t 3, slot t 4, slot t 5, slot t 6, slot t 7, slot t 8, slot t 9, slot t 10, slot t 11, slot t 12, slot t 13, slot t 14, slot t 15, slot t 16, slot t 17, slot t 18, slot t 19, slot t 20, slot t 21, slot t 22, slot t 23, slot t 24, slot t 25, slot t 26, slot t 27, slot t 28, slot t 29, slot t 30, slot t 31, slot t 32, slot t 33, slot t 34, slot t 35, slot t 36, slot t 37, slot t 38, slot t 39, slot t 40, slot t 41, slot t 42, slot t 43, slot t 44, slot t 45, slot t 46, slot t 47, slot t 48, slot t 49] := arr_eq t 50 hsz
          rw [harr, h33, h0, h1, h3, h6, h8, h9, h10]
          clear harr hfacts hf h33 h0 h1 h3 h6 h8 h9 h10
          generalize slot t 2 = x2; generalize slot t 4 = x4; generalize slot t 5 = x5; generalize slot t 7 = x7; generalize slot t 11 = x11; generalize slot t 12 = x12; generalize slot t 13 = x13; generalize slot t 14 = x14; generalize slot t 15 = x15; generalize slot t 16 = x16; generalize slot t 17 = x17; generalize slot t 18 = x18
          generalize slot t 19 = x19; generalize slot t 20 = x20; generalize slot t 21 = x21; generalize slot t 22 = x22; generalize slot t 23 = x23; generalize slot t 24 = x24; generalize slot t 25 = x25; generalize slot t 26 = x26; generalize slot t 27 = x27; generalize slot t 28 = x28; generalize slot t 29 = x29; generalize slot t 30 = x30
          generalize slot t 31 = x31; generalize slot t 32 = x32; generalize slot t 34 = x34; generalize slot t 35 = x35; generalize slot t 36 = x36; generalize slot t 37 = x37; generalize slot t 38 = x38; generalize slot t 39 = x39; generalize slot t 40 = x40; generalize slot t 41 = x41; generalize slot t 42 = x42; generalize slot t 43 = x43
          generalize slot t 44 = x44; generalize slot t 45 = x45; generalize slot t 46 = x46; generalize slot t 47 = x47; generalize slot t 48 = x48; generalize slot t 49 = x49
          clear hsz t
          simp only [List.drop_succ_cons, List.drop_zero]
          have R2 := Lib.hid (A1.out.kept hk)
          have K2 := Lib.hid (K0.out.trans hk)
          clear hk
          go_wp2_with (refine wpList_store_row rfl 34 _ _ rfl (w.heap.size + 1) (bC 32 (shaL (nodeS B (F k)))) rfl rfl 34 (bC 32 []) R2.out (info_hash _) (by simp [bC_size]) (bC_one _ _) ?_)
          refine bodyPost_ret (v := .agg (bC 32 (shaL (nodeS B (F k))))) (results_cell_row Tryd.results55 _ _ (w.heap.size + 1) 34 _ (0, 0) _ rfl R2.out.row Tryd.underlying34 rfl (info_hash _)) rfl ⟨rfl, ?_⟩
          exact K2.out.setRow (by omega) _
      · have hs : (sidesN n i).length = (sidesN (n - leftN n) (i - leftN n)).length + 1 := by rw [sidesN_right h2 (by omega), List.length_append]; rfl
        obtain ⟨k, rfl⟩ : ∃ k, m = k + 1 := ⟨m - 1, by omega⟩
        obtain ⟨q, rfl, _⟩ := hF.some (by omega)
        have HC : Hid (∀ w, HAt w (some q) (k + 1) F → Calls Tryd.prog 55 #[.int .i64 ((n : Int) - (leftN n : Int)), .int .i64 ((i : Int) - (leftN n : Int)), .agg (bC 32 h), .slice (some q) k c] w fun e w' => e = .returned (.agg (bC 32 (upL (n - leftN n) (i - leftN n) h (fl k F)))) ∧ Kept w w') := Lib.hid fun w hF => by
          have hx := ih (n - leftN n) (by omega) (some q) k c F (i - leftN n) h w (by omega) hm (by omega) (by omega) (by omega) hh (hF.left k (by omega))
          rwa [show ((i - leftN n : Nat) : Int) = (i : Int) - (leftN n : Int) by omega, show ((n - leftN n : Nat) : Int) = (n : Int) - (leftN n : Int) by omega] at hx
        have hkF := hF.length k (by omega)
        have e1 : fl (k + 1) F = fl k F ++ [F k] := fl_snoc k F
        rw [e1, upL_right h2 (by omega) h _ _ (by rw [fl_length]; omega)]
        have hu := upL_length (n - leftN n) (i - leftN n) h (fl k F) hh
        have HN : Hid (∀ w, _) := Lib.hid fun w => refNodeSum_any (F k) (upL (n - leftN n) (i - leftN n) h (fl k F)) hkF hu w
        have hd1 : decide ((i : Int) < (leftN n : Int)) = false := decide_eq_false (by omega)
        have hd1' : decide (i < leftN n) = false := decide_eq_false hl
        have hk63 : k < 9223372036854775807 := by unfold maxLen at hm; omega
        have hi63 : i < 9223372036854775807 := by omega
        have hsub : IntKind.i64.wrap (((k + 1 : Nat) : Int) - 1) = (k : Int) := by simp only [IntKind.wrap, IntKind.signed, IntKind.bits]; simp; omega
        clear ih hu e1 hs hml
        generalize upL (n - leftN n) (i - leftN n) h (fl k F) = B at HC HN ⊢
        generalize leftN n = l at hL hP hSL hl HC hd1 hd1'
        have HF := Lib.hid hF
        clear hF
        go_enter Tryd.func55, Tryd.ntmps55
        go_wp2_with fail
        change Calls _ _ _ ((w.alloc (.cells (bC 32 h) 34)).alloc (.cells (bC 32 []) 34)) _
        generalize (w.alloc (.cells (bC 32 h) 34)).alloc (.cells (bC 32 []) 34) = v at A0 A1 K0 ⊢
        refine (hSL.out _).mono ?_
        rintro e v1 ⟨rfl, rfl⟩
        go_wp2_with fail
        refine wp_region_tail 16 [(34, .is (.slice (some q) (k + 1) c)), (35, .is (.int .i64 (k : Int))), (36, .is (.pointer (some (q.add (k * 32))))), (37, .is (.agg (bC 32 (F k)))), (38, .is (.int .i64 (n : Int))), (39, .is (.int .i64 (l : Int))), (40, .is (.int .i64 ((n : Int) - (l : Int)))), (41, .is (.int .i64 (i : Int))), (42, .is (.int .i64 (l : Int))), (43, .is (.int .i64 ((i : Int) - (l : Int)))), (44, .is (.agg (bC 32 h))), (45, .is (.slice (some q) (k + 1) c)), (46, .is (.int .i64 (k : Int))), (47, .is (.slice (some q) k c)), (48, .is (.agg (bC 32 B))), (49, .is (.agg (bC 32 (shaL (nodeS (F k) B)))))] (by kernel_rfl) (by kernel_rfl) ?_ ?_
        · refine ⟨fun t w1 hf hk hp => ?_, ?_⟩
          · have h3 : slot t 3 = .slice (some q) (k + 1) c := hf 3 (by kernel_rfl)
            clear hf hp
            refine stepM_at (by kernel_rfl) ?_
            refine stepAt_plain rfl ?_
            exact stepOK_move _ (.inl rfl) h3
          refine ⟨fun t w1 hf hk hp => ?_, ?_⟩
          · have h10 : slot t 10 = .int .i64 (k : Int) := hf 10 (by kernel_rfl)
            clear hf hp
            refine stepM_at (by kernel_rfl) ?_
            refine stepAt_plain rfl ?_
            exact stepOK_move _ (.inl rfl) h10
          refine ⟨fun t w1 hf hk hp => ?_, ?_⟩
          · have h34 : slot t 34 = .slice (some q) (k + 1) c := hp 34 (by kernel_rfl)
            have h35 : slot t 35 = .int .i64 (k : Int) := hp 35 (by kernel_rfl)
            clear hf hp
            refine stepM_at (by kernel_rfl) ?_
            refine stepAt_plain rfl ?_
            exact stepOK_pure (.pointer (some (q.add (k * 32)))) (execIndexH q (k + 1) c k (by omega) w1 rfl h34 h35) rfl
          refine ⟨fun t w1 hf hk hp => ?_, ?_⟩
          · have h36 : slot t 36 = .pointer (some (q.add (k * 32))) := hp 36 (by kernel_rfl)
            clear hf hp
            refine stepM_at (by kernel_rfl) ?_
            refine stepAt_plain rfl ?_
            have hq0 := (HF.out.kept (K0.out.trans hk)).load k (by omega)
            exact stepOK_sem (.agg (bC 32 (F k))) (by simp only [execOp, evS, h36]) hq0 rfl
          refine ⟨fun t w1 hf hk hp => ?_, ?_⟩
          · have h0 : slot t 0 = .int .i64 (n : Int) := hf 0 (by kernel_rfl)
            clear hf hp
            refine stepM_at (by kernel_rfl) ?_
            refine stepAt_plain rfl ?_
            exact stepOK_move _ (.inl rfl) h0
          refine ⟨fun t w1 hf hk hp => ?_, ?_⟩
          · have h9 : slot t 9 = .int .i64 (l : Int) := hf 9 (by kernel_rfl)
            clear hf hp
            refine stepM_at (by kernel_rfl) ?_
            refine stepAt_plain rfl ?_
            exact stepOK_move _ (.inl rfl) h9
          refine ⟨fun t w1 hf hk hp => ?_, ?_⟩
          · have h38 : slot t 38 = .int .i64 (n : Int) := hp 38 (by kernel_rfl)
            have h39 : slot t 39 = .int .i64 (l : Int) := hp 39 (by kernel_rfl)
            clear hf hp
            refine stepM_at (by kernel_rfl) ?_
            refine stepAt_plain rfl ?_
            have hq0 := wrap_sub n l (by omega) (by omega)
            refine stepOK_pure (.int .i64 ((n : Int) - (l : Int))) ?_ rfl
            simp only [execOp, evS, h38, h39]
            go_simp
          refine ⟨fun t w1 hf hk hp => ?_, ?_⟩
          · have h1 : slot t 1 = .int .i64 (i : Int) := hf 1 (by kernel_rfl)
            clear hf hp
            refine stepM_at (by kernel_rfl) ?_
            refine stepAt_plain rfl ?_
            exact stepOK_move _ (.inl rfl) h1
          refine ⟨fun t w1 hf hk hp => ?_, ?_⟩
          · have h9 : slot t 9 = .int .i64 (l : Int) := hf 9 (by kernel_rfl)
            clear hf hp
            refine stepM_at (by kernel_rfl) ?_
            refine stepAt_plain rfl ?_
            exact stepOK_move _ (.inl rfl) h9
          refine ⟨fun t w1 hf hk hp => ?_, ?_⟩
          · have h41 : slot t 41 = .int .i64 (i : Int) := hp 41 (by kernel_rfl)
            have h42 : slot t 42 = .int .i64 (l : Int) := hp 42 (by kernel_rfl)
            clear hf hp
            refine stepM_at (by kernel_rfl) ?_
            refine stepAt_plain rfl ?_
            have hq0 := wrap_sub i l (by omega) hi63
            refine stepOK_pure (.int .i64 ((i : Int) - (l : Int))) ?_ rfl
            simp only [execOp, evS, h41, h42]
            go_simp
          refine ⟨fun t w1 hf hk hp => ?_, ?_⟩
          · have h6 : slot t 6 = .pointer (some ⟨w.heap.size, 0, none⟩) := hf 6 (by kernel_rfl)
            clear hf hp
            refine stepM_at (by kernel_rfl) ?_
            refine stepAt_plain rfl ?_
            exact stepOK_pure (.agg (bC 32 h)) (loadHr rfl h6 (A0.out.kept hk)) rfl
          refine ⟨fun t w1 hf hk hp => ?_, ?_⟩
          · have h3 : slot t 3 = .slice (some q) (k + 1) c := hf 3 (by kernel_rfl)
            clear hf hp
            refine stepM_at (by kernel_rfl) ?_
            refine stepAt_plain rfl ?_
            exact stepOK_move _ (.inl rfl) h3
          refine ⟨fun t w1 hf hk hp => ?_, ?_⟩
          · have h10 : slot t 10 = .int .i64 (k : Int) := hf 10 (by kernel_rfl)
            clear hf hp
            refine stepM_at (by kernel_rfl) ?_
            refine stepAt_plain rfl ?_
            exact stepOK_move _ (.inl rfl) h10
          refine ⟨fun t w1 hf hk hp => ?_, ?_⟩
          · have h45 : slot t 45 = .slice (some q) (k + 1) c := hp 45 (by kernel_rfl)
            have h46 : slot t 46 = .int .i64 (k : Int) := hp 46 (by kernel_rfl)
            clear hf hp
            refine stepM_at (by kernel_rfl) ?_
            refine stepAt_plain rfl ?_
            have hq0 := run_cutH_init q (k + 1) c k w1 (by omega)
            exact stepOK_sem (.slice (some q) k c) (by simp only [execOp, evS, Option.map_some, Option.map_none, h45, h46]) hq0 rfl
          refine ⟨fun t w1 hf hk hp => ?_, ?_⟩
          · have h40 : slot t 40 = .int .i64 ((n : Int) - (l : Int)) := hp 40 (by kernel_rfl)
            have h43 : slot t 43 = .int .i64 ((i : Int) - (l : Int)) := hp 43 (by kernel_rfl)
            have h44 : slot t 44 = .agg (bC 32 h) := hp 44 (by kernel_rfl)
            have h47 : slot t 47 = .slice (some q) k c := hp 47 (by kernel_rfl)
            clear hf hp
            refine stepM_at (by kernel_rfl) ?_
            refine stepAt_plain rfl ?_
            refine stepOK_call #[.int .i64 ((n : Int) - (l : Int)), .int .i64 ((i : Int) - (l : Int)), .agg (bC 32 h), .slice (some q) k c] rfl (by simp only [List.map_toArray, List.map_cons, List.map_nil, evS, h40, h43, h44, h47]) (by go_simp) ((HC.out w1 (HF.out.kept (K0.out.trans hk))).mono fun e w' ⟨he, hk'⟩ => ⟨_, he, hk', rfl⟩)
          refine ⟨fun t w1 hf hk hp => ?_, ?_⟩
          · have h37 : slot t 37 = .agg (bC 32 (F k)) := hp 37 (by kernel_rfl)
            have h48 : slot t 48 = .agg (bC 32 B) := hp 48 (by kernel_rfl)
            clear hf hp
            refine stepM_at (by kernel_rfl) ?_
            refine stepAt_plain rfl ?_
            refine stepOK_call #[.agg (bC 32 (F k)), .agg (bC 32 B)] rfl (by simp only [List.map_toArray, List.map_cons, List.map_nil, evS, h37, h48]) (by go_simp) ((HN.out w1).mono fun e w' ⟨he, hk'⟩ => ⟨_, he, hk', rfl⟩)
          exact trivial
        · intro t w1 hsz hf hk hfacts
          have h49 : slot t 49 = .agg (bC 32 (shaL (nodeS (F k) B))) := hfacts 15 _ (by decide) rfl 49 rfl
          have h0 : slot t 0 = .int .i64 (n : Int) := hf 0 (by kernel_rfl)
          have h1 : slot t 1 = .int .i64 (i : Int) := hf 1 (by kernel_rfl)
          have h3 : slot t 3 = .slice (some q) (k + 1) c := hf 3 (by kernel_rfl)
          have h6 : slot t 6 = .pointer (some ⟨w.heap.size, 0, none⟩) := hf 6 (by kernel_rfl)
          have h8 : slot t 8 = .pointer (some ⟨w.heap.size + 1, 0, none⟩) := hf 8 (by kernel_rfl)
          have h9 : slot t 9 = .int .i64 (l : Int) := hf 9 (by kernel_rfl)
          have h10 : slot t 10 = .int .i64 (k : Int) := hf 10 (by kernel_rfl)
          have harr : t = #[slot t 0, slot t 1, slot t 2, slot t 3, slot t 4, slot t 5, slot t 6, slot t 7, slot t 8, slot t 9, slot t 10, slot t 11, slot t 12, slot t 13, slot t 14, slot t 15, slot t 16, slot t 17, slot t 18, slot t 19, slot t 20, slot t 21, slot t 22, slot t 23, slot t 24, slot t 25, slot t 26, slot t 27, slot t 28, slot t 29, slot t 30, slot t 31, slot t 32, slot t 33, slot t 34, slot t 35, slot t 36, slot t 37, slot t 38, slot t 39, slot t 40, slot t 41, slot t 42, slot t 43, slot t 44, slot t 45, slot t 46, slot t 47, slot t 48, slot t 49] := arr_eq t 50 hsz
          rw [harr, h49, h0, h1, h3, h6, h8, h9, h10]
          clear harr hfacts hf h49 h0 h1 h3 h6 h8 h9 h10
          generalize slot t 2 = x2; generalize slot t 4 = x4; generalize slot t 5 = x5; generalize slot t 7 = x7; generalize slot t 11 = x11; generalize slot t 12 = x12; generalize slot t 13 = x13; generalize slot t 14 = x14; generalize slot t 15 = x15; generalize slot t 16 = x16; generalize slot t 17 = x17; generalize slot t 18 = x18
          generalize slot t 19 = x19; generalize slot t 20 = x20; generalize slot t 21 = x21; generalize slot t 22 = x22; generalize slot t 23 = x23; generalize slot t 24 = x24; generalize slot t 25 = x25; generalize slot t 26 = x26; generalize slot t 27 = x27; generalize slot t 28 = x28; generalize slot t 29 = x29; generalize slot t 30 = x30
          generalize slot t 31 = x31; generalize slot t 32 = x32; generalize slot t 33 = x33; generalize slot t 34 = x34; generalize slot t 35 = x35; generalize slot t 36 = x36; generalize slot t 37 = x37; generalize slot t 38 = x38; generalize slot t 39 = x39; generalize slot t 40 = x40; generalize slot t 41 = x41; generalize slot t 42 = x42
          generalize slot t 43 = x43; generalize slot t 44 = x44; generalize slot t 45 = x45; generalize slot t 46 = x46; generalize slot t 47 = x47; generalize slot t 48 = x48
          clear hsz t
          simp only [List.drop_succ_cons, List.drop_zero]
          have R2 := Lib.hid (A1.out.kept hk)
          have K2 := Lib.hid (K0.out.trans hk)
          clear hk
          go_wp2_with (refine wpList_store_row rfl 34 _ _ rfl (w.heap.size + 1) (bC 32 (shaL (nodeS (F k) B))) rfl rfl 34 (bC 32 []) R2.out (info_hash _) (by simp [bC_size]) (bC_one _ _) ?_)
          refine bodyPost_ret (v := .agg (bC 32 (shaL (nodeS (F k) B)))) (results_cell_row Tryd.results55 _ _ (w.heap.size + 1) 34 _ (0, 0) _ rfl R2.out.row Tryd.underlying34 rfl (info_hash _)) rfl ⟨rfl, ?_⟩
          exact K2.out.setRow (by omega) _
end Go.Proofs.YtcbcjiaedoeaeaaDoor
namespace Go.Proofs.YtcbcjiaedoeaeaaDoor
set_option maxRecDepth 4000
open Go.RowKit

theorem wrap_u64 (n : Nat) (h : n ≤ 1048576) : IntKind.u64.wrap (n : Int) = (n : Int) := by simp only [IntKind.wrap, IntKind.signed, IntKind.bits]; simp; omega
theorem rtO_good {s : ByteArray} {i n m : Nat} {F : Nat → List UInt8} (h : mayE (i : Int) (n : Int) m = 0) : rtO s (i : Int) (n : Int) m F = shaL (rootS n (upL n i (shaL (leafS s)) (fl m F))) := by
  rw [rtO, if_pos h]; rfl
set_option maxRecDepth 100000 in
set_option maxHeartbeats 2000000 in
theorem holdRoot_any (s : ByteArray) (hs : s.size ≤ 1000000) (I N : Int) (m : Nat) (F : Nat → List UInt8) (v : Value) (w : World) (hv : HSl m F v w) (ht : Tab w) :
    Calls Tryd.prog 38 #[.string s, .agg #[.int .i64 I, .int .i64 N, v]] w fun e w' => e = .returned (.tuple #[.agg (bC 32 (rtO s I N m F)), .int .i64 (mayE I N m)]) ∧ Kept w w' := by
  have HV := Lib.hid hv
  have HT := Lib.hid ht
  have HUp : Hid (∀ (b : Nat) (w1 : World), b ≤ w1.heap.size → HSl m F v w1 → Tab w1 → _) := Lib.hid fun b w1 hb hv ht => PaS.mono b hb (holdUp_any s hs I N m F v w1 hv ht)
  obtain ⟨p, c, rfl, hc, hcm, hF⟩ := hv
  have HM : Hid (∀ w, _) := Lib.hid fun w => holdMay_any I N p m c w
  have R1 := Lib.hid ((Rowz.new w #[.int .i64 I, .int .i64 N, .slice p m c] 27).alloc (.cells (bC 32 []) 34))
  have Z1 := Lib.hid (Rowz.newEq1 w (.cells #[.int .i64 I, .int .i64 N, .slice p m c] 27) _ (bC 32 []) 34 rfl)
  have K1 := Lib.hid (((Kept.refl w).alloc (.cells #[.int .i64 I, .int .i64 N, .slice p m c] 27)).alloc (.cells (bC 32 []) 34))
  clear hF ht hc hcm
  by_cases h0 : mayE I N m = 0
  · obtain ⟨i, n, rfl, rfl, hi, hn, hml, hm63⟩ := mayE_nat h0
    rw [rtO_good h0, h0]
    rw [h0] at HM
    have hu : upO s (i : Int) (n : Int) m F = upsL s i n m F m := by rw [upO, if_pos h0]; rfl
    rw [hu] at HUp
    have HL32 : Hid (∀ x ∈ upsL s i n m F m, x.length = 32) := Lib.hid (upsL_32 s i n m F hml)
    have HLl : Hid ((upsL s i n m F m).length = m + 1) := Lib.hid (upsL_length s i n m F m)
    have hlast : Hid (lh (upsL s i n m F m) m = upL n i (shaL (leafS s)) (fl m F)) := Lib.hid (by rw [upsL_last, uH_all _ _ _ _ _ hml])
    have hA : (upL n i (shaL (leafS s)) (fl m F)).length = 32 := upL_length _ _ _ _ (shaL_length _)
    have HR : Hid (∀ w, Tab w → _) := Lib.hid fun w ht => tagRootSum_any n (by omega) (upL n i (shaL (leafS s)) (fl m F)) hA w ht
    generalize shaL (rootS n (upL n i (shaL (leafS s)) (fl m F))) = B at HR ⊢
    generalize upL n i (shaL (leafS s)) (fl m F) = A at HR hlast
    generalize upsL s i n m F m = L at HUp HL32 HLl hlast
    have hw : IntKind.u64.wrap (n : Int) = (n : Int) := wrap_u64 n hn
    have hsub : IntKind.i64.wrap (m : Int) = (m : Int) := by simp only [IntKind.wrap, IntKind.signed, IntKind.bits]; simp; omega
    clear h0 hml hu hA
    go_enter Tryd.func38, Tryd.ntmps38
    go_wp2_with fail
    change Calls _ _ _ ((w.alloc (.cells #[.int .i64 (i : Int), .int .i64 (n : Int), .slice p m c] 27)).alloc (.cells (bC 32 []) 34)) _
    have HB : Hid (w.heap.size + 2 ≤ ((w.alloc (.cells #[.int .i64 (i : Int), .int .i64 (n : Int), .slice p m c] 27)).alloc (.cells (bC 32 []) 34)).heap.size) := Lib.hid (by simp)
    generalize (w.alloc (.cells #[.int .i64 (i : Int), .int .i64 (n : Int), .slice p m c] 27)).alloc (.cells (bC 32 []) 34) = v1 at R1 Z1 K1 HB ⊢
    refine (HM.out v1).mono ?_
    rintro e v2 ⟨rfl, k2⟩
    have R2 := Lib.hid (R1.out.kept k2)
    have Z2 := Lib.hid (Z1.out.kept k2)
    have K2 := Lib.hid (K1.out.trans k2)
    have B2 : Hid (w.heap.size + 2 ≤ v2.heap.size) := Lib.hid (Nat.le_trans HB.out k2.size)
    clear R1 Z1 K1 HB k2 HM
    have c0 := R2.out.cell 0
    have c1 := R2.out.cell 1
    have c2 := R2.out.cell 2
    go_wp2_with fail
    clear c0 c1 c2
    refine (HUp.out (w.heap.size + 2) v2 B2.out (HSl.kept _ _ _ _ _ K2.out HV.out) (HT.out.kept K2.out)).mono ?_
    rintro e v3 ⟨x, rfl, hx, k3⟩
    have hx' := hx.hsl HL32.out
    rw [HLl.out] at hx'
    have R3 := Lib.hid (R2.out.kept k3)
    have Z3 := Lib.hid (Z2.out.kept k3)
    have K3 := Lib.hid (K2.out.trans k3)
    clear R2 Z2 K2 B2 k3 HUp hx
    obtain ⟨q0, cc, rfl, hcc, hcm, hH⟩ := hx'
    obtain ⟨q, rfl, _⟩ := hH.some (by omega)
    have HH25 : Hid (∀ w1, Kept v3 w1 → (Instr.loadAt 34 (.pointer (some (q.add (m * 32))))).run Tryd.prog w1 = .ok (.agg (bC 32 A)) w1) := Lib.hid fun w1 hk => by
      rw [← hlast.out]; exact (hH.kept hk).load m (by omega)
    clear hH hcc hcm
    go_wp2_with fail
    refine wp_region_tail 10 [(17, .is (.pointer (some ⟨w.heap.size, 1, none⟩))), (18, .is (.int .i64 (n : Int))), (19, .is (.int .u64 (n : Int))), (20, .is (.slice (some q) (m + 1) cc)), (21, .is (.slice (some q) (m + 1) cc)), (22, .is (.int .i64 ((m + 1 : Nat) : Int))), (23, .is (.int .i64 (m : Int))), (24, .is (.pointer (some (q.add (m * 32))))), (25, .is (.agg (bC 32 A))), (26, .is (.agg (bC 32 B)))] (by kernel_rfl) (by kernel_rfl) ?_ ?_
    · refine ⟨fun t w1 hf hk hp => ?_, ?_⟩
      · have h3 : slot t 3 = .pointer (some ⟨w.heap.size, 0, none⟩) := hf 3 (by kernel_rfl)
        clear hf hp
        refine stepM_at (by kernel_rfl) ?_
        refine stepAt_plain rfl ?_
        exact stepOK_pure (.pointer (some ⟨w.heap.size, 1, none⟩)) (execFieldO w.heap.size 1 (by omega) w1 rfl h3) rfl
      refine ⟨fun t w1 hf hk hp => ?_, ?_⟩
      · have h17 : slot t 17 = .pointer (some ⟨w.heap.size, 1, none⟩) := hp 17 (by kernel_rfl)
        clear hf hp
        refine stepM_at (by kernel_rfl) ?_
        refine stepAt_plain rfl ?_
        have hq0 := run_loadI ((R3.out.kept hk).cell 1)
        exact stepOK_sem (.int .i64 (n : Int)) (by simp only [execOp, evS, h17]) hq0 rfl
      refine ⟨fun t w1 hf hk hp => ?_, ?_⟩
      · have h18 : slot t 18 = .int .i64 (n : Int) := hp 18 (by kernel_rfl)
        clear hf hp
        refine stepM_at (by kernel_rfl) ?_
        refine stepAt_plain rfl ?_
        have hq0 := hw
        refine stepOK_pure (.int .u64 (n : Int)) ?_ rfl
        simp only [execOp, evS, h18]
        go_simp
      refine ⟨fun t w1 hf hk hp => ?_, ?_⟩
      · have h7 : slot t 7 = .slice (some q) (m + 1) cc := hf 7 (by kernel_rfl)
        clear hf hp
        refine stepM_at (by kernel_rfl) ?_
        refine stepAt_plain rfl ?_
        exact stepOK_move _ (.inl rfl) h7
      refine ⟨fun t w1 hf hk hp => ?_, ?_⟩
      · have h7 : slot t 7 = .slice (some q) (m + 1) cc := hf 7 (by kernel_rfl)
        clear hf hp
        refine stepM_at (by kernel_rfl) ?_
        refine stepAt_plain rfl ?_
        exact stepOK_move _ (.inl rfl) h7
      refine ⟨fun t w1 hf hk hp => ?_, ?_⟩
      · have h21 : slot t 21 = .slice (some q) (m + 1) cc := hp 21 (by kernel_rfl)
        clear hf hp
        refine stepM_at (by kernel_rfl) ?_
        refine stepAt_plain rfl ?_
        exact stepOK_pure (.int .i64 ((m + 1 : Nat) : Int)) (execLenHs w1 rfl h21) rfl
      refine ⟨fun t w1 hf hk hp => ?_, ?_⟩
      · have h22 : slot t 22 = .int .i64 ((m + 1 : Nat) : Int) := hp 22 (by kernel_rfl)
        clear hf hp
        refine stepM_at (by kernel_rfl) ?_
        refine stepAt_plain rfl ?_
        have hq0 := hsub
        refine stepOK_pure (.int .i64 (m : Int)) ?_ rfl
        simp only [execOp, evS, h22]
        go_simp
      refine ⟨fun t w1 hf hk hp => ?_, ?_⟩
      · have h20 : slot t 20 = .slice (some q) (m + 1) cc := hp 20 (by kernel_rfl)
        have h23 : slot t 23 = .int .i64 (m : Int) := hp 23 (by kernel_rfl)
        clear hf hp
        refine stepM_at (by kernel_rfl) ?_
        refine stepAt_plain rfl ?_
        exact stepOK_pure (.pointer (some (q.add (m * 32)))) (execIndexH q (m + 1) cc m (by omega) w1 rfl h20 h23) rfl
      refine ⟨fun t w1 hf hk hp => ?_, ?_⟩
      · have h24 : slot t 24 = .pointer (some (q.add (m * 32))) := hp 24 (by kernel_rfl)
        clear hf hp
        refine stepM_at (by kernel_rfl) ?_
        refine stepAt_plain rfl ?_
        have hq0 := HH25.out w1 hk
        exact stepOK_sem (.agg (bC 32 A)) (by simp only [execOp, evS, h24]) hq0 rfl
      refine ⟨fun t w1 hf hk hp => ?_, ?_⟩
      · have h19 : slot t 19 = .int .u64 (n : Int) := hp 19 (by kernel_rfl)
        have h25 : slot t 25 = .agg (bC 32 A) := hp 25 (by kernel_rfl)
        clear hf hp
        refine stepM_at (by kernel_rfl) ?_
        refine stepAt_plain rfl ?_
        refine stepOK_call #[.int .u64 (n : Int), .agg (bC 32 A)] rfl (by simp only [List.map_toArray, List.map_cons, List.map_nil, evS, h19, h25]) (by go_simp) ((HR.out w1 (HT.out.kept (K3.out.trans hk))).mono fun e w' ⟨he, hk'⟩ => ⟨_, he, hk', rfl⟩)
      exact trivial
    · intro t w1 hsz hf hk hfacts
      have h26 : slot t 26 = .agg (bC 32 B) := hfacts 9 _ (by decide) rfl 26 rfl
      have h3 : slot t 3 = .pointer (some ⟨w.heap.size, 0, none⟩) := hf 3 (by kernel_rfl)
      have h4 : slot t 4 = .pointer (some ⟨w.heap.size + 1, 0, none⟩) := hf 4 (by kernel_rfl)
      have h7 : slot t 7 = .slice (some q) (m + 1) cc := hf 7 (by kernel_rfl)
      have harr : t = #[slot t 0, slot t 1, slot t 2, slot t 3, slot t 4, slot t 5, slot t 6, slot t 7, slot t 8, slot t 9, slot t 10, slot t 11, slot t 12, slot t 13, slot t 14, slot t 15, slot t 16, slot t 17, slot t 18, slot t 19, slot t 20, slot t 21, slot t 22, slot t 23, slot t 24, slot t 25, slot t 26] := arr_eq t 27 hsz
      rw [harr, h26, h3, h4, h7]
      clear harr hfacts hf h26 h3 h4 h7
      generalize slot t 0 = x0; generalize slot t 1 = x1; generalize slot t 2 = x2; generalize slot t 5 = x5; generalize slot t 6 = x6; generalize slot t 8 = x8; generalize slot t 9 = x9; generalize slot t 10 = x10; generalize slot t 11 = x11; generalize slot t 12 = x12; generalize slot t 13 = x13; generalize slot t 14 = x14
      generalize slot t 15 = x15; generalize slot t 16 = x16; generalize slot t 17 = x17; generalize slot t 18 = x18; generalize slot t 19 = x19; generalize slot t 20 = x20; generalize slot t 21 = x21; generalize slot t 22 = x22; generalize slot t 23 = x23; generalize slot t 24 = x24; generalize slot t 25 = x25
      clear hsz t
      simp only [List.drop_succ_cons, List.drop_zero]
      have Z4 := Lib.hid (Z3.out.kept hk)
      have K4 := Lib.hid (K3.out.trans hk)
      clear hk
      go_wp2_with (refine wpList_store_row rfl 34 _ _ rfl (w.heap.size + 1) (bC 32 B) rfl rfl 34 (bC 32 []) Z4.out (info_hash _) (by simp [bC_size]) (bC_one _ _) ?_)
      refine bodyPost_ret (v := .tuple #[.agg (bC 32 B), .int .i64 0]) (results_row_tmp Tryd.results38 _ _ (w.heap.size + 1) 34 _ _ _ rfl rfl Z4.out.row Tryd.underlying34 rfl (info_hash _)) rfl ⟨rfl, ?_⟩
      exact K4.out.setRow (by omega) _
  · rw [rtO, if_neg h0, ← zero_hashC]
    generalize mayE I N m = E at HM h0 ⊢
    have hd0 : (E != 0) = true := by simpa using h0
    have HE := Lib.hid h0
    clear h0 HUp
    go_enter Tryd.func38, Tryd.ntmps38
    go_wp2_with fail
    change Calls _ _ _ ((w.alloc (.cells #[.int .i64 I, .int .i64 N, .slice p m c] 27)).alloc (.cells (bC 32 []) 34)) _
    generalize (w.alloc (.cells #[.int .i64 I, .int .i64 N, .slice p m c] 27)).alloc (.cells (bC 32 []) 34) = v1 at R1 Z1 K1 ⊢
    refine (HM.out v1).mono ?_
    rintro e v2 ⟨rfl, k2⟩
    have Z2 := Lib.hid (Z1.out.kept k2)
    have K2 := Lib.hid (K1.out.trans k2)
    clear R1 Z1 K1 k2 HM
    go_wp2_with (first
      | (refine wpList_exec 12 rfl (by rfl) (.agg (bC 32 [])) _ (execBuild0 rfl (run_build0 _)) ?_)
      | (refine wpList_store_row rfl 34 _ _ rfl (w.heap.size + 1) (bC 32 []) rfl rfl 34 (bC 32 []) Z2.out (info_hash _) (by simp [bC_size]) (bC_one _ _) ?_))
    refine bodyPost_ret (v := .tuple #[.agg (bC 32 []), .int .i64 E]) (results_row_tmp Tryd.results38 _ _ (w.heap.size + 1) 34 _ _ _ rfl rfl Z2.out.row Tryd.underlying34 rfl (info_hash _)) rfl ⟨rfl, ?_⟩
    exact K2.out.setRow (by omega) _

set_option maxRecDepth 100000 in
set_option maxHeartbeats 2000000 in
theorem holdCheck_any (r : List UInt8) (hr : r.length = 32) (s : ByteArray) (hs : s.size ≤ 1000000) (I N : Int) (m : Nat) (F : Nat → List UInt8) (v : Value) (w : World) (hv : HSl m F v w) (ht : Tab w) :
    Calls Tryd.prog 27 #[.agg (bC 32 r), .string s, .agg #[.int .i64 I, .int .i64 N, v]] w fun e w' => e = .returned (.bool (ckO r s I N m F)) ∧ Kept w w' := by
  have HV := Lib.hid hv
  have HT := Lib.hid ht
  have HR : Hid (∀ w, HSl m F v w → Tab w → _) := Lib.hid fun w hv ht => holdRoot_any s hs I N m F v w hv ht
  obtain ⟨p, c, rfl, hc, hcm, hF⟩ := hv
  have hRl := rtO_length s I N m F
  have hck : ckO r s I N m F = decide (mayE I N m = 0 ∧ rtO s I N m F = r) := rfl
  rw [hck]
  clear hck hF hc hcm ht
  generalize rtO s I N m F = B at HR hRl ⊢
  generalize mayE I N m = E at HR ⊢
  have R1 := Lib.hid ((Rowz.new w (bC 32 r) 34).alloc (.cells #[.int .i64 I, .int .i64 N, .slice p m c] 27))
  have K1 := Lib.hid (((Kept.refl w).alloc (.cells (bC 32 r) 34)).alloc (.cells #[.int .i64 I, .int .i64 N, .slice p m c] 27))
  by_cases h0 : E = 0
  · subst h0
    rw [show decide ((0 : Int) = 0 ∧ B = r) = decide (B = r) by rw [decide_eq_decide]; exact ⟨fun h => h.2, fun h => ⟨rfl, h⟩⟩]
    obtain ⟨D, hD⟩ : ∃ D, D = decide (B = r) := ⟨_, rfl⟩
    rw [← hD]
    replace hD := Lib.hid hD
    go_enter Tryd.func27, Tryd.ntmps27
    go_wp2_with fail
    change Calls _ _ _ ((w.alloc (.cells (bC 32 r) 34)).alloc (.cells #[.int .i64 I, .int .i64 N, .slice p m c] 27)) _
    generalize (w.alloc (.cells (bC 32 r) 34)).alloc (.cells #[.int .i64 I, .int .i64 N, .slice p m c] 27) = v1 at R1 K1 ⊢
    refine (HR.out v1 (HSl.kept _ _ _ _ _ K1.out HV.out) (HT.out.kept K1.out)).mono ?_
    rintro e v2 ⟨rfl, k2⟩
    have R2 := Lib.hid (R1.out.kept k2)
    have K2 := Lib.hid (K1.out.trans k2)
    clear R1 K1 k2 HR
    go_wp2_with (first
      | (refine wpList_store_made rfl 34 _ _ rfl _ _ (bC 32 B) rfl rfl 34 _ rfl (info_hash _) (by simp [bC_size]) (bC_one _ _) ?_; intro v3 R3 k3)
      | (refine park_at 18 rfl ?_))
    have R4 := Lib.hid (R2.out.kept k3.out)
    have K4 := Lib.hid (K2.out.trans k3.out)
    clear R2 K2 k3
    refine unpark ?_
    refine wpList_exec 18 rfl (by rfl) (.agg (bC 32 B)) _ (loadHr rfl rfl R3.out) ?_
    refine wpList_exec 19 rfl (by rfl) (.agg (bC 32 r)) _ (loadHr rfl rfl R4.out) ?_
    refine wpList_exec 20 rfl (by rfl) (.bool D) _ (by rw [hD.out]; exact execEqHs B r hRl hr _ rfl rfl rfl) ?_
    clear R3 R4 hD
    go_wp2_with fail
    go_ret
    exact ⟨rfl, K4.out⟩
  · rw [decide_eq_false (fun h => h0 h.1)]
    have hd0 : (E == 0) = false := by simpa using h0
    have HE := Lib.hid h0
    clear h0 hRl
    go_enter Tryd.func27, Tryd.ntmps27
    go_wp2_with fail
    change Calls _ _ _ ((w.alloc (.cells (bC 32 r) 34)).alloc (.cells #[.int .i64 I, .int .i64 N, .slice p m c] 27)) _
    generalize (w.alloc (.cells (bC 32 r) 34)).alloc (.cells #[.int .i64 I, .int .i64 N, .slice p m c] 27) = v1 at R1 K1 ⊢
    refine (HR.out v1 (HSl.kept _ _ _ _ _ K1.out HV.out) (HT.out.kept K1.out)).mono ?_
    rintro e v2 ⟨rfl, k2⟩
    have K2 := Lib.hid (K1.out.trans k2)
    clear R1 K1 k2 HR
    go_wp2_with (refine wpList_store_made rfl 34 _ _ rfl _ _ (bC 32 B) rfl rfl 34 _ rfl (info_hash _) (by simp [bC_size]) (bC_one _ _) ?_; intro v3 R3 k3)
    go_ret
    exact ⟨rfl, K2.out.trans k3.out⟩

set_option maxRecDepth 100000 in
set_option maxHeartbeats 2000000 in
theorem refTold_any (s : ByteArray) (hs : s.size ≤ 1000000) (I N : Int) (m : Nat) (F : Nat → List UInt8) (v : Value) (w : World) (hv : HSl m F v w) :
    Calls Tryd.prog 39 #[.string s, .agg #[.int .i64 I, .int .i64 N, v]] w fun e w' => e = .returned (.tuple #[.agg (bC 32 (rtO s I N m F)), .int .i64 (mayE I N m)]) ∧ Kept w w' := by
  have HV := Lib.hid hv
  obtain ⟨p, c, rfl, hc, hcm, hF⟩ := hv
  have HM : Hid (∀ w, _) := Lib.hid fun w => refMay_any I N p m c w
  have R1 := Lib.hid ((Rowz.new w #[.int .i64 I, .int .i64 N, .slice p m c] 27).alloc (.cells (bC 32 []) 34))
  have Z1 := Lib.hid (Rowz.newEq1 w (.cells #[.int .i64 I, .int .i64 N, .slice p m c] 27) _ (bC 32 []) 34 rfl)
  have K1 := Lib.hid (((Kept.refl w).alloc (.cells #[.int .i64 I, .int .i64 N, .slice p m c] 27)).alloc (.cells (bC 32 []) 34))
  by_cases h0 : mayE I N m = 0
  · obtain ⟨i, n, rfl, rfl, hi, hn, hml, hm63⟩ := mayE_nat h0
    rw [rtO_good h0, h0]
    rw [h0] at HM
    have HL : Hid (∀ w, _) := Lib.hid fun w => refLeafSum_any s hs w
    have HU : Hid (∀ w, HAt w p m F → _) := Lib.hid fun w hF => refUp_any n p m c F i (shaL (leafS s)) w hc hcm hi hn hml (shaL_length _) hF
    have hA : (upL n i (shaL (leafS s)) (fl m F)).length = 32 := upL_length _ _ _ _ (shaL_length _)
    have HR : Hid (∀ w, _) := Lib.hid fun w => refRootSum_any n (by omega) (upL n i (shaL (leafS s)) (fl m F)) hA w
    generalize shaL (rootS n (upL n i (shaL (leafS s)) (fl m F))) = B at HR ⊢
    generalize upL n i (shaL (leafS s)) (fl m F) = A at HR HU
    generalize shaL (leafS s) = H at HL HU
    have hw : IntKind.u64.wrap (n : Int) = (n : Int) := wrap_u64 n hn
    have HF := Lib.hid hF
    clear h0 hml hA hF hc hcm
    go_enter Tryd.func39, Tryd.ntmps39
    go_wp2_with fail
    change Calls _ _ _ ((w.alloc (.cells #[.int .i64 (i : Int), .int .i64 (n : Int), .slice p m c] 27)).alloc (.cells (bC 32 []) 34)) _
    generalize (w.alloc (.cells #[.int .i64 (i : Int), .int .i64 (n : Int), .slice p m c] 27)).alloc (.cells (bC 32 []) 34) = v1 at R1 Z1 K1 ⊢
    refine (HM.out v1).mono ?_
    rintro e v2 ⟨rfl, k2⟩
    have R3 := Lib.hid (R1.out.kept k2)
    have Z3 := Lib.hid (Z1.out.kept k2)
    have K3 := Lib.hid (K1.out.trans k2)
    clear R1 Z1 K1 k2 HM
    go_wp2_with fail
    refine wp_region_tail 13 [(13, .is (.pointer (some ⟨w.heap.size, 1, none⟩))), (14, .is (.int .i64 (n : Int))), (15, .is (.int .u64 (n : Int))), (16, .is (.pointer (some ⟨w.heap.size, 1, none⟩))), (17, .is (.int .i64 (n : Int))), (18, .is (.pointer (some ⟨w.heap.size, 0, none⟩))), (19, .is (.int .i64 (i : Int))), (20, .is (.string s)), (21, .is (.agg (bC 32 H))), (22, .is (.pointer (some ⟨w.heap.size, 2, none⟩))), (23, .is (.slice p m c)), (24, .is (.agg (bC 32 A))), (25, .is (.agg (bC 32 B)))] (by kernel_rfl) (by kernel_rfl) ?_ ?_
    · refine ⟨fun t w1 hf hk hp => ?_, ?_⟩
      · have h3 : slot t 3 = .pointer (some ⟨w.heap.size, 0, none⟩) := hf 3 (by kernel_rfl)
        clear hf hp
        refine stepM_at (by kernel_rfl) ?_
        refine stepAt_plain rfl ?_
        exact stepOK_pure (.pointer (some ⟨w.heap.size, 1, none⟩)) (execFieldO w.heap.size 1 (by omega) w1 rfl h3) rfl
      refine ⟨fun t w1 hf hk hp => ?_, ?_⟩
      · have h13 : slot t 13 = .pointer (some ⟨w.heap.size, 1, none⟩) := hp 13 (by kernel_rfl)
        clear hf hp
        refine stepM_at (by kernel_rfl) ?_
        refine stepAt_plain rfl ?_
        have hq0 := run_loadI ((R3.out.kept hk).cell 1)
        exact stepOK_sem (.int .i64 (n : Int)) (by simp only [execOp, evS, h13]) hq0 rfl
      refine ⟨fun t w1 hf hk hp => ?_, ?_⟩
      · have h14 : slot t 14 = .int .i64 (n : Int) := hp 14 (by kernel_rfl)
        clear hf hp
        refine stepM_at (by kernel_rfl) ?_
        refine stepAt_plain rfl ?_
        have hq0 := hw
        refine stepOK_pure (.int .u64 (n : Int)) ?_ rfl
        simp only [execOp, evS, h14]
        go_simp
      refine ⟨fun t w1 hf hk hp => ?_, ?_⟩
      · have h3 : slot t 3 = .pointer (some ⟨w.heap.size, 0, none⟩) := hf 3 (by kernel_rfl)
        clear hf hp
        refine stepM_at (by kernel_rfl) ?_
        refine stepAt_plain rfl ?_
        exact stepOK_pure (.pointer (some ⟨w.heap.size, 1, none⟩)) (execFieldO w.heap.size 1 (by omega) w1 rfl h3) rfl
      refine ⟨fun t w1 hf hk hp => ?_, ?_⟩
      · have h16 : slot t 16 = .pointer (some ⟨w.heap.size, 1, none⟩) := hp 16 (by kernel_rfl)
        clear hf hp
        refine stepM_at (by kernel_rfl) ?_
        refine stepAt_plain rfl ?_
        have hq0 := run_loadI ((R3.out.kept hk).cell 1)
        exact stepOK_sem (.int .i64 (n : Int)) (by simp only [execOp, evS, h16]) hq0 rfl
      refine ⟨fun t w1 hf hk hp => ?_, ?_⟩
      · have h3 : slot t 3 = .pointer (some ⟨w.heap.size, 0, none⟩) := hf 3 (by kernel_rfl)
        clear hf hp
        refine stepM_at (by kernel_rfl) ?_
        refine stepAt_plain rfl ?_
        exact stepOK_pure (.pointer (some ⟨w.heap.size, 0, none⟩)) (execFieldO w.heap.size 0 (by omega) w1 rfl h3) rfl
      refine ⟨fun t w1 hf hk hp => ?_, ?_⟩
      · have h18 : slot t 18 = .pointer (some ⟨w.heap.size, 0, none⟩) := hp 18 (by kernel_rfl)
        clear hf hp
        refine stepM_at (by kernel_rfl) ?_
        refine stepAt_plain rfl ?_
        have hq0 := run_loadI ((R3.out.kept hk).cell 0)
        exact stepOK_sem (.int .i64 (i : Int)) (by simp only [execOp, evS, h18]) hq0 rfl
      refine ⟨fun t w1 hf hk hp => ?_, ?_⟩
      · have h0 : slot t 0 = .string s := hf 0 (by kernel_rfl)
        clear hf hp
        refine stepM_at (by kernel_rfl) ?_
        refine stepAt_plain rfl ?_
        exact stepOK_move _ (.inl rfl) h0
      refine ⟨fun t w1 hf hk hp => ?_, ?_⟩
      · have h20 : slot t 20 = .string s := hp 20 (by kernel_rfl)
        clear hf hp
        refine stepM_at (by kernel_rfl) ?_
        refine stepAt_plain rfl ?_
        refine stepOK_call #[.string s] rfl (by simp only [List.map_toArray, List.map_cons, List.map_nil, evS, h20]) (by go_simp) ((HL.out w1).mono fun e w' ⟨he, hk'⟩ => ⟨_, he, hk', rfl⟩)
      refine ⟨fun t w1 hf hk hp => ?_, ?_⟩
      · have h3 : slot t 3 = .pointer (some ⟨w.heap.size, 0, none⟩) := hf 3 (by kernel_rfl)
        clear hf hp
        refine stepM_at (by kernel_rfl) ?_
        refine stepAt_plain rfl ?_
        exact stepOK_pure (.pointer (some ⟨w.heap.size, 2, none⟩)) (execFieldO w.heap.size 2 (by omega) w1 rfl h3) rfl
      refine ⟨fun t w1 hf hk hp => ?_, ?_⟩
      · have h22 : slot t 22 = .pointer (some ⟨w.heap.size, 2, none⟩) := hp 22 (by kernel_rfl)
        clear hf hp
        refine stepM_at (by kernel_rfl) ?_
        refine stepAt_plain rfl ?_
        have hq0 := run_loadHs ((R3.out.kept hk).cell 2)
        exact stepOK_sem (.slice p m c) (by simp only [execOp, evS, h22]) hq0 rfl
      refine ⟨fun t w1 hf hk hp => ?_, ?_⟩
      · have h17 : slot t 17 = .int .i64 (n : Int) := hp 17 (by kernel_rfl)
        have h19 : slot t 19 = .int .i64 (i : Int) := hp 19 (by kernel_rfl)
        have h21 : slot t 21 = .agg (bC 32 H) := hp 21 (by kernel_rfl)
        have h23 : slot t 23 = .slice p m c := hp 23 (by kernel_rfl)
        clear hf hp
        refine stepM_at (by kernel_rfl) ?_
        refine stepAt_plain rfl ?_
        refine stepOK_call #[.int .i64 (n : Int), .int .i64 (i : Int), .agg (bC 32 H), .slice p m c] rfl (by simp only [List.map_toArray, List.map_cons, List.map_nil, evS, h17, h19, h21, h23]) (by go_simp) ((HU.out w1 (HF.out.kept (K3.out.trans hk))).mono fun e w' ⟨he, hk'⟩ => ⟨_, he, hk', rfl⟩)
      refine ⟨fun t w1 hf hk hp => ?_, ?_⟩
      · have h15 : slot t 15 = .int .u64 (n : Int) := hp 15 (by kernel_rfl)
        have h24 : slot t 24 = .agg (bC 32 A) := hp 24 (by kernel_rfl)
        clear hf hp
        refine stepM_at (by kernel_rfl) ?_
        refine stepAt_plain rfl ?_
        refine stepOK_call #[.int .u64 (n : Int), .agg (bC 32 A)] rfl (by simp only [List.map_toArray, List.map_cons, List.map_nil, evS, h15, h24]) (by go_simp) ((HR.out w1).mono fun e w' ⟨he, hk'⟩ => ⟨_, he, hk', rfl⟩)
      exact trivial
    · intro t w1 hsz hf hk hfacts
      have h25 : slot t 25 = .agg (bC 32 B) := hfacts 12 _ (by decide) rfl 25 rfl
      have h0 : slot t 0 = .string s := hf 0 (by kernel_rfl)
      have h3 : slot t 3 = .pointer (some ⟨w.heap.size, 0, none⟩) := hf 3 (by kernel_rfl)
      have h4 : slot t 4 = .pointer (some ⟨w.heap.size + 1, 0, none⟩) := hf 4 (by kernel_rfl)
      have harr : t = #[slot t 0, slot t 1, slot t 2, slot t 3, slot t 4, slot t 5, slot t 6, slot t 7, slot t 8, slot t 9, slot t 10, slot t 11, slot t 12, slot t 13, slot t 14, slot t 15, slot t 16, slot t 17, slot t 18, slot t 19, slot t 20, slot t 21, slot t 22, slot t 23, slot t 24, slot t 25] := arr_eq t 26 hsz
      rw [harr, h25, h0, h3, h4]
      clear harr hfacts hf h25 h0 h3 h4
      generalize slot t 1 = x1; generalize slot t 2 = x2; generalize slot t 5 = x5; generalize slot t 6 = x6; generalize slot t 7 = x7; generalize slot t 8 = x8; generalize slot t 9 = x9; generalize slot t 10 = x10; generalize slot t 11 = x11; generalize slot t 12 = x12; generalize slot t 13 = x13; generalize slot t 14 = x14
      generalize slot t 15 = x15; generalize slot t 16 = x16; generalize slot t 17 = x17; generalize slot t 18 = x18; generalize slot t 19 = x19; generalize slot t 20 = x20; generalize slot t 21 = x21; generalize slot t 22 = x22; generalize slot t 23 = x23; generalize slot t 24 = x24
      clear hsz t
      simp only [List.drop_succ_cons, List.drop_zero]
      have Z4 := Lib.hid (Z3.out.kept hk)
      have K4 := Lib.hid (K3.out.trans hk)
      clear hk
      go_wp2_with (refine wpList_store_row rfl 34 _ _ rfl (w.heap.size + 1) (bC 32 B) rfl rfl 34 (bC 32 []) Z4.out (info_hash _) (by simp [bC_size]) (bC_one _ _) ?_)
      refine bodyPost_ret (v := .tuple #[.agg (bC 32 B), .int .i64 0]) (results_row_tmp Tryd.results39 _ _ (w.heap.size + 1) 34 _ _ _ rfl rfl Z4.out.row Tryd.underlying34 rfl (info_hash _)) rfl ⟨rfl, ?_⟩
      exact K4.out.setRow (by omega) _
  · rw [rtO, if_neg h0, ← zero_hashC]
    generalize mayE I N m = E at HM h0 ⊢
    have hd0 : (E != 0) = true := by simpa using h0
    have HE := Lib.hid h0
    clear h0 hF hc hcm
    go_enter Tryd.func39, Tryd.ntmps39
    go_wp2_with fail
    change Calls _ _ _ ((w.alloc (.cells #[.int .i64 I, .int .i64 N, .slice p m c] 27)).alloc (.cells (bC 32 []) 34)) _
    generalize (w.alloc (.cells #[.int .i64 I, .int .i64 N, .slice p m c] 27)).alloc (.cells (bC 32 []) 34) = v1 at R1 Z1 K1 ⊢
    refine (HM.out v1).mono ?_
    rintro e v2 ⟨rfl, k2⟩
    have Z2 := Lib.hid (Z1.out.kept k2)
    have K2 := Lib.hid (K1.out.trans k2)
    clear R1 Z1 K1 k2 HM
    go_wp2_with (first
      | (refine wpList_exec 11 rfl (by rfl) (.agg (bC 32 [])) _ (execBuild0 rfl (run_build0 _)) ?_)
      | (refine wpList_store_row rfl 34 _ _ rfl (w.heap.size + 1) (bC 32 []) rfl rfl 34 (bC 32 []) Z2.out (info_hash _) (by simp [bC_size]) (bC_one _ _) ?_))
    refine bodyPost_ret (v := .tuple #[.agg (bC 32 []), .int .i64 E]) (results_row_tmp Tryd.results39 _ _ (w.heap.size + 1) 34 _ _ _ rfl rfl Z2.out.row Tryd.underlying34 rfl (info_hash _)) rfl ⟨rfl, ?_⟩
    exact K2.out.setRow (by omega) _

set_option maxRecDepth 100000 in
set_option maxHeartbeats 2000000 in
theorem refCheck_any (r : List UInt8) (hr : r.length = 32) (s : ByteArray) (hs : s.size ≤ 1000000) (I N : Int) (m : Nat) (F : Nat → List UInt8) (v : Value) (w : World) (hv : HSl m F v w) :
    Calls Tryd.prog 28 #[.agg (bC 32 r), .string s, .agg #[.int .i64 I, .int .i64 N, v]] w fun e w' => e = .returned (.bool (ckO r s I N m F)) ∧ Kept w w' := by
  have HV := Lib.hid hv
  have HR : Hid (∀ w, HSl m F v w → _) := Lib.hid fun w hv => refTold_any s hs I N m F v w hv
  obtain ⟨p, c, rfl, hc, hcm, hF⟩ := hv
  have hRl := rtO_length s I N m F
  have hck : ckO r s I N m F = decide (mayE I N m = 0 ∧ rtO s I N m F = r) := rfl
  rw [hck]
  clear hck hF hc hcm
  generalize rtO s I N m F = B at HR hRl ⊢
  generalize mayE I N m = E at HR ⊢
  have R1 := Lib.hid ((Rowz.new w (bC 32 r) 34).alloc (.cells #[.int .i64 I, .int .i64 N, .slice p m c] 27))
  have K1 := Lib.hid (((Kept.refl w).alloc (.cells (bC 32 r) 34)).alloc (.cells #[.int .i64 I, .int .i64 N, .slice p m c] 27))
  by_cases h0 : E = 0
  · subst h0
    rw [show decide ((0 : Int) = 0 ∧ B = r) = decide (B = r) by rw [decide_eq_decide]; exact ⟨fun h => h.2, fun h => ⟨rfl, h⟩⟩]
    obtain ⟨D, hD⟩ : ∃ D, D = decide (B = r) := ⟨_, rfl⟩
    rw [← hD]
    replace hD := Lib.hid hD
    go_enter Tryd.func28, Tryd.ntmps28
    go_wp2_with fail
    change Calls _ _ _ ((w.alloc (.cells (bC 32 r) 34)).alloc (.cells #[.int .i64 I, .int .i64 N, .slice p m c] 27)) _
    generalize (w.alloc (.cells (bC 32 r) 34)).alloc (.cells #[.int .i64 I, .int .i64 N, .slice p m c] 27) = v1 at R1 K1 ⊢
    refine (HR.out v1 (HSl.kept _ _ _ _ _ K1.out HV.out)).mono ?_
    rintro e v2 ⟨rfl, k2⟩
    have R2 := Lib.hid (R1.out.kept k2)
    have K2 := Lib.hid (K1.out.trans k2)
    clear R1 K1 k2 HR
    go_wp2_with (first
      | (refine wpList_store_made rfl 34 _ _ rfl _ _ (bC 32 B) rfl rfl 34 _ rfl (info_hash _) (by simp [bC_size]) (bC_one _ _) ?_; intro v3 R3 k3)
      | (refine park_at 18 rfl ?_))
    have R4 := Lib.hid (R2.out.kept k3.out)
    have K4 := Lib.hid (K2.out.trans k3.out)
    clear R2 K2 k3
    refine unpark ?_
    refine wpList_exec 18 rfl (by rfl) (.agg (bC 32 B)) _ (loadHr rfl rfl R3.out) ?_
    refine wpList_exec 19 rfl (by rfl) (.agg (bC 32 r)) _ (loadHr rfl rfl R4.out) ?_
    refine wpList_exec 20 rfl (by rfl) (.bool D) _ (by rw [hD.out]; exact execEqHs B r hRl hr _ rfl rfl rfl) ?_
    clear R3 R4 hD
    go_wp2_with fail
    go_ret
    exact ⟨rfl, K4.out⟩
  · rw [decide_eq_false (fun h => h0 h.1)]
    have hd0 : (E == 0) = false := by simpa using h0
    have HE := Lib.hid h0
    clear h0 hRl
    go_enter Tryd.func28, Tryd.ntmps28
    go_wp2_with fail
    change Calls _ _ _ ((w.alloc (.cells (bC 32 r) 34)).alloc (.cells #[.int .i64 I, .int .i64 N, .slice p m c] 27)) _
    generalize (w.alloc (.cells (bC 32 r) 34)).alloc (.cells #[.int .i64 I, .int .i64 N, .slice p m c] 27) = v1 at R1 K1 ⊢
    refine (HR.out v1 (HSl.kept _ _ _ _ _ K1.out HV.out)).mono ?_
    rintro e v2 ⟨rfl, k2⟩
    have K2 := Lib.hid (K1.out.trans k2)
    clear R1 K1 k2 HR
    go_wp2_with (refine wpList_store_made rfl 34 _ _ rfl _ _ (bC 32 B) rfl rfl 34 _ rfl (info_hash _) (by simp [bC_size]) (bC_one _ _) ?_; intro v3 R3 k3)
    go_ret
    exact ⟨rfl, K2.out.trans k3.out⟩
end Go.Proofs.YtcbcjiaedoeaeaaDoor
namespace Go.Proofs.YtcbcjiaedoeaeaaDoor
set_option maxRecDepth 4000
open Go.RowKit

theorem run_build1s (x : ByteArray) (w : World) : (Instr.buildSlice 22 1 #[(0, .string x)]).run Tryd.prog w = .ok (.slice (.some ⟨w.heap.size, 0, none⟩) 1 1) (w.alloc (.cells #[.string x] 9)) := by kernel_rfl
theorem sizeStr12 (w : World) : (Go.sizeOf 9).run Tryd.prog w = .ok 1 w := by kernel_rfl
theorem SAt.load {w : World} {q : Addr} {n : Nat} {S : Nat → ByteArray} (h : SAt w (.some q) n S) (i : Nat) (hi : i < n) : (Instr.loadAt 9 (.pointer (.some (q.add i)))).run Tryd.prog w = .ok (.string (S i)) w := by
  have hc := h.cell i hi
  go_simp
theorem execIndexS {o : Oper} {t : Array Value} {x y : Operand} (q : Addr) (n c k : Nat) (hk : k < n) (w : World) (ho : o.op = .indexAddr 22 x y) (hx : evS t x = .slice (.some q) n c) (hy : evS t y = .int .i64 (k : Int)) :
    (execOp (evS t) o).run Tryd.prog w = .ok (.value (.pointer (.some (q.add k)))) w := by
  have h1 : ((k : Int) < (n : Int)) := by omega
  have hs := sizeStr12 w
  unfold execOp
  rw [ho]
  simp only [hx, hy]
  go_simp
theorem execNeS {o : Oper} {t : Array Value} {x y : Operand} (a b : ByteArray) (w : World) (ho : o.op = .binOp .neq 9 x y 9) (hx : evS t x = .string a) (hy : evS t y = .string b) :
    (execOp (evS t) o).run Tryd.prog w = .ok (.value (.bool (!(decide (a = b))))) w := by
  rw [← beq_strs]
  unfold execOp
  rw [ho]
  simp only [hx, hy]
  go_simp
theorem execNeSSelf {o : Oper} {t : Array Value} {x y : Operand} (a : ByteArray) (w : World) (ho : o.op = .binOp .neq 9 x y 9) (hx : evS t x = .string a) (hy : evS t y = .string a) :
    (execOp (evS t) o).run Tryd.prog w = .ok (.value (.bool false)) w := by
  have := execNeS a a w ho hx hy
  simpa using this
theorem execEqSd {o : Oper} {t : Array Value} {x y : Operand} (a b : ByteArray) (w : World) (ho : o.op = .binOp .eql 9 x y 9) (hx : evS t x = .string a) (hy : evS t y = .string b) :
    (execOp (evS t) o).run Tryd.prog w = .ok (.value (.bool (decide (a = b)))) w := by
  rw [← beq_strs]
  exact execEqS a b w ho hx hy
theorem execEqSSelf {o : Oper} {t : Array Value} {x y : Operand} (a : ByteArray) (w : World) (ho : o.op = .binOp .eql 9 x y 9) (hx : evS t x = .string a) (hy : evS t y = .string a) :
    (execOp (evS t) o).run Tryd.prog w = .ok (.value (.bool true)) w := by
  have := execEqSd a a w ho hx hy
  rwa [decide_eq_true rfl] at this
theorem execEqSNo {o : Oper} {t : Array Value} {x y : Operand} (a b : ByteArray) (hne : ¬ a = b) (w : World) (ho : o.op = .binOp .eql 9 x y 9) (hx : evS t x = .string a) (hy : evS t y = .string b) :
    (execOp (evS t) o).run Tryd.prog w = .ok (.value (.bool false)) w := by
  have := execEqSd a b w ho hx hy
  rwa [decide_eq_false hne] at this
end Go.Proofs.YtcbcjiaedoeaeaaDoor
namespace Go.Proofs.YtcbcjiaedoeaeaaDoor
set_option maxRecDepth 4000
open Go.RowKit

theorem execNeHr {o : Oper} {t : Array Value} {x y : Operand} {l : List UInt8} (hl : l.length = 32) (w : World) (ho : o.op = .binOp .neq 34 x y 34) (hx : evS t x = .agg (bC 32 l)) (hy : evS t y = .agg (bC 32 l)) :
    (execOp (evS t) o).run Tryd.prog w = .ok (.value (.bool false)) w := by
  have h := execNeHs l l hl hl w ho hx hy
  simpa using h
/-- A pointer at a hash. -/
def PtH (l : List UInt8) (v : Value) (w : World) : Prop := ∃ a : Addr, v = .pointer (some a) ∧ HAt w (some a) 1 (fun _ => l)
theorem PtH.kept (l : List UInt8) (v : Value) (w w' : World) (K : Kept w w') (h : PtH l v w) : PtH l v w' := by
  obtain ⟨a, hv, h⟩ := h
  exact ⟨a, hv, h.kept K⟩
theorem execPtH {o : Oper} {t : Array Value} {x y : Operand} {v : Value} {n : Nat} {F : Nat → List UInt8} {w : World} (k : Nat) (l : List UInt8) (hk : k < n) (hl : F k = l) (ho : o.op = .indexAddr 25 x y) (hx : evS t x = v) (hy : evS t y = .int .i64 (k : Int)) (hv : HSl n F v w) :
    ∃ v' w', (execOp (evS t) o).run Tryd.prog w = .ok (.value v') w' ∧ Kept w w' ∧ PtH l v' w' := by
  subst hl
  obtain ⟨p, c, rfl, _, _, hH⟩ := hv
  obtain ⟨q, rfl, _⟩ := hH.some (by omega)
  refine ⟨_, w, execIndexH q n c k hk w ho hx hy, Kept.refl w, _, rfl, ?_⟩
  have h := (hH.right k (by omega)).left 1 (by omega)
  intro i hi
  obtain rfl : i = 0 := by omega
  exact h 0 (by omega)
theorem execLoadPt {o : Oper} {t : Array Value} {x : Operand} {v : Value} {l : List UInt8} {w : World} (ho : o.op = .load 34 x) (hx : evS t x = v) (hv : PtH l v w) :
    (execOp (evS t) o).run Tryd.prog w = .ok (.value (.agg (bC 32 l))) w := by
  obtain ⟨a, rfl, h⟩ := hv
  exact execLoadAt ho hx (h.load0 (by omega))

theorem sat_one {w : World} {g : Nat} {s : ByteArray} (h : Rowz w g #[.string s] 9) : SAt w (some ⟨g, 0, none⟩) 1 (fun _ => s) := fun i hi => by
  obtain rfl : i = 0 := by omega
  exact ⟨_, rfl, h.lt, h.cell 0⟩
theorem may_one : mayE 0 1 0 = 0 := by
  rw [mayE_zero, show (0 : Int) = ((0 : Nat) : Int) from rfl, show (1 : Int) = ((1 : Nat) : Int) from rfl, depthI_yes (by omega)]
  refine ⟨by omega, ?_⟩
  rw [← sidesN_length, sidesN_one 0 (by omega)]; rfl
theorem rt_one (F : Nat → List UInt8) : rtO ⟨#[97]⟩ 0 1 0 F = shaL (rootS 1 (shaL (leafS ⟨#[97]⟩))) := by
  rw [rtO, if_pos may_one]
  show shaL (rootS 1 (upL 1 0 _ _)) = _
  rw [upL_one 0 (by omega)]
theorem rootL_one (S : Nat → ByteArray) : rootL S 1 = shaL (rootS 1 (shaL (leafS (S 0)))) := by rw [rootL, topN_one]; rfl
end Go.Proofs.YtcbcjiaedoeaeaaDoor
