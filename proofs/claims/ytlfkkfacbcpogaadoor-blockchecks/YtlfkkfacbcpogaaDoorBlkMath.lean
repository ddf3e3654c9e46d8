/-
  Blocks: the header that is made (mkB), what is wrong first with a block (ckB), equal lists of strings and equal blocks (eqS, eqB). Plain arithmetic.
-/
import Derived.Test.YtlfkkfacbcpogaaDoorHeadMath
import Derived.Test.YtlfkkfacbcpogaaDoorTxMathA
namespace Go.Proofs.YtlfkkfacbcpogaaDoor
set_option maxRecDepth 4000
open Go.RowKit

def eqS (m k : Nat) (S R : Nat → ByteArray) : Bool := decide (m = k) && (List.range m).all fun i => decide (S i = R i)
theorem eqS_yes {m k : Nat} {S R : Nat → ByteArray} : eqS m k S R = true ↔ m = k ∧ ∀ i, i < m → S i = R i := by
  unfold eqS
  rw [Bool.and_eq_true, decide_eq_true_iff, List.all_eq_true]
  constructor
  · rintro ⟨h1, h2⟩
    exact ⟨h1, fun i hi => of_decide_eq_true (h2 i (List.mem_range.2 hi))⟩
  · rintro ⟨h1, h2⟩
    exact ⟨h1, fun i hi => decide_eq_true (h2 i (List.mem_range.1 hi))⟩
theorem eqS_no {m k : Nat} {S R : Nat → ByteArray} (h : ¬ m = k) : eqS m k S R = false := by
  cases e : eqS m k S R with
  | false => rfl
  | true => exact absurd (eqS_yes.1 e).1 h
theorem eqS_at {m k : Nat} {S R : Nat → ByteArray} (i : Nat) (hi : i < m) (h : ¬ S i = R i) : eqS m k S R = false := by
  cases e : eqS m k S R with
  | false => rfl
  | true => exact absurd ((eqS_yes.1 e).2 i hi) h
theorem eqS_self (m : Nat) (S : Nat → ByteArray) : eqS m m S S = true := eqS_yes.2 ⟨rfl, fun _ _ => rfl⟩
def eqB (x y : Hd) (m k : Nat) (S R : Nat → ByteArray) : Bool := decide (x = y) && eqS m k S R
theorem eqB_self (x : Hd) (m : Nat) (S : Nat → ByteArray) : eqB x x m m S S = true := by
  rw [eqB, eqS_self, decide_eq_true rfl]; rfl
def mkB (h n : Nat) (F : Nat → List UInt8) (m : Nat) (S : Nat → ByteArray) (k : Nat) : Hd := ⟨h, rootL (lkS F) n, rootL (tkS S) m, k⟩
theorem mkB_ok (h n : Nat) (F : Nat → List UInt8) (m : Nat) (S : Nat → ByteArray) (k : Nat) (hh : h < 4294967296) (hk : k < 18446744073709551616) : (mkB h n F m S k).ok :=
  ⟨hh, shaL_length _, shaL_length _, hk⟩
/-- What is wrong first with a block of header x and transactions S, as one of height h and vector F. -/
def ckB (x : Hd) (m : Nat) (S : Nat → ByteArray) (h n : Nat) (F : Nat → List UInt8) : Int :=
  if x.h = h then (if mayT S m = 0 then (if x.l = rootL (lkS F) n ∧ x.t = rootL (tkS S) m then 0 else 12) else mayT S m) else 8
theorem ckB_height {x : Hd} {m : Nat} {S : Nat → ByteArray} {h n : Nat} {F : Nat → List UInt8} (hh : ¬ x.h = h) : ckB x m S h n F = 8 := if_neg hh
theorem ckB_may {x : Hd} {m : Nat} {S : Nat → ByteArray} {h n : Nat} {F : Nat → List UInt8} (hh : x.h = h) (hm : ¬ mayT S m = 0) : ckB x m S h n F = mayT S m := by
  rw [ckB, if_pos hh, if_neg hm]
theorem ckB_root {x : Hd} {m : Nat} {S : Nat → ByteArray} {h n : Nat} {F : Nat → List UInt8} (hh : x.h = h) (hm : mayT S m = 0) (hr : ¬ (x.l = rootL (lkS F) n ∧ x.t = rootL (tkS S) m)) : ckB x m S h n F = 12 := by
  rw [ckB, if_pos hh, if_pos hm, if_neg hr]
theorem ckB_good {x : Hd} {m : Nat} {S : Nat → ByteArray} {h n : Nat} {F : Nat → List UInt8} (hh : x.h = h) (hm : mayT S m = 0) (hr : x.l = rootL (lkS F) n ∧ x.t = rootL (tkS S) m) : ckB x m S h n F = 0 := by
  rw [ckB, if_pos hh, if_pos hm, if_pos hr]
theorem ckB_zero {x : Hd} {m : Nat} {S : Nat → ByteArray} {h n : Nat} {F : Nat → List UInt8} : ckB x m S h n F = 0 ↔ x.h = h ∧ mayT S m = 0 ∧ x.l = rootL (lkS F) n ∧ x.t = rootL (tkS S) m := by
  by_cases hh : x.h = h
  · by_cases hm : mayT S m = 0
    · by_cases hr : x.l = rootL (lkS F) n ∧ x.t = rootL (tkS S) m
      · exact ⟨fun _ => ⟨hh, hm, hr⟩, fun _ => ckB_good hh hm hr⟩
      · exact ⟨fun e => by rw [ckB_root hh hm hr] at e; exact absurd e (by decide), fun e => absurd e.2.2 hr⟩
    · exact ⟨fun e => absurd (by rwa [ckB_may hh hm] at e) hm, fun e => absurd e.2.1 hm⟩
  · exact ⟨fun e => by rw [ckB_height hh] at e; exact absurd e (by decide), fun e => absurd e.1 hh⟩
theorem ckB_mk (h n : Nat) (F : Nat → List UInt8) (m : Nat) (S : Nat → ByteArray) (k : Nat) : ckB (mkB h n F m S k) m S h n F = mayT S m := by
  by_cases hm : mayT S m = 0
  · exact (ckB_good (x := mkB h n F m S k) (h := h) (n := n) (F := F) rfl hm ⟨rfl, rfl⟩).trans hm.symm
  · exact ckB_may (x := mkB h n F m S k) (h := h) (n := n) (F := F) rfl hm
theorem ckB_other (h n : Nat) (F : Nat → List UInt8) (m : Nat) (S : Nat → ByteArray) (k h' : Nat) (hh : ¬ h = h') : ckB (mkB h n F m S k) m S h' n F = 8 := ckB_height hh
theorem bigT_zero (S : Nat → ByteArray) : bigT S 0 = false := rfl
theorem bigT_more {S : Nat → ByteArray} {k : Nat} (h : 4096 < (S k).size) : bigT S (k + 1) = true := bigT_yes k (by omega) h
theorem bigT_same {S : Nat → ByteArray} {k : Nat} (h : ¬ 4096 < (S k).size) : bigT S (k + 1) = bigT S k := by
  unfold bigT
  rw [List.range_succ, List.any_append]
  simp [h]
theorem mayT_few {S : Nat → ByteArray} {n : Nat} (h : n ≤ 60) : mayT S n = if bigT S n = true then 4 else 0 := by
  unfold mayT
  by_cases hb : bigT S n = true
  · rw [if_pos (.inr hb), if_pos hb]
  · rw [if_neg (fun h2 => h2.elim (by omega) hb), if_neg hb]
theorem mayT_none (S : Nat → ByteArray) : mayT S 0 = 0 := mayT_zero.2 ⟨by omega, fun i hi => absurd hi (Nat.not_lt_zero i)⟩
end Go.Proofs.YtlfkkfacbcpogaaDoor
