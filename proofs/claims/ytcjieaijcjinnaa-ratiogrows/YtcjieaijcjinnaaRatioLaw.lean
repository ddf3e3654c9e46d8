/-
  What RatioGrows needs: greater numbers and powers keep what is above, or at least; halves of an array of arrays.
-/
import Derived.Test.YtcjieaijcjinnaaRatioWalkB
import Derived.Test.YtcjieaijcjinnaaLawLibB
namespace Go.Proofs.Ytcjieaijcjinnaa
open Go.RowKit

theorem above_least (n o : Nat) (up a b : Int) (h : aboveB n o up a b = true) : leastB n o up a b = true := by
  simp only [aboveB, leastB, Bool.and_eq_true, decide_eq_true_eq] at *
  exact ⟨h.1, Nat.le_of_lt h.2⟩
theorem okR_up (u v a b : Int) (h : okR u a b = true) (hv0 : 0 ≤ v) (hv : v ≤ 255) : okR v a b = true := by
  simp only [okR, Bool.and_eq_true, decide_eq_true_eq] at *
  exact ⟨h.1, hv0, hv⟩
theorem lft_mono (n m : Nat) (u v b : Int) (h : n ≤ m) (hu : u ≤ v) : lft n b u ≤ lft m b v :=
  Nat.mul_le_mul (Nat.mul_le_mul_right _ h) (Nat.pow_le_pow_right (by decide) (by omega))
theorem rgt_mono (o p : Nat) (a b : Int) (h : p ≤ o) : rgt p a b ≤ rgt o a b := Nat.mul_le_mul_right _ h
theorem above_grow (n m o p : Nat) (u v a b : Int) (h1 : n ≤ m) (h2 : p ≤ o) (h3 : 0 ≤ u) (h4 : u ≤ v) (h5 : v ≤ 255) (h : aboveB n o u a b = true) : aboveB m p v a b = true := by
  have e1 := lft_mono n m u v b h1 h4
  have e2 := rgt_mono o p a b h2
  simp only [aboveB, Bool.and_eq_true, decide_eq_true_eq] at *
  exact ⟨okR_up u v a b h.1 (by omega) h5, by omega⟩
theorem least_grow (n m o p : Nat) (u v a b : Int) (h1 : n ≤ m) (h2 : p ≤ o) (h3 : 0 ≤ u) (h4 : u ≤ v) (h5 : v ≤ 255) (h : leastB n o u a b = true) : leastB m p v a b = true := by
  have e1 := lft_mono n m u v b h1 h4
  have e2 := rgt_mono o p a b h2
  simp only [leastB, Bool.and_eq_true, decide_eq_true_eq] at *
  exact ⟨okR_up u v a b h.1 (by omega) h5, by omega⟩

theorem range22 {w : World} {b o : Nat} {x y : Value} (h0 : w.cell? ⟨b, o, none⟩ = some x) (h1 : w.cell? ⟨b, o + 1, none⟩ = some y) : w.rangeAt b o [x, y] := by
  intro j v hv
  match j, hv with
  | 0, hv => simp at hv; subst hv; exact h0
  | 1, hv => simp at hv; subst hv; exact h1
theorem load22 (w : World) (b o : Nat) (x y : Int) (h0 : w.cell? ⟨b, o, none⟩ = some (.int .u32 x)) (h1 : w.cell? ⟨b, o + 1, none⟩ = some (.int .u32 y)) :
    (Instr.loadAt 64 (.pointer (some ⟨b, o, none⟩))).run Try.prog w = .ok (.agg #[.int .u32 x, .int .u32 y]) w :=
  run_loadAt_mid (P := Try.prog) w b o 64 [.int .u32 x, .int .u32 y] _ (range22 h0 h1) Try.underlying64 rfl (by kernel_rfl)
theorem yields_load22 {ops : Array Oper} {S : World → Prop} {op : Oper} {a : Act} (hw : Region.wanted op (yielded ops a.tmps) = true) (x : Operand) (ho : op.op = .load 64 x)
    (b o : Nat) (u v : Int) (hx : a.eval x = .pointer (some ⟨b, o, none⟩)) (h0 : ∀ w, S w → w.cell? ⟨b, o, none⟩ = some (.int .u32 u)) (h1 : ∀ w, S w → w.cell? ⟨b, o + 1, none⟩ = some (.int .u32 v)) :
    YieldsIf Try.prog ops S op (.agg #[.int .u32 u, .int .u32 v]) a :=
  .inl ⟨hw, fun w hw' => by
    have h := load22 w b o u v (h0 w hw') (h1 w hw')
    unfold execOp
    simp only [ho, hx, h, Sem.run_bind, Sem.run_pure, Result.andThen_ok]⟩
end Go.Proofs.Ytcjieaijcjinnaa
