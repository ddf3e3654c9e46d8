/-
  '==' and '!=' of arrays of integers, as the model reckons them: cell by cell; of hashes. No condition.
-/
import Derived.Test.YtfadcibmkjpjoaaBas
import Derived.Laws.StructEq
namespace Go.Proofs.Ytfadcibmkjpjoaa
set_option maxRecDepth 4000
open Go.RowKit

/-- n cells of integers of kind k. -/
def iC (k : IntKind) (n : Nat) (f : Nat → Int) : Array Value := ((List.range n).map fun i => Value.int k (f i)).toArray
theorem iC_get (k : IntKind) (n : Nat) (f : Nat → Int) (i : Nat) (h : i < n) : (iC k n f)[i]? = some (.int k (f i)) := by simp [iC, h]

theorem run_equalIn_ints {P : Program} (w : World) (d : Nat) (t e : TypeId) (n : Nat) (k : IntKind) (ht : P.underlying t = some (.array n e)) (he : P.underlying e = some (.int k)) (hsz : ∀ w, (sizeOf e).run P w = .ok 1 w) (f g : Nat → Int) :
    (Op.equalIn (d + 2) t (.agg (iC k n f)) (.agg (iC k n g))).run P w = .ok ((List.range n).all fun i => f i == g i) w := by
  rw [List.range_eq_range', Op.equalIn]
  simp only [Sem.run_bind, run_underlying ht, Result.andThen_ok, hsz, Std.Legacy.Range.forIn_eq_forIn_range', Std.Legacy.Range.size, Nat.sub_zero, Nat.add_sub_cancel, Nat.div_one]
  have hl : ∀ i ∈ List.range' 0 n 1, i < n := fun i hi => by simpa using (List.mem_range'_1.1 hi).2
  generalize List.range' 0 n 1 = l at hl ⊢
  induction l with
  | nil => simp
  | cons i l ih =>
    have hi : i < n := hl i (by simp)
    have px : (part e (iC k n f) (i * 1)).run P w = .ok (.int k (f i)) w := by
      simp [part, isAgg, run_underlying he, iC_get k n f i hi]
    have py : (part e (iC k n g) (i * 1)).run P w = .ok (.int k (g i)) w := by
      simp [part, isAgg, run_underlying he, iC_get k n g i hi]
    have pe : (Op.equalIn (d + 1) e (.int k (f i)) (.int k (g i))).run P w = .ok (f i == g i) w := by
      rw [run_equalIn_int w d e k k _ _ he]
    simp only [List.forIn_cons, Sem.run_bind, px, py, pe, Result.andThen_ok, List.all_cons]
    cases hb : (f i == g i)
    · simp
    · simp only [Bool.not_true, Bool.false_eq_true, if_false, Sem.run_pure, Result.andThen_ok, Bool.true_and]
      exact ih fun j hj => hl j (by simp [hj])
theorem run_eql_ints {P : Program} (w : World) (t e : TypeId) (n : Nat) (k : IntKind) (ht : P.underlying t = some (.array n e)) (he : P.underlying e = some (.int k)) (hsz : ∀ w, (sizeOf e).run P w = .ok 1 w) (f g : Nat → Int) :
    (binOp .eql t (.agg (iC k n f)) (.agg (iC k n g))).run P w = .ok (.bool ((List.range n).all fun i => f i == g i)) w := by
  rw [run_eql_struct, run_equalIn_ints w 9998 t e n k ht he hsz f g]
  rfl
theorem run_neq_ints {P : Program} (w : World) (t e : TypeId) (n : Nat) (k : IntKind) (ht : P.underlying t = some (.array n e)) (he : P.underlying e = some (.int k)) (hsz : ∀ w, (sizeOf e).run P w = .ok 1 w) (f g : Nat → Int) :
    (binOp .neq t (.agg (iC k n f)) (.agg (iC k n g))).run P w = .ok (.bool (!((List.range n).all fun i => f i == g i))) w := by
  rw [run_neq_struct, run_equalIn_ints w 9998 t e n k ht he hsz f g]
  rfl
theorem all_same (n : Nat) (f : Nat → Int) : ((List.range n).all fun i => f i == f i) = true := by simp

theorem all_bytes (l m : List UInt8) (hl : l.length = 32) (hm : m.length = 32) : ((List.range 32).all fun i => (((l.getD i 0).toNat : Nat) : Int) == (((m.getD i 0).toNat : Nat) : Int)) = decide (l = m) := by
  by_cases h : l = m
  · subst h; simp
  · rw [decide_eq_false h, Bool.eq_false_iff]
    intro hall
    apply h
    rw [List.all_eq_true] at hall
    apply List.ext_getElem (by omega)
    intro i h1 h2
    have := hall i (by simp; omega)
    simp [List.getD_eq_getElem?_getD, h1, h2] at this
    exact UInt8.toNat_inj.1 (by omega)
theorem sameH (l m : List UInt8) (hl : l.length = 32) (hm : m.length = 32) (w : World) : (Op.equalIn 10000 24 (.agg (bC 32 l)) (.agg (bC 32 m))).run Try.prog w = .ok (decide (l = m)) w := by
  have h := run_equalIn_ints (P := Try.prog) w 9998 24 5 32 .u8 Try.underlying24 Try.underlying5 (fun w => by kernel_rfl) (fun i => (((l.getD i 0).toNat : Nat) : Int)) (fun i => (((m.getD i 0).toNat : Nat) : Int))
  rw [all_bytes l m hl hm] at h
  exact h
theorem guardH : Try.prog.eqGuardType Try.prog.depth 24 = false := by kernel_rfl
theorem sameH1 (l : List UInt8) (hl : l.length = 32) (w : World) : (Op.equalIn 10000 24 (.agg (bC 32 l)) (.agg (bC 32 l))).run Try.prog w = .ok true w := by
  have := sameH l l hl hl w
  simpa using this
end Go.Proofs.Ytfadcibmkjpjoaa
