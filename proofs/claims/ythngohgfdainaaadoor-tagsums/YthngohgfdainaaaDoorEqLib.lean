/-
  '==' and '!=' of arrays of integers, as the model reckons them: cell by cell. No condition.
-/
import Derived.Test.YthngohgfdainaaaDoorMemLib
import Derived.Test.YthngohgfdainaaaDoorEqHash
import Derived.Laws.StructEq
namespace Go.Proofs.YthngohgfdainaaaDoor
open Go.RowKit

theorem eql_hash (L : List UInt8) (w : World) : (binOp .eql 23 (.agg (bC 32 L)) (.agg (bC 32 L))).run Tryd.prog w = .ok (.bool true) w := by
  have h := run_eql_ints (P := Tryd.prog) w 23 5 32 .u8 Tryd.underlying23 Tryd.underlying5 (fun w => by kernel_rfl) (fun i => (((L.getD i 0).toNat : Nat) : Int)) (fun i => (((L.getD i 0).toNat : Nat) : Int))
  rw [all_same] at h
  exact h
theorem neq_hash (L : List UInt8) (w : World) : (binOp .neq 23 (.agg (bC 32 L)) (.agg (bC 32 L))).run Tryd.prog w = .ok (.bool false) w := by
  have h := run_neq_ints (P := Tryd.prog) w 23 5 32 .u8 Tryd.underlying23 Tryd.underlying5 (fun w => by kernel_rfl) (fun i => (((L.getD i 0).toNat : Nat) : Int)) (fun i => (((L.getD i 0).toNat : Nat) : Int))
  rw [all_same] at h
  exact h
theorem eql_words8 (l : List Nat) (w : World) : (binOp .eql 56 (.agg (wC 8 l)) (.agg (wC 8 l))).run Tryd.prog w = .ok (.bool true) w := by
  have h := run_eql_ints (P := Tryd.prog) w 56 34 8 .u32 Tryd.underlying56 Tryd.underlying34 (fun w => by kernel_rfl) (fun i => ((l.getD i 0 : Nat) : Int)) (fun i => ((l.getD i 0 : Nat) : Int))
  rw [all_same] at h
  exact h
theorem eql_words64 (l : List Nat) (w : World) : (binOp .eql 48 (.agg (wC 64 l)) (.agg (wC 64 l))).run Tryd.prog w = .ok (.bool true) w := by
  have h := run_eql_ints (P := Tryd.prog) w 48 34 64 .u32 Tryd.underlying48 Tryd.underlying34 (fun w => by kernel_rfl) (fun i => ((l.getD i 0 : Nat) : Int)) (fun i => ((l.getD i 0 : Nat) : Int))
  rw [all_same] at h
  exact h
theorem same_hash (L : List UInt8) (w : World) : (Op.equalIn 10000 23 (.agg (bC 32 L)) (.agg (bC 32 L))).run Tryd.prog w = .ok true w := by
  have h := run_equalIn_ints (P := Tryd.prog) w 9998 23 5 32 .u8 Tryd.underlying23 Tryd.underlying5 (fun w => by kernel_rfl) (fun i => (((L.getD i 0).toNat : Nat) : Int)) (fun i => (((L.getD i 0).toNat : Nat) : Int))
  rw [all_same] at h
  exact h
theorem same_words8 (l : List Nat) (w : World) : (Op.equalIn 10000 56 (.agg (wC 8 l)) (.agg (wC 8 l))).run Tryd.prog w = .ok true w := by
  have h := run_equalIn_ints (P := Tryd.prog) w 9998 56 34 8 .u32 Tryd.underlying56 Tryd.underlying34 (fun w => by kernel_rfl) (fun i => ((l.getD i 0 : Nat) : Int)) (fun i => ((l.getD i 0 : Nat) : Int))
  rw [all_same] at h
  exact h
theorem same_words64 (l : List Nat) (w : World) : (Op.equalIn 10000 48 (.agg (wC 64 l)) (.agg (wC 64 l))).run Tryd.prog w = .ok true w := by
  have h := run_equalIn_ints (P := Tryd.prog) w 9998 48 34 64 .u32 Tryd.underlying48 Tryd.underlying34 (fun w => by kernel_rfl) (fun i => ((l.getD i 0 : Nat) : Int)) (fun i => ((l.getD i 0 : Nat) : Int))
  rw [all_same] at h
  exact h
theorem guard_hash : Tryd.prog.eqGuardType Tryd.prog.depth 23 = false := by kernel_rfl
theorem guard_words8 : Tryd.prog.eqGuardType Tryd.prog.depth 56 = false := by kernel_rfl
theorem guard_words64 : Tryd.prog.eqGuardType Tryd.prog.depth 48 = false := by kernel_rfl
end Go.Proofs.YthngohgfdainaaaDoor
