/-
  A slice of records {int, string, uint64, hash} among the arguments (35 cells each), and a record loaded out of it. No condition.
-/
import Derived.Test.YtmccpbpnpdidbaaLawLibC
import Derived.Test.YtmccpbpnpdidbaaBufDo
namespace Go.Proofs.Ytmccpbpnpdidbaa
open Go.ChangeShapes Go.WideShapes Go.ChangeAt Go.RowKit

section
variable {H : Type} {enc : TypeId × Value → H} {P : Program} {W : World} {base : Nat} {sp : Nat → Bool} {held : Bool}
theorem open_recL {t e : TypeId} {f0 f1 f2 f3 : Field} {fuel : Nat} {cs : List Value} {x : DataW H × List MemPlace} (ht : P.underlying t = some (.struct #[f0, f1, f2, f3])) (hct : P.cellsOf t = 35)
    (ho : f0.offset = 0 ∧ f1.offset = 1 ∧ f2.offset = 2 ∧ f3.offset = 3) (hc : P.cellsOf f0.type = 1 ∧ P.cellsOf f1.type = 1 ∧ P.cellsOf f2.type = 1 ∧ P.cellsOf f3.type = 32)
    (u0 : P.underlying f0.type = some (.int .i64)) (u1 : P.underlying f1.type = some .string) (u2 : P.underlying f2.type = some (.int .u64)) (u3 : P.underlying f3.type = some (.array 32 e)) (ue : P.underlying e = some (.int .u8)) (ce : P.cellsOf e = 1)
    (h : DataW.trod enc P W base sp held fuel t cs = some x) :
    ∃ (k : Int) (S : ByteArray) (n : Nat) (l : List UInt8), (S.size ≤ maxLen ∧ n < 18446744073709551616 ∧ l.length = 32) ∧ cs = (stp k S n l).toList := by
  obtain ⟨o0, o1, o2, o3⟩ := ho
  obtain ⟨c0, c1, c2, c3⟩ := hc
  obtain ⟨xs, m, _, _, hl, hlen, hf⟩ := DataW.trod_struct ht h
  rw [hct] at hl
  match xs, hlen, cs, hl with
  | [y0, y1, y2, y3], _, v0 :: v1 :: v2 :: r, hl =>
    have g0 := hf 0 f0 rfl
    have g1 := hf 1 f1 rfl
    have g2 := hf 2 f2 rfl
    have g3 := hf 3 f3 rfl
    simp [o0, o1, o2, o3, c0, c1, c2, c3] at g0 g1 g2 g3
    have hr : r.length = 32 := by simpa using hl
    rw [List.take_of_length_le (by omega)] at g3
    obtain ⟨z0, e0, _, w0⟩ := DataW.trod_int u0 g0
    obtain ⟨z1, e1, _, w1⟩ := DataW.trod_string u1 g1
    obtain ⟨z2, e2, _, w2⟩ := DataW.trod_int u2 g2
    have hT : DataW.Trod enc P W base sp held f3.type (.agg r.toArray) y3.1 y3.2 := ⟨m, g3⟩
    obtain ⟨l, hl32, er⟩ := open_hash u3 ue ce c3 hT
    have b2 := bounds_u64 w2
    refine ⟨z0, z1, z2.toNat, l, ⟨w1, by omega, hl32⟩, ?_⟩
    have er' : r = (bC 32 l).toList := by rw [← er]
    rw [(List.cons.inj e0).1, (List.cons.inj e1).1, (List.cons.inj e2).1, er', stp]
    simp
    omega
/-- Step i of a slice of steps, wherever it lies. -/
def StepAt9 (w : World) (p : Option Addr) (i : Nat) (k : Int) (S : ByteArray) (n : Nat) (h : List UInt8) : Prop :=
  ∃ q : Addr, p = some q ∧ q.block < w.heap.size ∧ ∀ j v, (stp k S n h).toList[j]? = some v → w.cell? (q.add (i * 35 + j)) = some v
theorem open_recsArg {t s e : TypeId} {f0 f1 f2 f3 : Field} {v : Value} {d : DataW H} {ps : List MemPlace} (hs : P.underlying s = some (.slice t)) (ht : P.underlying t = some (.struct #[f0, f1, f2, f3])) (hct : P.cellsOf t = 35)
    (ho : f0.offset = 0 ∧ f1.offset = 1 ∧ f2.offset = 2 ∧ f3.offset = 3) (hc : P.cellsOf f0.type = 1 ∧ P.cellsOf f1.type = 1 ∧ P.cellsOf f2.type = 1 ∧ P.cellsOf f3.type = 32)
    (u0 : P.underlying f0.type = some (.int .i64)) (u1 : P.underlying f1.type = some .string) (u2 : P.underlying f2.type = some (.int .u64)) (u3 : P.underlying f3.type = some (.array 32 e)) (ue : P.underlying e = some (.int .u8)) (ce : P.cellsOf e = 1)
    (hv : Value.okWide P W .any base s v) (h : DataW.Trod enc P W 0 sp held s v d ps) :
    ∃ (p : Option Addr) (n c : Nat), n ≤ maxLen ∧ v = .slice p n c ∧
      ∀ i, i < n → ∃ (k : Int) (S : ByteArray) (m : Nat) (l : List UInt8), (S.size ≤ maxLen ∧ m < 18446744073709551616 ∧ l.length = 32) ∧ StepAt9 W p i k S m l := by
  obtain ⟨a0, len, cap, rfl⟩ := okWide_slice hs hv
  obtain ⟨fuel, hf⟩ := h
  rcases Deep.open_slice hs hf with ⟨hcs, _⟩ | ⟨a, len', cap', m, n, D, Pl, hcs, _, hl, hm, hmm, _, hx⟩
  · have e1 : [Value.slice a0 len cap] = [Value.slice none 0 0] := hcs
    simp only [List.cons.injEq, Value.slice.injEq, and_true] at e1
    obtain ⟨rfl, rfl, rfl⟩ := e1
    exact ⟨none, 0, 0, Nat.zero_le _, rfl, fun i hi => absurd hi (Nat.not_lt_zero _)⟩
  · have e1 : [Value.slice a0 len cap] = [Value.slice (some a) len' cap'] := hcs
    simp only [List.cons.injEq, Value.slice.injEq, and_true] at e1
    obtain ⟨rfl, rfl, rfl⟩ := e1
    have hlm : len ≤ m := by rw [hmm]; split <;> omega
    refine ⟨some a, len, cap, Nat.le_trans hl hm, rfl, fun i hi => ?_⟩
    obtain ⟨cs', h1, h2⟩ := hx i (by omega)
    obtain ⟨k, S, n, l, hw, ecs⟩ := open_recL ht hct ho hc u0 u1 u2 u3 ue ce h2
    rw [hct] at h1
    obtain ⟨_, hlen, hcell⟩ := World.cells?_some h1
    rw [ecs] at hlen hcell
    have hall : ∀ j v, (stp k S n l).toList[j]? = some v → W.cell? (a.add (i * 35 + j)) = some v := by
      intro j v hj
      have hj35 : j < 35 := by
        rw [← hlen]
        exact (List.getElem?_eq_some_iff.1 hj).1
      have hc := hcell j hj35
      rw [Deep.add_add] at hc
      rw [hc, hj]
    refine ⟨k, S, n, l, hw, a, rfl, ?_, hall⟩
    have hz : (stp k S n l).toList[0]? = some (.int .i64 k) := by
      rw [Array.getElem?_toList, stp, Array.getElem?_append_left (by simp)]; rfl
    have := lt_of_cell (hall 0 _ hz)
    rwa [add_block] at this
end
theorem StepAt9.kept {w w' : World} {p : Option Addr} {i : Nat} {k : Int} {S : ByteArray} {n : Nat} {h : List UInt8} (hs : StepAt9 w p i k S n h) (K : Kept w w') : StepAt9 w' p i k S n h := by
  obtain ⟨q, rfl, hb, hc⟩ := hs
  refine ⟨q, rfl, Nat.lt_of_lt_of_le hb K.size, fun j v hj => ?_⟩
  rw [Kept.cellAt K _ (by rw [add_block]; exact hb)]
  exact hc j v hj
theorem StepAt9.str {w : World} {q : Addr} {i : Nat} {k : Int} {S : ByteArray} {n : Nat} {h : List UInt8} (hs : StepAt9 w (some q) i k S n h) : w.cell? (q.add (i * 35 + 1)) = some (.string S) := by
  obtain ⟨q', e, _, hc⟩ := hs
  obtain rfl := Option.some.inj e
  refine hc 1 _ ?_
  rw [Array.getElem?_toList, stp, Array.getElem?_append_left (by simp)]; rfl
theorem StepAt9.load {w : World} {q : Addr} {i : Nat} {k : Int} {S : ByteArray} {n : Nat} {h : List UInt8} (hs : StepAt9 w (some q) i k S n h) :
    (Instr.loadAt 35 (.pointer (some (q.add (i * 35))))).run Try.prog w = .ok (.agg (stp k S n h)) w := by
  obtain ⟨q', e, _, hc⟩ := hs
  obtain rfl := Option.some.inj e
  have h1 := run_loadCells_list (P := Try.prog) w (q.add (i * 35)) (stp k S n h).toList (fun j v hj => by rw [Deep.add_add]; exact hc j v hj)
  rw [Array.length_toList, stp_size, Array.toArray_toList] at h1
  have hagg : (isAgg 35).run Try.prog w = .ok true w := by
    unfold isAgg
    rw [Sem.run_bind, run_underlying Try.underlying35 w]
    rfl
  have hsz : (Go.sizeOf 35).run Try.prog w = .ok 35 w := by kernel_rfl
  simp only [Instr.loadAt, Instr.sureAddr, Sem.run_bind, Sem.run_pure, Result.andThen_ok, loadVar, hagg, hsz, h1, if_true]
end Go.Proofs.Ytmccpbpnpdidbaa
