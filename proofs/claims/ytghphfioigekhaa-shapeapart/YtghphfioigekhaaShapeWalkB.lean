/-
  Contracts of shape.down: the value that it makes is an iterator that yields the path down, step by step.
-/
import Derived.Test.YtghphfioigekhaaShapeWalkA
import Derived.RangeFuncNested
import Derived.RangeFuncBound
import Derived.RangeFuncCalls
import Derived.RangeFuncLeaves
import Derived.Shelf.Abstract
import Derived.Shelf.RegionOpen
import Derived.WalkKit
import Derived.OwnWalkIn
import Derived.TacticsInMore
import Derived.LoopNIn
import Derived.LoopIn
import Derived.RangeFuncBox
import Derived.BigQuiet
namespace Go.Proofs.Ytghphfioigekhaa
open Go.RowKit Go.Shelf
attribute [local go_sem] Oper.semAt_some

set_option maxHeartbeats 1000000 in
/-- down(n, i): both parameters are boxed; the function value captures the boxes. -/
theorem shapeDown_in (k : Nat) (n i : Int) (w : World) :
    CallsIn Fence.wide k Try.prog 14 #[.int .i64 n, .int .i64 i] w fun e w' => e = .returned (.func (.func 15) #[] #[.pointer (some ⟨w.heap.size, 0, none⟩), .pointer (some ⟨w.heap.size + 1, 0, none⟩)]) ∧ w' = (w.alloc (.cells #[.int .i64 n] 3)).alloc (.cells #[.int .i64 i] 3) := by
  refine callsIn_of_wp Try.func14 rfl trivial ?_ rfl
  simp only [Try.ntmps14, List.size_toArray, List.length_cons, List.length_nil, Nat.reduceAdd, Nat.reduceSub, Array.replicate_succ, Array.replicate_zero, List.push_toArray, List.append_toArray, List.nil_append, List.cons_append]
  gi_wp2
  go_ret
  exact ⟨rfl, rfl⟩

/-- Leaf a of b leaves is still to be reached, and what has come is the rest of the way. -/
def Way (n i : Nat) (pre : List Bool) (b a : Nat) : Prop := a < b ∧ b ≤ n ∧ dn n i = pre ++ dn b a
theorem Way.start {n i : Nat} (h : i < n) : Way n i [] n i := ⟨h, Nat.le_refl _, rfl⟩
theorem Way.left {n i : Nat} {pre : List Bool} {b a : Nat} (h : Way n i pre b a) (h2 : 2 ≤ b) (hl : a < leftN b) : Way n i (pre ++ [false]) (leftN b) a :=
  ⟨hl, by have := leftN_lt h2; have := h.2.1; omega, by rw [h.2.2, dn_left h2 hl]; simp⟩
theorem Way.right {n i : Nat} {pre : List Bool} {b a : Nat} (h : Way n i pre b a) (h2 : 2 ≤ b) (hl : leftN b ≤ a) : Way n i (pre ++ [true]) (b - leftN b) (a - leftN b) :=
  ⟨by have := h.1; have := leftN_lt h2; omega, by have := h.2.1; omega, by rw [h.2.2, dn_right h2 hl]; simp⟩
theorem Way.done {n i : Nat} {pre : List Bool} {b a : Nat} (h : Way n i pre b a) (h2 : b < 2) : pre = dn n i := by rw [h.2.2, dn_one _ h2]; simp
theorem Way.len {n i : Nat} {pre : List Bool} {b a : Nat} (h : Way n i pre b a) (h2 : 2 ≤ b) : pre.length < (dn n i).length := by
  rw [h.2.2]
  rcases Nat.lt_or_ge a (leftN b) with hl | hl
  · rw [dn_left h2 hl]; simp
  · rw [dn_right h2 hl]; simp
theorem Way.pre {n i : Nat} {pre : List Bool} {b a : Nat} (h : Way n i pre b a) : pre <+: dn n i := ⟨_, h.2.2.symm⟩

set_option maxRecDepth 100000 in
set_option maxHeartbeats 2000000 in
/-- The iterator: for every loop body. -/
theorem shapeDown1_in (k l Bn Bi n i : Nat) (hk : 1 ≤ k) (hn : n < 9223372036854775808) (hi : i < n) (J Jx : List Bool → World → Prop)
    (hJ : ∀ s (W : World) q, J s W → J s (W.drewN q))
    (hY : ∀ pre x W, J pre W → pre.length < (dn n i).length → YieldAt Fence.wide (k - 1) Try.prog l #[.bool x] W fun e W' =>
      (e = .returned (.bool true) ∧ J (pre ++ [x]) W' ∧ KeepsWalks W W') ∨ (e = .returned (.bool false) ∧ Jx (pre ++ [x]) W'))
    (W : World) (hBn : W.cell? ⟨Bn, 0, none⟩ = some (.int .i64 (n : Int))) (hBi : W.cell? ⟨Bi, 0, none⟩ = some (.int .i64 (i : Int))) (h0 : J [] W) :
    CallsIn Fence.wide k Try.prog 15 #[.func (.yield l) #[] #[], .pointer (some ⟨Bn, 0, none⟩), .pointer (some ⟨Bi, 0, none⟩)] W fun e W' => (∃ v, e = .returned v) ∧
      ((∃ ys, ys = dn n i ∧ J ys W') ∨ (∃ pre, pre <+: dn n i ∧ Jx pre W')) := by
  have HY := Lib.hid hY
  clear hY
  have HJ := Lib.hid hJ
  clear hJ
  refine callsIn_of_wp Try.func15 rfl trivial ?_ rfl
  simp only [Try.ntmps15, List.size_toArray, List.length_cons, List.length_nil, Nat.reduceAdd, Nat.reduceSub, Array.replicate_succ, Array.replicate_zero, List.push_toArray, List.append_toArray, List.nil_append, List.cons_append]
  gi_wp2
  refine wpIn_wide.2 ?_
  go_quiet (fail)
  replace h0 : Hid (J [] (W.drewN nq)) := Lib.hid (HJ.out _ _ _ h0)
  clear hBn hBi HJ
  generalize W.drewN nq = W2 at h0 ⊢
  gi_wp2
  gi_loopw [4, 5] (fun u v wr => ∃ (b a : Nat) (pre : List Bool), u = .int .i64 (b : Int) ∧ v = .int .i64 (a : Int) ∧ Hid (Way n i pre b a) ∧ Hid (J pre wr)) (fun u _ _ => (intOf u).toNat)
  case atStart => exact ⟨n, i, [], rfl, rfl, Lib.hid (Way.start hi), h0⟩
  case round =>
    clear h0
    obtain ⟨b, a, pre, rfl, rfl, HW, HJ⟩ := hrel
    have hbn := HW.out.2.1
    have hab := HW.out.1
    by_cases h2 : b < 2
    · have hd : decide ((b : Int) > 1) = false := decide_eq_false (by omega)
      have HE := Lib.hid (HW.out.done h2)
      gi_wp2
      go_end0
      exact ⟨⟨_, rfl⟩, .inl ⟨pre, HE.out, HJ.out⟩⟩
    · have hd : decide ((b : Int) > 1) = true := decide_eq_true (by omega)
      obtain ⟨p, hp⟩ : ∃ p, p = leftN b := ⟨_, rfl⟩
      have HL : Hid (∀ w, CallsIn Fence.wide (k - 1) Try.prog 6 #[.int .i64 (b : Int)] w fun e w' => e = .returned (.int .i64 (p : Int)) ∧ w = w') := Lib.hid fun w => by
        have h := shapeLeft_any (b : Int) w (by omega) (by omega)
        rw [show leftI (b : Int) = p from hp.symm] at h
        exact callsIn_wide.2 h
      have hp0 : 0 < p := by rw [hp]; exact leftN_pos (by omega)
      have hpb : p < b := by rw [hp]; exact leftN_lt (by omega)
      have hlen := HW.out.len (by omega)
      by_cases hr : p ≤ a
      · have hd2 : decide ((a : Int) ≥ (p : Int)) = true := decide_eq_true (by omega)
        have HN : Hid (Way n i (pre ++ [true]) (b - p) (a - p)) := Lib.hid (by have := HW.out.right (by omega) (hp ▸ hr); rwa [← hp] at this)
        obtain ⟨fn, tmps, assign, body, hy, hR⟩ := HY.out pre true wr HJ.out hlen
        replace hp := Lib.hid hp
        clear hlen
        gi_wp2_with (refine ⟨trivial, ?_⟩; gi_at_call 6; refine (HL.out _).mono ?_; rintro e w' ⟨rfl, rfl⟩)
        refine hR.mono ?_
        rintro e W3 (⟨rfl, hJ3, hk3⟩ | ⟨rfl, hJx3⟩)
        · replace hJ3 := Lib.hid hJ3
          clear hk3 hy
          gi_wp2
          go_roundw
          case rel => exact ⟨b - p, a - p, pre ++ [true], by congr 1; omega, by congr 1; omega, HN, hJ3⟩
          case measure => simp [intOf]; omega
        · gi_wp2
          refine bodyPost_ret (results_none rfl _ _ _) rfl ?_
          exact ⟨⟨_, rfl⟩, .inr ⟨pre ++ [true], HN.out.pre, hJx3⟩⟩
      · have hd2 : decide ((a : Int) ≥ (p : Int)) = false := decide_eq_false (by omega)
        have HN : Hid (Way n i (pre ++ [false]) p a) := Lib.hid (by have := HW.out.left (by omega) (by omega : a < leftN b); rwa [← hp] at this)
        obtain ⟨fn, tmps, assign, body, hy, hR⟩ := HY.out pre false wr HJ.out hlen
        replace hp := Lib.hid hp
        clear hlen
        gi_wp2_with (refine ⟨trivial, ?_⟩; gi_at_call 6; refine (HL.out _).mono ?_; rintro e w' ⟨rfl, rfl⟩)
        refine hR.mono ?_
        rintro e W3 (⟨rfl, hJ3, hk3⟩ | ⟨rfl, hJx3⟩)
        · replace hJ3 := Lib.hid hJ3
          clear hk3 hy
          gi_wp2
          go_roundw
          case rel => exact ⟨p, a, pre ++ [false], rfl, rfl, HN, hJ3⟩
          case measure => simp [intOf]; omega
        · gi_wp2
          refine bodyPost_ret (results_none rfl _ _ _) rfl ?_
          exact ⟨⟨_, rfl⟩, .inr ⟨pre ++ [false], HN.out.pre, hJx3⟩⟩

/-- The value that down makes: an iterator of the path down. -/
theorem shapeDown_stops (k Bn Bi n i : Nat) (hk : 1 ≤ k) (hn : n < 9223372036854775808) (hi : i < n) (w : World) (hBn : Bn < w.heap.size) (hBi : Bi < w.heap.size)
    (cn : w.cell? ⟨Bn, 0, none⟩ = some (.int .i64 (n : Int))) (ci : w.cell? ⟨Bi, 0, none⟩ = some (.int .i64 (i : Int))) :
    SeqStopsK Fence.wide k Try.prog 15 #[.pointer (some ⟨Bn, 0, none⟩), .pointer (some ⟨Bi, 0, none⟩)] (fun x : Bool => #[Value.bool x]) KeepsWalks (fun ys => ys = dn n i) (fun pre => pre <+: dn n i) (dn n i).length w := fun l J Jx W hW hJ _ hY h0 =>
  shapeDown1_in k l Bn Bi n i hk hn hi J Jx (fun s W q h => hJ s W (W.drewN q) none h ⟨rfl, rfl, rfl, Nat.le_refl _, fun _ _ _ => rfl⟩ (fun _ e => by cases e)) hY W ((hW.cell (p := ⟨Bn, 0, none⟩) hBn).trans cn) ((hW.cell (p := ⟨Bi, 0, none⟩) hBi).trans ci) h0
end Go.Proofs.Ytghphfioigekhaa
