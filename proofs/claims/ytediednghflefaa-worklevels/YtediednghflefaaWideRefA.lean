/-
  Contracts of milepostref04: Of, one, Len, Cmp. A number is its 256 bits: Bits N.
-/
import Derived.Test.YtediednghflefaaWideWalkA
import Derived.Test.YtediednghflefaaBas
namespace Go.Proofs.Ytediednghflefaa
set_option maxRecDepth 4000
open Go.RowKit

def Bits (N : Nat) (v : Value) (w : World) : Prop := ∃ g cap cur, v = .slice (some ⟨g, 0, none⟩) 256 cap ∧ 256 ≤ cap ∧ Rowz w g cur 4 ∧ ∀ i, i < 256 → cur[i]? = some (.bool (N.testBit i))
theorem bits_kept {N : Nat} : ∀ v w w', Kept w w' → Bits N v w → Bits N v w' := fun _ _ _ hk ⟨g, cap, cur, hv, hc, hr, hb⟩ => ⟨g, cap, cur, hv, hc, hr.kept hk, hb⟩
def bitL (N n : Nat) : List Value := (List.range n).map fun i => .bool (N.testBit i)
theorem bitL_succ (N n : Nat) : bitL N (n + 1) = bitL N n ++ [.bool (N.testBit n)] := by simp [bitL, List.range_succ]
theorem bits_of {N : Nat} {w : World} {base : Nat} {v : Value} (h : w.ownsRow base 4 1 v 256 (bitL N 256)) : Bits N v w := by
  obtain ⟨g, cap, cur, hv, _, hc, hr, hb⟩ := owns_row h (by decide)
  exact ⟨g, cap, cur, hv, hc, hr, fun i hi => by rw [hb i hi]; simp [bitL, hi]⟩
theorem infoBool : (Try.prog.info? 4).map (fun i => (i.zero, i.size, i.bytes)) = some (some (.bool false), 1, 1) := by kernel_rfl
theorem len256 : (256 : Nat) ≤ maxLen := by decide

set_option maxRecDepth 100000 in
set_option maxHeartbeats 2000000 in
theorem refOf4_any (N : Nat) (w : World) :
    Calls Try.prog 14 #[.agg (bC 32 (be 32 N))] w fun e w' => ∃ v, e = .returned v ∧ Bits N v w' ∧ Kept w w' := by
  go_enter Try.func14, Try.ntmps14
  go_wp2
  have R0 : Hid (Rowz (w.alloc (.cells (bC 32 (be 32 N)) 23)) w.heap.size (bC 32 (be 32 N)) 23) := Lib.hid (Rowz.new w _ _)
  have K0 : Hid (Kept w (w.alloc (.cells (bC 32 (be 32 N)) 23))) := Lib.hid ((Kept.refl w).alloc _)
  generalize (w.alloc (.cells (bC 32 (be 32 N)) 23)) = W at R0 K0 ⊢
  go_loopw [3, 4] (fun v i wr => ∃ (k : Nat), k ≤ 32 ∧ i = .int .i64 (31 - (k : Int)) ∧ Hid (wr.ownsRow W.heap.size 4 1 v (8 * k) (bitL N (8 * k))) ∧ Hid (Kept W wr)) (fun _ i _ => (intOf i + 1).toNat)
  case atStart => exact ⟨0, by omega, rfl, Lib.hid (World.ownsRow_nil _ _ _ _), Lib.hid (Kept.refl W)⟩
  case round =>
    obtain ⟨k, hk, rfl, HO, HK⟩ := hrel
    by_cases hlt : k < 32
    · obtain ⟨j, hj⟩ : ∃ j : Nat, j = 31 - k := ⟨_, rfl⟩
      have ej : (31 - (k : Int)) = (j : Int) := by omega
      have hj32 : (j : Int) < 32 := by omega
      rw [ej]
      have hdk : decide ((0 : Int) ≤ (j : Int)) = true := by simp
      have hcell : wr.cell? ⟨w.heap.size, j, none⟩ = some (.int .u8 ((N / 256 ^ k % 256 : Nat) : Int)) := by
        rw [(R0.out.kept HK.out).byte j (by omega), be_getD 32 N j (by omega), show 32 - 1 - j = k by omega]
      have HB := Lib.hid (byte_bit N k)
      have hb : N / 256 ^ k % 256 < 256 := Nat.mod_lt _ (by decide)
      generalize N / 256 ^ k % 256 = b at hcell HB hb
      have HJ := Lib.hid hj
      clear hj ej
      go_wp2
      go_loopw [3, 5, 6] (fun v c q wq => ∃ (p : Nat), p ≤ 8 ∧ q = .int .i64 (p : Int) ∧ c = .int .i64 ((b / 2 ^ p : Nat) : Int) ∧ Hid (wq.ownsRow W.heap.size 4 1 v (8 * k + p) (bitL N (8 * k + p))) ∧ Hid (Kept W wq)) (fun _ _ q _ => 8 - (intOf q).toNat)
      case atStart => exact ⟨0, by omega, rfl, by simp, HO, HK⟩
      case round =>
        clear HO HK hcell
        obtain ⟨p, hp, rfl, rfl, HO, HK⟩ := hrel
        by_cases hp8 : p < 8
        · have hdp : decide ((p : Int) < 8) = true := by simp; omega
          have hbit : (((b / 2 ^ p : Nat) : Int) % 2 == 1) = N.testBit (8 * k + p) := by
            rw [bit_of, ← HB.out p hp8]
            generalize b / 2 ^ p = x
            rcases Nat.mod_two_eq_zero_or_one x with h | h
            · rw [h, show ((x : Int) % 2) = 0 by omega]; rfl
            · rw [h, show ((x : Int) % 2) = 1 by omega]; rfl
          have HC2 : Hid (((b / 2 ^ p : Nat) : Int) / 2 = ((b / 2 ^ (p + 1) : Nat) : Int)) := Lib.hid (by rw [Nat.pow_succ, ← Nat.div_div_eq_div_mul]; omega)
          have HS := Lib.hid (bitL_succ N (8 * k + p))
          have hcb : b / 2 ^ p < 256 := Nat.lt_of_le_of_lt (Nat.div_le_self _ _) hb
          generalize b / 2 ^ p = c at hbit HC2 hcb ⊢
          go_wp2_with (at_builtin; refine wpList_append1 rfl _ _ 30 rfl W 4 (.bool false) 1 Try.underlying30 infoBool rfl _ _ _ rfl HO rfl rfl (by have := len256; omega) (by omega) HK ?_; intro v' w' HO' HK')
          go_roundw
          case rel => exact ⟨p + 1, by omega, by go_num, by rw [← HC2.out], Lib.hid (by rw [show 8 * k + (p + 1) = 8 * k + p + 1 by omega, HS.out]; exact HO'.out), HK'⟩
          case measure => simp [intOf]; omega
        · have hdp : decide ((p : Int) < 8) = false := by simp; omega
          have HO8 : Hid (wr.ownsRow W.heap.size 4 1 u3 (8 * (k + 1)) (bitL N (8 * (k + 1)))) := by
            rw [show 8 * k + p = 8 * (k + 1) by omega] at HO; exact HO
          go_wp2
          go_roundw
          case rel => exact ⟨k + 1, by omega, by have := HJ.out; go_num, HO8, HK⟩
          case measure => simp [intOf]
    · have e : (31 - (k : Int)) = -1 := by omega
      rw [e]
      have ek : k = 32 := by omega
      obtain ⟨g, cap, cur, rfl, hc, hr, hb⟩ := bits_of (by rw [ek] at HO; exact HO.out)
      have HB : Hid (Bits N (.slice (some ⟨g, 0, none⟩) 256 cap) wr) := Lib.hid ⟨g, cap, cur, rfl, hc, hr, hb⟩
      clear hr hb e ek
      go_wp2
      go_ret
      exact ⟨_, rfl, HB.out, K0.out.trans HK.out⟩

set_option maxHeartbeats 800000 in
theorem refCmp4_any (A B : Nat) (v u : Value) (w : World) (hv : Bits A v w) (hu : Bits B u w) (hA : A < 2 ^ 256) (hB : B < 2 ^ 256) :
    Calls Try.prog 17 #[v, u] w fun e w' => e = .returned (.int .i64 (cmpN A B)) ∧ Kept w w' := by
  obtain ⟨g, cap, cur, rfl, hc, hr, hb⟩ := hv
  obtain ⟨g2, cap2, cur2, rfl, hc2, hr2, hb2⟩ := hu
  have HS : Hid (A / 2 ^ 256 = B / 2 ^ 256) := Lib.hid (by rw [Nat.div_eq_of_lt hA, Nat.div_eq_of_lt hB])
  have HR := Lib.hid hr
  have HR2 := Lib.hid hr2
  have HB := Lib.hid hb
  have HB2 := Lib.hid hb2
  clear hA hB hr hb hr2 hb2
  go_enter Try.func17, Try.ntmps17
  go_wp2
  go_loopw [5] (fun i wr => ∃ (k : Nat), k ≤ 256 ∧ i = .int .i64 ((k : Int) - 1) ∧ Hid (A / 2 ^ k = B / 2 ^ k) ∧ Hid (Kept w wr)) (fun i _ => (intOf i + 1).toNat)
  case atStart => exact ⟨256, by omega, rfl, HS, Lib.hid (Kept.refl w)⟩
  case round =>
    clear HS
    obtain ⟨k, hk4, rfl, HS, G0⟩ := hrel
    cases k with
    | zero =>
      have hE : A = B := by have := HS.out; simpa using this
      have hcm := cmpN_eq hE
      clear hE
      go_wp2
      go_ret
      rw [hcm]
      exact ⟨rfl, G0.out⟩
    | succ k =>
      have hk : k < 256 := by omega
      have hki : (k : Int) < 256 := by omega
      have hdk : decide ((0 : Int) ≤ (k : Int)) = true := by simp
      have e1 : (((k + 1 : Nat) : Int) - 1) = (k : Int) := by omega
      rw [e1]
      have c1 : wr.cell? ⟨g, k, none⟩ = some (.bool (A.testBit k)) := by rw [(HR.out.kept G0.out).cell, HB.out k hk]
      have c2 : wr.cell? ⟨g2, k, none⟩ = some (.bool (B.testBit k)) := by rw [(HR2.out.kept G0.out).cell, HB2.out k hk]
      have HL := Lib.hid (bit_less A B k HS.out)
      have HG := Lib.hid (bit_less B A k HS.out.symm)
      have HE := Lib.hid (bit_same A B k HS.out)
      clear e1
      cases ha : A.testBit k with
      | true =>
        cases hbb : B.testBit k with
        | true =>
          rw [ha] at c1; rw [hbb] at c2
          have hS : Hid (A / 2 ^ k = B / 2 ^ k) := Lib.hid (HE.out (by rw [ha, hbb]))
          clear ha hbb HL HG HE
          go_wp2
          go_quiet (fail)
          replace G0 : Hid (Kept w (wr.drewN nq)) := G0
          generalize wr.drewN nq = w2 at G0 ⊢
          go_wp2
          go_roundw
          case rel => exact ⟨k, by omega, by go_num, hS, G0⟩
          case measure => simp [intOf]
        | false =>
          rw [ha] at c1; rw [hbb] at c2
          have hL : Hid (cmpN A B = 1) := Lib.hid (cmpN_gt (HG.out hbb ha))
          clear ha hbb HL HG HE
          go_wp2
          go_quiet (fail)
          replace c1 : (wr.drewN nq).cell? ⟨g, k, none⟩ = some (.bool true) := c1
          replace G0 : Hid (Kept w (wr.drewN nq)) := G0
          generalize wr.drewN nq = w2 at c1 G0 ⊢
          go_wp2
          go_ret
          rw [hL.out]
          exact ⟨rfl, G0.out⟩
      | false =>
        cases hbb : B.testBit k with
        | true =>
          rw [ha] at c1; rw [hbb] at c2
          have hL : Hid (cmpN A B = -1) := Lib.hid (cmpN_lt (HL.out ha hbb))
          clear ha hbb HL HG HE
          go_wp2
          go_quiet (fail)
          replace c1 : (wr.drewN nq).cell? ⟨g, k, none⟩ = some (.bool false) := c1
          replace G0 : Hid (Kept w (wr.drewN nq)) := G0
          generalize wr.drewN nq = w2 at c1 G0 ⊢
          go_wp2
          go_ret
          rw [hL.out]
          exact ⟨rfl, G0.out⟩
        | false =>
          rw [ha] at c1; rw [hbb] at c2
          have hS : Hid (A / 2 ^ k = B / 2 ^ k) := Lib.hid (HE.out (by rw [ha, hbb]))
          clear ha hbb HL HG HE
          go_wp2
          go_quiet (fail)
          replace G0 : Hid (Kept w (wr.drewN nq)) := G0
          generalize wr.drewN nq = w2 at G0 ⊢
          go_wp2
          go_roundw
          case rel => exact ⟨k, by omega, by go_num, hS, G0⟩
          case measure => simp [intOf]
end Go.Proofs.Ytediednghflefaa
