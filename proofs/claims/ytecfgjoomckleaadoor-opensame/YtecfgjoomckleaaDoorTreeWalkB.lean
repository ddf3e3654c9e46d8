/-
  Contracts of tree.split, tree.Top, tree.Root and of the reference's Top and Root. Conditions: a slice's length and capacity fit; sha's table of round constants stands; leaves of at most a million bytes.
-/
import Derived.Test.YtecfgjoomckleaaDoorTreeWalkA
namespace Go.Proofs.YtecfgjoomckleaaDoor
set_option maxRecDepth 4000
open Go.RowKit

theorem sizeHash (w : World) : (Go.sizeOf 41).run Tryd.prog w = .ok 32 w := by kernel_rfl
theorem run_cutH_left (q : Addr) (n c m : Nat) (w : World) (hm : m ≤ c) :
    (Instr.sliceAt 25 (.slice (some q) n c) none (some (.int .i64 (m : Int))) none).run Tryd.prog w = .ok (.slice (some q) m c) w := by
  have e : Tryd.prog.elem 25 = 41 := by kernel_rfl
  have hs := sizeHash w
  rw [run_sliceAt_slice w 25 _ _ _ _ Tryd.underlying25, run_slice_h w 25 (some q) n c Tryd.underlying25 .i64 (m : Int) (by omega) (by omega), e, hs]
  simp [sliced, Result.andThen, Addr.add]
theorem run_cutH_right (q : Addr) (n c m : Nat) (w : World) (hm : m ≤ n) (hc : m < c) :
    (Instr.sliceAt 25 (.slice (some q) n c) (some (.int .i64 (m : Int))) none none).run Tryd.prog w = .ok (.slice (some (q.add (m * 32))) (n - m) (c - m)) w := by
  have e : Tryd.prog.elem 25 = 41 := by kernel_rfl
  have hs := sizeHash w
  have hne : ¬ c = m := by omega
  rw [run_sliceAt_slice w 25 _ _ _ _ Tryd.underlying25, run_slice_l w 25 (some q) n c Tryd.underlying25 .i64 (m : Int) (by omega) (by omega), e, hs]
  simp [sliced, Result.andThen, hne]

set_option maxHeartbeats 400000 in
theorem treeSplit_any (q : Addr) (n c : Nat) (w : World) (h2 : 2 ≤ n) (hc : n ≤ c) (hm : c ≤ maxLen) :
    Calls Tryd.prog 27 #[.slice (some q) n c] w fun e w' => e = .returned (.tuple #[.slice (some q) (leftN n) c, .slice (some (q.add (leftN n * 32))) (n - leftN n) (c - leftN n)]) ∧ Kept w w' := by
  have hL := shapeLeft_any (n : Int) w (by omega) (by unfold maxLen at hm; omega)
  have hE : leftI (n : Int) = leftN n := rfl
  rw [hE] at hL
  have hlt := leftN_lt h2
  have hCL := run_cutH_left q n c (leftN n)
  have hCR := run_cutH_right q n c (leftN n)
  clear hE
  generalize leftN n = p at hL hlt hCL hCR ⊢
  have HL := Lib.hid hL
  have HCL : Hid (∀ w, _) := Lib.hid fun w => hCL w (by omega)
  have HCR : Hid (∀ w, _) := Lib.hid fun w => hCR w (by omega) (by omega)
  clear hL hCL hCR
  go_enter Tryd.func27, Tryd.ntmps27
  go_wp2_with (go_at_call 20; refine HL.out.mono ?_; rintro e w1 ⟨rfl, rfl⟩)
  have h1 := HCL.out w
  have h3 := HCR.out w
  clear HL HCL HCR
  go_quiet (fail)
  go_wp2_with fail
  go_ret2
  exact ⟨rfl, Kept.refl w⟩

theorem execLoadAt {P : Program} {ty : TypeId} {o : Oper} {t : Array Value} {x : Operand} {w : World} {a u : Value} (ho : o.op = .load ty x) (hx : evS t x = a) (h : (Instr.loadAt ty a).run P w = .ok u w) : (execOp (evS t) o).run P w = .ok (.value u) w := by
  unfold execOp
  simp [ho, hx, h, Result.andThen_ok]
theorem execBuild0 {P : Program} {ty : TypeId} {o : Oper} {t : Array Value} {w w' : World} {u : Value} (ho : o.op = .build ty #[]) (h : (Instr.build ty #[]).run P w = .ok u w') : (execOp (evS t) o).run P w = .ok (.value u) w' := by
  unfold execOp
  simp [ho, h, Result.andThen_ok]
/-- What the recursion asks of trees of fewer leaves. -/
def TopOk (f : FuncId) (n : Nat) : Prop := ∀ (p : Option Addr) (c : Nat) (F : Nat → List UInt8) (w : World), n ≤ c → c ≤ maxLen → HAt w p n F → Tab w →
    Calls Tryd.prog f #[.slice p n c] w fun e w' => e = .returned (.agg (bC 32 (topN F n))) ∧ Kept w w'
theorem zero_hashC : bC 32 [] = bC 32 zeroH := by kernel_rfl
set_option maxRecDepth 100000 in
set_option maxHeartbeats 1000000 in
theorem treeTop_any (n : Nat) : TopOk 21 n := by
  induction n using Nat.strongRecOn with
  | _ n ih =>
    intro p c F w hc hm hF ht
    by_cases h0 : n = 0
    · subst h0
      rw [topN_zero, ← zero_hashC]
      clear ih hF ht
      have R1 := Lib.hid (Rowz.new w (bC 32 []) 41)
      go_enter Tryd.func21, Tryd.ntmps21
      go_wp2_with (first
        | (refine wpList_exec 9 rfl (by rfl) (.agg (bC 32 [])) _ (execBuild0 rfl (run_build0 _)) ?_)
        | (refine wpList_store_row rfl 41 _ _ rfl w.heap.size (bC 32 []) rfl rfl 41 (bC 32 []) R1.out (info_hash _) (by simp [bC_size]) (bC_one _ _) ?_))
      refine bodyPost_ret (v := .agg (bC 32 [])) (results_cell_row Tryd.results21 _ _ w.heap.size 41 _ (0, 0) _ rfl R1.out.row Tryd.underlying41 rfl (info_hash _)) rfl ⟨rfl, ?_⟩
      exact ((Kept.refl w).alloc _).setRow (Nat.le_refl _) _
    · by_cases h1 : n = 1
      · subst h1
        rw [topN_one]
        obtain ⟨q, rfl, _⟩ := hF.some (by omega)
        have R1 := Lib.hid (Rowz.new w (bC 32 []) 41)
        have HF := Lib.hid hF
        clear ih hF ht
        go_enter Tryd.func21, Tryd.ntmps21
        go_wp2_with (first
          | (refine wpList_exec 14 rfl (by rfl) (.agg (bC 32 (F 0))) _ (execLoadAt rfl rfl ((HF.out.kept ((Kept.refl w).alloc _)).load0 (by omega))) ?_)
          | refine wpList_store_row rfl 41 _ _ rfl w.heap.size (bC 32 (F 0)) rfl rfl 41 (bC 32 []) R1.out (info_hash _) (by simp [bC_size]) (bC_one _ _) ?_)
        refine bodyPost_ret (v := .agg (bC 32 (F 0))) (results_cell_row Tryd.results21 _ _ w.heap.size 41 _ (0, 0) _ rfl R1.out.row Tryd.underlying41 rfl (info_hash _)) rfl ⟨rfl, ?_⟩
        exact ((Kept.refl w).alloc _).setRow (Nat.le_refl _) _
      · have h2 : 2 ≤ n := by omega
        obtain ⟨q, rfl, _⟩ := hF.some (by omega)
        have hL := leftN_lt h2
        have hP := leftN_pos h2
        have HSP : Hid (∀ w, _) := Lib.hid fun w => treeSplit_any q n c w h2 hc hm
        have HA : Hid (∀ w, HAt w (some q) n F → Tab w → _) := Lib.hid fun w hF ht => ih (leftN n) hL (some q) c F w (by omega) hm (hF.left _ (by omega)) ht
        have HB : Hid (∀ w, HAt w (some q) n F → Tab w → _) := Lib.hid fun w hF ht => ih (n - leftN n) (by omega) (some (q.add (leftN n * 32))) (c - leftN n) (fun i => F (leftN n + i)) w (by omega) (by omega) (hF.right _ (by omega)) ht
        have hla := topN_length F (leftN n) (fun i hi => hF.length i (by omega))
        have hlb := topN_length (fun i => F (leftN n + i)) (n - leftN n) (fun i hi => hF.length _ (by omega))
        rw [topN_two F h2]
        have HN : Hid (∀ w, Tab w → _) := Lib.hid fun w ht => tagNodeSum_any (topN F (leftN n)) (topN (fun i => F (leftN n + i)) (n - leftN n)) hla hlb w ht
        have hd0 : ((n : Int) == 0) = false := by rw [beq_eq_false_iff_ne]; omega
        have hd1 : ((n : Int) == 1) = false := by rw [beq_eq_false_iff_ne]; omega
        clear ih hla hlb
        generalize topN (fun i => F (leftN n + i)) (n - leftN n) = B at HB HN ⊢
        generalize topN F (leftN n) = A at HA HN ⊢
        generalize leftN n = l at hL hP HSP HA HB
        have K1 := Lib.hid ((Kept.refl w).alloc (.cells (bC 32 []) 41))
        have R1 := Lib.hid (Rowz.new w (bC 32 []) 41)
        have HF := Lib.hid hF
        have HT := Lib.hid ht
        clear hF ht
        go_enter Tryd.func21, Tryd.ntmps21
        go_wp2_with fail
        change Calls _ _ _ (w.alloc (.cells (bC 32 []) 41)) _
        generalize w.alloc (.cells (bC 32 []) 41) = v at K1 R1 ⊢
        refine (HSP.out _).mono ?_
        rintro e v1 ⟨rfl, k1⟩
        have R2 := Lib.hid (R1.out.kept k1)
        have K2 := Lib.hid (K1.out.trans k1)
        clear R1 K1 k1 HSP
        go_wp2_with fail
        refine (HA.out _ (HF.out.kept K2.out) (HT.out.kept K2.out)).mono ?_
        rintro e v2 ⟨rfl, k1⟩
        have R3 := Lib.hid (R2.out.kept k1)
        have K3 := Lib.hid (K2.out.trans k1)
        clear R2 K2 k1 HA
        go_wp2_with fail
        refine (HB.out _ (HF.out.kept K3.out) (HT.out.kept K3.out)).mono ?_
        rintro e v3 ⟨rfl, k1⟩
        have R4 := Lib.hid (R3.out.kept k1)
        have K4 := Lib.hid (K3.out.trans k1)
        clear R3 K3 k1 HB
        go_wp2_with fail
        refine (HN.out _ (HT.out.kept K4.out)).mono ?_
        rintro e v4 ⟨rfl, k1⟩
        have R5 := Lib.hid (R4.out.kept k1)
        have K5 := Lib.hid (K4.out.trans k1)
        clear R4 K4 k1 HN
        go_wp2_with (refine wpList_store_row rfl 41 _ _ rfl w.heap.size (bC 32 (shaL (nodeS A B))) rfl rfl 41 (bC 32 []) R5.out (info_hash _) (by simp [bC_size]) (bC_one _ _) ?_)
        refine bodyPost_ret (v := .agg (bC 32 (shaL (nodeS A B)))) (results_cell_row Tryd.results21 _ _ w.heap.size 41 _ (0, 0) _ rfl R5.out.row Tryd.underlying41 rfl (info_hash _)) rfl ⟨rfl, ?_⟩
        exact K5.out.setRow (Nat.le_refl _) _
end Go.Proofs.YtecfgjoomckleaaDoor
