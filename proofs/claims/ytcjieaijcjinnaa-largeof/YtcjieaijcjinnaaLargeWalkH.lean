/-
  large.Wide: a number of 256 bits as one of 320.
-/
import Derived.Test.YtcjieaijcjinnaaLargeWalkD
import Derived.Test.YtcjieaijcjinnaaFactLib
import Derived.Test.YtcjieaijcjinnaaTailLib
import Derived.Laws.CopyRow
namespace Go.Proofs.Ytcjieaijcjinnaa
open Go.RowKit

theorem wpList_copy_row {P : Program} {w : World} {ops : Array Oper} {rest : List Oper} {o : Oper} {a : Act} {Q : Exit → Act → World → Prop} (hgd : o.guard = none) (d x : Operand) (dT sT : TypeId)
    (ho : o.op = .call { callee := .builtin .copy, args := #[d, x], argTypes := #[dT, sT] }) (elem : TypeId) (hu : P.underlying dT = some (.slice elem)) (hs : (P.info? elem).map (·.size) = some 1)
    (g off dLen dCap : Nat) (hd : a.eval d = .slice (some ⟨g, off, none⟩) dLen dCap) (sa : Addr) (sLen sCap : Nat) (hx : a.eval x = .slice (some sa) sLen sCap) (cur : Array Value) (t : TypeId) (hg : Rowz w g cur t)
    (cs : List Value) (hn : cs.length = Nat.min sLen dLen) (hsrc : ∀ j v, cs[j]? = some v → w.cell? (sa.add j) = some v) (hfit : off + cs.length ≤ cur.size) (h1 : ∀ v ∈ cs, v.oneCell' = true)
    (D : Array Value) (hD : (cur.toList.take off ++ cs ++ cur.toList.drop (off + cs.length)).toArray = D)
    (h : wpList P ops Q rest (a.put o.dst (goInt cs.length)) (w.setRow g D)) : wpList P ops Q (o :: rest) a w :=
  wpList_plain hgd fun _ hK => by
    have hrun := run_copy_row (P := P) w dT sT o.type elem g off dLen dCap sa sLen sCap cur t cs hu hs hg hn hsrc hfit h1
    rw [hD] at hrun
    unfold Oper.wp
    simp [execOp, ho, resolve, invoke, builtin, hd, hx, hrun, Result.andThen]
    exact hK _ _ h
theorem lC_wide (N : Nat) (hN : N < 2 ^ 256) : ((lC 0 0).toList.take 0 ++ (nC N 4).toList ++ (lC 0 0).toList.drop (0 + (nC N 4).toList.length)).toArray = lC N 5 := by
  have h4 := lmb_high N 4 hN (by omega)
  simp [lC, nC, List.range, List.range.loop, h4]
theorem run_all5w (b : Nat) (w : World) : (Instr.sliceAt 24 (.pointer (some ⟨b, 0, none⟩)) none none none).run Try.prog w = .ok (.slice (some ⟨b, 0, none⟩) 5 5) w := by kernel_rfl
theorem run_all4 (b : Nat) (w : World) : (Instr.sliceAt 47 (.pointer (some ⟨b, 0, none⟩)) none none none).run Try.prog w = .ok (.slice (some ⟨b, 0, none⟩) 4 4) w := by kernel_rfl
set_option maxRecDepth 100000 in
set_option maxHeartbeats 800000 in
theorem largeWide_any (N : Nat) (w : World) (hN : N < 2 ^ 256) :
    Calls Try.prog 25 #[.agg (nC N 4)] w fun e w' => e = .returned (.agg (lC N 5)) ∧ Kept w w' := by
  have HD := Lib.hid (lC_wide N hN)
  clear hN
  go_enter Try.func25, Try.ntmps25
  go_wp2_with fail
  have R0 := Rowz.new w (nC N 4) 47
  have R1 := Rowz.new (w.alloc (.cells (nC N 4) 47)) (lC 0 0) 24
  have R2 := Rowz.new ((w.alloc (.cells (nC N 4) 47)).alloc (.cells (lC 0 0) 24)) (lC 0 0) 24
  have e1 : (w.alloc (.cells (nC N 4) 47)).heap.size = w.heap.size + 1 := by simp
  have e2 : ((w.alloc (.cells (nC N 4) 47)).alloc (.cells (lC 0 0) 24)).heap.size = w.heap.size + 1 + 1 := by simp
  rw [e1] at R1
  rw [e2] at R2
  have F0 := Lib.hid ((R0.alloc (.cells (lC 0 0) 24)).alloc (.cells (lC 0 0) 24))
  have F1 := Lib.hid (R1.alloc (.cells (lC 0 0) 24))
  have F2 := Lib.hid R2
  have K0 := Lib.hid ((((Kept.refl w).alloc (.cells (nC N 4) 47)).alloc (.cells (lC 0 0) 24)).alloc (.cells (lC 0 0) 24))
  have ez : (Obj.cells (lC 0 0) 24) = (Obj.cells #[.int .u64 0, .int .u64 0, .int .u64 0, .int .u64 0, .int .u64 0] 24) := by kernel_rfl
  rw [ez] at F0 F1 F2 K0
  clear R0 R1 R2 e1 e2 ez
  generalize ((w.alloc (.cells (nC N 4) 47)).alloc _).alloc _ = v at F0 F1 F2 K0 ⊢
  refine wp_region_tail 2 [(4, .is (.slice (some ⟨w.heap.size + 1 + 1, 0, none⟩) 5 5)), (5, .is (.slice (some ⟨w.heap.size, 0, none⟩) 4 4))] (by kernel_rfl) (by kernel_rfl) ?_ ?_
  · refine ⟨fun t w1 hf hk hp => ?_, ?_⟩
    · have h3 : slot t 3 = .pointer (some ⟨w.heap.size + 1 + 1, 0, none⟩) := hf 3 (by kernel_rfl)
      clear hf hp
      refine stepM_at (by kernel_rfl) ?_
      refine stepAt_plain rfl ?_
      have hq0 := run_all5w (w.heap.size + 1 + 1) w1
      exact stepOK_sem (.slice (some ⟨w.heap.size + 1 + 1, 0, none⟩) 5 5) (by simp only [execOp, evS, Option.map_none, h3]) hq0 rfl
    refine ⟨fun t w1 hf hk hp => ?_, ?_⟩
    · have h1 : slot t 1 = .pointer (some ⟨w.heap.size, 0, none⟩) := hf 1 (by kernel_rfl)
      clear hf hp
      refine stepM_at (by kernel_rfl) ?_
      refine stepAt_plain rfl ?_
      have hq0 := run_all4 w.heap.size w1
      exact stepOK_sem (.slice (some ⟨w.heap.size, 0, none⟩) 4 4) (by simp only [execOp, evS, Option.map_none, h1]) hq0 rfl
    exact trivial
  · intro t w1 hsz hf hk hfacts
    have h4 : slot t 4 = .slice (some ⟨w.heap.size + 1 + 1, 0, none⟩) 5 5 := hfacts 0 _ (by decide) rfl 4 rfl
    have h5 : slot t 5 = .slice (some ⟨w.heap.size, 0, none⟩) 4 4 := hfacts 1 _ (by decide) rfl 5 rfl
    have h1 : slot t 1 = .pointer (some ⟨w.heap.size, 0, none⟩) := hf 1 (by kernel_rfl)
    have h2 : slot t 2 = .pointer (some ⟨w.heap.size + 1, 0, none⟩) := hf 2 (by kernel_rfl)
    have h3 : slot t 3 = .pointer (some ⟨w.heap.size + 1 + 1, 0, none⟩) := hf 3 (by kernel_rfl)
    have harr : t = #[slot t 0, slot t 1, slot t 2, slot t 3, slot t 4, slot t 5, slot t 6, slot t 7] := arr_eq t 8 hsz
    rw [harr, h4, h5, h1, h2, h3]
    clear harr hfacts hf h4 h5 h1 h2 h3
    generalize slot t 0 = x0; generalize slot t 6 = x6; generalize slot t 7 = x7
    clear hsz t
    simp only [List.drop_succ_cons, List.drop_zero]
    have G0 := Lib.hid (F0.out.kept hk)
    have G1 := Lib.hid (F1.out.kept hk)
    have G2 := Lib.hid (F2.out.kept hk)
    have K1 := Lib.hid (K0.out.trans hk)
    clear F0 F1 F2 K0 hk
    refine wpList_copy_row rfl _ _ 28 28 rfl 22 Try.underlying28 (by kernel_rfl) (w.heap.size + 1 + 1) 0 5 5 rfl ⟨w.heap.size, 0, none⟩ 4 4 rfl (lC 0 0) 24 G2.out (nC N 4).toList (by simp [nC_size]) ?_ (by simp [nC_size, lC_size]) ?_ _ HD.out ?_
    · intro j v hj
      rw [show (⟨w.heap.size, 0, none⟩ : Addr).add j = ⟨w.heap.size, j, none⟩ by unfold Addr.add; split <;> simp_all, G0.out.cell]
      simpa using hj
    · have h := nC_one N 4
      rw [Array.all_eq_true_iff_forall_mem] at h
      exact fun v hv => h v (by simpa using hv)
    have R2 := Lib.hid (G2.out.row (D := lC N 5))
    have R1 := Lib.hid (G1.out.rowOther (D := lC N 5) (show w.heap.size + 1 ≠ w.heap.size + 1 + 1 by omega))
    have K2 := Lib.hid (K1.out.setRow (show w.heap.size ≤ w.heap.size + 1 + 1 by omega) (lC N 5))
    clear G0 G1 G2 K1
    generalize w1.setRow (w.heap.size + 1 + 1) (lC N 5) = v2 at R1 R2 K2 ⊢
    go_wp2_with (first
      | (refine wpList_load_row rfl 24 (.tmp 3) rfl (w.heap.size + 1 + 1) rfl 24 (lC N 5) (0, 0) _ R2.out Try.underlying24 rfl (infoL _ _) ?_)
      | (refine wpList_store_row rfl 24 _ _ rfl (w.heap.size + 1) (lC N 5) rfl rfl 24 (lC 0 0) R1.out (infoL _ _) (by simp [lC_size]) (lC_one _ _) ?_))
    refine bodyPost_ret (v := .agg (lC N 5)) (results_cell_row Try.results25 _ _ (w.heap.size + 1) 24 _ (0, 0) _ rfl R1.out.row Try.underlying24 rfl (infoL _ _)) rfl ⟨rfl, ?_⟩
    exact K2.out.setRow (by omega) _
end Go.Proofs.Ytcjieaijcjinnaa
