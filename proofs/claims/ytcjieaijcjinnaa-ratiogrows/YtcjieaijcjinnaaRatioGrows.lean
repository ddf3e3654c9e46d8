/-
  What is above is at least, and a greater number, a greater power or less of the others keep both, at every input; chapter 6's examples hold: 'RatioGrows' returns true.
  Conditions: none.
-/
import Derived.Test.YtcjieaijcjinnaaRows
import Derived.Test.YtcjieaijcjinnaaRatioLaw
import Derived.WalkKit
import Derived.ProofKit
import Derived.OpenShut
import Derived.ShutString
import Derived.SizedLaws
import Derived.Test.YtcjieaijcjinnaaLawLib
namespace Go.Proofs.Ytcjieaijcjinnaa.ratioGrows
open Go.ChangeShapes Go.WideShapes Go.ChangeAt Go.RowKit
open Go.ChangeMaps (open_string shut_string)
set_option linter.unusedVariables false

theorem own : ownKnob Try.prog.godebug = none := by kernel_rfl
theorem laidOut : laidOutB Try.prog = true := by kernel_rfl

set_option maxRecDepth 100000 in
set_option maxHeartbeats 4000000 in
theorem walk (a0_0 : Int) (w0_0 : (Lit.int .u32 a0_0).wf = true) (a0_1 : Int) (w0_1 : (Lit.int .u32 a0_1).wf = true) (a0_2 : Int) (w0_2 : (Lit.int .u32 a0_2).wf = true) (a0_3 : Int) (w0_3 : (Lit.int .u32 a0_3).wf = true) (a1_0 : Int) (w1_0 : (Lit.int .i64 a1_0).wf = true) (a1_1 : Int) (w1_1 : (Lit.int .i64 a1_1).wf = true) (a2_0 : Int) (w2_0 : (Lit.int .i64 a2_0).wf = true) (a2_1 : Int) (w2_1 : (Lit.int .i64 a2_1).wf = true) (w : World)  :
    Calls Try.prog 9 #[.agg #[.int .u32 a0_0, .int .u32 a0_1, .int .u32 a0_2, .int .u32 a0_3], .agg #[.int .i64 a1_0, .int .i64 a1_1], .agg #[.int .i64 a2_0, .int .i64 a2_1]] w fun e w' => e = .returned (.bool true) ∧ Kept w w' := by
  obtain ⟨n0, rfl⟩ : ∃ n : Nat, a0_0 = (n : Int) := ⟨a0_0.toNat, by have := bounds_u32 w0_0; omega⟩
  obtain ⟨n1, rfl⟩ : ∃ n : Nat, a0_1 = (n : Int) := ⟨a0_1.toNat, by have := bounds_u32 w0_1; omega⟩
  obtain ⟨o0, rfl⟩ : ∃ n : Nat, a0_2 = (n : Int) := ⟨a0_2.toNat, by have := bounds_u32 w0_2; omega⟩
  obtain ⟨o1, rfl⟩ : ∃ n : Nat, a0_3 = (n : Int) := ⟨a0_3.toNat, by have := bounds_u32 w0_3; omega⟩
  have hn0 : n0 < 4294967296 := by have := bounds_u32 w0_0; omega
  have hn1 : n1 < 4294967296 := by have := bounds_u32 w0_1; omega
  have ho0 : o0 < 4294967296 := by have := bounds_u32 w0_2; omega
  have ho1 : o1 < 4294967296 := by have := bounds_u32 w0_3; omega
  obtain ⟨hb1, hb2⟩ := bounds_i64 w2_1
  have CA0 := Lib.hid fun w => above_any n0 o0 a1_0 a2_0 a2_1 w hn0 ho0 hb1 hb2
  have CL0 := Lib.hid fun w => least_any n0 o0 a1_0 a2_0 a2_1 w hn0 ho0 hb1 hb2
  have CA1 := Lib.hid fun w => above_any n1 o1 a1_1 a2_0 a2_1 w hn1 ho1 hb1 hb2
  have CL1 := Lib.hid fun w => least_any n1 o1 a1_1 a2_0 a2_1 w hn1 ho1 hb1 hb2
  have HAL := Lib.hid (above_least n0 o0 a1_0 a2_0 a2_1)
  have HAG := Lib.hid (fun h1 h2 h3 h4 h5 => above_grow n0 n1 o0 o1 a1_0 a1_1 a2_0 a2_1 h1 h2 h3 h4 h5)
  have HLG := Lib.hid (fun h1 h2 h3 h4 h5 => least_grow n0 n1 o0 o1 a1_0 a1_1 a2_0 a2_1 h1 h2 h3 h4 h5)
  generalize aboveB n0 o0 a1_0 a2_0 a2_1 = A0 at CA0 HAL HAG
  generalize leastB n0 o0 a1_0 a2_0 a2_1 = L0 at CL0 HAL HLG
  generalize aboveB n1 o1 a1_1 a2_0 a2_1 = A1 at CA1 HAG
  generalize leastB n1 o1 a1_1 a2_0 a2_1 = L1 at CL1 HLG
  clear w0_0 w0_1 w0_2 w0_3 w1_0 w1_1 w2_0 w2_1 hn0 hn1 ho0 ho1 hb1 hb2
  have F0 := Rowz.new w #[.int .u32 (n0 : Int), .int .u32 (n1 : Int), .int .u32 (o0 : Int), .int .u32 (o1 : Int)] 65
  have F1 := Rowz.new (w.alloc (.cells #[.int .u32 (n0 : Int), .int .u32 (n1 : Int), .int .u32 (o0 : Int), .int .u32 (o1 : Int)] 65)) #[.int .i64 a1_0, .int .i64 a1_1] 66
  have F2 := Rowz.new ((w.alloc (.cells #[.int .u32 (n0 : Int), .int .u32 (n1 : Int), .int .u32 (o0 : Int), .int .u32 (o1 : Int)] 65)).alloc (.cells #[.int .i64 a1_0, .int .i64 a1_1] 66)) #[.int .i64 a2_0, .int .i64 a2_1] 66
  have e1 : (w.alloc (.cells #[.int .u32 (n0 : Int), .int .u32 (n1 : Int), .int .u32 (o0 : Int), .int .u32 (o1 : Int)] 65)).heap.size = w.heap.size + 1 := by simp
  have e2 : ((w.alloc (.cells #[.int .u32 (n0 : Int), .int .u32 (n1 : Int), .int .u32 (o0 : Int), .int .u32 (o1 : Int)] 65)).alloc (.cells #[.int .i64 a1_0, .int .i64 a1_1] 66)).heap.size = w.heap.size + 1 + 1 := by simp
  rw [e1] at F1
  rw [e2] at F2
  have B0 := Lib.hid ((F0.alloc (.cells #[.int .i64 a1_0, .int .i64 a1_1] 66)).alloc (.cells #[.int .i64 a2_0, .int .i64 a2_1] 66))
  have B1 := Lib.hid (F1.alloc (.cells #[.int .i64 a2_0, .int .i64 a2_1] 66))
  have B2 := Lib.hid F2
  have K0 := Lib.hid ((((Kept.refl w).alloc (.cells #[.int .u32 (n0 : Int), .int .u32 (n1 : Int), .int .u32 (o0 : Int), .int .u32 (o1 : Int)] 65)).alloc (.cells #[.int .i64 a1_0, .int .i64 a1_1] 66)).alloc (.cells #[.int .i64 a2_0, .int .i64 a2_1] 66))
  clear F0 F1 F2 e1 e2
  go_enter Try.func9, Try.ntmps9
  go_wp2_with fail
  generalize ((w.alloc (.cells #[.int .u32 (n0 : Int), .int .u32 (n1 : Int), .int .u32 (o0 : Int), .int .u32 (o1 : Int)] 65)).alloc (.cells #[.int .i64 a1_0, .int .i64 a1_1] 66)).alloc (.cells #[.int .i64 a2_0, .int .i64 a2_1] 66) = v at B0 B1 B2 K0 ⊢
  go_cut [7, 8, 9, 10] from 11 to 18 (fun s7 s8 s9 s10 wx => ∃ g7 g8, s7 = .pointer (some ⟨g7, 0, none⟩) ∧ s8 = .pointer (some ⟨g8, 0, none⟩) ∧ s9 = .int .i64 a2_0 ∧ s10 = .int .i64 a2_1 ∧ Hid (Rowz wx g7 #[.int .u32 (n0 : Int), .int .u32 (n1 : Int)] 64) ∧ Hid (Rowz wx g8 #[.int .u32 (o0 : Int), .int .u32 (o1 : Int)] 64) ∧ Hid (Rowz wx (w.heap.size + 1) #[.int .i64 a1_0, .int .i64 a1_1] 66) ∧ Hid (Kept w wx))
  case first =>
    have hS0 : Kept v v.drew := Kept.refl v
    refine wp_region_held_drew (S := fun w' => Kept v w') (by kernel_rfl) hS0 (fun _ => ?_)
    refine wpAnyH_take1 0 11 (.pointer (some ⟨w.heap.size, 0, none⟩)) rfl rfl (by kernel_rfl) (by kernel_rfl) (by kernel_rfl) (fun _ _ _ h => h) hS0 (Or.inl ⟨by rfl, fun _ _ => by go_simp⟩) ?_
    simp only [List.setIfInBounds_toArray, List.set_cons_zero, List.set_cons_succ]
    refine wpAnyH_take1 1 12 (.agg #[.int .u32 (n0 : Int), .int .u32 (n1 : Int)]) rfl rfl (by kernel_rfl) (by kernel_rfl) (by kernel_rfl) (fun _ _ _ h => h) hS0 (yields_load22 (by rfl) _ rfl w.heap.size 0 _ _ rfl (fun w' hw' => (B0.out.kept hw').cell 0) (fun w' hw' => (B0.out.kept hw').cell 1)) ?_
    simp only [List.setIfInBounds_toArray, List.set_cons_zero, List.set_cons_succ]
    refine wpAnyH_take1 2 13 (.pointer (some ⟨w.heap.size, 2, none⟩)) rfl rfl (by kernel_rfl) (by kernel_rfl) (by kernel_rfl) (fun _ _ _ h => h) hS0 (Or.inl ⟨by rfl, fun _ _ => by go_simp⟩) ?_
    simp only [List.setIfInBounds_toArray, List.set_cons_zero, List.set_cons_succ]
    refine wpAnyH_take1 3 14 (.agg #[.int .u32 (o0 : Int), .int .u32 (o1 : Int)]) rfl rfl (by kernel_rfl) (by kernel_rfl) (by kernel_rfl) (fun _ _ _ h => h) hS0 (yields_load22 (by rfl) _ rfl w.heap.size 2 _ _ rfl (fun w' hw' => (B0.out.kept hw').cell 2) (fun w' hw' => (B0.out.kept hw').cell 3)) ?_
    simp only [List.setIfInBounds_toArray, List.set_cons_zero, List.set_cons_succ]
    refine wpAnyH_take1 4 15 (.pointer (some ⟨w.heap.size + 1 + 1, 0, none⟩)) rfl rfl (by kernel_rfl) (by kernel_rfl) (by kernel_rfl) (fun _ _ _ h => h) hS0 (Or.inl ⟨by rfl, fun _ _ => by go_simp⟩) ?_
    simp only [List.setIfInBounds_toArray, List.set_cons_zero, List.set_cons_succ]
    refine wpAnyH_take1 5 16 (.int .i64 a2_0) rfl rfl (by kernel_rfl) (by kernel_rfl) (by kernel_rfl) (fun _ _ _ h => h) hS0 (Or.inl ⟨by rfl, fun w' hw' => by have c : w'.cell? ⟨w.heap.size + 1 + 1, 0, none⟩ = some (.int .i64 a2_0) := (B2.out.kept hw').cell 0; go_simp⟩) ?_
    simp only [List.setIfInBounds_toArray, List.set_cons_zero, List.set_cons_succ]
    refine wpAnyH_take1 6 17 (.pointer (some ⟨w.heap.size + 1 + 1, 1, none⟩)) rfl rfl (by kernel_rfl) (by kernel_rfl) (by kernel_rfl) (fun _ _ _ h => h) hS0 (Or.inl ⟨by rfl, fun _ _ => by go_simp⟩) ?_
    simp only [List.setIfInBounds_toArray, List.set_cons_zero, List.set_cons_succ]
    refine wpAnyH_take1 7 18 (.int .i64 a2_1) rfl rfl (by kernel_rfl) (by kernel_rfl) (by kernel_rfl) (fun _ _ _ h => h) hS0 (Or.inl ⟨by rfl, fun w' hw' => by have c : w'.cell? ⟨w.heap.size + 1 + 1, 1, none⟩ = some (.int .i64 a2_1) := (B2.out.kept hw').cell 1; go_simp⟩) ?_
    simp only [List.setIfInBounds_toArray, List.set_cons_zero, List.set_cons_succ]
    refine wpAnyH_ready (rs := [8, 9]) (by kernel_rfl) (by simp) (AllReadyH.cons rfl (fun K hK => ?_) (AllReadyH.cons rfl (fun K hK => ?_) AllReadyH.nil))
    · rw [if_pos (by rfl)]
      go_simp
      refine hK.out _ _ (Kept.alloc hS0 _) (fun _ => ?_)
      clear hK K
      refine wpAnyH_ready (rs := [9]) (by kernel_rfl) (by simp) (AllReadyH.cons rfl (fun K hK => ?_) AllReadyH.nil)
      rw [if_pos (by rfl)]
      go_simp
      refine hK.out _ _ (Kept.alloc (Kept.alloc hS0 _) _) (fun _ => ?_)
      clear hK K
      have G1 : Rowz (((v.alloc (.cells #[.int .u32 0, .int .u32 0] 64)).alloc (.cells #[.int .u32 0, .int .u32 0] 64)).drew) v.heap.size #[.int .u32 0, .int .u32 0] 64 := ((Rowz.new v _ _).alloc _).drew
      have G2 : Rowz (((v.alloc (.cells #[.int .u32 0, .int .u32 0] 64)).alloc (.cells #[.int .u32 0, .int .u32 0] 64)).drew) (v.heap.size + 1) #[.int .u32 0, .int .u32 0] 64 := (Rowz.newEq1 v _ _ _ _ rfl).drew
      have GK : Kept v (((v.alloc (.cells #[.int .u32 0, .int .u32 0] 64)).alloc (.cells #[.int .u32 0, .int .u32 0] 64)).drew) := Kept.alloc (Kept.alloc (Kept.refl v) _) _
      generalize ((v.alloc (.cells #[.int .u32 0, .int .u32 0] 64)).alloc (.cells #[.int .u32 0, .int .u32 0] 64)).drew = v2 at G1 G2 GK ⊢
      have hlv : w.heap.size + 1 < v.heap.size := B1.out.lt
      have G4 := B1.out.kept GK
      refine wpAnyH_ready (rs := [10]) (by kernel_rfl) (by simp) (AllReadyH.cons rfl (fun K hK => ?_) AllReadyH.nil)
      rw [if_pos (by rfl)]
      refine wp_store_row 64 _ _ rfl (v.heap.size) #[.int .u32 (n0 : Int), .int .u32 (n1 : Int)] rfl rfl 64 #[.int .u32 0, .int .u32 0] G1 (by kernel_rfl) rfl (by simp [Value.oneCell']) ?_
      have H7 := G1.row (D := #[.int .u32 (n0 : Int), .int .u32 (n1 : Int)])
      have H8 := G2.rowOther (k := v.heap.size) (D := #[.int .u32 (n0 : Int), .int .u32 (n1 : Int)]) (by omega)
      have H4 := G4.rowOther (k := v.heap.size) (D := #[.int .u32 (n0 : Int), .int .u32 (n1 : Int)]) (by omega)
      have HK1 := GK.setRow (g := v.heap.size) (by omega) #[.int .u32 (n0 : Int), .int .u32 (n1 : Int)]
      refine hK.out _ _ HK1 (fun _ => ?_)
      clear hK K G1 G2 G4 GK
      generalize v2.setRow (v.heap.size) #[.int .u32 (n0 : Int), .int .u32 (n1 : Int)] = v3 at H7 H8 H4 HK1 ⊢
      refine wpAnyH_ready (rs := [11]) (by kernel_rfl) (by simp) (AllReadyH.cons rfl (fun K hK => ?_) AllReadyH.nil)
      rw [if_pos (by rfl)]
      refine wp_store_row 64 _ _ rfl (v.heap.size + 1) #[.int .u32 (o0 : Int), .int .u32 (o1 : Int)] rfl rfl 64 #[.int .u32 0, .int .u32 0] H8 (by kernel_rfl) rfl (by simp [Value.oneCell']) ?_
      have J8 := H8.row (D := #[.int .u32 (o0 : Int), .int .u32 (o1 : Int)])
      have J7 := H7.rowOther (k := v.heap.size + 1) (D := #[.int .u32 (o0 : Int), .int .u32 (o1 : Int)]) (by omega)
      have J4 := H4.rowOther (k := v.heap.size + 1) (D := #[.int .u32 (o0 : Int), .int .u32 (o1 : Int)]) (by omega)
      have HK2 := HK1.setRow (g := v.heap.size + 1) (by omega) #[.int .u32 (o0 : Int), .int .u32 (o1 : Int)]
      refine hK.out _ _ HK2 (fun _ => ?_)
      clear hK K H7 H8 H4 HK1
      generalize v3.setRow (v.heap.size + 1) #[.int .u32 (o0 : Int), .int .u32 (o1 : Int)] = v4 at J7 J8 J4 HK2 ⊢
      refine wpAnyH_ready (rs := [12]) (by kernel_rfl) (by simp) (AllReadyH.cons rfl (fun K hK => ?_) AllReadyH.nil)
      rw [if_pos (by rfl)]
      go_simp
      refine hK.out _ _ HK2 (fun _ => ?_)
      clear hK K
      refine wpAnyH_ready (rs := [13]) (by kernel_rfl) (by simp) (AllReadyH.cons rfl (fun K hK => ?_) AllReadyH.nil)
      rw [if_pos (by rfl)]
      go_simp
      refine hK.out _ _ HK2 (fun _ => ?_)
      clear hK K
      refine wpAnyH_done (by kernel_rfl) ?_ _
      have M7 := Lib.hid J7
      have M8 := Lib.hid J8
      have M4 := Lib.hid J4
      have MK := Lib.hid (K0.out.trans HK2)
      clear J7 J8 J4 HK2 B0 B1 B2 K0
      go_wp2_with fail
      go_meet
      case rel => exact ⟨_, _, rfl, rfl, rfl, rfl, M7, M8, M4, MK⟩
    · rw [if_pos (by rfl)]
      go_simp
      refine hK.out _ _ (Kept.alloc hS0 _) (fun _ => ?_)
      clear hK K
      refine wpAnyH_ready (rs := [8]) (by kernel_rfl) (by simp) (AllReadyH.cons rfl (fun K hK => ?_) AllReadyH.nil)
      rw [if_pos (by rfl)]
      go_simp
      refine hK.out _ _ (Kept.alloc (Kept.alloc hS0 _) _) (fun _ => ?_)
      clear hK K
      have G1 : Rowz (((v.alloc (.cells #[.int .u32 0, .int .u32 0] 64)).alloc (.cells #[.int .u32 0, .int .u32 0] 64)).drew) v.heap.size #[.int .u32 0, .int .u32 0] 64 := ((Rowz.new v _ _).alloc _).drew
      have G2 : Rowz (((v.alloc (.cells #[.int .u32 0, .int .u32 0] 64)).alloc (.cells #[.int .u32 0, .int .u32 0] 64)).drew) (v.heap.size + 1) #[.int .u32 0, .int .u32 0] 64 := (Rowz.newEq1 v _ _ _ _ rfl).drew
      have GK : Kept v (((v.alloc (.cells #[.int .u32 0, .int .u32 0] 64)).alloc (.cells #[.int .u32 0, .int .u32 0] 64)).drew) := Kept.alloc (Kept.alloc (Kept.refl v) _) _
      generalize ((v.alloc (.cells #[.int .u32 0, .int .u32 0] 64)).alloc (.cells #[.int .u32 0, .int .u32 0] 64)).drew = v2 at G1 G2 GK ⊢
      have hlv : w.heap.size + 1 < v.heap.size := B1.out.lt
      have G4 := B1.out.kept GK
      refine wpAnyH_ready (rs := [10]) (by kernel_rfl) (by simp) (AllReadyH.cons rfl (fun K hK => ?_) AllReadyH.nil)
      rw [if_pos (by rfl)]
      refine wp_store_row 64 _ _ rfl (v.heap.size + 1) #[.int .u32 (n0 : Int), .int .u32 (n1 : Int)] rfl rfl 64 #[.int .u32 0, .int .u32 0] G2 (by kernel_rfl) rfl (by simp [Value.oneCell']) ?_
      have H7 := G2.row (D := #[.int .u32 (n0 : Int), .int .u32 (n1 : Int)])
      have H8 := G1.rowOther (k := v.heap.size + 1) (D := #[.int .u32 (n0 : Int), .int .u32 (n1 : Int)]) (by omega)
      have H4 := G4.rowOther (k := v.heap.size + 1) (D := #[.int .u32 (n0 : Int), .int .u32 (n1 : Int)]) (by omega)
      have HK1 := GK.setRow (g := v.heap.size + 1) (by omega) #[.int .u32 (n0 : Int), .int .u32 (n1 : Int)]
      refine hK.out _ _ HK1 (fun _ => ?_)
      clear hK K G1 G2 G4 GK
      generalize v2.setRow (v.heap.size + 1) #[.int .u32 (n0 : Int), .int .u32 (n1 : Int)] = v3 at H7 H8 H4 HK1 ⊢
      refine wpAnyH_ready (rs := [11]) (by kernel_rfl) (by simp) (AllReadyH.cons rfl (fun K hK => ?_) AllReadyH.nil)
      rw [if_pos (by rfl)]
      refine wp_store_row 64 _ _ rfl (v.heap.size) #[.int .u32 (o0 : Int), .int .u32 (o1 : Int)] rfl rfl 64 #[.int .u32 0, .int .u32 0] H8 (by kernel_rfl) rfl (by simp [Value.oneCell']) ?_
      have J8 := H8.row (D := #[.int .u32 (o0 : Int), .int .u32 (o1 : Int)])
      have J7 := H7.rowOther (k := v.heap.size) (D := #[.int .u32 (o0 : Int), .int .u32 (o1 : Int)]) (by omega)
      have J4 := H4.rowOther (k := v.heap.size) (D := #[.int .u32 (o0 : Int), .int .u32 (o1 : Int)]) (by omega)
      have HK2 := HK1.setRow (g := v.heap.size) (by omega) #[.int .u32 (o0 : Int), .int .u32 (o1 : Int)]
      refine hK.out _ _ HK2 (fun _ => ?_)
      clear hK K H7 H8 H4 HK1
      generalize v3.setRow (v.heap.size) #[.int .u32 (o0 : Int), .int .u32 (o1 : Int)] = v4 at J7 J8 J4 HK2 ⊢
      refine wpAnyH_ready (rs := [12]) (by kernel_rfl) (by simp) (AllReadyH.cons rfl (fun K hK => ?_) AllReadyH.nil)
      rw [if_pos (by rfl)]
      go_simp
      refine hK.out _ _ HK2 (fun _ => ?_)
      clear hK K
      refine wpAnyH_ready (rs := [13]) (by kernel_rfl) (by simp) (AllReadyH.cons rfl (fun K hK => ?_) AllReadyH.nil)
      rw [if_pos (by rfl)]
      go_simp
      refine hK.out _ _ HK2 (fun _ => ?_)
      clear hK K
      refine wpAnyH_done (by kernel_rfl) ?_ _
      have M7 := Lib.hid J7
      have M8 := Lib.hid J8
      have M4 := Lib.hid J4
      have MK := Lib.hid (K0.out.trans HK2)
      clear J7 J8 J4 HK2 B0 B1 B2 K0
      go_wp2_with fail
      go_meet
      case rel => exact ⟨_, _, rfl, rfl, rfl, rfl, M7, M8, M4, MK⟩
  case rest =>
    obtain ⟨g7, g8, rfl, rfl, rfl, rfl, R7, R8, R4, KK⟩ := hcut
    clear B0 B1 B2 K0
    have c70 : wc.cell? ⟨g7, 0, none⟩ = some (.int .u32 (n0 : Int)) := R7.out.cell 0
    have c71 : wc.cell? ⟨g7, 1, none⟩ = some (.int .u32 (n1 : Int)) := R7.out.cell 1
    have c80 : wc.cell? ⟨g8, 0, none⟩ = some (.int .u32 (o0 : Int)) := R8.out.cell 0
    have c81 : wc.cell? ⟨g8, 1, none⟩ = some (.int .u32 (o1 : Int)) := R8.out.cell 1
    have c40 : wc.cell? ⟨w.heap.size + 1, 0, none⟩ = some (.int .i64 a1_0) := R4.out.cell 0
    have c41 : wc.cell? ⟨w.heap.size + 1, 1, none⟩ = some (.int .i64 a1_1) := R4.out.cell 1
    by_cases q1 : n1 < n0
    · have q1i : decide (((n1 : Nat) : Int) < ((n0 : Nat) : Int)) = true := decide_eq_true (by omega)
      have q1n : decide (n1 < n0) = true := decide_eq_true (by omega)
      clear HAL HAG HLG CA0 CL0 CA1 CL1
      go_wp2_with (go_at_call 35; refine (awake6_any _).mono ?_; rintro e wz ⟨rfl, kz⟩)
      go_ret
      exact ⟨rfl, KK.out.trans kz⟩
    · have q1i : decide (((n1 : Nat) : Int) < ((n0 : Nat) : Int)) = false := decide_eq_false (by omega)
      have q1n : decide (n1 < n0) = false := decide_eq_false (by omega)
      by_cases q2 : o0 < o1
      · have q2i : decide (((o0 : Nat) : Int) < ((o1 : Nat) : Int)) = true := decide_eq_true (by omega)
        have q2n : decide (o0 < o1) = true := decide_eq_true (by omega)
        clear HAL HAG HLG CA0 CL0 CA1 CL1
        go_wp2_with (go_at_call 35; refine (awake6_any _).mono ?_; rintro e wz ⟨rfl, kz⟩)
        go_ret
        exact ⟨rfl, KK.out.trans kz⟩
      · have q2i : decide (((o0 : Nat) : Int) < ((o1 : Nat) : Int)) = false := decide_eq_false (by omega)
        have q2n : decide (o0 < o1) = false := decide_eq_false (by omega)
        by_cases q3 : a1_0 < 0
        · have q3i : decide (a1_0 < 0) = true := decide_eq_true (by omega)
          clear HAL HAG HLG CA0 CL0 CA1 CL1
          go_wp2_with (go_at_call 35; refine (awake6_any _).mono ?_; rintro e wz ⟨rfl, kz⟩)
          go_ret
          exact ⟨rfl, KK.out.trans kz⟩
        · have q3i : decide (a1_0 < 0) = false := decide_eq_false (by omega)
          by_cases q4 : a1_1 < a1_0
          · have q4i : decide (a1_1 < a1_0) = true := decide_eq_true (by omega)
            clear HAL HAG HLG CA0 CL0 CA1 CL1
            go_wp2_with (go_at_call 35; refine (awake6_any _).mono ?_; rintro e wz ⟨rfl, kz⟩)
            go_ret
            exact ⟨rfl, KK.out.trans kz⟩
          · have q4i : decide (a1_1 < a1_0) = false := decide_eq_false (by omega)
            by_cases q5 : 255 < a1_1
            · have q5i : decide (255 < a1_1) = true := decide_eq_true (by omega)
              clear HAL HAG HLG CA0 CL0 CA1 CL1
              go_wp2_with (go_at_call 35; refine (awake6_any _).mono ?_; rintro e wz ⟨rfl, kz⟩)
              go_ret
              exact ⟨rfl, KK.out.trans kz⟩
            · have q5i : decide (255 < a1_1) = false := decide_eq_false (by omega)
              have HAG2 := HAG.out (by omega) (by omega) (by omega) (by omega) (by omega)
              have HLG2 := HLG.out (by omega) (by omega) (by omega) (by omega) (by omega)
              have HAL2 := HAL.out
              clear HAL HAG HLG q1 q2 q3 q4 q5
              cases A0 with
              | true =>
                have e1 := HAL2 rfl
                have e2 := HAG2 rfl
                subst e1
                subst e2
                have e3 := HLG2 rfl
                subst e3
                clear HAL2 HAG2 HLG2
                have CL0' := CL0
                go_wp2_with (first
                  | (go_at_call 33; refine (CA0.out _).mono ?_; rintro e y0 ⟨rfl, kz⟩; clear CA0; replace KK := Lib.hid (KK.out.trans kz); replace R7 := Lib.hid (R7.out.kept kz); replace R8 := Lib.hid (R8.out.kept kz); replace R4 := Lib.hid (R4.out.kept kz); clear kz c70 c71 c80 c81 c40 c41; have c70 : y0.cell? ⟨g7, 0, none⟩ = some (.int .u32 (n0 : Int)) := R7.out.cell 0; have c71 : y0.cell? ⟨g7, 1, none⟩ = some (.int .u32 (n1 : Int)) := R7.out.cell 1; have c80 : y0.cell? ⟨g8, 0, none⟩ = some (.int .u32 (o0 : Int)) := R8.out.cell 0; have c81 : y0.cell? ⟨g8, 1, none⟩ = some (.int .u32 (o1 : Int)) := R8.out.cell 1; have c40 : y0.cell? ⟨w.heap.size + 1, 0, none⟩ = some (.int .i64 a1_0) := R4.out.cell 0; have c41 : y0.cell? ⟨w.heap.size + 1, 1, none⟩ = some (.int .i64 a1_1) := R4.out.cell 1)
                  | (go_at_call 34; refine (CL0.out _).mono ?_; rintro e y1 ⟨rfl, kz⟩; clear CL0; replace KK := Lib.hid (KK.out.trans kz); replace R7 := Lib.hid (R7.out.kept kz); replace R8 := Lib.hid (R8.out.kept kz); replace R4 := Lib.hid (R4.out.kept kz); clear kz c70 c71 c80 c81 c40 c41; have c70 : y1.cell? ⟨g7, 0, none⟩ = some (.int .u32 (n0 : Int)) := R7.out.cell 0; have c71 : y1.cell? ⟨g7, 1, none⟩ = some (.int .u32 (n1 : Int)) := R7.out.cell 1; have c80 : y1.cell? ⟨g8, 0, none⟩ = some (.int .u32 (o0 : Int)) := R8.out.cell 0; have c81 : y1.cell? ⟨g8, 1, none⟩ = some (.int .u32 (o1 : Int)) := R8.out.cell 1; have c40 : y1.cell? ⟨w.heap.size + 1, 0, none⟩ = some (.int .i64 a1_0) := R4.out.cell 0; have c41 : y1.cell? ⟨w.heap.size + 1, 1, none⟩ = some (.int .i64 a1_1) := R4.out.cell 1)
                  | (go_at_call 33; refine (CA1.out _).mono ?_; rintro e y2 ⟨rfl, kz⟩; clear CA1; replace KK := Lib.hid (KK.out.trans kz); replace R7 := Lib.hid (R7.out.kept kz); replace R8 := Lib.hid (R8.out.kept kz); replace R4 := Lib.hid (R4.out.kept kz); clear kz c70 c71 c80 c81 c40 c41; have c70 : y2.cell? ⟨g7, 0, none⟩ = some (.int .u32 (n0 : Int)) := R7.out.cell 0; have c71 : y2.cell? ⟨g7, 1, none⟩ = some (.int .u32 (n1 : Int)) := R7.out.cell 1; have c80 : y2.cell? ⟨g8, 0, none⟩ = some (.int .u32 (o0 : Int)) := R8.out.cell 0; have c81 : y2.cell? ⟨g8, 1, none⟩ = some (.int .u32 (o1 : Int)) := R8.out.cell 1; have c40 : y2.cell? ⟨w.heap.size + 1, 0, none⟩ = some (.int .i64 a1_0) := R4.out.cell 0; have c41 : y2.cell? ⟨w.heap.size + 1, 1, none⟩ = some (.int .i64 a1_1) := R4.out.cell 1)
                  | (go_at_call 34; refine (CL0'.out _).mono ?_; rintro e y3 ⟨rfl, kz⟩; clear CL0'; replace KK := Lib.hid (KK.out.trans kz); replace R7 := Lib.hid (R7.out.kept kz); replace R8 := Lib.hid (R8.out.kept kz); replace R4 := Lib.hid (R4.out.kept kz); clear kz c70 c71 c80 c81 c40 c41; have c70 : y3.cell? ⟨g7, 0, none⟩ = some (.int .u32 (n0 : Int)) := R7.out.cell 0; have c71 : y3.cell? ⟨g7, 1, none⟩ = some (.int .u32 (n1 : Int)) := R7.out.cell 1; have c80 : y3.cell? ⟨g8, 0, none⟩ = some (.int .u32 (o0 : Int)) := R8.out.cell 0; have c81 : y3.cell? ⟨g8, 1, none⟩ = some (.int .u32 (o1 : Int)) := R8.out.cell 1; have c40 : y3.cell? ⟨w.heap.size + 1, 0, none⟩ = some (.int .i64 a1_0) := R4.out.cell 0; have c41 : y3.cell? ⟨w.heap.size + 1, 1, none⟩ = some (.int .i64 a1_1) := R4.out.cell 1)
                  | (go_at_call 34; refine (CL1.out _).mono ?_; rintro e y4 ⟨rfl, kz⟩; clear CL1; replace KK := Lib.hid (KK.out.trans kz); replace R7 := Lib.hid (R7.out.kept kz); replace R8 := Lib.hid (R8.out.kept kz); replace R4 := Lib.hid (R4.out.kept kz); clear kz c70 c71 c80 c81 c40 c41; have c70 : y4.cell? ⟨g7, 0, none⟩ = some (.int .u32 (n0 : Int)) := R7.out.cell 0; have c71 : y4.cell? ⟨g7, 1, none⟩ = some (.int .u32 (n1 : Int)) := R7.out.cell 1; have c80 : y4.cell? ⟨g8, 0, none⟩ = some (.int .u32 (o0 : Int)) := R8.out.cell 0; have c81 : y4.cell? ⟨g8, 1, none⟩ = some (.int .u32 (o1 : Int)) := R8.out.cell 1; have c40 : y4.cell? ⟨w.heap.size + 1, 0, none⟩ = some (.int .i64 a1_0) := R4.out.cell 0; have c41 : y4.cell? ⟨w.heap.size + 1, 1, none⟩ = some (.int .i64 a1_1) := R4.out.cell 1)
                  | (go_at_call 35; refine (awake6_any _).mono ?_; rintro e wz ⟨rfl, kz⟩))
                go_ret
                exact ⟨rfl, KK.out.trans kz⟩
              | false =>
                clear HAL2 HAG2
                cases L0 with
                | true =>
                  have e3 := HLG2 rfl
                  subst e3
                  clear HLG2
                  go_wp2_with (first
                    | (go_at_call 33; refine (CA0.out _).mono ?_; rintro e y0 ⟨rfl, kz⟩; clear CA0; replace KK := Lib.hid (KK.out.trans kz); replace R7 := Lib.hid (R7.out.kept kz); replace R8 := Lib.hid (R8.out.kept kz); replace R4 := Lib.hid (R4.out.kept kz); clear kz c70 c71 c80 c81 c40 c41; have c70 : y0.cell? ⟨g7, 0, none⟩ = some (.int .u32 (n0 : Int)) := R7.out.cell 0; have c71 : y0.cell? ⟨g7, 1, none⟩ = some (.int .u32 (n1 : Int)) := R7.out.cell 1; have c80 : y0.cell? ⟨g8, 0, none⟩ = some (.int .u32 (o0 : Int)) := R8.out.cell 0; have c81 : y0.cell? ⟨g8, 1, none⟩ = some (.int .u32 (o1 : Int)) := R8.out.cell 1; have c40 : y0.cell? ⟨w.heap.size + 1, 0, none⟩ = some (.int .i64 a1_0) := R4.out.cell 0; have c41 : y0.cell? ⟨w.heap.size + 1, 1, none⟩ = some (.int .i64 a1_1) := R4.out.cell 1)
                    | (go_at_call 34; refine (CL0.out _).mono ?_; rintro e y1 ⟨rfl, kz⟩; clear CL0; replace KK := Lib.hid (KK.out.trans kz); replace R7 := Lib.hid (R7.out.kept kz); replace R8 := Lib.hid (R8.out.kept kz); replace R4 := Lib.hid (R4.out.kept kz); clear kz c70 c71 c80 c81 c40 c41; have c70 : y1.cell? ⟨g7, 0, none⟩ = some (.int .u32 (n0 : Int)) := R7.out.cell 0; have c71 : y1.cell? ⟨g7, 1, none⟩ = some (.int .u32 (n1 : Int)) := R7.out.cell 1; have c80 : y1.cell? ⟨g8, 0, none⟩ = some (.int .u32 (o0 : Int)) := R8.out.cell 0; have c81 : y1.cell? ⟨g8, 1, none⟩ = some (.int .u32 (o1 : Int)) := R8.out.cell 1; have c40 : y1.cell? ⟨w.heap.size + 1, 0, none⟩ = some (.int .i64 a1_0) := R4.out.cell 0; have c41 : y1.cell? ⟨w.heap.size + 1, 1, none⟩ = some (.int .i64 a1_1) := R4.out.cell 1)
                    | (go_at_call 34; refine (CL1.out _).mono ?_; rintro e y2 ⟨rfl, kz⟩; clear CL1; replace KK := Lib.hid (KK.out.trans kz); replace R7 := Lib.hid (R7.out.kept kz); replace R8 := Lib.hid (R8.out.kept kz); replace R4 := Lib.hid (R4.out.kept kz); clear kz c70 c71 c80 c81 c40 c41; have c70 : y2.cell? ⟨g7, 0, none⟩ = some (.int .u32 (n0 : Int)) := R7.out.cell 0; have c71 : y2.cell? ⟨g7, 1, none⟩ = some (.int .u32 (n1 : Int)) := R7.out.cell 1; have c80 : y2.cell? ⟨g8, 0, none⟩ = some (.int .u32 (o0 : Int)) := R8.out.cell 0; have c81 : y2.cell? ⟨g8, 1, none⟩ = some (.int .u32 (o1 : Int)) := R8.out.cell 1; have c40 : y2.cell? ⟨w.heap.size + 1, 0, none⟩ = some (.int .i64 a1_0) := R4.out.cell 0; have c41 : y2.cell? ⟨w.heap.size + 1, 1, none⟩ = some (.int .i64 a1_1) := R4.out.cell 1)
                    | (go_at_call 35; refine (awake6_any _).mono ?_; rintro e wz ⟨rfl, kz⟩))
                  go_ret
                  exact ⟨rfl, KK.out.trans kz⟩
                | false =>
                  clear HLG2
                  go_wp2_with (first
                    | (go_at_call 33; refine (CA0.out _).mono ?_; rintro e y0 ⟨rfl, kz⟩; clear CA0; replace KK := Lib.hid (KK.out.trans kz); replace R7 := Lib.hid (R7.out.kept kz); replace R8 := Lib.hid (R8.out.kept kz); replace R4 := Lib.hid (R4.out.kept kz); clear kz c70 c71 c80 c81 c40 c41; have c70 : y0.cell? ⟨g7, 0, none⟩ = some (.int .u32 (n0 : Int)) := R7.out.cell 0; have c71 : y0.cell? ⟨g7, 1, none⟩ = some (.int .u32 (n1 : Int)) := R7.out.cell 1; have c80 : y0.cell? ⟨g8, 0, none⟩ = some (.int .u32 (o0 : Int)) := R8.out.cell 0; have c81 : y0.cell? ⟨g8, 1, none⟩ = some (.int .u32 (o1 : Int)) := R8.out.cell 1; have c40 : y0.cell? ⟨w.heap.size + 1, 0, none⟩ = some (.int .i64 a1_0) := R4.out.cell 0; have c41 : y0.cell? ⟨w.heap.size + 1, 1, none⟩ = some (.int .i64 a1_1) := R4.out.cell 1)
                    | (go_at_call 34; refine (CL0.out _).mono ?_; rintro e y1 ⟨rfl, kz⟩; clear CL0; replace KK := Lib.hid (KK.out.trans kz); replace R7 := Lib.hid (R7.out.kept kz); replace R8 := Lib.hid (R8.out.kept kz); replace R4 := Lib.hid (R4.out.kept kz); clear kz c70 c71 c80 c81 c40 c41; have c70 : y1.cell? ⟨g7, 0, none⟩ = some (.int .u32 (n0 : Int)) := R7.out.cell 0; have c71 : y1.cell? ⟨g7, 1, none⟩ = some (.int .u32 (n1 : Int)) := R7.out.cell 1; have c80 : y1.cell? ⟨g8, 0, none⟩ = some (.int .u32 (o0 : Int)) := R8.out.cell 0; have c81 : y1.cell? ⟨g8, 1, none⟩ = some (.int .u32 (o1 : Int)) := R8.out.cell 1; have c40 : y1.cell? ⟨w.heap.size + 1, 0, none⟩ = some (.int .i64 a1_0) := R4.out.cell 0; have c41 : y1.cell? ⟨w.heap.size + 1, 1, none⟩ = some (.int .i64 a1_1) := R4.out.cell 1)
                    | (go_at_call 35; refine (awake6_any _).mono ?_; rintro e wz ⟨rfl, kz⟩))
                  go_ret
                  exact ⟨rfl, KK.out.trans kz⟩

set_option maxRecDepth 100000 in
set_option maxHeartbeats 1000000 in
theorem lifted (os : Os) (started : os.Started) (H : Type) (enc : TypeId × Value → H) :
    ReturnsInHanded {} Try.checked os 9 .any (Rows.ratioGrowsSpec.pre6 enc Try.prog Try.f9 Rows.ratioGrowsRow.domain false) (Rows.ratioGrowsSpec.post enc Try.prog Try.f9 false true false false) := by
  refine returnsInHanded_of_change_sized (C := Try.checked) own started (by kernel_rfl) Try.func9
    (ChangeSpec.witness6 (enc := enc) (C := Try.checked) false ⟨#[], #[.agg #[.int .u32 0, .int .u32 0, .int .u32 0, .int .u32 0], .agg #[.int .i64 0, .int .i64 0], .agg #[.int .i64 0, .int .i64 0]], []⟩ 8 (by kernel_rfl) (by kernel_rfl) (by kernel_rfl) (by kernel_rfl)) ?_
  intro W base args ds gs before hval0 hW hcnd hsz0 _
  have hval : ∀ (j : Nat) t v, Try.f9.params[j]? = some t → args[j]? = some v → Value.okWide Try.prog W .any base t v := hval0
  have hsz : (DataW.weightsEach Try.prog (Try.f9.params.toList ++ Rows.ratioGrowsSpec.plain.varTypes Try.prog) (ds ++ gs)).all (· ≤ reachBytes) = true := hsz0
  have hW' := hW
  obtain ⟨p, q, hA0, hV, rfl, hfz, hnd⟩ := hW
  have hA : DataW.TrodAll enc Try.prog W 0 (fun _ => true) true Try.f9.params.toList args.toList ds p := hA0
  have hAk := hA
  rw [Try.params9] at hA hval hsz
  obtain ⟨v0, vs0, d0, ds0, p0_, q0_, hargs, rfl, rfl, h0, r0_⟩ := trodAll_cons hA
  obtain ⟨v1, vs1, d1, ds1, p1_, q1_, rfl, rfl, rfl, h1, r1_⟩ := trodAll_cons r0_
  obtain ⟨v2, vs2, d2, ds2, p2_, q2_, rfl, rfl, rfl, h2, r2_⟩ := trodAll_cons r1_
  obtain ⟨rfl, rfl, rfl⟩ := trodAll_nil r2_
  obtain rfl : args = #[v0, v1, v2] := by cases args; simp_all
  obtain ⟨rfl, rfl⟩ := trodVars_none hV
  have hlt : ∀ x ∈ (p0_ ++ (p1_ ++ (p2_ ++ ([])))), x.block < W.heap.size := fun x hx => by simpa using hW'.lt x (by simpa using hx)
  obtain ⟨cs0, rfl⟩ : ∃ cs, v0 = .agg cs := by
    have := hval 0 65 v0 rfl rfl
    simp only [Value.okWide, Try.underlying65] at this
    obtain ⟨cs, h, _⟩ := this
    exact ⟨cs, h⟩
  obtain ⟨F0, W0, rfl⟩ := open_ints22 Try.underlying65 Try.underlying64 Try.underlying56 (by kernel_rfl) (by kernel_rfl) (by kernel_rfl) h0
  obtain ⟨cs1, rfl⟩ : ∃ cs, v1 = .agg cs := by
    have := hval 1 66 v1 rfl rfl
    simp only [Value.okWide, Try.underlying66] at this
    obtain ⟨cs, h, _⟩ := this
    exact ⟨cs, h⟩
  obtain ⟨F1, W1, E1⟩ := open_intArr Try.underlying66 Try.underlying3 (by kernel_rfl) (by kernel_rfl) h1
  obtain rfl : cs1 = #[.int .i64 (F1 0), .int .i64 (F1 1)] := E1
  obtain ⟨cs2, rfl⟩ : ∃ cs, v2 = .agg cs := by
    have := hval 2 66 v2 rfl rfl
    simp only [Value.okWide, Try.underlying66] at this
    obtain ⟨cs, h, _⟩ := this
    exact ⟨cs, h⟩
  obtain ⟨F2, W2, E2⟩ := open_intArr Try.underlying66 Try.underlying3 (by kernel_rfl) (by kernel_rfl) h2
  obtain rfl : cs2 = #[.int .i64 (F2 0), .int .i64 (F2 1)] := E2
  clear hA0 hval0
  refine (walk (F0 0) (W0 0 (by omega)) (F0 1) (W0 1 (by omega)) (F0 2) (W0 2 (by omega)) (F0 3) (W0 3 (by omega)) (F1 0) (W1 0 (by omega)) (F1 1) (W1 1 (by omega)) (F2 0) (W2 0 (by omega)) (F2 1) (W2 1 (by omega)) W ).mono fun e W' ⟨he, hg⟩ => ?_
  subst he
  exact ⟨_, rfl, ⟨_, _, _, [], _, [], hW', trodAll_cons_mk (shut_bool Try.underlying4 _) trodAll_mk0, trodAll_stays laidOut hg (by kernel_rfl) hAk hlt (fun x hx => by simpa using hlt x hx), rfl, Kept.frame hg _, fun h => by cases h⟩⟩

theorem over : Rows.ratioGrowsRow.holds Try.pinned (OpenSpec.ofChange Rows.ratioGrowsSpec) :=
  OpenClaim.holds_of_wide 9 Try.f9 rfl rfl rfl rfl rfl rfl rfl ⟨rfl, rfl, rfl, rfl, rfl⟩ rfl rfl rfl rfl rfl (by kernel_rfl) Try.func9 (by kernel_rfl)
    (of_decide_eq_true (by kernel_rfl)) (by unfold Func.isWrapper; first | (rw [if_pos (by decide +kernel)]; kernel_rfl) | (rw [if_neg (by decide +kernel)]; exact ⟨rfl, rfl⟩))
    (fun os started H enc _ => lifted os started H enc)
end Go.Proofs.Ytcjieaijcjinnaa.ratioGrows
namespace Go.Proofs.Ytcjieaijcjinnaa
theorem ratioGrows_holds : Rows.RatioGrowsSaid := ratioGrows.over
#print axioms ratioGrows_holds
end Go.Proofs.Ytcjieaijcjinnaa
