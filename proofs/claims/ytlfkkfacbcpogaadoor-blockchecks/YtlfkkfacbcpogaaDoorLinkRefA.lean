/-
  Contracts of the reference's Leaf, Leaves and Links (milepostref17). Conditions: at most a thousand ids.
-/
import Derived.Test.YtlfkkfacbcpogaaDoorLinkFormA
import Derived.Test.YtlfkkfacbcpogaaDoorTre
import Derived.Test.YtlfkkfacbcpogaaDoorStrLib
namespace Go.Proofs.YtlfkkfacbcpogaaDoor
set_option maxRecDepth 4000
open Go.RowKit

theorem lkS_fits (F : Nat → List UInt8) (n : Nat) (hF : ∀ i, i < n → (F i).length = 32) : ∀ i, i < n → (lkS F i).size ≤ 1000000 := fun i hi => by
  rw [lkS, linkS_size _ (hF i hi)]; omega
theorem HSl.lengths {n : Nat} {F : Nat → List UInt8} {v : Value} {w : World} (h : HSl n F v w) : ∀ i, i < n → (F i).length = 32 := by
  obtain ⟨_, _, _, _, _, h⟩ := h
  exact h.length
set_option maxRecDepth 100000 in
set_option maxHeartbeats 1000000 in
theorem refLeaf17_any : LinkTextC 36 := by
  intro l w hl
  have hz : (hS l).size = 32 := by rw [hS_size, hl]
  have H1 : Hid (∀ w, _) := Lib.hid fun w => refRaw_any l hl w
  have R1 := Lib.hid (Rowz.new w (bC 32 l) 31)
  have K1 := Lib.hid ((Kept.refl w).alloc (.cells (bC 32 l) 31))
  have HS : Hid (linkS l = (⟨#[76]⟩ : ByteArray) ++ hS l) := Lib.hid rfl
  generalize linkS l = T at HS ⊢
  generalize hS l = s at H1 hz HS
  go_enter Tryd.func36, Tryd.ntmps36
  go_wp2_with (refine wpList_exec 3 rfl (by rfl) _ _ (load_h rfl rfl R1.out) ?_)
  generalize w.alloc (.cells (bC 32 l) 31) = v1 at R1 K1 ⊢
  refine (H1.out v1).mono ?_
  rintro e v2 ⟨rfl, k2⟩
  replace K1 := Lib.hid (K1.out.trans (Grown.kept k2))
  clear k2 R1 H1
  go_wp2_with fail
  go_ret
  rw [HS.out]
  exact ⟨rfl, K1.out⟩
set_option maxRecDepth 100000 in
set_option maxHeartbeats 1000000 in
theorem refLeaves17_any (n : Nat) (F : Nat → List UInt8) (v : Value) (w : World) (hv : HSl n F v w) (hn : n ≤ 1000) :
    Calls Tryd.prog 26 #[v] w fun e w' => ∃ u, e = .returned u ∧ SSl n (lkS F) u w' ∧ Kept w w' := by
  obtain ⟨p, c, rfl, hc, hcm, hF⟩ := hv
  have HF := Lib.hid hF
  clear hF hc hcm
  go_enter Tryd.func26, Tryd.ntmps26
  go_wp2_with fail
  go_loopw [3, 4] (fun v i wr => ∃ k : Nat, k ≤ n ∧ i = .int .i64 k ∧ Hid (TxS w.heap.size (sL (lkS F) k) v wr) ∧ Hid (Kept w wr)) (fun _ i _ => n - (intOf i).toNat)
  case atStart => exact ⟨0, by omega, rfl, Lib.hid (TxS.nil _ _), Lib.hid (Kept.refl w)⟩
  case round =>
    rename_i v _
    obtain ⟨k, hk, rfl, O1, K1⟩ := hrel
    by_cases hlt : k < n
    · have hd : decide ((k : Int) < (n : Int)) = true := decide_eq_true (by omega)
      have hd' : decide (k < n) = true := decide_eq_true hlt
      obtain ⟨q, rfl, _⟩ := HF.out.some (by omega)
      have HFw := Lib.hid (HF.out.kept K1.out)
      have HL : Hid (∀ w, Calls Tryd.prog 36 #[.agg (bC 32 (F k))] w fun e w' => e = .returned (.string (lkS F k)) ∧ Kept w w') := Lib.hid fun w => refLeaf17_any (F k) w (HF.out.length k hlt)
      have HE : Hid (sL (lkS F) (k + 1) = sL (lkS F) k ++ [lkS F k]) := Lib.hid (sL_succ _ _)
      have HN : Hid ((sL (lkS F) k).length = k) := Lib.hid (sL_length _ _)
      generalize lkS F k = s at HL HE
      go_wp2_with (first
        | (refine wpList_exec 14 rfl (by rfl) _ _ (execIndexH q n c k hlt _ rfl rfl rfl) ?_)
        | (refine wpList_exec 15 rfl (by rfl) _ _ (load_at k rfl rfl HFw.out hlt) ?_))
      refine (HL.out _).mono ?_
      rintro e v1 ⟨rfl, k1⟩
      have O2 := Lib.hid (TxS.kept _ _ _ _ _ k1 O1.out)
      have K2 := Lib.hid (K1.out.trans k1)
      clear O1 K1 k1 HL HFw
      go_wp2_with (refine park_at 17 rfl ?_)
      refine unpark ?_
      refine wpList_exec 17 rfl (by rfl) (.slice (some ⟨v1.heap.size, 0, none⟩) 1 1) (v1.alloc (.cells #[.string s] 9)) (execBuild1 rfl rfl (run_build1s _ _)) ?_
      go_wp2_with (at_builtin; refine wpList_append1 (u := .string s) rfl _ _ 24 rfl w 9 (.string ⟨#[]⟩) 16 Tryd.underlying24 infoStr12 rfl _ (sL (lkS F) k).length ((sL (lkS F) k).map Value.string) rfl O2 rfl rfl (by have := HN.out; unfold maxLen; omega) (by have := HN.out; omega) K2 ?_; intro v' w' O3 K3)
      have O4 : Hid (TxS w.heap.size (sL (lkS F) (k + 1)) v' w') := Lib.hid (by
        have h := O3.out
        unfold TxS
        rw [HE.out, List.length_append, List.map_append]
        exact h)
      clear O3
      go_roundw
      case measure => simp [intOf]; omega
      case rel => exact ⟨k + 1, by omega, rfl, O4, K3⟩
    · have hd : decide ((k : Int) < (n : Int)) = false := decide_eq_false (by omega)
      have hd' : decide (k < n) = false := decide_eq_false hlt
      obtain rfl : k = n := by omega
      go_wp2_with fail
      go_ret
      exact ⟨_, rfl, SSl.ofTx O1.out, K1.out⟩
set_option maxRecDepth 100000 in
set_option maxHeartbeats 1000000 in
theorem refLinks17_any (n : Nat) (F : Nat → List UInt8) (v : Value) (w : World) (hv : HSl n F v w) (hn : n ≤ 1000) :
    Calls Tryd.prog 17 #[v] w fun e w' => e = .returned (.agg (bC 32 (rootL (lkS F) n))) ∧ Kept w w' := by
  have hfit := lkS_fits F n hv.lengths
  have H1 : Hid (∀ w, HSl n F v w → _) := Lib.hid fun w hv => refLeaves17_any n F v w hv hn
  have H2 : Hid (∀ u w, SSl n (lkS F) u w → Calls Tryd.prog 25 #[u] w fun e w' => e = .returned (.agg (bC 32 (rootL (lkS F) n))) ∧ Kept w w') := Lib.hid fun u w hu => by
    obtain ⟨p, c, rfl, _, _, hS⟩ := hu
    exact refRoot11_any p n c (lkS F) w hS hfit (by omega)
  generalize rootL (lkS F) n = r at H2 ⊢
  have HV := Lib.hid hv
  have R0 := Lib.hid (Rowz.new w (bC 32 []) 31)
  have K0 := Lib.hid ((Kept.refl w).alloc (.cells (bC 32 []) 31))
  clear hv hfit
  go_enter Tryd.func17, Tryd.ntmps17
  go_wp2_with fail
  change Calls _ _ _ (w.alloc (.cells (bC 32 []) 31)) _
  generalize w.alloc (.cells (bC 32 []) 31) = v1 at R0 K0 ⊢
  refine (H1.out v1 (HSl.kept _ _ _ _ _ K0.out HV.out)).mono ?_
  rintro e v2 ⟨u, rfl, hu, k2⟩
  have HU := Lib.hid hu
  replace R0 := Lib.hid (R0.out.kept k2)
  replace K0 := Lib.hid (K0.out.trans k2)
  clear hu k2 H1
  go_wp2_with fail
  refine (H2.out u v2 HU.out).mono ?_
  rintro e v3 ⟨rfl, k3⟩
  replace R0 := Lib.hid (R0.out.kept k3)
  replace K0 := Lib.hid (K0.out.trans k3)
  clear k3 H2 HU
  have hr : r.length = r.length := rfl
  go_wp2_with (refine wpList_store_row rfl 31 _ _ rfl w.heap.size (bC 32 r) rfl rfl 31 (bC 32 []) R0.out (info_hash _) (by simp [bC_size]) (bC_one _ _) ?_)
  refine bodyPost_ret (v := .agg (bC 32 r)) (results_cell_row Tryd.results17 _ _ w.heap.size 31 _ (0, 0) _ rfl R0.out.row Tryd.underlying31 rfl (info_hash _)) rfl ⟨rfl, ?_⟩
  exact K0.out.setRow (by omega) _
end Go.Proofs.YtlfkkfacbcpogaaDoor
