/-
  Contracts of link.Text, link.Root and of the texts of a vector's ids (a draft for our own code: turn it after the landed code). Conditions: at most a thousand ids; sha's table of round constants stands (Root).
-/
import Derived.Test.YtlfkkfacbcpogaaDoorLinkFormA
import Derived.Test.YtlfkkfacbcpogaaDoorLinkRefA
import Derived.Test.YtlfkkfacbcpogaaDoorStrRow
import Derived.Test.YtlfkkfacbcpogaaDoorBas
namespace Go.Proofs.YtlfkkfacbcpogaaDoor
set_option maxRecDepth 4000
open Go.RowKit

theorem run_strHash1 {w : World} {g : Nat} {l : List UInt8} {T : TypeId} (h : Rowz w g (bC 32 l) T) (hl : l.length = 32) : (convert 62 9 (.slice (some ⟨g, 0, none⟩) 32 32)).run Tryd.prog w = .ok (.string (hS l)) w := by
  have h1 := run_strB w g 0 32 l (fun j hj => by
    rw [h.cell, Nat.zero_add, bC_get _ _ _ (by omega)]
    simp [List.getD_eq_getElem?_getD, hj])
  rw [hl] at h1
  exact h1
theorem slice_hash1 (g : Nat) (w : World) : (Instr.sliceAt 31 (.pointer (some ⟨g, 0, none⟩)) none none none).run Tryd.prog w = .ok (.slice (some ⟨g, 0, none⟩) 32 32) w := by kernel_rfl
set_option maxRecDepth 100000 in
set_option maxHeartbeats 1000000 in
theorem linkText_any : LinkTextC 31 := by
  intro l w hl
  have hz : (hS l).size = 32 := by rw [hS_size, hl]
  have R1 := Rowz.new w (bC 32 l) 31
  have K1 := Lib.hid ((Kept.refl w).alloc (.cells (bC 32 l) 31))
  have hc := run_strHash1 R1 hl
  have hs := slice_hash1 w.heap.size (w.alloc (.cells (bC 32 l) 31))
  have HS : Hid (linkS l = (⟨#[76]⟩ : ByteArray) ++ hS l) := Lib.hid rfl
  generalize linkS l = T at HS ⊢
  generalize hS l = s at hz HS hc
  clear R1
  go_enter Tryd.func31, Tryd.ntmps31
  go_wp2_with fail
  go_ret
  rw [HS.out]
  exact ⟨rfl, K1.out⟩
set_option maxRecDepth 100000 in
set_option maxHeartbeats 1000000 in
theorem linkTexts_any (n : Nat) (F : Nat → List UInt8) (v : Value) (w : World) (hv : HSl n F v w) (hn : n ≤ 1000) :
    Calls Tryd.prog 23 #[v] w fun e w' => ∃ u, e = .returned u ∧ SSl n (lkS F) u w' ∧ Kept w w' := by
  obtain ⟨p, c, rfl, hc, hcm, hF⟩ := hv
  have HF := Lib.hid hF
  have hm := run_make_strs n w (by omega)
  clear hF hc hcm
  go_enter Tryd.func23, Tryd.ntmps23
  go_wp2_with fail
  clear hm
  have R1 : Hid (Rowz (w.alloc (.cells (sC n (upS (fun _ => noB) 0)) 9)) w.heap.size (sC n (upS (lkS F) 0)) 9) := Lib.hid (by
    have e : sC n (upS (lkS F) 0) = sC n (upS (fun _ => noB) 0) := sC_congr _ _ _ fun i _ => by simp [upS]
    rw [e]
    exact Rowz.new w _ _)
  have K1 := Lib.hid ((Kept.refl w).alloc (.cells (sC n (upS (fun _ => noB) 0)) 9))
  generalize w.alloc (.cells (sC n (upS (fun _ => noB) 0)) 9) = v0 at R1 K1 ⊢
  obtain ⟨g, hg⟩ : ∃ g, g = w.heap.size := ⟨_, rfl⟩
  have HG : Hid (w.heap.size ≤ g) := Lib.hid (by omega)
  rw [← hg] at R1 ⊢
  clear hg
  go_loopw [11] (fun i wr => ∃ k : Nat, k ≤ n ∧ i = .int .i64 k ∧ Hid (Rowz wr g (sC n (upS (lkS F) k)) 9) ∧ Hid (Kept w wr)) (fun i _ => n - (intOf i).toNat)
  case atStart => exact ⟨0, by omega, rfl, R1, K1⟩
  case round =>
    clear R1 K1
    obtain ⟨k, hk, rfl, R1, K1⟩ := hrel
    by_cases hlt : k < n
    · have hd : decide ((k : Int) < (n : Int)) = true := decide_eq_true (by omega)
      have hd' : decide (k < n) = true := decide_eq_true hlt
      obtain ⟨q, rfl, _⟩ := HF.out.some (by omega)
      have HFw := Lib.hid (HF.out.kept K1.out)
      have HL : Hid (∀ w, Calls Tryd.prog 31 #[.agg (bC 32 (F k))] w fun e w' => e = .returned (.string (lkS F k)) ∧ Kept w w') := Lib.hid fun w => linkText_any (F k) w (HF.out.length k hlt)
      go_wp2_with (first
        | (refine wpList_exec 14 rfl (by rfl) _ _ (execIndexH q n c k hlt _ rfl rfl rfl) ?_; try simp only [List.setIfInBounds_toArray, List.set_cons_succ, List.set_cons_zero])
        | (refine wpList_exec 15 rfl (by rfl) _ _ (load_at k rfl rfl HFw.out hlt) ?_; try simp only [List.setIfInBounds_toArray, List.set_cons_succ, List.set_cons_zero])
        | (refine wpList_store_made rfl 31 _ _ rfl _ _ (bC 32 (F k)) rfl rfl 31 _ rfl (info_hash _) (by simp [bC_size]) (bC_one _ _) ?_; intro v3 R5 k3)
        | (refine wpList_exec 18 rfl (by rfl) _ _ (load_h rfl rfl R5.out) ?_; try simp only [List.setIfInBounds_toArray, List.set_cons_succ, List.set_cons_zero]))
      replace R1 := Lib.hid (R1.out.kept k3.out)
      replace K1 := Lib.hid (K1.out.trans k3.out)
      refine (HL.out _).mono ?_
      rintro e v1 ⟨rfl, k1⟩
      have r2 := R1.out.kept k1
      have K2 := Lib.hid (K1.out.trans k1)
      have f2 := r2.free k
      have c2 : v1.cell? ⟨g, k, none⟩ = some (.string noB) := by rw [r2.cell, sC_get _ _ _ hlt]; simp [upS]
      clear R1 K1 k1 k3 HL R5 HFw
      have R2 := Lib.hid (r2.set k (.string (lkS F k)))
      have K3 := Lib.hid (K2.out.setCell (a := ⟨g, k, none⟩) HG.out (.string (lkS F k)))
      clear r2 K2
      go_wp2_with ((refine wpList_exec 20 rfl (by rfl) _ _ (execIndexS ⟨g, 0, none⟩ n n k hlt _ rfl rfl rfl) ?_; try simp only [List.setIfInBounds_toArray, List.set_cons_succ, List.set_cons_zero]))
      go_roundw
      case measure => simp [intOf]; omega
      case rel => exact ⟨k + 1, by omega, rfl, Lib.hid (by rw [← upS_put]; exact R2.out), K3⟩
    · have hd : decide ((k : Int) < (n : Int)) = false := decide_eq_false (by omega)
      have hd' : decide (k < n) = false := decide_eq_false hlt
      obtain rfl : k = n := by omega
      go_wp2_with fail
      go_ret
      exact ⟨_, rfl, SSl.ofRow (T := 9) (by rw [← upS_all]; exact R1.out) (by unfold maxLen; omega), K1.out⟩
set_option maxRecDepth 100000 in
set_option maxHeartbeats 1000000 in
theorem linkRoot_any : LinkRootC 14 := by
  intro n F v w hv hn hT
  have hfit := lkS_fits F n hv.lengths
  have HT := Lib.hid hT
  have H1 : Hid (∀ w, HSl n F v w → _) := Lib.hid fun w hv => linkTexts_any n F v w hv hn
  have H2 : Hid (∀ u w, SSl n (lkS F) u w → Tab w → Calls Tryd.prog 22 #[u] w fun e w' => e = .returned (.agg (bC 32 (rootL (lkS F) n))) ∧ Kept w w') := Lib.hid fun u w hu ht => by
    obtain ⟨p, c, rfl, _, _, hS⟩ := hu
    exact treeRoot_any p n c (lkS F) w hS hfit (by omega) ht
  generalize rootL (lkS F) n = r at H2 ⊢
  have HV := Lib.hid hv
  have R0 := Lib.hid (Rowz.new w (bC 32 []) 31)
  have K0 := Lib.hid ((Kept.refl w).alloc (.cells (bC 32 []) 31))
  clear hv hfit hT
  go_enter Tryd.func14, Tryd.ntmps14
  go_wp2_with fail
  change Calls _ _ _ (w.alloc (.cells (bC 32 []) 31)) _
  generalize w.alloc (.cells (bC 32 []) 31) = v1 at R0 K0 ⊢
  refine (H1.out v1 (HSl.kept _ _ _ _ _ K0.out HV.out)).mono ?_
  rintro e v2 ⟨u, rfl, hu, k2⟩
  have HU := Lib.hid hu
  replace R0 := Lib.hid (R0.out.kept k2)
  replace K0 := Lib.hid (K0.out.trans k2)
  clear hu k2 H1
  go_wp2_with fail
  refine (H2.out u v2 HU.out (HT.out.kept K0.out)).mono ?_
  rintro e v3 ⟨rfl, k3⟩
  replace R0 := Lib.hid (R0.out.kept k3)
  replace K0 := Lib.hid (K0.out.trans k3)
  clear k3 H2 HU
  go_wp2_with (refine wpList_store_row rfl 31 _ _ rfl w.heap.size (bC 32 r) rfl rfl 31 (bC 32 []) R0.out (info_hash _) (by simp [bC_size]) (bC_one _ _) ?_)
  refine bodyPost_ret (v := .agg (bC 32 r)) (results_cell_row Tryd.results14 _ _ w.heap.size 31 _ (0, 0) _ rfl R0.out.row Tryd.underlying31 rfl (info_hash _)) rfl ⟨rfl, ?_⟩
  exact K0.out.setRow (by omega) _
end Go.Proofs.YtlfkkfacbcpogaaDoor
