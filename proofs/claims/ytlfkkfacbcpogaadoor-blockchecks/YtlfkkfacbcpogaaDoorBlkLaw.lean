/-
  For layer 23's laws: what a block is made of in memory, awake of milepostlaw23. Condition: sha's table of round constants stands.
-/
import Derived.Test.YtlfkkfacbcpogaaDoorBlkWalk
import Derived.Test.YtlfkkfacbcpogaaDoorBlkRef
import Derived.Test.YtlfkkfacbcpogaaDoorTxMuch
import Derived.Test.YtlfkkfacbcpogaaDoorLawLibL
import Derived.Test.YtlfkkfacbcpogaaDoorPairLib
namespace Go.Proofs.YtlfkkfacbcpogaaDoor
set_option maxRecDepth 4000
open Go.RowKit

theorem loadHashesA {o : Oper} {t : Array Value} {x : Operand} {w : World} {a : Addr} {p : Option Addr} {n c : Nat} (ho : o.op = .load 23 x) (hx : evS t x = .pointer (some a)) (h : w.cell? a = some (.slice p n c)) : (execOp (evS t) o).run Tryd.prog w = .ok (.value (.slice p n c)) w :=
  execLoad1 ho hx (by go_simp)
theorem allocBkR {o : Oper} (ho : o.op = .alloc 35) (r : Operand → Value) (w : World) : (execOp r o).run Tryd.prog w = .ok (.value (.pointer (some ⟨w.heap.size, 0, none⟩))) (w.alloc (.cells (bkC hdZ (.slice none 0 0)) 35)) := by
  unfold execOp
  rw [ho]
  kernel_rfl
theorem execFieldOf {o : Oper} {t : Array Value} {x : Operand} (b k : Nat) (hk : k = 0 ∨ k = 1 ∨ k = 2 ∨ k = 3) (w : World) (ho : o.op = .fieldAddr 27 x k) (hx : evS t x = .pointer (some ⟨b, 0, none⟩)) :
    (execOp (evS t) o).run Tryd.prog w = .ok (.value (.pointer (some ⟨b, k, none⟩))) w := by
  rcases hk with rfl | rfl | rfl | rfl
  all_goals
    unfold execOp
    rw [ho]
    simp only [hx]
    go_simp
theorem execIndexB2 {o : Oper} {t : Array Value} {x y : Operand} (g k : Nat) (hk : k = 0 ∨ k = 1) (w : World) (ho : o.op = .indexAddr 40 x y) (hx : evS t x = .pointer (some ⟨g, 0, none⟩)) (hy : evS t y = .int .i64 (k : Int)) :
    (execOp (evS t) o).run Tryd.prog w = .ok (.value (.pointer (some ⟨g, k * 67, none⟩))) w := by
  have hs : (Go.sizeOf 35).run Tryd.prog w = .ok 67 w := by kernel_rfl
  rcases hk with rfl | rfl
  all_goals
    unfold execOp
    rw [ho]
    simp only [hx, hy]
    go_simp
theorem CAt.blk0 {w : World} {g : Nat} {x y : Hd} {u t : Value} {T : TypeId} (h : Rowz w g (bkC x u ++ bkC y t) T) : CAt w ⟨g, 0 * 67, none⟩ (bkC x u) :=
  (CAt.ofRow h).sub _ 0 rfl _ fun j v hj => by
    have hj2 := (Array.getElem?_eq_some_iff.1 hj).1
    rw [Nat.zero_add, Array.getElem?_append_left hj2, hj]
theorem CAt.blk1 {w : World} {g : Nat} {x y : Hd} {u t : Value} {T : TypeId} (h : Rowz w g (bkC x u ++ bkC y t) T) : CAt w ⟨g, 1 * 67, none⟩ (bkC y t) :=
  (CAt.ofRow h).sub _ 67 rfl _ fun j v hj => by
    rw [Array.getElem?_append_right (by rw [bkC_size]; omega), bkC_size, show 67 + j - 67 = j by omega, hj]
theorem allocU2R {o : Oper} (ho : o.op = .alloc 44) (r : Operand → Value) (w : World) : (execOp r o).run Tryd.prog w = .ok (.value (.pointer (some ⟨w.heap.size, 0, none⟩))) (w.alloc (.cells #[.int .u32 0, .int .u32 0] 44)) := by
  unfold execOp
  rw [ho]
  kernel_rfl
theorem execBuildU2 {o : Oper} {t : Array Value} {x y : Operand} (a b : Int) (w : World) (ho : o.op = .build 44 #[(0, x), (1, y)]) (hx : evS t x = .int .u32 a) (hy : evS t y = .int .u32 b) :
    (execOp (evS t) o).run Tryd.prog w = .ok (.value (.agg #[.int .u32 a, .int .u32 b])) w := by
  have hr : (Instr.build 44 #[(0, .int .u32 a), (1, .int .u32 b)]).run Tryd.prog w = .ok (.agg #[.int .u32 a, .int .u32 b]) w := by kernel_rfl
  unfold execOp
  simp [ho, hx, hy, hr, Result.andThen_ok]
theorem execIndexU2 {o : Oper} {t : Array Value} {x y : Operand} (g k : Nat) (hk : k = 0 ∨ k = 1) (w : World) (ho : o.op = .indexAddr 44 x y) (hx : evS t x = .pointer (some ⟨g, 0, none⟩)) (hy : evS t y = .int .i64 (k : Int)) :
    (execOp (evS t) o).run Tryd.prog w = .ok (.value (.pointer (some ⟨g, k, none⟩))) w := by
  rcases hk with rfl | rfl
  all_goals
    unfold execOp
    rw [ho]
    simp only [hx, hy]
    go_simp
theorem root_none (S : Nat → ByteArray) : rootL S 0 = shaL (rootS 0 zeroH) := by rw [rootL, topN_zero]
def F0 (_ : Nat) : List UInt8 := []
def S0 (_ : Nat) : ByteArray := noB
theorem ssl_none (w : World) : SSl 0 S0 (.slice none 0 0) w := ⟨none, 0, rfl, Nat.le_refl _, Nat.zero_le _, SAt.zero _ _ _⟩
theorem hsl_none (w : World) : HSl 0 F0 (.slice none 0 0) w := ⟨none, 0, rfl, Nat.le_refl _, Nat.zero_le _, HAt.zero _ _ _⟩
set_option maxRecDepth 100000 in
set_option maxHeartbeats 1000000 in
theorem awake23_any (w : World) (hT : Tab w) : Calls Tryd.prog 7 #[] w fun e w' => e = .returned (.bool true) ∧ Kept w w' := by
  have HT := Lib.hid hT
  have HM : Hid (∀ w, Tab w → Calls Tryd.prog 8 #[.int .u32 0, .slice none 0 0, .slice none 0 0, .int .u64 5] w fun e w' => ∃ p c, e = .returned (.agg (bkC (mkB 0 0 F0 0 S0 5) (.slice p 0 c))) ∧ SSl 0 S0 (.slice p 0 c) w' ∧ Kept w w') := Lib.hid fun w ht =>
    blockMake_any 0 0 F0 (.slice none 0 0) 0 S0 (.slice none 0 0) 5 w (by omega) (by omega) (hsl_none w) (by omega) (ssl_none w) (by omega) (fun i hi => by omega) ht
  have HC0 : Hid (∀ u w, SSl 0 S0 u w → Tab w → Calls Tryd.prog 11 #[.agg (bkC (mkB 0 0 F0 0 S0 5) u), .int .u32 0, .slice none 0 0] w fun e w' => e = .returned (.int .i64 0) ∧ Kept w w') := Lib.hid fun u w hu ht => by
    have := blockCheck_any (mkB 0 0 F0 0 S0 5) 0 S0 u 0 0 F0 (.slice none 0 0) w (mkB_ok _ _ _ _ _ _ (by omega) (by omega)) hu (by omega) (fun i hi => by omega) (by omega) (hsl_none w) (by omega) ht
    rwa [ckB_mk, mayT_none] at this
  have HC1 : Hid (∀ u w, SSl 0 S0 u w → Tab w → Calls Tryd.prog 11 #[.agg (bkC (mkB 0 0 F0 0 S0 5) u), .int .u32 1, .slice none 0 0] w fun e w' => e = .returned (.int .i64 8) ∧ Kept w w') := Lib.hid fun u w hu ht => by
    have := blockCheck_any (mkB 0 0 F0 0 S0 5) 0 S0 u 1 0 F0 (.slice none 0 0) w (mkB_ok _ _ _ _ _ _ (by omega) (by omega)) hu (by omega) (fun i hi => by omega) (by omega) (hsl_none w) (by omega) ht
    rwa [ckB_other _ _ _ _ _ _ _ (by omega)] at this
  have HS : Hid (∀ u w, SSl 0 S0 u w → Calls Tryd.prog 13 #[.agg (bkC (mkB 0 0 F0 0 S0 5) u), .agg (bkC (mkB 0 0 F0 0 S0 5) u)] w fun e w' => e = .returned (.bool true) ∧ Kept w w') := Lib.hid fun u w hu => by
    have := blockSame_any (mkB 0 0 F0 0 S0 5) (mkB 0 0 F0 0 S0 5) 0 0 S0 S0 u u w (mkB_ok _ _ _ _ _ _ (by omega) (by omega)) (mkB_ok _ _ _ _ _ _ (by omega) (by omega)) hu hu
    rwa [eqB_self] at this
  have hl : (mkB 0 0 F0 0 S0 5).l = shaL (rootS 0 zeroH) := root_none _
  have ht : (mkB 0 0 F0 0 S0 5).t = shaL (rootS 0 zeroH) := root_none _
  have hr0 : (shaL (rootS 0 zeroH)).length = 32 := shaL_length _
  have hn : (mkB 0 0 F0 0 S0 5).n = 5 := rfl
  generalize mkB 0 0 F0 0 S0 5 = Y at HM HC0 HC1 HS hl ht hn
  generalize shaL (rootS 0 zeroH) = r0 at hl ht hr0
  clear hT
  go_enter Tryd.func7, Tryd.ntmps7
  go_wp2_with fail
  refine (HM.out w HT.out).mono ?_
  rintro e v1 ⟨p, c, rfl, hu, k1⟩
  have HU := Lib.hid hu
  have K1 := Lib.hid k1
  clear hu k1 HM
  go_wp2_with (first
    | (refine wpList_exec 1 rfl (by rfl) _ _ (execAllocBk _ rfl) ?_; try simp only [List.setIfInBounds_toArray, List.set_cons_succ, List.set_cons_zero])
    | (refine wpList_store_made rfl 35 _ _ rfl _ _ (bkC Y (.slice p 0 c)) rfl rfl 35 _ rfl (info_blk _ _) (by rw [bkC_size, bkC_size]) (bkC_one _ _ _ _) ?_; intro v2 R1 k2)
    | (refine park_at 3 rfl ?_))
  obtain ⟨g, hg⟩ : ∃ g, g = v1.heap.size := ⟨_, rfl⟩
  rw [← hg] at R1 ⊢
  clear hg
  replace HU := Lib.hid (SSl.kept _ _ _ _ _ k2.out HU.out)
  replace K1 := Lib.hid (K1.out.trans k2.out)
  clear k2
  have L1 : Hid (CAt v2 ⟨g, 1, none⟩ (bC 32 r0)) := Lib.hid (by have := (CAt.ofRow R1.out).bh.hl ⟨g, 1, none⟩ rfl; rwa [hl] at this)
  have L2 : Hid (CAt v2 ⟨g, 33, none⟩ (bC 32 r0)) := Lib.hid (by have := (CAt.ofRow R1.out).bh.ht ⟨g, 33, none⟩ rfl; rwa [ht] at this)
  have L3 : Hid (v2.cell? ⟨g, 65, none⟩ = some (.int .u64 5)) := Lib.hid (by have := (CAt.ofRow R1.out).bh.cell ⟨g, 65, none⟩ 65 rfl _ (hdC_65 Y); rwa [hn] at this)
  clear hl ht hn
  refine unpark ?_
  go_wp2_with (first
    | (refine wpList_exec 3 rfl (by rfl) _ _ (execFieldBA ⟨g, 0, none⟩ ⟨g, 0, none⟩ 0 0 (.inl ⟨rfl, rfl⟩) rfl _ rfl rfl) ?_; try simp only [List.setIfInBounds_toArray, List.set_cons_succ, List.set_cons_zero])
    | (refine wpList_exec 4 rfl (by rfl) _ _ (execFieldHA ⟨g, 0, none⟩ ⟨g, 1, none⟩ 1 1 (.inr (.inl ⟨rfl, rfl⟩)) rfl _ rfl rfl) ?_; try simp only [List.setIfInBounds_toArray, List.set_cons_succ, List.set_cons_zero])
    | (refine wpList_exec 5 rfl (by rfl) _ _ (loadHashA rfl rfl L1.out) ?_; try simp only [List.setIfInBounds_toArray, List.set_cons_succ, List.set_cons_zero])
    | (refine wpList_exec 6 rfl (by rfl) _ _ (execFieldBA ⟨g, 0, none⟩ ⟨g, 0, none⟩ 0 0 (.inl ⟨rfl, rfl⟩) rfl _ rfl rfl) ?_; try simp only [List.setIfInBounds_toArray, List.set_cons_succ, List.set_cons_zero])
    | (refine wpList_exec 7 rfl (by rfl) _ _ (execFieldHA ⟨g, 0, none⟩ ⟨g, 33, none⟩ 2 33 (.inr (.inr (.inl ⟨rfl, rfl⟩))) rfl _ rfl rfl) ?_; try simp only [List.setIfInBounds_toArray, List.set_cons_succ, List.set_cons_zero])
    | (refine wpList_exec 8 rfl (by rfl) _ _ (loadHashA rfl rfl L2.out) ?_; try simp only [List.setIfInBounds_toArray, List.set_cons_succ, List.set_cons_zero])
    | (refine wpList_exec 9 rfl (by rfl) _ _ (execEqH1 r0 hr0 _ rfl rfl rfl) ?_; try simp only [List.setIfInBounds_toArray, List.set_cons_succ, List.set_cons_zero])
    | (refine wpList_exec 11 rfl (by rfl) _ _ (execFieldBA ⟨g, 0, none⟩ ⟨g, 0, none⟩ 0 0 (.inl ⟨rfl, rfl⟩) rfl _ rfl rfl) ?_; try simp only [List.setIfInBounds_toArray, List.set_cons_succ, List.set_cons_zero])
    | (refine wpList_exec 12 rfl (by rfl) _ _ (execFieldHA ⟨g, 0, none⟩ ⟨g, 65, none⟩ 3 65 (.inr (.inr (.inr ⟨rfl, rfl⟩))) rfl _ rfl rfl) ?_; try simp only [List.setIfInBounds_toArray, List.set_cons_succ, List.set_cons_zero])
    | (refine wpList_exec 13 rfl (by rfl) _ _ (loadU64A rfl rfl L3.out) ?_; try simp only [List.setIfInBounds_toArray, List.set_cons_succ, List.set_cons_zero])
    | (refine wpList_exec 17 rfl (by rfl) _ _ (loadBk rfl rfl R1.out) ?_; try simp only [List.setIfInBounds_toArray, List.set_cons_succ, List.set_cons_zero]))
  refine (HC0.out _ v2 HU.out (HT.out.kept K1.out)).mono ?_
  rintro e v3 ⟨rfl, k3⟩
  replace HU := Lib.hid (SSl.kept _ _ _ _ _ k3 HU.out)
  replace R1 := Lib.hid (R1.out.kept k3)
  replace K1 := Lib.hid (K1.out.trans k3)
  clear k3 HC0 L1 L2 L3
  go_wp2_with (refine wpList_exec 22 rfl (by rfl) _ _ (loadBk rfl rfl R1.out) ?_; try simp only [List.setIfInBounds_toArray, List.set_cons_succ, List.set_cons_zero])
  refine (HC1.out _ v3 HU.out (HT.out.kept K1.out)).mono ?_
  rintro e v4 ⟨rfl, k4⟩
  replace HU := Lib.hid (SSl.kept _ _ _ _ _ k4 HU.out)
  replace R1 := Lib.hid (R1.out.kept k4)
  replace K1 := Lib.hid (K1.out.trans k4)
  clear k4 HC1
  go_wp2_with (first
    | (refine wpList_exec 27 rfl (by rfl) _ _ (loadBk rfl rfl R1.out) ?_; try simp only [List.setIfInBounds_toArray, List.set_cons_succ, List.set_cons_zero])
    | (refine wpList_exec 28 rfl (by rfl) _ _ (loadBk rfl rfl R1.out) ?_; try simp only [List.setIfInBounds_toArray, List.set_cons_succ, List.set_cons_zero]))
  refine (HS.out _ v4 HU.out).mono ?_
  rintro e v5 ⟨rfl, k5⟩
  replace K1 := Lib.hid (K1.out.trans k5)
  clear k5 HS
  go_wp2_with fail
  go_ret
  exact ⟨rfl, K1.out⟩
end Go.Proofs.YtlfkkfacbcpogaaDoor
