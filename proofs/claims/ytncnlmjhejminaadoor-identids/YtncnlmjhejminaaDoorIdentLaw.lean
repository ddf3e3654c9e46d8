/-
  For layer 18's laws: awake of milepostlaw18. Condition: sha's table of round constants stands.
-/
import Derived.Test.YtncnlmjhejminaaDoorIdentWalk
import Derived.Test.YtncnlmjhejminaaDoorIdentRef
import Derived.Test.YtncnlmjhejminaaDoorHeadRef
import Derived.Test.YtncnlmjhejminaaDoorStrLib
import Derived.Laws.StructEq
namespace Go.Proofs.YtncnlmjhejminaaDoor
set_option maxRecDepth 4000
open Go.RowKit

theorem run_build_n1 (w : World) : (Instr.build 32 #[(3, .int .u64 1)]).run Tryd.prog w = .ok (.agg (hdC hdN1)) w := by kernel_rfl
theorem execBuild_n1 {o : Oper} {t : Array Value} (w : World) (ho : o.op = .build 32 #[(3, .const (.int .u64 1))]) : (execOp (evS t) o).run Tryd.prog w = .ok (.value (.agg (hdC hdN1))) w := by
  have hr := run_build_n1 w
  have hy : evS t (.const (.int .u64 1)) = .int .u64 1 := rfl
  unfold execOp
  simp [ho, hy, hr, Result.andThen_ok]
theorem execNeHd {o : Oper} {t : Array Value} {x y : Operand} (a b : Hd) (ha : a.ok) (hb : b.ok) (w : World) (ho : o.op = .binOp .neq 32 x y 32) (hx : evS t x = .agg (hdC a)) (hy : evS t y = .agg (hdC b)) :
    (execOp (evS t) o).run Tryd.prog w = .ok (.value (.bool (!decide (a = b)))) w := by
  have hE : (binOp .neq 32 (.agg (hdC a)) (.agg (hdC b))).run Tryd.prog w = .ok (.bool (!decide (a = b))) w := by
    rw [run_neq_struct, sameHd a b ha hb w]; rfl
  unfold execOp
  rw [ho]
  simp only [hx, hy, Sem.run_bind, run_eqGuard_agg w _ _ _ _ _ _ guardHd, hE, Result.andThen_ok, Sem.run_pure]
theorem execNeHdSelf {o : Oper} {t : Array Value} {x y : Operand} (a : Hd) (ha : a.ok) (w : World) (ho : o.op = .binOp .neq 32 x y 32) (hx : evS t x = .agg (hdC a)) (hy : evS t y = .agg (hdC a)) :
    (execOp (evS t) o).run Tryd.prog w = .ok (.value (.bool false)) w := by
  have := execNeHd a a ha ha w ho hx hy
  simpa using this
theorem execNeHdYes {o : Oper} {t : Array Value} {x y : Operand} (a b : Hd) (ha : a.ok) (hb : b.ok) (hne : ¬ a = b) (w : World) (ho : o.op = .binOp .neq 32 x y 32) (hx : evS t x = .agg (hdC a)) (hy : evS t y = .agg (hdC b)) :
    (execOp (evS t) o).run Tryd.prog w = .ok (.value (.bool true)) w := by
  have := execNeHd a b ha hb w ho hx hy
  rwa [decide_eq_false hne] at this
theorem execEqHdSelf {o : Oper} {t : Array Value} {x y : Operand} (a : Hd) (ha : a.ok) (w : World) (ho : o.op = .binOp .eql 32 x y 32) (hx : evS t x = .agg (hdC a)) (hy : evS t y = .agg (hdC a)) :
    (execOp (evS t) o).run Tryd.prog w = .ok (.value (.bool true)) w := by
  have := execEqHd a a ha ha w ho hx hy
  rwa [decide_eq_true rfl] at this
theorem execEqHdNo {o : Oper} {t : Array Value} {x y : Operand} (a b : Hd) (ha : a.ok) (hb : b.ok) (hne : ¬ a = b) (w : World) (ho : o.op = .binOp .eql 32 x y 32) (hx : evS t x = .agg (hdC a)) (hy : evS t y = .agg (hdC b)) :
    (execOp (evS t) o).run Tryd.prog w = .ok (.value (.bool false)) w := by
  have := execEqHd a b ha hb w ho hx hy
  rwa [decide_eq_false hne] at this
theorem run_build2x (a b : Hd) (w : World) : (Instr.buildSlice 22 2 #[(0, .agg (hdC a)), (1, .agg (hdC b))]).run Tryd.prog w = .ok (.slice (some ⟨w.heap.size, 0, none⟩) 2 2) (w.alloc (.cells (hdC a ++ hdC b) 32)) := by kernel_rfl
theorem execBuild2x {o : Oper} {t : Array Value} {x y : Operand} (a b : Hd) (w : World) (ho : o.op = .buildSlice 22 2 #[(0, x), (1, y)]) (hx : evS t x = .agg (hdC a)) (hy : evS t y = .agg (hdC b)) :
    (execOp (evS t) o).run Tryd.prog w = .ok (.value (.slice (some ⟨w.heap.size, 0, none⟩) 2 2)) (w.alloc (.cells (hdC a ++ hdC b) 32)) := by
  have hr := run_build2x a b w
  unfold execOp
  simp [ho, hx, hy, hr, Result.andThen_ok]
def twoX (i : Nat) : Hd := if i = 0 then hdZ else hdN1
theorem twoX_at {w : World} {g : Nat} {T : TypeId} (h : Rowz w g (hdC hdZ ++ hdC hdN1) T) : XAt w (some ⟨g, 0, none⟩) 2 twoX := by
  refine XAt.ofCells h (fun i hi => ?_) (fun i hi j u hj => ?_)
  · unfold twoX; split
    · exact hdZ_ok
    · exact hdN1_ok
  · have hj66 : j < 66 := by
      have := (List.getElem?_eq_some_iff.1 hj).1
      simpa [hdC_size] using this
    have : i = 0 ∨ i = 1 := by omega
    rcases this with rfl | rfl
    · rw [Array.getElem?_append_left (by rw [hdC_size]; omega), Nat.zero_mul, Nat.zero_add, ← Array.getElem?_toList]
      exact hj
    · rw [Array.getElem?_append_right (by rw [hdC_size]; omega), hdC_size, show 1 * 66 + j - 66 = j by omega, ← Array.getElem?_toList]
      exact hj
theorem fst_two : fstL (fun i => idH (twoX i)) 2 (idH hdN1) = 1 := fstL_at _ 2 _ 1 (by omega) (fun i hi => by
  obtain rfl : i = 0 := by omega
  exact id_apart) rfl
set_option maxRecDepth 100000 in
set_option maxHeartbeats 1000000 in
theorem awake18_any (w : World) (hT : Tab w) : Calls Tryd.prog 6 #[] w fun e w' => e = .returned (.bool true) ∧ Kept w w' := by
  have HT := Lib.hid hT
  have HI : Hid (∀ g w, Rowz w g (hdC hdZ ++ hdC hdN1) 32 → Tab w → Calls Tryd.prog 7 #[.slice (some ⟨g, 0, none⟩) 2 2] w fun e w' => ∃ v, e = .returned v ∧ HSl 2 (fun i => idH (twoX i)) v w' ∧ Kept w w') := Lib.hid fun g w hr ht => identIds_any (some ⟨g, 0, none⟩) 2 2 twoX w (twoX_at hr) (by omega) ht
  have HX : Hid (∀ w, _) := Lib.hid fun w => identText_any hdZ w hdZ_ok
  have HD : Hid (∀ w, Tab w → _) := Lib.hid fun w ht => identId_any hdN1 w hdN1_ok ht
  have HF : Hid (∀ v w, HSl 2 (fun i => idH (twoX i)) v w → Calls Tryd.prog 13 #[v, .agg (bC 32 (idH hdN1))] w fun e w' => e = .returned (.int .i64 1) ∧ Kept w w') := Lib.hid fun v w hv => by
    have := identFirst_any 2 (fun i => idH (twoX i)) v w (idH hdN1) hv (by omega) (idH_length _)
    rwa [fst_two] at this
  have hs := headS_size hdZ hdZ_ok
  have HB1 : Hid (∀ {o : Oper} {t : Array Value} (w : World), o.op = .build 32 #[(3, .const (.int .u64 1))] → (execOp (evS t) o).run Tryd.prog w = .ok (.value (.agg (hdC hdN1))) w) := Lib.hid fun w ho => execBuild_n1 w ho
  have HB0 : Hid (∀ {o : Oper} {t : Array Value} (w : World), o.op = .build 32 #[] → (execOp (evS t) o).run Tryd.prog w = .ok (.value (.agg (hdC hdZ))) w) := Lib.hid fun w ho => execBuildH0 w ho
  generalize headS (hdS hdZ) = s at HX hs
  have hs' : ((s.size : Int) == 77) = true := by simp [hs]
  generalize (fun i => idH (twoX i)) = F at HI HF
  generalize idH hdN1 = l at HD HF
  generalize hdN1 = B at HI HD HB1
  generalize hdZ = A at HI HX HB0
  clear hT hs
  go_enter Tryd.func6, Tryd.ntmps6
  go_wp2_with (first
    | (refine wpList_exec 2 rfl (by rfl) _ _ (HB0.out _ rfl) ?_)
    | (refine wpList_exec 3 rfl (by rfl) _ _ (HB1.out _ rfl) ?_)
    | (refine wpList_exec 4 rfl (by rfl) _ _ (execBuild2x A B _ rfl rfl rfl) ?_))
  have R1 := Lib.hid (Rowz.new w (hdC A ++ hdC B) 32)
  have K1 := Lib.hid ((Kept.refl w).alloc (.cells (hdC A ++ hdC B) 32))
  generalize w.alloc (.cells (hdC A ++ hdC B) 32) = v1 at R1 K1 ⊢
  refine (HI.out _ v1 R1.out (HT.out.kept K1.out)).mono ?_
  rintro e v2 ⟨x, rfl, hx, k2⟩
  obtain ⟨p, c, rfl, h1, h2, hF⟩ := hx
  have HV := Lib.hid (show HSl 2 F (.slice p 2 c) v2 from ⟨p, c, rfl, h1, h2, hF⟩)
  replace K1 := Lib.hid (K1.out.trans k2)
  clear k2 R1 HI hF h1 h2
  go_wp2_with (refine wpList_exec 6 rfl (by rfl) _ _ (HB0.out _ rfl) ?_)
  refine (HX.out v2).mono ?_
  rintro e v3 ⟨rfl, k3⟩
  replace K1 := Lib.hid (K1.out.trans k3)
  replace HV := Lib.hid (HSl.kept _ _ _ _ _ k3 HV.out)
  clear k3 HX
  go_wp2_with (refine wpList_exec 17 rfl (by rfl) _ _ (HB1.out _ rfl) ?_)
  refine (HD.out v3 (HT.out.kept K1.out)).mono ?_
  rintro e v4 ⟨rfl, k4⟩
  replace K1 := Lib.hid (K1.out.trans k4)
  replace HV := Lib.hid (HSl.kept _ _ _ _ _ k4 HV.out)
  clear k4 HD
  go_wp2_with fail
  refine (HF.out _ v4 HV.out).mono ?_
  rintro e v5 ⟨rfl, k5⟩
  replace K1 := Lib.hid (K1.out.trans k5)
  clear k5 HF HV
  go_wp2_with fail
  go_ret
  exact ⟨rfl, K1.out⟩
end Go.Proofs.YtncnlmjhejminaaDoor
