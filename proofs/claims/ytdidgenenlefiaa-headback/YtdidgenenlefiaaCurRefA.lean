/-
  Contracts of milepostref08: Fail, Done, Raw, Num.
-/
import Derived.Test.YtdidgenenlefiaaCurWalkC
namespace Go.Proofs.Ytdidgenenlefiaa
set_option maxRecDepth 4000
open Go.RowKit

theorem infoC (x y : Value) : (Try.prog.info? 35).map (·.size) = some (#[x, y] : Array Value).size := by kernel_rfl
set_option maxRecDepth 100000 in
theorem refFail8_any (c : Cu) (x : Int) (w : World) :
    Calls Try.prog 30 #[.agg #[.string c.b, .int .i64 c.e], .int .i64 x] w fun e w' => e = .returned (.agg #[.string (failC c x).b, .int .i64 (failC c x).e]) ∧ Grown w w' := by
  by_cases he : c.e = 0
  · have hd : (c.e == 0) = true := by simp [he]
    by_cases hx : x = 0
    · have hd2 : (x == 0) = true := by simp [hx]
      have HF : Hid (failC c x = c) := Lib.hid (by rw [failC, if_neg (fun h => h.1 hx)])
      clear he hx
      go_enter Try.func30, Try.ntmps30
      go_wp2
      refine bodyPost_ret (v := .agg #[.string c.b, .int .i64 c.e]) (results_cell_row Try.results30 _ _ (w.heap.size + 1) 35 _ (0, 0) _ rfl (Rowz.newEq1 w _ _ _ _ rfl) Try.underlying35 rfl (infoC _ _)) rfl ⟨by rw [HF.out], ((Grown.refl w).alloc _ _).alloc _ _⟩
    · have hd2 : (x == 0) = false := by simp [hx]
      have HF : Hid (failC c x = ⟨noB, x⟩) := Lib.hid (by rw [failC, if_pos ⟨hx, he⟩])
      clear he hx
      go_enter Try.func30, Try.ntmps30
      go_wp2
      refine bodyPost_ret (v := .agg #[.string noB, .int .i64 x]) (results_cell_row Try.results30 _ _ (w.heap.size + 1) 35 _ (0, 0) _ rfl (Rowz.newEq1 w _ _ _ _ rfl) Try.underlying35 rfl (infoC _ _)) rfl ⟨by rw [HF.out], ((Grown.refl w).alloc _ _).alloc _ _⟩
  · have hd : (c.e == 0) = false := by simp [he]
    have HF : Hid (failC c x = c) := Lib.hid (by rw [failC, if_neg (fun h => he h.2)])
    clear he
    go_enter Try.func30, Try.ntmps30
    go_wp2
    refine bodyPost_ret (v := .agg #[.string c.b, .int .i64 c.e]) (results_cell_row Try.results30 _ _ (w.heap.size + 1) 35 _ (0, 0) _ rfl (Rowz.newEq1 w _ _ _ _ rfl) Try.underlying35 rfl (infoC _ _)) rfl ⟨by rw [HF.out], ((Grown.refl w).alloc _ _).alloc _ _⟩

set_option maxRecDepth 100000 in
theorem refDone8_any (c : Cu) (w : World) :
    Calls Try.prog 11 #[.agg #[.string c.b, .int .i64 c.e]] w fun e w' => e = .returned (.int .i64 (doneC c)) ∧ Grown w w' := by
  by_cases he : c.e = 0
  · have hd : (c.e == 0) = true := by simp [he]
    by_cases hs : c.b.size = 0
    · have hb : c.b.toList.isEmpty = true := by rw [size0 hs]; exact isE_yes
      have HD : Hid (doneC c = c.e) := Lib.hid (by rw [doneC, if_neg (by omega)])
      clear he hs
      go_enter Try.func11, Try.ntmps11
      go_wp2
      go_ret
      exact ⟨ret_int HD.out.symm, (Grown.refl w).alloc _ _⟩
    · have hb : c.b.toList.isEmpty = false := isE_no hs
      have HD : Hid (doneC c = 2) := Lib.hid (by rw [doneC, if_pos ⟨he, by omega⟩])
      clear he hs
      go_enter Try.func11, Try.ntmps11
      go_wp2
      go_ret
      exact ⟨ret_int HD.out.symm, (Grown.refl w).alloc _ _⟩
  · have hd : (c.e == 0) = false := by simp [he]
    have HD : Hid (doneC c = c.e) := Lib.hid (by rw [doneC, if_neg (fun h => he h.1)])
    clear he
    go_enter Try.func11, Try.ntmps11
    go_wp2
    go_ret
    exact ⟨ret_int HD.out.symm, (Grown.refl w).alloc _ _⟩
end Go.Proofs.Ytdidgenenlefiaa
