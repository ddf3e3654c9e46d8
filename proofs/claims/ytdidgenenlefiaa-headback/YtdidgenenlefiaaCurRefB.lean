/-
  Contracts of milepostref08: Raw, Num.
-/
import Derived.Test.YtdidgenenlefiaaCurRefA
namespace Go.Proofs.Ytdidgenenlefiaa
set_option maxRecDepth 4000
open Go.RowKit

def RC (w : World) (g : Nat) (c : Cu) : Prop := Rowz w g #[.string c.b, .int .i64 c.e] 35
theorem RC.c0 {w : World} {g : Nat} {c : Cu} (h : RC w g c) : w.cell? ⟨g, 0, none⟩ = some (.string c.b) := Rowz.cell h 0
theorem RC.c1 {w : World} {g : Nat} {c : Cu} (h : RC w g c) : w.cell? ⟨g, 1, none⟩ = some (.int .i64 c.e) := Rowz.cell h 1
theorem RC.f {w : World} {g : Nat} {c : Cu} (h : RC w g c) (i : Nat) : w.frozen? ⟨g, i, none⟩ = false := Rowz.free h i
theorem RC.set {w : World} {g : Nat} {c : Cu} (h : RC w g c) (s : ByteArray) (x : Int) : RC ((w.setCell ⟨g, 0, none⟩ (.string s)).setCell ⟨g, 1, none⟩ (.int .i64 x)) g ⟨s, x⟩ := Rowz.set (Rowz.set h 0 _) 1 _
theorem RC.grown {w w' : World} {g : Nat} {c : Cu} (h : RC w g c) (k : Grown w w') : RC w' g c := Rowz.grown h k
theorem Grown.set2 {w0 w : World} (h : Grown w0 w) {g : Nat} (hg : w0.heap.size ≤ g) (x y : Value) : Grown w0 ((w.setCell ⟨g, 0, none⟩ x).setCell ⟨g, 1, none⟩ y) := (h.setCell hg x).setCell hg y

theorem infoC' (c : Cu) : (Try.prog.info? 35).map (·.size) = some (#[.string c.b, .int .i64 c.e] : Array Value).size := infoC _ _
set_option maxRecDepth 100000 in
set_option maxHeartbeats 1000000 in
theorem refRaw8_any (c : Cu) (n : Int) (w : World) :
    Calls Try.prog 21 #[.agg #[.string c.b, .int .i64 c.e], .int .i64 n] w fun e w' => e = .returned (.tuple #[.string (rawR c n).1, .agg #[.string (rawR c n).2.b, .int .i64 (rawR c n).2.e]]) ∧ Grown w w' := by
  have R5 : Hid (RC ((w.alloc (.cells #[.string c.b, .int .i64 c.e] 35)).alloc (.cells #[.string noB, .int .i64 0] 35)) (w.heap.size + 1) ⟨noB, 0⟩) := Lib.hid (Rowz.newEq1 w _ _ _ _ rfl)
  have G0 : Hid (Grown w ((w.alloc (.cells #[.string c.b, .int .i64 c.e] 35)).alloc (.cells #[.string noB, .int .i64 0] 35))) := Lib.hid (((Grown.refl w).alloc _ _).alloc _ _)
  by_cases hn : n < 0
  · have hd : decide (n < 0) = true := decide_eq_true hn
    have HR : Hid (rawR c n = (noB, failC c 3)) := Lib.hid (by rw [rawR, if_pos hn])
    have HF := Lib.hid (refFail8_any c 3)
    generalize failC c 3 = c' at HR HF
    go_enter Try.func21, Try.ntmps21
    go_wp2_with (go_at_call 30; refine (HF.out _).mono ?_; rintro e w1 ⟨rfl, G1⟩; replace R5 := Lib.hid (RC.grown R5.out G1); replace G0 := Lib.hid (Grown.trans G0.out G1); have c0 := R5.out.c0; have c1 := R5.out.c1; have f0 := R5.out.f 0; have f1 := R5.out.f 1)
    refine bodyPost_ret (results_tmp_row Try.results21 _ _ (w.heap.size + 1) 35 _ _ _ rfl rfl (R5.out.set _ _) Try.underlying35 rfl (infoC _ _)) rfl ⟨by rw [HR.out]; rfl, Grown.set2 G0.out (by omega) _ _⟩
  have hd : decide (n < 0) = false := decide_eq_false hn
  by_cases he : c.e = 0
  · have hde : (c.e == 0) = true := by simp [he]
    by_cases hb : (c.b.size : Int) < n
    · have hdb : decide (n > (c.b.size : Int)) = true := decide_eq_true hb
      have HR : Hid (rawR c n = (noB, failC c 1)) := Lib.hid (by rw [rawR, if_neg hn, if_neg (fun h => h he), if_pos hb])
      have HF := Lib.hid (refFail8_any c 1)
      generalize failC c 1 = c' at HR HF
      clear he
      go_enter Try.func21, Try.ntmps21
      go_wp2_with (go_at_call 30; refine (HF.out _).mono ?_; rintro e w1 ⟨rfl, G1⟩; replace R5 := Lib.hid (RC.grown R5.out G1); replace G0 := Lib.hid (Grown.trans G0.out G1); have c0 := R5.out.c0; have c1 := R5.out.c1; have f0 := R5.out.f 0; have f1 := R5.out.f 1)
      refine bodyPost_ret (results_tmp_row Try.results21 _ _ (w.heap.size + 1) 35 _ _ _ rfl rfl (R5.out.set _ _) Try.underlying35 rfl (infoC _ _)) rfl ⟨by rw [HR.out]; rfl, Grown.set2 G0.out (by omega) _ _⟩
    · obtain ⟨m, rfl⟩ : ∃ m : Nat, n = m := ⟨n.toNat, by omega⟩
      have hm : m ≤ c.b.size := by omega
      have HR : Hid (rawR c m = (c.b.extract 0 m, ⟨c.b.extract m c.b.size, 0⟩)) := Lib.hid (by rw [rawR, if_neg hn, if_neg (fun h => h he), if_neg hb]; rfl)
      have hdb : decide (c.b.size < m) = false := decide_eq_false (by omega)
      have hs1 := fun w => run_cutH c.b m w hm
      have hs2 := fun w => run_cutT c.b m w hm
      clear hn he hb hd hm
      go_enter Try.func21, Try.ntmps21
      go_wp2
      go_region
      go_wp2
      refine bodyPost_ret (results_tmp_row Try.results21 _ _ (w.heap.size + 1) 35 _ _ _ rfl rfl (Rowz.drew (Rowz.newEq1 w _ _ _ _ rfl)) Try.underlying35 rfl (infoC _ _)) rfl ⟨by rw [HR.out]; rfl, ((Grown.refl w).alloc _ _).alloc _ _⟩
  · have hde : (c.e == 0) = false := by simp [he]
    have HR : Hid (rawR c n = (noB, c)) := Lib.hid (by rw [rawR, if_neg hn, if_pos he])
    clear hn he
    go_enter Try.func21, Try.ntmps21
    go_wp2
    go_region
    go_wp2
    refine bodyPost_ret (results_tmp_row Try.results21 _ _ (w.heap.size + 1) 35 _ _ _ rfl rfl (Rowz.drew (Rowz.newEq1 w _ _ _ _ rfl)) Try.underlying35 rfl (infoC _ _)) rfl ⟨by rw [HR.out]; rfl, ((Grown.refl w).alloc _ _).alloc _ _⟩

theorem tk_fits2 (s : ByteArray) {X n er : Nat} (h : tkL (sl s) = (X, n, er)) : X < 18446744073709551616 ∧ n ≤ s.size := by
  have := tk_fits (sl s)
  rw [h, sl_length] at this
  exact this
end Go.Proofs.Ytdidgenenlefiaa
