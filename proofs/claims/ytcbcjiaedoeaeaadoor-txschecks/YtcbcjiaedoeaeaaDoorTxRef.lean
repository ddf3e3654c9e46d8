/-
  Contracts of the reference's OpenTx and CheckTx (milepostref22). Conditions: at most two thousand transactions of at most ten thousand bytes.
-/
import Derived.Test.YtcbcjiaedoeaeaaDoorTxForm
import Derived.Test.YtcbcjiaedoeaeaaDoorTxRefA
import Derived.Test.YtcbcjiaedoeaeaaDoorLinkRef
namespace Go.Proofs.YtcbcjiaedoeaeaaDoor
set_option maxRecDepth 4000
open Go.RowKit

theorem execBuildO {o : Oper} {t : Array Value} (w : World) (ho : o.op = .build 27 #[]) : (execOp (evS t) o).run Tryd.prog w = .ok (.value (.agg (opR 0 0 (.slice none 0 0)))) w := by
  have hr := run_buildO w
  unfold execOp
  simp [ho, hr, Result.andThen_ok]
set_option maxRecDepth 100000 in
set_option maxHeartbeats 1000000 in
theorem refOpen22_any (n : Nat) (S : Nat → ByteArray) (v : Value) (w : World) (i : Int) (hv : SSl n S v w) (hn : n ≤ 2000) (hz : ∀ i, i < n → (S i).size ≤ 10000) :
    Calls Tryd.prog 9 #[v, .int .i64 i] w fun e w' => ∃ q cc, e = .returned (.tuple #[.agg #[.int .i64 (otI S n i), .int .i64 (otC S n i), .slice q (otL S n i).length cc], .int .i64 (otE S n i)]) ∧
      HSl (otL S n i).length (lh (otL S n i)) (.slice q (otL S n i).length cc) w' ∧ Kept w w' := by
  have hfit := tkS_fits S n hz
  have H0 : Hid (∀ w, SSl n S v w → _) := Lib.hid fun w hv => refMay22_any n S v w hv hn hz
  have H1 : Hid (∀ w, SSl n S v w → _) := Lib.hid fun w hv => refLeaves22_any n S v w hv hn hz
  have H2 : Hid (∀ u w, SSl n (tkS S) u w → Calls Tryd.prog 22 #[u, .int .i64 i] w fun e w' => ∃ v, e = .returned (.tuple #[.agg (opR (opI n i) (opC n i) v), .int .i64 (opE n i)]) ∧ PaS w.heap.size (opL (tkS S) n i) v w' ∧ Kept w w') := Lib.hid fun u w hu => by
    obtain ⟨p, c, rfl, _, _, hS⟩ := hu
    exact refOpen_any p n c (tkS S) i w hS hfit (by omega)
  have HV := Lib.hid hv
  have R0 := Lib.hid (Rowz.new w (opR 0 0 (.slice none 0 0)) 27)
  have K0 := Lib.hid ((Kept.refl w).alloc (.cells (opR 0 0 (.slice none 0 0)) 27))
  clear hv hfit hz
  by_cases hm : mayT S n = 0
  · have HM : Hid (otI S n i = opI n i ∧ otC S n i = opC n i ∧ otE S n i = opE n i ∧ otL S n i = opL (tkS S) n i) := Lib.hid ⟨if_pos hm, if_pos hm, if_pos hm, if_pos hm⟩
    rw [hm] at H0
    rw [HM.out.1, HM.out.2.1, HM.out.2.2.1, HM.out.2.2.2]
    clear hm HM
    have h32 := opL_32 (tkS S) n i
    generalize opL (tkS S) n i = L at H2 h32 ⊢
    generalize opI n i = I at H2 ⊢
    generalize opC n i = N at H2 ⊢
    generalize opE n i = E at H2 ⊢
    go_enter Tryd.func9, Tryd.ntmps9
    go_wp2_with fail
    change Calls _ _ _ (w.alloc (.cells (opR 0 0 (.slice none 0 0)) 27)) _
    generalize w.alloc (.cells (opR 0 0 (.slice none 0 0)) 27) = v1 at R0 K0 ⊢
    refine (H0.out v1 (SSl.kept _ _ _ _ _ K0.out HV.out)).mono ?_
    rintro e v2 ⟨rfl, k2⟩
    replace R0 := Lib.hid (R0.out.kept k2)
    replace K0 := Lib.hid (K0.out.trans k2)
    clear k2 H0
    go_wp2_with fail
    refine (H1.out v2 (SSl.kept _ _ _ _ _ K0.out HV.out)).mono ?_
    rintro e v3 ⟨u, rfl, hu, k3⟩
    have HU := Lib.hid hu
    replace R0 := Lib.hid (R0.out.kept k3)
    replace K0 := Lib.hid (K0.out.trans k3)
    clear k3 hu H1
    go_wp2_with fail
    refine (H2.out u v3 HU.out).mono ?_
    rintro e v4 ⟨x, rfl, hp, k4⟩
    have hlt : w.heap.size < v3.heap.size := R0.out.lt
    obtain ⟨q, cc, rfl⟩ := hp.slice
    have HP := Lib.hid hp
    replace R0 := Lib.hid (R0.out.kept k4)
    replace K0 := Lib.hid (K0.out.trans k4)
    clear k4 hp H2 HU
    go_wp2_with (refine wpList_store_row rfl 27 _ _ rfl w.heap.size (opR I N (.slice q L.length cc)) rfl rfl 27 (opR 0 0 (.slice none 0 0)) R0.out (opR_size _ _ _) rfl (opR_one _ _ _ _ _) ?_)
    refine bodyPost_ret (results_row_tmp Tryd.results9 _ _ w.heap.size 27 _ _ _ rfl rfl R0.out.row Tryd.underlying27 rfl (opR_size _ _ _)) rfl ⟨q, cc, rfl, ?_, K0.out.setRow (Nat.le_refl _) _⟩
    exact (HP.out.setRow hlt _).hsl h32
  · have HM : Hid (otI S n i = 0 ∧ otC S n i = 0 ∧ otE S n i = mayT S n ∧ otL S n i = []) := Lib.hid ⟨if_neg hm, if_neg hm, if_neg hm, if_neg hm⟩
    rw [HM.out.1, HM.out.2.1, HM.out.2.2.1, HM.out.2.2.2]
    have hd1 : (mayT S n == 0) = false := by simp [hm]
    have hd2 : (mayT S n != 0) = true := by simp [hm]
    clear HM H1 H2
    generalize mayT S n = E at H0 hd1 hd2 hm ⊢
    go_enter Tryd.func9, Tryd.ntmps9
    go_wp2_with fail
    change Calls _ _ _ (w.alloc (.cells (opR 0 0 (.slice none 0 0)) 27)) _
    generalize w.alloc (.cells (opR 0 0 (.slice none 0 0)) 27) = v1 at R0 K0 ⊢
    refine (H0.out v1 (SSl.kept _ _ _ _ _ K0.out HV.out)).mono ?_
    rintro e v2 ⟨rfl, k2⟩
    replace R0 := Lib.hid (R0.out.kept k2)
    replace K0 := Lib.hid (K0.out.trans k2)
    clear k2 H0
    go_wp2_with (first
      | (refine wpList_exec 11 rfl (by rfl) _ _ (execBuildO _ rfl) ?_)
      | (refine wpList_store_row rfl 27 _ _ rfl w.heap.size (opR 0 0 (.slice none 0 0)) rfl rfl 27 (opR 0 0 (.slice none 0 0)) R0.out (opR_size _ _ _) rfl (opR_one _ _ _ _ _) ?_))
    exact bodyPost_ret (results_row_tmp Tryd.results9 _ _ w.heap.size 27 _ _ _ rfl rfl R0.out.row Tryd.underlying27 rfl (opR_size _ _ _)) rfl ⟨none, 0, rfl, ⟨none, 0, rfl, Nat.le_refl _, Nat.zero_le _, HAt.zero _ _ _⟩, K0.out.setRow (Nat.le_refl _) _⟩
set_option maxRecDepth 100000 in
set_option maxHeartbeats 1000000 in
theorem refCheck22_any (r : List UInt8) (s : ByteArray) (I N : Int) (m : Nat) (G : Nat → List UInt8) (v : Value) (w : World) (hr : r.length = 32) (hs : s.size ≤ 10000) (hv : HSl m G v w) :
    Calls Tryd.prog 16 #[.agg (bC 32 r), .string s, .agg #[.int .i64 I, .int .i64 N, v]] w fun e w' => e = .returned (.bool (decide (N ≤ 1024) && decide (s.size ≤ 4096) && ckO r (txS s) I N m G)) ∧ Kept w w' := by
  have hz := txS_size s
  have H2 : Hid (∀ w, HSl m G v w → Calls Tryd.prog 28 #[.agg (bC 32 r), .string ((⟨#[84]⟩ : ByteArray) ++ s), .agg #[.int .i64 I, .int .i64 N, v]] w fun e w' => e = .returned (.bool (ckO r (txS s) I N m G)) ∧ Kept w w') := Lib.hid fun w hv => refCheck_any r hr (txS s) (by omega) I N m G v w hv
  have HV := Lib.hid hv
  clear hz hv
  generalize ckO r (txS s) I N m G = B at H2 ⊢
  have hsz : (#[.int .i64 I, .int .i64 N, v] : Array Value).size = 3 := rfl
  have R3 := Lib.hid ((Rowz.new w (bC 32 r) 34).alloc (.cells #[.int .i64 I, .int .i64 N, v] 27))
  have R5 := Lib.hid (Rowz.newEq1 w (.cells (bC 32 r) 34) _ #[.int .i64 I, .int .i64 N, v] 27 rfl)
  have K1 := Lib.hid (((Kept.refl w).alloc (.cells (bC 32 r) 34)).alloc (.cells #[.int .i64 I, .int .i64 N, v] 27))
  have c1 := R5.out.cell 1
  obtain ⟨b, hb⟩ : ∃ b, decide (N ≤ 1024) = b := ⟨_, rfl⟩
  obtain ⟨b2, hb2⟩ : ∃ b, decide (s.size ≤ 4096) = b := ⟨_, rfl⟩
  have hb2' : decide ((s.size : Int) ≤ 4096) = b2 := by rw [← hb2]; exact decide_eq_decide.2 (by omega)
  rw [hb, hb2]
  cases b
  · go_enter Tryd.func16, Tryd.ntmps16
    go_wp2_with fail
    go_ret
    exact ⟨rfl, K1.out⟩
  · cases b2
    · go_enter Tryd.func16, Tryd.ntmps16
      go_wp2_with fail
      go_ret
      exact ⟨rfl, K1.out⟩
    · go_enter Tryd.func16, Tryd.ntmps16
      go_wp2_with (first
        | (refine wpList_exec 16 rfl (by rfl) _ _ (load_h rfl rfl R3.out) ?_)
        | (refine wpList_exec 19 rfl (by rfl) _ _ (loadO rfl rfl R5.out hsz) ?_))
      refine (H2.out _ (HSl.kept _ _ _ _ _ K1.out HV.out)).mono ?_
      rintro e v2 ⟨rfl, k2⟩
      have K2 := Lib.hid (K1.out.trans k2)
      clear k2
      go_wp2_with fail
      go_ret
      exact ⟨rfl, K2.out⟩
end Go.Proofs.YtcbcjiaedoeaeaaDoor
