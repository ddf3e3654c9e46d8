/-
  Contracts of the reference's MayTxs, Leaves and Txs (milepostref22). Conditions: at most two thousand transactions of at most ten thousand bytes.
-/
import Derived.Test.YtlfkkfacbcpogaaDoorTxFormA
import Derived.Test.YtlfkkfacbcpogaaDoorLinkRefA
namespace Go.Proofs.YtlfkkfacbcpogaaDoor
set_option maxRecDepth 4000
open Go.RowKit

theorem load_sat {o : Oper} {t : Array Value} {x : Operand} {w : World} {q : Addr} {n : Nat} {S : Nat → ByteArray} (k : Nat) (ho : o.op = .load 9 x) (hx : evS t x = .pointer (some (q.add k))) (hS : SAt w (some q) n S) (hk : k < n) :
    (execOp (evS t) o).run Tryd.prog w = .ok (.value (.string (S k))) w := by
  have hr := hS.load k hk
  unfold execOp
  simp only [ho, hx, Sem.run_bind, Sem.run_pure, hr, Result.andThen_ok]
set_option maxRecDepth 100000 in
set_option maxHeartbeats 1000000 in
theorem refMay22_any : TxsMayC 20 := by
  intro n S v w hv hn hz
  obtain ⟨p, c, rfl, _, _, hS⟩ := hv
  have HS := Lib.hid hS
  clear hS
  by_cases hb : 1024 < n
  · have hd : decide ((n : Int) > 1024) = true := decide_eq_true (by omega)
    have hd' : decide ((1024 : Int) < (n : Int)) = true := decide_eq_true (by omega)
    have HM : Hid (mayT S n = 4) := Lib.hid (by rw [mayT, if_pos (.inl hb)])
    go_enter Tryd.func20, Tryd.ntmps20
    go_wp2_with fail
    go_ret
    exact ⟨ret_int HM.out.symm, Kept.refl _⟩
  · have hd : decide ((n : Int) > 1024) = false := decide_eq_false (by omega)
    have hd' : decide ((1024 : Int) < (n : Int)) = false := decide_eq_false (by omega)
    have HB := Lib.hid hb
    clear hb hz
    go_enter Tryd.func20, Tryd.ntmps20
    go_wp2_with fail
    go_loopw [3] (fun i wr => ∃ k : Nat, k ≤ n ∧ i = .int .i64 k ∧ Hid (∀ i, i < k → (S i).size ≤ 4096) ∧ Hid (Kept w wr)) (fun i _ => n - (intOf i).toNat)
    case atStart => exact ⟨0, by omega, rfl, Lib.hid (fun i h => by omega), Lib.hid (Kept.refl w)⟩
    case round =>
      obtain ⟨k, hk, rfl, HN, KW⟩ := hrel
      by_cases hlt : k < n
      · have hd1 : decide ((k : Int) < (n : Int)) = true := decide_eq_true (by omega)
        have hd1' : decide (k < n) = true := decide_eq_true hlt
        obtain ⟨q, rfl, _⟩ := HS.out.some (by omega)
        have HSw := Lib.hid (HS.out.kept KW.out)
        by_cases hs : 4096 < (S k).size
        · have HM : Hid (mayT S n = 4) := Lib.hid (by rw [mayT, if_pos (.inr (bigT_yes k hlt hs))])
          obtain ⟨x, hx⟩ : ∃ x, x = S k := ⟨_, rfl⟩
          have hl : Hid (∀ {o : Oper} {t : Array Value} {y : Operand}, o.op = .load 9 y → evS t y = .pointer (some (q.add k)) → (execOp (evS t) o).run Tryd.prog wr = .ok (.value (.string x)) wr) := Lib.hid fun ho hy => by rw [hx]; exact load_sat k ho hy HSw.out hlt
          rw [← hx] at hs
          have hd2 : decide ((x.size : Int) > 4096) = true := decide_eq_true (by omega)
          have hd2' : decide ((4096 : Int) < (x.size : Int)) = true := decide_eq_true (by omega)
          clear hx
          go_wp2_with (first
            | (refine wpList_exec 15 rfl (by rfl) _ _ (execIndexS q n c k hlt _ rfl rfl rfl) ?_)
            | (refine wpList_exec 16 rfl (by rfl) _ _ (hl.out rfl rfl) ?_))
          go_ret
          exact ⟨ret_int HM.out.symm, KW.out⟩
        · have HN2 : Hid (∀ i, i < k + 1 → (S i).size ≤ 4096) := Lib.hid fun i hi => by
            by_cases e : i = k
            · subst e; omega
            · exact HN.out i (by omega)
          obtain ⟨x, hx⟩ : ∃ x, x = S k := ⟨_, rfl⟩
          have hl : Hid (∀ {o : Oper} {t : Array Value} {y : Operand}, o.op = .load 9 y → evS t y = .pointer (some (q.add k)) → (execOp (evS t) o).run Tryd.prog wr = .ok (.value (.string x)) wr) := Lib.hid fun ho hy => by rw [hx]; exact load_sat k ho hy HSw.out hlt
          rw [← hx] at hs
          have hd2 : decide ((x.size : Int) > 4096) = false := decide_eq_false (by omega)
          have hd2' : decide ((4096 : Int) < (x.size : Int)) = false := decide_eq_false (by omega)
          clear hx
          go_wp2_with (first
            | (refine wpList_exec 15 rfl (by rfl) _ _ (execIndexS q n c k hlt _ rfl rfl rfl) ?_)
            | (refine wpList_exec 16 rfl (by rfl) _ _ (hl.out rfl rfl) ?_))
          go_roundw
          case rel => exact ⟨k + 1, by omega, by go_num, HN2, KW⟩
          case measure => simp [intOf]; omega
      · have hd1 : decide ((k : Int) < (n : Int)) = false := decide_eq_false (by omega)
        have hd1' : decide (k < n) = false := decide_eq_false hlt
        have HM : Hid (mayT S n = 0) := Lib.hid (mayT_zero.2 ⟨by have := HB.out; omega, fun i hi => HN.out i (by omega)⟩)
        go_wp2_with fail
        go_ret
        exact ⟨ret_int HM.out.symm, KW.out⟩
set_option maxRecDepth 100000 in
set_option maxHeartbeats 1000000 in
theorem refLeaves22_any (n : Nat) (S : Nat → ByteArray) (v : Value) (w : World) (hv : SSl n S v w) (hn : n ≤ 2000) (hz : ∀ i, i < n → (S i).size ≤ 10000) :
    Calls Tryd.prog 27 #[v] w fun e w' => ∃ u, e = .returned u ∧ SSl n (tkS S) u w' ∧ Kept w w' := by
  obtain ⟨p, c, rfl, _, _, hS⟩ := hv
  have HS := Lib.hid hS
  have HZ := Lib.hid hz
  clear hS hz
  go_enter Tryd.func27, Tryd.ntmps27
  go_wp2_with fail
  go_loopw [3, 4] (fun v i wr => ∃ k : Nat, k ≤ n ∧ i = .int .i64 k ∧ Hid (TxS w.heap.size (sL (tkS S) k) v wr) ∧ Hid (Kept w wr)) (fun _ i _ => n - (intOf i).toNat)
  case atStart => exact ⟨0, by omega, rfl, Lib.hid (TxS.nil _ _), Lib.hid (Kept.refl w)⟩
  case round =>
    rename_i v _
    obtain ⟨k, hk, rfl, O1, K1⟩ := hrel
    by_cases hlt : k < n
    · have hd : decide ((k : Int) < (n : Int)) = true := decide_eq_true (by omega)
      have hd' : decide (k < n) = true := decide_eq_true hlt
      obtain ⟨q, rfl, _⟩ := HS.out.some (by omega)
      have HSw := Lib.hid (HS.out.kept K1.out)
      have hx := HZ.out k hlt
      have HE : Hid (sL (tkS S) (k + 1) = sL (tkS S) k ++ [(⟨#[84]⟩ : ByteArray) ++ S k]) := Lib.hid (sL_succ _ _)
      have HN : Hid ((sL (tkS S) k).length = k) := Lib.hid (sL_length _ _)
      have hl : Hid (∀ {o : Oper} {t : Array Value} {y : Operand}, o.op = .load 9 y → evS t y = .pointer (some (q.add k)) → (execOp (evS t) o).run Tryd.prog wr = .ok (.value (.string (S k))) wr) := Lib.hid fun ho hy => load_sat k ho hy HSw.out hlt
      generalize S k = s at HE hl hx
      go_wp2_with (first
        | (refine wpList_exec 14 rfl (by rfl) _ _ (execIndexS q n c k hlt _ rfl rfl rfl) ?_)
        | (refine wpList_exec 15 rfl (by rfl) _ _ (hl.out rfl rfl) ?_)
        | (refine park_at 17 rfl ?_))
      refine unpark ?_
      refine wpList_exec 17 rfl (by rfl) (.slice (some ⟨wr.heap.size, 0, none⟩) 1 1) (wr.alloc (.cells #[.string ((⟨#[84]⟩ : ByteArray) ++ s)] 9)) (execBuild1 rfl rfl (run_build1s _ _)) ?_
      go_wp2_with (at_builtin; refine wpList_append1 (u := .string ((⟨#[84]⟩ : ByteArray) ++ s)) rfl _ _ 24 rfl w 9 (.string ⟨#[]⟩) 16 Tryd.underlying24 infoStr12 rfl _ (sL (tkS S) k).length ((sL (tkS S) k).map Value.string) rfl O1 rfl rfl (by have := HN.out; unfold maxLen; omega) (by have := HN.out; omega) K1 ?_; intro v' w' O3 K3)
      have O4 : Hid (TxS w.heap.size (sL (tkS S) (k + 1)) v' w') := Lib.hid (by
        have h := O3.out
        unfold TxS
        rw [HE.out, List.length_append, List.map_append]
        exact h)
      clear O3
      go_roundw
      case measure => simp [intOf]; omega
      case rel => exact ⟨k + 1, by omega, rfl, O4, K3⟩
    · have hd : decide ((k : Int) < (n : Int)) = false := decide_eq_false (by omega)
      have hd' : decide (k < n) = false := decide_eq_false hlt
      obtain rfl : k = n := by omega
      go_wp2_with fail
      go_ret
      exact ⟨_, rfl, SSl.ofTx O1.out, K1.out⟩
theorem tkS_fits (S : Nat → ByteArray) (n : Nat) (hz : ∀ i, i < n → (S i).size ≤ 10000) : ∀ i, i < n → (tkS S i).size ≤ 1000000 := fun i hi => by
  have := hz i hi
  rw [tkS, txS_size]; omega
set_option maxRecDepth 100000 in
set_option maxHeartbeats 1000000 in
theorem refTxs22_any (n : Nat) (S : Nat → ByteArray) (v : Value) (w : World) (hv : SSl n S v w) (hn : n ≤ 2000) (hz : ∀ i, i < n → (S i).size ≤ 10000) :
    Calls Tryd.prog 18 #[v] w fun e w' => e = .returned (.agg (bC 32 (rootL (tkS S) n))) ∧ Kept w w' := by
  have hfit := tkS_fits S n hz
  have H1 : Hid (∀ w, SSl n S v w → _) := Lib.hid fun w hv => refLeaves22_any n S v w hv hn hz
  have H2 : Hid (∀ u w, SSl n (tkS S) u w → Calls Tryd.prog 25 #[u] w fun e w' => e = .returned (.agg (bC 32 (rootL (tkS S) n))) ∧ Kept w w') := Lib.hid fun u w hu => by
    obtain ⟨p, c, rfl, _, _, hS⟩ := hu
    exact refRoot11_any p n c (tkS S) w hS hfit (by omega)
  generalize rootL (tkS S) n = r at H2 ⊢
  have HV := Lib.hid hv
  have R0 := Lib.hid (Rowz.new w (bC 32 []) 31)
  have K0 := Lib.hid ((Kept.refl w).alloc (.cells (bC 32 []) 31))
  clear hv hfit hz
  go_enter Tryd.func18, Tryd.ntmps18
  go_wp2_with fail
  change Calls _ _ _ (w.alloc (.cells (bC 32 []) 31)) _
  generalize w.alloc (.cells (bC 32 []) 31) = v1 at R0 K0 ⊢
  refine (H1.out v1 (SSl.kept _ _ _ _ _ K0.out HV.out)).mono ?_
  rintro e v2 ⟨u, rfl, hu, k2⟩
  have HU := Lib.hid hu
  replace R0 := Lib.hid (R0.out.kept k2)
  replace K0 := Lib.hid (K0.out.trans k2)
  clear hu k2 H1
  go_wp2_with fail
  refine (H2.out u v2 HU.out).mono ?_
  rintro e v3 ⟨rfl, k3⟩
  replace R0 := Lib.hid (R0.out.kept k3)
  replace K0 := Lib.hid (K0.out.trans k3)
  clear k3 H2 HU
  go_wp2_with (refine wpList_store_row rfl 31 _ _ rfl w.heap.size (bC 32 r) rfl rfl 31 (bC 32 []) R0.out (info_hash _) (by simp [bC_size]) (bC_one _ _) ?_)
  refine bodyPost_ret (v := .agg (bC 32 r)) (results_cell_row Tryd.results18 _ _ w.heap.size 31 _ (0, 0) _ rfl R0.out.row Tryd.underlying31 rfl (info_hash _)) rfl ⟨rfl, ?_⟩
  exact K0.out.setRow (by omega) _
end Go.Proofs.YtlfkkfacbcpogaaDoor
