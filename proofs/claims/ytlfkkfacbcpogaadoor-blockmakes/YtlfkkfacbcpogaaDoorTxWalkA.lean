/-
  Contracts of txs.May, txs.Text, txs.Root and of the texts of transactions (a draft for our own code: turn it after the landed code). Conditions: at most two thousand transactions of at most ten thousand bytes; sha's table of round constants stands (Root).
-/
import Derived.Test.YtlfkkfacbcpogaaDoorLinkWalkA
import Derived.Test.YtlfkkfacbcpogaaDoorTxFormA
import Derived.Test.YtlfkkfacbcpogaaDoorTxRefA
namespace Go.Proofs.YtlfkkfacbcpogaaDoor
set_option maxRecDepth 4000
open Go.RowKit

set_option maxRecDepth 100000 in
set_option maxHeartbeats 1000000 in
theorem txsMay_any : TxsMayC 19 := by
  intro n S v w hv hn hz
  obtain ⟨p, c, rfl, _, _, hS⟩ := hv
  have HS := Lib.hid hS
  clear hS
  by_cases hb : 1024 < n
  · have hd : decide ((n : Int) > 1024) = true := decide_eq_true (by omega)
    have hd' : decide ((1024 : Int) < (n : Int)) = true := decide_eq_true (by omega)
    have HM : Hid (mayT S n = 4) := Lib.hid (by rw [mayT, if_pos (.inl hb)])
    go_enter Tryd.func19, Tryd.ntmps19
    go_wp2_with fail
    go_ret
    exact ⟨ret_int HM.out.symm, Kept.refl _⟩
  · have hd : decide ((n : Int) > 1024) = false := decide_eq_false (by omega)
    have hd' : decide ((1024 : Int) < (n : Int)) = false := decide_eq_false (by omega)
    have HB := Lib.hid hb
    clear hb hz
    go_enter Tryd.func19, Tryd.ntmps19
    go_wp2_with fail
    go_loopw [10] (fun i wr => ∃ k : Nat, k ≤ n ∧ i = .int .i64 k ∧ Hid (∀ i, i < k → (S i).size ≤ 4096) ∧ Hid (Kept w wr)) (fun i _ => n - (intOf i).toNat)
    case atStart => exact ⟨0, by omega, rfl, Lib.hid (fun i h => by omega), Lib.hid (Kept.refl w)⟩
    case round =>
      obtain ⟨k, hk, rfl, HN, KW⟩ := hrel
      by_cases hlt : k < n
      · have hd1 : decide ((k : Int) < (n : Int)) = true := decide_eq_true (by omega)
        have hd1' : decide (k < n) = true := decide_eq_true hlt
        obtain ⟨q, rfl, _⟩ := HS.out.some (by omega)
        have HSw := Lib.hid (HS.out.kept KW.out)
        by_cases hs : 4096 < (S k).size
        · have HM : Hid (mayT S n = 4) := Lib.hid (by rw [mayT, if_pos (.inr (bigT_yes k hlt hs))])
          obtain ⟨x, hx⟩ : ∃ x, x = S k := ⟨_, rfl⟩
          have hl : Hid (∀ {o : Oper} {t : Array Value} {y : Operand}, o.op = .load 9 y → evS t y = .pointer (some (q.add k)) → (execOp (evS t) o).run Tryd.prog wr = .ok (.value (.string x)) wr) := Lib.hid fun ho hy => by rw [hx]; exact load_sat k ho hy HSw.out hlt
          rw [← hx] at hs
          have hd2 : decide ((x.size : Int) > 4096) = true := decide_eq_true (by omega)
          have hd2' : decide ((4096 : Int) < (x.size : Int)) = true := decide_eq_true (by omega)
          clear hx
          go_wp2_with (first
            | (refine wpList_exec 12 rfl (by rfl) _ _ (execIndexS q n c k hlt _ rfl rfl rfl) ?_)
            | (refine wpList_exec 13 rfl (by rfl) _ _ (hl.out rfl rfl) ?_))
          go_ret
          exact ⟨ret_int HM.out.symm, KW.out⟩
        · have HN2 : Hid (∀ i, i < k + 1 → (S i).size ≤ 4096) := Lib.hid fun i hi => by
            by_cases e : i = k
            · subst e; omega
            · exact HN.out i (by omega)
          obtain ⟨x, hx⟩ : ∃ x, x = S k := ⟨_, rfl⟩
          have hl : Hid (∀ {o : Oper} {t : Array Value} {y : Operand}, o.op = .load 9 y → evS t y = .pointer (some (q.add k)) → (execOp (evS t) o).run Tryd.prog wr = .ok (.value (.string x)) wr) := Lib.hid fun ho hy => by rw [hx]; exact load_sat k ho hy HSw.out hlt
          rw [← hx] at hs
          have hd2 : decide ((x.size : Int) > 4096) = false := decide_eq_false (by omega)
          have hd2' : decide ((4096 : Int) < (x.size : Int)) = false := decide_eq_false (by omega)
          clear hx
          go_wp2_with (first
            | (refine wpList_exec 12 rfl (by rfl) _ _ (execIndexS q n c k hlt _ rfl rfl rfl) ?_)
            | (refine wpList_exec 13 rfl (by rfl) _ _ (hl.out rfl rfl) ?_))
          go_roundw
          case rel => exact ⟨k + 1, by omega, by go_num, HN2, KW⟩
          case measure => simp [intOf]; omega
      · have hd1 : decide ((k : Int) < (n : Int)) = false := decide_eq_false (by omega)
        have hd1' : decide (k < n) = false := decide_eq_false hlt
        have HM : Hid (mayT S n = 0) := Lib.hid (mayT_zero.2 ⟨by have := HB.out; omega, fun i hi => HN.out i (by omega)⟩)
        go_wp2_with fail
        go_ret
        exact ⟨ret_int HM.out.symm, KW.out⟩
theorem txsText_any : TxsTextC 32 := by
  intro s w hs
  have h1 : (1 : Nat) + s.size ≤ 20000 := by omega
  go_enter Tryd.func32, Tryd.ntmps32
  go_wp2_with fail
  go_ret
  exact ⟨rfl, Kept.refl _⟩
set_option maxRecDepth 100000 in
set_option maxHeartbeats 1000000 in
theorem txsTexts_any (n : Nat) (S : Nat → ByteArray) (v : Value) (w : World) (hv : SSl n S v w) (hn : n ≤ 2000) (hz : ∀ i, i < n → (S i).size ≤ 10000) :
    Calls Tryd.prog 24 #[v] w fun e w' => ∃ u, e = .returned u ∧ SSl n (tkS S) u w' ∧ Kept w w' := by
  obtain ⟨p, c, rfl, hc, hcm, hS⟩ := hv
  have HS := Lib.hid hS
  have HZ := Lib.hid hz
  have hm := run_make_strs n w (by omega)
  clear hS hc hcm hz
  go_enter Tryd.func24, Tryd.ntmps24
  go_wp2_with fail
  clear hm
  have R1 : Hid (Rowz (w.alloc (.cells (sC n (upS (fun _ => noB) 0)) 9)) w.heap.size (sC n (upS (tkS S) 0)) 9) := Lib.hid (by
    have e : sC n (upS (tkS S) 0) = sC n (upS (fun _ => noB) 0) := sC_congr _ _ _ fun i _ => by simp [upS]
    rw [e]
    exact Rowz.new w _ _)
  have K1 := Lib.hid ((Kept.refl w).alloc (.cells (sC n (upS (fun _ => noB) 0)) 9))
  generalize w.alloc (.cells (sC n (upS (fun _ => noB) 0)) 9) = v0 at R1 K1 ⊢
  obtain ⟨g, hg⟩ : ∃ g, g = w.heap.size := ⟨_, rfl⟩
  have HG : Hid (w.heap.size ≤ g) := Lib.hid (by omega)
  rw [← hg] at R1 ⊢
  clear hg
  go_loopw [11] (fun i wr => ∃ k : Nat, k ≤ n ∧ i = .int .i64 k ∧ Hid (Rowz wr g (sC n (upS (tkS S) k)) 9) ∧ Hid (Kept w wr)) (fun i _ => n - (intOf i).toNat)
  case atStart => exact ⟨0, by omega, rfl, R1, K1⟩
  case round =>
    clear R1 K1
    obtain ⟨k, hk, rfl, R1, K1⟩ := hrel
    by_cases hlt : k < n
    · have hd : decide ((k : Int) < (n : Int)) = true := decide_eq_true (by omega)
      have hd' : decide (k < n) = true := decide_eq_true hlt
      obtain ⟨q, rfl, _⟩ := HS.out.some (by omega)
      have HSw := Lib.hid (HS.out.kept K1.out)
      have HL : Hid (∀ w, Calls Tryd.prog 32 #[.string (S k)] w fun e w' => e = .returned (.string (tkS S k)) ∧ Kept w w') := Lib.hid fun w => txsText_any (S k) w (HZ.out k hlt)
      go_wp2_with (first
        | (refine wpList_exec 14 rfl (by rfl) _ _ (execIndexS q n c k hlt _ rfl rfl rfl) ?_; try simp only [List.setIfInBounds_toArray, List.set_cons_succ, List.set_cons_zero])
        | (refine wpList_exec 15 rfl (by rfl) _ _ (load_sat k rfl rfl HSw.out hlt) ?_; try simp only [List.setIfInBounds_toArray, List.set_cons_succ, List.set_cons_zero]))
      refine (HL.out _).mono ?_
      rintro e v1 ⟨rfl, k1⟩
      have r2 := R1.out.kept k1
      have K2 := Lib.hid (K1.out.trans k1)
      have f2 := r2.free k
      have c2 : v1.cell? ⟨g, k, none⟩ = some (.string noB) := by rw [r2.cell, sC_get _ _ _ hlt]; simp [upS]
      clear R1 K1 k1 HL HSw
      have R2 := Lib.hid (r2.set k (.string (tkS S k)))
      have K3 := Lib.hid (K2.out.setCell (a := ⟨g, k, none⟩) HG.out (.string (tkS S k)))
      clear r2 K2
      go_wp2_with ((refine wpList_exec 20 rfl (by rfl) _ _ (execIndexS ⟨g, 0, none⟩ n n k hlt _ rfl rfl rfl) ?_; try simp only [List.setIfInBounds_toArray, List.set_cons_succ, List.set_cons_zero]))
      go_roundw
      case measure => simp [intOf]; omega
      case rel => exact ⟨k + 1, by omega, rfl, Lib.hid (by rw [← upS_put]; exact R2.out), K3⟩
    · have hd : decide ((k : Int) < (n : Int)) = false := decide_eq_false (by omega)
      have hd' : decide (k < n) = false := decide_eq_false hlt
      obtain rfl : k = n := by omega
      go_wp2_with fail
      go_ret
      exact ⟨_, rfl, SSl.ofRow (T := 9) (by rw [← upS_all]; exact R1.out) (by unfold maxLen; omega), K1.out⟩
set_option maxRecDepth 100000 in
set_option maxHeartbeats 1000000 in
theorem txsRoot_any : TxsRootC 15 := by
  intro n S v w hv hn hz hT
  have hfit := tkS_fits S n hz
  have HT := Lib.hid hT
  have H1 : Hid (∀ w, SSl n S v w → _) := Lib.hid fun w hv => txsTexts_any n S v w hv hn hz
  have H2 : Hid (∀ u w, SSl n (tkS S) u w → Tab w → Calls Tryd.prog 22 #[u] w fun e w' => e = .returned (.agg (bC 32 (rootL (tkS S) n))) ∧ Kept w w') := Lib.hid fun u w hu ht => by
    obtain ⟨p, c, rfl, _, _, hS⟩ := hu
    exact treeRoot_any p n c (tkS S) w hS hfit (by omega) ht
  generalize rootL (tkS S) n = r at H2 ⊢
  have HV := Lib.hid hv
  have R0 := Lib.hid (Rowz.new w (bC 32 []) 31)
  have K0 := Lib.hid ((Kept.refl w).alloc (.cells (bC 32 []) 31))
  clear hv hfit hT hz
  go_enter Tryd.func15, Tryd.ntmps15
  go_wp2_with fail
  change Calls _ _ _ (w.alloc (.cells (bC 32 []) 31)) _
  generalize w.alloc (.cells (bC 32 []) 31) = v1 at R0 K0 ⊢
  refine (H1.out v1 (SSl.kept _ _ _ _ _ K0.out HV.out)).mono ?_
  rintro e v2 ⟨u, rfl, hu, k2⟩
  have HU := Lib.hid hu
  replace R0 := Lib.hid (R0.out.kept k2)
  replace K0 := Lib.hid (K0.out.trans k2)
  clear hu k2 H1
  go_wp2_with fail
  refine (H2.out u v2 HU.out (HT.out.kept K0.out)).mono ?_
  rintro e v3 ⟨rfl, k3⟩
  replace R0 := Lib.hid (R0.out.kept k3)
  replace K0 := Lib.hid (K0.out.trans k3)
  clear k3 H2 HU
  go_wp2_with (refine wpList_store_row rfl 31 _ _ rfl w.heap.size (bC 32 r) rfl rfl 31 (bC 32 []) R0.out (info_hash _) (by simp [bC_size]) (bC_one _ _) ?_)
  refine bodyPost_ret (v := .agg (bC 32 r)) (results_cell_row Tryd.results15 _ _ w.heap.size 31 _ (0, 0) _ rfl R0.out.row Tryd.underlying31 rfl (info_hash _)) rfl ⟨rfl, ?_⟩
  exact K0.out.setRow (by omega) _
end Go.Proofs.YtlfkkfacbcpogaaDoor
