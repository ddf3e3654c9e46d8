/-
  Contract of the reference's Top of several leaves (milepostref16). Conditions: the places rise, as many leaves as places, hashes enough; leaves of at most a million bytes; sizes fit.
-/
import Derived.Test.YtggpjhldmaflaaaDoorMultiRefB
import Derived.Test.YtggpjhldmaflaaaDoorHld
namespace Go.Proofs.YtggpjhldmaflaaaDoor
set_option maxRecDepth 4000
open Go.RowKit

theorem execMoveV {P : Program} {o : Oper} {t : Array Value} {x : Operand} {v : Value} (w : World) (ho : o.op = .move x ∨ o.op = .assign x) (hx : evS t x = v) : (execOp (evS t) o).run P w = .ok (.value v) w := by
  unfold execOp
  rcases ho with h | h <;> rw [h] <;> simp [hx]
def Top16Ok (f : FuncId) (n : Nat) : Prop := ∀ (p p1 : Option Addr) (K c c1 : Nat) (Pl : Nat → Int) (S : Nat → ByteArray) (N : Int) (v : Value) (m : Nat) (F : Nat → List UInt8) (o x T : Nat) (w : World),
    risP N K Pl → SAt w p1 K S → (∀ i, i < K → (S i).size ≤ 1000000) → IAt w p K Pl → K ≤ 1000000 → HSl m (fun i => F (o + i)) v w → needN (qP K Pl) x n ≤ m → 0 < n → T = x + n → T ≤ 1000000000 →
    Calls Tryd.prog f #[.slice p1 K c1, .slice p K c, v, .int .i64 (x : Int), .int .i64 (T : Int)] w fun e w' => ∃ q' c', e = .returned (.tuple #[.agg (bC 32 (tpM (qP K Pl) (hP K Pl S) F x n o)), .slice q' (m - needN (qP K Pl) x n) c']) ∧
      (∀ W, HSl m (fun i => F (o + i)) v W → HSl (m - needN (qP K Pl) x n) (fun i => F (o + needN (qP K Pl) x n + i)) (.slice q' (m - needN (qP K Pl) x n) c') W) ∧ Kept w w'
set_option maxRecDepth 100000 in
set_option maxHeartbeats 4000000 in
theorem refTop16_any (n : Nat) : Top16Ok 18 n := by
  induction n using Nat.strongRecOn with
  | _ n ih =>
    intro p p1 K c c1 Pl S N v m F o x T w hris hS hz hIp hK hv hnm hn hT hT9
    have HA : Hid (∀ w, IAt w p K Pl → _) := Lib.hid fun w h => refAmong_any p K c Pl x n T hT w h hK
    have R0 := Lib.hid (Rowz.new w (bC 32 []) 38)
    have K0 := Lib.hid ((Kept.refl w).alloc (.cells (bC 32 []) 38))
    cases hh : hasQ (qP K Pl) x n with
    | false =>
      rw [needN_none hh] at hnm ⊢
      rw [tpM_none _ _ _ hh]
      rw [hh] at HA
      obtain ⟨p0, c0, rfl, hc0, hm0, hF⟩ := hv
      obtain ⟨q, rfl, _⟩ := hF.some (by omega)
      obtain ⟨q', hcut, hF'⟩ := run_cutH_tail q m c0 (by omega) hc0 hm0
      replace hcut := Lib.hid hcut
      have HH : Hid (HAt w (some q) m (fun i => F (o + i))) := Lib.hid hF
      have HX : Hid (∀ W, HSl m (fun i => F (o + i)) (.slice (some q) m c0) W → HSl (m - 1) (fun i => F (o + 1 + i)) (.slice (some q') (m - 1) (c0 - 1)) W) := Lib.hid fun W h => by simpa only [Nat.add_assoc] using hF' _ W h
      have HPl := Lib.hid hIp
      have hm1 : 0 < m := by omega
      clear ih hris hS hz hIp hF hF' hh hnm
      replace hT := Lib.hid hT
      go_enter Tryd.func18, Tryd.ntmps18
      go_wp2_with fail
      change Calls _ _ _ (w.alloc (.cells (bC 32 []) 38)) _
      generalize w.alloc (.cells (bC 32 []) 38) = v1 at R0 K0 ⊢
      refine (HA.out v1 (HPl.out.kept K0.out)).mono ?_
      rintro e v2 ⟨rfl, rfl⟩
      go_wp2_with fail
      have RR : Rowz v1.drew w.heap.size (bC 32 []) 38 := R0.out
      have KK : Kept w v1.drew := K0.out
      refine wp_region_held_drew (S := fun w' => Kept w w') (by kernel_rfl) KK (fun _ => ?_)
      clear R0 K0
      generalize v1.drew = u at RR KK ⊢
      refine wpAnyH_take1 0 22 (.slice (some q) m c0) rfl rfl (by kernel_rfl) (by kernel_rfl) (by kernel_rfl) (fun _ _ _ h => h) KK (yieldsIf_exec (by rfl) fun w' hw' => execMoveV w' (Or.inl rfl) rfl) ?_
      simp only [List.setIfInBounds_toArray, List.set_cons_zero, List.set_cons_succ]
      refine wpAnyH_take1 1 23 (.pointer (some (q.add (0 * 32)))) rfl rfl (by kernel_rfl) (by kernel_rfl) (by kernel_rfl) (fun _ _ _ h => h) KK (yieldsIf_exec (by rfl) fun w' hw' => execIndexH q m c0 0 hm1 w' rfl rfl rfl) ?_
      simp only [List.setIfInBounds_toArray, List.set_cons_zero, List.set_cons_succ]
      refine wpAnyH_take1 2 24 (.agg (bC 32 (F o))) rfl rfl (by kernel_rfl) (by kernel_rfl) (by kernel_rfl) (fun _ _ _ h => h) KK (yieldsIf_exec (by rfl) fun w' hw' => execLoadAt rfl rfl ((HH.out.kept hw').load 0 hm1)) ?_
      simp only [List.setIfInBounds_toArray, List.set_cons_zero, List.set_cons_succ]
      refine wpAnyH_take1 3 25 (.slice (some q) m c0) rfl rfl (by kernel_rfl) (by kernel_rfl) (by kernel_rfl) (fun _ _ _ h => h) KK (yieldsIf_exec (by rfl) fun w' hw' => execMoveV w' (Or.inl rfl) rfl) ?_
      simp only [List.setIfInBounds_toArray, List.set_cons_zero, List.set_cons_succ]
      refine wpAnyH_take1 4 26 (.slice (some q') (m - 1) (c0 - 1)) rfl rfl (by kernel_rfl) (by kernel_rfl) (by kernel_rfl) (fun _ _ _ h => h) KK (yieldsIf_slice (by rfl) _ _ _ _ _ rfl _ _ _ _ _ rfl rfl rfl rfl fun w' hw' => hcut.out w') ?_
      simp only [List.setIfInBounds_toArray, List.set_cons_zero, List.set_cons_succ]
      refine wpAnyH_ready (rs := [5]) (by kernel_rfl) (by simp) (AllReadyH.cons rfl (fun K hK => ?_) AllReadyH.nil)
      rw [if_pos (by rfl)]
      refine wp_store_row 38 _ _ rfl w.heap.size (bC 32 (F o)) rfl rfl 38 (bC 32 []) RR (info_hash _) (by simp [bC_size]) (bC_one _ _) ?_
      have K3 := KK.setRow (Nat.le_refl _) (bC 32 (F o))
      have R3 := RR.row (D := bC 32 (F o))
      generalize u.setRow w.heap.size (bC 32 (F o)) = u3 at K3 R3 ⊢
      refine hK.out _ _ K3 (fun _ => ?_)
      clear hK K
      simp only [Act.put]
      refine wpAnyH_take1 6 11 (.slice (some q') (m - 1) (c0 - 1)) rfl rfl (by kernel_rfl) (by kernel_rfl) (by kernel_rfl) (fun _ _ _ h => h) K3 (yieldsIf_exec (by rfl) fun w' hw' => execMoveV w' (Or.inr rfl) rfl) ?_
      simp only [List.setIfInBounds_toArray, List.set_cons_zero, List.set_cons_succ]
      refine wpAnyH_done (by kernel_rfl) ?_ _
      have KF := Lib.hid K3
      have RF := Lib.hid R3
      clear K3 R3 KK RR
      go_wp2_with fail
      refine bodyPost_ret (v := .tuple #[.agg (bC 32 (F o)), .slice (some q') (m - 1) (c0 - 1)]) (results_row_tmp Tryd.results18 _ _ w.heap.size 38 _ _ _ rfl rfl RF.out Tryd.underlying38 rfl (info_hash _)) rfl ?_
      exact ⟨_, _, rfl, HX.out, KF.out⟩
    | true =>
      rw [hh] at HA
      by_cases h2 : n < 2
      · obtain rfl : n = 1 := by omega
        have hsub : IntKind.i64.wrap ((T : Int) - (x : Int)) = 1 := by rw [wrap_sub T x (by omega) (by omega)]; omega
        rw [needN_one hh h2]
        rw [tpM_one _ _ _ hh h2]
        have HQ : Hid (∃ k, k < K ∧ Pl k = (x : Int)) := Lib.hid (by
          obtain ⟨y, h3, h4, h5⟩ := hasQ_iff.1 hh
          obtain rfl : y = x := by omega
          exact qP_iff.1 h5)
        have HH : Hid (∀ k, k < K → Pl k = (x : Int) → hP K Pl S x = shaL (leafS (S k))) := Lib.hid fun k hk hx => hP_at hris S hk hx
        have HLf : Hid (∀ k, k < K → ∀ w, _) := Lib.hid fun k hk w => refLeafSum_any (S k) (hz k hk) w
        have HS := Lib.hid hS
        have HPl := Lib.hid hIp
        have HV := Lib.hid hv
        obtain ⟨p0, c0, rfl, _, _, _⟩ := hv
        simp only [Nat.sub_zero, Nat.add_zero]
        generalize hP K Pl S x = A at HH ⊢
        clear ih hris hS hz hIp hh hnm
        replace hT := Lib.hid hT
        go_enter Tryd.func18, Tryd.ntmps18
        go_wp2_with fail
        change Calls _ _ _ (w.alloc (.cells (bC 32 []) 38)) _
        generalize w.alloc (.cells (bC 32 []) 38) = v1 at R0 K0 ⊢
        refine (HA.out v1 (HPl.out.kept K0.out)).mono ?_
        rintro e v2 ⟨rfl, rfl⟩
        go_wp2_with fail
        clear HA
        go_loopw [12] (fun i wr => ∃ k : Nat, k ≤ K ∧ i = .int .i64 k ∧ Hid (∀ j, j < k → ¬ Pl j = (x : Int)) ∧ wr = v1) (fun i _ => K - (intOf i).toNat)
        case atStart => exact ⟨0, by omega, rfl, Lib.hid (fun j hj => absurd hj (Nat.not_lt_zero j)), rfl⟩
        case round =>
          obtain ⟨k, hk, rfl, HU, rfl⟩ := hrel
          by_cases hlt : k < K
          · have hd1 : decide ((k : Int) < (K : Int)) = true := decide_eq_true (by omega)
            have hd1' : decide (k < K) = true := decide_eq_true hlt
            obtain ⟨q, rfl, _⟩ := HPl.out.some (by omega)
            have hc := (HPl.out.kept K0.out).cell k hlt
            by_cases hx : Pl k = (x : Int)
            · rw [hx] at hc
              obtain ⟨q1, rfl, _⟩ := HS.out.some (by omega)
              have hs1 := (HS.out.kept K0.out).cell k hlt
              have hL := Lib.hid (HLf.out k hlt wr)
              rw [← HH.out k hlt hx] at hL
              replace hx := Lib.hid hx
              have hee : ((x : Int) == (x : Int)) = true := by simp
              clear HH HLf HQ HU
              go_wp2_with fail
              refine hL.out.mono ?_
              rintro e v3 ⟨rfl, k3⟩
              have R3 := Lib.hid (R0.out.kept k3)
              have K3 := Lib.hid (K0.out.trans k3)
              clear k3 hL hc hs1
              go_wp2_with (refine wpList_store_row rfl 38 _ _ rfl w.heap.size (bC 32 A) rfl rfl 38 (bC 32 []) R3.out (info_hash _) (by simp [bC_size]) (bC_one _ _) ?_)
              refine bodyPost_ret (v := .tuple #[.agg (bC 32 A), .slice p0 m c0]) (results_row_tmp Tryd.results18 _ _ w.heap.size 38 _ _ _ rfl rfl R3.out.row Tryd.underlying38 rfl (info_hash _)) rfl ?_
              exact ⟨_, _, rfl, fun W h => h, K3.out.setRow (Nat.le_refl _) _⟩
            · have hne : (Pl k == (x : Int)) = false := by simpa using hx
              have HU1 : Hid (∀ j, j < k + 1 → ¬ Pl j = (x : Int)) := Lib.hid fun j hj => by
                rcases Nat.lt_or_eq_of_le (show j ≤ k by omega) with h | h
                · exact HU.out j h
                · subst h; exact hx
              clear HU hx
              go_wp2_with fail
              go_roundw
              case rel => exact ⟨k + 1, by omega, by go_num, HU1, trivial⟩
              case measure => simp [intOf]; omega
          · obtain rfl : k = K := by omega
            obtain ⟨j, hj, hjx⟩ := HQ.out
            exact absurd hjx (HU.out j hj)
      · have hp := leftN_pos (n := n) (by omega)
        have hl := leftN_lt (n := n) (by omega)
        have hsub : IntKind.i64.wrap ((T : Int) - (x : Int)) = (n : Int) := by rw [wrap_sub T x (by omega) (by omega)]; omega
        have hne : ((n : Int) == 1) = false := by simp; omega
        have HL : Hid (∀ w, _) := Lib.hid fun w => refLeft_any (n : Int) w (by omega)
        have hLI : (leftI (n : Int) : Int) = (leftN n : Int) := rfl
        rw [hLI] at HL
        rw [needN_two hh (by omega)] at hnm ⊢
        rw [tpM_two _ _ _ hh (by omega)]
        have hadd : IntKind.i64.wrap ((x : Int) + (leftN n : Int)) = ((x + leftN n : Nat) : Int) := by simp only [IntKind.wrap, IntKind.signed, IntKind.bits]; simp; omega
        have HI1 : Hid (∀ w, SAt w p1 K S → IAt w p K Pl → HSl m (fun i => F (o + i)) v w → _) := Lib.hid fun w hS hIp hv => ih (leftN n) hl p p1 K c c1 Pl S N v m F o x (x + leftN n) w hris hS hz hIp hK hv (by omega) hp rfl (by omega)
        have HI2 : Hid (∀ v w, SAt w p1 K S → IAt w p K Pl → HSl (m - needN (qP K Pl) x (leftN n)) (fun i => F (o + needN (qP K Pl) x (leftN n) + i)) v w → _) := Lib.hid fun v w hS hIp hv => ih (n - leftN n) (by omega) p p1 K c c1 Pl S N v (m - needN (qP K Pl) x (leftN n)) F (o + needN (qP K Pl) x (leftN n)) (x + leftN n) T w hris hS hz hIp hK hv (by omega) (by omega) (by omega) hT9
        have hF32 : ∀ k, k < m → (F (o + k)).length = 32 := by obtain ⟨_, _, _, _, _, hF⟩ := hv; exact hF.length
        have t1 : (tpM (qP K Pl) (hP K Pl S) F x (leftN n) o).length = 32 := tpM_length _ _ _ _ _ _ (hP_length _ _ _ _) fun h1 => hF32 0 (by omega)
        have t2 : (tpM (qP K Pl) (hP K Pl S) F (x + leftN n) (n - leftN n) (o + needN (qP K Pl) x (leftN n))).length = 32 := tpM_length _ _ _ _ _ _ (hP_length _ _ _ _) fun h1 => hF32 _ (by omega)
        have HN : Hid (∀ w, _) := Lib.hid fun w => refNodeSum_any _ _ t1 t2 w
        have HS := Lib.hid hS
        have HPl := Lib.hid hIp
        have HV := Lib.hid hv
        rw [← Nat.sub_sub, ← Nat.add_assoc]
        clear ih hris hS hz hIp hh hLI hv hF32 t1 t2
        generalize tpM (qP K Pl) (hP K Pl S) F (x + leftN n) (n - leftN n) (o + needN (qP K Pl) x (leftN n)) = B at HI2 HN ⊢
        generalize tpM (qP K Pl) (hP K Pl S) F x (leftN n) o = A at HI1 HN ⊢
        generalize needN (qP K Pl) (x + leftN n) (n - leftN n) = b at HI2 hnm ⊢
        generalize needN (qP K Pl) x (leftN n) = a at HI1 HI2 hnm ⊢
        generalize x + leftN n = X at HI1 HI2 hadd
        generalize leftN n = l at hl hp HL hadd
        generalize shaL (nodeS A B) = R at HN ⊢
        have hnm := Lib.hid hnm
        replace hT := Lib.hid hT
        go_enter Tryd.func18, Tryd.ntmps18
        go_wp2_with fail
        change Calls _ _ _ (w.alloc (.cells (bC 32 []) 38)) _
        generalize w.alloc (.cells (bC 32 []) 38) = v1 at R0 K0 ⊢
        refine (HA.out v1 (HPl.out.kept K0.out)).mono ?_
        rintro e v2 ⟨rfl, rfl⟩
        clear HA
        go_wp2_with fail
        refine (HL.out _).mono ?_
        rintro e v2 ⟨rfl, rfl⟩
        clear HL
        go_wp2_with fail
        refine (HI1.out v1 (HS.out.kept K0.out) (HPl.out.kept K0.out) (HSl.kept _ _ _ _ _ K0.out HV.out)).mono ?_
        rintro e v2 ⟨q1, d1, rfl, hx, k2⟩
        have X2 := Lib.hid hx
        have R2 := Lib.hid (R0.out.kept k2)
        have K2 := Lib.hid (K0.out.trans k2)
        clear hx k2 HI1 R0 K0
        go_wp2_with (refine wpList_store_made rfl 38 _ _ rfl _ _ (bC 32 A) rfl rfl 38 _ rfl (info_hash _) (by simp [bC_size]) (bC_one _ _) ?_; intro v3 R14 k3)
        obtain ⟨g14, hg14⟩ : ∃ g, g = v2.heap.size := ⟨_, rfl⟩
        rw [← hg14] at R14 ⊢
        clear hg14
        have R3 := Lib.hid (R2.out.kept k3.out)
        have K3 := Lib.hid (K2.out.trans k3.out)
        clear k3 R2 K2
        refine (HI2.out _ v3 (HS.out.kept K3.out) (HPl.out.kept K3.out) (X2.out v3 (HSl.kept _ _ _ _ _ K3.out HV.out))).mono ?_
        rintro e v4 ⟨q2, d2, rfl, hx, k4⟩
        have X4 := Lib.hid hx
        have R4 := Lib.hid (R3.out.kept k4)
        replace R14 := Lib.hid (R14.out.kept k4)
        have K4 := Lib.hid (K3.out.trans k4)
        clear hx k4 HI2 R3 K3
        go_wp2_with (first
          | (refine wpList_store_made rfl 38 _ _ rfl _ _ (bC 32 B) rfl rfl 38 _ rfl (info_hash _) (by simp [bC_size]) (bC_one _ _) ?_; intro v5 R16 k5)
          | (refine park_at 73 rfl ?_))
        obtain ⟨g16, hg16⟩ : ∃ g, g = v4.heap.size := ⟨_, rfl⟩
        rw [← hg16] at R16 ⊢
        clear hg16
        have R5 := Lib.hid (R4.out.kept k5.out)
        replace R14 := Lib.hid (R14.out.kept k5.out)
        have K5 := Lib.hid (K4.out.trans k5.out)
        clear k5 R4 K4
        refine unpark ?_
        refine wpList_exec 73 rfl (by rfl) (.agg (bC 32 A)) _ (loadHr rfl rfl R14.out) ?_
        refine wpList_exec 74 rfl (by rfl) (.agg (bC 32 B)) _ (loadHr rfl rfl R16.out) ?_
        go_wp2_with fail
        refine (HN.out v5).mono ?_
        rintro e v6 ⟨rfl, k6⟩
        have R6 := Lib.hid (R5.out.kept k6)
        have K6 := Lib.hid (K5.out.trans k6)
        clear k6 R5 K5 R14 R16 HN
        go_wp2_with (refine wpList_store_row rfl 38 _ _ rfl w.heap.size (bC 32 R) rfl rfl 38 (bC 32 []) R6.out (info_hash _) (by simp [bC_size]) (bC_one _ _) ?_)
        refine bodyPost_ret (v := .tuple #[.agg (bC 32 R), .slice q2 (m - a - b) d2]) (results_row_tmp Tryd.results18 _ _ w.heap.size 38 _ _ _ rfl rfl R6.out.row Tryd.underlying38 rfl (info_hash _)) rfl ?_
        exact ⟨_, _, rfl, fun W h => X4.out W (X2.out W h), K6.out.setRow (Nat.le_refl _) _⟩
end Go.Proofs.YtggpjhldmaflaaaDoor
