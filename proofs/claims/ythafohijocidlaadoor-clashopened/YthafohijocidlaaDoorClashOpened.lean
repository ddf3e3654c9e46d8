/-
  Of two lists that have one root but different leaves at one index the reference's openings lead Find to a hash collision; otherwise it finds none; the law's example holds: 'ClashOpened' returns true for every input.
  Conditions: those of the given card (sha's table of round constants as the program's text lays it).
-/
import Derived.Test.YthafohijocidlaaDoorRows
import Derived.Test.YthafohijocidlaaDoorClashLaw
import Derived.Test.YthafohijocidlaaDoorLawLibG
import Derived.WalkKit
import Derived.ProofKit
import Derived.OpenShut
import Derived.ShutString
import Derived.SizedLaws
import Derived.Test.YthafohijocidlaaDoorBas
import Derived.LaidMore
import Derived.SevenTiedAt
import Derived.Test.YthafohijocidlaaDoorCards
import Derived.Test.YthafohijocidlaaDoorTie
import Derived.Test.YthafohijocidlaaDoorShb
namespace Go.Proofs.YthafohijocidlaaDoor.clashOpened
open Go.ChangeShapes Go.WideShapes Go.ChangeAt Go.RowKit
open Go.ChangeMaps (open_string shut_string)
set_option linter.unusedVariables false

theorem own : ownKnob Tryd.prog.godebug = none := by kernel_rfl
theorem laidOut : laidOutB Tryd.prog = true := by kernel_rfl

set_option maxRecDepth 100000 in
set_option maxHeartbeats 4000000 in
theorem walk (p0 : Option Addr) (n0 c0 : Nat) (S0 : Nat → ByteArray) (z0 : n0 ≤ c0 ∧ c0 ≤ maxLen) (r0 : ∀ i, i < n0 → (S0 i).size ≤ 140737488351232) (p1 : Option Addr) (n1 c1 : Nat) (S1 : Nat → ByteArray) (z1 : n1 ≤ c1 ∧ c1 ≤ maxLen) (r1 : ∀ i, i < n1 → (S1 i).size ≤ 140737488351232) (a2 : Int) (w2 : (Lit.int .i64 a2).wf = true) (w : World) (e0 : SAt w p0 n0 S0) (e1 : SAt w p1 n1 S1) (hT : Tab w) :
    Calls Tryd.prog 5 #[.slice p0 n0 c0, .slice p1 n1 c1, .int .i64 a2] w fun e w' => e = .returned (.bool true) ∧ Kept w w' := by
  have HM0 := Lib.hid (much12_any p0 n0 c0 S0 w e0 r0 (by unfold maxLen at z0; omega))
  have HM1 := Lib.hid (much12_any p1 n1 c1 S1 w e1 r1 (by unfold maxLen at z1; omega))
  have HT := Lib.hid hT
  have HS0 := Lib.hid e0
  have HS1 := Lib.hid e1
  have HA : Hid (∀ w, Tab w → _) := Lib.hid fun w ht => awake15_any w ht
  clear e0 e1 r0 r1 z0 z1 hT w2
  go_enter Tryd.func5, Tryd.ntmps5
  go_wp2_with fail
  refine HM0.out.mono ?_
  rintro e u0 ⟨B, rfl, rfl, hB⟩
  cases B with
  | true =>
    go_wp2_with fail
    refine (HA.out w HT.out).mono ?_
    rintro e u1 ⟨rfl, k1⟩
    have K1 := Lib.hid k1
    clear k1
    go_wp2_with fail
    go_ret
    exact ⟨rfl, K1.out⟩
  | false =>
    obtain ⟨hn0, hz0⟩ := hB rfl
    clear hB HM0
    go_wp2_with fail
    refine HM1.out.mono ?_
    rintro e u0 ⟨B, rfl, rfl, hB⟩
    cases B with
    | true =>
      go_wp2_with fail
      refine (HA.out w HT.out).mono ?_
      rintro e u1 ⟨rfl, k1⟩
      have K1 := Lib.hid k1
      clear k1
      go_wp2_with fail
      go_ret
      exact ⟨rfl, K1.out⟩
    | false =>
      obtain ⟨hn1, hz1⟩ := hB rfl
      clear hB HM1
      by_cases hneg : a2 < 0
      · have hd1 : decide (a2 < 0) = true := decide_eq_true hneg
        go_wp2_with fail
        refine (HA.out w HT.out).mono ?_
        rintro e u1 ⟨rfl, k1⟩
        have K1 := Lib.hid k1
        clear k1
        go_wp2_with fail
        go_ret
        exact ⟨rfl, K1.out⟩
      · have hd1 : decide (a2 < 0) = false := decide_eq_false hneg
        by_cases hge : (n0 : Int) ≤ a2
        · have hd2 : decide (a2 ≥ (n0 : Int)) = true := decide_eq_true hge
          have hd2' : decide ((n0 : Int) ≤ a2) = true := decide_eq_true hge
          go_wp2_with fail
          refine (HA.out w HT.out).mono ?_
          rintro e u1 ⟨rfl, k1⟩
          have K1 := Lib.hid k1
          clear k1
          go_wp2_with fail
          go_ret
          exact ⟨rfl, K1.out⟩
        · have hd2 : decide (a2 ≥ (n0 : Int)) = false := decide_eq_false hge
          have hd2' : decide ((n0 : Int) ≤ a2) = false := decide_eq_false hge
          by_cases hge1 : (n1 : Int) ≤ a2
          · have hd3 : decide (a2 ≥ (n1 : Int)) = true := decide_eq_true hge1
            have hd3' : decide ((n1 : Int) ≤ a2) = true := decide_eq_true hge1
            go_wp2_with fail
            refine (HA.out w HT.out).mono ?_
            rintro e u1 ⟨rfl, k1⟩
            have K1 := Lib.hid k1
            clear k1
            go_wp2_with fail
            go_ret
            exact ⟨rfl, K1.out⟩
          · obtain ⟨k, rfl⟩ := Int.eq_ofNat_of_zero_le (show 0 ≤ a2 by omega)
            have hk0 : k < n0 := by omega
            have hk1 : k < n1 := by omega
            have hz0' : ∀ i, i < n0 → (S0 i).size ≤ 1000000 := fun i hi => Nat.le_trans (hz0 i hi) (by omega)
            have hz1' : ∀ i, i < n1 → (S1 i).size ≤ 1000000 := fun i hi => Nat.le_trans (hz1 i hi) (by omega)
            have hE0 : opE n0 (k : Int) = 0 := if_pos (by omega)
            have hE1 : opE n1 (k : Int) = 0 := if_pos (by omega)
            have H0 : Hid (∀ w, SAt w p0 n0 S0 → _) := Lib.hid fun w hS => refOpen_at p0 n0 c0 S0 (k : Int) w hS hz0' (by omega)
            have H1 : Hid (∀ w, SAt w p1 n1 S1 → _) := Lib.hid fun w hS => refOpen_at p1 n1 c1 S1 (k : Int) w hS hz1' (by omega)
            rw [hE0] at H0
            rw [hE1] at H1
            have HR0 : Hid (∀ w, SAt w p0 n0 S0 → _) := Lib.hid fun w hS => refRoot11_any p0 n0 c0 S0 w hS hz0' (by omega)
            have HR1 : Hid (∀ w, SAt w p1 n1 S1 → _) := Lib.hid fun w hS => refRoot11_any p1 n1 c1 S1 w hS hz1' (by omega)
            have la : (rootL S0 n0).length = 32 := shaL_length _
            have lb : (rootL S1 n1).length = 32 := shaL_length _
            obtain ⟨a, b, q1, q2, q3, q4, HFd⟩ := clashFind_any (rootL S0 n0) la (S0 k) (S1 k) (hz0' k hk0) (hz1' k hk1) (opI n0 (k : Int)) (opC n0 (k : Int)) (opI n1 (k : Int)) (opC n1 (k : Int)) (opL S0 n0 (k : Int)).length (opL S1 n1 (k : Int)).length
              (lh (opL S0 n0 (k : Int))) (lh (opL S1 n1 (k : Int))) (lh_32 (opL_32 S0 n0 (k : Int))) (lh_32 (opL_32 S1 n1 (k : Int)))
            rw [co_opened S0 S1 n0 n1 k hk0 hk1 (by omega) (by omega)] at q1 q2 HFd
            replace HFd := Lib.hid HFd
            have HIs : Hid (∀ w, Tab w → _) := Lib.hid fun w ht => clashIs_any a b (by omega) (by omega) w ht
            obtain ⟨E, hE⟩ : ∃ E, E = decide (S0 k = S1 k) := ⟨_, rfl⟩
            obtain ⟨D, hD⟩ : ∃ D, D = decide (rootL S0 n0 = rootL S1 n1) := ⟨_, rfl⟩
            rw [← hE, ← hD] at HFd q1 q2
            replace hE := Lib.hid hE
            replace hD := Lib.hid hD
            replace q1 := Lib.hid q1
            replace q2 := Lib.hid q2
            have hd4 : decide ((k : Int) ≥ (n1 : Int)) = false := decide_eq_false (by omega)
            have hd4' : decide (n1 ≤ k) = false := decide_eq_false (by omega)
            have hd5' : decide (n0 ≤ k) = false := decide_eq_false (by omega)
            clear hz0 hz1 hz0' hz1' hE0 hE1 hneg hge hge1 q3 q4 hn0 hn1
            generalize lh (opL S0 n0 (k : Int)) = F at H0 HFd
            generalize lh (opL S1 n1 (k : Int)) = G at H1 HFd
            generalize (opL S0 n0 (k : Int)).length = m at H0 HFd
            generalize (opL S1 n1 (k : Int)).length = m' at H1 HFd
            generalize opI n0 (k : Int) = I at H0 HFd
            generalize opC n0 (k : Int) = N at H0 HFd
            generalize opI n1 (k : Int) = I' at H1 HFd
            generalize opC n1 (k : Int) = N' at H1 HFd
            generalize rootL S0 n0 = A at HR0 HFd hD la
            generalize rootL S1 n1 = B at HR1 hD lb
            generalize hCO : (!E && D) = CO at HFd q1 q2
            replace hCO := Lib.hid hCO
            go_wp2_with fail
            refine (H0.out w HS0.out).mono ?_
            rintro e u1 ⟨q, cc, rfl, hx, k1⟩
            have Y1 := Lib.hid hx
            have K1 := Lib.hid k1
            clear hx k1 H0
            go_wp2_with (refine wpList_store_made rfl 29 _ _ rfl _ _ #[.int .i64 I, .int .i64 N, .slice q m cc] rfl rfl 29 _ rfl (opR_size I N (.slice q m cc)) rfl (opR_one I N q m cc) ?_; intro u2 R7 k2)
            obtain ⟨g7, hg7⟩ : ∃ g, g = u1.heap.size := ⟨_, rfl⟩
            rw [← hg7] at R7 ⊢
            clear hg7
            have Y2 := Lib.hid (HSl.kept _ _ _ _ _ k2.out Y1.out)
            have K2 := Lib.hid (K1.out.trans k2.out)
            clear k2 K1 Y1
            refine (H1.out u2 (HS1.out.kept K2.out)).mono ?_
            rintro e u3 ⟨q', cc', rfl, hx, k3⟩
            have X3 := Lib.hid hx
            have Y3 := Lib.hid (HSl.kept _ _ _ _ _ k3 Y2.out)
            replace R7 := Lib.hid (R7.out.kept k3)
            have K3 := Lib.hid (K2.out.trans k3)
            clear hx k3 H1 K2 Y2
            go_wp2_with (refine wpList_store_made rfl 29 _ _ rfl _ _ #[.int .i64 I', .int .i64 N', .slice q' m' cc'] rfl rfl 29 _ rfl (opR_size I' N' (.slice q' m' cc')) rfl (opR_one I' N' q' m' cc') ?_; intro u4 R9 k4)
            obtain ⟨g9, hg9⟩ : ∃ g, g = u3.heap.size := ⟨_, rfl⟩
            rw [← hg9] at R9 ⊢
            clear hg9
            have Y4 := Lib.hid (HSl.kept _ _ _ _ _ k4.out Y3.out)
            have X4 := Lib.hid (HSl.kept _ _ _ _ _ k4.out X3.out)
            replace R7 := Lib.hid (R7.out.kept k4.out)
            have K4 := Lib.hid (K3.out.trans k4.out)
            clear k4 K3 Y3 X3
            refine (HR0.out u4 (HS0.out.kept K4.out)).mono ?_
            rintro e u5 ⟨rfl, k5⟩
            have Y5 := Lib.hid (HSl.kept _ _ _ _ _ k5 Y4.out)
            have X5 := Lib.hid (HSl.kept _ _ _ _ _ k5 X4.out)
            replace R7 := Lib.hid (R7.out.kept k5)
            replace R9 := Lib.hid (R9.out.kept k5)
            have K5 := Lib.hid (K4.out.trans k5)
            clear k5 K4 Y4 X4 HR0
            go_wp2_with (refine wpList_store_made rfl 25 _ _ rfl _ _ (bC 32 A) rfl rfl 25 _ rfl (info_hash _) (by simp [bC_size]) (bC_one _ _) ?_; intro u6 R11 k6)
            obtain ⟨g11, hg11⟩ : ∃ g, g = u5.heap.size := ⟨_, rfl⟩
            rw [← hg11] at R11 ⊢
            clear hg11
            have Y6 := Lib.hid (HSl.kept _ _ _ _ _ k6.out Y5.out)
            have X6 := Lib.hid (HSl.kept _ _ _ _ _ k6.out X5.out)
            replace R7 := Lib.hid (R7.out.kept k6.out)
            replace R9 := Lib.hid (R9.out.kept k6.out)
            have K6 := Lib.hid (K5.out.trans k6.out)
            clear k6 K5 Y5 X5
            obtain ⟨q0, rfl, _⟩ := HS0.out.some (by omega)
            obtain ⟨q5, rfl, _⟩ := HS1.out.some (by omega)
            refine wp_region_table [(53, .is (.agg (bC 32 A))), (54, .is (.slice (some q0) n0 c0)), (55, .is (.int .i64 (k : Int))), (56, .is (.pointer (some (q0.add k)))), (57, .is (.string (S0 k))), (58, .is (.agg #[.int .i64 I, .int .i64 N, .slice q m cc])), (59, .is (.agg #[.string (S0 k), .int .i64 I, .int .i64 N, .slice q m cc])), (60, .is (.slice (some q5) n1 c1)), (61, .is (.int .i64 (k : Int))), (62, .is (.pointer (some (q5.add k)))), (63, .is (.string (S1 k))), (64, .is (.agg #[.int .i64 I', .int .i64 N', .slice q' m' cc'])), (65, .is (.agg #[.string (S1 k), .int .i64 I', .int .i64 N', .slice q' m' cc'])), (66, .is (.tuple #[.string a, .string b, .bool CO])), (52, .is (.tuple #[.string a, .string b, .bool CO])), (67, .is (.string a)), (68, .is (.string b)), (69, .is (.bool CO)), (12, .is (.string a)), (13, .is (.string b)), (14, .is (.bool CO))] (by kernel_rfl) (by kernel_rfl) ?_ ?_
            · refine ⟨fun t w1 hf hk hp => ?_, ?_⟩
              · have h11 : slot t 11 = .pointer (some ⟨g11, 0, none⟩) := hf 11 (by kernel_rfl)
                clear hf hp
                refine stepAt_plain rfl ?_
                exact stepOK_pure (.agg (bC 32 A)) (loadHr rfl h11 (R11.out.kept hk)) rfl
              refine ⟨fun t w1 hf hk hp => ?_, ?_⟩
              · have h0 : slot t 0 = .slice (some q0) n0 c0 := hf 0 (by kernel_rfl)
                clear hf hp
                refine stepAt_plain rfl ?_
                exact stepOK_move _ (.inl rfl) h0
              refine ⟨fun t w1 hf hk hp => ?_, ?_⟩
              · have h2 : slot t 2 = .int .i64 (k : Int) := hf 2 (by kernel_rfl)
                clear hf hp
                refine stepAt_plain rfl ?_
                exact stepOK_move _ (.inl rfl) h2
              refine ⟨fun t w1 hf hk hp => ?_, ?_⟩
              · have h54 : slot t 54 = .slice (some q0) n0 c0 := hp 54 (by kernel_rfl)
                have h55 : slot t 55 = .int .i64 (k : Int) := hp 55 (by kernel_rfl)
                clear hf hp
                refine stepAt_plain rfl ?_
                exact stepOK_pure (.pointer (some (q0.add k))) (execIndexS q0 n0 c0 k hk0 w1 rfl h54 h55) rfl
              refine ⟨fun t w1 hf hk hp => ?_, ?_⟩
              · have h56 : slot t 56 = .pointer (some (q0.add k)) := hp 56 (by kernel_rfl)
                clear hf hp
                refine stepAt_plain rfl ?_
                have hq0 := (HS0.out.kept (K6.out.trans hk)).load k hk0
                exact stepOK_sem (.string (S0 k)) (by simp only [execOp, evS, h56]) hq0 rfl
              refine ⟨fun t w1 hf hk hp => ?_, ?_⟩
              · have h7 : slot t 7 = .pointer (some ⟨g7, 0, none⟩) := hf 7 (by kernel_rfl)
                clear hf hp
                refine stepAt_plain rfl ?_
                exact stepOK_pure (.agg #[.int .i64 I, .int .i64 N, .slice q m cc]) (loadO rfl h7 (R7.out.kept hk) rfl) rfl
              refine ⟨fun t w1 hf hk hp => ?_, ?_⟩
              · have h57 : slot t 57 = .string (S0 k) := hp 57 (by kernel_rfl)
                have h58 : slot t 58 = .agg #[.int .i64 I, .int .i64 N, .slice q m cc] := hp 58 (by kernel_rfl)
                clear hf hp
                refine stepAt_plain rfl ?_
                exact stepOK_pure (.agg #[.string (S0 k), .int .i64 I, .int .i64 N, .slice q m cc]) (execBuild2 rfl h57 h58 (run_buildLf _ _ _ _ _ _ w1)) rfl
              refine ⟨fun t w1 hf hk hp => ?_, ?_⟩
              · have h1 : slot t 1 = .slice (some q5) n1 c1 := hf 1 (by kernel_rfl)
                clear hf hp
                refine stepAt_plain rfl ?_
                exact stepOK_move _ (.inl rfl) h1
              refine ⟨fun t w1 hf hk hp => ?_, ?_⟩
              · have h2 : slot t 2 = .int .i64 (k : Int) := hf 2 (by kernel_rfl)
                clear hf hp
                refine stepAt_plain rfl ?_
                exact stepOK_move _ (.inl rfl) h2
              refine ⟨fun t w1 hf hk hp => ?_, ?_⟩
              · have h60 : slot t 60 = .slice (some q5) n1 c1 := hp 60 (by kernel_rfl)
                have h61 : slot t 61 = .int .i64 (k : Int) := hp 61 (by kernel_rfl)
                clear hf hp
                refine stepAt_plain rfl ?_
                exact stepOK_pure (.pointer (some (q5.add k))) (execIndexS q5 n1 c1 k hk1 w1 rfl h60 h61) rfl
              refine ⟨fun t w1 hf hk hp => ?_, ?_⟩
              · have h62 : slot t 62 = .pointer (some (q5.add k)) := hp 62 (by kernel_rfl)
                clear hf hp
                refine stepAt_plain rfl ?_
                have hq0 := (HS1.out.kept (K6.out.trans hk)).load k hk1
                exact stepOK_sem (.string (S1 k)) (by simp only [execOp, evS, h62]) hq0 rfl
              refine ⟨fun t w1 hf hk hp => ?_, ?_⟩
              · have h9 : slot t 9 = .pointer (some ⟨g9, 0, none⟩) := hf 9 (by kernel_rfl)
                clear hf hp
                refine stepAt_plain rfl ?_
                exact stepOK_pure (.agg #[.int .i64 I', .int .i64 N', .slice q' m' cc']) (loadO rfl h9 (R9.out.kept hk) rfl) rfl
              refine ⟨fun t w1 hf hk hp => ?_, ?_⟩
              · have h63 : slot t 63 = .string (S1 k) := hp 63 (by kernel_rfl)
                have h64 : slot t 64 = .agg #[.int .i64 I', .int .i64 N', .slice q' m' cc'] := hp 64 (by kernel_rfl)
                clear hf hp
                refine stepAt_plain rfl ?_
                exact stepOK_pure (.agg #[.string (S1 k), .int .i64 I', .int .i64 N', .slice q' m' cc']) (execBuild2 rfl h63 h64 (run_buildLf _ _ _ _ _ _ w1)) rfl
              refine ⟨fun t w1 hf hk hp => ?_, ?_⟩
              · have h53 : slot t 53 = .agg (bC 32 A) := hp 53 (by kernel_rfl)
                have h59 : slot t 59 = .agg #[.string (S0 k), .int .i64 I, .int .i64 N, .slice q m cc] := hp 59 (by kernel_rfl)
                have h65 : slot t 65 = .agg #[.string (S1 k), .int .i64 I', .int .i64 N', .slice q' m' cc'] := hp 65 (by kernel_rfl)
                clear hf hp
                refine stepAt_plain rfl ?_
                refine stepOK_call #[.agg (bC 32 A), .agg #[.string (S0 k), .int .i64 I, .int .i64 N, .slice q m cc], .agg #[.string (S1 k), .int .i64 I', .int .i64 N', .slice q' m' cc']] rfl (by simp only [List.map_toArray, List.map_cons, List.map_nil, evS, h53, h59, h65]) (by go_simp) ((HFd.out q q' cc cc' w1 (HSl.kept _ _ _ _ _ hk Y6.out) (HSl.kept _ _ _ _ _ hk X6.out) (HT.out.kept (K6.out.trans hk))).mono fun e w' ⟨he, hk'⟩ => ⟨_, he, hk', rfl⟩)
              refine ⟨fun t w1 hf hk hp => ?_, ?_⟩
              · have h66 : slot t 66 = .tuple #[.string a, .string b, .bool CO] := hp 66 (by kernel_rfl)
                clear hf hp
                refine stepAt_plain rfl ?_
                exact stepOK_move _ (.inl rfl) h66
              refine ⟨fun t w1 hf hk hp => ?_, ?_⟩
              · have h52 : slot t 52 = .tuple #[.string a, .string b, .bool CO] := hp 52 (by kernel_rfl)
                clear hf hp
                refine stepAt_plain rfl ?_
                refine stepOK_pure (.string a) ?_ rfl
                simp only [execOp, evS, h52]
                go_simp
              refine ⟨fun t w1 hf hk hp => ?_, ?_⟩
              · have h52 : slot t 52 = .tuple #[.string a, .string b, .bool CO] := hp 52 (by kernel_rfl)
                clear hf hp
                refine stepAt_plain rfl ?_
                refine stepOK_pure (.string b) ?_ rfl
                simp only [execOp, evS, h52]
                go_simp
              refine ⟨fun t w1 hf hk hp => ?_, ?_⟩
              · have h52 : slot t 52 = .tuple #[.string a, .string b, .bool CO] := hp 52 (by kernel_rfl)
                clear hf hp
                refine stepAt_plain rfl ?_
                refine stepOK_pure (.bool CO) ?_ rfl
                simp only [execOp, evS, h52]
                go_simp
              refine ⟨fun t w1 hf hk hp => ?_, ?_⟩
              · have h67 : slot t 67 = .string a := hp 67 (by kernel_rfl)
                clear hf hp
                refine stepAt_plain rfl ?_
                exact stepOK_move _ (.inr rfl) h67
              refine ⟨fun t w1 hf hk hp => ?_, ?_⟩
              · have h68 : slot t 68 = .string b := hp 68 (by kernel_rfl)
                clear hf hp
                refine stepAt_plain rfl ?_
                exact stepOK_move _ (.inr rfl) h68
              refine ⟨fun t w1 hf hk hp => ?_, ?_⟩
              · have h69 : slot t 69 = .bool CO := hp 69 (by kernel_rfl)
                clear hf hp
                refine stepAt_plain rfl ?_
                exact stepOK_move _ (.inr rfl) h69
              exact trivial
            · intro t w1 hsz hf hk hfacts
              have h12 : slot t 12 = .string a := hfacts 18 _ rfl 12 rfl
              have h13 : slot t 13 = .string b := hfacts 19 _ rfl 13 rfl
              have h14 : slot t 14 = .bool CO := hfacts 20 _ rfl 14 rfl
              have h0 : slot t 0 = .slice (some q0) n0 c0 := hf 0 (by kernel_rfl)
              have h1 : slot t 1 = .slice (some q5) n1 c1 := hf 1 (by kernel_rfl)
              have h2 : slot t 2 = .int .i64 (k : Int) := hf 2 (by kernel_rfl)
              have h7 : slot t 7 = .pointer (some ⟨g7, 0, none⟩) := hf 7 (by kernel_rfl)
              have h9 : slot t 9 = .pointer (some ⟨g9, 0, none⟩) := hf 9 (by kernel_rfl)
              have h11 : slot t 11 = .pointer (some ⟨g11, 0, none⟩) := hf 11 (by kernel_rfl)
              have harr : t = #[slot t 0, slot t 1, slot t 2, slot t 3, slot t 4, slot t 5, slot t 6, slot t 7, slot t 8, slot t 9, slot t 10, slot t 11, slot t 12, slot t 13, slot t 14, slot t 15, slot t 16, slot t 17, slot t 18, slot t 19, slot t 20, slot t 21, slot t 22, slot t 23, slot t 24, slot t 25, slot t 26, slot t 27, slot t 28, slot t 29, slot t 30, slot t 31, slot t 32, slot t 33, slot t 34, slot t 35, slot t 36, slot t 37, slot t 38, slot t 39, slot t 40, slot t 41, slot t 42, slot t 43, slot t 44, slot t 45, slot t 46, slot t 47, slot t 48, slot t 49, slot t 50, slot t 51, slot t 52, slot t 53, slot t 54, slot t 55, slot t 56, slot t 57, slot t 58, slot t 59, slot t 60, slot t 61, slot t 62, slot t 63, slot t 64, slot t 65, slot t 66, slot t 67, slot t 68, slot t 69, slot t 70, slot t 71, slot t 72, slot t 73, slot t 74, slot t 75, slot t 76, slot t 77, slot t 78, slot t 79, slot t 80, slot t 81, slot t 82, slot t 83, slot t 84, slot t 85, slot t 86, slot t 87, slot t 88, slot t 89, slot t 90, slot t 91, slot t 92, slot t 93, slot t 94, slot t 95, slot t 96, slot t 97, slot t 98] := arr_eq t 99 hsz
              rw [harr, h12, h13, h14, h0, h1, h2, h7, h9, h11]
              clear harr hfacts hf h12 h13 h14 h0 h1 h2 h7 h9 h11
              generalize slot t 3 = x3; generalize slot t 4 = x4; generalize slot t 5 = x5; generalize slot t 6 = x6; generalize slot t 8 = x8; generalize slot t 10 = x10; generalize slot t 15 = x15; generalize slot t 16 = x16; generalize slot t 17 = x17; generalize slot t 18 = x18; generalize slot t 19 = x19; generalize slot t 20 = x20
              generalize slot t 21 = x21; generalize slot t 22 = x22; generalize slot t 23 = x23; generalize slot t 24 = x24; generalize slot t 25 = x25; generalize slot t 26 = x26; generalize slot t 27 = x27; generalize slot t 28 = x28; generalize slot t 29 = x29; generalize slot t 30 = x30; generalize slot t 31 = x31; generalize slot t 32 = x32
              generalize slot t 33 = x33; generalize slot t 34 = x34; generalize slot t 35 = x35; generalize slot t 36 = x36; generalize slot t 37 = x37; generalize slot t 38 = x38; generalize slot t 39 = x39; generalize slot t 40 = x40; generalize slot t 41 = x41; generalize slot t 42 = x42; generalize slot t 43 = x43; generalize slot t 44 = x44
              generalize slot t 45 = x45; generalize slot t 46 = x46; generalize slot t 47 = x47; generalize slot t 48 = x48; generalize slot t 49 = x49; generalize slot t 50 = x50; generalize slot t 51 = x51; generalize slot t 52 = x52; generalize slot t 53 = x53; generalize slot t 54 = x54; generalize slot t 55 = x55; generalize slot t 56 = x56
              generalize slot t 57 = x57; generalize slot t 58 = x58; generalize slot t 59 = x59; generalize slot t 60 = x60; generalize slot t 61 = x61; generalize slot t 62 = x62; generalize slot t 63 = x63; generalize slot t 64 = x64; generalize slot t 65 = x65; generalize slot t 66 = x66; generalize slot t 67 = x67; generalize slot t 68 = x68
              generalize slot t 69 = x69; generalize slot t 70 = x70; generalize slot t 71 = x71; generalize slot t 72 = x72; generalize slot t 73 = x73; generalize slot t 74 = x74; generalize slot t 75 = x75; generalize slot t 76 = x76; generalize slot t 77 = x77; generalize slot t 78 = x78; generalize slot t 79 = x79; generalize slot t 80 = x80
              generalize slot t 81 = x81; generalize slot t 82 = x82; generalize slot t 83 = x83; generalize slot t 84 = x84; generalize slot t 85 = x85; generalize slot t 86 = x86; generalize slot t 87 = x87; generalize slot t 88 = x88; generalize slot t 89 = x89; generalize slot t 90 = x90; generalize slot t 91 = x91; generalize slot t 92 = x92
              generalize slot t 93 = x93; generalize slot t 94 = x94; generalize slot t 95 = x95; generalize slot t 96 = x96; generalize slot t 97 = x97; generalize slot t 98 = x98
              clear hsz t
              replace R11 := Lib.hid (R11.out.kept hk)
              have K7 := Lib.hid (K6.out.trans hk)
              clear hk K6 Y6 X6 R7 R9 HFd
              go_wp2_with fail
              obtain ⟨v7, hv7⟩ : ∃ v, v = w1 := ⟨_, rfl⟩
              subst hv7
              cases D with
              | false =>
                have hc : CO = false := by have := hCO.out; simpa using this.symm
                subst hc
                refine wp_region_table [(70, .is (.agg (bC 32 A))), (71, .is (.slice (some q5) n1 c1)), (72, .is (.agg (bC 32 B))), (73, .is (.bool true)), (74, .is (.bool true)), (75, .is (undef)), (76, .is (undef)), (77, .is (undef)), (78, .is (undef)), (79, .is (undef)), (80, .is (undef)), (81, .is (undef)), (82, .is (undef)), (83, .is (undef)), (84, .is (.bool true))] (by kernel_rfl) (by kernel_rfl) ?_ ?_
                · refine ⟨fun t w1 hf hk hp => ?_, ?_⟩
                  · have h11 : slot t 11 = .pointer (some ⟨g11, 0, none⟩) := hf 11 (by kernel_rfl)
                    clear hf hp
                    refine stepAt_plain rfl ?_
                    exact stepOK_pure (.agg (bC 32 A)) (loadHr rfl h11 (R11.out.kept hk)) rfl
                  refine ⟨fun t w1 hf hk hp => ?_, ?_⟩
                  · have h1 : slot t 1 = .slice (some q5) n1 c1 := hf 1 (by kernel_rfl)
                    clear hf hp
                    refine stepAt_plain rfl ?_
                    exact stepOK_move _ (.inl rfl) h1
                  refine ⟨fun t w1 hf hk hp => ?_, ?_⟩
                  · have h71 : slot t 71 = .slice (some q5) n1 c1 := hp 71 (by kernel_rfl)
                    clear hf hp
                    refine stepAt_plain rfl ?_
                    refine stepOK_call #[.slice (some q5) n1 c1] rfl (by simp only [List.map_toArray, List.map_cons, List.map_nil, evS, h71]) (by go_simp) ((HR1.out w1 (HS1.out.kept (K7.out.trans hk))).mono fun e w' ⟨he, hk'⟩ => ⟨_, he, hk', rfl⟩)
                  refine ⟨fun t w1 hf hk hp => ?_, ?_⟩
                  · have h70 : slot t 70 = .agg (bC 32 A) := hp 70 (by kernel_rfl)
                    have h72 : slot t 72 = .agg (bC 32 B) := hp 72 (by kernel_rfl)
                    clear hf hp
                    refine stepAt_plain rfl ?_
                    exact stepOK_pure (.bool true) (Eq.trans (execNeHs A B la lb w1 rfl h70 h72) (by rw [← hD.out]; rfl)) rfl
                  refine ⟨fun t w1 hf hk hp => ?_, ?_⟩
                  · have h73 : slot t 73 = .bool true := hp 73 (by kernel_rfl)
                    clear hf hp
                    refine stepAt_plain rfl ?_
                    exact stepOK_move _ (.inl rfl) h73
                  refine ⟨fun t w1 hf hk hp => ?_, ?_⟩
                  · have h74 : slot t 74 = .bool true := hp 74 (by kernel_rfl)
                    clear hf hp
                    exact stepAt_off 74 false (by kernel_rfl) h74 rfl
                  refine ⟨fun t w1 hf hk hp => ?_, ?_⟩
                  · have h74 : slot t 74 = .bool true := hp 74 (by kernel_rfl)
                    clear hf hp
                    exact stepAt_off 74 false (by kernel_rfl) h74 rfl
                  refine ⟨fun t w1 hf hk hp => ?_, ?_⟩
                  · have h74 : slot t 74 = .bool true := hp 74 (by kernel_rfl)
                    clear hf hp
                    exact stepAt_off 74 false (by kernel_rfl) h74 rfl
                  refine ⟨fun t w1 hf hk hp => ?_, ?_⟩
                  · have h74 : slot t 74 = .bool true := hp 74 (by kernel_rfl)
                    clear hf hp
                    exact stepAt_off 74 false (by kernel_rfl) h74 rfl
                  refine ⟨fun t w1 hf hk hp => ?_, ?_⟩
                  · have h74 : slot t 74 = .bool true := hp 74 (by kernel_rfl)
                    clear hf hp
                    exact stepAt_off 74 false (by kernel_rfl) h74 rfl
                  refine ⟨fun t w1 hf hk hp => ?_, ?_⟩
                  · have h74 : slot t 74 = .bool true := hp 74 (by kernel_rfl)
                    clear hf hp
                    exact stepAt_off 74 false (by kernel_rfl) h74 rfl
                  refine ⟨fun t w1 hf hk hp => ?_, ?_⟩
                  · have h74 : slot t 74 = .bool true := hp 74 (by kernel_rfl)
                    clear hf hp
                    exact stepAt_off 74 false (by kernel_rfl) h74 rfl
                  refine ⟨fun t w1 hf hk hp => ?_, ?_⟩
                  · have h74 : slot t 74 = .bool true := hp 74 (by kernel_rfl)
                    clear hf hp
                    exact stepAt_off 74 false (by kernel_rfl) h74 rfl
                  refine ⟨fun t w1 hf hk hp => ?_, ?_⟩
                  · have h74 : slot t 74 = .bool true := hp 74 (by kernel_rfl)
                    clear hf hp
                    exact stepAt_off 74 false (by kernel_rfl) h74 rfl
                  refine ⟨fun t w1 hf hk hp => ?_, ?_⟩
                  · have h74 : slot t 74 = .bool true := hp 74 (by kernel_rfl)
                    have h83 : slot t 83 = undef := hp 83 (by kernel_rfl)
                    clear hf hp
                    refine stepAt_plain rfl ?_
                    refine stepOK_pure (.bool true) ?_ rfl
                    simp only [execOp, evS, h74, h83]
                    go_simp
                  exact trivial
                · intro t w1 hsz hf hk hfacts
                  have h84 : slot t 84 = .bool true := hfacts 14 _ rfl 84 rfl
                  have h0 : slot t 0 = .slice (some q0) n0 c0 := hf 0 (by kernel_rfl)
                  have h1 : slot t 1 = .slice (some q5) n1 c1 := hf 1 (by kernel_rfl)
                  have h2 : slot t 2 = .int .i64 (k : Int) := hf 2 (by kernel_rfl)
                  have h11 : slot t 11 = .pointer (some ⟨g11, 0, none⟩) := hf 11 (by kernel_rfl)
                  have h12 : slot t 12 = .string a := hf 12 (by kernel_rfl)
                  have h13 : slot t 13 = .string b := hf 13 (by kernel_rfl)
                  have h14 : slot t 14 = .bool false := hf 14 (by kernel_rfl)
                  have harr : t = #[slot t 0, slot t 1, slot t 2, slot t 3, slot t 4, slot t 5, slot t 6, slot t 7, slot t 8, slot t 9, slot t 10, slot t 11, slot t 12, slot t 13, slot t 14, slot t 15, slot t 16, slot t 17, slot t 18, slot t 19, slot t 20, slot t 21, slot t 22, slot t 23, slot t 24, slot t 25, slot t 26, slot t 27, slot t 28, slot t 29, slot t 30, slot t 31, slot t 32, slot t 33, slot t 34, slot t 35, slot t 36, slot t 37, slot t 38, slot t 39, slot t 40, slot t 41, slot t 42, slot t 43, slot t 44, slot t 45, slot t 46, slot t 47, slot t 48, slot t 49, slot t 50, slot t 51, slot t 52, slot t 53, slot t 54, slot t 55, slot t 56, slot t 57, slot t 58, slot t 59, slot t 60, slot t 61, slot t 62, slot t 63, slot t 64, slot t 65, slot t 66, slot t 67, slot t 68, slot t 69, slot t 70, slot t 71, slot t 72, slot t 73, slot t 74, slot t 75, slot t 76, slot t 77, slot t 78, slot t 79, slot t 80, slot t 81, slot t 82, slot t 83, slot t 84, slot t 85, slot t 86, slot t 87, slot t 88, slot t 89, slot t 90, slot t 91, slot t 92, slot t 93, slot t 94, slot t 95, slot t 96, slot t 97, slot t 98] := arr_eq t 99 hsz
                  rw [harr, h84, h0, h1, h2, h11, h12, h13, h14]
                  clear harr hfacts hf h84 h0 h1 h2 h11 h12 h13 h14
                  generalize slot t 3 = x3; generalize slot t 4 = x4; generalize slot t 5 = x5; generalize slot t 6 = x6; generalize slot t 7 = x7; generalize slot t 8 = x8; generalize slot t 9 = x9; generalize slot t 10 = x10; generalize slot t 15 = x15; generalize slot t 16 = x16; generalize slot t 17 = x17; generalize slot t 18 = x18
                  generalize slot t 19 = x19; generalize slot t 20 = x20; generalize slot t 21 = x21; generalize slot t 22 = x22; generalize slot t 23 = x23; generalize slot t 24 = x24; generalize slot t 25 = x25; generalize slot t 26 = x26; generalize slot t 27 = x27; generalize slot t 28 = x28; generalize slot t 29 = x29; generalize slot t 30 = x30
                  generalize slot t 31 = x31; generalize slot t 32 = x32; generalize slot t 33 = x33; generalize slot t 34 = x34; generalize slot t 35 = x35; generalize slot t 36 = x36; generalize slot t 37 = x37; generalize slot t 38 = x38; generalize slot t 39 = x39; generalize slot t 40 = x40; generalize slot t 41 = x41; generalize slot t 42 = x42
                  generalize slot t 43 = x43; generalize slot t 44 = x44; generalize slot t 45 = x45; generalize slot t 46 = x46; generalize slot t 47 = x47; generalize slot t 48 = x48; generalize slot t 49 = x49; generalize slot t 50 = x50; generalize slot t 51 = x51; generalize slot t 52 = x52; generalize slot t 53 = x53; generalize slot t 54 = x54
                  generalize slot t 55 = x55; generalize slot t 56 = x56; generalize slot t 57 = x57; generalize slot t 58 = x58; generalize slot t 59 = x59; generalize slot t 60 = x60; generalize slot t 61 = x61; generalize slot t 62 = x62; generalize slot t 63 = x63; generalize slot t 64 = x64; generalize slot t 65 = x65; generalize slot t 66 = x66
                  generalize slot t 67 = x67; generalize slot t 68 = x68; generalize slot t 69 = x69; generalize slot t 70 = x70; generalize slot t 71 = x71; generalize slot t 72 = x72; generalize slot t 73 = x73; generalize slot t 74 = x74; generalize slot t 75 = x75; generalize slot t 76 = x76; generalize slot t 77 = x77; generalize slot t 78 = x78
                  generalize slot t 79 = x79; generalize slot t 80 = x80; generalize slot t 81 = x81; generalize slot t 82 = x82; generalize slot t 83 = x83; generalize slot t 85 = x85; generalize slot t 86 = x86; generalize slot t 87 = x87; generalize slot t 88 = x88; generalize slot t 89 = x89; generalize slot t 90 = x90; generalize slot t 91 = x91
                  generalize slot t 92 = x92; generalize slot t 93 = x93; generalize slot t 94 = x94; generalize slot t 95 = x95; generalize slot t 96 = x96; generalize slot t 97 = x97; generalize slot t 98 = x98
                  clear hsz t
                  have K8 := Lib.hid (K7.out.trans hk)
                  clear hk K7
                  go_wp2_with fail
                  refine (HA.out _ (HT.out.kept K8.out)).mono ?_
                  rintro e u9 ⟨rfl, k9⟩
                  have K9 := Lib.hid (K8.out.trans k9)
                  clear k9 K8
                  go_wp2_with fail
                  go_ret
                  exact ⟨rfl, K9.out⟩
              | true =>
                cases E with
                | true =>
                  have hc : CO = false := by have := hCO.out; simpa using this.symm
                  subst hc
                  refine wp_region_table [(70, .is (.agg (bC 32 A))), (71, .is (.slice (some q5) n1 c1)), (72, .is (.agg (bC 32 B))), (73, .is (.bool false)), (74, .is (.bool false)), (75, .is (.slice (some q0) n0 c0)), (76, .is (.int .i64 (k : Int))), (77, .is (.pointer (some (q0.add k)))), (78, .is (.string (S0 k))), (79, .is (.slice (some q5) n1 c1)), (80, .is (.int .i64 (k : Int))), (81, .is (.pointer (some (q5.add k)))), (82, .is (.string (S1 k))), (83, .is (.bool true)), (84, .is (.bool true))] (by kernel_rfl) (by kernel_rfl) ?_ ?_
                  · refine ⟨fun t w1 hf hk hp => ?_, ?_⟩
                    · have h11 : slot t 11 = .pointer (some ⟨g11, 0, none⟩) := hf 11 (by kernel_rfl)
                      clear hf hp
                      refine stepAt_plain rfl ?_
                      exact stepOK_pure (.agg (bC 32 A)) (loadHr rfl h11 (R11.out.kept hk)) rfl
                    refine ⟨fun t w1 hf hk hp => ?_, ?_⟩
                    · have h1 : slot t 1 = .slice (some q5) n1 c1 := hf 1 (by kernel_rfl)
                      clear hf hp
                      refine stepAt_plain rfl ?_
                      exact stepOK_move _ (.inl rfl) h1
                    refine ⟨fun t w1 hf hk hp => ?_, ?_⟩
                    · have h71 : slot t 71 = .slice (some q5) n1 c1 := hp 71 (by kernel_rfl)
                      clear hf hp
                      refine stepAt_plain rfl ?_
                      refine stepOK_call #[.slice (some q5) n1 c1] rfl (by simp only [List.map_toArray, List.map_cons, List.map_nil, evS, h71]) (by go_simp) ((HR1.out w1 (HS1.out.kept (K7.out.trans hk))).mono fun e w' ⟨he, hk'⟩ => ⟨_, he, hk', rfl⟩)
                    refine ⟨fun t w1 hf hk hp => ?_, ?_⟩
                    · have h70 : slot t 70 = .agg (bC 32 A) := hp 70 (by kernel_rfl)
                      have h72 : slot t 72 = .agg (bC 32 B) := hp 72 (by kernel_rfl)
                      clear hf hp
                      refine stepAt_plain rfl ?_
                      exact stepOK_pure (.bool false) (Eq.trans (execNeHs A B la lb w1 rfl h70 h72) (by rw [← hD.out]; rfl)) rfl
                    refine ⟨fun t w1 hf hk hp => ?_, ?_⟩
                    · have h73 : slot t 73 = .bool false := hp 73 (by kernel_rfl)
                      clear hf hp
                      refine stepAt_plain rfl ?_
                      exact stepOK_move _ (.inl rfl) h73
                    refine ⟨fun t w1 hf hk hp => ?_, ?_⟩
                    · have h0 : slot t 0 = .slice (some q0) n0 c0 := hf 0 (by kernel_rfl)
                      have h74 : slot t 74 = .bool false := hp 74 (by kernel_rfl)
                      clear hf hp
                      refine stepAt_on 74 false (by kernel_rfl) h74 ?_
                      exact stepOK_move _ (.inl rfl) h0
                    refine ⟨fun t w1 hf hk hp => ?_, ?_⟩
                    · have h2 : slot t 2 = .int .i64 (k : Int) := hf 2 (by kernel_rfl)
                      have h74 : slot t 74 = .bool false := hp 74 (by kernel_rfl)
                      clear hf hp
                      refine stepAt_on 74 false (by kernel_rfl) h74 ?_
                      exact stepOK_move _ (.inl rfl) h2
                    refine ⟨fun t w1 hf hk hp => ?_, ?_⟩
                    · have h75 : slot t 75 = .slice (some q0) n0 c0 := hp 75 (by kernel_rfl)
                      have h76 : slot t 76 = .int .i64 (k : Int) := hp 76 (by kernel_rfl)
                      have h74 : slot t 74 = .bool false := hp 74 (by kernel_rfl)
                      clear hf hp
                      refine stepAt_on 74 false (by kernel_rfl) h74 ?_
                      exact stepOK_pure (.pointer (some (q0.add k))) (execIndexS q0 n0 c0 k hk0 w1 rfl h75 h76) rfl
                    refine ⟨fun t w1 hf hk hp => ?_, ?_⟩
                    · have h77 : slot t 77 = .pointer (some (q0.add k)) := hp 77 (by kernel_rfl)
                      have h74 : slot t 74 = .bool false := hp 74 (by kernel_rfl)
                      clear hf hp
                      refine stepAt_on 74 false (by kernel_rfl) h74 ?_
                      have hq0 := (HS0.out.kept (K7.out.trans hk)).load k hk0
                      exact stepOK_sem (.string (S0 k)) (by simp only [execOp, evS, h77]) hq0 rfl
                    refine ⟨fun t w1 hf hk hp => ?_, ?_⟩
                    · have h1 : slot t 1 = .slice (some q5) n1 c1 := hf 1 (by kernel_rfl)
                      have h74 : slot t 74 = .bool false := hp 74 (by kernel_rfl)
                      clear hf hp
                      refine stepAt_on 74 false (by kernel_rfl) h74 ?_
                      exact stepOK_move _ (.inl rfl) h1
                    refine ⟨fun t w1 hf hk hp => ?_, ?_⟩
                    · have h2 : slot t 2 = .int .i64 (k : Int) := hf 2 (by kernel_rfl)
                      have h74 : slot t 74 = .bool false := hp 74 (by kernel_rfl)
                      clear hf hp
                      refine stepAt_on 74 false (by kernel_rfl) h74 ?_
                      exact stepOK_move _ (.inl rfl) h2
                    refine ⟨fun t w1 hf hk hp => ?_, ?_⟩
                    · have h79 : slot t 79 = .slice (some q5) n1 c1 := hp 79 (by kernel_rfl)
                      have h80 : slot t 80 = .int .i64 (k : Int) := hp 80 (by kernel_rfl)
                      have h74 : slot t 74 = .bool false := hp 74 (by kernel_rfl)
                      clear hf hp
                      refine stepAt_on 74 false (by kernel_rfl) h74 ?_
                      exact stepOK_pure (.pointer (some (q5.add k))) (execIndexS q5 n1 c1 k hk1 w1 rfl h79 h80) rfl
                    refine ⟨fun t w1 hf hk hp => ?_, ?_⟩
                    · have h81 : slot t 81 = .pointer (some (q5.add k)) := hp 81 (by kernel_rfl)
                      have h74 : slot t 74 = .bool false := hp 74 (by kernel_rfl)
                      clear hf hp
                      refine stepAt_on 74 false (by kernel_rfl) h74 ?_
                      have hq0 := (HS1.out.kept (K7.out.trans hk)).load k hk1
                      exact stepOK_sem (.string (S1 k)) (by simp only [execOp, evS, h81]) hq0 rfl
                    refine ⟨fun t w1 hf hk hp => ?_, ?_⟩
                    · have h78 : slot t 78 = .string (S0 k) := hp 78 (by kernel_rfl)
                      have h82 : slot t 82 = .string (S1 k) := hp 82 (by kernel_rfl)
                      have h74 : slot t 74 = .bool false := hp 74 (by kernel_rfl)
                      clear hf hp
                      refine stepAt_on 74 false (by kernel_rfl) h74 ?_
                      exact stepOK_pure (.bool true) (Eq.trans (execEqSd (S0 k) (S1 k) w1 rfl h78 h82) (by rw [← hE.out])) rfl
                    refine ⟨fun t w1 hf hk hp => ?_, ?_⟩
                    · have h74 : slot t 74 = .bool false := hp 74 (by kernel_rfl)
                      have h83 : slot t 83 = .bool true := hp 83 (by kernel_rfl)
                      clear hf hp
                      refine stepAt_plain rfl ?_
                      refine stepOK_pure (.bool true) ?_ rfl
                      simp only [execOp, evS, h74, h83]
                      go_simp
                    exact trivial
                  · intro t w1 hsz hf hk hfacts
                    have h84 : slot t 84 = .bool true := hfacts 14 _ rfl 84 rfl
                    have h0 : slot t 0 = .slice (some q0) n0 c0 := hf 0 (by kernel_rfl)
                    have h1 : slot t 1 = .slice (some q5) n1 c1 := hf 1 (by kernel_rfl)
                    have h2 : slot t 2 = .int .i64 (k : Int) := hf 2 (by kernel_rfl)
                    have h11 : slot t 11 = .pointer (some ⟨g11, 0, none⟩) := hf 11 (by kernel_rfl)
                    have h12 : slot t 12 = .string a := hf 12 (by kernel_rfl)
                    have h13 : slot t 13 = .string b := hf 13 (by kernel_rfl)
                    have h14 : slot t 14 = .bool false := hf 14 (by kernel_rfl)
                    have harr : t = #[slot t 0, slot t 1, slot t 2, slot t 3, slot t 4, slot t 5, slot t 6, slot t 7, slot t 8, slot t 9, slot t 10, slot t 11, slot t 12, slot t 13, slot t 14, slot t 15, slot t 16, slot t 17, slot t 18, slot t 19, slot t 20, slot t 21, slot t 22, slot t 23, slot t 24, slot t 25, slot t 26, slot t 27, slot t 28, slot t 29, slot t 30, slot t 31, slot t 32, slot t 33, slot t 34, slot t 35, slot t 36, slot t 37, slot t 38, slot t 39, slot t 40, slot t 41, slot t 42, slot t 43, slot t 44, slot t 45, slot t 46, slot t 47, slot t 48, slot t 49, slot t 50, slot t 51, slot t 52, slot t 53, slot t 54, slot t 55, slot t 56, slot t 57, slot t 58, slot t 59, slot t 60, slot t 61, slot t 62, slot t 63, slot t 64, slot t 65, slot t 66, slot t 67, slot t 68, slot t 69, slot t 70, slot t 71, slot t 72, slot t 73, slot t 74, slot t 75, slot t 76, slot t 77, slot t 78, slot t 79, slot t 80, slot t 81, slot t 82, slot t 83, slot t 84, slot t 85, slot t 86, slot t 87, slot t 88, slot t 89, slot t 90, slot t 91, slot t 92, slot t 93, slot t 94, slot t 95, slot t 96, slot t 97, slot t 98] := arr_eq t 99 hsz
                    rw [harr, h84, h0, h1, h2, h11, h12, h13, h14]
                    clear harr hfacts hf h84 h0 h1 h2 h11 h12 h13 h14
                    generalize slot t 3 = x3; generalize slot t 4 = x4; generalize slot t 5 = x5; generalize slot t 6 = x6; generalize slot t 7 = x7; generalize slot t 8 = x8; generalize slot t 9 = x9; generalize slot t 10 = x10; generalize slot t 15 = x15; generalize slot t 16 = x16; generalize slot t 17 = x17; generalize slot t 18 = x18
                    generalize slot t 19 = x19; generalize slot t 20 = x20; generalize slot t 21 = x21; generalize slot t 22 = x22; generalize slot t 23 = x23; generalize slot t 24 = x24; generalize slot t 25 = x25; generalize slot t 26 = x26; generalize slot t 27 = x27; generalize slot t 28 = x28; generalize slot t 29 = x29; generalize slot t 30 = x30
                    generalize slot t 31 = x31; generalize slot t 32 = x32; generalize slot t 33 = x33; generalize slot t 34 = x34; generalize slot t 35 = x35; generalize slot t 36 = x36; generalize slot t 37 = x37; generalize slot t 38 = x38; generalize slot t 39 = x39; generalize slot t 40 = x40; generalize slot t 41 = x41; generalize slot t 42 = x42
                    generalize slot t 43 = x43; generalize slot t 44 = x44; generalize slot t 45 = x45; generalize slot t 46 = x46; generalize slot t 47 = x47; generalize slot t 48 = x48; generalize slot t 49 = x49; generalize slot t 50 = x50; generalize slot t 51 = x51; generalize slot t 52 = x52; generalize slot t 53 = x53; generalize slot t 54 = x54
                    generalize slot t 55 = x55; generalize slot t 56 = x56; generalize slot t 57 = x57; generalize slot t 58 = x58; generalize slot t 59 = x59; generalize slot t 60 = x60; generalize slot t 61 = x61; generalize slot t 62 = x62; generalize slot t 63 = x63; generalize slot t 64 = x64; generalize slot t 65 = x65; generalize slot t 66 = x66
                    generalize slot t 67 = x67; generalize slot t 68 = x68; generalize slot t 69 = x69; generalize slot t 70 = x70; generalize slot t 71 = x71; generalize slot t 72 = x72; generalize slot t 73 = x73; generalize slot t 74 = x74; generalize slot t 75 = x75; generalize slot t 76 = x76; generalize slot t 77 = x77; generalize slot t 78 = x78
                    generalize slot t 79 = x79; generalize slot t 80 = x80; generalize slot t 81 = x81; generalize slot t 82 = x82; generalize slot t 83 = x83; generalize slot t 85 = x85; generalize slot t 86 = x86; generalize slot t 87 = x87; generalize slot t 88 = x88; generalize slot t 89 = x89; generalize slot t 90 = x90; generalize slot t 91 = x91
                    generalize slot t 92 = x92; generalize slot t 93 = x93; generalize slot t 94 = x94; generalize slot t 95 = x95; generalize slot t 96 = x96; generalize slot t 97 = x97; generalize slot t 98 = x98
                    clear hsz t
                    have K8 := Lib.hid (K7.out.trans hk)
                    clear hk K7
                    go_wp2_with fail
                    refine (HA.out _ (HT.out.kept K8.out)).mono ?_
                    rintro e u9 ⟨rfl, k9⟩
                    have K9 := Lib.hid (K8.out.trans k9)
                    clear k9 K8
                    go_wp2_with fail
                    go_ret
                    exact ⟨rfl, K9.out⟩
                | false =>
                  have hc : CO = true := by have := hCO.out; simpa using this.symm
                  subst hc
                  obtain ⟨hne, hsm⟩ := q2.out rfl
                  have hI : (!decide (a = b) && decide (shaL a = shaL b)) = true := by simp [hne, hsm]
                  rw [hI] at HIs
                  clear q1 q2 hne hsm hI
                  refine wp_region_table [(70, .is (.agg (bC 32 A))), (71, .is (.slice (some q5) n1 c1)), (72, .is (.agg (bC 32 B))), (73, .is (.bool false)), (74, .is (.bool false)), (75, .is (.slice (some q0) n0 c0)), (76, .is (.int .i64 (k : Int))), (77, .is (.pointer (some (q0.add k)))), (78, .is (.string (S0 k))), (79, .is (.slice (some q5) n1 c1)), (80, .is (.int .i64 (k : Int))), (81, .is (.pointer (some (q5.add k)))), (82, .is (.string (S1 k))), (83, .is (.bool false)), (84, .is (.bool false))] (by kernel_rfl) (by kernel_rfl) ?_ ?_
                  · refine ⟨fun t w1 hf hk hp => ?_, ?_⟩
                    · have h11 : slot t 11 = .pointer (some ⟨g11, 0, none⟩) := hf 11 (by kernel_rfl)
                      clear hf hp
                      refine stepAt_plain rfl ?_
                      exact stepOK_pure (.agg (bC 32 A)) (loadHr rfl h11 (R11.out.kept hk)) rfl
                    refine ⟨fun t w1 hf hk hp => ?_, ?_⟩
                    · have h1 : slot t 1 = .slice (some q5) n1 c1 := hf 1 (by kernel_rfl)
                      clear hf hp
                      refine stepAt_plain rfl ?_
                      exact stepOK_move _ (.inl rfl) h1
                    refine ⟨fun t w1 hf hk hp => ?_, ?_⟩
                    · have h71 : slot t 71 = .slice (some q5) n1 c1 := hp 71 (by kernel_rfl)
                      clear hf hp
                      refine stepAt_plain rfl ?_
                      refine stepOK_call #[.slice (some q5) n1 c1] rfl (by simp only [List.map_toArray, List.map_cons, List.map_nil, evS, h71]) (by go_simp) ((HR1.out w1 (HS1.out.kept (K7.out.trans hk))).mono fun e w' ⟨he, hk'⟩ => ⟨_, he, hk', rfl⟩)
                    refine ⟨fun t w1 hf hk hp => ?_, ?_⟩
                    · have h70 : slot t 70 = .agg (bC 32 A) := hp 70 (by kernel_rfl)
                      have h72 : slot t 72 = .agg (bC 32 B) := hp 72 (by kernel_rfl)
                      clear hf hp
                      refine stepAt_plain rfl ?_
                      exact stepOK_pure (.bool false) (Eq.trans (execNeHs A B la lb w1 rfl h70 h72) (by rw [← hD.out]; rfl)) rfl
                    refine ⟨fun t w1 hf hk hp => ?_, ?_⟩
                    · have h73 : slot t 73 = .bool false := hp 73 (by kernel_rfl)
                      clear hf hp
                      refine stepAt_plain rfl ?_
                      exact stepOK_move _ (.inl rfl) h73
                    refine ⟨fun t w1 hf hk hp => ?_, ?_⟩
                    · have h0 : slot t 0 = .slice (some q0) n0 c0 := hf 0 (by kernel_rfl)
                      have h74 : slot t 74 = .bool false := hp 74 (by kernel_rfl)
                      clear hf hp
                      refine stepAt_on 74 false (by kernel_rfl) h74 ?_
                      exact stepOK_move _ (.inl rfl) h0
                    refine ⟨fun t w1 hf hk hp => ?_, ?_⟩
                    · have h2 : slot t 2 = .int .i64 (k : Int) := hf 2 (by kernel_rfl)
                      have h74 : slot t 74 = .bool false := hp 74 (by kernel_rfl)
                      clear hf hp
                      refine stepAt_on 74 false (by kernel_rfl) h74 ?_
                      exact stepOK_move _ (.inl rfl) h2
                    refine ⟨fun t w1 hf hk hp => ?_, ?_⟩
                    · have h75 : slot t 75 = .slice (some q0) n0 c0 := hp 75 (by kernel_rfl)
                      have h76 : slot t 76 = .int .i64 (k : Int) := hp 76 (by kernel_rfl)
                      have h74 : slot t 74 = .bool false := hp 74 (by kernel_rfl)
                      clear hf hp
                      refine stepAt_on 74 false (by kernel_rfl) h74 ?_
                      exact stepOK_pure (.pointer (some (q0.add k))) (execIndexS q0 n0 c0 k hk0 w1 rfl h75 h76) rfl
                    refine ⟨fun t w1 hf hk hp => ?_, ?_⟩
                    · have h77 : slot t 77 = .pointer (some (q0.add k)) := hp 77 (by kernel_rfl)
                      have h74 : slot t 74 = .bool false := hp 74 (by kernel_rfl)
                      clear hf hp
                      refine stepAt_on 74 false (by kernel_rfl) h74 ?_
                      have hq0 := (HS0.out.kept (K7.out.trans hk)).load k hk0
                      exact stepOK_sem (.string (S0 k)) (by simp only [execOp, evS, h77]) hq0 rfl
                    refine ⟨fun t w1 hf hk hp => ?_, ?_⟩
                    · have h1 : slot t 1 = .slice (some q5) n1 c1 := hf 1 (by kernel_rfl)
                      have h74 : slot t 74 = .bool false := hp 74 (by kernel_rfl)
                      clear hf hp
                      refine stepAt_on 74 false (by kernel_rfl) h74 ?_
                      exact stepOK_move _ (.inl rfl) h1
                    refine ⟨fun t w1 hf hk hp => ?_, ?_⟩
                    · have h2 : slot t 2 = .int .i64 (k : Int) := hf 2 (by kernel_rfl)
                      have h74 : slot t 74 = .bool false := hp 74 (by kernel_rfl)
                      clear hf hp
                      refine stepAt_on 74 false (by kernel_rfl) h74 ?_
                      exact stepOK_move _ (.inl rfl) h2
                    refine ⟨fun t w1 hf hk hp => ?_, ?_⟩
                    · have h79 : slot t 79 = .slice (some q5) n1 c1 := hp 79 (by kernel_rfl)
                      have h80 : slot t 80 = .int .i64 (k : Int) := hp 80 (by kernel_rfl)
                      have h74 : slot t 74 = .bool false := hp 74 (by kernel_rfl)
                      clear hf hp
                      refine stepAt_on 74 false (by kernel_rfl) h74 ?_
                      exact stepOK_pure (.pointer (some (q5.add k))) (execIndexS q5 n1 c1 k hk1 w1 rfl h79 h80) rfl
                    refine ⟨fun t w1 hf hk hp => ?_, ?_⟩
                    · have h81 : slot t 81 = .pointer (some (q5.add k)) := hp 81 (by kernel_rfl)
                      have h74 : slot t 74 = .bool false := hp 74 (by kernel_rfl)
                      clear hf hp
                      refine stepAt_on 74 false (by kernel_rfl) h74 ?_
                      have hq0 := (HS1.out.kept (K7.out.trans hk)).load k hk1
                      exact stepOK_sem (.string (S1 k)) (by simp only [execOp, evS, h81]) hq0 rfl
                    refine ⟨fun t w1 hf hk hp => ?_, ?_⟩
                    · have h78 : slot t 78 = .string (S0 k) := hp 78 (by kernel_rfl)
                      have h82 : slot t 82 = .string (S1 k) := hp 82 (by kernel_rfl)
                      have h74 : slot t 74 = .bool false := hp 74 (by kernel_rfl)
                      clear hf hp
                      refine stepAt_on 74 false (by kernel_rfl) h74 ?_
                      exact stepOK_pure (.bool false) (Eq.trans (execEqSd (S0 k) (S1 k) w1 rfl h78 h82) (by rw [← hE.out])) rfl
                    refine ⟨fun t w1 hf hk hp => ?_, ?_⟩
                    · have h74 : slot t 74 = .bool false := hp 74 (by kernel_rfl)
                      have h83 : slot t 83 = .bool false := hp 83 (by kernel_rfl)
                      clear hf hp
                      refine stepAt_plain rfl ?_
                      refine stepOK_pure (.bool false) ?_ rfl
                      simp only [execOp, evS, h74, h83]
                      go_simp
                    exact trivial
                  · intro t w1 hsz hf hk hfacts
                    have h84 : slot t 84 = .bool false := hfacts 14 _ rfl 84 rfl
                    have h0 : slot t 0 = .slice (some q0) n0 c0 := hf 0 (by kernel_rfl)
                    have h1 : slot t 1 = .slice (some q5) n1 c1 := hf 1 (by kernel_rfl)
                    have h2 : slot t 2 = .int .i64 (k : Int) := hf 2 (by kernel_rfl)
                    have h11 : slot t 11 = .pointer (some ⟨g11, 0, none⟩) := hf 11 (by kernel_rfl)
                    have h12 : slot t 12 = .string a := hf 12 (by kernel_rfl)
                    have h13 : slot t 13 = .string b := hf 13 (by kernel_rfl)
                    have h14 : slot t 14 = .bool true := hf 14 (by kernel_rfl)
                    have harr : t = #[slot t 0, slot t 1, slot t 2, slot t 3, slot t 4, slot t 5, slot t 6, slot t 7, slot t 8, slot t 9, slot t 10, slot t 11, slot t 12, slot t 13, slot t 14, slot t 15, slot t 16, slot t 17, slot t 18, slot t 19, slot t 20, slot t 21, slot t 22, slot t 23, slot t 24, slot t 25, slot t 26, slot t 27, slot t 28, slot t 29, slot t 30, slot t 31, slot t 32, slot t 33, slot t 34, slot t 35, slot t 36, slot t 37, slot t 38, slot t 39, slot t 40, slot t 41, slot t 42, slot t 43, slot t 44, slot t 45, slot t 46, slot t 47, slot t 48, slot t 49, slot t 50, slot t 51, slot t 52, slot t 53, slot t 54, slot t 55, slot t 56, slot t 57, slot t 58, slot t 59, slot t 60, slot t 61, slot t 62, slot t 63, slot t 64, slot t 65, slot t 66, slot t 67, slot t 68, slot t 69, slot t 70, slot t 71, slot t 72, slot t 73, slot t 74, slot t 75, slot t 76, slot t 77, slot t 78, slot t 79, slot t 80, slot t 81, slot t 82, slot t 83, slot t 84, slot t 85, slot t 86, slot t 87, slot t 88, slot t 89, slot t 90, slot t 91, slot t 92, slot t 93, slot t 94, slot t 95, slot t 96, slot t 97, slot t 98] := arr_eq t 99 hsz
                    rw [harr, h84, h0, h1, h2, h11, h12, h13, h14]
                    clear harr hfacts hf h84 h0 h1 h2 h11 h12 h13 h14
                    generalize slot t 3 = x3; generalize slot t 4 = x4; generalize slot t 5 = x5; generalize slot t 6 = x6; generalize slot t 7 = x7; generalize slot t 8 = x8; generalize slot t 9 = x9; generalize slot t 10 = x10; generalize slot t 15 = x15; generalize slot t 16 = x16; generalize slot t 17 = x17; generalize slot t 18 = x18
                    generalize slot t 19 = x19; generalize slot t 20 = x20; generalize slot t 21 = x21; generalize slot t 22 = x22; generalize slot t 23 = x23; generalize slot t 24 = x24; generalize slot t 25 = x25; generalize slot t 26 = x26; generalize slot t 27 = x27; generalize slot t 28 = x28; generalize slot t 29 = x29; generalize slot t 30 = x30
                    generalize slot t 31 = x31; generalize slot t 32 = x32; generalize slot t 33 = x33; generalize slot t 34 = x34; generalize slot t 35 = x35; generalize slot t 36 = x36; generalize slot t 37 = x37; generalize slot t 38 = x38; generalize slot t 39 = x39; generalize slot t 40 = x40; generalize slot t 41 = x41; generalize slot t 42 = x42
                    generalize slot t 43 = x43; generalize slot t 44 = x44; generalize slot t 45 = x45; generalize slot t 46 = x46; generalize slot t 47 = x47; generalize slot t 48 = x48; generalize slot t 49 = x49; generalize slot t 50 = x50; generalize slot t 51 = x51; generalize slot t 52 = x52; generalize slot t 53 = x53; generalize slot t 54 = x54
                    generalize slot t 55 = x55; generalize slot t 56 = x56; generalize slot t 57 = x57; generalize slot t 58 = x58; generalize slot t 59 = x59; generalize slot t 60 = x60; generalize slot t 61 = x61; generalize slot t 62 = x62; generalize slot t 63 = x63; generalize slot t 64 = x64; generalize slot t 65 = x65; generalize slot t 66 = x66
                    generalize slot t 67 = x67; generalize slot t 68 = x68; generalize slot t 69 = x69; generalize slot t 70 = x70; generalize slot t 71 = x71; generalize slot t 72 = x72; generalize slot t 73 = x73; generalize slot t 74 = x74; generalize slot t 75 = x75; generalize slot t 76 = x76; generalize slot t 77 = x77; generalize slot t 78 = x78
                    generalize slot t 79 = x79; generalize slot t 80 = x80; generalize slot t 81 = x81; generalize slot t 82 = x82; generalize slot t 83 = x83; generalize slot t 85 = x85; generalize slot t 86 = x86; generalize slot t 87 = x87; generalize slot t 88 = x88; generalize slot t 89 = x89; generalize slot t 90 = x90; generalize slot t 91 = x91
                    generalize slot t 92 = x92; generalize slot t 93 = x93; generalize slot t 94 = x94; generalize slot t 95 = x95; generalize slot t 96 = x96; generalize slot t 97 = x97; generalize slot t 98 = x98
                    clear hsz t
                    have K8 := Lib.hid (K7.out.trans hk)
                    clear hk K7
                    go_wp2_with fail
                    refine (HIs.out _ (HT.out.kept K8.out)).mono ?_
                    rintro e u9 ⟨rfl, k9⟩
                    have K9 := Lib.hid (K8.out.trans k9)
                    clear k9 K8
                    go_wp2_with fail
                    refine (HA.out _ (HT.out.kept K9.out)).mono ?_
                    rintro e u10 ⟨rfl, k10⟩
                    have K10 := Lib.hid (K9.out.trans k10)
                    clear k10 K9
                    go_wp2_with fail
                    go_ret
                    exact ⟨rfl, K10.out⟩

set_option maxRecDepth 100000 in
set_option maxHeartbeats 1000000 in
theorem lifted (os : Os) (started : os.Started) (H : Type) (enc : TypeId × Value → H) :
    ReturnsInHanded {} Tryd.checked os 5 .any (fun w args => (Rows.clashOpenedSpec.pre enc Tryd.prog Tryd.f5 [] false w args ∧ laidMetH Tryd.prog Rows.clashOpenedRow.laid w) ∧ sizedMet enc Tryd.prog Tryd.f5 (OpenSpec.ofChange Rows.clashOpenedSpec) false w args)
      (Rows.clashOpenedSpec.post enc Tryd.prog Tryd.f5 false true false false) := by
  refine returnsInHanded_of_change_and (C := Tryd.checked) (X := fun w _ => laidMetH Tryd.prog Rows.clashOpenedRow.laid w) (fun _ _ _ hh h => h.of_heap hh) own started (by kernel_rfl) Tryd.func5
    (ChangeSpec.witness_shaped (enc := enc) (C := Tryd.checked) (os := os) (X := fun w _ => laidMetH Tryd.prog Rows.clashOpenedRow.laid w) false (World.doorLaid Tryd.prog 400 os) #[.slice none 0 0, .slice none 0 0, .int .i64 0] 8 rfl (World.shaped_of_RefB (by kernel_rfl) (by kernel_rfl)) (by kernel_rfl) (by kernel_rfl) (by kernel_rfl) (door_met os _)) ?_
  intro W base args ds gs before hval0 hW _ hsz0 hL _
  have hval : ∀ (j : Nat) t v, Tryd.f5.params[j]? = some t → args[j]? = some v → Value.okWide Tryd.prog W .any base t v := hval0
  have hsz : (DataW.weightsEach Tryd.prog (Tryd.f5.params.toList ++ Rows.clashOpenedSpec.plain.varTypes Tryd.prog) (ds ++ gs)).all (· ≤ reachBytes) = true := hsz0
  have hW' := hW
  obtain ⟨p, q, hA0, hV, rfl, hfz, hnd⟩ := hW
  have hA : DataW.TrodAll enc Tryd.prog W 0 (fun _ => true) true Tryd.f5.params.toList args.toList ds p := hA0
  have hAk := hA
  rw [Tryd.params5] at hA hval hsz
  obtain ⟨v0, vs0, d0, ds0, p0_, q0_, hargs, rfl, rfl, h0, r0_⟩ := trodAll_cons hA
  obtain ⟨v1, vs1, d1, ds1, p1_, q1_, rfl, rfl, rfl, h1, r1_⟩ := trodAll_cons r0_
  obtain ⟨v2, vs2, d2, ds2, p2_, q2_, rfl, rfl, rfl, h2, r2_⟩ := trodAll_cons r1_
  obtain ⟨rfl, rfl, rfl⟩ := trodAll_nil r2_
  obtain rfl : args = #[v0, v1, v2] := by cases args; simp_all
  obtain ⟨rfl, rfl⟩ := trodVars_none hV
  have hlt : ∀ x ∈ (p0_ ++ (p1_ ++ (p2_ ++ ([])))), x.block < W.heap.size := fun x hx => by simpa using hW'.lt x (by simpa using hx)
  obtain ⟨p0, n0, c0, S0, z0, rfl, e0, rr0⟩ := open_sslice Tryd.underlying36 Tryd.underlying9 (by kernel_rfl) (hval 0 36 v0 rfl rfl) h0
  obtain ⟨p1, n1, c1, S1, z1, rfl, e1, rr1⟩ := open_sslice Tryd.underlying36 Tryd.underlying9 (by kernel_rfl) (hval 1 36 v1 rfl rfl) h1
  obtain ⟨a2, rfl, rfl, rfl, w2⟩ := open_int Tryd.underlying3 (hval 2 3 v2 rfl rfl) h2
  have r0 := (rr0 hsz (J := 0) rfl rfl).2
  have r1 := (rr1 hsz (J := 1) rfl rfl).2
  clear hA0 hval0
  refine (walk p0 n0 c0 S0 z0 r0 p1 n1 c1 S1 z1 r1 a2 w2 W e0 e1 (tab_of_laid hL)).mono fun e W' ⟨he, hg⟩ => ?_
  subst he
  exact ⟨_, rfl, ⟨_, _, _, [], _, [], hW', trodAll_cons_mk (shut_bool Tryd.underlying4 _) trodAll_mk0, trodAll_stays laidOut hg (by kernel_rfl) hAk hlt (fun x hx => by simpa using hlt x hx), rfl, Kept.frame hg _, fun h => by cases h⟩⟩

theorem over : Rows.clashOpenedRow.holds Tryd.pinned (OpenSpec.ofChange Rows.clashOpenedSpec) :=
  OpenClaim.holds_of_wide 5 Tryd.f5 rfl rfl rfl rfl rfl rfl rfl ⟨rfl, rfl, rfl, rfl, rfl⟩ rfl rfl rfl rfl rfl (by kernel_rfl) Tryd.func5 (by kernel_rfl)
    (of_decide_eq_true (by kernel_rfl)) (by unfold Func.isWrapper; first | (rw [if_pos (by decide +kernel)]; kernel_rfl) | (rw [if_neg (by decide +kernel)]; exact ⟨rfl, rfl⟩))
    (fun os started H enc _ => lifted os started H enc)
end Go.Proofs.YthafohijocidlaaDoor.clashOpened
namespace Go.Proofs.YthafohijocidlaaDoor
theorem clashOpened_holds : Rows.ClashOpenedSaid := clashOpened.over
theorem clashOpened_card : Rows.ClashOpenedCardSaid :=
  Claim7.holds_tied_plain_at .later [] [.data] true (true, "0bff8d42d30ff236f4d1af1c11e02f2c110f2f64fb2728ec241eab8c73aa2bee") false
    clashOpened_holds (fun _ h => by cases h) (by kernel_rfl) (fun _ h => by cases h) clashOpened_row_tie rfl ⟨rfl, rfl⟩ (by kernel_rfl) rfl
    (fun f fn hf hfn => by
      obtain rfl : f = 5 := Option.some.inj ((show Tryd.prog.funcNamed "milepost/milepostlaw15.ClashOpened" = some 5 by kernel_rfl).symm.trans hf) |>.symm
      obtain rfl : fn = Tryd.f5 := (Option.some.inj (Tryd.func5.symm.trans hfn)).symm
      refine ⟨by kernel_rfl, fun j t ht => ?_⟩
      have hm : t ∈ Tryd.f5.params.toList := by simpa using Array.mem_of_getElem? ht
      have hall : (Tryd.f5.params.toList.all fun u => !Tryd.prog.wantsStandIn u) = true := by kernel_rfl
      exact (show Tryd.prog.wantsStandIn t = false by simpa using List.all_eq_true.1 hall t hm))
    (by kernel_rfl)
#print axioms clashOpened_card
end Go.Proofs.YthafohijocidlaaDoor
