/-
  Open of any list and places answers as the reference: an error where the places do not rise, else as many leaves, these places, and the hashes beside them; the law's example holds: 'MultiOpens' returns true for every input.
  Conditions: those of the given card (sha's table of round constants as the program's text lays it).
-/
import Derived.Test.YtggpjhldmaflaaaDoorRows
import Derived.Test.YtggpjhldmaflaaaDoorMultiWalkA
import Derived.Test.YtggpjhldmaflaaaDoorMultiAwake
import Derived.Test.YtggpjhldmaflaaaDoorMultiLaw
import Derived.Test.YtggpjhldmaflaaaDoorLawLibH
import Derived.Test.YtggpjhldmaflaaaDoorLateLib
import Derived.WalkKit
import Derived.ProofKit
import Derived.OpenShut
import Derived.ShutString
import Derived.SizedLaws
import Derived.Test.YtggpjhldmaflaaaDoorBas
import Derived.LaidMore
import Derived.SevenTiedAt
import Derived.Test.YtggpjhldmaflaaaDoorCards
import Derived.Test.YtggpjhldmaflaaaDoorTie
import Derived.Test.YtggpjhldmaflaaaDoorShb
namespace Go.Proofs.YtggpjhldmaflaaaDoor.multiOpens
open Go.ChangeShapes Go.WideShapes Go.ChangeAt Go.RowKit
open Go.ChangeMaps (open_string shut_string)
set_option linter.unusedVariables false

theorem own : ownKnob Tryd.prog.godebug = none := by kernel_rfl
theorem laidOut : laidOutB Tryd.prog = true := by kernel_rfl

set_option maxRecDepth 100000 in
set_option maxHeartbeats 4000000 in
theorem walk (p0 : Option Addr) (n0 c0 : Nat) (S0 : Nat → ByteArray) (z0 : n0 ≤ c0 ∧ c0 ≤ maxLen) (r0 : ∀ i, i < n0 → (S0 i).size ≤ 140737488351232) (p1 : Option Addr) (n1 c1 : Nat) (I1 : Nat → Int) (z1 : n1 ≤ c1 ∧ c1 ≤ maxLen) (y1 : ∀ i, i < n1 → (Lit.int .i64 (I1 i)).wf = true) (w : World) (e0 : SAt w p0 n0 S0) (e1 : IAt w p1 n1 I1) (hT : Tab w) :
    Calls Tryd.prog 3 #[.slice p0 n0 c0, .slice p1 n1 c1] w fun e w' => e = .returned (.bool true) ∧ Kept w w' := by
  have HM0 := Lib.hid (much12_any p0 n0 c0 S0 w e0 r0 (by unfold maxLen at z0; omega))
  have HT := Lib.hid hT
  have HS := Lib.hid e0
  have HI := Lib.hid e1
  have HA : Hid (∀ w, _) := Lib.hid fun w => awake16_any w
  clear e0 e1 r0 hT y1
  go_enter Tryd.func3, Tryd.ntmps3
  go_wp2_with fail
  refine HM0.out.mono ?_
  rintro e u0 ⟨B, rfl, rfl, hB⟩
  cases B with
  | true =>
    go_wp2_with fail
    refine (HA.out w).mono ?_
    rintro e u1 ⟨rfl, k1⟩
    have K1 := Lib.hid k1
    clear k1
    go_wp2_with fail
    go_ret
    exact ⟨rfl, K1.out⟩
  | false =>
    obtain ⟨hn0, hz0⟩ := hB rfl
    clear hB HM0
    by_cases hn1 : 200 < n1
    · have hd1 : decide ((n1 : Int) > 200) = true := decide_eq_true (by omega)
      have hd1' : decide ((200 : Int) < (n1 : Int)) = true := decide_eq_true (by omega)
      go_wp2_with fail
      refine (HA.out w).mono ?_
      rintro e u1 ⟨rfl, k1⟩
      have K1 := Lib.hid k1
      clear k1
      go_wp2_with fail
      go_ret
      exact ⟨rfl, K1.out⟩
    · have hd1 : decide ((n1 : Int) > 200) = false := decide_eq_false (by omega)
      have hd1' : decide ((200 : Int) < (n1 : Int)) = false := decide_eq_false (by omega)
      have hz0' : ∀ i, i < n0 → (S0 i).size ≤ 1000000 := fun i hi => Nat.le_trans (hz0 i hi) (by omega)
      have HO := Lib.hid (multiOpen_any p0 n0 c0 S0 p1 n1 c1 I1 w HS.out z0.1 z0.2 hz0' (by omega) HI.out z1.1 z1.2 (by omega) HT.out)
      have HR : Hid (∀ w, IAt w p1 n1 I1 → _) := Lib.hid fun w h => refRising_any (n0 : Int) p1 n1 c1 I1 w h (by omega)
      by_cases hr : risP (n0 : Int) n1 I1
      · obtain ⟨n', hn', hpos⟩ := risP_nat hr
        have HBs : Hid (∀ v w, HSl n0 (lf S0) v w → IAt w p1 n1 I1 → Calls Tryd.prog 12 #[v, .slice p1 n1 c1, .int .i64 0, .int .i64 (n0 : Int)] w fun e w' => ∃ u, e = .returned u ∧ HSl (besN (lf S0) (qP n1 I1) 0 n0).length (lh (besN (lf S0) (qP n1 I1) 0 n0)) u w' ∧ Kept w w') := Lib.hid fun v w hv h => by
          refine (refBeside_any n0 v n0 (lf S0) p1 n1 c1 I1 0 n0 w hv (by omega) h (by omega) (by omega) (by omega) (Nat.le_refl _)).mono ?_
          rintro e w' ⟨u, rfl, hu, hk⟩
          exact ⟨u, rfl, hu.hsl (besN_32 _ _ _ _ fun j _ _ => lf_length S0 j), hk⟩
        have HL : Hid (∀ w, SAt w p0 n0 S0 → _) := Lib.hid fun w h => refLeaves_at p0 n0 c0 S0 w h hz0' (by omega)
        have e1 : mkC n0 n1 I1 = (n0 : Int) := if_pos hr
        have e2 : mkK n0 n1 I1 = n1 := if_pos hr
        have e3 : mkL S0 n0 n1 I1 = besN (lf S0) (qP n1 I1) 0 n0 := if_pos hr
        have e4 : mkE n0 n1 I1 = 0 := if_pos hr
        rw [e1, e2, e3, e4] at HO
        rw [decide_eq_true hr] at HR
        generalize besN (lf S0) (qP n1 I1) 0 n0 = L at HO HBs
        have HHs : Hid (∀ v u w, HSl L.length (lh L) v w → HSl L.length (lh L) u w → Calls Tryd.prog 11 #[v, u] w fun e w' => e = .returned (.bool true) ∧ Kept w w') := Lib.hid fun v u w hv hu => by
          refine (refHashes_any L.length L.length (lh L) (lh L) v u w hv hu).mono ?_
          rintro e w' ⟨B, rfl, hB, hk⟩
          have : B = true := hB.2 ⟨rfl, fun _ _ => rfl⟩
          subst this
          exact ⟨rfl, hk⟩
        have hee : ((n0 : Int) != (n0 : Int)) = false := by simp
        have hee1 : ((n1 : Int) != (n1 : Int)) = false := by simp
        clear hr hn' hpos e1 e2 e3 e4 hz0 hz0' hn0
        go_wp2_with fail
        refine HO.out.mono ?_
        rintro e u1 ⟨pp, pc, q, qc, rfl, ⟨hpc, hpm⟩, hI, hH, k1⟩
        have J1 := Lib.hid hI
        have Y1 := Lib.hid hH
        have K1 := Lib.hid k1
        clear hI hH k1 HO
        go_wp2_with (refine wpList_store_made rfl 28 _ _ rfl _ _ #[.int .i64 (n0 : Int), .slice pp n1 pc, .slice q L.length qc] rfl rfl 28 _ rfl (manyR_size _ _ _) rfl (manyR_one _ _ _ _ _ _ _) ?_; intro u2 R5 k2)
        obtain ⟨g5, hg5⟩ : ∃ g, g = u1.heap.size := ⟨_, rfl⟩
        rw [← hg5] at R5 ⊢
        clear hg5
        have J2 := Lib.hid (J1.out.kept k2.out)
        have Y2 := Lib.hid (HSl.kept _ _ _ _ _ k2.out Y1.out)
        have K2 := Lib.hid (K1.out.trans k2.out)
        clear k2 J1 Y1 K1
        refine (HR.out u2 (HI.out.kept K2.out)).mono ?_
        rintro e u3 ⟨rfl, k3⟩
        have J3 := Lib.hid (J2.out.kept k3)
        have Y3 := Lib.hid (HSl.kept _ _ _ _ _ k3 Y2.out)
        have R6 := Lib.hid (R5.out.kept k3)
        have K3 := Lib.hid (K2.out.trans k3)
        clear k3 J2 Y2 K2 R5 HR
        have f0 := R6.out.cell 0
        have f1 := R6.out.cell 1
        go_wp2_with fail
        clear f0 f1
        go_loopw [7] (fun i wr => ∃ k : Nat, k ≤ n1 ∧ i = .int .i64 k ∧ Hid (Kept u3 wr)) (fun i _ => n1 - (intOf i).toNat)
        case atStart => exact ⟨0, by omega, rfl, Lib.hid (Kept.refl _)⟩
        case round =>
          obtain ⟨k, hk, rfl, HK⟩ := hrel
          by_cases hlt : k < n1
          · have hd2 : decide ((k : Int) < (n1 : Int)) = true := decide_eq_true (by omega)
            have hd2' : decide (k < n1) = true := decide_eq_true hlt
            obtain ⟨qp, rfl, _⟩ := J3.out.some (by omega)
            obtain ⟨qi, rfl, _⟩ := HI.out.some (by omega)
            go_wp2_with fail
            refine wp_region_table [(72, .is (.pointer (some ⟨g5, 1, none⟩))), (73, .is (.slice (some qp) n1 pc)), (74, .is (.int .i64 (k : Int))), (75, .is (.pointer (some (qp.add k)))), (76, .is (.int .i64 (I1 k))), (77, .is (.slice (some qi) n1 c1)), (78, .is (.int .i64 (k : Int))), (79, .is (.pointer (some (qi.add k)))), (80, .is (.int .i64 (I1 k))), (81, .is (.bool false))] (by kernel_rfl) (by kernel_rfl) ?_ ?_
            · refine ⟨fun t w1 hf hk hp => ?_, ?_⟩
              · have h5 : slot t 5 = .pointer (some ⟨g5, 0, none⟩) := hf 5 (by kernel_rfl)
                clear hf hp
                refine stepAt_plain rfl ?_
                exact stepOK_pure (.pointer (some ⟨g5, 1, none⟩)) (execFieldM g5 1 (by omega) w1 rfl h5) rfl
              refine ⟨fun t w1 hf hk hp => ?_, ?_⟩
              · have h72 : slot t 72 = .pointer (some ⟨g5, 1, none⟩) := hp 72 (by kernel_rfl)
                clear hf hp
                refine stepAt_plain rfl ?_
                have hq0 := run_loadIs ((R6.out.kept (HK.out.trans hk)).cell 1)
                exact stepOK_sem (.slice (some qp) n1 pc) (by simp only [execOp, evS, h72]) hq0 rfl
              refine ⟨fun t w1 hf hk hp => ?_, ?_⟩
              · have h7 : slot t 7 = .int .i64 (k : Int) := hf 7 (by kernel_rfl)
                clear hf hp
                refine stepAt_plain rfl ?_
                exact stepOK_move _ (.inl rfl) h7
              refine ⟨fun t w1 hf hk hp => ?_, ?_⟩
              · have h73 : slot t 73 = .slice (some qp) n1 pc := hp 73 (by kernel_rfl)
                have h74 : slot t 74 = .int .i64 (k : Int) := hp 74 (by kernel_rfl)
                clear hf hp
                refine stepAt_plain rfl ?_
                exact stepOK_pure (.pointer (some (qp.add k))) (execIndexI qp n1 pc k hlt w1 rfl h73 h74) rfl
              refine ⟨fun t w1 hf hk hp => ?_, ?_⟩
              · have h75 : slot t 75 = .pointer (some (qp.add k)) := hp 75 (by kernel_rfl)
                clear hf hp
                refine stepAt_plain rfl ?_
                have hq0 := run_loadI ((J3.out.kept (HK.out.trans hk)).cell k hlt)
                exact stepOK_sem (.int .i64 (I1 k)) (by simp only [execOp, evS, h75]) hq0 rfl
              refine ⟨fun t w1 hf hk hp => ?_, ?_⟩
              · have h1 : slot t 1 = .slice (some qi) n1 c1 := hf 1 (by kernel_rfl)
                clear hf hp
                refine stepAt_plain rfl ?_
                exact stepOK_move _ (.inl rfl) h1
              refine ⟨fun t w1 hf hk hp => ?_, ?_⟩
              · have h7 : slot t 7 = .int .i64 (k : Int) := hf 7 (by kernel_rfl)
                clear hf hp
                refine stepAt_plain rfl ?_
                exact stepOK_move _ (.inl rfl) h7
              refine ⟨fun t w1 hf hk hp => ?_, ?_⟩
              · have h77 : slot t 77 = .slice (some qi) n1 c1 := hp 77 (by kernel_rfl)
                have h78 : slot t 78 = .int .i64 (k : Int) := hp 78 (by kernel_rfl)
                clear hf hp
                refine stepAt_plain rfl ?_
                exact stepOK_pure (.pointer (some (qi.add k))) (execIndexI qi n1 c1 k hlt w1 rfl h77 h78) rfl
              refine ⟨fun t w1 hf hk hp => ?_, ?_⟩
              · have h79 : slot t 79 = .pointer (some (qi.add k)) := hp 79 (by kernel_rfl)
                clear hf hp
                refine stepAt_plain rfl ?_
                have hq0 := run_loadI ((HI.out.kept (K3.out.trans (HK.out.trans hk))).cell k hlt)
                exact stepOK_sem (.int .i64 (I1 k)) (by simp only [execOp, evS, h79]) hq0 rfl
              refine ⟨fun t w1 hf hk hp => ?_, ?_⟩
              · have h76 : slot t 76 = .int .i64 (I1 k) := hp 76 (by kernel_rfl)
                have h80 : slot t 80 = .int .i64 (I1 k) := hp 80 (by kernel_rfl)
                clear hf hp
                refine stepAt_plain rfl ?_
                exact stepOK_pure (.bool false) (Eq.trans (execNeI (I1 k) (I1 k) w1 rfl h76 h80) (by simp)) rfl
              exact trivial
            · intro t w1 hsz hf hk hfacts
              have h81 : slot t 81 = .bool false := hfacts 9 _ rfl 81 rfl
              have h1 : slot t 1 = .slice (some qi) n1 c1 := hf 1 (by kernel_rfl)
              have h5 : slot t 5 = .pointer (some ⟨g5, 0, none⟩) := hf 5 (by kernel_rfl)
              have h7 : slot t 7 = .int .i64 (k : Int) := hf 7 (by kernel_rfl)
              have h0 := hf 0 (by kernel_rfl)
              conv at h0 => rhs; whnf
              try change slot t 0 = undef at h0
              have h2 := hf 2 (by kernel_rfl)
              conv at h2 => rhs; whnf
              try change slot t 2 = undef at h2
              have h3 := hf 3 (by kernel_rfl)
              conv at h3 => rhs; whnf
              try change slot t 3 = undef at h3
              have h4 := hf 4 (by kernel_rfl)
              conv at h4 => rhs; whnf
              try change slot t 4 = undef at h4
              have h6 := hf 6 (by kernel_rfl)
              conv at h6 => rhs; whnf
              try change slot t 6 = undef at h6
              have h8 := hf 8 (by kernel_rfl)
              conv at h8 => rhs; whnf
              try change slot t 8 = undef at h8
              have h9 := hf 9 (by kernel_rfl)
              conv at h9 => rhs; whnf
              try change slot t 9 = undef at h9
              have h10 := hf 10 (by kernel_rfl)
              conv at h10 => rhs; whnf
              try change slot t 10 = undef at h10
              have h11 := hf 11 (by kernel_rfl)
              conv at h11 => rhs; whnf
              try change slot t 11 = undef at h11
              have h12 := hf 12 (by kernel_rfl)
              conv at h12 => rhs; whnf
              try change slot t 12 = undef at h12
              have h13 := hf 13 (by kernel_rfl)
              conv at h13 => rhs; whnf
              try change slot t 13 = undef at h13
              have h14 := hf 14 (by kernel_rfl)
              conv at h14 => rhs; whnf
              try change slot t 14 = undef at h14
              have h15 := hf 15 (by kernel_rfl)
              conv at h15 => rhs; whnf
              try change slot t 15 = undef at h15
              have h16 := hf 16 (by kernel_rfl)
              conv at h16 => rhs; whnf
              try change slot t 16 = undef at h16
              have h17 := hf 17 (by kernel_rfl)
              conv at h17 => rhs; whnf
              try change slot t 17 = undef at h17
              have h18 := hf 18 (by kernel_rfl)
              conv at h18 => rhs; whnf
              try change slot t 18 = undef at h18
              have h19 := hf 19 (by kernel_rfl)
              conv at h19 => rhs; whnf
              try change slot t 19 = undef at h19
              have h20 := hf 20 (by kernel_rfl)
              conv at h20 => rhs; whnf
              try change slot t 20 = undef at h20
              have h21 := hf 21 (by kernel_rfl)
              conv at h21 => rhs; whnf
              try change slot t 21 = undef at h21
              have h22 := hf 22 (by kernel_rfl)
              conv at h22 => rhs; whnf
              try change slot t 22 = undef at h22
              have h23 := hf 23 (by kernel_rfl)
              conv at h23 => rhs; whnf
              try change slot t 23 = undef at h23
              have h24 := hf 24 (by kernel_rfl)
              conv at h24 => rhs; whnf
              try change slot t 24 = undef at h24
              have h25 := hf 25 (by kernel_rfl)
              conv at h25 => rhs; whnf
              try change slot t 25 = undef at h25
              have h26 := hf 26 (by kernel_rfl)
              conv at h26 => rhs; whnf
              try change slot t 26 = undef at h26
              have h27 := hf 27 (by kernel_rfl)
              conv at h27 => rhs; whnf
              try change slot t 27 = undef at h27
              have h28 := hf 28 (by kernel_rfl)
              conv at h28 => rhs; whnf
              try change slot t 28 = undef at h28
              have h29 := hf 29 (by kernel_rfl)
              conv at h29 => rhs; whnf
              try change slot t 29 = undef at h29
              have h30 := hf 30 (by kernel_rfl)
              conv at h30 => rhs; whnf
              try change slot t 30 = undef at h30
              have h31 := hf 31 (by kernel_rfl)
              conv at h31 => rhs; whnf
              try change slot t 31 = undef at h31
              have h32 := hf 32 (by kernel_rfl)
              conv at h32 => rhs; whnf
              try change slot t 32 = undef at h32
              have h33 := hf 33 (by kernel_rfl)
              conv at h33 => rhs; whnf
              try change slot t 33 = undef at h33
              have h34 := hf 34 (by kernel_rfl)
              conv at h34 => rhs; whnf
              try change slot t 34 = undef at h34
              have h35 := hf 35 (by kernel_rfl)
              conv at h35 => rhs; whnf
              try change slot t 35 = undef at h35
              have h36 := hf 36 (by kernel_rfl)
              conv at h36 => rhs; whnf
              try change slot t 36 = undef at h36
              have h37 := hf 37 (by kernel_rfl)
              conv at h37 => rhs; whnf
              try change slot t 37 = undef at h37
              have h38 := hf 38 (by kernel_rfl)
              conv at h38 => rhs; whnf
              try change slot t 38 = undef at h38
              have h39 := hf 39 (by kernel_rfl)
              conv at h39 => rhs; whnf
              try change slot t 39 = undef at h39
              have h40 := hf 40 (by kernel_rfl)
              conv at h40 => rhs; whnf
              try change slot t 40 = undef at h40
              have h41 := hf 41 (by kernel_rfl)
              conv at h41 => rhs; whnf
              try change slot t 41 = undef at h41
              have h42 := hf 42 (by kernel_rfl)
              conv at h42 => rhs; whnf
              try change slot t 42 = undef at h42
              have h43 := hf 43 (by kernel_rfl)
              conv at h43 => rhs; whnf
              try change slot t 43 = undef at h43
              have h44 := hf 44 (by kernel_rfl)
              conv at h44 => rhs; whnf
              try change slot t 44 = undef at h44
              have h45 := hf 45 (by kernel_rfl)
              conv at h45 => rhs; whnf
              try change slot t 45 = undef at h45
              have h46 := hf 46 (by kernel_rfl)
              conv at h46 => rhs; whnf
              try change slot t 46 = undef at h46
              have h47 := hf 47 (by kernel_rfl)
              conv at h47 => rhs; whnf
              try change slot t 47 = undef at h47
              have h48 := hf 48 (by kernel_rfl)
              conv at h48 => rhs; whnf
              try change slot t 48 = undef at h48
              have h49 := hf 49 (by kernel_rfl)
              conv at h49 => rhs; whnf
              try change slot t 49 = undef at h49
              have h50 := hf 50 (by kernel_rfl)
              conv at h50 => rhs; whnf
              try change slot t 50 = undef at h50
              have h51 := hf 51 (by kernel_rfl)
              conv at h51 => rhs; whnf
              try change slot t 51 = undef at h51
              have h52 := hf 52 (by kernel_rfl)
              conv at h52 => rhs; whnf
              try change slot t 52 = undef at h52
              have h53 := hf 53 (by kernel_rfl)
              conv at h53 => rhs; whnf
              try change slot t 53 = undef at h53
              have h54 := hf 54 (by kernel_rfl)
              conv at h54 => rhs; whnf
              try change slot t 54 = undef at h54
              have h55 := hf 55 (by kernel_rfl)
              conv at h55 => rhs; whnf
              try change slot t 55 = undef at h55
              have h56 := hf 56 (by kernel_rfl)
              conv at h56 => rhs; whnf
              try change slot t 56 = undef at h56
              have h57 := hf 57 (by kernel_rfl)
              conv at h57 => rhs; whnf
              try change slot t 57 = undef at h57
              have h58 := hf 58 (by kernel_rfl)
              conv at h58 => rhs; whnf
              try change slot t 58 = undef at h58
              have h59 := hf 59 (by kernel_rfl)
              conv at h59 => rhs; whnf
              try change slot t 59 = undef at h59
              have h60 := hf 60 (by kernel_rfl)
              conv at h60 => rhs; whnf
              try change slot t 60 = undef at h60
              have h61 := hf 61 (by kernel_rfl)
              conv at h61 => rhs; whnf
              try change slot t 61 = undef at h61
              have h62 := hf 62 (by kernel_rfl)
              conv at h62 => rhs; whnf
              try change slot t 62 = undef at h62
              have h63 := hf 63 (by kernel_rfl)
              conv at h63 => rhs; whnf
              try change slot t 63 = undef at h63
              have h64 := hf 64 (by kernel_rfl)
              conv at h64 => rhs; whnf
              try change slot t 64 = undef at h64
              have h65 := hf 65 (by kernel_rfl)
              conv at h65 => rhs; whnf
              try change slot t 65 = undef at h65
              have h66 := hf 66 (by kernel_rfl)
              conv at h66 => rhs; whnf
              try change slot t 66 = undef at h66
              have h67 := hf 67 (by kernel_rfl)
              conv at h67 => rhs; whnf
              try change slot t 67 = undef at h67
              have h68 := hf 68 (by kernel_rfl)
              conv at h68 => rhs; whnf
              try change slot t 68 = undef at h68
              have h69 := hf 69 (by kernel_rfl)
              conv at h69 => rhs; whnf
              try change slot t 69 = undef at h69
              have h70 := hf 70 (by kernel_rfl)
              conv at h70 => rhs; whnf
              try change slot t 70 = undef at h70
              have h71 := hf 71 (by kernel_rfl)
              conv at h71 => rhs; whnf
              try change slot t 71 = undef at h71
              have h82 := hf 82 (by kernel_rfl)
              conv at h82 => rhs; whnf
              try change slot t 82 = undef at h82
              have h83 := hf 83 (by kernel_rfl)
              conv at h83 => rhs; whnf
              try change slot t 83 = undef at h83
              have h84 := hf 84 (by kernel_rfl)
              conv at h84 => rhs; whnf
              try change slot t 84 = undef at h84
              have h85 := hf 85 (by kernel_rfl)
              conv at h85 => rhs; whnf
              try change slot t 85 = undef at h85
              have h86 := hf 86 (by kernel_rfl)
              conv at h86 => rhs; whnf
              try change slot t 86 = undef at h86
              have h87 := hf 87 (by kernel_rfl)
              conv at h87 => rhs; whnf
              try change slot t 87 = undef at h87
              have h88 := hf 88 (by kernel_rfl)
              conv at h88 => rhs; whnf
              try change slot t 88 = undef at h88
              have h89 := hf 89 (by kernel_rfl)
              conv at h89 => rhs; whnf
              try change slot t 89 = undef at h89
              have h90 := hf 90 (by kernel_rfl)
              conv at h90 => rhs; whnf
              try change slot t 90 = undef at h90
              have h91 := hf 91 (by kernel_rfl)
              conv at h91 => rhs; whnf
              try change slot t 91 = undef at h91
              have h92 := hf 92 (by kernel_rfl)
              conv at h92 => rhs; whnf
              try change slot t 92 = undef at h92
              have h93 := hf 93 (by kernel_rfl)
              conv at h93 => rhs; whnf
              try change slot t 93 = undef at h93
              have harr : t = #[slot t 0, slot t 1, slot t 2, slot t 3, slot t 4, slot t 5, slot t 6, slot t 7, slot t 8, slot t 9, slot t 10, slot t 11, slot t 12, slot t 13, slot t 14, slot t 15, slot t 16, slot t 17, slot t 18, slot t 19, slot t 20, slot t 21, slot t 22, slot t 23, slot t 24, slot t 25, slot t 26, slot t 27, slot t 28, slot t 29, slot t 30, slot t 31, slot t 32, slot t 33, slot t 34, slot t 35, slot t 36, slot t 37, slot t 38, slot t 39, slot t 40, slot t 41, slot t 42, slot t 43, slot t 44, slot t 45, slot t 46, slot t 47, slot t 48, slot t 49, slot t 50, slot t 51, slot t 52, slot t 53, slot t 54, slot t 55, slot t 56, slot t 57, slot t 58, slot t 59, slot t 60, slot t 61, slot t 62, slot t 63, slot t 64, slot t 65, slot t 66, slot t 67, slot t 68, slot t 69, slot t 70, slot t 71, slot t 72, slot t 73, slot t 74, slot t 75, slot t 76, slot t 77, slot t 78, slot t 79, slot t 80, slot t 81, slot t 82, slot t 83, slot t 84, slot t 85, slot t 86, slot t 87, slot t 88, slot t 89, slot t 90, slot t 91, slot t 92, slot t 93] := arr_eq t 94 hsz
              rw [harr, h81, h1, h5, h7, h0, h2, h3, h4, h6, h8, h9, h10, h11, h12, h13, h14, h15, h16, h17, h18, h19, h20, h21, h22, h23, h24, h25, h26, h27, h28, h29, h30, h31, h32, h33, h34, h35, h36, h37, h38, h39, h40, h41, h42, h43, h44, h45, h46, h47, h48, h49, h50, h51, h52, h53, h54, h55, h56, h57, h58, h59, h60, h61, h62, h63, h64, h65, h66, h67, h68, h69, h70, h71, h82, h83, h84, h85, h86, h87, h88, h89, h90, h91, h92, h93]
              clear harr hfacts hf h81 h1 h5 h7 h0 h2 h3 h4 h6 h8 h9 h10 h11 h12 h13 h14 h15 h16 h17 h18 h19 h20 h21 h22 h23 h24 h25 h26 h27 h28 h29 h30 h31 h32 h33 h34 h35 h36 h37 h38 h39 h40 h41 h42 h43 h44 h45 h46 h47 h48 h49 h50 h51 h52 h53 h54 h55 h56 h57 h58 h59 h60 h61 h62 h63 h64 h65 h66 h67 h68 h69 h70 h71 h82 h83 h84 h85 h86 h87 h88 h89 h90 h91 h92 h93
              generalize slot t 72 = x72; generalize slot t 73 = x73; generalize slot t 74 = x74; generalize slot t 75 = x75; generalize slot t 76 = x76; generalize slot t 77 = x77; generalize slot t 78 = x78; generalize slot t 79 = x79; generalize slot t 80 = x80
              clear hsz t
              have HK1 := Lib.hid (HK.out.trans hk)
              clear hk HK
              go_wp2_with fail
              go_roundw
              case rel => exact ⟨k + 1, by omega, by go_num, HK1⟩
              case measure => simp [intOf]; omega
          · have hd2 : decide ((k : Int) < (n1 : Int)) = false := decide_eq_false (by omega)
            have hd2' : decide (k < n1) = false := decide_eq_false hlt
            obtain rfl : k = n1 := by omega
            go_wp2_with fail
            obtain ⟨v1, hv1⟩ : ∃ v, v = wr := ⟨_, rfl⟩
            subst hv1
            refine wp_region_table [(82, .is (.pointer (some ⟨g5, 2, none⟩))), (83, .is (.slice q L.length qc)), (84, .is (.slice p0 n0 c0)), (85, .such (HSl n0 (lf S0)) (HSl.kept n0 (lf S0))), (86, .is (.slice p1 k c1)), (87, .is (.slice p0 n0 c0)), (88, .is (.int .i64 (n0 : Int))), (89, .such (HSl L.length (lh L)) (HSl.kept L.length (lh L))), (90, .is (.bool true)), (91, .is (.bool true)), (92, .is (.bool true)), (93, .is (.bool true)), (4, .is (.bool true))] (by kernel_rfl) (by kernel_rfl) ?_ ?_
            · refine ⟨fun t w1 hf hk hp => ?_, ?_⟩
              · have h5 : slot t 5 = .pointer (some ⟨g5, 0, none⟩) := hf 5 (by kernel_rfl)
                clear hf hp
                refine stepAt_plain rfl ?_
                exact stepOK_pure (.pointer (some ⟨g5, 2, none⟩)) (execFieldM g5 2 (by omega) w1 rfl h5) rfl
              refine ⟨fun t w1 hf hk hp => ?_, ?_⟩
              · have h82 : slot t 82 = .pointer (some ⟨g5, 2, none⟩) := hp 82 (by kernel_rfl)
                clear hf hp
                refine stepAt_plain rfl ?_
                have hq0 := run_loadHs ((R6.out.kept (HK.out.trans hk)).cell 2)
                exact stepOK_sem (.slice q L.length qc) (by simp only [execOp, evS, h82]) hq0 rfl
              refine ⟨fun t w1 hf hk hp => ?_, ?_⟩
              · have h0 : slot t 0 = .slice p0 n0 c0 := hf 0 (by kernel_rfl)
                clear hf hp
                refine stepAt_plain rfl ?_
                exact stepOK_move _ (.inl rfl) h0
              refine ⟨fun t w1 hf hk hp => ?_, ?_⟩
              · have h84 : slot t 84 = .slice p0 n0 c0 := hp 84 (by kernel_rfl)
                clear hf hp
                refine stepAt_plain rfl ?_
                refine stepOK_call #[.slice p0 n0 c0] rfl (by simp only [List.map_toArray, List.map_cons, List.map_nil, evS, h84]) (by go_simp) ((HL.out w1 (HS.out.kept (K3.out.trans (HK.out.trans hk)))).mono fun e w' ⟨v, he, hpv, hk'⟩ => ⟨v, he, hk', hpv⟩)
              refine ⟨fun t w1 hf hk hp => ?_, ?_⟩
              · have h1 : slot t 1 = .slice p1 k c1 := hf 1 (by kernel_rfl)
                clear hf hp
                refine stepAt_plain rfl ?_
                exact stepOK_move _ (.inl rfl) h1
              refine ⟨fun t w1 hf hk hp => ?_, ?_⟩
              · have h0 : slot t 0 = .slice p0 n0 c0 := hf 0 (by kernel_rfl)
                clear hf hp
                refine stepAt_plain rfl ?_
                exact stepOK_move _ (.inl rfl) h0
              refine ⟨fun t w1 hf hk hp => ?_, ?_⟩
              · have h87 : slot t 87 = .slice p0 n0 c0 := hp 87 (by kernel_rfl)
                clear hf hp
                refine stepAt_plain rfl ?_
                exact stepOK_pure (.int .i64 (n0 : Int)) (execLenStrs w1 rfl h87) rfl
              refine ⟨fun t w1 hf hk hp => ?_, ?_⟩
              · obtain ⟨v85, h85, p85⟩ : ∃ v, slot t 85 = v ∧ (HSl n0 (lf S0)) v w1 := ⟨_, rfl, hp 85 (by kernel_rfl)⟩
                have h86 : slot t 86 = .slice p1 k c1 := hp 86 (by kernel_rfl)
                have h88 : slot t 88 = .int .i64 (n0 : Int) := hp 88 (by kernel_rfl)
                clear hf hp
                refine stepAt_plain rfl ?_
                refine stepOK_call #[v85, .slice p1 k c1, .int .i64 0, .int .i64 (n0 : Int)] rfl (by simp only [List.map_toArray, List.map_cons, List.map_nil, evS, h85, h86, h88]) (by go_simp) ((HBs.out v85 w1 p85 (HI.out.kept (K3.out.trans (HK.out.trans hk)))).mono fun e w' ⟨v, he, hpv, hk'⟩ => ⟨v, he, hk', hpv⟩)
              refine ⟨fun t w1 hf hk hp => ?_, ?_⟩
              · have h83 : slot t 83 = .slice q L.length qc := hp 83 (by kernel_rfl)
                obtain ⟨v89, h89, p89⟩ : ∃ v, slot t 89 = v ∧ (HSl L.length (lh L)) v w1 := ⟨_, rfl, hp 89 (by kernel_rfl)⟩
                clear hf hp
                refine stepAt_plain rfl ?_
                refine stepOK_call #[.slice q L.length qc, v89] rfl (by simp only [List.map_toArray, List.map_cons, List.map_nil, evS, h83, h89]) (by go_simp) ((HHs.out (.slice q L.length qc) v89 w1 (HSl.kept _ _ _ _ _ (HK.out.trans hk) Y3.out) p89).mono fun e w' ⟨he, hk'⟩ => ⟨_, he, hk', rfl⟩)
              refine ⟨fun t w1 hf hk hp => ?_, ?_⟩
              · have h90 : slot t 90 = .bool true := hp 90 (by kernel_rfl)
                clear hf hp
                refine stepAt_plain rfl ?_
                exact stepOK_move _ (.inl rfl) h90
              refine ⟨fun t w1 hf hk hp => ?_, ?_⟩
              · have h91 : slot t 91 = .bool true := hp 91 (by kernel_rfl)
                clear hf hp
                refine stepAt_on 91 true (by kernel_rfl) h91 ?_
                refine stepOK_call #[] rfl (by simp only [List.map_toArray, List.map_nil]) (by go_simp) ((HA.out w1).mono fun e w' ⟨he, hk'⟩ => ⟨_, he, hk', rfl⟩)
              refine ⟨fun t w1 hf hk hp => ?_, ?_⟩
              · have h91 : slot t 91 = .bool true := hp 91 (by kernel_rfl)
                have h92 : slot t 92 = .bool true := hp 92 (by kernel_rfl)
                clear hf hp
                refine stepAt_plain rfl ?_
                refine stepOK_pure (.bool true) ?_ rfl
                simp only [execOp, evS, h91, h92]
                go_simp
              refine ⟨fun t w1 hf hk hp => ?_, ?_⟩
              · have h93 : slot t 93 = .bool true := hp 93 (by kernel_rfl)
                clear hf hp
                refine stepAt_plain rfl ?_
                exact stepOK_move _ (.inr rfl) h93
              exact trivial
            · intro t w1 hsz hf hk hfacts
              have h4 : slot t 4 = .bool true := hfacts 12 _ rfl 4 rfl
              have h0 : slot t 0 = .slice p0 n0 c0 := hf 0 (by kernel_rfl)
              have h1 : slot t 1 = .slice p1 k c1 := hf 1 (by kernel_rfl)
              have h5 : slot t 5 = .pointer (some ⟨g5, 0, none⟩) := hf 5 (by kernel_rfl)
              have harr : t = #[slot t 0, slot t 1, slot t 2, slot t 3, slot t 4, slot t 5, slot t 6, slot t 7, slot t 8, slot t 9, slot t 10, slot t 11, slot t 12, slot t 13, slot t 14, slot t 15, slot t 16, slot t 17, slot t 18, slot t 19, slot t 20, slot t 21, slot t 22, slot t 23, slot t 24, slot t 25, slot t 26, slot t 27, slot t 28, slot t 29, slot t 30, slot t 31, slot t 32, slot t 33, slot t 34, slot t 35, slot t 36, slot t 37, slot t 38, slot t 39, slot t 40, slot t 41, slot t 42, slot t 43, slot t 44, slot t 45, slot t 46, slot t 47, slot t 48, slot t 49, slot t 50, slot t 51, slot t 52, slot t 53, slot t 54, slot t 55, slot t 56, slot t 57, slot t 58, slot t 59, slot t 60, slot t 61, slot t 62, slot t 63, slot t 64, slot t 65, slot t 66, slot t 67, slot t 68, slot t 69, slot t 70, slot t 71, slot t 72, slot t 73, slot t 74, slot t 75, slot t 76, slot t 77, slot t 78, slot t 79, slot t 80, slot t 81, slot t 82, slot t 83, slot t 84, slot t 85, slot t 86, slot t 87, slot t 88, slot t 89, slot t 90, slot t 91, slot t 92, slot t 93] := arr_eq t 94 hsz
              rw [harr, h4, h0, h1, h5]
              clear harr hfacts hf h4 h0 h1 h5
              generalize slot t 2 = x2; generalize slot t 3 = x3; generalize slot t 6 = x6; generalize slot t 7 = x7; generalize slot t 8 = x8; generalize slot t 9 = x9; generalize slot t 10 = x10; generalize slot t 11 = x11; generalize slot t 12 = x12; generalize slot t 13 = x13; generalize slot t 14 = x14; generalize slot t 15 = x15
              generalize slot t 16 = x16; generalize slot t 17 = x17; generalize slot t 18 = x18; generalize slot t 19 = x19; generalize slot t 20 = x20; generalize slot t 21 = x21; generalize slot t 22 = x22; generalize slot t 23 = x23; generalize slot t 24 = x24; generalize slot t 25 = x25; generalize slot t 26 = x26; generalize slot t 27 = x27
              generalize slot t 28 = x28; generalize slot t 29 = x29; generalize slot t 30 = x30; generalize slot t 31 = x31; generalize slot t 32 = x32; generalize slot t 33 = x33; generalize slot t 34 = x34; generalize slot t 35 = x35; generalize slot t 36 = x36; generalize slot t 37 = x37; generalize slot t 38 = x38; generalize slot t 39 = x39
              generalize slot t 40 = x40; generalize slot t 41 = x41; generalize slot t 42 = x42; generalize slot t 43 = x43; generalize slot t 44 = x44; generalize slot t 45 = x45; generalize slot t 46 = x46; generalize slot t 47 = x47; generalize slot t 48 = x48; generalize slot t 49 = x49; generalize slot t 50 = x50; generalize slot t 51 = x51
              generalize slot t 52 = x52; generalize slot t 53 = x53; generalize slot t 54 = x54; generalize slot t 55 = x55; generalize slot t 56 = x56; generalize slot t 57 = x57; generalize slot t 58 = x58; generalize slot t 59 = x59; generalize slot t 60 = x60; generalize slot t 61 = x61; generalize slot t 62 = x62; generalize slot t 63 = x63
              generalize slot t 64 = x64; generalize slot t 65 = x65; generalize slot t 66 = x66; generalize slot t 67 = x67; generalize slot t 68 = x68; generalize slot t 69 = x69; generalize slot t 70 = x70; generalize slot t 71 = x71; generalize slot t 72 = x72; generalize slot t 73 = x73; generalize slot t 74 = x74; generalize slot t 75 = x75
              generalize slot t 76 = x76; generalize slot t 77 = x77; generalize slot t 78 = x78; generalize slot t 79 = x79; generalize slot t 80 = x80; generalize slot t 81 = x81; generalize slot t 82 = x82; generalize slot t 83 = x83; generalize slot t 84 = x84; generalize slot t 85 = x85; generalize slot t 86 = x86; generalize slot t 87 = x87
              generalize slot t 88 = x88; generalize slot t 89 = x89; generalize slot t 90 = x90; generalize slot t 91 = x91; generalize slot t 92 = x92; generalize slot t 93 = x93
              clear hsz t
              have KF := Lib.hid (K3.out.trans (HK.out.trans hk))
              clear hk HK
              go_wp2_with fail
              go_ret
              exact ⟨rfl, KF.out⟩
      · have e1 : mkC n0 n1 I1 = 0 := if_neg hr
        have e2 : mkK n0 n1 I1 = 0 := if_neg hr
        have e3 : mkL S0 n0 n1 I1 = [] := if_neg hr
        have e4 : mkE n0 n1 I1 = 3 := if_neg hr
        rw [e1, e2, e3, e4] at HO
        rw [decide_eq_false hr] at HR
        clear hr e1 e2 e3 e4 hz0 hz0' hn0 hn1
        go_wp2_with fail
        refine HO.out.mono ?_
        rintro e u1 ⟨pp, pc, q, qc, rfl, _, _, _, k1⟩
        have K1 := Lib.hid k1
        clear k1 HO
        go_wp2_with (refine wpList_store_made rfl 28 _ _ rfl _ _ #[.int .i64 0, .slice pp 0 pc, .slice q 0 qc] rfl rfl 28 _ rfl (manyR_size _ _ _) rfl (manyR_one _ _ _ _ _ _ _) ?_; intro u2 R5 k2)
        obtain ⟨g5, hg5⟩ : ∃ g, g = u1.heap.size := ⟨_, rfl⟩
        rw [← hg5] at R5 ⊢
        clear hg5
        have K2 := Lib.hid (K1.out.trans k2.out)
        clear k2 K1
        refine (HR.out u2 (HI.out.kept K2.out)).mono ?_
        rintro e u3 ⟨rfl, k3⟩
        have R6 := Lib.hid (R5.out.kept k3)
        have K3 := Lib.hid (K2.out.trans k3)
        clear k3 K2 R5 HR
        have f0 := R6.out.cell 0
        have f1 := R6.out.cell 1
        have f2 := R6.out.cell 2
        go_wp2_with fail
        clear f0 f1 f2
        refine (HA.out u3).mono ?_
        rintro e u4 ⟨rfl, k4⟩
        have K4 := Lib.hid (K3.out.trans k4)
        clear k4 K3
        go_wp2_with fail
        go_ret
        exact ⟨rfl, K4.out⟩

set_option maxRecDepth 100000 in
set_option maxHeartbeats 1000000 in
theorem lifted (os : Os) (started : os.Started) (H : Type) (enc : TypeId × Value → H) :
    ReturnsInHanded {} Tryd.checked os 3 .any (fun w args => (Rows.multiOpensSpec.pre enc Tryd.prog Tryd.f3 [] false w args ∧ laidMetH Tryd.prog Rows.multiOpensRow.laid w) ∧ sizedMet enc Tryd.prog Tryd.f3 (OpenSpec.ofChange Rows.multiOpensSpec) false w args)
      (Rows.multiOpensSpec.post enc Tryd.prog Tryd.f3 false true false false) := by
  refine returnsInHanded_of_change_and (C := Tryd.checked) (X := fun w _ => laidMetH Tryd.prog Rows.multiOpensRow.laid w) (fun _ _ _ hh h => h.of_heap hh) own started (by kernel_rfl) Tryd.func3
    (ChangeSpec.witness_shaped (enc := enc) (C := Tryd.checked) (os := os) (X := fun w _ => laidMetH Tryd.prog Rows.multiOpensRow.laid w) false (World.doorLaid Tryd.prog 400 os) #[.slice none 0 0, .slice none 0 0] 8 rfl (World.shaped_of_RefB (by kernel_rfl) (by kernel_rfl)) (by kernel_rfl) (by kernel_rfl) (by kernel_rfl) (door_met os _)) ?_
  intro W base args ds gs before hval0 hW _ hsz0 hL _
  have hval : ∀ (j : Nat) t v, Tryd.f3.params[j]? = some t → args[j]? = some v → Value.okWide Tryd.prog W .any base t v := hval0
  have hsz : (DataW.weightsEach Tryd.prog (Tryd.f3.params.toList ++ Rows.multiOpensSpec.plain.varTypes Tryd.prog) (ds ++ gs)).all (· ≤ reachBytes) = true := hsz0
  have hW' := hW
  obtain ⟨p, q, hA0, hV, rfl, hfz, hnd⟩ := hW
  have hA : DataW.TrodAll enc Tryd.prog W 0 (fun _ => true) true Tryd.f3.params.toList args.toList ds p := hA0
  have hAk := hA
  rw [Tryd.params3] at hA hval hsz
  obtain ⟨v0, vs0, d0, ds0, p0_, q0_, hargs, rfl, rfl, h0, r0_⟩ := trodAll_cons hA
  obtain ⟨v1, vs1, d1, ds1, p1_, q1_, rfl, rfl, rfl, h1, r1_⟩ := trodAll_cons r0_
  obtain ⟨rfl, rfl, rfl⟩ := trodAll_nil r1_
  obtain rfl : args = #[v0, v1] := by cases args; simp_all
  obtain ⟨rfl, rfl⟩ := trodVars_none hV
  have hlt : ∀ x ∈ (p0_ ++ (p1_ ++ ([]))), x.block < W.heap.size := fun x hx => by simpa using hW'.lt x (by simpa using hx)
  obtain ⟨p0, n0, c0, S0, z0, rfl, e0, rr0⟩ := open_sslice Tryd.underlying22 Tryd.underlying9 (by kernel_rfl) (hval 0 22 v0 rfl rfl) h0
  obtain ⟨p1, n1, c1, I1, z1, rfl, e1, y1⟩ := open_islice Tryd.underlying23 Tryd.underlying3 (by kernel_rfl) (hval 1 23 v1 rfl rfl) h1
  have r0 := (rr0 hsz (J := 0) rfl rfl).2
  clear hA0 hval0
  refine (walk p0 n0 c0 S0 z0 r0 p1 n1 c1 I1 z1 y1 W e0 e1 (tab_of_laid hL)).mono fun e W' ⟨he, hg⟩ => ?_
  subst he
  exact ⟨_, rfl, ⟨_, _, _, [], _, [], hW', trodAll_cons_mk (shut_bool Tryd.underlying4 _) trodAll_mk0, trodAll_stays laidOut hg (by kernel_rfl) hAk hlt (fun x hx => by simpa using hlt x hx), rfl, Kept.frame hg _, fun h => by cases h⟩⟩

theorem over : Rows.multiOpensRow.holds Tryd.pinned (OpenSpec.ofChange Rows.multiOpensSpec) :=
  OpenClaim.holds_of_wide 3 Tryd.f3 rfl rfl rfl rfl rfl rfl rfl ⟨rfl, rfl, rfl, rfl, rfl⟩ rfl rfl rfl rfl rfl (by kernel_rfl) Tryd.func3 (by kernel_rfl)
    (of_decide_eq_true (by kernel_rfl)) (by unfold Func.isWrapper; first | (rw [if_pos (by decide +kernel)]; kernel_rfl) | (rw [if_neg (by decide +kernel)]; exact ⟨rfl, rfl⟩))
    (fun os started H enc _ => lifted os started H enc)
end Go.Proofs.YtggpjhldmaflaaaDoor.multiOpens
namespace Go.Proofs.YtggpjhldmaflaaaDoor
theorem multiOpens_holds : Rows.MultiOpensSaid := multiOpens.over
theorem multiOpens_card : Rows.MultiOpensCardSaid :=
  Claim7.holds_tied_plain_at .later [] [.data] true (true, "d35ee8a81d3cf5a6351c78eb7c8ada333cc817468752d51f115c50cb0b0845aa") false
    multiOpens_holds (fun _ h => by cases h) (by kernel_rfl) (fun _ h => by cases h) multiOpens_row_tie rfl ⟨rfl, rfl⟩ (by kernel_rfl) rfl
    (fun f fn hf hfn => by
      obtain rfl : f = 3 := Option.some.inj ((show Tryd.prog.funcNamed "milepost/milepostlaw16.MultiOpens" = some 3 by kernel_rfl).symm.trans hf) |>.symm
      obtain rfl : fn = Tryd.f3 := (Option.some.inj (Tryd.func3.symm.trans hfn)).symm
      refine ⟨by kernel_rfl, fun j t ht => ?_⟩
      have hm : t ∈ Tryd.f3.params.toList := by simpa using Array.mem_of_getElem? ht
      have hall : (Tryd.f3.params.toList.all fun u => !Tryd.prog.wantsStandIn u) = true := by kernel_rfl
      exact (show Tryd.prog.wantsStandIn t = false by simpa using List.all_eq_true.1 hall t hm))
    (by kernel_rfl)
#print axioms multiOpens_card
end Go.Proofs.YtggpjhldmaflaaaDoor
