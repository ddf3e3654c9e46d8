/-
  Each header's id, and the text of which it is the sum, are the reference's, for any headers; chapter 18's example holds: 'IdentIds' returns true.
  Conditions: those of the given card (sha's table of round constants as the program's text lays it).
-/
import Derived.Test.YtncnlmjhejminaaDoorRows
import Derived.Test.YtncnlmjhejminaaDoorIdentLaw
import Derived.Test.YtncnlmjhejminaaDoorLawLibK
import Derived.WalkKit
import Derived.ProofKit
import Derived.OpenShut
import Derived.ShutString
import Derived.SizedLaws
import Derived.Test.YtncnlmjhejminaaDoorBas
import Derived.LaidMore
import Derived.SevenTiedAt
import Derived.Test.YtncnlmjhejminaaDoorCards
import Derived.Test.YtncnlmjhejminaaDoorTie
import Derived.Test.YtncnlmjhejminaaDoorShb
namespace Go.Proofs.YtncnlmjhejminaaDoor.identIds
open Go.ChangeShapes Go.WideShapes Go.ChangeAt Go.RowKit
open Go.ChangeMaps (open_string shut_string)
set_option linter.unusedVariables false

theorem own : ownKnob Tryd.prog.godebug = none := by kernel_rfl
theorem laidOut : laidOutB Tryd.prog = true := by kernel_rfl

set_option maxRecDepth 100000 in
set_option maxHeartbeats 4000000 in
theorem walk (p0 : Option Addr) (n0 c0 : Nat) (X0 : Nat → Hd) (z0 : n0 ≤ c0 ∧ c0 ≤ maxLen) (w : World) (e0 : XAt w p0 n0 X0) (hT : Tab w) :
    Calls Tryd.prog 3 #[.slice p0 n0 c0] w fun e w' => e = .returned (.bool true) ∧ Kept w w' := by
  have HT := Lib.hid hT
  have HA : Hid (∀ w, Tab w → _) := Lib.hid fun w ht => awake18_any w ht
  have HX := Lib.hid e0
  by_cases hn : 50 < n0
  · have hd1 : decide ((n0 : Int) > 50) = true := decide_eq_true (by omega)
    have hd1' : decide ((50 : Int) < (n0 : Int)) = true := decide_eq_true (by omega)
    clear e0 z0 hn hT
    go_enter Tryd.func3, Tryd.ntmps3
    go_wp2_with fail
    refine (HA.out _ HT.out).mono ?_
    rintro e v1 ⟨rfl, k1⟩
    have K1 := Lib.hid k1
    go_wp2_with fail
    go_ret
    exact ⟨rfl, K1.out⟩
  · have hd1 : decide ((n0 : Int) > 50) = false := decide_eq_false (by omega)
    have hd1' : decide ((50 : Int) < (n0 : Int)) = false := decide_eq_false (by omega)
    have H1 := Lib.hid (identIds_any p0 n0 c0 X0 w e0 (by omega) hT)
    have hd2 : ((n0 : Int) != (n0 : Int)) = false := by simp
    have h50 : n0 ≤ 50 := by omega
    clear e0 hT z0 hn
    go_enter Tryd.func3, Tryd.ntmps3
    go_wp2_with fail
    refine H1.out.mono ?_
    rintro e v1 ⟨x, rfl, hx, k1⟩
    obtain ⟨p, c, rfl, h1, h2, hF⟩ := hx
    have HV := Lib.hid hF
    have K1 := Lib.hid k1
    replace HX := Lib.hid (HX.out.kept k1)
    replace HT := Lib.hid (HT.out.kept k1)
    clear hF k1 H1 h1 h2
    go_wp2_with fail
    go_loopw [4] (fun i wr => ∃ k : Nat, k ≤ n0 ∧ i = .int .i64 (k : Int) ∧ Hid (Kept v1 wr)) (fun i _ => n0 - (intOf i).toNat)
    case atStart => exact ⟨0, by omega, rfl, Lib.hid (Kept.refl _)⟩
    case round =>
      obtain ⟨k, hk, rfl, KW⟩ := hrel
      by_cases hlt : k < n0
      · have hd : decide ((k : Int) < (n0 : Int)) = true := decide_eq_true (by omega)
        have hd' : decide (k < n0) = true := decide_eq_true hlt
        obtain ⟨q, rfl, _⟩ := HV.out.some (by omega)
        obtain ⟨q0, rfl, _⟩ := HX.out.some (by omega)
        have hok := HX.out.oks k hlt
        have HVw := Lib.hid (show HAt wr (some q) n0 (fun i => idH (X0 i)) from HV.out.kept KW.out)
        have HXw := Lib.hid (HX.out.kept KW.out)
        have HTw := Lib.hid (HT.out.kept KW.out)
        have hI := idH_length (X0 k)
        have hz := hdS_size (X0 k) hok
        have C1 : Hid (∀ w, _) := Lib.hid fun w => refId17_any (X0 k) w hok
        have C2 : Hid (∀ w, Tab w → _) := Lib.hid fun w ht => identId_any (X0 k) w hok ht
        have C3 : Hid (∀ w, _) := Lib.hid fun w => identText_any (X0 k) w hok
        have C4 : Hid (∀ w, _) := Lib.hid fun w => refBytes17_any (X0 k) hok w
        have C5 : Hid (∀ w, _) := Lib.hid fun w => refHead_any (hdS (X0 k)) w (by omega)
        have CL : Hid (∀ u, Kept wr u → (Instr.loadAt 27 (.pointer (some (q.add (k * 32))))).run Tryd.prog u = .ok (.agg (bC 32 (idH (X0 k)))) u) := Lib.hid fun u hu => (HVw.out.kept hu).load k hlt
        have CX : Hid (∀ {o : Oper} {t : Array Value} {x : Operand} (u : World), Kept wr u → o.op = .load 32 x → evS t x = .pointer (some (q0.add (k * 66))) → (execOp (evS t) o).run Tryd.prog u = .ok (.value (.agg (hdC (X0 k)))) u) := Lib.hid fun u hu ho hx => load_xat k ho hx (HXw.out.kept hu) hlt
        generalize idH (X0 k) = I at C1 C2 CL hI
        generalize headS (hdS (X0 k)) = s at C3 C5
        generalize hdS (X0 k) = b at C4 C5
        generalize X0 k = Y at C1 C2 C3 C4 CX
        clear hok hz
        go_wp2_with fail
        refine wp_region_table [(22, .is (.slice (some q) n0 c)), (23, .is (.int .i64 (k : Int))), (24, .is (.pointer (some (q.add (k * 32))))), (25, .is (.agg (bC 32 I))), (26, .is (.slice (some q0) n0 c0)), (27, .is (.int .i64 (k : Int))), (28, .is (.pointer (some (q0.add (k * 66))))), (29, .is (.agg (hdC Y))), (30, .is (.agg (bC 32 I))), (31, .is (.bool false)), (32, .is (.bool false)), (33, .is (.slice (some q0) n0 c0)), (34, .is (.int .i64 (k : Int))), (35, .is (.pointer (some (q0.add (k * 66))))), (36, .is (.agg (hdC Y))), (37, .is (.agg (bC 32 I))), (38, .is (.slice (some q) n0 c)), (39, .is (.int .i64 (k : Int))), (40, .is (.pointer (some (q.add (k * 32))))), (41, .is (.agg (bC 32 I))), (42, .is (.bool false)), (43, .is (.bool false)), (44, .is (.bool false)), (45, .is (.slice (some q0) n0 c0)), (46, .is (.int .i64 (k : Int))), (47, .is (.pointer (some (q0.add (k * 66))))), (48, .is (.agg (hdC Y))), (49, .is (.string s)), (50, .is (.slice (some q0) n0 c0)), (51, .is (.int .i64 (k : Int))), (52, .is (.pointer (some (q0.add (k * 66))))), (53, .is (.agg (hdC Y))), (54, .is (.string b)), (55, .is (.string s)), (56, .is (.bool false)), (57, .is (.bool false))] (by kernel_rfl) (by kernel_rfl) ?_ ?_
        · refine ⟨fun t w1 hf hk hp => ?_, ?_⟩
          · have h3 : slot t 3 = .slice (some q) n0 c := hf 3 (by kernel_rfl)
            clear hf hp
            refine stepAt_plain rfl ?_
            exact stepOK_move _ (.inl rfl) h3
          refine ⟨fun t w1 hf hk hp => ?_, ?_⟩
          · have h4 : slot t 4 = .int .i64 (k : Int) := hf 4 (by kernel_rfl)
            clear hf hp
            refine stepAt_plain rfl ?_
            exact stepOK_move _ (.inl rfl) h4
          refine ⟨fun t w1 hf hk hp => ?_, ?_⟩
          · have h22 : slot t 22 = .slice (some q) n0 c := hp 22 (by kernel_rfl)
            have h23 : slot t 23 = .int .i64 (k : Int) := hp 23 (by kernel_rfl)
            clear hf hp
            refine stepAt_plain rfl ?_
            exact stepOK_pure (.pointer (some (q.add (k * 32)))) (execIndexH q n0 c k hlt w1 rfl (by assumption) (by assumption)) rfl
          refine ⟨fun t w1 hf hk hp => ?_, ?_⟩
          · have h24 : slot t 24 = .pointer (some (q.add (k * 32))) := hp 24 (by kernel_rfl)
            clear hf hp
            refine stepAt_plain rfl ?_
            have hq0 := CL.out w1 hk
            exact stepOK_sem (.agg (bC 32 I)) (by simp only [execOp, evS, h24]) hq0 rfl
          refine ⟨fun t w1 hf hk hp => ?_, ?_⟩
          · have h0 : slot t 0 = .slice (some q0) n0 c0 := hf 0 (by kernel_rfl)
            clear hf hp
            refine stepAt_plain rfl ?_
            exact stepOK_move _ (.inl rfl) h0
          refine ⟨fun t w1 hf hk hp => ?_, ?_⟩
          · have h4 : slot t 4 = .int .i64 (k : Int) := hf 4 (by kernel_rfl)
            clear hf hp
            refine stepAt_plain rfl ?_
            exact stepOK_move _ (.inl rfl) h4
          refine ⟨fun t w1 hf hk hp => ?_, ?_⟩
          · have h26 : slot t 26 = .slice (some q0) n0 c0 := hp 26 (by kernel_rfl)
            have h27 : slot t 27 = .int .i64 (k : Int) := hp 27 (by kernel_rfl)
            clear hf hp
            refine stepAt_plain rfl ?_
            exact stepOK_pure (.pointer (some (q0.add (k * 66)))) (execIndexX q0 n0 c0 k hlt w1 rfl (by assumption) (by assumption)) rfl
          refine ⟨fun t w1 hf hk hp => ?_, ?_⟩
          · have h28 : slot t 28 = .pointer (some (q0.add (k * 66))) := hp 28 (by kernel_rfl)
            clear hf hp
            refine stepAt_plain rfl ?_
            exact stepOK_pure (.agg (hdC Y)) (CX.out w1 hk rfl (by assumption)) rfl
          refine ⟨fun t w1 hf hk hp => ?_, ?_⟩
          · have h29 : slot t 29 = .agg (hdC Y) := hp 29 (by kernel_rfl)
            clear hf hp
            refine stepAt_plain rfl ?_
            refine stepOK_call #[.agg (hdC Y)] rfl (by simp only [List.map_toArray, List.map_cons, List.map_nil, evS, h29]) (by go_simp) ((C1.out w1).mono fun e w' ⟨he, hk'⟩ => ⟨_, he, hk', rfl⟩)
          refine ⟨fun t w1 hf hk hp => ?_, ?_⟩
          · have h25 : slot t 25 = .agg (bC 32 I) := hp 25 (by kernel_rfl)
            have h30 : slot t 30 = .agg (bC 32 I) := hp 30 (by kernel_rfl)
            clear hf hp
            refine stepAt_plain rfl ?_
            exact stepOK_pure (.bool false) (execNeSelf I hI w1 rfl h25 h30) rfl
          refine ⟨fun t w1 hf hk hp => ?_, ?_⟩
          · have h31 : slot t 31 = .bool false := hp 31 (by kernel_rfl)
            clear hf hp
            refine stepAt_plain rfl ?_
            exact stepOK_move _ (.inl rfl) h31
          refine ⟨fun t w1 hf hk hp => ?_, ?_⟩
          · have h0 : slot t 0 = .slice (some q0) n0 c0 := hf 0 (by kernel_rfl)
            have h32 : slot t 32 = .bool false := hp 32 (by kernel_rfl)
            clear hf hp
            refine stepAt_on 32 false (by kernel_rfl) h32 ?_
            exact stepOK_move _ (.inl rfl) h0
          refine ⟨fun t w1 hf hk hp => ?_, ?_⟩
          · have h4 : slot t 4 = .int .i64 (k : Int) := hf 4 (by kernel_rfl)
            have h32 : slot t 32 = .bool false := hp 32 (by kernel_rfl)
            clear hf hp
            refine stepAt_on 32 false (by kernel_rfl) h32 ?_
            exact stepOK_move _ (.inl rfl) h4
          refine ⟨fun t w1 hf hk hp => ?_, ?_⟩
          · have h33 : slot t 33 = .slice (some q0) n0 c0 := hp 33 (by kernel_rfl)
            have h34 : slot t 34 = .int .i64 (k : Int) := hp 34 (by kernel_rfl)
            have h32 : slot t 32 = .bool false := hp 32 (by kernel_rfl)
            clear hf hp
            refine stepAt_on 32 false (by kernel_rfl) h32 ?_
            exact stepOK_pure (.pointer (some (q0.add (k * 66)))) (execIndexX q0 n0 c0 k hlt w1 rfl (by assumption) (by assumption)) rfl
          refine ⟨fun t w1 hf hk hp => ?_, ?_⟩
          · have h35 : slot t 35 = .pointer (some (q0.add (k * 66))) := hp 35 (by kernel_rfl)
            have h32 : slot t 32 = .bool false := hp 32 (by kernel_rfl)
            clear hf hp
            refine stepAt_on 32 false (by kernel_rfl) h32 ?_
            exact stepOK_pure (.agg (hdC Y)) (CX.out w1 hk rfl (by assumption)) rfl
          refine ⟨fun t w1 hf hk hp => ?_, ?_⟩
          · have h36 : slot t 36 = .agg (hdC Y) := hp 36 (by kernel_rfl)
            have h32 : slot t 32 = .bool false := hp 32 (by kernel_rfl)
            clear hf hp
            refine stepAt_on 32 false (by kernel_rfl) h32 ?_
            refine stepOK_call #[.agg (hdC Y)] rfl (by simp only [List.map_toArray, List.map_cons, List.map_nil, evS, h36]) (by go_simp) ((C2.out w1 (HTw.out.kept hk)).mono fun e w' ⟨he, hk'⟩ => ⟨_, he, hk', rfl⟩)
          refine ⟨fun t w1 hf hk hp => ?_, ?_⟩
          · have h3 : slot t 3 = .slice (some q) n0 c := hf 3 (by kernel_rfl)
            have h32 : slot t 32 = .bool false := hp 32 (by kernel_rfl)
            clear hf hp
            refine stepAt_on 32 false (by kernel_rfl) h32 ?_
            exact stepOK_move _ (.inl rfl) h3
          refine ⟨fun t w1 hf hk hp => ?_, ?_⟩
          · have h4 : slot t 4 = .int .i64 (k : Int) := hf 4 (by kernel_rfl)
            have h32 : slot t 32 = .bool false := hp 32 (by kernel_rfl)
            clear hf hp
            refine stepAt_on 32 false (by kernel_rfl) h32 ?_
            exact stepOK_move _ (.inl rfl) h4
          refine ⟨fun t w1 hf hk hp => ?_, ?_⟩
          · have h38 : slot t 38 = .slice (some q) n0 c := hp 38 (by kernel_rfl)
            have h39 : slot t 39 = .int .i64 (k : Int) := hp 39 (by kernel_rfl)
            have h32 : slot t 32 = .bool false := hp 32 (by kernel_rfl)
            clear hf hp
            refine stepAt_on 32 false (by kernel_rfl) h32 ?_
            exact stepOK_pure (.pointer (some (q.add (k * 32)))) (execIndexH q n0 c k hlt w1 rfl (by assumption) (by assumption)) rfl
          refine ⟨fun t w1 hf hk hp => ?_, ?_⟩
          · have h40 : slot t 40 = .pointer (some (q.add (k * 32))) := hp 40 (by kernel_rfl)
            have h32 : slot t 32 = .bool false := hp 32 (by kernel_rfl)
            clear hf hp
            refine stepAt_on 32 false (by kernel_rfl) h32 ?_
            have hq0 := CL.out w1 hk
            exact stepOK_sem (.agg (bC 32 I)) (by simp only [execOp, evS, h40]) hq0 rfl
          refine ⟨fun t w1 hf hk hp => ?_, ?_⟩
          · have h37 : slot t 37 = .agg (bC 32 I) := hp 37 (by kernel_rfl)
            have h41 : slot t 41 = .agg (bC 32 I) := hp 41 (by kernel_rfl)
            have h32 : slot t 32 = .bool false := hp 32 (by kernel_rfl)
            clear hf hp
            refine stepAt_on 32 false (by kernel_rfl) h32 ?_
            exact stepOK_pure (.bool false) (execNeSelf I hI w1 rfl h37 h41) rfl
          refine ⟨fun t w1 hf hk hp => ?_, ?_⟩
          · have h32 : slot t 32 = .bool false := hp 32 (by kernel_rfl)
            have h42 : slot t 42 = .bool false := hp 42 (by kernel_rfl)
            clear hf hp
            refine stepAt_plain rfl ?_
            refine stepOK_pure (.bool false) ?_ rfl
            simp only [execOp, evS, h32, h42]
            go_simp
          refine ⟨fun t w1 hf hk hp => ?_, ?_⟩
          · have h43 : slot t 43 = .bool false := hp 43 (by kernel_rfl)
            clear hf hp
            refine stepAt_plain rfl ?_
            exact stepOK_move _ (.inl rfl) h43
          refine ⟨fun t w1 hf hk hp => ?_, ?_⟩
          · have h0 : slot t 0 = .slice (some q0) n0 c0 := hf 0 (by kernel_rfl)
            have h44 : slot t 44 = .bool false := hp 44 (by kernel_rfl)
            clear hf hp
            refine stepAt_on 44 false (by kernel_rfl) h44 ?_
            exact stepOK_move _ (.inl rfl) h0
          refine ⟨fun t w1 hf hk hp => ?_, ?_⟩
          · have h4 : slot t 4 = .int .i64 (k : Int) := hf 4 (by kernel_rfl)
            have h44 : slot t 44 = .bool false := hp 44 (by kernel_rfl)
            clear hf hp
            refine stepAt_on 44 false (by kernel_rfl) h44 ?_
            exact stepOK_move _ (.inl rfl) h4
          refine ⟨fun t w1 hf hk hp => ?_, ?_⟩
          · have h45 : slot t 45 = .slice (some q0) n0 c0 := hp 45 (by kernel_rfl)
            have h46 : slot t 46 = .int .i64 (k : Int) := hp 46 (by kernel_rfl)
            have h44 : slot t 44 = .bool false := hp 44 (by kernel_rfl)
            clear hf hp
            refine stepAt_on 44 false (by kernel_rfl) h44 ?_
            exact stepOK_pure (.pointer (some (q0.add (k * 66)))) (execIndexX q0 n0 c0 k hlt w1 rfl (by assumption) (by assumption)) rfl
          refine ⟨fun t w1 hf hk hp => ?_, ?_⟩
          · have h47 : slot t 47 = .pointer (some (q0.add (k * 66))) := hp 47 (by kernel_rfl)
            have h44 : slot t 44 = .bool false := hp 44 (by kernel_rfl)
            clear hf hp
            refine stepAt_on 44 false (by kernel_rfl) h44 ?_
            exact stepOK_pure (.agg (hdC Y)) (CX.out w1 hk rfl (by assumption)) rfl
          refine ⟨fun t w1 hf hk hp => ?_, ?_⟩
          · have h48 : slot t 48 = .agg (hdC Y) := hp 48 (by kernel_rfl)
            have h44 : slot t 44 = .bool false := hp 44 (by kernel_rfl)
            clear hf hp
            refine stepAt_on 44 false (by kernel_rfl) h44 ?_
            refine stepOK_call #[.agg (hdC Y)] rfl (by simp only [List.map_toArray, List.map_cons, List.map_nil, evS, h48]) (by go_simp) ((C3.out w1).mono fun e w' ⟨he, hk'⟩ => ⟨_, he, hk', rfl⟩)
          refine ⟨fun t w1 hf hk hp => ?_, ?_⟩
          · have h0 : slot t 0 = .slice (some q0) n0 c0 := hf 0 (by kernel_rfl)
            have h44 : slot t 44 = .bool false := hp 44 (by kernel_rfl)
            clear hf hp
            refine stepAt_on 44 false (by kernel_rfl) h44 ?_
            exact stepOK_move _ (.inl rfl) h0
          refine ⟨fun t w1 hf hk hp => ?_, ?_⟩
          · have h4 : slot t 4 = .int .i64 (k : Int) := hf 4 (by kernel_rfl)
            have h44 : slot t 44 = .bool false := hp 44 (by kernel_rfl)
            clear hf hp
            refine stepAt_on 44 false (by kernel_rfl) h44 ?_
            exact stepOK_move _ (.inl rfl) h4
          refine ⟨fun t w1 hf hk hp => ?_, ?_⟩
          · have h50 : slot t 50 = .slice (some q0) n0 c0 := hp 50 (by kernel_rfl)
            have h51 : slot t 51 = .int .i64 (k : Int) := hp 51 (by kernel_rfl)
            have h44 : slot t 44 = .bool false := hp 44 (by kernel_rfl)
            clear hf hp
            refine stepAt_on 44 false (by kernel_rfl) h44 ?_
            exact stepOK_pure (.pointer (some (q0.add (k * 66)))) (execIndexX q0 n0 c0 k hlt w1 rfl (by assumption) (by assumption)) rfl
          refine ⟨fun t w1 hf hk hp => ?_, ?_⟩
          · have h52 : slot t 52 = .pointer (some (q0.add (k * 66))) := hp 52 (by kernel_rfl)
            have h44 : slot t 44 = .bool false := hp 44 (by kernel_rfl)
            clear hf hp
            refine stepAt_on 44 false (by kernel_rfl) h44 ?_
            exact stepOK_pure (.agg (hdC Y)) (CX.out w1 hk rfl (by assumption)) rfl
          refine ⟨fun t w1 hf hk hp => ?_, ?_⟩
          · have h53 : slot t 53 = .agg (hdC Y) := hp 53 (by kernel_rfl)
            have h44 : slot t 44 = .bool false := hp 44 (by kernel_rfl)
            clear hf hp
            refine stepAt_on 44 false (by kernel_rfl) h44 ?_
            refine stepOK_call #[.agg (hdC Y)] rfl (by simp only [List.map_toArray, List.map_cons, List.map_nil, evS, h53]) (by go_simp) ((C4.out w1).mono fun e w' ⟨he, hk'⟩ => ⟨_, he, hk', rfl⟩)
          refine ⟨fun t w1 hf hk hp => ?_, ?_⟩
          · have h54 : slot t 54 = .string b := hp 54 (by kernel_rfl)
            have h44 : slot t 44 = .bool false := hp 44 (by kernel_rfl)
            clear hf hp
            refine stepAt_on 44 false (by kernel_rfl) h44 ?_
            refine stepOK_call #[.string b] rfl (by simp only [List.map_toArray, List.map_cons, List.map_nil, evS, h54]) (by go_simp) ((C5.out w1).mono fun e w' ⟨he, hk'⟩ => ⟨_, he, Grown.kept hk', rfl⟩)
          refine ⟨fun t w1 hf hk hp => ?_, ?_⟩
          · have h49 : slot t 49 = .string s := hp 49 (by kernel_rfl)
            have h55 : slot t 55 = .string s := hp 55 (by kernel_rfl)
            have h44 : slot t 44 = .bool false := hp 44 (by kernel_rfl)
            clear hf hp
            refine stepAt_on 44 false (by kernel_rfl) h44 ?_
            exact stepOK_pure (.bool false) (execNeSSelf s w1 rfl h49 h55) rfl
          refine ⟨fun t w1 hf hk hp => ?_, ?_⟩
          · have h44 : slot t 44 = .bool false := hp 44 (by kernel_rfl)
            have h56 : slot t 56 = .bool false := hp 56 (by kernel_rfl)
            clear hf hp
            refine stepAt_plain rfl ?_
            refine stepOK_pure (.bool false) ?_ rfl
            simp only [execOp, evS, h44, h56]
            go_simp
          exact trivial
        · intro t w1 hsz hf hk hfacts
          have h57 : slot t 57 = .bool false := hfacts 35 _ rfl 57 rfl
          have h0 : slot t 0 = .slice (some q0) n0 c0 := hf 0 (by kernel_rfl)
          have h3 : slot t 3 = .slice (some q) n0 c := hf 3 (by kernel_rfl)
          have h4 : slot t 4 = .int .i64 (k : Int) := hf 4 (by kernel_rfl)
          have h1 := hf 1 (by kernel_rfl)
          conv at h1 => rhs; whnf
          try change slot t 1 = undef at h1
          have h2 := hf 2 (by kernel_rfl)
          conv at h2 => rhs; whnf
          try change slot t 2 = undef at h2
          have h5 := hf 5 (by kernel_rfl)
          conv at h5 => rhs; whnf
          try change slot t 5 = undef at h5
          have h6 := hf 6 (by kernel_rfl)
          conv at h6 => rhs; whnf
          try change slot t 6 = undef at h6
          have h7 := hf 7 (by kernel_rfl)
          conv at h7 => rhs; whnf
          try change slot t 7 = undef at h7
          have h8 := hf 8 (by kernel_rfl)
          conv at h8 => rhs; whnf
          try change slot t 8 = undef at h8
          have h9 := hf 9 (by kernel_rfl)
          conv at h9 => rhs; whnf
          try change slot t 9 = undef at h9
          have h10 := hf 10 (by kernel_rfl)
          conv at h10 => rhs; whnf
          try change slot t 10 = undef at h10
          have h11 := hf 11 (by kernel_rfl)
          conv at h11 => rhs; whnf
          try change slot t 11 = undef at h11
          have h12 := hf 12 (by kernel_rfl)
          conv at h12 => rhs; whnf
          try change slot t 12 = undef at h12
          have h13 := hf 13 (by kernel_rfl)
          conv at h13 => rhs; whnf
          try change slot t 13 = undef at h13
          have h14 := hf 14 (by kernel_rfl)
          conv at h14 => rhs; whnf
          try change slot t 14 = undef at h14
          have h15 := hf 15 (by kernel_rfl)
          conv at h15 => rhs; whnf
          try change slot t 15 = undef at h15
          have h16 := hf 16 (by kernel_rfl)
          conv at h16 => rhs; whnf
          try change slot t 16 = undef at h16
          have h17 := hf 17 (by kernel_rfl)
          conv at h17 => rhs; whnf
          try change slot t 17 = undef at h17
          have h18 := hf 18 (by kernel_rfl)
          conv at h18 => rhs; whnf
          try change slot t 18 = undef at h18
          have h19 := hf 19 (by kernel_rfl)
          conv at h19 => rhs; whnf
          try change slot t 19 = undef at h19
          have h20 := hf 20 (by kernel_rfl)
          conv at h20 => rhs; whnf
          try change slot t 20 = undef at h20
          have h21 := hf 21 (by kernel_rfl)
          conv at h21 => rhs; whnf
          try change slot t 21 = undef at h21
          have h58 := hf 58 (by kernel_rfl)
          conv at h58 => rhs; whnf
          try change slot t 58 = undef at h58
          have harr : t = #[slot t 0, slot t 1, slot t 2, slot t 3, slot t 4, slot t 5, slot t 6, slot t 7, slot t 8, slot t 9, slot t 10, slot t 11, slot t 12, slot t 13, slot t 14, slot t 15, slot t 16, slot t 17, slot t 18, slot t 19, slot t 20, slot t 21, slot t 22, slot t 23, slot t 24, slot t 25, slot t 26, slot t 27, slot t 28, slot t 29, slot t 30, slot t 31, slot t 32, slot t 33, slot t 34, slot t 35, slot t 36, slot t 37, slot t 38, slot t 39, slot t 40, slot t 41, slot t 42, slot t 43, slot t 44, slot t 45, slot t 46, slot t 47, slot t 48, slot t 49, slot t 50, slot t 51, slot t 52, slot t 53, slot t 54, slot t 55, slot t 56, slot t 57, slot t 58] := arr_eq t 59 hsz
          rw [harr, h57, h0, h3, h4, h1, h2, h5, h6, h7, h8, h9, h10, h11, h12, h13, h14, h15, h16, h17, h18, h19, h20, h21, h58]
          clear harr hfacts hf h57 h0 h3 h4 h1 h2 h5 h6 h7 h8 h9 h10 h11 h12 h13 h14 h15 h16 h17 h18 h19 h20 h21 h58
          generalize slot t 22 = x22; generalize slot t 23 = x23; generalize slot t 24 = x24; generalize slot t 25 = x25; generalize slot t 26 = x26; generalize slot t 27 = x27; generalize slot t 28 = x28; generalize slot t 29 = x29; generalize slot t 30 = x30; generalize slot t 31 = x31; generalize slot t 32 = x32; generalize slot t 33 = x33
          generalize slot t 34 = x34; generalize slot t 35 = x35; generalize slot t 36 = x36; generalize slot t 37 = x37; generalize slot t 38 = x38; generalize slot t 39 = x39; generalize slot t 40 = x40; generalize slot t 41 = x41; generalize slot t 42 = x42; generalize slot t 43 = x43; generalize slot t 44 = x44; generalize slot t 45 = x45
          generalize slot t 46 = x46; generalize slot t 47 = x47; generalize slot t 48 = x48; generalize slot t 49 = x49; generalize slot t 50 = x50; generalize slot t 51 = x51; generalize slot t 52 = x52; generalize slot t 53 = x53; generalize slot t 54 = x54; generalize slot t 55 = x55; generalize slot t 56 = x56
          clear hsz t
          have KC := Lib.hid (KW.out.trans hk)
          clear hk
          go_wp2_with fail
          go_roundw
          case rel => exact ⟨k + 1, by omega, by go_num, KC⟩
          case measure => simp [intOf]; omega
      · have hd : decide ((k : Int) < (n0 : Int)) = false := decide_eq_false (by omega)
        have hd' : decide (k < n0) = false := decide_eq_false hlt
        go_wp2_with fail
        refine (HA.out _ (HT.out.kept KW.out)).mono ?_
        rintro e v5 ⟨rfl, k5⟩
        have KE := Lib.hid (K1.out.trans (KW.out.trans k5))
        clear k5
        go_wp2_with fail
        go_ret
        exact ⟨rfl, KE.out⟩

set_option maxRecDepth 100000 in
set_option maxHeartbeats 1000000 in
theorem lifted (os : Os) (started : os.Started) (H : Type) (enc : TypeId × Value → H) :
    ReturnsInHanded {} Tryd.checked os 3 .any (fun w args => (Rows.identIdsSpec.pre enc Tryd.prog Tryd.f3 [] false w args ∧ laidMetH Tryd.prog Rows.identIdsRow.laid w) ∧ sizedMet enc Tryd.prog Tryd.f3 (OpenSpec.ofChange Rows.identIdsSpec) false w args)
      (Rows.identIdsSpec.post enc Tryd.prog Tryd.f3 false true false false) := by
  refine returnsInHanded_of_change_and (C := Tryd.checked) (X := fun w _ => laidMetH Tryd.prog Rows.identIdsRow.laid w) (fun _ _ _ hh h => h.of_heap hh) own started (by kernel_rfl) Tryd.func3
    (ChangeSpec.witness_shaped (enc := enc) (C := Tryd.checked) (os := os) (X := fun w _ => laidMetH Tryd.prog Rows.identIdsRow.laid w) false (World.doorLaid Tryd.prog 400 os) #[.slice none 0 0] 8 rfl (World.shaped_of_RefB (by kernel_rfl) (by kernel_rfl)) (by kernel_rfl) (by kernel_rfl) (by kernel_rfl) (door_met os _)) ?_
  intro W base args ds gs before hval0 hW _ hsz0 hL _
  have hval : ∀ (j : Nat) t v, Tryd.f3.params[j]? = some t → args[j]? = some v → Value.okWide Tryd.prog W .any base t v := hval0
  have hsz : (DataW.weightsEach Tryd.prog (Tryd.f3.params.toList ++ Rows.identIdsSpec.plain.varTypes Tryd.prog) (ds ++ gs)).all (· ≤ reachBytes) = true := hsz0
  have hW' := hW
  obtain ⟨p, q, hA0, hV, rfl, hfz, hnd⟩ := hW
  have hA : DataW.TrodAll enc Tryd.prog W 0 (fun _ => true) true Tryd.f3.params.toList args.toList ds p := hA0
  have hAk := hA
  rw [Tryd.params3] at hA hval hsz
  obtain ⟨v0, vs0, d0, ds0, p0_, q0_, hargs, rfl, rfl, h0, r0_⟩ := trodAll_cons hA
  obtain ⟨rfl, rfl, rfl⟩ := trodAll_nil r0_
  obtain rfl : args = #[v0] := by cases args; simp_all
  obtain ⟨rfl, rfl⟩ := trodVars_none hV
  have hlt : ∀ x ∈ (p0_ ++ ([])), x.block < W.heap.size := fun x hx => by simpa using hW'.lt x (by simpa using hx)
  obtain ⟨p0, n0, c0, X0, z0, rfl, e0⟩ := open_xslice Tryd.underlying22 Tryd.underlying32 (by kernel_rfl) ⟨rfl, rfl, rfl, rfl⟩ ⟨by kernel_rfl, by kernel_rfl, by kernel_rfl, by kernel_rfl⟩ Tryd.underlying29 Tryd.underlying27 Tryd.underlying27 Tryd.underlying30 Tryd.underlying5 (by kernel_rfl) (hval 0 22 v0 rfl rfl) h0
  clear hA0 hval0
  refine (walk p0 n0 c0 X0 z0 W e0 (tab_of_laid hL)).mono fun e W' ⟨he, hg⟩ => ?_
  subst he
  exact ⟨_, rfl, ⟨_, _, _, [], _, [], hW', trodAll_cons_mk (shut_bool Tryd.underlying4 _) trodAll_mk0, trodAll_stays laidOut hg (by kernel_rfl) hAk hlt (fun x hx => by simpa using hlt x hx), rfl, Kept.frame hg _, fun h => by cases h⟩⟩

theorem over : Rows.identIdsRow.holds Tryd.pinned (OpenSpec.ofChange Rows.identIdsSpec) :=
  OpenClaim.holds_of_wide 3 Tryd.f3 rfl rfl rfl rfl rfl rfl rfl ⟨rfl, rfl, rfl, rfl, rfl⟩ rfl rfl rfl rfl rfl (by kernel_rfl) Tryd.func3 (by kernel_rfl)
    (of_decide_eq_true (by kernel_rfl)) (by unfold Func.isWrapper; first | (rw [if_pos (by decide +kernel)]; kernel_rfl) | (rw [if_neg (by decide +kernel)]; exact ⟨rfl, rfl⟩))
    (fun os started H enc _ => lifted os started H enc)
end Go.Proofs.YtncnlmjhejminaaDoor.identIds
namespace Go.Proofs.YtncnlmjhejminaaDoor
theorem identIds_holds : Rows.IdentIdsSaid := identIds.over
theorem identIds_card : Rows.IdentIdsCardSaid :=
  Claim7.holds_tied_plain_at .later [] [.data] true (true, "f76569e19b13405f4d40f90b9e0120c3d7734e180611063ab5fdfb662327150c") false
    identIds_holds (fun _ h => by cases h) (by kernel_rfl) (fun _ h => by cases h) identIds_row_tie rfl ⟨rfl, rfl⟩ (by kernel_rfl) rfl
    (fun f fn hf hfn => by
      obtain rfl : f = 3 := Option.some.inj ((show Tryd.prog.funcNamed "milepost/milepostlaw18.IdentIds" = some 3 by kernel_rfl).symm.trans hf) |>.symm
      obtain rfl : fn = Tryd.f3 := (Option.some.inj (Tryd.func3.symm.trans hfn)).symm
      refine ⟨by kernel_rfl, fun j t ht => ?_⟩
      have hm : t ∈ Tryd.f3.params.toList := by simpa using Array.mem_of_getElem? ht
      have hall : (Tryd.f3.params.toList.all fun u => !Tryd.prog.wantsStandIn u) = true := by kernel_rfl
      exact (show Tryd.prog.wantsStandIn t = false by simpa using List.all_eq_true.1 hall t hm))
    (by kernel_rfl)
#print axioms identIds_card
end Go.Proofs.YtncnlmjhejminaaDoor
