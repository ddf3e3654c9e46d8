/-
  wide's Sub undoes its Add, whatever the two numbers, the borrow is the carry, and Cmp goes by the bytes; chapter 4's examples hold: 'WideBack' returns true.
  Conditions: none.
-/
import Derived.Test.YtpgmnkmbekikeaaRows
import Derived.Test.YtpgmnkmbekikeaaWideWalkD
import Derived.Test.YtpgmnkmbekikeaaLawLib
import Derived.WalkKit
import Derived.ProofKit
import Derived.OpenShut
import Derived.ShutString
import Derived.SizedLaws
import Derived.Test.YtpgmnkmbekikeaaLawLib
namespace Go.Proofs.Ytpgmnkmbekikeaa.wideBack
open Go.ChangeShapes Go.WideShapes Go.ChangeAt Go.RowKit
open Go.ChangeMaps (open_string shut_string)
set_option linter.unusedVariables false

theorem own : ownKnob Try.prog.godebug = none := by kernel_rfl
theorem laidOut : laidOutB Try.prog = true := by kernel_rfl

set_option maxRecDepth 100000 in
set_option maxHeartbeats 4000000 in
theorem walk (a0 : List UInt8) (n0 : a0.length = 32) (a1 : List UInt8) (n1 : a1.length = 32) (w : World)  :
    Calls Try.prog 6 #[.agg (bC 32 a0), .agg (bC 32 a1)] w fun e w' => e = .returned (.bool true) ∧ Kept w w' := by
  obtain ⟨A, hA, rfl⟩ := hash_num a0 n0
  obtain ⟨B, hB, rfl⟩ := hash_num a1 n1
  have HA := Lib.hid hA
  have HB := Lib.hid hB
  clear hA hB n0 n1
  go_enter Try.func6, Try.ntmps6
  go_wp2_with fail
  have F2 := Lib.hid ((Rowz.new w (bC 32 (be 32 A)) 23).alloc (.cells (bC 32 (be 32 B)) 23))
  have F3 := Lib.hid (Rowz.newEq1 w (.cells (bC 32 (be 32 A)) 23) (.cells (bC 32 (be 32 B)) 23) (bC 32 (be 32 B)) 23 rfl)
  have G0 := Lib.hid (((Kept.refl w).alloc (.cells (bC 32 (be 32 A)) 23)).alloc (.cells (bC 32 (be 32 B)) 23))
  generalize (w.alloc (.cells (bC 32 (be 32 A)) 23)).alloc (.cells (bC 32 (be 32 B)) 23) = v at F2 F3 G0 ⊢
  have hz : w.heap.size + 1 < v.heap.size := F3.out.lt
  refine wp_region_made 6 [5, 6] [(13, .is (.agg (bC 32 (be 32 A)))), (14, .is (.agg (nC A 4))), (15, .is (.agg (bC 32 (be 32 B)))), (16, .is (.agg (nC B 4))), (5, .row ptrAt0 (nC 0 0) 26), (6, .row ptrAt0 (nC 0 0) 26)] (by kernel_rfl) (by kernel_rfl) (by kernel_rfl) ?_ ?_
  · refine ⟨fun t w1 hf hk hp => ?_, ?_⟩
    · have h2 : slot t 2 = .pointer (some ⟨w.heap.size, 0, none⟩) := hf 2 (by kernel_rfl)
      clear hf hp
      refine stepM_at (by kernel_rfl) ?_
      refine stepAt_plain rfl ?_
      have hq0 := Rowz.load (F2.out.kept hk) 32 5 Try.underlying23 (infoH _)
      exact stepOK_sem (.agg (bC 32 (be 32 A))) (by simp only [execOp, evS, h2]) hq0 rfl
    refine ⟨fun t w1 hf hk hp => ?_, ?_⟩
    · have h13 : slot t 13 = .agg (bC 32 (be 32 A)) := hp 13 (by kernel_rfl)
      clear hf hp
      refine stepM_at (by kernel_rfl) ?_
      refine stepAt_plain rfl ?_
      refine stepOK_call #[.agg (bC 32 (be 32 A))] rfl (by simp only [List.map_toArray, List.map_cons, List.map_nil, evS, h13]) (by go_simp) ((wideOf_any A w1).mono fun e w' ⟨he, hk'⟩ => ⟨_, he, Grown.kept hk', rfl⟩)
    refine ⟨fun t w1 hf hk hp => ?_, ?_⟩
    · have h3 : slot t 3 = .pointer (some ⟨w.heap.size + 1, 0, none⟩) := hf 3 (by kernel_rfl)
      clear hf hp
      refine stepM_at (by kernel_rfl) ?_
      refine stepAt_plain rfl ?_
      have hq0 := Rowz.load (F3.out.kept hk) 32 5 Try.underlying23 (infoH _)
      exact stepOK_sem (.agg (bC 32 (be 32 B))) (by simp only [execOp, evS, h3]) hq0 rfl
    refine ⟨fun t w1 hf hk hp => ?_, ?_⟩
    · have h15 : slot t 15 = .agg (bC 32 (be 32 B)) := hp 15 (by kernel_rfl)
      clear hf hp
      refine stepM_at (by kernel_rfl) ?_
      refine stepAt_plain rfl ?_
      refine stepOK_call #[.agg (bC 32 (be 32 B))] rfl (by simp only [List.map_toArray, List.map_cons, List.map_nil, evS, h15]) (by go_simp) ((wideOf_any B w1).mono fun e w' ⟨he, hk'⟩ => ⟨_, he, Grown.kept hk', rfl⟩)
    refine ⟨fun t w1 hf hk hp => ?_, ?_⟩
    · clear hf hp
      refine stepM_made (by kernel_rfl) ?_
      refine stepMade_new ((nC 0 0)) 26 rfl ?_ ⟨_, rfl, Rowz.new w1 _ _⟩
      simp only [execOp, ptrAt0]
      go_simp
      rfl
    refine ⟨fun t w1 hf hk hp => ?_, ?_⟩
    · clear hf hp
      refine stepM_made (by kernel_rfl) ?_
      refine stepMade_new ((nC 0 0)) 26 rfl ?_ ⟨_, rfl, Rowz.new w1 _ _⟩
      simp only [execOp, ptrAt0]
      go_simp
      rfl
    exact trivial
  · intro t w1 hsz hf hk hfacts hmd hap
    obtain ⟨g5, h5, r5⟩ : ∃ g, slot t 5 = ptrAt0 g ∧ Rowz w1 g (nC 0 0) 26 := hfacts 4 _ (by decide) rfl 5 rfl
    simp only [ptrAt0] at h5
    obtain ⟨g6, h6, r6⟩ : ∃ g, slot t 6 = ptrAt0 g ∧ Rowz w1 g (nC 0 0) 26 := hfacts 5 _ (by decide) rfl 6 rfl
    simp only [ptrAt0] at h6
    have h14 : slot t 14 = .agg (nC A 4) := hfacts 1 _ (by decide) rfl 14 rfl
    have h16 : slot t 16 = .agg (nC B 4) := hfacts 3 _ (by decide) rfl 16 rfl
    have h2 : slot t 2 = .pointer (some ⟨w.heap.size, 0, none⟩) := hf 2 (by kernel_rfl)
    have h3 : slot t 3 = .pointer (some ⟨w.heap.size + 1, 0, none⟩) := hf 3 (by kernel_rfl)
    have l5 := made_ge (hmd 5 (by kernel_rfl)) h5
    have l6 := made_ge (hmd 6 (by kernel_rfl)) h6
    have d5_6 := made_ne (hap 5 6 (by kernel_rfl) (by kernel_rfl) (by decide)) h5 h6
    have harr : t = #[slot t 0, slot t 1, slot t 2, slot t 3, slot t 4, slot t 5, slot t 6, slot t 7, slot t 8, slot t 9, slot t 10, slot t 11, slot t 12, slot t 13, slot t 14, slot t 15, slot t 16, slot t 17, slot t 18, slot t 19, slot t 20, slot t 21, slot t 22, slot t 23, slot t 24, slot t 25, slot t 26, slot t 27, slot t 28, slot t 29, slot t 30, slot t 31, slot t 32, slot t 33, slot t 34, slot t 35, slot t 36, slot t 37, slot t 38, slot t 39, slot t 40, slot t 41, slot t 42, slot t 43, slot t 44, slot t 45, slot t 46, slot t 47, slot t 48, slot t 49, slot t 50, slot t 51, slot t 52, slot t 53, slot t 54, slot t 55, slot t 56, slot t 57, slot t 58, slot t 59, slot t 60, slot t 61, slot t 62, slot t 63, slot t 64, slot t 65, slot t 66, slot t 67, slot t 68] := arr_eq t 69 hsz
    rw [harr, h5, h6, h14, h16, h2, h3]
    clear harr hfacts hf hmd hap h5 h6 h14 h16 h2 h3
    generalize slot t 0 = x0; generalize slot t 1 = x1; generalize slot t 4 = x4; generalize slot t 7 = x7; generalize slot t 8 = x8; generalize slot t 9 = x9; generalize slot t 10 = x10; generalize slot t 11 = x11; generalize slot t 12 = x12; generalize slot t 13 = x13; generalize slot t 15 = x15; generalize slot t 17 = x17
    generalize slot t 18 = x18; generalize slot t 19 = x19; generalize slot t 20 = x20; generalize slot t 21 = x21; generalize slot t 22 = x22; generalize slot t 23 = x23; generalize slot t 24 = x24; generalize slot t 25 = x25; generalize slot t 26 = x26; generalize slot t 27 = x27; generalize slot t 28 = x28; generalize slot t 29 = x29
    generalize slot t 30 = x30; generalize slot t 31 = x31; generalize slot t 32 = x32; generalize slot t 33 = x33; generalize slot t 34 = x34; generalize slot t 35 = x35; generalize slot t 36 = x36; generalize slot t 37 = x37; generalize slot t 38 = x38; generalize slot t 39 = x39; generalize slot t 40 = x40; generalize slot t 41 = x41
    generalize slot t 42 = x42; generalize slot t 43 = x43; generalize slot t 44 = x44; generalize slot t 45 = x45; generalize slot t 46 = x46; generalize slot t 47 = x47; generalize slot t 48 = x48; generalize slot t 49 = x49; generalize slot t 50 = x50; generalize slot t 51 = x51; generalize slot t 52 = x52; generalize slot t 53 = x53
    generalize slot t 54 = x54; generalize slot t 55 = x55; generalize slot t 56 = x56; generalize slot t 57 = x57; generalize slot t 58 = x58; generalize slot t 59 = x59; generalize slot t 60 = x60; generalize slot t 61 = x61; generalize slot t 62 = x62; generalize slot t 63 = x63; generalize slot t 64 = x64; generalize slot t 65 = x65
    generalize slot t 66 = x66; generalize slot t 67 = x67; generalize slot t 68 = x68
    clear hsz t
    simp only [List.drop_succ_cons, List.drop_zero]
    have K0 := Lib.hid (G0.out.trans hk)
    have hb1 : w.heap.size ≤ g5 := Nat.le_trans G0.out.size l5
    have hb2 : w.heap.size ≤ g6 := Nat.le_trans G0.out.size l6
    have F2 := Lib.hid (F2.out.kept hk)
    have F3 := Lib.hid (F3.out.kept hk)
    have R5 := Lib.hid r5
    have R6 := Lib.hid r6
    have n5 : w.heap.size ≠ g5 ∧ w.heap.size + 1 ≠ g5 := by omega
    have n6 : w.heap.size ≠ g6 ∧ w.heap.size + 1 ≠ g6 := by omega
    clear hk r5 r6 G0 hz l5 l6
    refine wpList_store_row rfl 26 _ _ rfl g5 (nC A 4) rfl rfl 26 (nC 0 0) R5.out (infoN _ _) (by simp [nC_size]) (nC_one _ _) ?_
    refine wpList_store_row rfl 26 _ _ rfl g6 (nC B 4) rfl rfl 26 (nC 0 0) (R6.out.rowOther (Ne.symm d5_6)) (infoN _ _) (by simp [nC_size]) (nC_one _ _) ?_
    have A5 := Lib.hid ((R5.out.row (D := nC A 4)).rowOther (k := g6) (D := nC B 4) d5_6)
    have A6 := Lib.hid ((R6.out.rowOther (k := g5) (D := nC A 4) (Ne.symm d5_6)).row (D := nC B 4))
    have A2 := Lib.hid ((F2.out.rowOther (k := g5) (D := nC A 4) n5.1).rowOther (k := g6) (D := nC B 4) n6.1)
    have A3 := Lib.hid ((F3.out.rowOther (k := g5) (D := nC A 4) n5.2).rowOther (k := g6) (D := nC B 4) n6.2)
    have AK := Lib.hid ((K0.out.setRow hb1 (nC A 4)).setRow hb2 (nC B 4))
    generalize (w1.setRow g5 (nC A 4)).setRow g6 (nC B 4) = v1 at A5 A6 A2 A3 AK ⊢
    clear F2 F3 R5 R6 K0 hb1 hb2 n5 n6 d5_6
    have C1 := Lib.hid fun w => wideAdd_any A B w HA.out HB.out
    have C2 := Lib.hid fun w => wideSub_any (add256 A B) B w (add256_lt A B) HB.out
    rw [sub_add A B HA.out HB.out, under_over A B HA.out HB.out] at C2
    go_wp2_with (first
      | (go_at_call 11; refine (C1.out _).mono ?_; rintro e w2 ⟨rfl, k2⟩)
      | (go_at_call 13; refine (C2.out _).mono ?_; rintro e w3 ⟨rfl, k3⟩)
      | (refine wpList_load_row rfl 26 (.tmp 5) rfl g5 rfl 26 (nC A 4) (0, 0) _ A5.out Try.underlying26 rfl (infoN _ _) ?_)
      | (refine wpList_load_row rfl 26 (.tmp 6) rfl g6 rfl 26 (nC B 4) (0, 0) _ A6.out Try.underlying26 rfl (infoN _ _) ?_)
      | (refine wpList_load_row rfl 26 (.tmp 7) rfl w2.heap.size rfl 26 (nC (add256 A B) 4) (0, 0) _ A7.out Try.underlying26 rfl (infoN _ _) ?_)
      | (refine wpList_store_made rfl 26 (.tmp 7) (.tmp 21) rfl w2 _ (nC (add256 A B) 4) rfl rfl 26 (nC 0 0) (by kernel_rfl) (infoN _ _) (by simp [nC_size]) (nC_one _ _) ?_; intro v2 A7 K2; replace A5 := Lib.hid ((A5.out.grown k2).kept K2.out); replace A6 := Lib.hid ((A6.out.grown k2).kept K2.out); replace A2 := Lib.hid ((A2.out.grown k2).kept K2.out); replace A3 := Lib.hid ((A3.out.grown k2).kept K2.out); replace AK := Lib.hid ((AK.out.trans (Grown.kept k2)).trans K2.out))
      | (refine wpList_store_made rfl 26 (.tmp 9) (.tmp 27) rfl w3 _ (nC A 4) rfl rfl 26 (nC 0 0) (by kernel_rfl) (infoN _ _) (by simp [nC_size]) (nC_one _ _) ?_; intro v3 A9 K3; replace A5 := Lib.hid ((A5.out.grown k3).kept K3.out); replace A6 := Lib.hid ((A6.out.grown k3).kept K3.out); replace A2 := Lib.hid ((A2.out.grown k3).kept K3.out); replace A3 := Lib.hid ((A3.out.grown k3).kept K3.out); replace AK := Lib.hid ((AK.out.trans (Grown.kept k3)).trans K3.out)))
    clear A7 K2 K3 k2 k3 C1 C2
    go_loopw [11, 12] (fun m i wr => ∃ (k : Nat) (l : Int), k ≤ 32 ∧ i = .int .i64 (k : Int) ∧ m = .int .i64 l ∧ Hid ((l = 0 ∧ A / 256 ^ (32 - k) = B / 256 ^ (32 - k)) ∨ (l = cmpN A B ∧ l ≠ 0)) ∧ Hid (Kept v3 wr)) (fun _ i _ => 32 - (intOf i).toNat)
    case atStart => exact ⟨0, 0, by omega, rfl, rfl, Lib.hid (.inl ⟨rfl, by rw [Nat.div_eq_of_lt (by exact HA.out), Nat.div_eq_of_lt (by exact HB.out)]⟩), Lib.hid (Kept.refl v3)⟩
    case round =>
      obtain ⟨k, l, hk32, rfl, rfl, HL, GK⟩ := hrel
      by_cases hgo : k < 32 ∧ l = 0
      · obtain ⟨hk0, rfl⟩ := hgo
        have HE : Hid (A / 256 ^ (32 - k) = B / 256 ^ (32 - k)) := Lib.hid (by
          rcases HL.out with h | h
          · exact h.2
          · exact absurd rfl h.2)
        have hd1 : decide ((k : Int) < 32) = true := by simp; omega
        have hki : (k : Int) < 32 := by omega
        have c1 : wr.cell? ⟨w.heap.size, k, none⟩ = some (.int .u8 ((A / 256 ^ (31 - k) % 256 : Nat) : Int)) := by rw [(A2.out.kept GK.out).byte k hk0, be_getD 32 A k hk0]
        have c2 : wr.cell? ⟨w.heap.size + 1, k, none⟩ = some (.int .u8 ((B / 256 ^ (31 - k) % 256 : Nat) : Int)) := by rw [(A3.out.kept GK.out).byte k hk0, be_getD 32 B k hk0]
        have HS := Lib.hid (byte_same A B k hk0 HE.out)
        have HX := Lib.hid (byte_less A B k hk0 HE.out)
        have HY := Lib.hid (byte_less B A k hk0 HE.out.symm)
        generalize A / 256 ^ (31 - k) % 256 = x at c1 HS HX HY
        generalize B / 256 ^ (31 - k) % 256 = y at c2 HS HX HY
        clear HL HE
        rcases Nat.lt_trichotomy x y with h | h | h
        · have hL : Hid (cmpN A B = -1) := Lib.hid (cmpN_lt (HX.out h))
          have hd2 : decide (x < y) = true := decide_eq_true h
          have hd3 : decide (y < x) = false := decide_eq_false (by omega)
          clear h HS HX HY
          go_wp2
          go_quiet (fail)
          replace c1 : (wr.drewN nq).cell? ⟨w.heap.size, k, none⟩ = some (.int .u8 (x : Int)) := c1
          replace c2 : (wr.drewN nq).cell? ⟨w.heap.size + 1, k, none⟩ = some (.int .u8 (y : Int)) := c2
          replace GK : Hid (Kept v3 (wr.drewN nq)) := GK
          generalize wr.drewN nq = w2 at c1 c2 GK ⊢
          go_wp2
          go_quiet (fail)
          replace GK : Hid (Kept v3 (w2.drewN nq)) := GK
          generalize w2.drewN nq = w4 at GK ⊢
          go_wp2
          go_roundw
          case rel => exact ⟨k + 1, -1, by omega, by go_num, rfl, Lib.hid (.inr ⟨hL.out.symm, by decide⟩), GK⟩
          case measure => simp [intOf]; omega
        · have hS : Hid (A / 256 ^ (31 - k) = B / 256 ^ (31 - k)) := Lib.hid (HS.out h)
          rw [h] at c1
          have hd2 : decide (y < y) = false := decide_eq_false (by omega)
          clear h HS HX HY
          go_wp2
          go_quiet (fail)
          replace c1 : (wr.drewN nq).cell? ⟨w.heap.size, k, none⟩ = some (.int .u8 (y : Int)) := c1
          replace c2 : (wr.drewN nq).cell? ⟨w.heap.size + 1, k, none⟩ = some (.int .u8 (y : Int)) := c2
          replace GK : Hid (Kept v3 (wr.drewN nq)) := GK
          generalize wr.drewN nq = w2 at c1 c2 GK ⊢
          go_wp2
          go_quiet (fail)
          replace GK : Hid (Kept v3 (w2.drewN nq)) := GK
          generalize w2.drewN nq = w4 at GK ⊢
          go_wp2
          go_roundw
          case rel => exact ⟨k + 1, 0, by omega, by go_num, rfl, Lib.hid (.inl ⟨rfl, by rw [show 32 - (k + 1) = 31 - k by omega]; exact hS.out⟩), GK⟩
          case measure => simp [intOf]; omega
        · have hL : Hid (cmpN A B = 1) := Lib.hid (cmpN_gt (HY.out h))
          have hd2 : decide (x < y) = false := decide_eq_false (by omega)
          have hd3 : decide (y < x) = true := decide_eq_true h
          clear h HS HX HY
          go_wp2
          go_quiet (fail)
          replace c1 : (wr.drewN nq).cell? ⟨w.heap.size, k, none⟩ = some (.int .u8 (x : Int)) := c1
          replace c2 : (wr.drewN nq).cell? ⟨w.heap.size + 1, k, none⟩ = some (.int .u8 (y : Int)) := c2
          replace GK : Hid (Kept v3 (wr.drewN nq)) := GK
          generalize wr.drewN nq = w2 at c1 c2 GK ⊢
          go_wp2
          go_quiet (fail)
          replace GK : Hid (Kept v3 (w2.drewN nq)) := GK
          generalize w2.drewN nq = w4 at GK ⊢
          go_wp2
          go_roundw
          case rel => exact ⟨k + 1, 1, by omega, by go_num, rfl, Lib.hid (.inr ⟨hL.out.symm, by decide⟩), GK⟩
          case measure => simp [intOf]; omega
      · have hl : l = cmpN A B := by
          rcases HL.out with h | h
          · have h0 : A / 256 ^ (32 - k) = B / 256 ^ (32 - k) := h.2
            rw [show 32 - k = 0 by omega] at h0
            simp only [Nat.pow_zero, Nat.div_one] at h0
            rw [h.1, cmpN_eq h0]
          · exact h.1
        have hst : decide ((k : Int) < 32) = false ∨ (decide ((k : Int) < 32) = true ∧ (l == 0) = false) := by
          by_cases h32 : k < 32
          · refine .inr ⟨by simp; omega, ?_⟩
            have : l ≠ 0 := fun e => hgo ⟨h32, e⟩
            simpa using this
          · exact .inl (by simp; omega)
        clear HL hgo
        subst hl
        rcases hst with hd | ⟨hd, hl0⟩
        · go_wp2_with (refine park_at 51 rfl ?_)
          have hs1 : ∀ w1, (Op.equalIn 10000 26 (.agg (nC A 4)) (.agg (nC A 4))).run Try.prog w1 = .ok true w1 := fun w1 => by have := sameN A A HA.out HA.out w1; simpa using this
          refine unpark ?_
          refine wpList_table 19 [(51, .is (.agg (nC A 4))), (52, .is (.agg (nC A 4))), (53, .is (.bool true)), (54, .is (.bool true)), (55, .is (.bool (over A B))), (56, .is (.bool (over A B))), (57, .is (.bool true)), (58, .is (.bool true)), (59, .is (.bool true)), (60, .is (.agg (nC A 4))), (61, .is (.agg (nC B 4))), (62, .is (.int .i64 (cmpN A B))), (63, .is (.int .i64 (cmpN A B))), (64, .is (.bool true)), (65, .is (.bool true)), (66, .is (.bool true)), (67, .is (.bool true)), (68, .is (.bool true)), (4, .is (.bool true))] (by kernel_rfl) ?_ ?_
          · refine ⟨fun t w1 hf hk hp => ?_, ?_⟩
            · have h9 : slot t 9 = .pointer (some ⟨w3.heap.size, 0, none⟩) := hf 9 (by kernel_rfl)
              clear hf hp
              refine stepAt_plain rfl ?_
              have hq0 := Rowz.load (A9.out.kept (GK.out.trans hk)) 4 24 Try.underlying26 (infoN _ _)
              exact stepOK_sem (.agg (nC A 4)) (by simp only [execOp, evS, h9]) hq0 rfl
            refine ⟨fun t w1 hf hk hp => ?_, ?_⟩
            · have h5 : slot t 5 = .pointer (some ⟨g5, 0, none⟩) := hf 5 (by kernel_rfl)
              clear hf hp
              refine stepAt_plain rfl ?_
              have hq0 := Rowz.load (A5.out.kept (GK.out.trans hk)) 4 24 Try.underlying26 (infoN _ _)
              exact stepOK_sem (.agg (nC A 4)) (by simp only [execOp, evS, h5]) hq0 rfl
            refine ⟨fun t w1 hf hk hp => ?_, ?_⟩
            · have h51 : slot t 51 = .agg (nC A 4) := hp 51 (by kernel_rfl)
              have h52 : slot t 52 = .agg (nC A 4) := hp 52 (by kernel_rfl)
              clear hf hp
              refine stepAt_plain rfl ?_
              have hq0 := hs1 w1
              have hq1 := guardN
              refine stepOK_pure (.bool true) ?_ rfl
              simp only [execOp, evS, h51, h52]
              go_simp
            refine ⟨fun t w1 hf hk hp => ?_, ?_⟩
            · have h53 : slot t 53 = .bool true := hp 53 (by kernel_rfl)
              clear hf hp
              refine stepAt_plain rfl ?_
              exact stepOK_move _ (.inl rfl) h53
            refine ⟨fun t w1 hf hk hp => ?_, ?_⟩
            · have h10 : slot t 10 = .bool (over A B) := hf 10 (by kernel_rfl)
              have h54 : slot t 54 = .bool true := hp 54 (by kernel_rfl)
              clear hf hp
              refine stepAt_on 54 true (by kernel_rfl) h54 ?_
              exact stepOK_move _ (.inl rfl) h10
            refine ⟨fun t w1 hf hk hp => ?_, ?_⟩
            · have h8 : slot t 8 = .bool (over A B) := hf 8 (by kernel_rfl)
              have h54 : slot t 54 = .bool true := hp 54 (by kernel_rfl)
              clear hf hp
              refine stepAt_on 54 true (by kernel_rfl) h54 ?_
              exact stepOK_move _ (.inl rfl) h8
            refine ⟨fun t w1 hf hk hp => ?_, ?_⟩
            · have h55 : slot t 55 = .bool (over A B) := hp 55 (by kernel_rfl)
              have h56 : slot t 56 = .bool (over A B) := hp 56 (by kernel_rfl)
              have h54 : slot t 54 = .bool true := hp 54 (by kernel_rfl)
              clear hf hp
              refine stepAt_on 54 true (by kernel_rfl) h54 ?_
              refine stepOK_pure (.bool true) ?_ rfl
              simp only [execOp, evS, h55, h56]
              go_simp
            refine ⟨fun t w1 hf hk hp => ?_, ?_⟩
            · have h54 : slot t 54 = .bool true := hp 54 (by kernel_rfl)
              have h57 : slot t 57 = .bool true := hp 57 (by kernel_rfl)
              clear hf hp
              refine stepAt_plain rfl ?_
              refine stepOK_pure (.bool true) ?_ rfl
              simp only [execOp, evS, h54, h57]
              go_simp
            refine ⟨fun t w1 hf hk hp => ?_, ?_⟩
            · have h58 : slot t 58 = .bool true := hp 58 (by kernel_rfl)
              clear hf hp
              refine stepAt_plain rfl ?_
              exact stepOK_move _ (.inl rfl) h58
            refine ⟨fun t w1 hf hk hp => ?_, ?_⟩
            · have h5 : slot t 5 = .pointer (some ⟨g5, 0, none⟩) := hf 5 (by kernel_rfl)
              have h59 : slot t 59 = .bool true := hp 59 (by kernel_rfl)
              clear hf hp
              refine stepAt_on 59 true (by kernel_rfl) h59 ?_
              have hq0 := Rowz.load (A5.out.kept (GK.out.trans hk)) 4 24 Try.underlying26 (infoN _ _)
              exact stepOK_sem (.agg (nC A 4)) (by simp only [execOp, evS, h5]) hq0 rfl
            refine ⟨fun t w1 hf hk hp => ?_, ?_⟩
            · have h6 : slot t 6 = .pointer (some ⟨g6, 0, none⟩) := hf 6 (by kernel_rfl)
              have h59 : slot t 59 = .bool true := hp 59 (by kernel_rfl)
              clear hf hp
              refine stepAt_on 59 true (by kernel_rfl) h59 ?_
              have hq0 := Rowz.load (A6.out.kept (GK.out.trans hk)) 4 24 Try.underlying26 (infoN _ _)
              exact stepOK_sem (.agg (nC B 4)) (by simp only [execOp, evS, h6]) hq0 rfl
            refine ⟨fun t w1 hf hk hp => ?_, ?_⟩
            · have h60 : slot t 60 = .agg (nC A 4) := hp 60 (by kernel_rfl)
              have h61 : slot t 61 = .agg (nC B 4) := hp 61 (by kernel_rfl)
              have h59 : slot t 59 = .bool true := hp 59 (by kernel_rfl)
              clear hf hp
              refine stepAt_on 59 true (by kernel_rfl) h59 ?_
              refine stepOK_call #[.agg (nC A 4), .agg (nC B 4)] rfl (by simp only [List.map_toArray, List.map_cons, List.map_nil, evS, h60, h61]) (by go_simp) ((wideCmp_any A B w1 HA.out HB.out).mono fun e w' ⟨he, hk'⟩ => ⟨_, he, Grown.kept hk', rfl⟩)
            refine ⟨fun t w1 hf hk hp => ?_, ?_⟩
            · have h11 : slot t 11 = .int .i64 (cmpN A B) := hf 11 (by kernel_rfl)
              have h59 : slot t 59 = .bool true := hp 59 (by kernel_rfl)
              clear hf hp
              refine stepAt_on 59 true (by kernel_rfl) h59 ?_
              exact stepOK_move _ (.inl rfl) h11
            refine ⟨fun t w1 hf hk hp => ?_, ?_⟩
            · have h62 : slot t 62 = .int .i64 (cmpN A B) := hp 62 (by kernel_rfl)
              have h63 : slot t 63 = .int .i64 (cmpN A B) := hp 63 (by kernel_rfl)
              have h59 : slot t 59 = .bool true := hp 59 (by kernel_rfl)
              clear hf hp
              refine stepAt_on 59 true (by kernel_rfl) h59 ?_
              refine stepOK_pure (.bool true) ?_ rfl
              simp only [execOp, evS, h62, h63]
              go_simp
            refine ⟨fun t w1 hf hk hp => ?_, ?_⟩
            · have h59 : slot t 59 = .bool true := hp 59 (by kernel_rfl)
              have h64 : slot t 64 = .bool true := hp 64 (by kernel_rfl)
              clear hf hp
              refine stepAt_plain rfl ?_
              refine stepOK_pure (.bool true) ?_ rfl
              simp only [execOp, evS, h59, h64]
              go_simp
            refine ⟨fun t w1 hf hk hp => ?_, ?_⟩
            · have h65 : slot t 65 = .bool true := hp 65 (by kernel_rfl)
              clear hf hp
              refine stepAt_plain rfl ?_
              exact stepOK_move _ (.inl rfl) h65
            refine ⟨fun t w1 hf hk hp => ?_, ?_⟩
            · have h66 : slot t 66 = .bool true := hp 66 (by kernel_rfl)
              clear hf hp
              refine stepAt_on 66 true (by kernel_rfl) h66 ?_
              refine stepOK_call #[] rfl (by simp only [List.map_toArray, List.map_nil]) (by go_simp) ((awake4_any w1).mono fun e w' ⟨he, hk'⟩ => ⟨_, he, hk', rfl⟩)
            refine ⟨fun t w1 hf hk hp => ?_, ?_⟩
            · have h66 : slot t 66 = .bool true := hp 66 (by kernel_rfl)
              have h67 : slot t 67 = .bool true := hp 67 (by kernel_rfl)
              clear hf hp
              refine stepAt_plain rfl ?_
              refine stepOK_pure (.bool true) ?_ rfl
              simp only [execOp, evS, h66, h67]
              go_simp
            refine ⟨fun t w1 hf hk hp => ?_, ?_⟩
            · have h68 : slot t 68 = .bool true := hp 68 (by kernel_rfl)
              clear hf hp
              refine stepAt_plain rfl ?_
              exact stepOK_move _ (.inr rfl) h68
            exact trivial
          · intro t w1 hsz hf hk hfacts
            have h4 : slot t 4 = .bool true := hfacts 4 (by kernel_rfl)
            have h5 : slot t 5 = .pointer (some ⟨g5, 0, none⟩) := hf 5 (by kernel_rfl)
            have h6 : slot t 6 = .pointer (some ⟨g6, 0, none⟩) := hf 6 (by kernel_rfl)
            have h8 : slot t 8 = .bool (over A B) := hf 8 (by kernel_rfl)
            have h9 : slot t 9 = .pointer (some ⟨w3.heap.size, 0, none⟩) := hf 9 (by kernel_rfl)
            have h10 : slot t 10 = .bool (over A B) := hf 10 (by kernel_rfl)
            have h11 : slot t 11 = .int .i64 (cmpN A B) := hf 11 (by kernel_rfl)
            have harr : t = #[slot t 0, slot t 1, slot t 2, slot t 3, slot t 4, slot t 5, slot t 6, slot t 7, slot t 8, slot t 9, slot t 10, slot t 11, slot t 12, slot t 13, slot t 14, slot t 15, slot t 16, slot t 17, slot t 18, slot t 19, slot t 20, slot t 21, slot t 22, slot t 23, slot t 24, slot t 25, slot t 26, slot t 27, slot t 28, slot t 29, slot t 30, slot t 31, slot t 32, slot t 33, slot t 34, slot t 35, slot t 36, slot t 37, slot t 38, slot t 39, slot t 40, slot t 41, slot t 42, slot t 43, slot t 44, slot t 45, slot t 46, slot t 47, slot t 48, slot t 49, slot t 50, slot t 51, slot t 52, slot t 53, slot t 54, slot t 55, slot t 56, slot t 57, slot t 58, slot t 59, slot t 60, slot t 61, slot t 62, slot t 63, slot t 64, slot t 65, slot t 66, slot t 67, slot t 68] := arr_eq t 69 hsz
            rw [harr, h4, h5, h6, h8, h9, h10, h11]
            clear harr hfacts hf h4 h5 h6 h8 h9 h10 h11
            generalize slot t 0 = x0; generalize slot t 1 = x1; generalize slot t 2 = x2; generalize slot t 3 = x3; generalize slot t 7 = x7; generalize slot t 12 = x12; generalize slot t 13 = x13; generalize slot t 14 = x14; generalize slot t 15 = x15; generalize slot t 16 = x16; generalize slot t 17 = x17; generalize slot t 18 = x18
            generalize slot t 19 = x19; generalize slot t 20 = x20; generalize slot t 21 = x21; generalize slot t 22 = x22; generalize slot t 23 = x23; generalize slot t 24 = x24; generalize slot t 25 = x25; generalize slot t 26 = x26; generalize slot t 27 = x27; generalize slot t 28 = x28; generalize slot t 29 = x29; generalize slot t 30 = x30
            generalize slot t 31 = x31; generalize slot t 32 = x32; generalize slot t 33 = x33; generalize slot t 34 = x34; generalize slot t 35 = x35; generalize slot t 36 = x36; generalize slot t 37 = x37; generalize slot t 38 = x38; generalize slot t 39 = x39; generalize slot t 40 = x40; generalize slot t 41 = x41; generalize slot t 42 = x42
            generalize slot t 43 = x43; generalize slot t 44 = x44; generalize slot t 45 = x45; generalize slot t 46 = x46; generalize slot t 47 = x47; generalize slot t 48 = x48; generalize slot t 49 = x49; generalize slot t 50 = x50; generalize slot t 51 = x51; generalize slot t 52 = x52; generalize slot t 53 = x53; generalize slot t 54 = x54
            generalize slot t 55 = x55; generalize slot t 56 = x56; generalize slot t 57 = x57; generalize slot t 58 = x58; generalize slot t 59 = x59; generalize slot t 60 = x60; generalize slot t 61 = x61; generalize slot t 62 = x62; generalize slot t 63 = x63; generalize slot t 64 = x64; generalize slot t 65 = x65; generalize slot t 66 = x66
            generalize slot t 67 = x67; generalize slot t 68 = x68
            clear hsz t
            simp only [List.drop_succ_cons, List.drop_zero]
            go_wp2
            go_ret
            exact ⟨rfl, (AK.out.trans GK.out).trans hk⟩
        · go_wp2_with (refine park_at 51 rfl ?_)
          have hs1 : ∀ w1, (Op.equalIn 10000 26 (.agg (nC A 4)) (.agg (nC A 4))).run Try.prog w1 = .ok true w1 := fun w1 => by have := sameN A A HA.out HA.out w1; simpa using this
          refine unpark ?_
          refine wpList_table 19 [(51, .is (.agg (nC A 4))), (52, .is (.agg (nC A 4))), (53, .is (.bool true)), (54, .is (.bool true)), (55, .is (.bool (over A B))), (56, .is (.bool (over A B))), (57, .is (.bool true)), (58, .is (.bool true)), (59, .is (.bool true)), (60, .is (.agg (nC A 4))), (61, .is (.agg (nC B 4))), (62, .is (.int .i64 (cmpN A B))), (63, .is (.int .i64 (cmpN A B))), (64, .is (.bool true)), (65, .is (.bool true)), (66, .is (.bool true)), (67, .is (.bool true)), (68, .is (.bool true)), (4, .is (.bool true))] (by kernel_rfl) ?_ ?_
          · refine ⟨fun t w1 hf hk hp => ?_, ?_⟩
            · have h9 : slot t 9 = .pointer (some ⟨w3.heap.size, 0, none⟩) := hf 9 (by kernel_rfl)
              clear hf hp
              refine stepAt_plain rfl ?_
              have hq0 := Rowz.load (A9.out.kept (GK.out.trans hk)) 4 24 Try.underlying26 (infoN _ _)
              exact stepOK_sem (.agg (nC A 4)) (by simp only [execOp, evS, h9]) hq0 rfl
            refine ⟨fun t w1 hf hk hp => ?_, ?_⟩
            · have h5 : slot t 5 = .pointer (some ⟨g5, 0, none⟩) := hf 5 (by kernel_rfl)
              clear hf hp
              refine stepAt_plain rfl ?_
              have hq0 := Rowz.load (A5.out.kept (GK.out.trans hk)) 4 24 Try.underlying26 (infoN _ _)
              exact stepOK_sem (.agg (nC A 4)) (by simp only [execOp, evS, h5]) hq0 rfl
            refine ⟨fun t w1 hf hk hp => ?_, ?_⟩
            · have h51 : slot t 51 = .agg (nC A 4) := hp 51 (by kernel_rfl)
              have h52 : slot t 52 = .agg (nC A 4) := hp 52 (by kernel_rfl)
              clear hf hp
              refine stepAt_plain rfl ?_
              have hq0 := hs1 w1
              have hq1 := guardN
              refine stepOK_pure (.bool true) ?_ rfl
              simp only [execOp, evS, h51, h52]
              go_simp
            refine ⟨fun t w1 hf hk hp => ?_, ?_⟩
            · have h53 : slot t 53 = .bool true := hp 53 (by kernel_rfl)
              clear hf hp
              refine stepAt_plain rfl ?_
              exact stepOK_move _ (.inl rfl) h53
            refine ⟨fun t w1 hf hk hp => ?_, ?_⟩
            · have h10 : slot t 10 = .bool (over A B) := hf 10 (by kernel_rfl)
              have h54 : slot t 54 = .bool true := hp 54 (by kernel_rfl)
              clear hf hp
              refine stepAt_on 54 true (by kernel_rfl) h54 ?_
              exact stepOK_move _ (.inl rfl) h10
            refine ⟨fun t w1 hf hk hp => ?_, ?_⟩
            · have h8 : slot t 8 = .bool (over A B) := hf 8 (by kernel_rfl)
              have h54 : slot t 54 = .bool true := hp 54 (by kernel_rfl)
              clear hf hp
              refine stepAt_on 54 true (by kernel_rfl) h54 ?_
              exact stepOK_move _ (.inl rfl) h8
            refine ⟨fun t w1 hf hk hp => ?_, ?_⟩
            · have h55 : slot t 55 = .bool (over A B) := hp 55 (by kernel_rfl)
              have h56 : slot t 56 = .bool (over A B) := hp 56 (by kernel_rfl)
              have h54 : slot t 54 = .bool true := hp 54 (by kernel_rfl)
              clear hf hp
              refine stepAt_on 54 true (by kernel_rfl) h54 ?_
              refine stepOK_pure (.bool true) ?_ rfl
              simp only [execOp, evS, h55, h56]
              go_simp
            refine ⟨fun t w1 hf hk hp => ?_, ?_⟩
            · have h54 : slot t 54 = .bool true := hp 54 (by kernel_rfl)
              have h57 : slot t 57 = .bool true := hp 57 (by kernel_rfl)
              clear hf hp
              refine stepAt_plain rfl ?_
              refine stepOK_pure (.bool true) ?_ rfl
              simp only [execOp, evS, h54, h57]
              go_simp
            refine ⟨fun t w1 hf hk hp => ?_, ?_⟩
            · have h58 : slot t 58 = .bool true := hp 58 (by kernel_rfl)
              clear hf hp
              refine stepAt_plain rfl ?_
              exact stepOK_move _ (.inl rfl) h58
            refine ⟨fun t w1 hf hk hp => ?_, ?_⟩
            · have h5 : slot t 5 = .pointer (some ⟨g5, 0, none⟩) := hf 5 (by kernel_rfl)
              have h59 : slot t 59 = .bool true := hp 59 (by kernel_rfl)
              clear hf hp
              refine stepAt_on 59 true (by kernel_rfl) h59 ?_
              have hq0 := Rowz.load (A5.out.kept (GK.out.trans hk)) 4 24 Try.underlying26 (infoN _ _)
              exact stepOK_sem (.agg (nC A 4)) (by simp only [execOp, evS, h5]) hq0 rfl
            refine ⟨fun t w1 hf hk hp => ?_, ?_⟩
            · have h6 : slot t 6 = .pointer (some ⟨g6, 0, none⟩) := hf 6 (by kernel_rfl)
              have h59 : slot t 59 = .bool true := hp 59 (by kernel_rfl)
              clear hf hp
              refine stepAt_on 59 true (by kernel_rfl) h59 ?_
              have hq0 := Rowz.load (A6.out.kept (GK.out.trans hk)) 4 24 Try.underlying26 (infoN _ _)
              exact stepOK_sem (.agg (nC B 4)) (by simp only [execOp, evS, h6]) hq0 rfl
            refine ⟨fun t w1 hf hk hp => ?_, ?_⟩
            · have h60 : slot t 60 = .agg (nC A 4) := hp 60 (by kernel_rfl)
              have h61 : slot t 61 = .agg (nC B 4) := hp 61 (by kernel_rfl)
              have h59 : slot t 59 = .bool true := hp 59 (by kernel_rfl)
              clear hf hp
              refine stepAt_on 59 true (by kernel_rfl) h59 ?_
              refine stepOK_call #[.agg (nC A 4), .agg (nC B 4)] rfl (by simp only [List.map_toArray, List.map_cons, List.map_nil, evS, h60, h61]) (by go_simp) ((wideCmp_any A B w1 HA.out HB.out).mono fun e w' ⟨he, hk'⟩ => ⟨_, he, Grown.kept hk', rfl⟩)
            refine ⟨fun t w1 hf hk hp => ?_, ?_⟩
            · have h11 : slot t 11 = .int .i64 (cmpN A B) := hf 11 (by kernel_rfl)
              have h59 : slot t 59 = .bool true := hp 59 (by kernel_rfl)
              clear hf hp
              refine stepAt_on 59 true (by kernel_rfl) h59 ?_
              exact stepOK_move _ (.inl rfl) h11
            refine ⟨fun t w1 hf hk hp => ?_, ?_⟩
            · have h62 : slot t 62 = .int .i64 (cmpN A B) := hp 62 (by kernel_rfl)
              have h63 : slot t 63 = .int .i64 (cmpN A B) := hp 63 (by kernel_rfl)
              have h59 : slot t 59 = .bool true := hp 59 (by kernel_rfl)
              clear hf hp
              refine stepAt_on 59 true (by kernel_rfl) h59 ?_
              refine stepOK_pure (.bool true) ?_ rfl
              simp only [execOp, evS, h62, h63]
              go_simp
            refine ⟨fun t w1 hf hk hp => ?_, ?_⟩
            · have h59 : slot t 59 = .bool true := hp 59 (by kernel_rfl)
              have h64 : slot t 64 = .bool true := hp 64 (by kernel_rfl)
              clear hf hp
              refine stepAt_plain rfl ?_
              refine stepOK_pure (.bool true) ?_ rfl
              simp only [execOp, evS, h59, h64]
              go_simp
            refine ⟨fun t w1 hf hk hp => ?_, ?_⟩
            · have h65 : slot t 65 = .bool true := hp 65 (by kernel_rfl)
              clear hf hp
              refine stepAt_plain rfl ?_
              exact stepOK_move _ (.inl rfl) h65
            refine ⟨fun t w1 hf hk hp => ?_, ?_⟩
            · have h66 : slot t 66 = .bool true := hp 66 (by kernel_rfl)
              clear hf hp
              refine stepAt_on 66 true (by kernel_rfl) h66 ?_
              refine stepOK_call #[] rfl (by simp only [List.map_toArray, List.map_nil]) (by go_simp) ((awake4_any w1).mono fun e w' ⟨he, hk'⟩ => ⟨_, he, hk', rfl⟩)
            refine ⟨fun t w1 hf hk hp => ?_, ?_⟩
            · have h66 : slot t 66 = .bool true := hp 66 (by kernel_rfl)
              have h67 : slot t 67 = .bool true := hp 67 (by kernel_rfl)
              clear hf hp
              refine stepAt_plain rfl ?_
              refine stepOK_pure (.bool true) ?_ rfl
              simp only [execOp, evS, h66, h67]
              go_simp
            refine ⟨fun t w1 hf hk hp => ?_, ?_⟩
            · have h68 : slot t 68 = .bool true := hp 68 (by kernel_rfl)
              clear hf hp
              refine stepAt_plain rfl ?_
              exact stepOK_move _ (.inr rfl) h68
            exact trivial
          · intro t w1 hsz hf hk hfacts
            have h4 : slot t 4 = .bool true := hfacts 4 (by kernel_rfl)
            have h5 : slot t 5 = .pointer (some ⟨g5, 0, none⟩) := hf 5 (by kernel_rfl)
            have h6 : slot t 6 = .pointer (some ⟨g6, 0, none⟩) := hf 6 (by kernel_rfl)
            have h8 : slot t 8 = .bool (over A B) := hf 8 (by kernel_rfl)
            have h9 : slot t 9 = .pointer (some ⟨w3.heap.size, 0, none⟩) := hf 9 (by kernel_rfl)
            have h10 : slot t 10 = .bool (over A B) := hf 10 (by kernel_rfl)
            have h11 : slot t 11 = .int .i64 (cmpN A B) := hf 11 (by kernel_rfl)
            have harr : t = #[slot t 0, slot t 1, slot t 2, slot t 3, slot t 4, slot t 5, slot t 6, slot t 7, slot t 8, slot t 9, slot t 10, slot t 11, slot t 12, slot t 13, slot t 14, slot t 15, slot t 16, slot t 17, slot t 18, slot t 19, slot t 20, slot t 21, slot t 22, slot t 23, slot t 24, slot t 25, slot t 26, slot t 27, slot t 28, slot t 29, slot t 30, slot t 31, slot t 32, slot t 33, slot t 34, slot t 35, slot t 36, slot t 37, slot t 38, slot t 39, slot t 40, slot t 41, slot t 42, slot t 43, slot t 44, slot t 45, slot t 46, slot t 47, slot t 48, slot t 49, slot t 50, slot t 51, slot t 52, slot t 53, slot t 54, slot t 55, slot t 56, slot t 57, slot t 58, slot t 59, slot t 60, slot t 61, slot t 62, slot t 63, slot t 64, slot t 65, slot t 66, slot t 67, slot t 68] := arr_eq t 69 hsz
            rw [harr, h4, h5, h6, h8, h9, h10, h11]
            clear harr hfacts hf h4 h5 h6 h8 h9 h10 h11
            generalize slot t 0 = x0; generalize slot t 1 = x1; generalize slot t 2 = x2; generalize slot t 3 = x3; generalize slot t 7 = x7; generalize slot t 12 = x12; generalize slot t 13 = x13; generalize slot t 14 = x14; generalize slot t 15 = x15; generalize slot t 16 = x16; generalize slot t 17 = x17; generalize slot t 18 = x18
            generalize slot t 19 = x19; generalize slot t 20 = x20; generalize slot t 21 = x21; generalize slot t 22 = x22; generalize slot t 23 = x23; generalize slot t 24 = x24; generalize slot t 25 = x25; generalize slot t 26 = x26; generalize slot t 27 = x27; generalize slot t 28 = x28; generalize slot t 29 = x29; generalize slot t 30 = x30
            generalize slot t 31 = x31; generalize slot t 32 = x32; generalize slot t 33 = x33; generalize slot t 34 = x34; generalize slot t 35 = x35; generalize slot t 36 = x36; generalize slot t 37 = x37; generalize slot t 38 = x38; generalize slot t 39 = x39; generalize slot t 40 = x40; generalize slot t 41 = x41; generalize slot t 42 = x42
            generalize slot t 43 = x43; generalize slot t 44 = x44; generalize slot t 45 = x45; generalize slot t 46 = x46; generalize slot t 47 = x47; generalize slot t 48 = x48; generalize slot t 49 = x49; generalize slot t 50 = x50; generalize slot t 51 = x51; generalize slot t 52 = x52; generalize slot t 53 = x53; generalize slot t 54 = x54
            generalize slot t 55 = x55; generalize slot t 56 = x56; generalize slot t 57 = x57; generalize slot t 58 = x58; generalize slot t 59 = x59; generalize slot t 60 = x60; generalize slot t 61 = x61; generalize slot t 62 = x62; generalize slot t 63 = x63; generalize slot t 64 = x64; generalize slot t 65 = x65; generalize slot t 66 = x66
            generalize slot t 67 = x67; generalize slot t 68 = x68
            clear hsz t
            simp only [List.drop_succ_cons, List.drop_zero]
            go_wp2
            go_ret
            exact ⟨rfl, (AK.out.trans GK.out).trans hk⟩

set_option maxRecDepth 100000 in
set_option maxHeartbeats 1000000 in
theorem lifted (os : Os) (started : os.Started) (H : Type) (enc : TypeId × Value → H) :
    ReturnsInHanded {} Try.checked os 6 .any (Rows.wideBackSpec.pre6 enc Try.prog Try.f6 Rows.wideBackRow.domain false) (Rows.wideBackSpec.post enc Try.prog Try.f6 false true false false) := by
  refine returnsInHanded_of_change_sized (C := Try.checked) own started (by kernel_rfl) Try.func6
    (ChangeSpec.witness6 (enc := enc) (C := Try.checked) false ⟨#[], #[.agg #[.int .u8 0, .int .u8 0, .int .u8 0, .int .u8 0, .int .u8 0, .int .u8 0, .int .u8 0, .int .u8 0, .int .u8 0, .int .u8 0, .int .u8 0, .int .u8 0, .int .u8 0, .int .u8 0, .int .u8 0, .int .u8 0, .int .u8 0, .int .u8 0, .int .u8 0, .int .u8 0, .int .u8 0, .int .u8 0, .int .u8 0, .int .u8 0, .int .u8 0, .int .u8 0, .int .u8 0, .int .u8 0, .int .u8 0, .int .u8 0, .int .u8 0, .int .u8 0], .agg #[.int .u8 0, .int .u8 0, .int .u8 0, .int .u8 0, .int .u8 0, .int .u8 0, .int .u8 0, .int .u8 0, .int .u8 0, .int .u8 0, .int .u8 0, .int .u8 0, .int .u8 0, .int .u8 0, .int .u8 0, .int .u8 0, .int .u8 0, .int .u8 0, .int .u8 0, .int .u8 0, .int .u8 0, .int .u8 0, .int .u8 0, .int .u8 0, .int .u8 0, .int .u8 0, .int .u8 0, .int .u8 0, .int .u8 0, .int .u8 0, .int .u8 0, .int .u8 0]], []⟩ 8 (by kernel_rfl) (by kernel_rfl) (by kernel_rfl) (by kernel_rfl)) ?_
  intro W base args ds gs before hval0 hW hcnd hsz0 _
  have hval : ∀ (j : Nat) t v, Try.f6.params[j]? = some t → args[j]? = some v → Value.okWide Try.prog W .any base t v := hval0
  have hsz : (DataW.weightsEach Try.prog (Try.f6.params.toList ++ Rows.wideBackSpec.plain.varTypes Try.prog) (ds ++ gs)).all (· ≤ reachBytes) = true := hsz0
  have hW' := hW
  obtain ⟨p, q, hA0, hV, rfl, hfz, hnd⟩ := hW
  have hA : DataW.TrodAll enc Try.prog W 0 (fun _ => true) true Try.f6.params.toList args.toList ds p := hA0
  have hAk := hA
  rw [Try.params6] at hA hval hsz
  obtain ⟨v0, vs0, d0, ds0, p0_, q0_, hargs, rfl, rfl, h0, r0_⟩ := trodAll_cons hA
  obtain ⟨v1, vs1, d1, ds1, p1_, q1_, rfl, rfl, rfl, h1, r1_⟩ := trodAll_cons r0_
  obtain ⟨rfl, rfl, rfl⟩ := trodAll_nil r1_
  obtain rfl : args = #[v0, v1] := by cases args; simp_all
  obtain ⟨rfl, rfl⟩ := trodVars_none hV
  have hlt : ∀ x ∈ (p0_ ++ (p1_ ++ ([]))), x.block < W.heap.size := fun x hx => by simpa using hW'.lt x (by simpa using hx)
  obtain ⟨cs0, rfl⟩ : ∃ cs, v0 = .agg cs := by
    have := hval 0 23 v0 rfl rfl
    simp only [Value.okWide, Try.underlying23] at this
    obtain ⟨cs, h, _⟩ := this
    exact ⟨cs, h⟩
  obtain ⟨a0, n0, rfl⟩ := open_hash Try.underlying23 Try.underlying5 (by kernel_rfl) (by kernel_rfl) h0
  obtain ⟨cs1, rfl⟩ : ∃ cs, v1 = .agg cs := by
    have := hval 1 23 v1 rfl rfl
    simp only [Value.okWide, Try.underlying23] at this
    obtain ⟨cs, h, _⟩ := this
    exact ⟨cs, h⟩
  obtain ⟨a1, n1, rfl⟩ := open_hash Try.underlying23 Try.underlying5 (by kernel_rfl) (by kernel_rfl) h1
  clear hA0 hval0
  refine (walk a0 n0 a1 n1 W ).mono fun e W' ⟨he, hg⟩ => ?_
  subst he
  exact ⟨_, rfl, ⟨_, _, _, [], _, [], hW', trodAll_cons_mk (shut_bool Try.underlying4 _) trodAll_mk0, trodAll_stays laidOut hg (by kernel_rfl) hAk hlt (fun x hx => by simpa using hlt x hx), rfl, Kept.frame hg _, fun h => by cases h⟩⟩

theorem over : Rows.wideBackRow.holds Try.pinned (OpenSpec.ofChange Rows.wideBackSpec) :=
  OpenClaim.holds_of_wide 6 Try.f6 rfl rfl rfl rfl rfl rfl rfl ⟨rfl, rfl, rfl, rfl, rfl⟩ rfl rfl rfl rfl rfl (by kernel_rfl) Try.func6 (by kernel_rfl)
    (of_decide_eq_true (by kernel_rfl)) (by unfold Func.isWrapper; first | (rw [if_pos (by decide +kernel)]; kernel_rfl) | (rw [if_neg (by decide +kernel)]; exact ⟨rfl, rfl⟩))
    (fun os started H enc _ => lifted os started H enc)
end Go.Proofs.Ytpgmnkmbekikeaa.wideBack
namespace Go.Proofs.Ytpgmnkmbekikeaa
theorem wideBack_holds : Rows.WideBackSaid := wideBack.over
#print axioms wideBack_holds
end Go.Proofs.Ytpgmnkmbekikeaa
