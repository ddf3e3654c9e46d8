/-
  What Open tells of any leaf is valid and holds for that leaf and the list's root, and the hashes on its way end with the top; the law's example holds: 'HoldOpened' returns true for every input.
  Conditions: those of the given card (sha's table of round constants as the program's text lays it).
-/
import Derived.Test.YtljkhlbfjcbkiaaDoorRows
import Derived.Test.YtljkhlbfjcbkiaaDoorHoldLaw
import Derived.Test.YtljkhlbfjcbkiaaDoorOpe
import Derived.WalkKit
import Derived.ProofKit
import Derived.OpenShut
import Derived.ShutString
import Derived.SizedLaws
import Derived.Test.YtljkhlbfjcbkiaaDoorBas
import Derived.LaidMore
import Derived.SevenTiedAt
import Derived.Test.YtljkhlbfjcbkiaaDoorCards
import Derived.Test.YtljkhlbfjcbkiaaDoorTie
import Derived.Test.YtljkhlbfjcbkiaaDoorShb
namespace Go.Proofs.YtljkhlbfjcbkiaaDoor.holdOpened
open Go.ChangeShapes Go.WideShapes Go.ChangeAt Go.RowKit
open Go.ChangeMaps (open_string shut_string)
set_option linter.unusedVariables false

theorem own : ownKnob Tryd.prog.godebug = none := by kernel_rfl
theorem laidOut : laidOutB Tryd.prog = true := by kernel_rfl

set_option maxRecDepth 100000 in
set_option maxHeartbeats 4000000 in
theorem walk (p0 : Option Addr) (n0 c0 : Nat) (S0 : Nat → ByteArray) (z0 : n0 ≤ c0 ∧ c0 ≤ maxLen) (r0 : ∀ i, i < n0 → (S0 i).size ≤ 140737488351232) (a1 : Int) (w1 : (Lit.int .i64 a1).wf = true) (w : World) (e0 : SAt w p0 n0 S0) (hT : Tab w) :
    Calls Tryd.prog 4 #[.slice p0 n0 c0, .int .i64 a1] w fun e w' => e = .returned (.bool true) ∧ Kept w w' := by
  have HM := Lib.hid (much12_any p0 n0 c0 S0 w e0 r0 (by unfold maxLen at z0; omega))
  have HT := Lib.hid hT
  have HS := Lib.hid e0
  clear e0 r0 z0 hT w1
  go_enter Tryd.func4, Tryd.ntmps4
  go_wp2_with fail
  refine HM.out.mono ?_
  rintro e u0 ⟨B, rfl, rfl, hB⟩
  have HA : Hid (∀ w, Tab w → _) := Lib.hid fun w ht => awake14_any w ht
  cases B with
  | true =>
    go_wp2_with fail
    refine (HA.out w HT.out).mono ?_
    rintro e u1 ⟨rfl, k1⟩
    replace k1 := Lib.hid k1
    go_wp2_with fail
    go_ret
    exact ⟨rfl, k1.out⟩
  | false =>
    obtain ⟨hn, hz⟩ := hB rfl
    clear hB HM
    have hz' : ∀ i, i < n0 → (S0 i).size ≤ 1000000 := fun i hi => Nat.le_trans (hz i hi) (by omega)
    have H1 : Hid (∀ w, SAt w p0 n0 S0 → Tab w → _) := Lib.hid fun w hS ht => openOpen_at p0 n0 c0 S0 a1 w hS hz' (by omega) ht
    by_cases hi : 0 ≤ a1 ∧ a1 < (n0 : Int)
    · have hE : opE n0 a1 = 0 := if_pos hi
      rw [hE] at H1
      have hme := may_opL S0 n0 a1 hi (by omega)
      have hrt := rt_opL S0 n0 a1 hi (by omega)
      have hup := up_opL S0 n0 a1 hi (by omega)
      have hs : (S0 a1.toNat).size ≤ 1000000 := hz' _ (by omega)
      have hlen : (upO (S0 a1.toNat) (opI n0 a1) (opC n0 a1) (opL S0 n0 a1).length (lh (opL S0 n0 a1))).length = (opL S0 n0 a1).length + 1 := by
        rw [upO, if_pos hme]; exact upsL_length _ _ _ _ _ _
      have hl32 : ∀ x ∈ upO (S0 a1.toNat) (opI n0 a1) (opC n0 a1) (opL S0 n0 a1).length (lh (opL S0 n0 a1)), x.length = 32 := by
        obtain ⟨i, n, h1, h2, h3, h4, h5, h6⟩ := mayE_nat hme
        rw [upO, if_pos hme]
        exact upsL_32 _ _ _ _ _ (by rw [h1, h2]; exact h5)
      have hm63 : (opL S0 n0 a1).length ≤ 63 := by obtain ⟨i, n, _, _, _, _, _, h6⟩ := mayE_nat hme; exact h6
      have HUp : Hid (∀ (v : Value) (w : World), HSl (opL S0 n0 a1).length (lh (opL S0 n0 a1)) v w → Tab w → _) := Lib.hid fun v w h ht => PaS.mono 0 (Nat.zero_le _) (holdUp_any (S0 a1.toNat) hs (opI n0 a1) (opC n0 a1) _ _ v w h ht)
      have HMy : Hid (∀ (p : Option Addr) (c : Nat) (w : World), Calls Tryd.prog 9 #[.agg #[.int .i64 (opI n0 a1), .int .i64 (opC n0 a1), .slice p (opL S0 n0 a1).length c]] w fun e w' => e = .returned (.int .i64 0) ∧ Kept w w') := Lib.hid fun p c w => by
        have := holdMay_any (opI n0 a1) (opC n0 a1) p (opL S0 n0 a1).length c w
        rwa [hme] at this
      have HR : Hid (∀ w, SAt w p0 n0 S0 → Tab w → _) := Lib.hid fun w hS ht => treeRoot_any p0 n0 c0 S0 w hS hz' (by omega) ht
      have hr32 : (rootL S0 n0).length = 32 := shaL_length _
      have HC : Hid (∀ (v : Value) (w : World), HSl (opL S0 n0 a1).length (lh (opL S0 n0 a1)) v w → Tab w → Calls Tryd.prog 11 #[.agg (bC 32 (rootL S0 n0)), .string (S0 a1.toNat), .agg #[.int .i64 (opI n0 a1), .int .i64 (opC n0 a1), v]] w fun e w' => e = .returned (.bool true) ∧ Kept w w') := Lib.hid fun v w h ht => by
        have := holdCheck_any (rootL S0 n0) hr32 (S0 a1.toNat) hs (opI n0 a1) (opC n0 a1) _ _ v w h ht
        have e : ckO (rootL S0 n0) (S0 a1.toNat) (opI n0 a1) (opC n0 a1) (opL S0 n0 a1).length (lh (opL S0 n0 a1)) = true := decide_eq_true ⟨hme, hrt⟩
        rwa [e] at this
      have HL : Hid (∀ w, SAt w p0 n0 S0 → Tab w → Calls Tryd.prog 18 #[.slice p0 n0 c0] w fun e w' => ∃ v, e = .returned v ∧ HSl n0 (lf S0) v w' ∧ Kept w w') := Lib.hid fun w hS ht => (treeLeaves_any p0 n0 c0 S0 w hS hz' (by omega) ht).mono fun e w' ⟨g, he, hr, hk⟩ => ⟨_, he, HSl.ofRow hr (by omega), hk⟩
      have HTp : Hid (∀ v w, HSl n0 (lf S0) v w → Tab w → _) := Lib.hid fun v w hv ht => (treeTop_any n0).at hv ht
      have ht32 : (topN (lf S0) n0).length = 32 := top_lf_length S0 n0
      obtain ⟨k, rfl⟩ := Int.eq_ofNat_of_zero_le hi.1
      have hk0 : k < n0 := by omega
      have hd1 : decide ((k : Int) < 0) = false := decide_eq_false (by omega)
      have hd2 : decide ((k : Int) ≥ (n0 : Int)) = false := decide_eq_false (by omega)
      have hd2' : decide (n0 ≤ k) = false := decide_eq_false (by omega)
      simp only [Int.toNat_natCast] at hup hlen hl32 HUp HC
      clear hz hz' hn hi hE hme hrt hs hr32
      generalize upO (S0 k) (opI n0 (k : Int)) (opC n0 (k : Int)) (opL S0 n0 (k : Int)).length (lh (opL S0 n0 (k : Int))) = L at HUp hup hlen hl32
      generalize lh (opL S0 n0 (k : Int)) = F at H1 HUp HC
      generalize (opL S0 n0 (k : Int)).length = m at H1 HUp HC HMy hup hlen hm63
      generalize opI n0 (k : Int) = I at H1 HUp HC HMy
      generalize opC n0 (k : Int) = N at H1 HUp HC HMy
      generalize rootL S0 n0 = A at HR HC
      generalize topN (lf S0) n0 = B at HTp hup ht32
      replace hup := Lib.hid hup
      replace hlen := Lib.hid hlen
      replace hl32 := Lib.hid hl32
      go_wp2_with fail
      refine (H1.out w HS.out HT.out).mono ?_
      rintro e u1 ⟨q, cc, rfl, hx, k1⟩
      have Y1 := Lib.hid hx
      have K1 := Lib.hid k1
      clear hx k1 H1
      go_wp2_with (refine wpList_store_made rfl 26 _ _ rfl _ _ #[.int .i64 I, .int .i64 N, .slice q m cc] rfl rfl 26 _ rfl (opR_size I N (.slice q m cc)) rfl (opR_one I N q m cc) ?_; intro u2 R1 k2)
      have Y2 := Lib.hid (HSl.kept _ _ _ _ _ k2.out Y1.out)
      have K2 := Lib.hid (K1.out.trans k2.out)
      clear k2 K1 Y1
      obtain ⟨g5, hg5⟩ : ∃ g, g = u1.heap.size := ⟨_, rfl⟩
      rw [← hg5] at R1 ⊢
      clear hg5
      obtain ⟨q0, rfl, _⟩ := HS.out.some (by omega)
      refine wp_region_table [(32, .is (.slice (some q0) n0 c0)), (33, .is (.int .i64 (k : Int))), (34, .is (.pointer (some (q0.add k)))), (35, .is (.string (S0 k))), (36, .is (.agg #[.int .i64 I, .int .i64 N, .slice q m cc])), (37, .such (PaS 0 L) (PaS.kept 0 L)), (7, .such (PaS 0 L) (PaS.kept 0 L))] (by kernel_rfl) (by kernel_rfl) ?_ ?_
      · refine ⟨fun t w1 hf hk hp => ?_, ?_⟩
        · have h0 : slot t 0 = .slice (some q0) n0 c0 := hf 0 (by kernel_rfl)
          clear hf hp
          refine stepAt_plain rfl ?_
          exact stepOK_move _ (.inl rfl) h0
        refine ⟨fun t w1 hf hk hp => ?_, ?_⟩
        · have h1 : slot t 1 = .int .i64 (k : Int) := hf 1 (by kernel_rfl)
          clear hf hp
          refine stepAt_plain rfl ?_
          exact stepOK_move _ (.inl rfl) h1
        refine ⟨fun t w1 hf hk hp => ?_, ?_⟩
        · have h32 : slot t 32 = .slice (some q0) n0 c0 := hp 32 (by kernel_rfl)
          have h33 : slot t 33 = .int .i64 (k : Int) := hp 33 (by kernel_rfl)
          clear hf hp
          refine stepAt_plain rfl ?_
          exact stepOK_pure (.pointer (some (q0.add k))) (execIndexS q0 n0 c0 k hk0 w1 rfl h32 h33) rfl
        refine ⟨fun t w1 hf hk hp => ?_, ?_⟩
        · have h34 : slot t 34 = .pointer (some (q0.add k)) := hp 34 (by kernel_rfl)
          clear hf hp
          refine stepAt_plain rfl ?_
          have hq0 := (HS.out.kept (K2.out.trans hk)).load k hk0
          exact stepOK_sem (.string (S0 k)) (by simp only [execOp, evS, h34]) hq0 rfl
        refine ⟨fun t w1 hf hk hp => ?_, ?_⟩
        · have h5 : slot t 5 = .pointer (some ⟨g5, 0, none⟩) := hf 5 (by kernel_rfl)
          clear hf hp
          refine stepAt_plain rfl ?_
          exact stepOK_pure (.agg #[.int .i64 I, .int .i64 N, .slice q m cc]) (loadO rfl h5 (R1.out.kept hk) rfl) rfl
        refine ⟨fun t w1 hf hk hp => ?_, ?_⟩
        · have h35 : slot t 35 = .string (S0 k) := hp 35 (by kernel_rfl)
          have h36 : slot t 36 = .agg #[.int .i64 I, .int .i64 N, .slice q m cc] := hp 36 (by kernel_rfl)
          clear hf hp
          refine stepAt_plain rfl ?_
          refine stepOK_call #[.string (S0 k), .agg #[.int .i64 I, .int .i64 N, .slice q m cc]] rfl (by simp only [List.map_toArray, List.map_cons, List.map_nil, evS, h35, h36]) (by go_simp) ((HUp.out (.slice q m cc) w1 (HSl.kept _ _ _ _ _ hk Y2.out) (HT.out.kept (K2.out.trans hk))).mono fun e w' ⟨v, he, hpv, hk'⟩ => ⟨v, he, hk', hpv⟩)
        refine ⟨fun t w1 hf hk hp => ?_, ?_⟩
        · obtain ⟨v37, h37, p37⟩ : ∃ v, slot t 37 = v ∧ (PaS 0 L) v w1 := ⟨_, rfl, hp 37 (by kernel_rfl)⟩
          clear hf hp
          refine stepAt_plain rfl ?_
          exact stepOK_move _ (.inr rfl) (by simp only [evS, h37]; exact p37)
        exact trivial
      · intro t w1 hsz hf hk hfacts
        obtain ⟨v7, h7, p7⟩ : ∃ v, slot t 7 = v ∧ (PaS 0 L) v w1 := ⟨_, rfl, hfacts 6 _ rfl 7 rfl⟩
        have h0 : slot t 0 = .slice (some q0) n0 c0 := hf 0 (by kernel_rfl)
        have h1 : slot t 1 = .int .i64 (k : Int) := hf 1 (by kernel_rfl)
        have h5 : slot t 5 = .pointer (some ⟨g5, 0, none⟩) := hf 5 (by kernel_rfl)
        have harr : t = #[slot t 0, slot t 1, slot t 2, slot t 3, slot t 4, slot t 5, slot t 6, slot t 7, slot t 8, slot t 9, slot t 10, slot t 11, slot t 12, slot t 13, slot t 14, slot t 15, slot t 16, slot t 17, slot t 18, slot t 19, slot t 20, slot t 21, slot t 22, slot t 23, slot t 24, slot t 25, slot t 26, slot t 27, slot t 28, slot t 29, slot t 30, slot t 31, slot t 32, slot t 33, slot t 34, slot t 35, slot t 36, slot t 37, slot t 38, slot t 39, slot t 40, slot t 41, slot t 42, slot t 43, slot t 44, slot t 45, slot t 46, slot t 47, slot t 48, slot t 49, slot t 50, slot t 51, slot t 52, slot t 53, slot t 54, slot t 55, slot t 56, slot t 57, slot t 58, slot t 59, slot t 60, slot t 61, slot t 62, slot t 63, slot t 64, slot t 65, slot t 66, slot t 67, slot t 68, slot t 69, slot t 70] := arr_eq t 71 hsz
        rw [harr, h7, h0, h1, h5]
        clear harr hfacts hf h7 h0 h1 h5
        generalize slot t 2 = x2; generalize slot t 3 = x3; generalize slot t 4 = x4; generalize slot t 6 = x6; generalize slot t 8 = x8; generalize slot t 9 = x9; generalize slot t 10 = x10; generalize slot t 11 = x11; generalize slot t 12 = x12; generalize slot t 13 = x13; generalize slot t 14 = x14; generalize slot t 15 = x15
        generalize slot t 16 = x16; generalize slot t 17 = x17; generalize slot t 18 = x18; generalize slot t 19 = x19; generalize slot t 20 = x20; generalize slot t 21 = x21; generalize slot t 22 = x22; generalize slot t 23 = x23; generalize slot t 24 = x24; generalize slot t 25 = x25; generalize slot t 26 = x26; generalize slot t 27 = x27
        generalize slot t 28 = x28; generalize slot t 29 = x29; generalize slot t 30 = x30; generalize slot t 31 = x31; generalize slot t 32 = x32; generalize slot t 33 = x33; generalize slot t 34 = x34; generalize slot t 35 = x35; generalize slot t 36 = x36; generalize slot t 37 = x37; generalize slot t 38 = x38; generalize slot t 39 = x39
        generalize slot t 40 = x40; generalize slot t 41 = x41; generalize slot t 42 = x42; generalize slot t 43 = x43; generalize slot t 44 = x44; generalize slot t 45 = x45; generalize slot t 46 = x46; generalize slot t 47 = x47; generalize slot t 48 = x48; generalize slot t 49 = x49; generalize slot t 50 = x50; generalize slot t 51 = x51
        generalize slot t 52 = x52; generalize slot t 53 = x53; generalize slot t 54 = x54; generalize slot t 55 = x55; generalize slot t 56 = x56; generalize slot t 57 = x57; generalize slot t 58 = x58; generalize slot t 59 = x59; generalize slot t 60 = x60; generalize slot t 61 = x61; generalize slot t 62 = x62; generalize slot t 63 = x63
        generalize slot t 64 = x64; generalize slot t 65 = x65; generalize slot t 66 = x66; generalize slot t 67 = x67; generalize slot t 68 = x68; generalize slot t 69 = x69; generalize slot t 70 = x70
        clear hsz t
        have HX := Lib.hid p7
        replace Y2 := Lib.hid (HSl.kept _ _ _ _ _ hk Y2.out)
        replace R1 := Lib.hid (R1.out.kept hk)
        have K3 := Lib.hid (K2.out.trans hk)
        clear hk K2 HUp p7
        have hx := HX.out.hsl hl32.out
        rw [hlen.out] at hx
        obtain ⟨x0, xc, rfl, _, _, hH⟩ := hx
        obtain ⟨xq, rfl, _⟩ := hH.some (by omega)
        have HH62 : Hid (∀ w2, Kept w1 w2 → (Instr.loadAt 23 (.pointer (some (xq.add (m * 32))))).run Tryd.prog w2 = .ok (.agg (bC 32 B)) w2) := Lib.hid fun w2 hk => by
          rw [← hup.out]; exact (hH.kept hk).load m (by omega)
        have hsub : IntKind.i64.wrap (m : Int) = (m : Int) := by simp only [IntKind.wrap, IntKind.signed, IntKind.bits]; simp; omega
        have hgt : decide (((m : Int) + 1) > 0) = true := decide_eq_true (by omega)
        have hgt' : decide ((0 : Int) < (m : Int) + 1) = true := decide_eq_true (by omega)
        clear hH hup hlen hl32 HX
        obtain ⟨v7, hv7⟩ : ∃ v7, v7 = w1 := ⟨_, rfl⟩
        subst hv7
        go_wp2_with fail
        refine wp_region_table [(38, .is (.agg #[.int .i64 I, .int .i64 N, .slice q m cc])), (39, .is (.int .i64 0)), (40, .is (.bool true)), (41, .is (.bool true)), (42, .is (.slice (some q0) n0 c0)), (43, .is (.agg (bC 32 A))), (44, .is (.slice (some q0) n0 c0)), (45, .is (.int .i64 (k : Int))), (46, .is (.pointer (some (q0.add k)))), (47, .is (.string (S0 k))), (48, .is (.agg #[.int .i64 I, .int .i64 N, .slice q m cc])), (49, .is (.bool true)), (50, .is (.bool true)), (51, .is (.bool true)), (52, .is (.slice (some xq) (m + 1) xc)), (53, .is (.int .i64 ((m : Int) + 1))), (54, .is (.bool true)), (55, .is (.bool true)), (56, .is (.bool true)), (57, .is (.slice (some xq) (m + 1) xc)), (58, .is (.slice (some xq) (m + 1) xc)), (59, .is (.int .i64 ((m : Int) + 1))), (60, .is (.int .i64 (m : Int))), (61, .is (.pointer (some (xq.add (m * 32))))), (62, .is (.agg (bC 32 B))), (63, .is (.slice (some q0) n0 c0)), (64, .such (HSl n0 (lf S0)) (HSl.kept n0 (lf S0))), (65, .is (.agg (bC 32 B))), (66, .is (.bool true)), (67, .is (.bool true)), (68, .is (.bool true)), (69, .is (.bool true)), (70, .is (.bool true)), (4, .is (.bool true))] (by kernel_rfl) (by kernel_rfl) ?_ ?_
        · refine ⟨fun t w1 hf hk hp => ?_, ?_⟩
          · have h5 : slot t 5 = .pointer (some ⟨g5, 0, none⟩) := hf 5 (by kernel_rfl)
            clear hf hp
            refine stepAt_plain rfl ?_
            exact stepOK_pure (.agg #[.int .i64 I, .int .i64 N, .slice q m cc]) (loadO rfl h5 (R1.out.kept hk) rfl) rfl
          refine ⟨fun t w1 hf hk hp => ?_, ?_⟩
          · have h38 : slot t 38 = .agg #[.int .i64 I, .int .i64 N, .slice q m cc] := hp 38 (by kernel_rfl)
            clear hf hp
            refine stepAt_plain rfl ?_
            refine stepOK_call #[.agg #[.int .i64 I, .int .i64 N, .slice q m cc]] rfl (by simp only [List.map_toArray, List.map_cons, List.map_nil, evS, h38]) (by go_simp) ((HMy.out q cc w1).mono fun e w' ⟨he, hk'⟩ => ⟨_, he, hk', rfl⟩)
          refine ⟨fun t w1 hf hk hp => ?_, ?_⟩
          · have h39 : slot t 39 = .int .i64 0 := hp 39 (by kernel_rfl)
            clear hf hp
            refine stepAt_plain rfl ?_
            refine stepOK_pure (.bool true) ?_ rfl
            simp only [execOp, evS, h39]
            go_simp
          refine ⟨fun t w1 hf hk hp => ?_, ?_⟩
          · have h40 : slot t 40 = .bool true := hp 40 (by kernel_rfl)
            clear hf hp
            refine stepAt_plain rfl ?_
            exact stepOK_move _ (.inl rfl) h40
          refine ⟨fun t w1 hf hk hp => ?_, ?_⟩
          · have h0 : slot t 0 = .slice (some q0) n0 c0 := hf 0 (by kernel_rfl)
            have h41 : slot t 41 = .bool true := hp 41 (by kernel_rfl)
            clear hf hp
            refine stepAt_on 41 true (by kernel_rfl) h41 ?_
            exact stepOK_move _ (.inl rfl) h0
          refine ⟨fun t w1 hf hk hp => ?_, ?_⟩
          · have h42 : slot t 42 = .slice (some q0) n0 c0 := hp 42 (by kernel_rfl)
            have h41 : slot t 41 = .bool true := hp 41 (by kernel_rfl)
            clear hf hp
            refine stepAt_on 41 true (by kernel_rfl) h41 ?_
            refine stepOK_call #[.slice (some q0) n0 c0] rfl (by simp only [List.map_toArray, List.map_cons, List.map_nil, evS, h42]) (by go_simp) ((HR.out w1 (HS.out.kept (K3.out.trans hk)) (HT.out.kept (K3.out.trans hk))).mono fun e w' ⟨he, hk'⟩ => ⟨_, he, hk', rfl⟩)
          refine ⟨fun t w1 hf hk hp => ?_, ?_⟩
          · have h0 : slot t 0 = .slice (some q0) n0 c0 := hf 0 (by kernel_rfl)
            have h41 : slot t 41 = .bool true := hp 41 (by kernel_rfl)
            clear hf hp
            refine stepAt_on 41 true (by kernel_rfl) h41 ?_
            exact stepOK_move _ (.inl rfl) h0
          refine ⟨fun t w1 hf hk hp => ?_, ?_⟩
          · have h1 : slot t 1 = .int .i64 (k : Int) := hf 1 (by kernel_rfl)
            have h41 : slot t 41 = .bool true := hp 41 (by kernel_rfl)
            clear hf hp
            refine stepAt_on 41 true (by kernel_rfl) h41 ?_
            exact stepOK_move _ (.inl rfl) h1
          refine ⟨fun t w1 hf hk hp => ?_, ?_⟩
          · have h44 : slot t 44 = .slice (some q0) n0 c0 := hp 44 (by kernel_rfl)
            have h45 : slot t 45 = .int .i64 (k : Int) := hp 45 (by kernel_rfl)
            have h41 : slot t 41 = .bool true := hp 41 (by kernel_rfl)
            clear hf hp
            refine stepAt_on 41 true (by kernel_rfl) h41 ?_
            exact stepOK_pure (.pointer (some (q0.add k))) (execIndexS q0 n0 c0 k hk0 w1 rfl h44 h45) rfl
          refine ⟨fun t w1 hf hk hp => ?_, ?_⟩
          · have h46 : slot t 46 = .pointer (some (q0.add k)) := hp 46 (by kernel_rfl)
            have h41 : slot t 41 = .bool true := hp 41 (by kernel_rfl)
            clear hf hp
            refine stepAt_on 41 true (by kernel_rfl) h41 ?_
            have hq0 := (HS.out.kept (K3.out.trans hk)).load k hk0
            exact stepOK_sem (.string (S0 k)) (by simp only [execOp, evS, h46]) hq0 rfl
          refine ⟨fun t w1 hf hk hp => ?_, ?_⟩
          · have h5 : slot t 5 = .pointer (some ⟨g5, 0, none⟩) := hf 5 (by kernel_rfl)
            have h41 : slot t 41 = .bool true := hp 41 (by kernel_rfl)
            clear hf hp
            refine stepAt_on 41 true (by kernel_rfl) h41 ?_
            exact stepOK_pure (.agg #[.int .i64 I, .int .i64 N, .slice q m cc]) (loadO rfl h5 (R1.out.kept hk) rfl) rfl
          refine ⟨fun t w1 hf hk hp => ?_, ?_⟩
          · have h43 : slot t 43 = .agg (bC 32 A) := hp 43 (by kernel_rfl)
            have h47 : slot t 47 = .string (S0 k) := hp 47 (by kernel_rfl)
            have h48 : slot t 48 = .agg #[.int .i64 I, .int .i64 N, .slice q m cc] := hp 48 (by kernel_rfl)
            have h41 : slot t 41 = .bool true := hp 41 (by kernel_rfl)
            clear hf hp
            refine stepAt_on 41 true (by kernel_rfl) h41 ?_
            refine stepOK_call #[.agg (bC 32 A), .string (S0 k), .agg #[.int .i64 I, .int .i64 N, .slice q m cc]] rfl (by simp only [List.map_toArray, List.map_cons, List.map_nil, evS, h43, h47, h48]) (by go_simp) ((HC.out (.slice q m cc) w1 (HSl.kept _ _ _ _ _ hk Y2.out) (HT.out.kept (K3.out.trans hk))).mono fun e w' ⟨he, hk'⟩ => ⟨_, he, hk', rfl⟩)
          refine ⟨fun t w1 hf hk hp => ?_, ?_⟩
          · have h41 : slot t 41 = .bool true := hp 41 (by kernel_rfl)
            have h49 : slot t 49 = .bool true := hp 49 (by kernel_rfl)
            clear hf hp
            refine stepAt_plain rfl ?_
            refine stepOK_pure (.bool true) ?_ rfl
            simp only [execOp, evS, h41, h49]
            go_simp
          refine ⟨fun t w1 hf hk hp => ?_, ?_⟩
          · have h50 : slot t 50 = .bool true := hp 50 (by kernel_rfl)
            clear hf hp
            refine stepAt_plain rfl ?_
            exact stepOK_move _ (.inl rfl) h50
          refine ⟨fun t w1 hf hk hp => ?_, ?_⟩
          · have h7 : slot t 7 = .slice (some xq) (m + 1) xc := hf 7 (by kernel_rfl)
            have h51 : slot t 51 = .bool true := hp 51 (by kernel_rfl)
            clear hf hp
            refine stepAt_on 51 true (by kernel_rfl) h51 ?_
            exact stepOK_move _ (.inl rfl) h7
          refine ⟨fun t w1 hf hk hp => ?_, ?_⟩
          · have h52 : slot t 52 = .slice (some xq) (m + 1) xc := hp 52 (by kernel_rfl)
            have h51 : slot t 51 = .bool true := hp 51 (by kernel_rfl)
            clear hf hp
            refine stepAt_on 51 true (by kernel_rfl) h51 ?_
            exact stepOK_pure (.int .i64 ((m : Int) + 1)) (execLenHs (n := m + 1) w1 rfl (by assumption)) rfl
          refine ⟨fun t w1 hf hk hp => ?_, ?_⟩
          · have h53 : slot t 53 = .int .i64 ((m : Int) + 1) := hp 53 (by kernel_rfl)
            have h51 : slot t 51 = .bool true := hp 51 (by kernel_rfl)
            clear hf hp
            refine stepAt_on 51 true (by kernel_rfl) h51 ?_
            have hq0 := hgt
            have hq1 := hgt'
            refine stepOK_pure (.bool true) ?_ rfl
            simp only [execOp, evS, h53]
            go_simp
          refine ⟨fun t w1 hf hk hp => ?_, ?_⟩
          · have h51 : slot t 51 = .bool true := hp 51 (by kernel_rfl)
            have h54 : slot t 54 = .bool true := hp 54 (by kernel_rfl)
            clear hf hp
            refine stepAt_plain rfl ?_
            refine stepOK_pure (.bool true) ?_ rfl
            simp only [execOp, evS, h51, h54]
            go_simp
          refine ⟨fun t w1 hf hk hp => ?_, ?_⟩
          · have h55 : slot t 55 = .bool true := hp 55 (by kernel_rfl)
            clear hf hp
            refine stepAt_plain rfl ?_
            exact stepOK_move _ (.inl rfl) h55
          refine ⟨fun t w1 hf hk hp => ?_, ?_⟩
          · have h7 : slot t 7 = .slice (some xq) (m + 1) xc := hf 7 (by kernel_rfl)
            have h56 : slot t 56 = .bool true := hp 56 (by kernel_rfl)
            clear hf hp
            refine stepAt_on 56 true (by kernel_rfl) h56 ?_
            exact stepOK_move _ (.inl rfl) h7
          refine ⟨fun t w1 hf hk hp => ?_, ?_⟩
          · have h7 : slot t 7 = .slice (some xq) (m + 1) xc := hf 7 (by kernel_rfl)
            have h56 : slot t 56 = .bool true := hp 56 (by kernel_rfl)
            clear hf hp
            refine stepAt_on 56 true (by kernel_rfl) h56 ?_
            exact stepOK_move _ (.inl rfl) h7
          refine ⟨fun t w1 hf hk hp => ?_, ?_⟩
          · have h58 : slot t 58 = .slice (some xq) (m + 1) xc := hp 58 (by kernel_rfl)
            have h56 : slot t 56 = .bool true := hp 56 (by kernel_rfl)
            clear hf hp
            refine stepAt_on 56 true (by kernel_rfl) h56 ?_
            exact stepOK_pure (.int .i64 ((m : Int) + 1)) (execLenHs (n := m + 1) w1 rfl (by assumption)) rfl
          refine ⟨fun t w1 hf hk hp => ?_, ?_⟩
          · have h59 : slot t 59 = .int .i64 ((m : Int) + 1) := hp 59 (by kernel_rfl)
            have h56 : slot t 56 = .bool true := hp 56 (by kernel_rfl)
            clear hf hp
            refine stepAt_on 56 true (by kernel_rfl) h56 ?_
            have hq0 := hsub
            refine stepOK_pure (.int .i64 (m : Int)) ?_ rfl
            simp only [execOp, evS, h59]
            go_simp
          refine ⟨fun t w1 hf hk hp => ?_, ?_⟩
          · have h57 : slot t 57 = .slice (some xq) (m + 1) xc := hp 57 (by kernel_rfl)
            have h60 : slot t 60 = .int .i64 (m : Int) := hp 60 (by kernel_rfl)
            have h56 : slot t 56 = .bool true := hp 56 (by kernel_rfl)
            clear hf hp
            refine stepAt_on 56 true (by kernel_rfl) h56 ?_
            exact stepOK_pure (.pointer (some (xq.add (m * 32)))) (execIndexH xq (m + 1) xc m (by omega) w1 rfl h57 h60) rfl
          refine ⟨fun t w1 hf hk hp => ?_, ?_⟩
          · have h61 : slot t 61 = .pointer (some (xq.add (m * 32))) := hp 61 (by kernel_rfl)
            have h56 : slot t 56 = .bool true := hp 56 (by kernel_rfl)
            clear hf hp
            refine stepAt_on 56 true (by kernel_rfl) h56 ?_
            have hq0 := HH62.out w1 hk
            exact stepOK_sem (.agg (bC 32 B)) (by simp only [execOp, evS, h61]) hq0 rfl
          refine ⟨fun t w1 hf hk hp => ?_, ?_⟩
          · have h0 : slot t 0 = .slice (some q0) n0 c0 := hf 0 (by kernel_rfl)
            have h56 : slot t 56 = .bool true := hp 56 (by kernel_rfl)
            clear hf hp
            refine stepAt_on 56 true (by kernel_rfl) h56 ?_
            exact stepOK_move _ (.inl rfl) h0
          refine ⟨fun t w1 hf hk hp => ?_, ?_⟩
          · have h63 : slot t 63 = .slice (some q0) n0 c0 := hp 63 (by kernel_rfl)
            have h56 : slot t 56 = .bool true := hp 56 (by kernel_rfl)
            clear hf hp
            refine stepAt_on 56 true (by kernel_rfl) h56 ?_
            refine stepOK_call #[.slice (some q0) n0 c0] rfl (by simp only [List.map_toArray, List.map_cons, List.map_nil, evS, h63]) (by go_simp) ((HL.out w1 (HS.out.kept (K3.out.trans hk)) (HT.out.kept (K3.out.trans hk))).mono fun e w' ⟨v, he, hpv, hk'⟩ => ⟨v, he, hk', hpv⟩)
          refine ⟨fun t w1 hf hk hp => ?_, ?_⟩
          · obtain ⟨v64, h64, p64⟩ : ∃ v, slot t 64 = v ∧ (HSl n0 (lf S0)) v w1 := ⟨_, rfl, hp 64 (by kernel_rfl)⟩
            have h56 : slot t 56 = .bool true := hp 56 (by kernel_rfl)
            clear hf hp
            refine stepAt_on 56 true (by kernel_rfl) h56 ?_
            refine stepOK_call #[v64] rfl (by simp only [List.map_toArray, List.map_cons, List.map_nil, evS, h64]) (by go_simp) ((HTp.out v64 w1 p64 (HT.out.kept (K3.out.trans hk))).mono fun e w' ⟨he, hk'⟩ => ⟨_, he, hk', rfl⟩)
          refine ⟨fun t w1 hf hk hp => ?_, ?_⟩
          · have h62 : slot t 62 = .agg (bC 32 B) := hp 62 (by kernel_rfl)
            have h65 : slot t 65 = .agg (bC 32 B) := hp 65 (by kernel_rfl)
            have h56 : slot t 56 = .bool true := hp 56 (by kernel_rfl)
            clear hf hp
            refine stepAt_on 56 true (by kernel_rfl) h56 ?_
            exact stepOK_pure (.bool true) (execEqH1 B ht32 w1 rfl h62 h65) rfl
          refine ⟨fun t w1 hf hk hp => ?_, ?_⟩
          · have h56 : slot t 56 = .bool true := hp 56 (by kernel_rfl)
            have h66 : slot t 66 = .bool true := hp 66 (by kernel_rfl)
            clear hf hp
            refine stepAt_plain rfl ?_
            refine stepOK_pure (.bool true) ?_ rfl
            simp only [execOp, evS, h56, h66]
            go_simp
          refine ⟨fun t w1 hf hk hp => ?_, ?_⟩
          · have h67 : slot t 67 = .bool true := hp 67 (by kernel_rfl)
            clear hf hp
            refine stepAt_plain rfl ?_
            exact stepOK_move _ (.inl rfl) h67
          refine ⟨fun t w1 hf hk hp => ?_, ?_⟩
          · have h68 : slot t 68 = .bool true := hp 68 (by kernel_rfl)
            clear hf hp
            refine stepAt_on 68 true (by kernel_rfl) h68 ?_
            refine stepOK_call #[] rfl (by simp only [List.map_toArray, List.map_nil]) (by go_simp) ((HA.out w1 (HT.out.kept (K3.out.trans hk))).mono fun e w' ⟨he, hk'⟩ => ⟨_, he, hk', rfl⟩)
          refine ⟨fun t w1 hf hk hp => ?_, ?_⟩
          · have h68 : slot t 68 = .bool true := hp 68 (by kernel_rfl)
            have h69 : slot t 69 = .bool true := hp 69 (by kernel_rfl)
            clear hf hp
            refine stepAt_plain rfl ?_
            refine stepOK_pure (.bool true) ?_ rfl
            simp only [execOp, evS, h68, h69]
            go_simp
          refine ⟨fun t w1 hf hk hp => ?_, ?_⟩
          · have h70 : slot t 70 = .bool true := hp 70 (by kernel_rfl)
            clear hf hp
            refine stepAt_plain rfl ?_
            exact stepOK_move _ (.inr rfl) h70
          exact trivial
        · intro t w1 hsz hf hk hfacts
          have h4 : slot t 4 = .bool true := hfacts 33 _ rfl 4 rfl
          have h0 : slot t 0 = .slice (some q0) n0 c0 := hf 0 (by kernel_rfl)
          have h1 : slot t 1 = .int .i64 (k : Int) := hf 1 (by kernel_rfl)
          have h5 : slot t 5 = .pointer (some ⟨g5, 0, none⟩) := hf 5 (by kernel_rfl)
          have h7 : slot t 7 = .slice (some xq) (m + 1) xc := hf 7 (by kernel_rfl)
          have harr : t = #[slot t 0, slot t 1, slot t 2, slot t 3, slot t 4, slot t 5, slot t 6, slot t 7, slot t 8, slot t 9, slot t 10, slot t 11, slot t 12, slot t 13, slot t 14, slot t 15, slot t 16, slot t 17, slot t 18, slot t 19, slot t 20, slot t 21, slot t 22, slot t 23, slot t 24, slot t 25, slot t 26, slot t 27, slot t 28, slot t 29, slot t 30, slot t 31, slot t 32, slot t 33, slot t 34, slot t 35, slot t 36, slot t 37, slot t 38, slot t 39, slot t 40, slot t 41, slot t 42, slot t 43, slot t 44, slot t 45, slot t 46, slot t 47, slot t 48, slot t 49, slot t 50, slot t 51, slot t 52, slot t 53, slot t 54, slot t 55, slot t 56, slot t 57, slot t 58, slot t 59, slot t 60, slot t 61, slot t 62, slot t 63, slot t 64, slot t 65, slot t 66, slot t 67, slot t 68, slot t 69, slot t 70] := arr_eq t 71 hsz
          rw [harr, h4, h0, h1, h5, h7]
          clear harr hfacts hf h4 h0 h1 h5 h7
          generalize slot t 2 = x2; generalize slot t 3 = x3; generalize slot t 6 = x6; generalize slot t 8 = x8; generalize slot t 9 = x9; generalize slot t 10 = x10; generalize slot t 11 = x11; generalize slot t 12 = x12; generalize slot t 13 = x13; generalize slot t 14 = x14; generalize slot t 15 = x15; generalize slot t 16 = x16
          generalize slot t 17 = x17; generalize slot t 18 = x18; generalize slot t 19 = x19; generalize slot t 20 = x20; generalize slot t 21 = x21; generalize slot t 22 = x22; generalize slot t 23 = x23; generalize slot t 24 = x24; generalize slot t 25 = x25; generalize slot t 26 = x26; generalize slot t 27 = x27; generalize slot t 28 = x28
          generalize slot t 29 = x29; generalize slot t 30 = x30; generalize slot t 31 = x31; generalize slot t 32 = x32; generalize slot t 33 = x33; generalize slot t 34 = x34; generalize slot t 35 = x35; generalize slot t 36 = x36; generalize slot t 37 = x37; generalize slot t 38 = x38; generalize slot t 39 = x39; generalize slot t 40 = x40
          generalize slot t 41 = x41; generalize slot t 42 = x42; generalize slot t 43 = x43; generalize slot t 44 = x44; generalize slot t 45 = x45; generalize slot t 46 = x46; generalize slot t 47 = x47; generalize slot t 48 = x48; generalize slot t 49 = x49; generalize slot t 50 = x50; generalize slot t 51 = x51; generalize slot t 52 = x52
          generalize slot t 53 = x53; generalize slot t 54 = x54; generalize slot t 55 = x55; generalize slot t 56 = x56; generalize slot t 57 = x57; generalize slot t 58 = x58; generalize slot t 59 = x59; generalize slot t 60 = x60; generalize slot t 61 = x61; generalize slot t 62 = x62; generalize slot t 63 = x63; generalize slot t 64 = x64
          generalize slot t 65 = x65; generalize slot t 66 = x66; generalize slot t 67 = x67; generalize slot t 68 = x68; generalize slot t 69 = x69; generalize slot t 70 = x70
          clear hsz t
          have K4 := Lib.hid (K3.out.trans hk)
          clear hk
          go_wp2_with fail
          go_ret
          exact ⟨rfl, K4.out⟩
    · have hE : opE n0 a1 = 3 := if_neg hi
      rw [hE] at H1
      clear hz hz' hn hE
      generalize lh (opL S0 n0 a1) = F at H1
      generalize (opL S0 n0 a1).length = m at H1
      generalize opI n0 a1 = I at H1
      generalize opC n0 a1 = N at H1
      by_cases hlt : a1 < 0
      · have hd1 : decide (a1 < 0) = true := decide_eq_true hlt
        clear hi hlt
        go_wp2_with fail
        refine (H1.out w HS.out HT.out).mono ?_
        rintro e u1 ⟨q, cc, rfl, hx, k1⟩
        have K1 := Lib.hid k1
        clear hx k1 H1
        go_wp2_with (refine wpList_store_made rfl 26 _ _ rfl _ _ #[.int .i64 I, .int .i64 N, .slice q m cc] rfl rfl 26 _ rfl (opR_size I N (.slice q m cc)) rfl (opR_one I N q m cc) ?_; intro u2 R1 k2)
        have K2 := Lib.hid (K1.out.trans k2.out)
        clear k2 K1
        refine (HA.out _ (HT.out.kept K2.out)).mono ?_
        rintro e u3 ⟨rfl, k3⟩
        have K3 := Lib.hid (K2.out.trans k3)
        clear k3 K2
        go_wp2_with fail
        go_ret
        exact ⟨rfl, K3.out⟩
      · have hd1 : decide (a1 < 0) = false := decide_eq_false hlt
        have hge : a1 ≥ (n0 : Int) := by omega
        have hd2 : decide (a1 ≥ (n0 : Int)) = true := decide_eq_true hge
        have hd2' : decide ((n0 : Int) ≤ a1) = true := decide_eq_true hge
        clear hi hlt hge
        go_wp2_with fail
        refine (H1.out w HS.out HT.out).mono ?_
        rintro e u1 ⟨q, cc, rfl, hx, k1⟩
        have K1 := Lib.hid k1
        clear hx k1 H1
        go_wp2_with (refine wpList_store_made rfl 26 _ _ rfl _ _ #[.int .i64 I, .int .i64 N, .slice q m cc] rfl rfl 26 _ rfl (opR_size I N (.slice q m cc)) rfl (opR_one I N q m cc) ?_; intro u2 R1 k2)
        have K2 := Lib.hid (K1.out.trans k2.out)
        clear k2 K1
        refine (HA.out _ (HT.out.kept K2.out)).mono ?_
        rintro e u3 ⟨rfl, k3⟩
        have K3 := Lib.hid (K2.out.trans k3)
        clear k3 K2
        go_wp2_with fail
        go_ret
        exact ⟨rfl, K3.out⟩

set_option maxRecDepth 100000 in
set_option maxHeartbeats 1000000 in
theorem lifted (os : Os) (started : os.Started) (H : Type) (enc : TypeId × Value → H) :
    ReturnsInHanded {} Tryd.checked os 4 .any (fun w args => (Rows.holdOpenedSpec.pre enc Tryd.prog Tryd.f4 [] false w args ∧ laidMetH Tryd.prog Rows.holdOpenedRow.laid w) ∧ sizedMet enc Tryd.prog Tryd.f4 (OpenSpec.ofChange Rows.holdOpenedSpec) false w args)
      (Rows.holdOpenedSpec.post enc Tryd.prog Tryd.f4 false true false false) := by
  refine returnsInHanded_of_change_and (C := Tryd.checked) (X := fun w _ => laidMetH Tryd.prog Rows.holdOpenedRow.laid w) (fun _ _ _ hh h => h.of_heap hh) own started (by kernel_rfl) Tryd.func4
    (ChangeSpec.witness_shaped (enc := enc) (C := Tryd.checked) (os := os) (X := fun w _ => laidMetH Tryd.prog Rows.holdOpenedRow.laid w) false (World.doorLaid Tryd.prog 400 os) #[.slice none 0 0, .int .i64 0] 8 rfl (World.shaped_of_RefB (by kernel_rfl) (by kernel_rfl)) (by kernel_rfl) (by kernel_rfl) (by kernel_rfl) (door_met os _)) ?_
  intro W base args ds gs before hval0 hW _ hsz0 hL _
  have hval : ∀ (j : Nat) t v, Tryd.f4.params[j]? = some t → args[j]? = some v → Value.okWide Tryd.prog W .any base t v := hval0
  have hsz : (DataW.weightsEach Tryd.prog (Tryd.f4.params.toList ++ Rows.holdOpenedSpec.plain.varTypes Tryd.prog) (ds ++ gs)).all (· ≤ reachBytes) = true := hsz0
  have hW' := hW
  obtain ⟨p, q, hA0, hV, rfl, hfz, hnd⟩ := hW
  have hA : DataW.TrodAll enc Tryd.prog W 0 (fun _ => true) true Tryd.f4.params.toList args.toList ds p := hA0
  have hAk := hA
  rw [Tryd.params4] at hA hval hsz
  obtain ⟨v0, vs0, d0, ds0, p0_, q0_, hargs, rfl, rfl, h0, r0_⟩ := trodAll_cons hA
  obtain ⟨v1, vs1, d1, ds1, p1_, q1_, rfl, rfl, rfl, h1, r1_⟩ := trodAll_cons r0_
  obtain ⟨rfl, rfl, rfl⟩ := trodAll_nil r1_
  obtain rfl : args = #[v0, v1] := by cases args; simp_all
  obtain ⟨rfl, rfl⟩ := trodVars_none hV
  have hlt : ∀ x ∈ (p0_ ++ (p1_ ++ ([]))), x.block < W.heap.size := fun x hx => by simpa using hW'.lt x (by simpa using hx)
  obtain ⟨p0, n0, c0, S0, z0, rfl, e0, rr0⟩ := open_sslice Tryd.underlying35 Tryd.underlying9 (by kernel_rfl) (hval 0 35 v0 rfl rfl) h0
  obtain ⟨a1, rfl, rfl, rfl, w1⟩ := open_int Tryd.underlying3 (hval 1 3 v1 rfl rfl) h1
  have r0 := (rr0 hsz (J := 0) rfl rfl).2
  clear hA0 hval0
  refine (walk p0 n0 c0 S0 z0 r0 a1 w1 W e0 (tab_of_laid hL)).mono fun e W' ⟨he, hg⟩ => ?_
  subst he
  exact ⟨_, rfl, ⟨_, _, _, [], _, [], hW', trodAll_cons_mk (shut_bool Tryd.underlying4 _) trodAll_mk0, trodAll_stays laidOut hg (by kernel_rfl) hAk hlt (fun x hx => by simpa using hlt x hx), rfl, Kept.frame hg _, fun h => by cases h⟩⟩

theorem over : Rows.holdOpenedRow.holds Tryd.pinned (OpenSpec.ofChange Rows.holdOpenedSpec) :=
  OpenClaim.holds_of_wide 4 Tryd.f4 rfl rfl rfl rfl rfl rfl rfl ⟨rfl, rfl, rfl, rfl, rfl⟩ rfl rfl rfl rfl rfl (by kernel_rfl) Tryd.func4 (by kernel_rfl)
    (of_decide_eq_true (by kernel_rfl)) (by unfold Func.isWrapper; first | (rw [if_pos (by decide +kernel)]; kernel_rfl) | (rw [if_neg (by decide +kernel)]; exact ⟨rfl, rfl⟩))
    (fun os started H enc _ => lifted os started H enc)
end Go.Proofs.YtljkhlbfjcbkiaaDoor.holdOpened
namespace Go.Proofs.YtljkhlbfjcbkiaaDoor
theorem holdOpened_holds : Rows.HoldOpenedSaid := holdOpened.over
theorem holdOpened_card : Rows.HoldOpenedCardSaid :=
  Claim7.holds_tied_plain_at .later [] [.data] true (true, "7bb8722e63a46b785bb0b4604b39f937ea6e5c68ad986d8116623a57e205ec0e") false
    holdOpened_holds (fun _ h => by cases h) (by kernel_rfl) (fun _ h => by cases h) holdOpened_row_tie rfl ⟨rfl, rfl⟩ (by kernel_rfl) rfl
    (fun f fn hf hfn => by
      obtain rfl : f = 4 := Option.some.inj ((show Tryd.prog.funcNamed "milepost/milepostlaw14.HoldOpened" = some 4 by kernel_rfl).symm.trans hf) |>.symm
      obtain rfl : fn = Tryd.f4 := (Option.some.inj (Tryd.func4.symm.trans hfn)).symm
      refine ⟨by kernel_rfl, fun j t ht => ?_⟩
      have hm : t ∈ Tryd.f4.params.toList := by simpa using Array.mem_of_getElem? ht
      have hall : (Tryd.f4.params.toList.all fun u => !Tryd.prog.wantsStandIn u) = true := by kernel_rfl
      exact (show Tryd.prog.wantsStandIn t = false by simpa using List.all_eq_true.1 hall t hm))
    (by kernel_rfl)
#print axioms holdOpened_card
end Go.Proofs.YtljkhlbfjcbkiaaDoor
