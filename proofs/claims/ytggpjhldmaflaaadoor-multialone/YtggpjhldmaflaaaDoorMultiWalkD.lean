/-
  Contracts of multi.May, Root, Check and One. Conditions: at most a million places, leaves of at most a million bytes; sizes fit; sha's table of round constants stands (not May).
-/
import Derived.Test.YtggpjhldmaflaaaDoorMultiWalkC
import Derived.Test.YtggpjhldmaflaaaDoorMultiWalkA
import Derived.Test.YtggpjhldmaflaaaDoorMultiLaw
namespace Go.Proofs.YtggpjhldmaflaaaDoor
set_option maxRecDepth 4000
open Go.RowKit

set_option maxRecDepth 100000 in
set_option maxHeartbeats 2000000 in
theorem multiMay_any : MultiMayC 16 := by
  intro k N p K c Pl q m d w hI hK hcm hK6 hmd hd
  have HI := Lib.hid hI
  have K1 := Lib.hid ((Kept.refl w).alloc (.cells #[.int .i64 N, .slice p K c, .slice q m d] 28))
  have R1 := Lib.hid (Rowz.new w #[.int .i64 N, .slice p K c, .slice q m d] 28)
  by_cases h1 : N < 1
  · rw [mayM, if_neg (by omega)]
    have hd1 : decide (N < 1) = true := decide_eq_true h1
    clear h1 R1 hI
    go_enter Tryd.func16, Tryd.ntmps16
    go_wp2_with fail
    go_ret
    exact ⟨rfl, K1.out⟩
  have hd1 : decide (N < 1) = false := decide_eq_false h1
  by_cases h2 : N > 1048576
  · rw [mayM, if_neg (by omega)]
    have hd2 : decide (N > 1048576) = true := decide_eq_true h2
    clear h1 h2 R1 hI
    go_enter Tryd.func16, Tryd.ntmps16
    go_wp2_with fail
    go_ret
    exact ⟨rfl, K1.out⟩
  have hd2 : decide (N > 1048576) = false := decide_eq_false h2
  have HN : Hid (∀ w, IAt w p K Pl → _) := Lib.hid fun w h => multiNeed_any N p K c Pl w (by omega) h hK hcm hK6
  by_cases hr : risP N K Pl
  · obtain ⟨n, rfl, hn⟩ := risP_nat hr
    have hgood : 1 ≤ (n : Int) ∧ (n : Int) ≤ 1048576 ∧ risP (n : Int) K Pl := ⟨by omega, by omega, hr⟩
    rw [mayM, if_pos hgood]
    rw [needI_yes hr] at HN ⊢
    clear hr hgood hI h1 h2
    generalize needN (qP K Pl) 0 n = nd at HN ⊢
    have hd3 : decide ((nd : Int) < 0) = false := decide_eq_false (by omega)
    by_cases h3 : k = (K : Int)
    · subst h3
      have hd4 : ((K : Int) != (K : Int)) = false := by simp
      by_cases h4 : (m : Int) = (nd : Int)
      · rw [if_pos ⟨rfl, h4⟩]
        have hd5 : ((m : Int) != (nd : Int)) = false := by simpa using h4
        replace h4 := Lib.hid h4
        go_enter Tryd.func16, Tryd.ntmps16
        go_wp2_with fail
        change Calls _ _ _ (w.alloc (.cells #[.int .i64 (n : Int), .slice p K c, .slice q m d] 28)) _
        generalize w.alloc (.cells #[.int .i64 (n : Int), .slice p K c, .slice q m d] 28) = v1 at R1 K1 ⊢
        refine (HN.out v1 (HI.out.kept K1.out)).mono ?_
        rintro e v2 ⟨rfl, k2⟩
        replace K1 := Lib.hid (K1.out.trans k2)
        replace R1 := Lib.hid (R1.out.kept k2)
        have c1 := R1.out.cell 1
        have c2 := R1.out.cell 2
        clear k2 HN
        go_wp2_with fail
        go_ret
        exact ⟨rfl, K1.out⟩
      · rw [if_neg (fun h => h4 h.2)]
        have hd5 : ((m : Int) != (nd : Int)) = true := by simpa using h4
        replace h4 := Lib.hid h4
        go_enter Tryd.func16, Tryd.ntmps16
        go_wp2_with fail
        change Calls _ _ _ (w.alloc (.cells #[.int .i64 (n : Int), .slice p K c, .slice q m d] 28)) _
        generalize w.alloc (.cells #[.int .i64 (n : Int), .slice p K c, .slice q m d] 28) = v1 at R1 K1 ⊢
        refine (HN.out v1 (HI.out.kept K1.out)).mono ?_
        rintro e v2 ⟨rfl, k2⟩
        replace K1 := Lib.hid (K1.out.trans k2)
        replace R1 := Lib.hid (R1.out.kept k2)
        have c1 := R1.out.cell 1
        have c2 := R1.out.cell 2
        clear k2 HN
        go_wp2_with fail
        go_ret
        exact ⟨rfl, K1.out⟩
    · rw [if_neg (fun h => h3 h.1)]
      have hd4 : (k != (K : Int)) = true := by simpa using h3
      replace h3 := Lib.hid h3
      go_enter Tryd.func16, Tryd.ntmps16
      go_wp2_with fail
      change Calls _ _ _ (w.alloc (.cells #[.int .i64 (n : Int), .slice p K c, .slice q m d] 28)) _
      generalize w.alloc (.cells #[.int .i64 (n : Int), .slice p K c, .slice q m d] 28) = v1 at R1 K1 ⊢
      refine (HN.out v1 (HI.out.kept K1.out)).mono ?_
      rintro e v2 ⟨rfl, k2⟩
      replace K1 := Lib.hid (K1.out.trans k2)
      replace R1 := Lib.hid (R1.out.kept k2)
      have c1 := R1.out.cell 1
      have c2 := R1.out.cell 2
      clear k2 HN
      go_wp2_with fail
      go_ret
      exact ⟨rfl, K1.out⟩
  · rw [mayM, if_neg (fun h => hr h.2.2)]
    rw [needI_no hr] at HN
    clear hr hI h1 h2
    go_enter Tryd.func16, Tryd.ntmps16
    go_wp2_with fail
    change Calls _ _ _ (w.alloc (.cells #[.int .i64 N, .slice p K c, .slice q m d] 28)) _
    generalize w.alloc (.cells #[.int .i64 N, .slice p K c, .slice q m d] 28) = v1 at R1 K1 ⊢
    refine (HN.out v1 (HI.out.kept K1.out)).mono ?_
    rintro e v2 ⟨rfl, k2⟩
    replace K1 := Lib.hid (K1.out.trans k2)
    clear k2 HN R1
    go_wp2_with fail
    go_ret
    exact ⟨rfl, K1.out⟩
theorem run_buildRd (p1 : Option Addr) (k c1 : Nat) (q : Option Addr) (m d : Nat) (pl : Int) (w : World) :
    (Instr.build 71 #[(0, .slice p1 k c1), (1, .slice q m d), (2, .int .i64 pl)]).run Tryd.prog w = .ok (.agg (rdC p1 k c1 q m d pl (.slice none 0 0))) w := by kernel_rfl
theorem info_reader (p1 : Option Addr) (k c1 : Nat) (q : Option Addr) (m d : Nat) (pl : Int) (v : Value) : (Tryd.prog.info? 71).map (·.size) = some (rdC p1 k c1 q m d pl v).size := by
  show _ = some 4; kernel_rfl
theorem rdC_one (p1 : Option Addr) (k c1 : Nat) (q : Option Addr) (m d : Nat) (pl : Int) (p2 : Option Addr) (n2 c2 : Nat) : (rdC p1 k c1 q m d pl (.slice p2 n2 c2)).all (·.oneCell') = true := by simp [rdC, Value.oneCell']
theorem execBuildRd {o : Oper} {t : Array Value} {x y z : Operand} (p1 : Option Addr) (k c1 : Nat) (q : Option Addr) (m d : Nat) (pl : Int) (w : World) (ho : o.op = .build 71 #[(0, x), (1, y), (2, z)]) (hx : evS t x = .slice p1 k c1) (hy : evS t y = .slice q m d) (hz : evS t z = .int .i64 pl) :
    (execOp (evS t) o).run Tryd.prog w = .ok (.value (.agg (rdC p1 k c1 q m d pl (.slice none 0 0)))) w := by
  unfold execOp
  rw [ho]
  simp only [List.map_toArray, List.map_cons, List.map_nil, hx, hy, hz]
  have := run_buildRd p1 k c1 q m d pl w
  simp only [Sem.run_bind, Sem.run_pure, this, Result.andThen_ok]
/-- A reader made just now. -/
theorem RdAt.made {W w : World} {g k : Nat} {S : Nat → ByteArray} {m : Nat} {F : Nat → List UInt8} {pl : Int} {p1 : Option Addr} {c1 : Nat} {q : Option Addr} {d : Nat} (hr : Rowz w g (rdC p1 k c1 q m d pl (.slice none 0 0)) 71) (h1 : k ≤ c1) (h2 : c1 ≤ maxLen) (hS : SAt W p1 k S) (hF : HSl m F (.slice q m d) W) (hg : W.heap.size ≤ g) (hk : Kept W w) :
    RdAt W w g k S m (fun i => F (0 + i)) pl [] :=
  ⟨⟨p1, c1, q, d, .slice none 0 0, hr, ⟨h1, h2⟩, hS, by simpa only [Nat.zero_add] using hF, PaS.nil _ _, nofun⟩, hg, hk⟩
set_option maxRecDepth 100000 in
set_option maxHeartbeats 4000000 in
theorem multiRoot_any : MultiRootC 15 := by
  intro p1 k c1 S N p K c Pl q m d F w hS hk1 hc1 hz hI hK hcm hK6 hF ht
  have hmd : m ≤ d ∧ d ≤ maxLen := by
    obtain ⟨_, _, e, h1, h2, _⟩ := hF
    injection e with e1 e2 e3
    subst e3
    exact ⟨h1, h2⟩
  have HM : Hid (∀ w, IAt w p K Pl → _) := Lib.hid fun w h => multiMay_any (k : Int) N p K c Pl q m d w h hK hcm hK6 hmd.1 hmd.2
  have R1 := Lib.hid ((Rowz.new w #[.int .i64 N, .slice p K c, .slice q m d] 28).alloc (.cells (bC 32 []) 38))
  have Z1 := Lib.hid (Rowz.newEq1 w (.cells #[.int .i64 N, .slice p K c, .slice q m d] 28) _ (bC 32 []) 38 rfl)
  have K1 := Lib.hid (((Kept.refl w).alloc (.cells #[.int .i64 N, .slice p K c, .slice q m d] 28)).alloc (.cells (bC 32 []) 38))
  have HI := Lib.hid hI
  by_cases h0 : mayM (k : Int) N K Pl m = 0
  · obtain ⟨n, rfl, hn0, hn, hr, rfl, rfl⟩ := mayM_nat h0
    rw [rtM, if_pos h0, h0]
    rw [h0] at HM
    simp only [Int.toNat_natCast]
    have hw : IntKind.u64.wrap (n : Int) = (n : Int) := wrap_u64 n hn
    have HW : Hid (∀ w, _) := Lib.hid fun w => multiWhole_any (n : Int) p k c w
    have HTop : Hid (∀ w2 g, RdAt w w2 g k S (needN (qP k Pl) 0 n) (fun i => F (0 + i)) (-1) [] → Calls Tryd.prog 36 #[.pointer (some ⟨g, 0, none⟩), .agg (paC 0 n p k c)] w2 fun e w' => e = .returned (.agg (bC 32 (tpM (qP k Pl) (hP k Pl S) F 0 n 0))) ∧ (∃ S' F' L', RdAt w w' g (k - k) S' (needN (qP k Pl) 0 n - needN (qP k Pl) 0 n) F' (-1) L') ∧ Turn g w2 w') := Lib.hid fun w2 g h => by
      have := readerTop_any n (qP k Pl) (hP k Pl S) w w2 g k S (needN (qP k Pl) 0 n) F 0 (-1) [] 0 k Pl p c h (PartQ.whole hr) hI hK hK6 hn0 (by omega) (Nat.le_refl _) (Nat.le_refl _) hz (fun i hi x hx => hP_at hr S hi hx) (hP_length k Pl S) (fun x hx => by omega) (by omega) (by omega) (fun h => absurd h (by omega)) ht
      exact this.mono fun e w' ⟨h1, h2, h3⟩ => ⟨h1, ⟨_, _, _, h2⟩, h3⟩
    have hA : (tpM (qP k Pl) (hP k Pl S) F 0 n 0).length = 32 := tpM_length _ _ _ _ _ _ (hP_length _ _ _ _) fun h1 => by
      obtain ⟨_, _, _, _, _, hH⟩ := hF
      exact hH.length 0 (by omega)
    have HR : Hid (∀ w', Kept w w' → _) := Lib.hid fun w' hk => tagRootSum_any n (by omega) (tpM (qP k Pl) (hP k Pl S) F 0 n 0) hA w' (ht.kept hk)
    have HMk : Hid (∀ w2 g, Rowz w2 g (rdC p1 k c1 q (needN (qP k Pl) 0 n) d (-1) (.slice none 0 0)) 71 → w.heap.size ≤ g → Kept w w2 → RdAt w w2 g k S (needN (qP k Pl) 0 n) (fun i => F (0 + i)) (-1) []) := Lib.hid fun w2 g hr hg hk => RdAt.made hr hk1 hc1 hS hF hg hk
    clear hr h0 hA hS hz hI hF ht
    generalize shaL (rootS n (tpM (qP k Pl) (hP k Pl S) F 0 n 0)) = RR at HR ⊢
    generalize tpM (qP k Pl) (hP k Pl S) F 0 n 0 = A at HR HTop
    generalize needN (qP k Pl) 0 n = nd at HM HTop HMk R1 Z1 K1 hmd
    go_enter Tryd.func15, Tryd.ntmps15
    go_wp2_with (refine park_at 10 rfl ?_)
    change Parked (wpList _ _ _ _ _ ((w.alloc (.cells #[.int .i64 (n : Int), .slice p k c, .slice q nd d] 28)).alloc (.cells (bC 32 []) 38)))
    generalize (w.alloc (.cells #[.int .i64 (n : Int), .slice p k c, .slice q nd d] 28)).alloc (.cells (bC 32 []) 38) = v1 at R1 Z1 K1 ⊢
    refine unpark ?_
    refine wpList_exec 10 rfl (by rfl) (.agg #[.int .i64 (n : Int), .slice p k c, .slice q nd d]) _ (loadMany rfl rfl R1.out rfl) ?_
    go_wp2_with fail
    refine (HM.out v1 (HI.out.kept K1.out)).mono ?_
    rintro e v2 ⟨rfl, k2⟩
    have R2 := Lib.hid (R1.out.kept k2)
    have Z2 := Lib.hid (Z1.out.kept k2)
    have K2 := Lib.hid (K1.out.trans k2)
    have x0 := R2.out.cell 0
    have x1 := R2.out.cell 1
    have x2 := R2.out.cell 2
    clear R1 Z1 K1 k2 HM
    go_wp2_with (first
      | (refine wpList_exec 19 rfl (by rfl) (.agg (rdC p1 k c1 q nd d (-1) (.slice none 0 0))) _ (execBuildRd _ _ _ _ _ _ _ _ rfl rfl rfl rfl) ?_)
      | (refine wpList_store_made rfl 71 _ _ rfl _ _ (rdC p1 k c1 q nd d (-1) (.slice none 0 0)) rfl rfl 71 _ rfl (info_reader _ _ _ _ _ _ _ _) rfl (rdC_one _ _ _ _ _ _ _ _ _ _) ?_; intro v3 R3 k3))
    obtain ⟨g, hg⟩ : ∃ g, g = v2.heap.size := ⟨_, rfl⟩
    rw [← hg] at R3 ⊢
    have K3 := Lib.hid (K2.out.trans k3.out)
    have RD := Lib.hid (HMk.out v3 g R3.out (by rw [hg]; exact K2.out.size) K3.out)
    have hne0 : w.heap.size ≠ g := by have := R2.out.lt; omega
    have hne1 : w.heap.size + 1 ≠ g := by have := Z2.out.lt; omega
    have M2 : Hid (KeepRow g w.heap.size #[.int .i64 (n : Int), .slice p k c, .slice q nd d] 28 v3) := Lib.hid ⟨R2.out.kept k3.out, RD.out.lt, hne0, by rw [upOf_row R3.out]; nofun⟩
    have MZ : Hid (KeepRow g (w.heap.size + 1) (bC 32 []) 38 v3) := Lib.hid ⟨Z2.out.kept k3.out, RD.out.lt, hne1, by rw [upOf_row R3.out]; nofun⟩
    clear x0 x1 x2 R2 Z2 K2 k3 R3 K3 HMk hg
    obtain ⟨AA, hAA⟩ : ∃ AA : Nat → World → Prop, AA = fun j w' => match j with
      | 0 => RdAt w w' g k S nd (fun i => F (0 + i)) (-1) []
      | _ => ∃ S' F' L', RdAt w w' g (k - k) S' (nd - nd) F' (-1) L' := ⟨_, rfl⟩
    obtain ⟨BB, hBB⟩ : ∃ BB : World → Prop, BB = fun w' => KeepRow g w.heap.size #[.int .i64 (n : Int), .slice p k c, .slice q nd d] 28 w' ∧ KeepRow g (w.heap.size + 1) (bC 32 []) 38 w' := ⟨_, rfl⟩
    have hREL : RelFr (Turn g) (PhR AA BB) (FreeOf g) := by
      subst hAA hBB
      refine relFr_turn (fun j w h => ?_) (fun j x y h hk => ?_) (fun x y h hk => ⟨h.1.kept hk, h.2.kept hk⟩)
      · match j, h with
        | 0, h => exact ⟨RdAt.lt h, fun i hi => (RdAt.up h i hi).2⟩
        | _ + 1, ⟨_, _, _, h⟩ => exact ⟨RdAt.lt h, fun i hi => (RdAt.up h i hi).2⟩
      · match j, h with
        | 0, h => exact RdAt.keptTo h hk
        | _ + 1, ⟨_, _, _, h⟩ => exact ⟨_, _, _, RdAt.keptTo h hk⟩
    have HP0 : PhR AA BB 0 v3.drew := by
      subst hAA hBB
      exact ⟨RD.out.keptTo (Kept.drew (Kept.refl _)), M2.out.kept (Kept.drew (Kept.refl _)), MZ.out.kept (Kept.drew (Kept.refl _))⟩
    have HAB : Hid (∀ j w', PhR AA BB j w' → KeepRow g w.heap.size #[.int .i64 (n : Int), .slice p k c, .slice q nd d] 28 w' ∧ KeepRow g (w.heap.size + 1) (bC 32 []) 38 w' ∧ Kept w w') := Lib.hid fun j w' h => by
      subst hAA hBB
      refine ⟨h.2.1, h.2.2, ?_⟩
      match j, h.1 with
      | 0, h => exact RdAt.kept h
      | _ + 1, ⟨_, _, _, h⟩ => exact RdAt.kept h
    have HE0 : Hid (∀ w2, PhR AA BB 0 w2 → Calls Tryd.prog 36 #[.pointer (some ⟨g, 0, none⟩), .agg (paC 0 n p k c)] w2 fun e w' => e = .returned (.agg (bC 32 A)) ∧ Turn g w2 w' ∧ PhR AA BB 1 w') := Lib.hid fun w2 h => by
      subst hAA hBB
      refine (HTop.out w2 g h.1).mono ?_
      rintro e w' ⟨he, h1, h2⟩
      exact ⟨he, h2, h1, h.2.1.turn h2, h.2.2.turn h2⟩
    clear hAA hBB HTop
    go_wp2_with fail
    refine wp_region_phase hREL HP0 10 [] [8] [] [(20, .is (.pointer (some ⟨w.heap.size, 0, none⟩))), (21, .is (.int .i64 (n : Int))), (22, .is (.int .u64 (n : Int))), (23, .is (.pointer (some ⟨w.heap.size, 0, none⟩))), (24, .is (.int .i64 (n : Int))), (25, .is (.pointer (some ⟨w.heap.size, 1, none⟩))), (26, .is (.slice p k c)), (27, .is (.agg (paC 0 n p k c))), (28, .is (.agg (bC 32 A))), (29, .is (.agg (bC 32 RR)))] (by kernel_rfl) (by kernel_rfl) (by kernel_rfl) (by kernel_rfl) (by kernel_rfl) (by kernel_rfl) ?_ ?_
    · refine ⟨fun t w1 ph hf hk hph hp => ?_, ?_⟩
      · have h3 : slot t 3 = .pointer (some ⟨w.heap.size, 0, none⟩) := hf 3 (by kernel_rfl)
        clear hf hp
        refine stepPh_no (by kernel_rfl) ?_
        refine stepM_at (by kernel_rfl) ?_
        refine stepAt_plain rfl ?_
        exact stepOK_pure (.pointer (some ⟨w.heap.size, 0, none⟩)) (execFieldM w.heap.size 0 (by omega) w1 rfl h3) rfl
      refine ⟨fun t w1 ph hf hk hph hp => ?_, ?_⟩
      · have h20 : slot t 20 = .pointer (some ⟨w.heap.size, 0, none⟩) := hp 20 (by kernel_rfl)
        clear hf hp
        refine stepPh_no (by kernel_rfl) ?_
        refine stepM_at (by kernel_rfl) ?_
        refine stepAt_plain rfl ?_
        exact stepOK_pure (.int .i64 (n : Int)) (execLoadR _ _ rfl h20 (run_loadIP ((HAB.out _ _ hph).1.1.cell 0))) rfl
      refine ⟨fun t w1 ph hf hk hph hp => ?_, ?_⟩
      · have h21 : slot t 21 = .int .i64 (n : Int) := hp 21 (by kernel_rfl)
        clear hf hp
        refine stepPh_no (by kernel_rfl) ?_
        refine stepM_at (by kernel_rfl) ?_
        refine stepAt_plain rfl ?_
        have hq0 := hw
        refine stepOK_pure (.int .u64 (n : Int)) ?_ rfl
        simp only [execOp, evS, h21]
        go_simp
      refine ⟨fun t w1 ph hf hk hph hp => ?_, ?_⟩
      · have h3 : slot t 3 = .pointer (some ⟨w.heap.size, 0, none⟩) := hf 3 (by kernel_rfl)
        clear hf hp
        refine stepPh_no (by kernel_rfl) ?_
        refine stepM_at (by kernel_rfl) ?_
        refine stepAt_plain rfl ?_
        exact stepOK_pure (.pointer (some ⟨w.heap.size, 0, none⟩)) (execFieldM w.heap.size 0 (by omega) w1 rfl h3) rfl
      refine ⟨fun t w1 ph hf hk hph hp => ?_, ?_⟩
      · have h23 : slot t 23 = .pointer (some ⟨w.heap.size, 0, none⟩) := hp 23 (by kernel_rfl)
        clear hf hp
        refine stepPh_no (by kernel_rfl) ?_
        refine stepM_at (by kernel_rfl) ?_
        refine stepAt_plain rfl ?_
        exact stepOK_pure (.int .i64 (n : Int)) (execLoadR _ _ rfl h23 (run_loadIP ((HAB.out _ _ hph).1.1.cell 0))) rfl
      refine ⟨fun t w1 ph hf hk hph hp => ?_, ?_⟩
      · have h3 : slot t 3 = .pointer (some ⟨w.heap.size, 0, none⟩) := hf 3 (by kernel_rfl)
        clear hf hp
        refine stepPh_no (by kernel_rfl) ?_
        refine stepM_at (by kernel_rfl) ?_
        refine stepAt_plain rfl ?_
        exact stepOK_pure (.pointer (some ⟨w.heap.size, 1, none⟩)) (execFieldM w.heap.size 1 (by omega) w1 rfl h3) rfl
      refine ⟨fun t w1 ph hf hk hph hp => ?_, ?_⟩
      · have h25 : slot t 25 = .pointer (some ⟨w.heap.size, 1, none⟩) := hp 25 (by kernel_rfl)
        clear hf hp
        refine stepPh_no (by kernel_rfl) ?_
        refine stepM_at (by kernel_rfl) ?_
        refine stepAt_plain rfl ?_
        exact stepOK_pure (.slice p k c) (execLoadR _ _ rfl h25 (run_loadIs ((HAB.out _ _ hph).1.1.cell 1))) rfl
      refine ⟨fun t w1 ph hf hk hph hp => ?_, ?_⟩
      · have h24 : slot t 24 = .int .i64 (n : Int) := hp 24 (by kernel_rfl)
        have h26 : slot t 26 = .slice p k c := hp 26 (by kernel_rfl)
        clear hf hp
        refine stepPh_no (by kernel_rfl) ?_
        refine stepM_at (by kernel_rfl) ?_
        refine stepAt_plain rfl ?_
        refine stepOK_call #[.int .i64 (n : Int), .slice p k c] rfl (by simp only [List.map_toArray, List.map_cons, List.map_nil, evS, h24, h26]) (by go_simp) ((HW.out w1).mono fun e w' ⟨he, hk'⟩ => ⟨_, he, hk', rfl⟩)
      refine ⟨fun t w1 ph hf hk hph hp => ?_, ?_⟩
      · have h7 : slot t 7 = .pointer (some ⟨g, 0, none⟩) := hf 7 (by kernel_rfl)
        have h27 : slot t 27 = .agg (paC 0 n p k c) := hp 27 (by kernel_rfl)
        clear hf hp
        refine stepPh_eff 0 (by kernel_rfl) (fun hj => ?_)
        subst hj
        refine stepEff_call rfl #[.pointer (some ⟨g, 0, none⟩), .agg (paC 0 n p k c)] rfl (by simp only [List.map_toArray, List.map_cons, List.map_nil, evS, h7, h27]) (by go_simp) ((HE0.out w1 hph).mono fun e w' ⟨he, hr', hp'⟩ => ⟨_, he, hr', rfl, hp'⟩)
      refine ⟨fun t w1 ph hf hk hph hp => ?_, ?_⟩
      · have h22 : slot t 22 = .int .u64 (n : Int) := hp 22 (by kernel_rfl)
        have h28 : slot t 28 = .agg (bC 32 A) := hp 28 (by kernel_rfl)
        clear hf hp
        refine stepPh_no (by kernel_rfl) ?_
        refine stepM_at (by kernel_rfl) ?_
        refine stepAt_plain rfl ?_
        refine stepOK_call #[.int .u64 (n : Int), .agg (bC 32 A)] rfl (by simp only [List.map_toArray, List.map_cons, List.map_nil, evS, h22, h28]) (by go_simp) ((HR.out w1 (HAB.out _ _ hph).2.2).mono fun e w' ⟨he, hk'⟩ => ⟨_, he, hk', rfl⟩)
      exact trivial
    · intro t w1 hsz hf hk hph hfacts hmd hap
      have h29 : slot t 29 = .agg (bC 32 RR) := hfacts 9 _ (by decide) rfl 29 rfl
      have h3 : slot t 3 = .pointer (some ⟨w.heap.size, 0, none⟩) := hf 3 (by kernel_rfl)
      have h4 : slot t 4 = .pointer (some ⟨w.heap.size + 1, 0, none⟩) := hf 4 (by kernel_rfl)
      have h7 : slot t 7 = .pointer (some ⟨g, 0, none⟩) := hf 7 (by kernel_rfl)
      have harr : t = #[slot t 0, slot t 1, slot t 2, slot t 3, slot t 4, slot t 5, slot t 6, slot t 7, slot t 8, slot t 9, slot t 10, slot t 11, slot t 12, slot t 13, slot t 14, slot t 15, slot t 16, slot t 17, slot t 18, slot t 19, slot t 20, slot t 21, slot t 22, slot t 23, slot t 24, slot t 25, slot t 26, slot t 27, slot t 28, slot t 29] := arr_eq t 30 hsz
      rw [harr, h29, h3, h4, h7]
      clear harr hfacts hf hmd hap h29 h3 h4 h7
      generalize slot t 0 = x0; generalize slot t 1 = x1; generalize slot t 2 = x2; generalize slot t 5 = x5; generalize slot t 6 = x6; generalize slot t 8 = x8; generalize slot t 9 = x9; generalize slot t 10 = x10; generalize slot t 11 = x11; generalize slot t 12 = x12; generalize slot t 13 = x13; generalize slot t 14 = x14
      generalize slot t 15 = x15; generalize slot t 16 = x16; generalize slot t 17 = x17; generalize slot t 18 = x18; generalize slot t 19 = x19; generalize slot t 20 = x20; generalize slot t 21 = x21; generalize slot t 22 = x22; generalize slot t 23 = x23; generalize slot t 24 = x24; generalize slot t 25 = x25; generalize slot t 26 = x26
      generalize slot t 27 = x27; generalize slot t 28 = x28
      clear hsz t
      simp only [List.drop_succ_cons, List.drop_zero]
      obtain ⟨_, mz, kz⟩ := HAB.out _ _ hph
      have MF := Lib.hid mz
      have KF := Lib.hid kz
      clear hph hk hREL HP0 HAB HE0 mz kz M2 MZ RD
      go_wp2_with (refine wpList_store_row rfl 38 _ _ rfl (w.heap.size + 1) (bC 32 RR) rfl rfl 38 (bC 32 []) MF.out.1 (info_hash _) (by simp [bC_size]) (bC_one _ _) ?_)
      refine bodyPost_ret (v := .tuple #[.agg (bC 32 RR), .int .i64 0]) (results_row_tmp Tryd.results15 _ _ (w.heap.size + 1) 38 _ _ _ rfl rfl MF.out.1.row Tryd.underlying38 rfl (info_hash _)) rfl ⟨rfl, ?_⟩
      exact KF.out.setRow (Nat.le_succ _) _
  · rw [rtM, if_neg h0, ← zero_hashC]
    generalize mayM (k : Int) N K Pl m = E at HM h0 ⊢
    have hd0 : (E != 0) = true := by simpa using h0
    have HE := Lib.hid h0
    clear h0 hS hz hI hF ht
    go_enter Tryd.func15, Tryd.ntmps15
    go_wp2_with (refine park_at 10 rfl ?_)
    change Parked (wpList _ _ _ _ _ ((w.alloc (.cells #[.int .i64 N, .slice p K c, .slice q m d] 28)).alloc (.cells (bC 32 []) 38)))
    generalize (w.alloc (.cells #[.int .i64 N, .slice p K c, .slice q m d] 28)).alloc (.cells (bC 32 []) 38) = v1 at R1 Z1 K1 ⊢
    refine unpark ?_
    refine wpList_exec 10 rfl (by rfl) (.agg #[.int .i64 N, .slice p K c, .slice q m d]) _ (loadMany rfl rfl R1.out rfl) ?_
    go_wp2_with fail
    refine (HM.out v1 (HI.out.kept K1.out)).mono ?_
    rintro e v2 ⟨rfl, k2⟩
    have Z2 := Lib.hid (Z1.out.kept k2)
    have K2 := Lib.hid (K1.out.trans k2)
    clear R1 Z1 K1 k2 HM
    go_wp2_with (first
      | (refine wpList_exec 14 rfl (by rfl) (.agg (bC 32 [])) _ (execBuild0 rfl (run_build0 _)) ?_)
      | (refine wpList_store_row rfl 38 _ _ rfl (w.heap.size + 1) (bC 32 []) rfl rfl 38 (bC 32 []) Z2.out (info_hash _) (by simp [bC_size]) (bC_one _ _) ?_))
    refine bodyPost_ret (v := .tuple #[.agg (bC 32 []), .int .i64 E]) (results_row_tmp Tryd.results15 _ _ (w.heap.size + 1) 38 _ _ _ rfl rfl Z2.out.row Tryd.underlying38 rfl (info_hash _)) rfl ⟨rfl, ?_⟩
    exact K2.out.setRow (by omega) _
end Go.Proofs.YtggpjhldmaflaaaDoor
