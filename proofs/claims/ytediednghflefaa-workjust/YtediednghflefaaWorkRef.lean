/-
  Contracts of the reference's Ok and Level of ids (milepostref17). Conditions: numbers of 256 bits.
-/
import Derived.Test.YtediednghflefaaWorkForm
import Derived.Test.YtediednghflefaaWideRefA
import Derived.Test.YtediednghflefaaWideRefB
namespace Go.Proofs.Ytediednghflefaa
set_option maxRecDepth 4000
open Go.RowKit

set_option maxRecDepth 100000 in
set_option maxHeartbeats 1000000 in
theorem refOk17_any : WorkOkC 7 := by
  intro A T w hA hT
  have HC : Hid (∀ v u w, Bits A v w → Bits T u w → Calls Try.prog 17 #[v, u] w fun e w' => e = .returned (.int .i64 (cmpN A T)) ∧ Kept w w') := Lib.hid fun v u w hv hu => refCmp4_any A T v u w hv hu hA hT
  have hb := cmp_le A T
  generalize cmpN A T = q at HC hb
  generalize decide (A ≤ T) = b at hb ⊢
  have R2 := Lib.hid ((Rowz.new w (bC 32 (be 32 A)) 23).alloc (.cells (bC 32 (be 32 T)) 23))
  have R3 := Lib.hid (Rowz.newEq1 w (.cells (bC 32 (be 32 A)) 23) _ (bC 32 (be 32 T)) 23 rfl)
  have K1 := Lib.hid (((Kept.refl w).alloc (.cells (bC 32 (be 32 A)) 23)).alloc (.cells (bC 32 (be 32 T)) 23))
  go_enter Try.func7, Try.ntmps7
  go_wp2_with fail
  generalize (w.alloc (.cells (bC 32 (be 32 A)) 23)).alloc (.cells (bC 32 (be 32 T)) 23) = v1 at R2 R3 K1 ⊢
  refine wp_region_table [(5, .is (.agg (bC 32 (be 32 A)))), (6, .such (Bits A) bits_kept), (7, .is (.agg (bC 32 (be 32 T)))), (8, .such (Bits T) bits_kept), (9, .is (.int .i64 q)), (10, .is (.bool b)), (4, .is (.bool b))] (by kernel_rfl) (by kernel_rfl) ?_ ?_
  · refine ⟨fun t w1 hf hk hp => ?_, ?_⟩
    · have h2 : slot t 2 = .pointer (some ⟨w.heap.size, 0, none⟩) := hf 2 (by kernel_rfl)
      clear hf hp
      refine stepAt_plain rfl ?_
      have hq0 := Rowz.load (R2.out.kept hk) 32 5 Try.underlying23 (infoH _)
      exact stepOK_sem (.agg (bC 32 (be 32 A))) (by simp only [execOp, evS, h2]) hq0 rfl
    refine ⟨fun t w1 hf hk hp => ?_, ?_⟩
    · have h5 : slot t 5 = .agg (bC 32 (be 32 A)) := hp 5 (by kernel_rfl)
      clear hf hp
      refine stepAt_plain rfl ?_
      refine stepOK_call #[.agg (bC 32 (be 32 A))] rfl (by simp only [List.map_toArray, List.map_cons, List.map_nil, evS, h5]) (by go_simp) ((refOf4_any A w1).mono fun e w' ⟨v, he, hpv, hk'⟩ => ⟨v, he, hk', hpv⟩)
    refine ⟨fun t w1 hf hk hp => ?_, ?_⟩
    · have h3 : slot t 3 = .pointer (some ⟨w.heap.size + 1, 0, none⟩) := hf 3 (by kernel_rfl)
      clear hf hp
      refine stepAt_plain rfl ?_
      have hq0 := Rowz.load (R3.out.kept hk) 32 5 Try.underlying23 (infoH _)
      exact stepOK_sem (.agg (bC 32 (be 32 T))) (by simp only [execOp, evS, h3]) hq0 rfl
    refine ⟨fun t w1 hf hk hp => ?_, ?_⟩
    · have h7 : slot t 7 = .agg (bC 32 (be 32 T)) := hp 7 (by kernel_rfl)
      clear hf hp
      refine stepAt_plain rfl ?_
      refine stepOK_call #[.agg (bC 32 (be 32 T))] rfl (by simp only [List.map_toArray, List.map_cons, List.map_nil, evS, h7]) (by go_simp) ((refOf4_any T w1).mono fun e w' ⟨v, he, hpv, hk'⟩ => ⟨v, he, hk', hpv⟩)
    refine ⟨fun t w1 hf hk hp => ?_, ?_⟩
    · obtain ⟨v6, h6, p6⟩ : ∃ v, slot t 6 = v ∧ (Bits A) v w1 := ⟨_, rfl, hp 6 (by kernel_rfl)⟩
      obtain ⟨v8, h8, p8⟩ : ∃ v, slot t 8 = v ∧ (Bits T) v w1 := ⟨_, rfl, hp 8 (by kernel_rfl)⟩
      clear hf hp
      refine stepAt_plain rfl ?_
      refine stepOK_call #[v6, v8] rfl (by simp only [List.map_toArray, List.map_cons, List.map_nil, evS, h6, h8]) (by go_simp) ((HC.out _ _ w1 p6 p8).mono fun e w' ⟨he, hk'⟩ => ⟨_, he, hk', rfl⟩)
    refine ⟨fun t w1 hf hk hp => ?_, ?_⟩
    · have h9 : slot t 9 = .int .i64 q := hp 9 (by kernel_rfl)
      clear hf hp
      refine stepAt_plain rfl ?_
      have hq0 := hb
      refine stepOK_pure (.bool b) ?_ rfl
      simp only [execOp, evS, h9]
      go_simp
    refine ⟨fun t w1 hf hk hp => ?_, ?_⟩
    · have h10 : slot t 10 = .bool b := hp 10 (by kernel_rfl)
      clear hf hp
      refine stepAt_plain rfl ?_
      exact stepOK_move _ (.inr rfl) h10
    exact trivial
  · intro t w1 hsz hf hk hfacts
    have h4 : slot t 4 = .bool b := hfacts 6 _ rfl 4 rfl
    have h2 : slot t 2 = .pointer (some ⟨w.heap.size, 0, none⟩) := hf 2 (by kernel_rfl)
    have h3 : slot t 3 = .pointer (some ⟨w.heap.size + 1, 0, none⟩) := hf 3 (by kernel_rfl)
    have harr : t = #[slot t 0, slot t 1, slot t 2, slot t 3, slot t 4, slot t 5, slot t 6, slot t 7, slot t 8, slot t 9, slot t 10] := arr_eq t 11 hsz
    rw [harr, h4, h2, h3]
    clear harr hfacts hf h4 h2 h3
    generalize slot t 0 = x0; generalize slot t 1 = x1; generalize slot t 5 = x5; generalize slot t 6 = x6; generalize slot t 7 = x7; generalize slot t 8 = x8; generalize slot t 9 = x9; generalize slot t 10 = x10
    clear hsz t
    have K2 := Lib.hid (K1.out.trans hk)
    clear hk
    go_wp2_with fail
    go_ret
    exact ⟨rfl, K2.out⟩
set_option maxRecDepth 100000 in
set_option maxHeartbeats 1000000 in
theorem refLevel17_any : WorkLevelC 9 := by
  intro A T w hA hT
  have HA := Lib.hid hA
  have HT := Lib.hid hT
  have R2 := Lib.hid ((Rowz.new w (bC 32 (be 32 A)) 23).alloc (.cells (bC 32 (be 32 T)) 23))
  have R3 := Lib.hid (Rowz.newEq1 w (.cells (bC 32 (be 32 A)) 23) _ (bC 32 (be 32 T)) 23 rfl)
  have K1 := Lib.hid (((Kept.refl w).alloc (.cells (bC 32 (be 32 A)) 23)).alloc (.cells (bC 32 (be 32 T)) 23))
  clear hA hT
  go_enter Try.func9, Try.ntmps9
  go_wp2_with (first
    | (refine wpList_load_row rfl 23 _ rfl w.heap.size rfl 23 (bC 32 (be 32 A)) (0, 0) _ R2.out Try.underlying23 rfl (infoH _) ?_))
  generalize (w.alloc (.cells (bC 32 (be 32 A)) 23)).alloc (.cells (bC 32 (be 32 T)) 23) = v1 at R2 R3 K1 ⊢
  refine (refOf4_any A v1).mono ?_
  rintro e v2 ⟨x, rfl, hx, k2⟩
  have X := Lib.hid hx
  replace R3 := Lib.hid (R3.out.kept k2)
  have K2 := Lib.hid (K1.out.trans k2)
  clear hx k2 K1 R2
  go_wp2_with (first
    | (refine wpList_load_row rfl 23 _ rfl (w.heap.size + 1) rfl 23 (bC 32 (be 32 T)) (0, 0) _ R3.out Try.underlying23 rfl (infoH _) ?_))
  refine (refOf4_any T v2).mono ?_
  rintro e v3 ⟨t, rfl, ht, k3⟩
  have Y := Lib.hid ht
  replace X := Lib.hid (bits_kept _ _ _ k3 X.out)
  have K3 := Lib.hid (K2.out.trans k3)
  clear ht k3 K2 R3
  go_wp2_with fail
  go_loopw [7] (fun i wr => ∃ k : Nat, k ≤ 256 ∧ i = .int .i64 k ∧ Hid (∀ m, m < k → A ≤ T / 2 ^ m) ∧ Hid (Kept v3 wr)) (fun i _ => 256 - (intOf i).toNat)
  case atStart => exact ⟨0, by omega, rfl, Lib.hid (fun m h => by omega), Lib.hid (Kept.refl _)⟩
  case round =>
    obtain ⟨k, hk, rfl, HM, KW⟩ := hrel
    by_cases hlt : k < 256
    · have hd : decide ((k : Int) < 256) = true := decide_eq_true (by omega)
      have hd' : decide (k < 256) = true := decide_eq_true hlt
      have HC : Hid (∀ v u w, Bits A v w → Bits (T / 2 ^ k) u w → Calls Try.prog 17 #[v, u] w fun e w' => e = .returned (.int .i64 (cmpN A (T / 2 ^ k))) ∧ Kept w w') := Lib.hid fun v u w hv hu => refCmp4_any A (T / 2 ^ k) v u w hv hu HA.out (Nat.lt_of_le_of_lt (Nat.div_le_self _ _) HT.out)
      have hb := cmp_le A (T / 2 ^ k)
      generalize cmpN A (T / 2 ^ k) = q at HC hb
      have HS : Hid (∀ w, Bits T t w → Calls Try.prog 13 #[t, .int .i64 (k : Int)] w fun e w' => ∃ x, e = .returned x ∧ Bits (T / 2 ^ k) x w' ∧ Kept w w') := Lib.hid fun w h => by
        have := refShr4_any T (k : Int) t w h HT.out (by omega) (by omega)
        rwa [shr_nat] at this
      by_cases hle : A ≤ T / 2 ^ k
      · rw [decide_eq_true hle] at hb
        have HM2 : Hid (∀ m, m < k + 1 → A ≤ T / 2 ^ m) := Lib.hid fun m hm => by
          by_cases e : m = k
          · subst e; exact hle
          · exact HM.out m (by omega)
        clear hle HM
        go_wp2_with fail
        refine (HS.out _ (bits_kept _ _ _ KW.out Y.out)).mono ?_
        rintro e u1 ⟨z, rfl, hz, k1⟩
        have KU := Lib.hid (KW.out.trans k1)
        go_wp2_with fail
        refine (HC.out _ _ _ (bits_kept _ _ _ KU.out X.out) hz).mono ?_
        rintro e u2 ⟨rfl, k2⟩
        replace KU := Lib.hid (KU.out.trans k2)
        clear KW k1 k2 hz HC HS
        go_wp2_with fail
        go_roundw
        case rel => exact ⟨k + 1, by omega, by go_num, HM2, KU⟩
        case measure => simp [intOf]; omega
      · rw [decide_eq_false hle] at hb
        have HL : Hid (lvl A T = (k : Int) - 1) := Lib.hid (lvl_eq A T k hk HM.out (fun _ => hle))
        clear hle HM
        go_wp2_with fail
        refine (HS.out _ (bits_kept _ _ _ KW.out Y.out)).mono ?_
        rintro e u1 ⟨z, rfl, hz, k1⟩
        have KU := Lib.hid (KW.out.trans k1)
        go_wp2_with fail
        refine (HC.out _ _ _ (bits_kept _ _ _ KU.out X.out) hz).mono ?_
        rintro e u2 ⟨rfl, k2⟩
        replace KU := Lib.hid (KU.out.trans k2)
        clear KW k1 k2 hz HC HS
        go_wp2_with fail
        go_ret
        exact ⟨ret_int HL.out.symm, K3.out.trans KU.out⟩
    · have hd : decide ((k : Int) < 256) = false := decide_eq_false (by omega)
      have hd' : decide (k < 256) = false := decide_eq_false hlt
      have HL : Hid (lvl A T = (k : Int) - 1) := Lib.hid (lvl_eq A T k hk HM.out (fun h => absurd h hlt))
      go_wp2_with fail
      go_ret
      exact ⟨ret_int HL.out.symm, K3.out.trans KW.out⟩
end Go.Proofs.Ytediednghflefaa
