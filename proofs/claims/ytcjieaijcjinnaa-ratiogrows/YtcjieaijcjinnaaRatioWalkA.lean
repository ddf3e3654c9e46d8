/-
  Contracts of package ratio: May, Product, compare, Above, Least. Conditions: the arguments fit their kinds.
-/
import Derived.Test.YtcjieaijcjinnaaLargeRefC
import Derived.Test.YtcjieaijcjinnaaLargeRefB
import Derived.Test.YtcjieaijcjinnaaLargeLaw
namespace Go.Proofs.Ytcjieaijcjinnaa
open Go.RowKit

def mayB (a b : Int) : Bool := decide (0 < a) && (decide (a < b) && decide (b ≤ 65536))
theorem mayB_of {a b : Int} (h1 : 0 < a) (h2 : a < b) (h3 : b ≤ 65536) : mayB a b = true := by simp [mayB, h1, h2, h3]
theorem mayB_iff (a b : Int) : mayB a b = true ↔ 0 < a ∧ a < b ∧ b ≤ 65536 := by simp [mayB]
theorem mayB_no {a b : Int} (h : ¬ (0 < a ∧ a < b ∧ b ≤ 65536)) : mayB a b = false := by
  cases e : mayB a b
  · rfl
  · exact absurd ((mayB_iff a b).1 e) h
def okR (up a b : Int) : Bool := mayB a b && decide (0 ≤ up ∧ up ≤ 255)
/-- Both sides, times b. -/
def lft (n : Nat) (b up : Int) : Nat := n * b.toNat * 2 ^ up.toNat
def rgt (o : Nat) (a b : Int) : Nat := o * (b - a).toNat
def aboveB (n o : Nat) (up a b : Int) : Bool := okR up a b && decide (rgt o a b < lft n b up)
def leastB (n o : Nat) (up a b : Int) : Bool := okR up a b && decide (rgt o a b ≤ lft n b up)

set_option maxHeartbeats 400000 in
theorem may_any (a b : Int) (w : World) : Calls Try.prog 31 #[.int .i64 a, .int .i64 b] w fun e w' => e = .returned (.bool (mayB a b)) ∧ w = w' := by
  by_cases h1 : 0 < a
  · have hd1 : decide (0 < a) = true := decide_eq_true h1
    by_cases h2 : a < b
    · have hd2 : decide (a < b) = true := decide_eq_true h2
      by_cases h3 : b ≤ 65536
      · have hd3 : decide (b ≤ 65536) = true := decide_eq_true h3
        have hm := Lib.hid (mayB_of h1 h2 h3)
        clear h1 h2 h3
        go_enter Try.func31, Try.ntmps31
        go_wp2
        go_ret
        rw [hm.out]
        exact ⟨rfl, rfl⟩
      · have hd3 : decide (b ≤ 65536) = false := decide_eq_false h3
        have hm := Lib.hid (mayB_no (a := a) (b := b) (by omega))
        clear h1 h2 h3
        go_enter Try.func31, Try.ntmps31
        go_wp2
        go_ret
        rw [hm.out]
        exact ⟨rfl, rfl⟩
    · have hd2 : decide (a < b) = false := decide_eq_false h2
      have hm := Lib.hid (mayB_no (a := a) (b := b) (by omega))
      clear h1 h2
      go_enter Try.func31, Try.ntmps31
      go_wp2
      go_ret
      rw [hm.out]
      exact ⟨rfl, rfl⟩
  · have hd1 : decide (0 < a) = false := decide_eq_false h1
    have hm := Lib.hid (mayB_no (a := a) (b := b) (by omega))
    clear h1
    go_enter Try.func31, Try.ntmps31
    go_wp2
    go_ret
    rw [hm.out]
    exact ⟨rfl, rfl⟩

theorem prod_lt (n b u : Nat) (hn : n < 4294967296) (hb : b < 4294967296) (hu : u ≤ 255) : n * b * 2 ^ u < 2 ^ 320 := by
  have h1 : n * b < 2 ^ 64 := by
    have : n * b ≤ 4294967295 * 4294967295 := Nat.mul_le_mul (by omega) (by omega)
    omega
  have h2 : 2 ^ u ≤ 2 ^ 255 := pow_mono u 255 hu
  have h3 : n * b * 2 ^ u ≤ n * b * 2 ^ 255 := Nat.mul_le_mul_left _ h2
  omega
set_option maxRecDepth 100000 in
set_option maxHeartbeats 800000 in
theorem product_bad (n b : Nat) (up : Int) (w : World) (hu : up < 0 ∨ 255 < up) :
    Calls Try.prog 36 #[.int .u32 (n : Int), .int .u32 (b : Int), .int .i64 up] w fun e w' => e = .returned (.tuple #[.agg (lC 0 5), .bool false]) ∧ Kept w w' := by
  have R1 := Rowz.newEq w (.cells (lC 0 0) 24) (lC 0 0) 24 rfl
  by_cases h0 : up < 0
  · have hd1 : decide (up < 0) = true := decide_eq_true h0
    clear hu h0
    go_enter Try.func36, Try.ntmps36
    go_wp2_with (refine wpList_store_row rfl 24 _ _ rfl w.heap.size (lC 0 5) rfl (by kernel_rfl) 24 (lC 0 0) (Rowz.newEq w _ _ _ (by kernel_rfl)) (infoL _ _) (by simp [lC_size]) (lC_one _ _) ?_)
    refine bodyPost_ret (v := .tuple #[.agg (lC 0 5), .bool false]) (results_row_tmp Try.results36 _ _ w.heap.size 24 _ _ _ rfl rfl R1.row Try.underlying24 rfl (infoL _ _)) rfl ⟨rfl, ?_⟩
    exact ((Kept.refl w).alloc _).setRow (Nat.le_refl _) _
  · have hd1 : decide (up < 0) = false := decide_eq_false h0
    have hd2 : decide (255 < up) = true := decide_eq_true (by omega)
    clear hu h0
    go_enter Try.func36, Try.ntmps36
    go_wp2_with (refine wpList_store_row rfl 24 _ _ rfl w.heap.size (lC 0 5) rfl (by kernel_rfl) 24 (lC 0 0) (Rowz.newEq w _ _ _ (by kernel_rfl)) (infoL _ _) (by simp [lC_size]) (lC_one _ _) ?_)
    refine bodyPost_ret (v := .tuple #[.agg (lC 0 5), .bool false]) (results_row_tmp Try.results36 _ _ w.heap.size 24 _ _ _ rfl rfl R1.row Try.underlying24 rfl (infoL _ _)) rfl ⟨rfl, ?_⟩
    exact ((Kept.refl w).alloc _).setRow (Nat.le_refl _) _
set_option maxRecDepth 100000 in
set_option maxHeartbeats 800000 in
theorem product_any (n b u : Nat) (w : World) (hn : n < 4294967296) (hb : b < 4294967296) (hu : u ≤ 255) :
    Calls Try.prog 36 #[.int .u32 (n : Int), .int .u32 (b : Int), .int .i64 (u : Int)] w fun e w' => e = .returned (.tuple #[.agg (lC (n * b * 2 ^ u) 5), .bool true]) ∧ Kept w w' := by
  have hl := prod_lt n b u hn hb hu
  have hnb : n * b ≤ 4294967295 * 4294967295 := Nat.mul_le_mul (by omega) (by omega)
  have CO := Lib.hid fun w => largeOf_any (n * b) w (by omega)
  have CS : Hid (∀ w, Calls Try.prog 22 #[.agg (lC (n * b) 5), .int .i64 (u : Int)] w fun e w' => e = .returned (.tuple #[.agg (lC (n * b * 2 ^ u) 5), .bool true]) ∧ Kept w w') := Lib.hid fun w => by
    have h := largeShl_any (n * b) u w (Nat.lt_of_le_of_lt hnb (by decide +kernel)) (by omega)
    rw [cut_of hl, fit_of hl] at h
    exact h
  have hwm : (n : Int) * (b : Int) = ((n * b : Nat) : Int) := by simp
  have hd1 : decide ((u : Int) < 0) = false := decide_eq_false (by omega)
  have hd2 : decide ((255 : Int) < (u : Int)) = false := decide_eq_false (by omega)
  have R1 := Lib.hid (Rowz.newEq w (.cells (lC 0 0) 24) (lC 0 0) 24 rfl)
  generalize n * b * 2 ^ u = X at CS hl ⊢
  generalize n * b = nb at CO CS hwm hnb
  clear hl
  go_enter Try.func36, Try.ntmps36
  go_wp2_with (first
    | (go_at_call 26; refine (CO.out _).mono ?_; rintro e w1 ⟨rfl, k1⟩)
    | (go_at_call 22; refine (CS.out _).mono ?_; rintro e w2 ⟨rfl, k2⟩; have R2 := Lib.hid ((R1.out.grown k1).kept k2))
    | (refine wpList_store_row rfl 24 _ _ rfl w.heap.size (lC X 5) rfl rfl 24 (lC 0 0) R2.out (infoL _ _) (by simp [lC_size]) (lC_one _ _) ?_))
  refine bodyPost_ret (v := .tuple #[.agg (lC X 5), .bool true]) (results_row_tmp Try.results36 _ _ w.heap.size 24 _ _ _ rfl rfl R2.out.row Try.underlying24 rfl (infoL _ _)) rfl ⟨rfl, ?_⟩
  exact ((((Kept.refl w).alloc _).trans (Grown.kept k1)).trans k2).setRow (Nat.le_refl _) _

set_option maxRecDepth 100000 in
set_option maxHeartbeats 800000 in
theorem compare_bad (n o : Nat) (up a b : Int) (w : World) (hb1 : -9223372036854775808 ≤ b) (hb2 : b ≤ 9223372036854775807) (hok : okR up a b = false) :
    Calls Try.prog 48 #[.int .u32 (n : Int), .int .u32 (o : Int), .int .i64 up, .int .i64 a, .int .i64 b] w fun e w' => e = .returned (.tuple #[.int .i64 0, .bool false]) ∧ Kept w w' := by
  have CM := Lib.hid fun w => may_any a b w
  cases hm : mayB a b with
  | false =>
    rw [hm] at CM
    clear hm hok
    go_enter Try.func48, Try.ntmps48
    go_wp2_with (first
      | (go_at_call 31; refine (CM.out _).mono ?_; rintro e w1 ⟨rfl, rfl⟩))
    go_ret2
    exact ⟨rfl, Kept.refl _⟩
  | true =>
    have hu : up < 0 ∨ 255 < up := by
      simp only [okR, hm, Bool.true_and, decide_eq_false_iff_not] at hok
      omega
    obtain ⟨h1, h2, h3⟩ := (mayB_iff a b).1 hm
    rw [hm] at CM
    clear hm hok
    obtain ⟨bb, rfl⟩ : ∃ bb : Nat, b = (bb : Int) := ⟨b.toNat, by omega⟩
    have CP := Lib.hid fun w => product_bad n bb up w hu
    have hw1 : IntKind.u32.wrap (bb : Int) = (bb : Int) := by rw [IntKind.wrap_u32]; omega
    clear hu h1 h2
    go_enter Try.func48, Try.ntmps48
    go_wp2_with (first
      | (go_at_call 31; refine (CM.out _).mono ?_; rintro e w1 ⟨rfl, rfl⟩)
      | (go_at_call 36; refine (CP.out _).mono ?_; rintro e v2 ⟨rfl, k2⟩)
      | (refine wpList_store_made rfl 24 (.tmp 12) (.tmp 25) rfl v2 _ (lC 0 5) rfl rfl 24 (lC 0 0) (by kernel_rfl) (infoL _ _) (by simp [lC_size]) (lC_one _ _) ?_; intro v3 R3 K3))
    go_ret2
    exact ⟨rfl, k2.trans K3.out⟩
set_option maxRecDepth 100000 in
set_option maxHeartbeats 800000 in
theorem compare_ok (n o : Nat) (up a b : Int) (w : World) (hn : n < 4294967296) (ho : o < 4294967296) (hok : okR up a b = true) :
    Calls Try.prog 48 #[.int .u32 (n : Int), .int .u32 (o : Int), .int .i64 up, .int .i64 a, .int .i64 b] w fun e w' => e = .returned (.tuple #[.int .i64 (cmpN (lft n b up) (rgt o a b)), .bool true]) ∧ Kept w w' := by
  have CM := Lib.hid fun w => may_any a b w
  simp only [okR, Bool.and_eq_true, decide_eq_true_eq] at hok
  obtain ⟨hm, hu0, hu1⟩ := hok
  obtain ⟨h1, h2, h3⟩ := (mayB_iff a b).1 hm
  rw [hm] at CM
  obtain ⟨bb, rfl⟩ : ∃ bb : Nat, b = (bb : Int) := ⟨b.toNat, by omega⟩
  obtain ⟨aa, rfl⟩ : ∃ aa : Nat, a = (aa : Int) := ⟨a.toNat, by omega⟩
  obtain ⟨u, rfl⟩ : ∃ u : Nat, up = (u : Int) := ⟨up.toNat, by omega⟩
  obtain ⟨c, hc⟩ : ∃ c : Nat, (bb : Int) - (aa : Int) = (c : Int) := ⟨bb - aa, by omega⟩
  have HE1 : Hid (lft n (bb : Int) (u : Int) = n * bb * 2 ^ u) := Lib.hid rfl
  have HE2 : Hid (rgt o (aa : Int) (bb : Int) = o * c) := Lib.hid (by unfold rgt; rw [hc]; rfl)
  have hcl : c ≤ 65536 := by omega
  have hbl : bb < 4294967296 := by omega
  have HL := Lib.hid (prod_lt n bb u hn hbl (by omega))
  have hoc : o * c ≤ 4294967295 * 65536 := Nat.mul_le_mul (by omega) (by omega)
  have HR : Hid (o * c < 2 ^ 320) := Lib.hid (Nat.lt_of_le_of_lt hoc (by decide +kernel))
  have CP := Lib.hid fun w => product_any n bb u w hn hbl (by omega)
  have CO := Lib.hid fun w => largeOf_any (o * c) w (by omega)
  have CC := Lib.hid fun w => largeCmp_any (n * bb * 2 ^ u) (o * c) w HL.out HR.out
  have hwm : (o : Int) * (c : Int) = ((o * c : Nat) : Int) := by simp
  have hw1 : IntKind.u32.wrap (bb : Int) = (bb : Int) := by rw [IntKind.wrap_u32]; omega
  rw [HE1.out, HE2.out]
  generalize n * bb * 2 ^ u = X at CP CC ⊢
  generalize o * c = Y at CO CC hwm hoc ⊢
  clear HL HR HE1 HE2 hm h1 h2 hu0 hu1
  have hcc : IntKind.i64.wrap ((bb : Int) - (aa : Int)) = (c : Int) := by rw [hc, IntKind.wrap_i64]; omega
  clear hc
  go_enter Try.func48, Try.ntmps48
  go_wp2_with (first
    | (go_at_call 31; refine (CM.out _).mono ?_; rintro e w1 ⟨rfl, rfl⟩)
    | (go_at_call 36; refine (CP.out _).mono ?_; rintro e v2 ⟨rfl, k2⟩)
    | (refine wpList_store_made rfl 24 (.tmp 12) (.tmp 25) rfl v2 _ (lC X 5) rfl rfl 24 (lC 0 0) (by kernel_rfl) (infoL _ _) (by simp [lC_size]) (lC_one _ _) ?_; intro v3 R3 K3)
    | (go_at_call 26; refine (CO.out _).mono ?_; rintro e v4 ⟨rfl, k4⟩)
    | (refine wpList_store_made rfl 24 (.tmp 14) (.tmp 36) rfl v4 _ (lC Y 5) rfl rfl 24 (lC 0 0) (by kernel_rfl) (infoL _ _) (by simp [lC_size]) (lC_one _ _) ?_; intro v5 R5 K5; have R3' := Lib.hid ((R3.out.grown k4).kept K5.out))
    | (refine wpList_load_row rfl 24 (.tmp 12) rfl v2.heap.size rfl 24 (lC X 5) (0, 0) _ R3'.out Try.underlying24 rfl (infoL _ _) ?_)
    | (refine wpList_load_row rfl 24 (.tmp 14) rfl v4.heap.size rfl 24 (lC Y 5) (0, 0) _ R5.out Try.underlying24 rfl (infoL _ _) ?_)
    | (go_at_call 14; refine (CC.out _).mono ?_; rintro e v6 ⟨rfl, k6⟩))
  go_ret2
  exact ⟨rfl, (((k2.trans K3.out).trans (Grown.kept k4)).trans K5.out).trans (Grown.kept k6)⟩
end Go.Proofs.Ytcjieaijcjinnaa
