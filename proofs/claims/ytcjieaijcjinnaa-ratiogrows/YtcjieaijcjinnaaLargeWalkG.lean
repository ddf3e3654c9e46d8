/-
  milepostlaw05's awake: chapter 5's examples.
-/
import Derived.Test.YtcjieaijcjinnaaLargeWalkF
namespace Go.Proofs.Ytcjieaijcjinnaa
open Go.RowKit

def p319 : Nat := 2 ^ 319
def p64 : Nat := 18446744073709551616
theorem p319_lt : p319 < 2 ^ 320 := by decide +kernel
theorem p64_lt : p64 < 2 ^ 320 := by decide +kernel
theorem shl319 : cut (1 * 2 ^ 319) = p319 := by decide +kernel
theorem fit319 : fit (1 * 2 ^ 319) = true := by decide +kernel
theorem shl320 : cut (1 * 2 ^ 320) = 0 := by decide +kernel
theorem fit320 : fit (1 * 2 ^ 320) = false := by decide +kernel
theorem shl64 : cut (1 * 2 ^ 64) = p64 := by decide +kernel
theorem fit64 : fit (1 * 2 ^ 64) = true := by decide +kernel
theorem len319 : bl p319 = 320 := bl_of p319 319 (by decide +kernel) (by decide +kernel)
theorem txt64 : txt p64 = ⟨#[49, 56, 52, 52, 54, 55, 52, 52, 48, 55, 51, 55, 48, 57, 53, 53, 49, 54, 49, 54]⟩ := by
  have h : dn p64 = 20 := dn_of 19 p64 (by decide +kernel) (.inr (by decide +kernel))
  unfold txt
  rw [h]
  decide +kernel
set_option maxRecDepth 100000 in
set_option maxHeartbeats 800000 in
theorem awake5_core (A B Z : Nat) (w : World)
    (CO : Hid (∀ w, Calls Try.prog 26 #[.int .u64 1] w fun e w' => e = .returned (.agg (lC 1 5)) ∧ Grown w w'))
    (CA : Hid (∀ w, Calls Try.prog 22 #[.agg (lC 1 5), .int .i64 319] w fun e w' => e = .returned (.tuple #[.agg (lC A 5), .bool true]) ∧ Kept w w'))
    (CB : Hid (∀ w, Calls Try.prog 22 #[.agg (lC 1 5), .int .i64 320] w fun e w' => e = .returned (.tuple #[.agg (lC Z 5), .bool false]) ∧ Kept w w'))
    (CC : Hid (∀ w, Calls Try.prog 22 #[.agg (lC 1 5), .int .i64 64] w fun e w' => e = .returned (.tuple #[.agg (lC B 5), .bool true]) ∧ Kept w w'))
    (CL : Hid (∀ w, Calls Try.prog 16 #[.agg (lC A 5)] w fun e w' => e = .returned (.int .i64 320) ∧ Grown w w'))
    (CT : Hid (∀ w, Calls Try.prog 28 #[.agg (lC B 5)] w fun e w' => e = .returned (.string ⟨#[49, 56, 52, 52, 54, 55, 52, 52, 48, 55, 51, 55, 48, 57, 53, 53, 49, 54, 49, 54]⟩) ∧ Kept w w')) :
    Calls Try.prog 18 #[] w fun e w' => e = .returned (.bool true) ∧ Kept w w' := by
  have HK : Hid (Kept w w) := Lib.hid (Kept.refl w)
  go_enter Try.func18, Try.ntmps18
  go_wp2_with (first
    | (go_at_call 26; refine (CO.out _).mono ?_; rintro e w' ⟨rfl, k'⟩; replace HK := Lib.hid (HK.out.trans (Grown.kept k')); try replace R1 := Lib.hid (R1.out.grown k'))
    | (go_at_call 22; refine (CA.out _).mono ?_; rintro e a2 ⟨rfl, k'⟩; clear CA; replace HK := Lib.hid (HK.out.trans k'))
    | (go_at_call 22; refine (CB.out _).mono ?_; rintro e b2 ⟨rfl, k'⟩; clear CB; replace HK := Lib.hid (HK.out.trans k'); replace R1 := Lib.hid (R1.out.kept k'))
    | (go_at_call 22; refine (CC.out _).mono ?_; rintro e c2 ⟨rfl, k'⟩; clear CC; replace HK := Lib.hid (HK.out.trans k'); replace R1 := Lib.hid (R1.out.kept k'))
    | (refine park_at 28 rfl ?_)
    | (refine wpList_store_made rfl 24 (.tmp 1) (.tmp 10) rfl a2 _ (lC A 5) rfl rfl 24 (lC 0 0) (by kernel_rfl) (infoL _ _) (by simp [lC_size]) (lC_one _ _) ?_; intro v1 R1 K1; replace HK := Lib.hid (HK.out.trans K1.out))
    | (refine wpList_store_made rfl 24 (.tmp 3) (.tmp 15) rfl b2 _ (lC Z 5) rfl rfl 24 (lC 0 0) (by kernel_rfl) (infoL _ _) (by simp [lC_size]) (lC_one _ _) ?_; intro v2 R2 K2; replace HK := Lib.hid (HK.out.trans K2.out); replace R1 := Lib.hid (R1.out.kept K2.out); clear R2)
    | (refine wpList_store_made rfl 24 (.tmp 5) (.tmp 20) rfl c2 _ (lC B 5) rfl rfl 24 (lC 0 0) (by kernel_rfl) (infoL _ _) (by simp [lC_size]) (lC_one _ _) ?_; intro v3 R3 K3; replace HK := Lib.hid (HK.out.trans K3.out); replace R1 := Lib.hid (R1.out.kept K3.out)))
  clear CO
  refine unpark ?_
  refine wpList_table 10 [(28, .is (.agg (lC A 5))), (29, .is (.int .i64 320)), (30, .is (.bool true)), (31, .is (.bool true)), (32, .is (.bool true)), (33, .is (.agg (lC B 5))), (34, .is (.string ⟨#[49, 56, 52, 52, 54, 55, 52, 52, 48, 55, 51, 55, 48, 57, 53, 53, 49, 54, 49, 54]⟩)), (35, .is (.bool true)), (36, .is (.bool true)), (0, .is (.bool true))] (by kernel_rfl) ?_ ?_
  · refine ⟨fun t w1 hf hk hp => ?_, ?_⟩
    · have h1 : slot t 1 = .pointer (some ⟨a2.heap.size, 0, none⟩) := hf 1 (by kernel_rfl)
      have h27 : slot t 27 = .bool true := hf 27 (by kernel_rfl)
      clear hf hp
      refine stepAt_on 27 true (by kernel_rfl) h27 ?_
      have hq0 := Rowz.load (R1.out.kept hk) 5 22 Try.underlying24 (infoL _ _)
      exact stepOK_sem (.agg (lC A 5)) (by simp only [execOp, evS, h1]) hq0 rfl
    refine ⟨fun t w1 hf hk hp => ?_, ?_⟩
    · have h28 : slot t 28 = .agg (lC A 5) := hp 28 (by kernel_rfl)
      have h27 : slot t 27 = .bool true := hf 27 (by kernel_rfl)
      clear hf hp
      refine stepAt_on 27 true (by kernel_rfl) h27 ?_
      refine stepOK_call #[.agg (lC A 5)] rfl (by simp only [List.map_toArray, List.map_cons, List.map_nil, evS, h28]) (by go_simp) ((CL.out w1).mono fun e w' ⟨he, hk'⟩ => ⟨_, he, Grown.kept hk', rfl⟩)
    refine ⟨fun t w1 hf hk hp => ?_, ?_⟩
    · have h29 : slot t 29 = .int .i64 320 := hp 29 (by kernel_rfl)
      have h27 : slot t 27 = .bool true := hf 27 (by kernel_rfl)
      clear hf hp
      refine stepAt_on 27 true (by kernel_rfl) h27 ?_
      refine stepOK_pure (.bool true) ?_ rfl
      simp only [execOp, evS, h29]
      go_simp
    refine ⟨fun t w1 hf hk hp => ?_, ?_⟩
    · have h27 : slot t 27 = .bool true := hf 27 (by kernel_rfl)
      have h30 : slot t 30 = .bool true := hp 30 (by kernel_rfl)
      clear hf hp
      refine stepAt_plain rfl ?_
      refine stepOK_pure (.bool true) ?_ rfl
      simp only [execOp, evS, h27, h30]
      go_simp
    refine ⟨fun t w1 hf hk hp => ?_, ?_⟩
    · have h31 : slot t 31 = .bool true := hp 31 (by kernel_rfl)
      clear hf hp
      refine stepAt_plain rfl ?_
      exact stepOK_move _ (.inl rfl) h31
    refine ⟨fun t w1 hf hk hp => ?_, ?_⟩
    · have h5 : slot t 5 = .pointer (some ⟨c2.heap.size, 0, none⟩) := hf 5 (by kernel_rfl)
      have h32 : slot t 32 = .bool true := hp 32 (by kernel_rfl)
      clear hf hp
      refine stepAt_on 32 true (by kernel_rfl) h32 ?_
      have hq0 := Rowz.load (R3.out.kept hk) 5 22 Try.underlying24 (infoL _ _)
      exact stepOK_sem (.agg (lC B 5)) (by simp only [execOp, evS, h5]) hq0 rfl
    refine ⟨fun t w1 hf hk hp => ?_, ?_⟩
    · have h33 : slot t 33 = .agg (lC B 5) := hp 33 (by kernel_rfl)
      have h32 : slot t 32 = .bool true := hp 32 (by kernel_rfl)
      clear hf hp
      refine stepAt_on 32 true (by kernel_rfl) h32 ?_
      refine stepOK_call #[.agg (lC B 5)] rfl (by simp only [List.map_toArray, List.map_cons, List.map_nil, evS, h33]) (by go_simp) ((CT.out w1).mono fun e w' ⟨he, hk'⟩ => ⟨_, he, hk', rfl⟩)
    refine ⟨fun t w1 hf hk hp => ?_, ?_⟩
    · have h34 : slot t 34 = .string ⟨#[49, 56, 52, 52, 54, 55, 52, 52, 48, 55, 51, 55, 48, 57, 53, 53, 49, 54, 49, 54]⟩ := hp 34 (by kernel_rfl)
      have h32 : slot t 32 = .bool true := hp 32 (by kernel_rfl)
      clear hf hp
      refine stepAt_on 32 true (by kernel_rfl) h32 ?_
      refine stepOK_pure (.bool true) ?_ rfl
      simp only [execOp, evS, h34]
      go_simp
    refine ⟨fun t w1 hf hk hp => ?_, ?_⟩
    · have h32 : slot t 32 = .bool true := hp 32 (by kernel_rfl)
      have h35 : slot t 35 = .bool true := hp 35 (by kernel_rfl)
      clear hf hp
      refine stepAt_plain rfl ?_
      refine stepOK_pure (.bool true) ?_ rfl
      simp only [execOp, evS, h32, h35]
      go_simp
    refine ⟨fun t w1 hf hk hp => ?_, ?_⟩
    · have h36 : slot t 36 = .bool true := hp 36 (by kernel_rfl)
      clear hf hp
      refine stepAt_plain rfl ?_
      exact stepOK_move _ (.inr rfl) h36
    exact trivial
  · intro t w1 hsz hf hk hfacts
    have h0 : slot t 0 = .bool true := hfacts 0 (by kernel_rfl)
    have h1 : slot t 1 = .pointer (some ⟨a2.heap.size, 0, none⟩) := hf 1 (by kernel_rfl)
    have h5 : slot t 5 = .pointer (some ⟨c2.heap.size, 0, none⟩) := hf 5 (by kernel_rfl)
    have h27 : slot t 27 = .bool true := hf 27 (by kernel_rfl)
    have harr : t = #[slot t 0, slot t 1, slot t 2, slot t 3, slot t 4, slot t 5, slot t 6, slot t 7, slot t 8, slot t 9, slot t 10, slot t 11, slot t 12, slot t 13, slot t 14, slot t 15, slot t 16, slot t 17, slot t 18, slot t 19, slot t 20, slot t 21, slot t 22, slot t 23, slot t 24, slot t 25, slot t 26, slot t 27, slot t 28, slot t 29, slot t 30, slot t 31, slot t 32, slot t 33, slot t 34, slot t 35, slot t 36] := arr_eq t 37 hsz
    rw [harr, h0, h1, h5, h27]
    clear harr hfacts hf h0 h1 h5 h27
    generalize slot t 2 = x2; generalize slot t 3 = x3; generalize slot t 4 = x4; generalize slot t 6 = x6; generalize slot t 7 = x7; generalize slot t 8 = x8; generalize slot t 9 = x9; generalize slot t 10 = x10; generalize slot t 11 = x11; generalize slot t 12 = x12; generalize slot t 13 = x13; generalize slot t 14 = x14
    generalize slot t 15 = x15; generalize slot t 16 = x16; generalize slot t 17 = x17; generalize slot t 18 = x18; generalize slot t 19 = x19; generalize slot t 20 = x20; generalize slot t 21 = x21; generalize slot t 22 = x22; generalize slot t 23 = x23; generalize slot t 24 = x24; generalize slot t 25 = x25; generalize slot t 26 = x26
    generalize slot t 28 = x28; generalize slot t 29 = x29; generalize slot t 30 = x30; generalize slot t 31 = x31; generalize slot t 32 = x32; generalize slot t 33 = x33; generalize slot t 34 = x34; generalize slot t 35 = x35; generalize slot t 36 = x36
    clear hsz t
    simp only [List.drop_succ_cons, List.drop_zero]
    go_wp2
    go_ret
    exact ⟨rfl, HK.out.trans hk⟩
theorem awShl (n X : Nat) (b : Bool) (w : World) (hn : n ≤ 9223372036854775807) (h1 : cut (1 * 2 ^ n) = X) (h2 : fit (1 * 2 ^ n) = b) :
    Calls Try.prog 22 #[.agg (lC 1 5), .int .i64 (n : Int)] w fun e w' => e = .returned (.tuple #[.agg (lC X 5), .bool b]) ∧ Kept w w' := by
  rw [← h1, ← h2]
  exact largeShl_any 1 n w (by decide +kernel) hn
theorem awLen (X : Nat) (w : World) (h : X < 2 ^ 320) (h1 : bl X = 320) : Calls Try.prog 16 #[.agg (lC X 5)] w fun e w' => e = .returned (.int .i64 ((320 : Nat) : Int)) ∧ Grown w w' := by
  rw [← h1]
  exact largeLen_any X w h
theorem awText (X : Nat) (w : World) (s : ByteArray) (h : X < 2 ^ 320) (h1 : txt X = s) : Calls Try.prog 28 #[.agg (lC X 5)] w fun e w' => e = .returned (.string s) ∧ Kept w w' := by
  rw [← h1]
  exact largeText_any X w h
theorem awake5_any (w : World) : Calls Try.prog 18 #[] w fun e w' => e = .returned (.bool true) ∧ Kept w w' :=
  awake5_core p319 p64 0 w (Lib.hid fun w => largeOf_any 1 w (by decide)) (Lib.hid fun w => awShl 319 p319 true w (by decide) shl319 fit319) (Lib.hid fun w => awShl 320 0 false w (by decide) shl320 fit320)
    (Lib.hid fun w => awShl 64 p64 true w (by decide) shl64 fit64) (Lib.hid fun w => awLen p319 w p319_lt len319) (Lib.hid fun w => awText p64 w _ p64_lt txt64)
end Go.Proofs.Ytcjieaijcjinnaa
