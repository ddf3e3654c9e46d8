/-
  Contracts of slices.BinarySearch at integers, multi.part's closed and sides, exist, whole. Conditions: at most a million places; sizes fit.
-/
import Derived.Test.YtggpjhldmaflaaaDoorMultiPart
import Derived.BigQuiet
namespace Go.Proofs.YtggpjhldmaflaaaDoor
set_option maxRecDepth 4000
open Go.RowKit

theorem cmpNaN_any (x : Int) (w : World) : Calls Tryd.prog 91 #[.int .i64 x] w fun e w' => e = .returned (.bool false) ∧ w = w' := by
  have hne : (x != x) = false := by simp
  go_enter Tryd.func91, Tryd.ntmps91
  go_wp2
  go_ret
  exact ⟨rfl, rfl⟩
theorem slicesNaN_any (x : Int) (w : World) : Calls Tryd.prog 82 #[.int .i64 x] w fun e w' => e = .returned (.bool false) ∧ w = w' := by
  have hne : (x != x) = false := by simp
  go_enter Tryd.func82, Tryd.ntmps82
  go_wp2
  go_ret
  exact ⟨rfl, rfl⟩
theorem cmpLess_any (x y : Int) (w : World) : Calls Tryd.prog 81 #[.int .i64 x, .int .i64 y] w fun e w' => e = .returned (.bool (decide (x < y))) ∧ w = w' := by
  have HN := Lib.hid (cmpNaN_any x w)
  go_enter Tryd.func81, Tryd.ntmps81
  go_wp2_with (go_at_call 91; refine HN.out.mono ?_; rintro e w1 ⟨rfl, rfl⟩)
  go_ret
  exact ⟨rfl, rfl⟩
set_option maxRecDepth 100000 in
set_option maxHeartbeats 2000000 in
theorem slicesBinarySearch_any (p : Option Addr) (K c : Nat) (Pl : Nat → Int) (t : Int) (w : World) (h : IAt w p K Pl) (hK : K ≤ 1000000) (hm : ∀ j i, i < j → j < K → Pl i < Pl j) :
    Calls Tryd.prog 69 #[.slice p K c, .int .i64 t] w fun e w' => ∃ (a : Nat) (B : Bool), e = .returned (.tuple #[.int .i64 (a : Int), .bool B]) ∧ (a ≤ K ∧ (∀ i, i < a → Pl i < t) ∧ ∀ i, a ≤ i → i < K → t ≤ Pl i) ∧ w = w' := by
  have H := Lib.hid h
  have HM := Lib.hid hm
  have HL : Hid (∀ x y w, _) := Lib.hid cmpLess_any
  have HN : Hid (∀ x w, _) := Lib.hid slicesNaN_any
  clear h hm
  go_enter Tryd.func69, Tryd.ntmps69
  go_wp2_with fail
  go_loopw [7, 8] (fun i j wr => ∃ a b : Nat, a ≤ b ∧ b ≤ K ∧ i = .int .i64 (a : Int) ∧ j = .int .i64 (b : Int) ∧ Hid ((∀ i, i < a → Pl i < t) ∧ ∀ i, b ≤ i → i < K → t ≤ Pl i) ∧ wr = w) (fun i j _ => (intOf j).toNat - (intOf i).toNat)
  case atStart => exact ⟨0, K, by omega, by omega, rfl, rfl, Lib.hid ⟨fun i hi => absurd hi (Nat.not_lt_zero i), fun i h1 h2 => absurd h2 (by omega)⟩, rfl⟩
  case round =>
    obtain ⟨a, b, hab, hbK, rfl, rfl, HU, rfl⟩ := hrel
    by_cases hlt : a < b
    · have hd1 : decide ((a : Int) < (b : Int)) = true := decide_eq_true (by omega)
      have hd1' : decide (a < b) = true := decide_eq_true hlt
      obtain ⟨q, rfl, _⟩ := H.out.some (by omega)
      have h1 : a ≤ (a + b) / 2 := by omega
      have h2 : (a + b) / 2 < b := by omega
      have hadd : IntKind.i64.wrap ((a : Int) + (b : Int)) = ((a + b : Nat) : Int) := by simp only [IntKind.wrap, IntKind.signed, IntKind.bits]; simp; omega
      have hc := H.out.cell ((a + b) / 2) (by omega)
      have hhK : (a + b) / 2 < K := by omega
      have hhK2 : ((a : Int) + (b : Int)) / 2 < (K : Int) := by omega
      have hab64 : a + b < 9223372036854775807 := by omega
      obtain ⟨x, hx⟩ : ∃ x, x = Pl ((a + b) / 2) := ⟨_, rfl⟩
      rw [← hx] at hc
      replace hx := Lib.hid hx
      have HLx := Lib.hid (HL.out x t wr)
      by_cases h3 : x < t
      · rw [decide_eq_true h3] at HLx
        have HU1 : Hid ((∀ i, i < (a + b) / 2 + 1 → Pl i < t) ∧ ∀ i, b ≤ i → i < K → t ≤ Pl i) := Lib.hid ⟨fun i hi => by
          rcases Nat.lt_or_ge i ((a + b) / 2) with h4 | h4
          · have := HM.out ((a + b) / 2) i h4 hhK; rw [← hx.out] at this; omega
          · obtain rfl : i = (a + b) / 2 := by omega
            rw [← hx.out]; exact h3, HU.out.2⟩
        clear h3 HU HN HM
        go_wp2_with (go_at_call 81; refine HLx.out.mono ?_; rintro e w1 ⟨rfl, rfl⟩)
        go_roundw
        case rel => exact ⟨(a + b) / 2 + 1, b, by omega, by omega, by first | rfl | go_num, rfl, HU1, trivial⟩
        case measure => simp [intOf]; omega
      · rw [decide_eq_false h3] at HLx
        have HU1 : Hid ((∀ i, i < a → Pl i < t) ∧ ∀ i, (a + b) / 2 ≤ i → i < K → t ≤ Pl i) := Lib.hid ⟨HU.out.1, fun i h4 h5 => by
          rcases Nat.lt_or_ge ((a + b) / 2) i with h6 | h6
          · have := HM.out i ((a + b) / 2) h6 h5; rw [← hx.out] at this; omega
          · obtain rfl : i = (a + b) / 2 := by omega
            rw [← hx.out]; omega⟩
        clear h3 HU HN HM
        go_wp2_with (go_at_call 81; refine HLx.out.mono ?_; rintro e w1 ⟨rfl, rfl⟩)
        go_roundw
        case rel => exact ⟨a, (a + b) / 2, by omega, by omega, rfl, by first | rfl | go_num, HU1, trivial⟩
        case measure => simp [intOf]; omega
    · have hd1 : decide ((a : Int) < (b : Int)) = false := decide_eq_false (by omega)
      have hd1' : decide (a < b) = false := decide_eq_false hlt
      obtain rfl : a = b := by omega
      by_cases hlK : a < K
      · have hd2 : decide ((a : Int) < (K : Int)) = true := decide_eq_true (by omega)
        have hd2' : decide (a < K) = true := decide_eq_true hlK
        obtain ⟨q, rfl, _⟩ := H.out.some (by omega)
        have hc := H.out.cell a hlK
        obtain ⟨x, hx⟩ : ∃ x, x = Pl a := ⟨_, rfl⟩
        rw [← hx] at hc
        replace hx := Lib.hid hx
        have HNx := Lib.hid (HN.out x wr)
        by_cases h3 : x = t
        · have hd3 : (x == t) = true := by simpa using h3
          replace h3 := Lib.hid h3
          clear HL HN HM
          go_wp2_with (go_at_call 82; refine HNx.out.mono ?_; rintro e w1 ⟨rfl, rfl⟩)
          refine ⟨rfl, _, results_tmp2 Tryd.results69 _ _ _, ?_⟩
          exact ⟨a, _, rfl, ⟨hbK, HU.out⟩, rfl⟩
        · have hd3 : (x == t) = false := by simpa using h3
          replace h3 := Lib.hid h3
          clear HL HN HM
          go_wp2_with (go_at_call 82; refine HNx.out.mono ?_; rintro e w1 ⟨rfl, rfl⟩)
          refine ⟨rfl, _, results_tmp2 Tryd.results69 _ _ _, ?_⟩
          exact ⟨a, _, rfl, ⟨hbK, HU.out⟩, rfl⟩
      · have hd2 : decide ((a : Int) < (K : Int)) = false := decide_eq_false (by omega)
        have hd2' : decide (a < K) = false := decide_eq_false hlK
        clear HL HN HM
        go_wp2_with fail
        refine ⟨rfl, _, results_tmp2 Tryd.results69 _ _ _, ?_⟩
        exact ⟨a, _, rfl, ⟨hbK, HU.out⟩, rfl⟩
theorem partClosed_any (f n : Int) (p : Option Addr) (K c : Nat) (w : World) :
    Calls Tryd.prog 45 #[.agg (paC f n p K c)] w fun e w' => e = .returned (.bool (decide (K = 0))) ∧ Kept w w' := by
  have K1 := Lib.hid ((Kept.refl w).alloc (.cells (paC f n p K c) 62))
  have e1 : ((K : Int) == 0) = decide (K = 0) := by rw [Bool.eq_iff_iff]; simp
  unfold paC at K1 ⊢
  go_enter Tryd.func45, Tryd.ntmps45
  go_wp2
  go_ret
  exact ⟨rfl, K1.out⟩
set_option maxRecDepth 100000 in
set_option maxHeartbeats 4000000 in
theorem partSides_any (Q : Nat → Bool) (f n K : Nat) (Pl : Nat → Int) (p : Option Addr) (c : Nat) (w : World) (hP : PartQ Q f n K Pl) (h2 : 2 ≤ n) (h0 : 0 < K) (hI : IAt w p K Pl) (hK : K ≤ c) (hK6 : K ≤ 1000000) (hf : f + n ≤ 1000000000) :
    Calls Tryd.prog 47 #[.agg (paC f n p K c)] w fun e w' => ∃ k p', e = .returned (.tuple #[.agg (paC f (leftN n) p k c), .agg (paC ((f + leftN n : Nat) : Int) ((n - leftN n : Nat) : Int) p' (K - k) (c - k))]) ∧
      (k ≤ K ∧ PartQ Q f (leftN n) k Pl ∧ PartQ Q (f + leftN n) (n - leftN n) (K - k) (fun i => Pl (k + i)) ∧ ∀ W, IAt W p K Pl → IAt W p' (K - k) (fun i => Pl (k + i))) ∧ Kept w w' := by
  have hp := leftN_pos (n := n) (by omega)
  have hl := leftN_lt (n := n) (by omega)
  have HPt : Hid (∀ k, k ≤ K → (∀ i, i < k → Pl i < ((f + leftN n : Nat) : Int)) → (∀ i, k ≤ i → i < K → ((f + leftN n : Nat) : Int) ≤ Pl i) → PartQ Q f (leftN n) k Pl ∧ PartQ Q (f + leftN n) (n - leftN n) (K - k) (fun i => Pl (k + i))) :=
    Lib.hid fun k hk ha hb => ⟨hP.left (by omega) hk ha hb, hP.right (by omega) hk ha hb⟩
  have HB : Hid (∀ w, IAt w p K Pl → _) := Lib.hid fun w h => slicesBinarySearch_any p K c Pl ((f + leftN n : Nat) : Int) w h hK6 hP.mono
  have HL : Hid (∀ w, _) := Lib.hid fun w => shapeLeft_any (n : Int) w (by omega) (by omega)
  have hLI : (leftI (n : Int) : Int) = (leftN n : Int) := rfl
  rw [hLI] at HL
  clear hLI
  obtain ⟨q, rfl, _⟩ := hI.some h0
  have HI := Lib.hid hI
  have hadd : IntKind.i64.wrap ((f : Int) + (leftN n : Int)) = ((f + leftN n : Nat) : Int) := by simp only [IntKind.wrap, IntKind.signed, IntKind.bits]; simp; omega
  have K1 := Lib.hid ((Kept.refl w).alloc (.cells (paC f n (some q) K c) 62))
  have R1 := Lib.hid (Rowz.new w (paC f n (some q) K c) 62)
  have R2 : Hid (∀ v : World, Rowz (v.alloc (.cells (paC 0 0 none 0 0) 62)) v.heap.size (paC 0 0 none 0 0) 62) := Lib.hid fun v => Rowz.new v _ _
  clear hP hI
  generalize leftN n = l at hp hl HPt HB HL hadd ⊢
  go_enter Tryd.func47, Tryd.ntmps47
  go_wp2_with (refine park_at 8 rfl ?_)
  have T2 := Lib.hid (R2.out (w.alloc (.cells (paC f n (some q) K c) 62)))
  have T3 := Lib.hid (R2.out ((w.alloc (.cells (paC f n (some q) K c) 62)).alloc (.cells (paC 0 0 none 0 0) 62)))
  have KA := Lib.hid (((Kept.refl (w.alloc (.cells (paC f n (some q) K c) 62))).alloc (.cells (paC 0 0 none 0 0) 62)).alloc (.cells (paC 0 0 none 0 0) 62))
  replace T2 := Lib.hid (T2.out.alloc (.cells (paC 0 0 none 0 0) 62))
  change Parked (wpList _ _ _ _ _ (((w.alloc (.cells (paC f n (some q) K c) 62)).alloc (.cells (paC 0 0 none 0 0) 62)).alloc (.cells (paC 0 0 none 0 0) 62)))
  generalize (((w.alloc (.cells (paC f n (some q) K c) 62)).alloc (.cells (paC 0 0 none 0 0) 62)).alloc (.cells (paC 0 0 none 0 0) 62)) = v at T2 T3 KA ⊢
  have L2 : Hid (w.heap.size + 1 = (w.alloc (.cells (paC f n (some q) K c) 62)).heap.size) := Lib.hid (by simp)
  have L3 : Hid (w.heap.size + 1 + 1 = ((w.alloc (.cells (paC f n (some q) K c) 62)).alloc (.cells (paC 0 0 none 0 0) 62)).heap.size) := Lib.hid (by simp)
  rw [← L2.out] at T2
  rw [← L3.out] at T3
  generalize w.alloc (.cells (paC f n (some q) K c) 62) = u at K1 R1 KA L2
  have KV := Lib.hid (K1.out.trans KA.out)
  have RV := Lib.hid (R1.out.kept KA.out)
  have c0 : v.cell? ⟨w.heap.size, 0, none⟩ = some (.int .i64 f) := RV.out.cell 0
  have c1 : v.cell? ⟨w.heap.size, 1, none⟩ = some (.int .i64 n) := RV.out.cell 1
  have c2 : v.cell? ⟨w.heap.size, 2, none⟩ = some (.slice (some q) K c) := RV.out.cell 2
  clear R2
  refine unpark ?_
  go_wp2_with fail
  refine (HL.out v).mono ?_
  rintro e v1 ⟨rfl, rfl⟩
  go_wp2_with fail
  refine (HB.out v (HI.out.kept KV.out)).mono ?_
  rintro e v1 ⟨k, B, rfl, hk, rfl⟩
  have HK := Lib.hid hk
  obtain ⟨p', hcut, hIA⟩ := run_cutI_right q K c k hk.1 hK
  have HC := Lib.hid hcut
  have HIA := Lib.hid hIA
  have hkc : k ≤ c := Nat.le_trans hk.1 hK
  clear hk hcut hIA HL HB
  go_wp2_with fail
  have S0 : Kept u v.drew := KA.out
  have U2 : Rowz v.drew (w.heap.size + 1) (paC 0 0 none 0 0) 62 := T2.out
  have U3 : Rowz v.drew (w.heap.size + 1 + 1) (paC 0 0 none 0 0) 62 := T3.out
  refine wp_region_held_drew (S := fun w' => Kept u w') (by kernel_rfl) S0 (fun _ => ?_)
  have B0 : w.heap.size < u.heap.size := R1.out.lt
  have B2 : u.heap.size ≤ w.heap.size + 1 := Nat.le_of_eq L2.out.symm
  have KU := Lib.hid K1.out
  clear c0 c1 c2 T2 T3 KA KV RV L2 L3 K1
  generalize v.drew = y at S0 U2 U3 ⊢
  have hl9 : l ≤ n := by omega
  have hn9 : n ≤ 9223372036854775807 := by omega
  refine takeP 0 22 (.pointer (some ⟨w.heap.size, 0, none⟩)) rfl rfl (by kernel_rfl) (by kernel_rfl) (by kernel_rfl) (by rfl) (fun _ _ _ h => h) S0 (fun w' hw' => execFieldP w.heap.size 0 (by omega) w' rfl rfl) ?_
  simp only [List.setIfInBounds_toArray, List.set_cons_zero, List.set_cons_succ]
  refine takeP 1 23 (.int .i64 f) rfl rfl (by kernel_rfl) (by kernel_rfl) (by kernel_rfl) (by rfl) (fun _ _ _ h => h) S0 (fun w' hw' => execLoadR _ _ rfl rfl (run_loadIP ((R1.out.kept hw').cell 0))) ?_
  simp only [List.setIfInBounds_toArray, List.set_cons_zero, List.set_cons_succ]
  refine takeP 2 24 (.int .i64 l) rfl rfl (by kernel_rfl) (by kernel_rfl) (by kernel_rfl) (by rfl) (fun _ _ _ h => h) S0 (fun w' hw' => execMoveP w' (Or.inl rfl) rfl) ?_
  simp only [List.setIfInBounds_toArray, List.set_cons_zero, List.set_cons_succ]
  refine takeP 3 25 (.pointer (some ⟨w.heap.size, 2, none⟩)) rfl rfl (by kernel_rfl) (by kernel_rfl) (by kernel_rfl) (by rfl) (fun _ _ _ h => h) S0 (fun w' hw' => execFieldP w.heap.size 2 (by omega) w' rfl rfl) ?_
  simp only [List.setIfInBounds_toArray, List.set_cons_zero, List.set_cons_succ]
  refine takeP 4 26 (.slice (some q) K c) rfl rfl (by kernel_rfl) (by kernel_rfl) (by kernel_rfl) (by rfl) (fun _ _ _ h => h) S0 (fun w' hw' => execLoadR _ _ rfl rfl (run_loadSP ((R1.out.kept hw').cell 2))) ?_
  simp only [List.setIfInBounds_toArray, List.set_cons_zero, List.set_cons_succ]
  refine takeP 5 27 (.int .i64 k) rfl rfl (by kernel_rfl) (by kernel_rfl) (by kernel_rfl) (by rfl) (fun _ _ _ h => h) S0 (fun w' hw' => execMoveP w' (Or.inl rfl) rfl) ?_
  simp only [List.setIfInBounds_toArray, List.set_cons_zero, List.set_cons_succ]
  refine takeP 6 28 (.slice (some q) k c) rfl rfl (by kernel_rfl) (by kernel_rfl) (by kernel_rfl) (by rfl) (fun _ _ _ h => h) S0 (fun w' hw' => execSliceP _ _ _ _ _ rfl rfl rfl rfl rfl (run_cutI_left q K c k w' hkc)) ?_
  simp only [List.setIfInBounds_toArray, List.set_cons_zero, List.set_cons_succ]
  refine takeP 7 29 (.agg (paC f l (some q) k c)) rfl rfl (by kernel_rfl) (by kernel_rfl) (by kernel_rfl) (by rfl) (fun _ _ _ h => h) S0 (fun w' hw' => execBuildP _ _ _ _ _ w' rfl rfl rfl rfl) ?_
  simp only [List.setIfInBounds_toArray, List.set_cons_zero, List.set_cons_succ]
  refine takeP 8 30 (.int .i64 ((f + l : Nat) : Int)) rfl rfl (by kernel_rfl) (by kernel_rfl) (by kernel_rfl) (by rfl) (fun _ _ _ h => h) S0 (fun w' hw' => execMoveP w' (Or.inl rfl) rfl) ?_
  simp only [List.setIfInBounds_toArray, List.set_cons_zero, List.set_cons_succ]
  refine takeP 9 31 (.pointer (some ⟨w.heap.size, 1, none⟩)) rfl rfl (by kernel_rfl) (by kernel_rfl) (by kernel_rfl) (by rfl) (fun _ _ _ h => h) S0 (fun w' hw' => execFieldP w.heap.size 1 (by omega) w' rfl rfl) ?_
  simp only [List.setIfInBounds_toArray, List.set_cons_zero, List.set_cons_succ]
  refine takeP 10 32 (.int .i64 n) rfl rfl (by kernel_rfl) (by kernel_rfl) (by kernel_rfl) (by rfl) (fun _ _ _ h => h) S0 (fun w' hw' => execLoadR _ _ rfl rfl (run_loadIP ((R1.out.kept hw').cell 1))) ?_
  simp only [List.setIfInBounds_toArray, List.set_cons_zero, List.set_cons_succ]
  refine takeP 11 33 (.int .i64 l) rfl rfl (by kernel_rfl) (by kernel_rfl) (by kernel_rfl) (by rfl) (fun _ _ _ h => h) S0 (fun w' hw' => execMoveP w' (Or.inl rfl) rfl) ?_
  simp only [List.setIfInBounds_toArray, List.set_cons_zero, List.set_cons_succ]
  refine takeP 12 34 (.int .i64 ((n - l : Nat) : Int)) rfl rfl (by kernel_rfl) (by kernel_rfl) (by kernel_rfl) (by rfl) (fun _ _ _ h => h) S0 (fun w' hw' => execSubI n l hl9 hn9 w' rfl rfl rfl) ?_
  simp only [List.setIfInBounds_toArray, List.set_cons_zero, List.set_cons_succ]
  refine takeP 13 35 (.pointer (some ⟨w.heap.size, 2, none⟩)) rfl rfl (by kernel_rfl) (by kernel_rfl) (by kernel_rfl) (by rfl) (fun _ _ _ h => h) S0 (fun w' hw' => execFieldP w.heap.size 2 (by omega) w' rfl rfl) ?_
  simp only [List.setIfInBounds_toArray, List.set_cons_zero, List.set_cons_succ]
  refine takeP 14 36 (.slice (some q) K c) rfl rfl (by kernel_rfl) (by kernel_rfl) (by kernel_rfl) (by rfl) (fun _ _ _ h => h) S0 (fun w' hw' => execLoadR _ _ rfl rfl (run_loadSP ((R1.out.kept hw').cell 2))) ?_
  simp only [List.setIfInBounds_toArray, List.set_cons_zero, List.set_cons_succ]
  refine takeP 15 37 (.int .i64 k) rfl rfl (by kernel_rfl) (by kernel_rfl) (by kernel_rfl) (by rfl) (fun _ _ _ h => h) S0 (fun w' hw' => execMoveP w' (Or.inl rfl) rfl) ?_
  simp only [List.setIfInBounds_toArray, List.set_cons_zero, List.set_cons_succ]
  refine takeP 16 38 (.slice (some p') (K - k) (c - k)) rfl rfl (by kernel_rfl) (by kernel_rfl) (by kernel_rfl) (by rfl) (fun _ _ _ h => h) S0 (fun w' hw' => execSliceP _ _ _ _ _ rfl rfl rfl rfl rfl (HC.out w')) ?_
  simp only [List.setIfInBounds_toArray, List.set_cons_zero, List.set_cons_succ]
  refine takeP 17 39 (.agg (paC ((f + l : Nat) : Int) ((n - l : Nat) : Int) (some p') (K - k) (c - k))) rfl rfl (by kernel_rfl) (by kernel_rfl) (by kernel_rfl) (by rfl) (fun _ _ _ h => h) S0 (fun w' hw' => execBuildP _ _ _ _ _ w' rfl rfl rfl rfl) ?_
  simp only [List.setIfInBounds_toArray, List.set_cons_zero, List.set_cons_succ]
  refine wpAnyH_ready (rs := [18]) (by kernel_rfl) (by simp) (AllReadyH.cons rfl (fun K0 hK0 => ?_) AllReadyH.nil)
  rw [if_pos (by rfl)]
  refine wp_store_row 62 _ _ rfl (w.heap.size + 1) (paC f l (some q) k c) rfl rfl 62 (paC 0 0 none 0 0) U2 (info_part _ _ _ _ _) rfl (paC_one _ _ _ _ _) ?_
  have S1 := S0.setRow (g := w.heap.size + 1) B2 (paC f l (some q) k c)
  have V2 := U2.row (D := paC f l (some q) k c)
  have V3 := U3.rowOther (D := paC f l (some q) k c) (k := w.heap.size + 1) (by omega)
  generalize y.setRow (w.heap.size + 1) (paC f l (some q) k c) = y1 at S1 V2 V3 ⊢
  refine hK0.out _ _ S1 (fun _ => ?_)
  clear hK0 K0
  simp only [Act.put]
  refine wpAnyH_ready (rs := [19]) (by kernel_rfl) (by simp) (AllReadyH.cons rfl (fun K0 hK0 => ?_) AllReadyH.nil)
  rw [if_pos (by rfl)]
  refine wp_store_row 62 _ _ rfl (w.heap.size + 1 + 1) (paC ((f + l : Nat) : Int) ((n - l : Nat) : Int) (some p') (K - k) (c - k)) rfl rfl 62 (paC 0 0 none 0 0) V3 (info_part _ _ _ _ _) rfl (paC_one _ _ _ _ _) ?_
  have S2 := S1.setRow (g := w.heap.size + 1 + 1) (by omega) (paC ((f + l : Nat) : Int) ((n - l : Nat) : Int) (some p') (K - k) (c - k))
  have W3 := V3.row (D := paC ((f + l : Nat) : Int) ((n - l : Nat) : Int) (some p') (K - k) (c - k))
  have W2 := V2.rowOther (D := paC ((f + l : Nat) : Int) ((n - l : Nat) : Int) (some p') (K - k) (c - k)) (k := w.heap.size + 1 + 1) (by omega)
  generalize y1.setRow (w.heap.size + 1 + 1) (paC ((f + l : Nat) : Int) ((n - l : Nat) : Int) (some p') (K - k) (c - k)) = y2 at S2 W2 W3 ⊢
  refine hK0.out _ _ S2 (fun _ => ?_)
  clear hK0 K0
  simp only [Act.put]
  refine wpAnyH_done (by kernel_rfl) ?_ _
  have KF := Lib.hid S2
  have RF2 := Lib.hid W2
  have RF3 := Lib.hid W3
  clear S0 S1 S2 U2 U3 V2 V3 W2 W3
  go_wp2_with fail
  refine bodyPost_ret (results_row_rowP Tryd.results47 _ _ (w.heap.size + 1) (w.heap.size + 1 + 1) 62 62 _ _ _ _ rfl rfl RF2.out RF3.out Tryd.underlying62 rfl (info_part _ _ _ _ _) Tryd.underlying62 rfl (info_part _ _ _ _ _)) rfl ?_
  have hh := HPt.out k HK.out.1 HK.out.2.1 HK.out.2.2
  exact ⟨k, some p', rfl, ⟨HK.out.1, hh.1, hh.2, fun W h => HIA.out Pl W h⟩, KU.out.trans KF.out⟩
/-- What the loop asks of place i. -/
def okP (n : Int) (Pl : Nat → Int) (i : Nat) : Prop := (if i = 0 then -1 else Pl (i - 1)) < Pl i ∧ Pl i < n
theorem risP_ok {n : Int} {K : Nat} {Pl : Nat → Int} : risP n K Pl ↔ 0 < K ∧ ∀ i, i < K → okP n Pl i := by
  unfold risP okP
  constructor
  · rintro ⟨h0, h⟩
    refine ⟨h0, fun i hi => ?_⟩
    obtain ⟨h1, h2, h3⟩ := h i hi
    refine ⟨?_, h2⟩
    split
    · omega
    · exact h3 (by omega)
  · rintro ⟨h0, h⟩
    refine ⟨h0, fun i => ?_⟩
    induction i with
    | zero => intro hi; have := h 0 hi; simp at this; omega
    | succ i ih =>
      intro hi
      have h1 := ih (by omega)
      have h2 := h (i + 1) hi
      simp only [Nat.add_sub_cancel, Nat.succ_ne_zero, if_false] at h2
      exact ⟨by omega, h2.2, fun _ => by rw [Nat.add_sub_cancel]; exact h2.1⟩
set_option maxRecDepth 100000 in
set_option maxHeartbeats 2000000 in
theorem multiExist_any (n : Int) (p : Option Addr) (K c : Nat) (Pl : Nat → Int) (w : World) (h : IAt w p K Pl) (hK : K ≤ 1000000) :
    Calls Tryd.prog 43 #[.int .i64 n, .slice p K c] w fun e w' => e = .returned (.bool (decide (risP n K Pl))) ∧ w = w' := by
  have H := Lib.hid h
  clear h
  obtain ⟨B, hB⟩ : ∃ B, B = decide (risP n K Pl) := ⟨_, rfl⟩
  rw [← hB]
  replace hB := Lib.hid hB
  obtain ⟨bef, hbef⟩ : ∃ bef : Nat → Int, bef = fun i => if i = 0 then -1 else Pl (i - 1) := ⟨_, rfl⟩
  have HB0 : Hid (bef 0 = -1) := Lib.hid (by rw [hbef]; rfl)
  have HB1 : Hid (∀ i, bef (i + 1) = Pl i) := Lib.hid fun i => by rw [hbef]; simp
  have HOK : Hid (∀ i, okP n Pl i ↔ bef i < Pl i ∧ Pl i < n) := Lib.hid fun i => by rw [hbef]; exact Iff.rfl
  clear hbef
  go_enter Tryd.func43, Tryd.ntmps43
  go_wp2
  go_loopw [5, 10] (fun x i wr => ∃ k : Nat, k ≤ K ∧ i = .int .i64 k ∧ x = .int .i64 (bef k) ∧ Hid (∀ i, i < k → okP n Pl i) ∧ wr = w) (fun _ i _ => K - (intOf i).toNat)
  case atStart => exact ⟨0, by omega, rfl, by rw [HB0.out], Lib.hid (fun j hj => absurd hj (Nat.not_lt_zero j)), rfl⟩
  case round =>
    obtain ⟨k, hk, rfl, rfl, HU, rfl⟩ := hrel
    by_cases hlt : k < K
    · have hd1 : decide ((k : Int) < (K : Int)) = true := decide_eq_true (by omega)
      have hd1' : decide (k < K) = true := decide_eq_true hlt
      obtain ⟨q, rfl, _⟩ := H.out.some (by omega)
      have hc := H.out.cell k hlt
      have hok := HOK.out k
      have hb1 := HB1.out k
      generalize bef k = y at hok ⊢
      obtain ⟨x, hx⟩ : ∃ x, x = Pl k := ⟨_, rfl⟩
      rw [← hx] at hc hok hb1
      replace hb1 := Lib.hid hb1
      have HF : Hid (¬ (y < x ∧ x < n) → B = false) := Lib.hid fun hn => by rw [hB.out]; exact decide_eq_false fun hr => hn (hok.1 ((risP_ok.1 hr).2 k hlt))
      have HS : Hid ((y < x ∧ x < n) → ∀ i, i < k + 1 → okP n Pl i) := Lib.hid fun hg i hi => by
        rcases Nat.lt_or_eq_of_le (show i ≤ k by omega) with h | h
        · exact HU.out i h
        · subst h; exact hok.2 hg
      clear HU hok hx
      by_cases h1 : x ≤ y
      · have hd2 : decide (x ≤ y) = true := decide_eq_true h1
        have hBf := HF.out fun h => by omega
        subst hBf
        clear HF HS h1
        go_wp2
        go_ret
        exact ⟨rfl, rfl⟩
      · have hd2 : decide (x ≤ y) = false := decide_eq_false h1
        by_cases h2 : n ≤ x
        · have hd3 : decide (x ≥ n) = true := decide_eq_true h2
          have hd3' : decide (n ≤ x) = true := decide_eq_true h2
          have hBf := HF.out fun h => by omega
          subst hBf
          clear HF HS h1 h2
          go_wp2
          go_ret
          exact ⟨rfl, rfl⟩
        · have hd3 : decide (x ≥ n) = false := decide_eq_false h2
          have hd3' : decide (n ≤ x) = false := decide_eq_false h2
          have HS1 := Lib.hid (HS.out ⟨by omega, by omega⟩)
          clear HF HS h1 h2
          go_wp2
          go_roundw
          case rel => exact ⟨k + 1, by omega, by go_num, by rw [hb1.out], HS1, trivial⟩
          case measure => simp [intOf]; omega
    · have hd1 : decide ((k : Int) < (K : Int)) = false := decide_eq_false (by omega)
      have hd1' : decide (k < K) = false := decide_eq_false hlt
      obtain rfl : k = K := by omega
      obtain ⟨E, hE⟩ : ∃ E, E = decide ((k : Int) > 0) := ⟨_, rfl⟩
      have hEB : E = B := by
        rw [hE, hB.out, decide_eq_decide, risP_ok]
        exact ⟨fun h => ⟨by omega, HU.out⟩, fun h => by have := h.1; omega⟩
      rw [hEB] at hE
      have hd2 : decide ((k : Int) > 0) = B := hE.symm
      have hd2' : decide (0 < (k : Int)) = B := hE.symm
      have hd2'' : decide (0 < k) = B := by rw [hE, decide_eq_decide]; omega
      clear HU hEB hE
      go_wp2
      go_ret
      exact ⟨rfl, rfl⟩
theorem multiWhole_any (n : Int) (p : Option Addr) (K c : Nat) (w : World) :
    Calls Tryd.prog 27 #[.int .i64 n, .slice p K c] w fun e w' => e = .returned (.agg (paC 0 n p K c)) ∧ Kept w w' := by
  have R1 := Lib.hid (Rowz.new w (paC 0 n p K c) 62)
  have K1 := Lib.hid ((Kept.refl w).alloc (.cells (paC 0 n p K c) 62))
  go_enter Tryd.func27, Tryd.ntmps27
  go_wp2
  refine bodyPost_ret (v := .agg (paC 0 n p K c)) (results_rowP Tryd.results27 _ _ w.heap.size 62 _ _ rfl R1.out Tryd.underlying62 rfl (info_part _ _ _ _ _)) rfl ?_
  exact ⟨rfl, K1.out⟩
def PartNeedOk (F : FuncId) (n : Nat) : Prop := ∀ (Q : Nat → Bool) (f K : Nat) (Pl : Nat → Int) (p : Option Addr) (c : Nat) (w : World), PartQ Q f n K Pl → IAt w p K Pl → K ≤ c → K ≤ 1000000 → 0 < n → f + n ≤ 1000000000 →
    Calls Tryd.prog F #[.agg (paC f n p K c)] w fun e w' => e = .returned (.int .i64 (needN Q f n : Int)) ∧ Kept w w'
set_option maxRecDepth 100000 in
set_option maxHeartbeats 4000000 in
theorem partNeed_any (n : Nat) : PartNeedOk 44 n := by
  induction n using Nat.strongRecOn with
  | _ n ih =>
    intro Q f K Pl p c w hP hI hK hK6 hn hf
    have HC : Hid (∀ w, _) := Lib.hid fun w => partClosed_any f n p K c w
    have R1 := Lib.hid (Rowz.new w (paC f n p K c) 62)
    have K1 := Lib.hid ((Kept.refl w).alloc (.cells (paC f n p K c) 62))
    have hh := hP.has
    by_cases h0 : K = 0
    · rw [decide_eq_false (by omega)] at hh
      rw [decide_eq_true h0] at HC
      rw [needN_none hh]
      clear ih hP hI hh h0
      go_enter Tryd.func44, Tryd.ntmps44
      go_wp2_with (refine park_at 6 rfl ?_)
      change Parked (wpList _ _ _ _ _ (w.alloc (.cells (paC f n p K c) 62)))
      generalize w.alloc (.cells (paC f n p K c) 62) = v at R1 K1 ⊢
      refine unpark ?_
      refine wpList_execP 6 rfl (by rfl) (.agg (paC f n p K c)) _ (execLoadP rfl rfl R1.out) ?_
      go_wp2_with fail
      refine (HC.out v).mono ?_
      rintro e v1 ⟨rfl, k1⟩
      replace K1 := Lib.hid (K1.out.trans k1)
      clear k1 R1
      go_wp2_with fail
      go_ret
      exact ⟨rfl, K1.out⟩
    · rw [decide_eq_true (by omega)] at hh
      rw [decide_eq_false h0] at HC
      by_cases h2 : n < 2
      · obtain rfl : n = 1 := by omega
        rw [needN_one hh h2]
        clear ih hP hI hh h0
        go_enter Tryd.func44, Tryd.ntmps44
        go_wp2_with (refine park_at 6 rfl ?_)
        change Parked (wpList _ _ _ _ _ (w.alloc (.cells (paC f (1 : Nat) p K c) 62)))
        generalize w.alloc (.cells (paC f (1 : Nat) p K c) 62) = v at R1 K1 ⊢
        refine unpark ?_
        refine wpList_execP 6 rfl (by rfl) (.agg (paC f (1 : Nat) p K c)) _ (execLoadP rfl rfl R1.out) ?_
        go_wp2_with fail
        refine (HC.out v).mono ?_
        rintro e v1 ⟨rfl, k1⟩
        replace K1 := Lib.hid (K1.out.trans k1)
        have c1 : v1.cell? ⟨w.heap.size, 1, none⟩ = some (.int .i64 (1 : Nat)) := (R1.out.kept k1).cell 1
        clear k1 R1
        go_wp2_with fail
        go_ret
        exact ⟨rfl, K1.out⟩
      · have h0' : 0 < K := by omega
        have hp := leftN_pos (n := n) (by omega)
        have hl := leftN_lt (n := n) (by omega)
        have b1 := needN_le Q (leftN n) f hp
        have b2 := needN_le Q (n - leftN n) (f + leftN n) (by omega)
        have HS : Hid (∀ w, IAt w p K Pl → _) := Lib.hid fun w h => partSides_any Q f n K Pl p c w hP (by omega) h0' h hK hK6 hf
        have HI1 : Hid (∀ k, k ≤ K → PartQ Q f (leftN n) k Pl → ∀ w, IAt w p k Pl → _) := Lib.hid fun k hk h w hI => ih (leftN n) hl Q f k Pl p c w h hI (by omega) (by omega) hp (by omega)
        have HI2 : Hid (∀ k p', k ≤ K → PartQ Q (f + leftN n) (n - leftN n) (K - k) (fun i => Pl (k + i)) → ∀ w, IAt w p' (K - k) (fun i => Pl (k + i)) → _) := Lib.hid fun k p' hk h w hI => ih (n - leftN n) (by omega) Q (f + leftN n) (K - k) (fun i => Pl (k + i)) p' (c - k) w h hI (by omega) (by omega) (by omega) (by omega)
        rw [needN_two hh (by omega)]
        have hne : ((n : Int) == 1) = false := by simp; omega
        have HI := Lib.hid hI
        have RN : Hid (∀ v : World, Rowz (v.alloc (.cells (paC 0 0 none 0 0) 62)) v.heap.size (paC 0 0 none 0 0) 62) := Lib.hid fun v => Rowz.new v _ _
        clear ih hP hI hh h0
        generalize needN Q f (leftN n) = a at HI1 b1 ⊢
        generalize needN Q (f + leftN n) (n - leftN n) = b at HI2 b2 ⊢
        generalize leftN n = l at hl hp HS HI1 HI2 b1 b2
        have hsum : IntKind.i64.wrap ((a : Int) + (b : Int)) = ((a + b : Nat) : Int) := by simp only [IntKind.wrap, IntKind.signed, IntKind.bits]; simp; omega
        clear b1 b2
        go_enter Tryd.func44, Tryd.ntmps44
        go_wp2_with (refine park_at 6 rfl ?_)
        change Parked (wpList _ _ _ _ _ (w.alloc (.cells (paC f n p K c) 62)))
        generalize w.alloc (.cells (paC f n p K c) 62) = v at R1 K1 ⊢
        refine unpark ?_
        refine wpList_execP 6 rfl (by rfl) (.agg (paC f n p K c)) _ (execLoadP rfl rfl R1.out) ?_
        go_wp2_with fail
        refine (HC.out v).mono ?_
        rintro e v1 ⟨rfl, k1⟩
        replace K1 := Lib.hid (K1.out.trans k1)
        replace R1 := Lib.hid (R1.out.kept k1)
        have c1 : v1.cell? ⟨w.heap.size, 1, none⟩ = some (.int .i64 n) := R1.out.cell 1
        clear k1 HC
        go_wp2_with (refine park_at 13 rfl ?_)
        clear c1
        refine unpark ?_
        refine wpList_execP 13 rfl (by rfl) (.agg (paC f n p K c)) _ (execLoadP rfl rfl R1.out) ?_
        go_wp2_with fail
        refine (HS.out v1 (HI.out.kept K1.out)).mono ?_
        rintro e v2 ⟨k, p', rfl, ⟨hk, hp1, hp2, hi2⟩, k2⟩
        have K2 := Lib.hid (K1.out.trans k2)
        have I2 := Lib.hid (hi2 v2 (HI.out.kept K2.out))
        have I1 := Lib.hid ((HI.out.kept K2.out).left k hk)
        have HI1 : Hid (∀ w, IAt w p k Pl → _) := Lib.hid (HI1.out k hk hp1)
        have HI2 : Hid (∀ w, IAt w p' (K - k) (fun i => Pl (k + i)) → _) := Lib.hid (HI2.out k p' hk hp2)
        clear R1 K1 k2 HI hi2 hp1 hp2 HS
        go_wp2_with (refine park_noneP rfl ?_)
        have T1 := Lib.hid ((RN.out v2).alloc (.cells (paC 0 0 none 0 0) 62))
        have T2 := Lib.hid (RN.out (v2.alloc (.cells (paC 0 0 none 0 0) 62)))
        have e2 : (v2.alloc (.cells (paC 0 0 none 0 0) 62)).heap.size = v2.heap.size + 1 := by simp
        rw [e2] at T2
        have K3 := Lib.hid (((Kept.refl v2).alloc (.cells (paC 0 0 none 0 0) 62)).alloc (.cells (paC 0 0 none 0 0) 62))
        change Parked (wpList _ _ _ _ _ ((v2.alloc (.cells (paC 0 0 none 0 0) 62)).alloc (.cells (paC 0 0 none 0 0) 62)))
        generalize (v2.alloc (.cells (paC 0 0 none 0 0) 62)).alloc (.cells (paC 0 0 none 0 0) 62) = v3 at T1 T2 K3 ⊢
        clear e2 RN
        refine unpark ?_
        refine wpList_store_row rfl 62 _ _ rfl v2.heap.size (paC f l p k c) rfl rfl 62 (paC 0 0 none 0 0) T1.out (info_part _ _ _ _ _) rfl (paC_one _ _ _ _ _) ?_
        have U1 := Lib.hid (T1.out.row (D := paC f l p k c))
        have U2 := Lib.hid (T2.out.rowOther (D := paC f l p k c) (k := v2.heap.size) (by omega))
        have K4 := Lib.hid (K3.out.setRow (g := v2.heap.size) (Nat.le_refl _) (paC f l p k c))
        generalize v3.setRow v2.heap.size (paC f l p k c) = v4 at U1 U2 K4 ⊢
        refine wpList_store_row rfl 62 _ _ rfl (v2.heap.size + 1) (paC ((f + l : Nat) : Int) ((n - l : Nat) : Int) p' (K - k) (c - k)) rfl rfl 62 (paC 0 0 none 0 0) U2.out (info_part _ _ _ _ _) rfl (paC_one _ _ _ _ _) ?_
        have V2 := Lib.hid (U2.out.row (D := paC ((f + l : Nat) : Int) ((n - l : Nat) : Int) p' (K - k) (c - k)))
        have V1 := Lib.hid (U1.out.rowOther (D := paC ((f + l : Nat) : Int) ((n - l : Nat) : Int) p' (K - k) (c - k)) (k := v2.heap.size + 1) (by omega))
        have K5 := Lib.hid (K4.out.setRow (g := v2.heap.size + 1) (by omega) (paC ((f + l : Nat) : Int) ((n - l : Nat) : Int) p' (K - k) (c - k)))
        generalize v4.setRow (v2.heap.size + 1) (paC ((f + l : Nat) : Int) ((n - l : Nat) : Int) p' (K - k) (c - k)) = v5 at V1 V2 K5 ⊢
        replace I1 := Lib.hid (I1.out.kept K5.out)
        replace I2 := Lib.hid (I2.out.kept K5.out)
        replace K2 := Lib.hid (K2.out.trans K5.out)
        generalize v2.heap.size = g at V1 V2
        clear T1 T2 K3 U1 U2 K4 K5
        go_wp2_with fail
        refine wp_region_table [(17, .is (.agg (paC f l p k c))), (18, .is (.int .i64 (a : Int))), (19, .is (.agg (paC ((f + l : Nat) : Int) ((n - l : Nat) : Int) p' (K - k) (c - k)))), (20, .is (.int .i64 (b : Int))), (21, .is (.int .i64 ((a + b : Nat) : Int))), (2, .is (.int .i64 ((a + b : Nat) : Int)))] (by kernel_rfl) (by kernel_rfl) ?_ ?_
        · refine ⟨fun t w1 hf hk hp => ?_, ?_⟩
          · have h3 : slot t 3 = .pointer (some ⟨g, 0, none⟩) := hf 3 (by kernel_rfl)
            clear hf hp
            refine stepAt_plain rfl ?_
            exact stepOK_pure (.agg (paC f l p k c)) (execLoadP rfl h3 (V1.out.kept hk)) rfl
          refine ⟨fun t w1 hf hk hp => ?_, ?_⟩
          · have h17 : slot t 17 = .agg (paC f l p k c) := hp 17 (by kernel_rfl)
            clear hf hp
            refine stepAt_plain rfl ?_
            refine stepOK_call #[.agg (paC f l p k c)] rfl (by simp only [List.map_toArray, List.map_cons, List.map_nil, evS, h17]) (by go_simp) ((HI1.out w1 (I1.out.kept hk)).mono fun e w' ⟨he, hk'⟩ => ⟨_, he, hk', rfl⟩)
          refine ⟨fun t w1 hf hk hp => ?_, ?_⟩
          · have h4 : slot t 4 = .pointer (some ⟨g + 1, 0, none⟩) := hf 4 (by kernel_rfl)
            clear hf hp
            refine stepAt_plain rfl ?_
            exact stepOK_pure (.agg (paC ((f + l : Nat) : Int) ((n - l : Nat) : Int) p' (K - k) (c - k))) (execLoadP rfl h4 (V2.out.kept hk)) rfl
          refine ⟨fun t w1 hf hk hp => ?_, ?_⟩
          · have h19 : slot t 19 = .agg (paC ((f + l : Nat) : Int) ((n - l : Nat) : Int) p' (K - k) (c - k)) := hp 19 (by kernel_rfl)
            clear hf hp
            refine stepAt_plain rfl ?_
            refine stepOK_call #[.agg (paC ((f + l : Nat) : Int) ((n - l : Nat) : Int) p' (K - k) (c - k))] rfl (by simp only [List.map_toArray, List.map_cons, List.map_nil, evS, h19]) (by go_simp) ((HI2.out w1 (I2.out.kept hk)).mono fun e w' ⟨he, hk'⟩ => ⟨_, he, hk', rfl⟩)
          refine ⟨fun t w1 hf hk hp => ?_, ?_⟩
          · have h18 : slot t 18 = .int .i64 (a : Int) := hp 18 (by kernel_rfl)
            have h20 : slot t 20 = .int .i64 (b : Int) := hp 20 (by kernel_rfl)
            clear hf hp
            refine stepAt_plain rfl ?_
            have hq0 := hsum
            refine stepOK_pure (.int .i64 ((a + b : Nat) : Int)) ?_ rfl
            simp only [execOp, evS, h18, h20]
            go_simp
          refine ⟨fun t w1 hf hk hp => ?_, ?_⟩
          · have h21 : slot t 21 = .int .i64 ((a + b : Nat) : Int) := hp 21 (by kernel_rfl)
            clear hf hp
            refine stepAt_plain rfl ?_
            exact stepOK_move _ (.inr rfl) h21
          exact trivial
        · intro t w1 hsz hf hk hfacts
          have h2 : slot t 2 = .int .i64 ((a + b : Nat) : Int) := hfacts 5 _ rfl 2 rfl
          have h3 : slot t 3 = .pointer (some ⟨g, 0, none⟩) := hf 3 (by kernel_rfl)
          have h4 : slot t 4 = .pointer (some ⟨g + 1, 0, none⟩) := hf 4 (by kernel_rfl)
          have harr : t = #[slot t 0, slot t 1, slot t 2, slot t 3, slot t 4, slot t 5, slot t 6, slot t 7, slot t 8, slot t 9, slot t 10, slot t 11, slot t 12, slot t 13, slot t 14, slot t 15, slot t 16, slot t 17, slot t 18, slot t 19, slot t 20, slot t 21] := arr_eq t 22 hsz
          rw [harr, h2, h3, h4]
          clear harr hfacts hf h2 h3 h4
          generalize slot t 0 = x0; generalize slot t 1 = x1; generalize slot t 5 = x5; generalize slot t 6 = x6; generalize slot t 7 = x7; generalize slot t 8 = x8; generalize slot t 9 = x9; generalize slot t 10 = x10; generalize slot t 11 = x11; generalize slot t 12 = x12; generalize slot t 13 = x13; generalize slot t 14 = x14
          generalize slot t 15 = x15; generalize slot t 16 = x16; generalize slot t 17 = x17; generalize slot t 18 = x18; generalize slot t 19 = x19; generalize slot t 20 = x20; generalize slot t 21 = x21
          clear hsz t
          have K6 := Lib.hid (K2.out.trans hk)
          go_wp2_with fail
          go_ret
          exact ⟨rfl, K6.out⟩
set_option maxRecDepth 100000 in
set_option maxHeartbeats 2000000 in
theorem multiNeed_any : MultiNeedC 26 := by
  intro n p K c Pl w hn hI hK hc hK6
  have HE := Lib.hid (multiExist_any n p K c Pl w hI hK6)
  by_cases hr : risP n K Pl
  · obtain ⟨N, rfl, hN⟩ := risP_nat hr
    rw [needI_yes hr]
    rw [decide_eq_true hr] at HE
    have HW : Hid (∀ w, _) := Lib.hid fun w => multiWhole_any (N : Int) p K c w
    have HQ : Hid (∀ w, IAt w p K Pl → Calls Tryd.prog 44 #[.agg (paC 0 N p K c)] w fun e w' => e = .returned (.int .i64 (needN (qP K Pl) 0 N : Int)) ∧ Kept w w') := Lib.hid fun w h => partNeed_any N (qP K Pl) 0 K Pl p c w (PartQ.whole hr) h hK hK6 hN (by omega)
    have HI := Lib.hid hI
    generalize needN (qP K Pl) 0 N = a at HQ ⊢
    clear hI hr
    go_enter Tryd.func26, Tryd.ntmps26
    go_wp2_with fail
    refine HE.out.mono ?_
    rintro e v ⟨rfl, rfl⟩
    go_wp2_with fail
    refine (HW.out w).mono ?_
    rintro e v ⟨rfl, k1⟩
    have K1 := Lib.hid k1
    clear k1
    go_wp2_with fail
    refine (HQ.out v (HI.out.kept K1.out)).mono ?_
    rintro e v2 ⟨rfl, k2⟩
    have K2 := Lib.hid (K1.out.trans k2)
    clear k2
    go_wp2_with fail
    go_ret
    exact ⟨rfl, K2.out⟩
  · rw [needI_no hr]
    rw [decide_eq_false hr] at HE
    clear hI hr
    go_enter Tryd.func26, Tryd.ntmps26
    go_wp2_with fail
    refine HE.out.mono ?_
    rintro e v ⟨rfl, rfl⟩
    go_wp2_with fail
    go_ret
    exact ⟨rfl, Kept.refl _⟩
end Go.Proofs.YtggpjhldmaflaaaDoor
