/-
  Contracts of slices.Clone and slices.Equal at strings. Condition: at most a million strings to be cloned.
-/
import Derived.Test.YtlfkkfacbcpogaaDoorLinkMath
namespace Go.Proofs.YtlfkkfacbcpogaaDoor
set_option maxRecDepth 4000
open Go.RowKit

theorem run_build0S (w : World) : (Instr.buildSlice 24 0 #[]).run Tryd.prog w = .ok (.slice (some ⟨w.heap.size, 0, none⟩) 0 0) (w.alloc (.cells #[] 9)) := by kernel_rfl
set_option maxRecDepth 100000 in
set_option maxHeartbeats 2000000 in
theorem slicesCloneS_any (n : Nat) (S : Nat → ByteArray) (v : Value) (w : World) (hv : SSl n S v w) (hn : n ≤ 1000000) :
    Calls Tryd.prog 16 #[v] w fun e w' => ∃ p c, e = .returned (.slice p n c) ∧ SSl n S (.slice p n c) w' ∧ Kept w w' := by
  obtain ⟨p, c, rfl, hc, hcm, hS⟩ := hv
  cases p with
  | none =>
    have hn0 : n = 0 := by
      rcases Nat.eq_zero_or_pos n with h | h
      · exact h
      · obtain ⟨a, ha, _⟩ := hS.some h
        cases ha
    subst hn0
    have hnil : (binOp .eql 24 (.slice none 0 c) (.slice none 0 0)).run Tryd.prog w = .ok (.bool true) w := by kernel_rfl
    clear hS hc hcm
    go_enter Tryd.func16, Tryd.ntmps16
    go_wp2_with fail
    go_ret
    exact ⟨none, 0, rfl, ⟨none, 0, rfl, Nat.le_refl _, Nat.zero_le _, SAt.zero _ _ _⟩, Kept.refl _⟩
  | some q =>
    obtain ⟨i, hi, hz0, hz1, hz2⟩ := info_parts infoStr12
    have hnil : (binOp .eql 24 (.slice (some q) n c) (.slice none 0 0)).run Tryd.prog w = .ok (.bool false) w := by kernel_rfl
    replace hi := Lib.hid hi
    replace hz0 := Lib.hid hz0
    replace hz1 := Lib.hid hz1
    replace hz2 := Lib.hid hz2
    have HS := Lib.hid hS
    clear hS hc hcm
    go_enter Tryd.func16, Tryd.ntmps16
    go_wp2_with (refine park_at 7 rfl ?_)
    have K1 := Lib.hid ((Kept.refl w).alloc (.cells #[] 9))
    have O1 : Hid ((w.alloc (.cells #[] 9)).ownsRow w.heap.size 9 1 (.slice (some ⟨w.heap.size, 0, none⟩) 0 0) 0 []) := Lib.hid (World.ownsRow_made w #[] 0 (Nat.le_refl _) (Nat.zero_le _) rfl)
    change Parked (wpList _ _ _ _ _ (w.alloc (.cells #[] 9)))
    generalize w.alloc (.cells #[] 9) = v1 at K1 O1 ⊢
    refine unpark ?_
    refine wpList_append_own v1 rfl _ _ 24 rfl w.heap.size 9 i _ 1 16 Tryd.underlying24 hi.out hz0.out hz1.out hz2.out rfl (by decide) _ 0 [] rfl O1.out q n c ((sL S n).map Value.string) rfl (by simp [sL]) ?_ ?_ (by unfold maxLen; omega) (by omega) K1.out.size ?_
    · intro j u hu
      have hj : j < n := by
        have := (List.getElem?_eq_some_iff.1 hu).1
        simpa [sL] using this
      have e : ((sL S n).map Value.string)[j]? = some (.string (S j)) := by simp [sL, hj]
      rw [e] at hu
      rw [← Option.some.inj hu]
      exact (HS.out.kept K1.out).cell j hj
    · intro u hu
      obtain ⟨j, _, rfl⟩ := List.mem_map.1 hu
      rfl
    · intro v' w' ho hg _
      have KF := Lib.hid (K1.out.grownBy hg fun k hk' => (O1.out.lt k hk').1)
      have HV : Hid (SSl n S v' w') := Lib.hid (SSl.ofTx (base := w.heap.size) (by
        unfold TxS
        rw [sL_length]
        rw [Nat.zero_add, List.nil_append] at ho
        exact ho))
      obtain ⟨p2, c2, rfl, h1, h2, h3⟩ := HV.out
      clear ho hg
      go_wp2_with fail
      go_ret
      exact ⟨p2, c2, rfl, HV.out, KF.out⟩
set_option maxRecDepth 100000 in
set_option maxHeartbeats 1000000 in
theorem slicesEqualS_any (n m : Nat) (F G : Nat → ByteArray) (v u : Value) (w : World) (hv : SSl n F v w) (hu : SSl m G u w) :
    Calls Tryd.prog 21 #[v, u] w fun e w' => ∃ B : Bool, e = .returned (.bool B) ∧ (B = true ↔ n = m ∧ ∀ i, i < n → F i = G i) ∧ Kept w w' := by
  obtain ⟨p, c, rfl, hc, hcm, hF⟩ := hv
  obtain ⟨p', c', rfl, hc', hcm', hG⟩ := hu
  by_cases hnm : n = m
  · subst hnm
    have HF := Lib.hid hF
    have HG := Lib.hid hG
    have hd0 : ((n : Int) != (n : Int)) = false := by simp
    have hn63 : n ≤ 9223372036854775807 := by unfold maxLen at hcm; omega
    clear hF hG hc hcm hc' hcm'
    go_enter Tryd.func21, Tryd.ntmps21
    go_wp2
    go_loopw [13] (fun i wr => ∃ k : Nat, k ≤ n ∧ i = .int .i64 k ∧ Hid (∀ i, i < k → F i = G i) ∧ Hid (Kept w wr)) (fun i _ => n - (intOf i).toNat)
    case atStart => exact ⟨0, by omega, rfl, Lib.hid (fun i hi => absurd hi (Nat.not_lt_zero i)), Lib.hid (Kept.refl w)⟩
    case round =>
      obtain ⟨k, hk, rfl, HU, HK⟩ := hrel
      by_cases hlt : k < n
      · have hd1 : decide ((k : Int) < (n : Int)) = true := decide_eq_true (by omega)
        have hd1' : decide (k < n) = true := decide_eq_true hlt
        obtain ⟨q, rfl, _⟩ := HF.out.some (by omega)
        obtain ⟨q', rfl, _⟩ := HG.out.some (by omega)
        go_wp2_with fail
        refine wp_region_table [(16, .is (.slice (some q) n c)), (17, .is (.int .i64 (k : Int))), (18, .is (.pointer (some (q.add k)))), (19, .is (.string (F k))), (20, .is (.slice (some q') n c')), (21, .is (.int .i64 (k : Int))), (22, .is (.pointer (some (q'.add k)))), (23, .is (.string (G k))), (24, .is (.bool (!decide (F k = G k))))] (by kernel_rfl) (by kernel_rfl) ?_ ?_
        · refine ⟨fun t w1 hf hk hp => ?_, ?_⟩
          · have h0 : slot t 0 = .slice (some q) n c := hf 0 (by kernel_rfl)
            clear hf hp
            refine stepAt_plain rfl ?_
            exact stepOK_move _ (.inl rfl) h0
          refine ⟨fun t w1 hf hk hp => ?_, ?_⟩
          · have h5 : slot t 5 = .int .i64 (k : Int) := hf 5 (by kernel_rfl)
            clear hf hp
            refine stepAt_plain rfl ?_
            exact stepOK_move _ (.inl rfl) h5
          refine ⟨fun t w1 hf hk hp => ?_, ?_⟩
          · have h16 : slot t 16 = .slice (some q) n c := hp 16 (by kernel_rfl)
            have h17 : slot t 17 = .int .i64 (k : Int) := hp 17 (by kernel_rfl)
            clear hf hp
            refine stepAt_plain rfl ?_
            exact stepOK_pure (.pointer (some (q.add k))) (execIndexS q n c k hlt w1 rfl h16 h17) rfl
          refine ⟨fun t w1 hf hk hp => ?_, ?_⟩
          · have h18 : slot t 18 = .pointer (some (q.add k)) := hp 18 (by kernel_rfl)
            clear hf hp
            refine stepAt_plain rfl ?_
            have hq0 := (HF.out.kept (HK.out.trans hk)).load k hlt
            exact stepOK_sem (.string (F k)) (by simp only [execOp, evS, h18]) hq0 rfl
          refine ⟨fun t w1 hf hk hp => ?_, ?_⟩
          · have h1 : slot t 1 = .slice (some q') n c' := hf 1 (by kernel_rfl)
            clear hf hp
            refine stepAt_plain rfl ?_
            exact stepOK_move _ (.inl rfl) h1
          refine ⟨fun t w1 hf hk hp => ?_, ?_⟩
          · have h5 : slot t 5 = .int .i64 (k : Int) := hf 5 (by kernel_rfl)
            clear hf hp
            refine stepAt_plain rfl ?_
            exact stepOK_move _ (.inl rfl) h5
          refine ⟨fun t w1 hf hk hp => ?_, ?_⟩
          · have h20 : slot t 20 = .slice (some q') n c' := hp 20 (by kernel_rfl)
            have h21 : slot t 21 = .int .i64 (k : Int) := hp 21 (by kernel_rfl)
            clear hf hp
            refine stepAt_plain rfl ?_
            exact stepOK_pure (.pointer (some (q'.add k))) (execIndexS q' n c' k hlt w1 rfl h20 h21) rfl
          refine ⟨fun t w1 hf hk hp => ?_, ?_⟩
          · have h22 : slot t 22 = .pointer (some (q'.add k)) := hp 22 (by kernel_rfl)
            clear hf hp
            refine stepAt_plain rfl ?_
            have hq0 := (HG.out.kept (HK.out.trans hk)).load k hlt
            exact stepOK_sem (.string (G k)) (by simp only [execOp, evS, h22]) hq0 rfl
          refine ⟨fun t w1 hf hk hp => ?_, ?_⟩
          · have h19 : slot t 19 = .string (F k) := hp 19 (by kernel_rfl)
            have h23 : slot t 23 = .string (G k) := hp 23 (by kernel_rfl)
            clear hf hp
            refine stepAt_plain rfl ?_
            exact stepOK_pure (.bool (!decide (F k = G k))) (execNeS (F k) (G k) w1 rfl h19 h23) rfl
          exact trivial
        · intro t w1 hsz hf hk hfacts
          have h24 : slot t 24 = .bool (!decide (F k = G k)) := hfacts 8 _ rfl 24 rfl
          have h0 : slot t 0 = .slice (some q) n c := hf 0 (by kernel_rfl)
          have h1 : slot t 1 = .slice (some q') n c' := hf 1 (by kernel_rfl)
          have h5 : slot t 5 = .int .i64 (k : Int) := hf 5 (by kernel_rfl)
          have h13 : slot t 13 = .int .i64 (k : Int) := hf 13 (by kernel_rfl)
          have h2 := hf 2 (by kernel_rfl)
          conv at h2 => rhs; whnf
          try change slot t 2 = undef at h2
          have h3 := hf 3 (by kernel_rfl)
          conv at h3 => rhs; whnf
          try change slot t 3 = undef at h3
          have h4 := hf 4 (by kernel_rfl)
          conv at h4 => rhs; whnf
          try change slot t 4 = undef at h4
          have h6 := hf 6 (by kernel_rfl)
          conv at h6 => rhs; whnf
          try change slot t 6 = undef at h6
          have h7 := hf 7 (by kernel_rfl)
          conv at h7 => rhs; whnf
          try change slot t 7 = undef at h7
          have h8 := hf 8 (by kernel_rfl)
          conv at h8 => rhs; whnf
          try change slot t 8 = undef at h8
          have h9 := hf 9 (by kernel_rfl)
          conv at h9 => rhs; whnf
          try change slot t 9 = undef at h9
          have h10 := hf 10 (by kernel_rfl)
          conv at h10 => rhs; whnf
          try change slot t 10 = undef at h10
          have h11 := hf 11 (by kernel_rfl)
          conv at h11 => rhs; whnf
          try change slot t 11 = undef at h11
          have h12 := hf 12 (by kernel_rfl)
          conv at h12 => rhs; whnf
          try change slot t 12 = undef at h12
          have h14 := hf 14 (by kernel_rfl)
          conv at h14 => rhs; whnf
          try change slot t 14 = undef at h14
          have h15 := hf 15 (by kernel_rfl)
          conv at h15 => rhs; whnf
          try change slot t 15 = undef at h15
          have h25 := hf 25 (by kernel_rfl)
          conv at h25 => rhs; whnf
          try change slot t 25 = undef at h25
          have harr : t = #[slot t 0, slot t 1, slot t 2, slot t 3, slot t 4, slot t 5, slot t 6, slot t 7, slot t 8, slot t 9, slot t 10, slot t 11, slot t 12, slot t 13, slot t 14, slot t 15, slot t 16, slot t 17, slot t 18, slot t 19, slot t 20, slot t 21, slot t 22, slot t 23, slot t 24, slot t 25] := arr_eq t 26 hsz
          rw [harr, h24, h0, h1, h5, h13, h2, h3, h4, h6, h7, h8, h9, h10, h11, h12, h14, h15, h25]
          clear harr hfacts hf h24 h0 h1 h5 h13 h2 h3 h4 h6 h7 h8 h9 h10 h11 h12 h14 h15 h25
          generalize slot t 16 = x16; generalize slot t 17 = x17; generalize slot t 18 = x18; generalize slot t 19 = x19; generalize slot t 20 = x20; generalize slot t 21 = x21; generalize slot t 22 = x22; generalize slot t 23 = x23
          clear hsz t
          have HK1 := Lib.hid (HK.out.trans hk)
          clear hk HK
          by_cases he : F k = G k
          · have hd2 : decide (F k = G k) = true := decide_eq_true he
            have HU1 : Hid (∀ i, i < k + 1 → F i = G i) := Lib.hid (fun i hi => by
              rcases Nat.lt_or_eq_of_le (show i ≤ k by omega) with h | h
              · exact HU.out i h
              · subst h; exact he)
            rw [hd2]
            clear he hd2 HU
            go_wp2
            go_roundw
            case rel => exact ⟨k + 1, by omega, by go_num, HU1, HK1⟩
            case measure => simp [intOf]; omega
          · have hd2 : decide (F k = G k) = false := decide_eq_false he
            rw [hd2]
            have HE := Lib.hid he
            clear he hd2
            go_wp2
            go_ret
            exact ⟨_, rfl, ⟨fun h => by simp at h, fun h => absurd (h.2 k hlt) HE.out⟩, HK1.out⟩
      · have hd1 : decide ((k : Int) < (n : Int)) = false := decide_eq_false (by omega)
        have hd1' : decide (k < n) = false := decide_eq_false hlt
        obtain rfl : k = n := by omega
        go_wp2
        go_ret
        exact ⟨_, rfl, ⟨fun _ => ⟨trivial, HU.out⟩, fun _ => rfl⟩, HK.out⟩
  · have hd0 : ((n : Int) != (m : Int)) = true := by simp; omega
    have hd2 : ¬ (n : Int) = (m : Int) := by omega
    have HN := Lib.hid hnm
    clear hF hG hc hcm hc' hcm' hnm
    go_enter Tryd.func21, Tryd.ntmps21
    go_wp2
    go_ret
    exact ⟨_, rfl, ⟨fun h => by simp at h, fun h => absurd h.1 HN.out⟩, Kept.refl _⟩
end Go.Proofs.YtlfkkfacbcpogaaDoor
