/-
  Contracts of tree.Root, and of the reference's Top, Root and Hashes. Conditions: a slice's length and capacity fit; sha's table of round constants stands (tree.Root); at most a million leaves of at most a million bytes.
-/
import Derived.Test.YtecfgjoomckleaaDoorTreeWalkB
namespace Go.Proofs.YtecfgjoomckleaaDoor
set_option maxRecDepth 4000
open Go.RowKit

/-- A slice of n hashes, as a value. -/
def HSl (n : Nat) (F : Nat → List UInt8) (v : Value) (w : World) : Prop := ∃ p c, v = .slice p n c ∧ n ≤ c ∧ c ≤ maxLen ∧ HAt w p n F
theorem HSl.kept (n : Nat) (F : Nat → List UInt8) (v : Value) (w w' : World) (K : Kept w w') (h : HSl n F v w) : HSl n F v w' := by
  obtain ⟨p, c, hv, h1, h2, h3⟩ := h
  exact ⟨p, c, hv, h1, h2, h3.kept K⟩
theorem HSl.ofRow {w : World} {g n : Nat} {S : Nat → ByteArray} (h : Rowz w g (hC n (lf S)) 41) (hn : n ≤ 1000000) : HSl n (lf S) (.slice (some ⟨g, 0, none⟩) n n) w :=
  ⟨_, _, rfl, Nat.le_refl _, by unfold maxLen; omega, HAt.ofRow h (fun i _ => lf_length S i)⟩
theorem HSl.ofOwns {w : World} {base n : Nat} {v : Value} {S : Nat → ByteArray} (h : w.ownsRow base 41 32 v n (hC n (lf S)).toList) : HSl n (lf S) v w := HAt.ofOwns h (fun i _ => lf_length S i)
theorem TopOk.at {f : FuncId} {n : Nat} (h : TopOk f n) {F : Nat → List UInt8} {v : Value} {w : World} (hv : HSl n F v w) (ht : Tab w) : Calls Tryd.prog f #[v] w fun e w' => e = .returned (.agg (bC 32 (topN F n))) ∧ Kept w w' := by
  obtain ⟨p, c, rfl, h1, h2, h3⟩ := hv
  exact h p c F w h1 h2 h3 ht


/-- The reference's recursion, as TopOk, without the table. -/
def TopOkR (f : FuncId) (n : Nat) : Prop := ∀ (p : Option Addr) (c : Nat) (F : Nat → List UInt8) (w : World), n ≤ c → c ≤ maxLen → HAt w p n F →
    Calls Tryd.prog f #[.slice p n c] w fun e w' => e = .returned (.agg (bC 32 (topN F n))) ∧ Kept w w'
theorem TopOkR.at {f : FuncId} {n : Nat} (h : TopOkR f n) {F : Nat → List UInt8} {v : Value} {w : World} (hv : HSl n F v w) : Calls Tryd.prog f #[v] w fun e w' => e = .returned (.agg (bC 32 (topN F n))) ∧ Kept w w' := by
  obtain ⟨p, c, rfl, h1, h2, h3⟩ := hv
  exact h p c F w h1 h2 h3
set_option maxRecDepth 100000 in
set_option maxHeartbeats 1000000 in
theorem refTop_any (n : Nat) : TopOkR 25 n := by
  induction n using Nat.strongRecOn with
  | _ n ih =>
    intro p c F w hc hm hF
    by_cases h0 : n = 0
    · subst h0
      rw [topN_zero, ← zero_hashC]
      clear ih hF
      have R1 := Lib.hid (Rowz.new w (bC 32 []) 41)
      go_enter Tryd.func25, Tryd.ntmps25
      go_wp2_with (first
        | (refine wpList_exec 7 rfl (by rfl) (.agg (bC 32 [])) _ (execBuild0 rfl (run_build0 _)) ?_)
        | (refine wpList_store_row rfl 41 _ _ rfl w.heap.size (bC 32 []) rfl rfl 41 (bC 32 []) R1.out (info_hash _) (by simp [bC_size]) (bC_one _ _) ?_))
      refine bodyPost_ret (v := .agg (bC 32 [])) (results_cell_row Tryd.results25 _ _ w.heap.size 41 _ (0, 0) _ rfl R1.out.row Tryd.underlying41 rfl (info_hash _)) rfl ⟨rfl, ?_⟩
      exact ((Kept.refl w).alloc _).setRow (Nat.le_refl _) _
    · by_cases h1 : n = 1
      · subst h1
        rw [topN_one]
        obtain ⟨q, rfl, _⟩ := hF.some (by omega)
        have R1 := Lib.hid (Rowz.new w (bC 32 []) 41)
        have HF := Lib.hid hF
        clear ih hF
        go_enter Tryd.func25, Tryd.ntmps25
        go_wp2_with (first
          | (refine wpList_exec 13 rfl (by rfl) (.agg (bC 32 (F 0))) _ (execLoadAt rfl rfl ((HF.out.kept ((Kept.refl w).alloc _)).load0 (by omega))) ?_)
          | refine wpList_store_row rfl 41 _ _ rfl w.heap.size (bC 32 (F 0)) rfl rfl 41 (bC 32 []) R1.out (info_hash _) (by simp [bC_size]) (bC_one _ _) ?_)
        refine bodyPost_ret (v := .agg (bC 32 (F 0))) (results_cell_row Tryd.results25 _ _ w.heap.size 41 _ (0, 0) _ rfl R1.out.row Tryd.underlying41 rfl (info_hash _)) rfl ⟨rfl, ?_⟩
        exact ((Kept.refl w).alloc _).setRow (Nat.le_refl _) _
      · have h2 : 2 ≤ n := by omega
        obtain ⟨q, rfl, _⟩ := hF.some (by omega)
        have hL := leftN_lt h2
        have hP := leftN_pos h2
        have HLf : Hid (∀ w, Calls Tryd.prog 24 #[.int .i64 (n : Int)] w fun e w' => e = .returned (.int .i64 (leftN n : Int)) ∧ w = w') := Lib.hid fun w => refLeft_any (n : Int) w (by unfold maxLen at hm; omega)
        have HA : Hid (∀ w, HAt w (some q) n F → _) := Lib.hid fun w hF => ih (leftN n) hL (some q) c F w (by omega) hm (hF.left _ (by omega))
        have HB : Hid (∀ w, HAt w (some q) n F → _) := Lib.hid fun w hF => ih (n - leftN n) (by omega) (some (q.add (leftN n * 32))) (c - leftN n) (fun i => F (leftN n + i)) w (by omega) (by omega) (hF.right _ (by omega))
        have hla := topN_length F (leftN n) (fun i hi => hF.length i (by omega))
        have hlb := topN_length (fun i => F (leftN n + i)) (n - leftN n) (fun i hi => hF.length _ (by omega))
        rw [topN_two F h2]
        have HN : Hid (∀ w, _) := Lib.hid fun w => refNodeSum_any (topN F (leftN n)) (topN (fun i => F (leftN n + i)) (n - leftN n)) hla hlb w
        have hd0 : ((n : Int) == 0) = false := by rw [beq_eq_false_iff_ne]; omega
        have hd1 : ((n : Int) == 1) = false := by rw [beq_eq_false_iff_ne]; omega
        clear ih hla hlb
        generalize topN (fun i => F (leftN n + i)) (n - leftN n) = B at HB HN ⊢
        generalize topN F (leftN n) = A at HA HN ⊢
        generalize leftN n = l at hL hP HLf HA HB
        have HF := Lib.hid hF
        clear hF
        go_enter Tryd.func25, Tryd.ntmps25
        go_wp2_with fail
        change Calls _ _ _ (w.alloc (.cells (bC 32 []) 41)) _
        have R1 := Lib.hid (Rowz.new w (bC 32 []) 41)
        have K1 := Lib.hid ((Kept.refl w).alloc (.cells (bC 32 []) 41))
        generalize w.alloc (.cells (bC 32 []) 41) = v at R1 K1 ⊢
        refine (HLf.out _).mono ?_
        rintro e v1 ⟨rfl, rfl⟩
        go_wp2_with fail
        refine wp_region_tail 9 [(17, .is (.slice (some q) n c)), (18, .is (.int .i64 (l : Int))), (19, .is (.slice (some q) l c)), (20, .is (.agg (bC 32 A))), (21, .is (.slice (some q) n c)), (22, .is (.int .i64 (l : Int))), (23, .is (.slice (some (q.add (l * 32))) (n - l) (c - l))), (24, .is (.agg (bC 32 B))), (25, .is (.agg (bC 32 (shaL (nodeS A B)))))] (by kernel_rfl) (by kernel_rfl) ?_ ?_
        · refine ⟨fun t w1 hf hk hp => ?_, ?_⟩
          · have h0 : slot t 0 = .slice (some q) n c := hf 0 (by kernel_rfl)
            clear hf hp
            refine stepM_at (by kernel_rfl) ?_
            refine stepAt_plain rfl ?_
            exact stepOK_move _ (.inl rfl) h0
          refine ⟨fun t w1 hf hk hp => ?_, ?_⟩
          · have h3 : slot t 3 = .int .i64 (l : Int) := hf 3 (by kernel_rfl)
            clear hf hp
            refine stepM_at (by kernel_rfl) ?_
            refine stepAt_plain rfl ?_
            exact stepOK_move _ (.inl rfl) h3
          refine ⟨fun t w1 hf hk hp => ?_, ?_⟩
          · have h17 : slot t 17 = .slice (some q) n c := hp 17 (by kernel_rfl)
            have h18 : slot t 18 = .int .i64 (l : Int) := hp 18 (by kernel_rfl)
            clear hf hp
            refine stepM_at (by kernel_rfl) ?_
            refine stepAt_plain rfl ?_
            have hq0 := run_cutH_left q n c l w1 (by omega)
            exact stepOK_sem (.slice (some q) l c) (by simp only [execOp, evS, Option.map_some, Option.map_none, h17, h18]) hq0 rfl
          refine ⟨fun t w1 hf hk hp => ?_, ?_⟩
          · have h19 : slot t 19 = .slice (some q) l c := hp 19 (by kernel_rfl)
            clear hf hp
            refine stepM_at (by kernel_rfl) ?_
            refine stepAt_plain rfl ?_
            refine stepOK_call #[.slice (some q) l c] rfl (by simp only [List.map_toArray, List.map_cons, List.map_nil, evS, h19]) (by go_simp) ((HA.out w1 (HF.out.kept (K1.out.trans hk))).mono fun e w' ⟨he, hk'⟩ => ⟨_, he, hk', rfl⟩)
          refine ⟨fun t w1 hf hk hp => ?_, ?_⟩
          · have h0 : slot t 0 = .slice (some q) n c := hf 0 (by kernel_rfl)
            clear hf hp
            refine stepM_at (by kernel_rfl) ?_
            refine stepAt_plain rfl ?_
            exact stepOK_move _ (.inl rfl) h0
          refine ⟨fun t w1 hf hk hp => ?_, ?_⟩
          · have h3 : slot t 3 = .int .i64 (l : Int) := hf 3 (by kernel_rfl)
            clear hf hp
            refine stepM_at (by kernel_rfl) ?_
            refine stepAt_plain rfl ?_
            exact stepOK_move _ (.inl rfl) h3
          refine ⟨fun t w1 hf hk hp => ?_, ?_⟩
          · have h21 : slot t 21 = .slice (some q) n c := hp 21 (by kernel_rfl)
            have h22 : slot t 22 = .int .i64 (l : Int) := hp 22 (by kernel_rfl)
            clear hf hp
            refine stepM_at (by kernel_rfl) ?_
            refine stepAt_plain rfl ?_
            have hq0 := run_cutH_right q n c l w1 (by omega) (by omega)
            exact stepOK_sem (.slice (some (q.add (l * 32))) (n - l) (c - l)) (by simp only [execOp, evS, Option.map_some, Option.map_none, h21, h22]) hq0 rfl
          refine ⟨fun t w1 hf hk hp => ?_, ?_⟩
          · have h23 : slot t 23 = .slice (some (q.add (l * 32))) (n - l) (c - l) := hp 23 (by kernel_rfl)
            clear hf hp
            refine stepM_at (by kernel_rfl) ?_
            refine stepAt_plain rfl ?_
            refine stepOK_call #[.slice (some (q.add (l * 32))) (n - l) (c - l)] rfl (by simp only [List.map_toArray, List.map_cons, List.map_nil, evS, h23]) (by go_simp) ((HB.out w1 (HF.out.kept (K1.out.trans hk))).mono fun e w' ⟨he, hk'⟩ => ⟨_, he, hk', rfl⟩)
          refine ⟨fun t w1 hf hk hp => ?_, ?_⟩
          · have h20 : slot t 20 = .agg (bC 32 A) := hp 20 (by kernel_rfl)
            have h24 : slot t 24 = .agg (bC 32 B) := hp 24 (by kernel_rfl)
            clear hf hp
            refine stepM_at (by kernel_rfl) ?_
            refine stepAt_plain rfl ?_
            refine stepOK_call #[.agg (bC 32 A), .agg (bC 32 B)] rfl (by simp only [List.map_toArray, List.map_cons, List.map_nil, evS, h20, h24]) (by go_simp) ((HN.out w1).mono fun e w' ⟨he, hk'⟩ => ⟨_, he, hk', rfl⟩)
          exact trivial
        · intro t w1 hsz hf hk hfacts
          have h25 : slot t 25 = .agg (bC 32 (shaL (nodeS A B))) := hfacts 8 _ (by decide) rfl 25 rfl
          have h0 : slot t 0 = .slice (some q) n c := hf 0 (by kernel_rfl)
          have h2 : slot t 2 = .pointer (some ⟨w.heap.size, 0, none⟩) := hf 2 (by kernel_rfl)
          have h3 : slot t 3 = .int .i64 (l : Int) := hf 3 (by kernel_rfl)
          have harr : t = #[slot t 0, slot t 1, slot t 2, slot t 3, slot t 4, slot t 5, slot t 6, slot t 7, slot t 8, slot t 9, slot t 10, slot t 11, slot t 12, slot t 13, slot t 14, slot t 15, slot t 16, slot t 17, slot t 18, slot t 19, slot t 20, slot t 21, slot t 22, slot t 23, slot t 24, slot t 25] := arr_eq t 26 hsz
          rw [harr, h25, h0, h2, h3]
          clear harr hfacts hf h25 h0 h2 h3
          generalize slot t 1 = x1; generalize slot t 4 = x4; generalize slot t 5 = x5; generalize slot t 6 = x6; generalize slot t 7 = x7; generalize slot t 8 = x8; generalize slot t 9 = x9; generalize slot t 10 = x10; generalize slot t 11 = x11; generalize slot t 12 = x12; generalize slot t 13 = x13; generalize slot t 14 = x14
          generalize slot t 15 = x15; generalize slot t 16 = x16; generalize slot t 17 = x17; generalize slot t 18 = x18; generalize slot t 19 = x19; generalize slot t 20 = x20; generalize slot t 21 = x21; generalize slot t 22 = x22; generalize slot t 23 = x23; generalize slot t 24 = x24
          clear hsz t
          simp only [List.drop_succ_cons, List.drop_zero]
          have R2 := Lib.hid (R1.out.kept hk)
          have K2 := Lib.hid (K1.out.trans hk)
          go_wp2_with (refine wpList_store_row rfl 41 _ _ rfl w.heap.size (bC 32 (shaL (nodeS A B))) rfl rfl 41 (bC 32 []) R2.out (info_hash _) (by simp [bC_size]) (bC_one _ _) ?_)
          refine bodyPost_ret (v := .agg (bC 32 (shaL (nodeS A B)))) (results_cell_row Tryd.results25 _ _ w.heap.size 41 _ (0, 0) _ rfl R2.out.row Tryd.underlying41 rfl (info_hash _)) rfl ⟨rfl, ?_⟩
          exact K2.out.setRow (Nat.le_refl _) _

theorem refLeaves_at (p : Option Addr) (n c : Nat) (S : Nat → ByteArray) (w : World) (hS : SAt w p n S) (hz : ∀ i, i < n → (S i).size ≤ 1000000) (hn : n ≤ 1000000) :
    Calls Tryd.prog 16 #[.slice p n c] w fun e w' => ∃ v, e = .returned v ∧ HSl n (lf S) v w' ∧ Kept w w' :=
  (refLeaves_any p n c S w hS hz hn).mono fun _ _ ⟨v, he, ho, hk⟩ => ⟨v, he, HSl.ofOwns ho, hk⟩

end Go.Proofs.YtecfgjoomckleaaDoor
