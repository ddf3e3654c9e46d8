/-
  slices.Reverse at bytes.
-/
import Derived.Test.YtcjieaijcjinnaaLargeWalkD
import Derived.Test.YtcjieaijcjinnaaAppLib
import Derived.Deep.LoopGhost
namespace Go.Proofs.Ytcjieaijcjinnaa
open Go.RowKit

def rv (n k j : Nat) : Nat := if j < k ∨ n - 1 - k < j then n - 1 - j else j
def bt (l : List UInt8) (j : Nat) : Int := (((l.getD j 0).toNat : Nat) : Int)
theorem rv_zero (n j : Nat) (h : j < n) : rv n 0 j = j := by unfold rv; rw [if_neg (by omega)]
theorem rv_end (n k j : Nat) (h : j < n) (hk : ¬ k + k + 1 < n) : rv n k j = n - 1 - j := by
  unfold rv
  split
  · rfl
  · omega
theorem rv_step (n k j : Nat) (hk : k + k + 1 < n) (h1 : j ≠ k) (h2 : j ≠ n - 1 - k) : rv n (k + 1) j = rv n k j := by
  unfold rv
  by_cases h : j < k ∨ n - 1 - k < j
  · rw [if_pos h, if_pos (by omega)]
  · rw [if_neg h, if_neg (by omega)]
theorem rv_low (n k : Nat) (hk : k + k + 1 < n) : rv n k k = k ∧ rv n k (n - 1 - k) = n - 1 - k ∧ rv n (k + 1) k = n - 1 - k ∧ rv n (k + 1) (n - 1 - k) = k := by
  unfold rv
  refine ⟨if_neg (by omega), if_neg (by omega), if_pos (by omega), ?_⟩
  rw [if_pos (by omega)]; omega
set_option maxRecDepth 100000 in
set_option maxHeartbeats 2000000 in
theorem reverse_any (g n cap : Nat) (l : List UInt8) (cur : Array Value) (T : TypeId) (w : World) (hn : n ≤ 1000000) (hR : Rowz w g cur T) (hc : ∀ j, j < n → cur[j]? = some (.int .u8 (bt l j))) :
    Calls Try.prog 46 #[.slice (some ⟨g, 0, none⟩) n cap] w fun e w' => e = .returned (.tuple #[]) ∧ (∃ cur', Rowz w' g cur' T ∧ ∀ j, j < n → cur'[j]? = some (.int .u8 (bt l (n - 1 - j)))) ∧ ∀ W, Kept W w → W.heap.size ≤ g → Kept W w' := by
  have HR := Lib.hid hR
  have HC := Lib.hid hc
  clear hR hc
  go_enter Try.func46, Try.ntmps46
  go_wp2
  go_loopw [2, 3] (fun i j wr => ∃ (k : Nat) (c : Array Value), (k : Int) ≤ n ∧ i = .int .i64 (k : Int) ∧ j = .int .i64 ((n : Int) - 1 - (k : Int)) ∧ Hid (Rowz wr g c T) ∧ Hid (∀ j, j < n → c[j]? = some (.int .u8 (bt l (rv n k j)))) ∧ Hid (∀ W, Kept W w → W.heap.size ≤ g → Kept W wr)) (fun i _ _ => n - (intOf i).toNat)
  case atStart => exact ⟨0, cur, by omega, rfl, by simp, HR, Lib.hid (fun j hj => by rw [HC.out j hj, rv_zero n j hj]), Lib.hid (fun W h _ => h)⟩
  case round =>
    clear HR HC
    obtain ⟨k, c, hkn, rfl, rfl, HR, HC, HK⟩ := hrel
    by_cases hlt : k + k + 1 < n
    · obtain ⟨q, hq⟩ : ∃ q : Nat, q = n - 1 - k := ⟨_, rfl⟩
      have eq : ((n : Int) - 1 - (k : Int)) = (q : Int) := by omega
      rw [eq]
      have hd : decide ((k : Int) < (q : Int)) = true := by simp; omega
      obtain ⟨v1, v2, v3, v4⟩ := rv_low n k hlt
      rw [← hq] at v2 v3 v4
      have hqn : q < n := by omega
      have hkq : k < q := by omega
      have hk1 : (k : Int) < (n : Int) := by omega
      have hq1 : (q : Int) < (n : Int) := by omega
      have ck : wr.drew.cell? ⟨g, k, none⟩ = some (.int .u8 (bt l k)) := by show wr.cell? _ = _; rw [HR.out.cell, HC.out k (by omega), v1]
      have cq : wr.drew.cell? ⟨g, q, none⟩ = some (.int .u8 (bt l q)) := by show wr.cell? _ = _; rw [HR.out.cell, HC.out q (by omega), v2]
      have cq0 : wr.cell? ⟨g, q, none⟩ = some (.int .u8 (bt l q)) := cq
      have fq0 : wr.frozen? ⟨g, q, none⟩ = false := HR.out.free q
      have fk : wr.drew.frozen? ⟨g, k, none⟩ = false := HR.out.free k
      have R1 : Hid (Rowz (wr.drew.setCell ⟨g, k, none⟩ (.int .u8 (bt l q))) g (c.setIfInBounds k (.int .u8 (bt l q))) T) := Lib.hid (Rowz.set (w := wr.drew) HR.out k _)
      have cq2 : (wr.drew.setCell ⟨g, k, none⟩ (.int .u8 (bt l q))).cell? ⟨g, q, none⟩ = some (.int .u8 (bt l q)) := by
        rw [R1.out.cell, Array.getElem?_setIfInBounds, if_neg (by omega), HC.out q (by omega), v2]
      have fq : (wr.drew.setCell ⟨g, k, none⟩ (.int .u8 (bt l q))).frozen? ⟨g, q, none⟩ = false := R1.out.free q
      have HN : Hid (∀ j, j < n → ((c.setIfInBounds k (.int .u8 (bt l q))).setIfInBounds q (.int .u8 (bt l k)))[j]? = some (.int .u8 (bt l (rv n (k + 1) j)))) := Lib.hid (fun j hj => by
        have hsz : ∀ i, i < n → i < c.size := fun i hi => by
          rcases Nat.lt_or_ge i c.size with h | h
          · exact h
          · have := HC.out i hi; rw [Array.getElem?_eq_none h] at this; cases this
        rw [Array.getElem?_setIfInBounds, Array.getElem?_setIfInBounds]
        by_cases h1 : q = j
        · rw [if_pos h1, if_pos (by simp; exact hsz q hqn), ← h1, v4]
        · rw [if_neg h1]
          by_cases h2 : k = j
          · rw [if_pos h2, if_pos (hsz k (by omega)), ← h2, v3]
          · rw [if_neg h2, HC.out j hj, rv_step n k j hlt (fun h => h2 h.symm) (fun h => h1 (by omega))])
      have HQ := Lib.hid hq
      clear v1 v2 v3 v4 eq hq
      go_wp2_with fail
      refine wp_region_held_drew (S := fun _ => True) (by kernel_rfl) trivial (fun _ => ?_)
      refine wpAnyH_take1 0 14 (.slice (some ⟨g, 0, none⟩) n cap) rfl rfl (by kernel_rfl) (by kernel_rfl) (by kernel_rfl) (fun _ _ _ h => h) trivial (Or.inl ⟨by rfl, fun _ _ => by rfl⟩) ?_
      simp only [List.setIfInBounds_toArray, List.set_cons_zero, List.set_cons_succ]
      refine wpAnyH_take1 1 15 (.int .i64 (k : Int)) rfl rfl (by kernel_rfl) (by kernel_rfl) (by kernel_rfl) (fun _ _ _ h => h) trivial (Or.inl ⟨by rfl, fun _ _ => by rfl⟩) ?_
      simp only [List.setIfInBounds_toArray, List.set_cons_zero, List.set_cons_succ]
      refine wpAnyH_take1 2 16 (.slice (some ⟨g, 0, none⟩) n cap) rfl rfl (by kernel_rfl) (by kernel_rfl) (by kernel_rfl) (fun _ _ _ h => h) trivial (Or.inl ⟨by rfl, fun _ _ => by rfl⟩) ?_
      simp only [List.setIfInBounds_toArray, List.set_cons_zero, List.set_cons_succ]
      refine wpAnyH_take1 3 17 (.int .i64 (q : Int)) rfl rfl (by kernel_rfl) (by kernel_rfl) (by kernel_rfl) (fun _ _ _ h => h) trivial (Or.inl ⟨by rfl, fun _ _ => by rfl⟩) ?_
      simp only [List.setIfInBounds_toArray, List.set_cons_zero, List.set_cons_succ]
      refine wpAnyH_take1 4 18 (.slice (some ⟨g, 0, none⟩) n cap) rfl rfl (by kernel_rfl) (by kernel_rfl) (by kernel_rfl) (fun _ _ _ h => h) trivial (Or.inl ⟨by rfl, fun _ _ => by rfl⟩) ?_
      simp only [List.setIfInBounds_toArray, List.set_cons_zero, List.set_cons_succ]
      refine wpAnyH_take1 5 19 (.int .i64 (q : Int)) rfl rfl (by kernel_rfl) (by kernel_rfl) (by kernel_rfl) (fun _ _ _ h => h) trivial (Or.inl ⟨by rfl, fun _ _ => by rfl⟩) ?_
      simp only [List.setIfInBounds_toArray, List.set_cons_zero, List.set_cons_succ]
      refine wpAnyH_take1 6 20 (.pointer (some ⟨g, q, none⟩)) rfl rfl (by kernel_rfl) (by kernel_rfl) (by kernel_rfl) (fun _ _ _ h => h) trivial (Or.inl ⟨by rfl, fun _ _ => by go_simp⟩) ?_
      simp only [List.setIfInBounds_toArray, List.set_cons_zero, List.set_cons_succ]
      refine wpAnyH_take1 8 22 (.slice (some ⟨g, 0, none⟩) n cap) rfl rfl (by kernel_rfl) (by kernel_rfl) (by kernel_rfl) (fun _ _ _ h => h) trivial (Or.inl ⟨by rfl, fun _ _ => by rfl⟩) ?_
      simp only [List.setIfInBounds_toArray, List.set_cons_zero, List.set_cons_succ]
      refine wpAnyH_take1 9 23 (.int .i64 (k : Int)) rfl rfl (by kernel_rfl) (by kernel_rfl) (by kernel_rfl) (fun _ _ _ h => h) trivial (Or.inl ⟨by rfl, fun _ _ => by rfl⟩) ?_
      simp only [List.setIfInBounds_toArray, List.set_cons_zero, List.set_cons_succ]
      refine wpAnyH_take1 10 24 (.pointer (some ⟨g, k, none⟩)) rfl rfl (by kernel_rfl) (by kernel_rfl) (by kernel_rfl) (fun _ _ _ h => h) trivial (Or.inl ⟨by rfl, fun _ _ => by go_simp⟩) ?_
      simp only [List.setIfInBounds_toArray, List.set_cons_zero, List.set_cons_succ]
      refine wpAnyH_ready (rs := [7, 11]) (by kernel_rfl) (by simp) (AllReadyH.cons rfl (fun K hK => ?_) (AllReadyH.cons rfl (fun K hK => ?_) AllReadyH.nil))
      · rw [if_pos (by rfl)]
        go_simp
        refine hK.out _ _ trivial (fun _ => ?_)
        clear hK K
        refine wpAnyH_ready (rs := [11]) (by kernel_rfl) (by simp) (AllReadyH.cons rfl (fun K hK => ?_) AllReadyH.nil)
        rw [if_pos (by rfl)]
        go_simp
        refine hK.out _ _ trivial (fun _ => ?_)
        clear hK K
        refine wpAnyH_ready (rs := [12]) (by kernel_rfl) (by simp) (AllReadyH.cons rfl (fun K hK => ?_) AllReadyH.nil)
        rw [if_pos (by rfl)]
        go_simp
        refine hK.out _ _ trivial (fun _ => ?_)
        clear hK K
        refine wpAnyH_ready (rs := [13]) (by kernel_rfl) (by simp) (AllReadyH.cons rfl (fun K hK => ?_) AllReadyH.nil)
        rw [if_pos (by rfl)]
        go_simp
        refine hK.out _ _ trivial (fun _ => ?_)
        clear hK K
        refine wpAnyH_ready (rs := [14]) (by kernel_rfl) (by simp) (AllReadyH.cons rfl (fun K hK => ?_) AllReadyH.nil)
        rw [if_pos (by rfl)]
        go_simp
        refine hK.out _ _ trivial (fun _ => ?_)
        clear hK K
        refine wpAnyH_ready (rs := [15]) (by kernel_rfl) (by simp) (AllReadyH.cons rfl (fun K hK => ?_) AllReadyH.nil)
        rw [if_pos (by rfl)]
        go_simp
        refine hK.out _ _ trivial (fun _ => ?_)
        clear hK K
        refine wpAnyH_done (by kernel_rfl) ?_ _
        go_wp2_with fail
        go_roundw
        case rel => exact ⟨k + 1, _, by omega, by go_num, by have := HQ.out; go_num, Lib.hid (R1.out.set q _), HN, Lib.hid (fun W h hg => ((HK.out W h hg).setCell (w' := wr.drew) hg _).setCell hg _)⟩
        case measure => simp [intOf]; omega
      · rw [if_pos (by rfl)]
        go_simp
        refine hK.out _ _ trivial (fun _ => ?_)
        clear hK K
        refine wpAnyH_ready (rs := [7]) (by kernel_rfl) (by simp) (AllReadyH.cons rfl (fun K hK => ?_) AllReadyH.nil)
        rw [if_pos (by rfl)]
        go_simp
        refine hK.out _ _ trivial (fun _ => ?_)
        clear hK K
        refine wpAnyH_ready (rs := [12]) (by kernel_rfl) (by simp) (AllReadyH.cons rfl (fun K hK => ?_) AllReadyH.nil)
        rw [if_pos (by rfl)]
        go_simp
        refine hK.out _ _ trivial (fun _ => ?_)
        clear hK K
        refine wpAnyH_ready (rs := [13]) (by kernel_rfl) (by simp) (AllReadyH.cons rfl (fun K hK => ?_) AllReadyH.nil)
        rw [if_pos (by rfl)]
        go_simp
        refine hK.out _ _ trivial (fun _ => ?_)
        clear hK K
        refine wpAnyH_ready (rs := [14]) (by kernel_rfl) (by simp) (AllReadyH.cons rfl (fun K hK => ?_) AllReadyH.nil)
        rw [if_pos (by rfl)]
        go_simp
        refine hK.out _ _ trivial (fun _ => ?_)
        clear hK K
        refine wpAnyH_ready (rs := [15]) (by kernel_rfl) (by simp) (AllReadyH.cons rfl (fun K hK => ?_) AllReadyH.nil)
        rw [if_pos (by rfl)]
        go_simp
        refine hK.out _ _ trivial (fun _ => ?_)
        clear hK K
        refine wpAnyH_done (by kernel_rfl) ?_ _
        go_wp2_with fail
        go_roundw
        case rel => exact ⟨k + 1, _, by omega, by go_num, by have := HQ.out; go_num, Lib.hid (R1.out.set q _), HN, Lib.hid (fun W h hg => ((HK.out W h hg).setCell (w' := wr.drew) hg _).setCell hg _)⟩
        case measure => simp [intOf]; omega
    · have hd : decide ((k : Int) < (n : Int) - 1 - (k : Int)) = false := decide_eq_false (by omega)
      have HE : Hid (∃ cur', Rowz wr g cur' T ∧ ∀ j, j < n → cur'[j]? = some (.int .u8 (bt l (n - 1 - j)))) := Lib.hid ⟨c, HR.out, fun j hj => by rw [HC.out j hj, rv_end n k j hj hlt]⟩
      clear HR HC hlt
      go_wp2
      exact ⟨rfl, .tuple #[], results_none Try.results46 _ _ _, rfl, HE.out, HK.out⟩
end Go.Proofs.Ytcjieaijcjinnaa
