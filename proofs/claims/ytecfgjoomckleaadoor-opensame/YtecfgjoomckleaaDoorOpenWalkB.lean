/-
  Contracts of open.Open and of the reference's Open. Conditions: at most a million leaves of at most a million bytes; sha's table of round constants stands (open.Open).
-/
import Derived.Test.YtecfgjoomckleaaDoorOpenWalkA
namespace Go.Proofs.YtecfgjoomckleaaDoor
set_option maxRecDepth 4000
open Go.RowKit

/-- The cells of an opening. -/
def opR (I N : Int) (v : Value) : Array Value := #[.int .i64 I, .int .i64 N, v]
theorem opR_size (I N : Int) (v : Value) : (Tryd.prog.info? 27).map (·.size) = some (opR I N v).size := by
  show _ = some 3
  kernel_rfl
theorem opR_one (I N : Int) (p : Option Addr) (n c : Nat) : (opR I N (.slice p n c)).all (·.oneCell') = true := by simp [opR, Value.oneCell']
theorem run_buildO (w : World) : (Instr.build 27 #[]).run Tryd.prog w = .ok (.agg (opR 0 0 (.slice none 0 0))) w := by kernel_rfl
theorem PaS.slice {base : Nat} {L : List (List UInt8)} {v : Value} {w : World} (h : PaS base L v w) : ∃ p c, v = .slice p L.length c := by
  rcases h.2 with ⟨rfl, h0⟩ | ⟨g, cap, cur, rfl, _⟩
  · exact ⟨none, 0, by rw [h0]⟩
  · exact ⟨_, _, rfl⟩
theorem PaS.setRow {base g : Nat} {L : List (List UInt8)} {v : Value} {w : World} (h : PaS base L v w) (hg : g < base) (D : Array Value) : PaS base L v (w.setRow g D) := by
  refine ⟨h.1, ?_⟩
  rcases h.2 with h | ⟨k, cap, cur, hv, hb, hk, rest⟩
  · exact .inl h
  · exact .inr ⟨k, cap, cur, hv, hb, (setRow_other w g k D (by omega)).trans hk, rest⟩

set_option maxRecDepth 100000 in
set_option maxHeartbeats 2000000 in
theorem openOpen_any (p : Option Addr) (n c : Nat) (S : Nat → ByteArray) (i : Int) (w : World) (hS : SAt w p n S) (hz : ∀ i, i < n → (S i).size ≤ 1000000) (hn : n ≤ 1000000) (ht : Tab w) :
    Calls Tryd.prog 7 #[.slice p n c, .int .i64 i] w fun e w' => ∃ v, e = .returned (.tuple #[.agg (opR (opI n i) (opC n i) v), .int .i64 (opE n i)]) ∧ PaS w.heap.size (opL S n i) v w' ∧ Kept w w' := by
  have hd0 : decide ((n : Int) > 1048576) = false := decide_eq_false (by omega)
  have K1 := Lib.hid ((Kept.refl w).alloc (.cells (opR 0 0 (.slice none 0 0)) 27))
  have R1 := Lib.hid (Rowz.new w (opR 0 0 (.slice none 0 0)) 27)
  by_cases hi : 0 ≤ i ∧ i < (n : Int)
  · obtain ⟨k, rfl⟩ := Int.eq_ofNat_of_zero_le hi.1
    have hk : k < n := by omega
    have hd1 : decide ((k : Int) < 0) = false := decide_eq_false (by omega)
    have hd2 : decide ((k : Int) ≥ (n : Int)) = false := decide_eq_false (by omega)
    have hd2' : decide (n ≤ k) = false := decide_eq_false (by omega)
    simp only [opI, opC, opE, opL, if_pos hi, Int.toNat_natCast]
    have HL : Hid (∀ w, SAt w p n S → Tab w → _) := Lib.hid fun w hS ht => treeLeaves_any p n c S w hS hz hn ht
    have HP : Hid (∀ (g b : Nat) (w1 : World), b ≤ w1.heap.size → Rowz w1 g (hC n (lf S)) 41 → Tab w1 → Calls Tryd.prog 13 #[.slice (some ⟨g, 0, none⟩) n n, .int .i64 (k : Int)] w1 fun e w' => ∃ v, e = .returned v ∧ PaS b (pathN (lf S) n k) v w' ∧ Kept w1 w') :=
      Lib.hid fun g b w1 hb hr ht => PaS.mono b hb (openPath_any n (some ⟨g, 0, none⟩) n (lf S) k w1 (Nat.le_refl _) (by unfold maxLen; omega) hk (HAt.ofRow hr (fun i _ => lf_length S i)) ht)
    generalize pathN (lf S) n k = L at HP ⊢
    have HS := Lib.hid hS
    have HT := Lib.hid ht
    clear hS ht hz hi
    go_enter Tryd.func7, Tryd.ntmps7
    go_wp2_with fail
    change Calls _ _ _ (w.alloc (.cells (opR 0 0 (.slice none 0 0)) 27)) _
    obtain ⟨v0, hv0⟩ : ∃ v0, v0 = w.alloc (.cells (opR 0 0 (.slice none 0 0)) 27) := ⟨_, rfl⟩
    have HZ : Hid (w.heap.size < v0.heap.size) := Lib.hid (by rw [hv0]; simp)
    rw [← hv0] at K1 R1 ⊢
    clear hv0
    refine (HL.out _ (HS.out.kept K1.out) (HT.out.kept K1.out)).mono ?_
    rintro e v1 ⟨g, rfl, hr, k1⟩
    have G1 := Lib.hid hr
    have R2 := Lib.hid (R1.out.kept k1)
    have K2 := Lib.hid (K1.out.trans k1)
    have Z2 : Hid (w.heap.size + 1 ≤ v1.heap.size) := Lib.hid (by have h1 := HZ.out; have h2 := k1.size; omega)
    clear hr k1 R1 K1 HL HZ
    go_wp2_with fail
    refine (HP.out g (w.heap.size + 1) v1 Z2.out G1.out (HT.out.kept K2.out)).mono ?_
    rintro e v2 ⟨x, rfl, hx, k1⟩
    have X2 := Lib.hid hx
    have R3 := Lib.hid (R2.out.kept k1)
    have K3 := Lib.hid (K2.out.trans k1)
    clear hx k1 R2 K2 G1 HP
    obtain ⟨q, cc, rfl⟩ := X2.out.slice
    go_wp2_with (refine wpList_store_row rfl 27 _ _ rfl w.heap.size (opR (k : Int) (n : Int) (.slice q L.length cc)) rfl rfl 27 (opR 0 0 (.slice none 0 0)) R3.out (opR_size _ _ _) rfl (opR_one _ _ _ _ _) ?_)
    refine bodyPost_ret (v := .tuple #[.agg (opR (k : Int) (n : Int) (.slice q L.length cc)), .int .i64 0]) (results_row_tmp Tryd.results7 _ _ w.heap.size 27 _ _ _ rfl rfl R3.out.row Tryd.underlying27 rfl (opR_size _ _ _)) rfl ?_
    exact ⟨_, rfl, (X2.out.setRow (Nat.lt_succ_self _) _).base (Nat.le_succ _), K3.out.setRow (Nat.le_refl _) _⟩
  · simp only [opI, opC, opE, opL, if_neg hi]
    clear hS ht hz
    by_cases h0 : i < 0
    · have hd1 : decide (i < 0) = true := decide_eq_true h0
      clear hi
      go_enter Tryd.func7, Tryd.ntmps7
      go_wp2_with (first
        | (refine wpList_exec 18 rfl (by rfl) (.agg (opR 0 0 (.slice none 0 0))) _ (execBuild0 rfl (run_buildO _)) ?_)
        | (refine wpList_store_row rfl 27 _ _ rfl w.heap.size (opR 0 0 (.slice none 0 0)) rfl rfl 27 (opR 0 0 (.slice none 0 0)) R1.out (opR_size _ _ _) rfl (opR_one _ _ _ _ _) ?_))
      refine bodyPost_ret (v := .tuple #[.agg (opR 0 0 (.slice none 0 0)), .int .i64 3]) (results_row_tmp Tryd.results7 _ _ w.heap.size 27 _ _ _ rfl rfl R1.out.row Tryd.underlying27 rfl (opR_size _ _ _)) rfl ?_
      exact ⟨_, rfl, PaS.nil _ _, K1.out.setRow (Nat.le_refl _) _⟩
    · have hd1 : decide (i < 0) = false := decide_eq_false h0
      have h1 : (n : Int) ≤ i := by omega
      have hd2 : decide (i ≥ (n : Int)) = true := decide_eq_true h1
      clear hi h0
      go_enter Tryd.func7, Tryd.ntmps7
      go_wp2_with (first
        | (refine wpList_exec 18 rfl (by rfl) (.agg (opR 0 0 (.slice none 0 0))) _ (execBuild0 rfl (run_buildO _)) ?_)
        | (refine wpList_store_row rfl 27 _ _ rfl w.heap.size (opR 0 0 (.slice none 0 0)) rfl rfl 27 (opR 0 0 (.slice none 0 0)) R1.out (opR_size _ _ _) rfl (opR_one _ _ _ _ _) ?_))
      refine bodyPost_ret (v := .tuple #[.agg (opR 0 0 (.slice none 0 0)), .int .i64 3]) (results_row_tmp Tryd.results7 _ _ w.heap.size 27 _ _ _ rfl rfl R1.out.row Tryd.underlying27 rfl (opR_size _ _ _)) rfl ?_
      exact ⟨_, rfl, PaS.nil _ _, K1.out.setRow (Nat.le_refl _) _⟩
set_option maxRecDepth 100000 in
set_option maxHeartbeats 2000000 in
theorem refOpen_any (p : Option Addr) (n c : Nat) (S : Nat → ByteArray) (i : Int) (w : World) (hS : SAt w p n S) (hz : ∀ i, i < n → (S i).size ≤ 1000000) (hn : n ≤ 1000000) :
    Calls Tryd.prog 8 #[.slice p n c, .int .i64 i] w fun e w' => ∃ v, e = .returned (.tuple #[.agg (opR (opI n i) (opC n i) v), .int .i64 (opE n i)]) ∧ PaS w.heap.size (opL S n i) v w' ∧ Kept w w' := by
  have hd0 : decide ((n : Int) > 1048576) = false := decide_eq_false (by omega)
  have K1 := Lib.hid ((Kept.refl w).alloc (.cells (opR 0 0 (.slice none 0 0)) 27))
  have R1 := Lib.hid (Rowz.new w (opR 0 0 (.slice none 0 0)) 27)
  by_cases hi : 0 ≤ i ∧ i < (n : Int)
  · obtain ⟨k, rfl⟩ := Int.eq_ofNat_of_zero_le hi.1
    have hk : k < n := by omega
    have hd1 : decide ((k : Int) < 0) = false := decide_eq_false (by omega)
    have hd2 : decide ((k : Int) ≥ (n : Int)) = false := decide_eq_false (by omega)
    have hd2' : decide (n ≤ k) = false := decide_eq_false (by omega)
    simp only [opI, opC, opE, opL, if_pos hi, Int.toNat_natCast]
    have HL : Hid (∀ w, SAt w p n S → _) := Lib.hid fun w hS => refLeaves_at p n c S w hS hz hn
    have HP : Hid (∀ (u : Value) (b : Nat) (w1 : World), b ≤ w1.heap.size → HSl n (lf S) u w1 → Calls Tryd.prog 15 #[u, .int .i64 (k : Int)] w1 fun e w' => ∃ v, e = .returned v ∧ PaS b (pathN (lf S) n k) v w' ∧ Kept w1 w') :=
      Lib.hid fun u b w1 hb hu => by
        obtain ⟨q, cc, rfl, h1, h2, h3⟩ := hu
        exact PaS.mono b hb (refPath_any n q cc (lf S) k w1 h1 h2 hk h3)
    generalize pathN (lf S) n k = L at HP ⊢
    have HS := Lib.hid hS
    clear hS hz hi
    go_enter Tryd.func8, Tryd.ntmps8
    go_wp2_with fail
    change Calls _ _ _ (w.alloc (.cells (opR 0 0 (.slice none 0 0)) 27)) _
    obtain ⟨v0, hv0⟩ : ∃ v0, v0 = w.alloc (.cells (opR 0 0 (.slice none 0 0)) 27) := ⟨_, rfl⟩
    have HZ : Hid (w.heap.size < v0.heap.size) := Lib.hid (by rw [hv0]; simp)
    rw [← hv0] at K1 R1 ⊢
    clear hv0
    refine (HL.out _ (HS.out.kept K1.out)).mono ?_
    rintro e v1 ⟨u, rfl, hr, k1⟩
    have G1 := Lib.hid hr
    have R2 := Lib.hid (R1.out.kept k1)
    have K2 := Lib.hid (K1.out.trans k1)
    have Z2 : Hid (w.heap.size + 1 ≤ v1.heap.size) := Lib.hid (by have h1 := HZ.out; have h2 := k1.size; omega)
    clear hr k1 R1 K1 HL HZ
    go_wp2_with fail
    refine (HP.out u (w.heap.size + 1) v1 Z2.out G1.out).mono ?_
    rintro e v2 ⟨x, rfl, hx, k1⟩
    have X2 := Lib.hid hx
    have R3 := Lib.hid (R2.out.kept k1)
    have K3 := Lib.hid (K2.out.trans k1)
    clear hx k1 R2 K2 G1 HP
    obtain ⟨q, cc, rfl⟩ := X2.out.slice
    go_wp2_with (refine wpList_store_row rfl 27 _ _ rfl w.heap.size (opR (k : Int) (n : Int) (.slice q L.length cc)) rfl rfl 27 (opR 0 0 (.slice none 0 0)) R3.out (opR_size _ _ _) rfl (opR_one _ _ _ _ _) ?_)
    refine bodyPost_ret (v := .tuple #[.agg (opR (k : Int) (n : Int) (.slice q L.length cc)), .int .i64 0]) (results_row_tmp Tryd.results8 _ _ w.heap.size 27 _ _ _ rfl rfl R3.out.row Tryd.underlying27 rfl (opR_size _ _ _)) rfl ?_
    exact ⟨_, rfl, (X2.out.setRow (Nat.lt_succ_self _) _).base (Nat.le_succ _), K3.out.setRow (Nat.le_refl _) _⟩
  · simp only [opI, opC, opE, opL, if_neg hi]
    clear hS hz
    by_cases h0 : i < 0
    · have hd1 : decide (i < 0) = true := decide_eq_true h0
      clear hi
      go_enter Tryd.func8, Tryd.ntmps8
      go_wp2_with (first
        | (refine wpList_exec 18 rfl (by rfl) (.agg (opR 0 0 (.slice none 0 0))) _ (execBuild0 rfl (run_buildO _)) ?_)
        | (refine wpList_store_row rfl 27 _ _ rfl w.heap.size (opR 0 0 (.slice none 0 0)) rfl rfl 27 (opR 0 0 (.slice none 0 0)) R1.out (opR_size _ _ _) rfl (opR_one _ _ _ _ _) ?_))
      refine bodyPost_ret (v := .tuple #[.agg (opR 0 0 (.slice none 0 0)), .int .i64 3]) (results_row_tmp Tryd.results8 _ _ w.heap.size 27 _ _ _ rfl rfl R1.out.row Tryd.underlying27 rfl (opR_size _ _ _)) rfl ?_
      exact ⟨_, rfl, PaS.nil _ _, K1.out.setRow (Nat.le_refl _) _⟩
    · have hd1 : decide (i < 0) = false := decide_eq_false h0
      have h1 : (n : Int) ≤ i := by omega
      have hd2 : decide (i ≥ (n : Int)) = true := decide_eq_true h1
      clear hi h0
      go_enter Tryd.func8, Tryd.ntmps8
      go_wp2_with (first
        | (refine wpList_exec 18 rfl (by rfl) (.agg (opR 0 0 (.slice none 0 0))) _ (execBuild0 rfl (run_buildO _)) ?_)
        | (refine wpList_store_row rfl 27 _ _ rfl w.heap.size (opR 0 0 (.slice none 0 0)) rfl rfl 27 (opR 0 0 (.slice none 0 0)) R1.out (opR_size _ _ _) rfl (opR_one _ _ _ _ _) ?_))
      refine bodyPost_ret (v := .tuple #[.agg (opR 0 0 (.slice none 0 0)), .int .i64 3]) (results_row_tmp Tryd.results8 _ _ w.heap.size 27 _ _ _ rfl rfl R1.out.row Tryd.underlying27 rfl (opR_size _ _ _)) rfl ?_
      exact ⟨_, rfl, PaS.nil _ _, K1.out.setRow (Nat.le_refl _) _⟩
end Go.Proofs.YtecfgjoomckleaaDoor
