/-
  Contracts of milepostref08: Text, Hash.
-/
import Derived.Test.YtbnaiojbkecofaaCurRefB
namespace Go.Proofs.Ytbnaiojbkecofaa
open Go.RowKit

set_option maxRecDepth 100000 in
set_option maxHeartbeats 1000000 in
theorem refText8_nat (c : Cu) (x : Int) (m : Nat) (w : World) (hs : c.b.size ≤ maxLen) (hm : m < 9223372036854775808) (hx : (x < 0 ∧ m = 0) ∨ x = (m : Int)) :
    Calls Try.prog 22 #[.agg #[.string c.b, .int .i64 c.e], .int .i64 x] w fun e w' => e = .returned (.tuple #[.string (rawR (numR c m).2 ((numR c m).1 : Int)).1, .agg #[.string (rawR (numR c m).2 ((numR c m).1 : Int)).2.b, .int .i64 (rawR (numR c m).2 ((numR c m).1 : Int)).2.e]]) ∧ Grown w w' := by
  have R5 : Hid (RC ((w.alloc (.cells #[.string c.b, .int .i64 c.e] 27)).alloc (.cells #[.string noB, .int .i64 0] 27)) (w.heap.size + 1) ⟨noB, 0⟩) := Lib.hid (Rowz.newEq1 w _ _ _ _ rfl)
  have G0 : Hid (Grown w ((w.alloc (.cells #[.string c.b, .int .i64 c.e] 27)).alloc (.cells #[.string noB, .int .i64 0] 27))) := Lib.hid (((Grown.refl w).alloc _ _).alloc _ _)
  have HN := Lib.hid fun w => refNum8_any c m w hs
  have hX := numR_le c m
  clear hs
  generalize numR c m = r at HN hX ⊢
  obtain ⟨X, c'⟩ := r
  simp only at HN hX ⊢
  have hX2 : X < 9223372036854775808 := by omega
  have HR := Lib.hid (refRaw8_any c' (X : Int))
  generalize rawR c' (X : Int) = q at HR ⊢
  obtain ⟨s, c''⟩ := q
  clear hX
  rcases hx with ⟨h0, rfl⟩ | rfl
  · have hd : decide (x < 0) = true := decide_eq_true h0
    go_enter Try.func22, Try.ntmps22
    go_wp2_with (first
      | (go_at_call 20; refine (HN.out _).mono ?_; rintro e w1 ⟨rfl, G1⟩; replace R5 := Lib.hid (RC.grown R5.out G1); replace G0 := Lib.hid (Grown.trans G0.out G1))
      | (go_at_call 19; refine (HR.out _).mono ?_; rintro e w2 ⟨rfl, G2⟩; replace R5 := Lib.hid (RC.grown (Rowz.alloc R5.out _) G2); replace G0 := Lib.hid (Grown.trans (G0.out.alloc _ _) G2); have c0 := R5.out.c0; have c1 := R5.out.c1; have f0 := R5.out.f 0; have f1 := R5.out.f 1))
    refine bodyPost_ret (results_tmp_row Try.results22 _ _ (w.heap.size + 1) 27 _ _ _ rfl rfl (R5.out.set _ _) Try.underlying27 rfl (infoC _ _)) rfl ⟨rfl, Grown.set2 G0.out (by omega) _ _⟩
  · have hd : decide ((m : Int) < 0) = false := decide_eq_false (by omega)
    go_enter Try.func22, Try.ntmps22
    go_wp2_with (first
      | (go_at_call 20; refine (HN.out _).mono ?_; rintro e w1 ⟨rfl, G1⟩; replace R5 := Lib.hid (RC.grown R5.out G1); replace G0 := Lib.hid (Grown.trans G0.out G1))
      | (go_at_call 19; refine (HR.out _).mono ?_; rintro e w2 ⟨rfl, G2⟩; replace R5 := Lib.hid (RC.grown (Rowz.alloc R5.out _) G2); replace G0 := Lib.hid (Grown.trans (G0.out.alloc _ _) G2); have c0 := R5.out.c0; have c1 := R5.out.c1; have f0 := R5.out.f 0; have f1 := R5.out.f 1))
    refine bodyPost_ret (results_tmp_row Try.results22 _ _ (w.heap.size + 1) 27 _ _ _ rfl rfl (R5.out.set _ _) Try.underlying27 rfl (infoC _ _)) rfl ⟨rfl, Grown.set2 G0.out (by omega) _ _⟩
theorem refText8_any (c : Cu) (x : Int) (w : World) (hs : c.b.size ≤ maxLen) (hx : x < 9223372036854775808) :
    Calls Try.prog 22 #[.agg #[.string c.b, .int .i64 c.e], .int .i64 x] w fun e w' => e = .returned (.tuple #[.string (textR c x).1, .agg #[.string (textR c x).2.b, .int .i64 (textR c x).2.e]]) ∧ Grown w w' :=
  refText8_nat c x x.toNat w hs (by omega) (by omega)

theorem rawR_size32 (c : Cu) : (rawR c 32).1.size ≤ 32 := by
  unfold rawR
  rw [if_neg (by decide)]
  split
  · exact Nat.zero_le _
  split
  · exact Nat.zero_le _
  · show (c.b.extract 0 32).size ≤ 32
    rw [ByteArray.size_extract]; omega
set_option maxRecDepth 100000 in
set_option maxHeartbeats 1000000 in
theorem refHash8_any (c : Cu) (w : World) :
    Calls Try.prog 21 #[.agg #[.string c.b, .int .i64 c.e]] w fun e w' => e = .returned (.tuple #[.agg (bC 32 (hashL (rawR c 32).1)), .agg #[.string (rawR c 32).2.b, .int .i64 (rawR c 32).2.e]]) ∧ Grown w w' := by
  have R2 : Hid (Rowz (((w.alloc (.cells #[.string c.b, .int .i64 c.e] 27)).alloc (.cells (bC 32 []) 46)).alloc (.cells #[.string noB, .int .i64 0] 27)) (w.heap.size + 1) (bC 32 []) 46) := Lib.hid ((Rowz.newEq1 w _ _ _ _ rfl).alloc _)
  have R3 : Hid (RC (((w.alloc (.cells #[.string c.b, .int .i64 c.e] 27)).alloc (.cells (bC 32 []) 46)).alloc (.cells #[.string noB, .int .i64 0] 27)) (w.heap.size + 1 + 1) ⟨noB, 0⟩) := Lib.hid (by
    have h := Rowz.newEq1 (w.alloc (.cells #[.string c.b, .int .i64 c.e] 27)) (.cells (bC 32 []) 46) (.cells #[.string noB, .int .i64 0] 27) _ _ rfl
    have e : (w.alloc (.cells #[.string c.b, .int .i64 c.e] 27)).heap.size = w.heap.size + 1 := by simp
    rw [e] at h
    exact h)
  have G0 : Hid (Grown w (((w.alloc (.cells #[.string c.b, .int .i64 c.e] 27)).alloc (.cells (bC 32 []) 46)).alloc (.cells #[.string noB, .int .i64 0] 27))) := Lib.hid ((((Grown.refl w).alloc _ _).alloc _ _).alloc _ _)
  have HR := Lib.hid (refRaw8_any c 32)
  have HS := rawR_size32 c
  generalize rawR c 32 = r at HR HS ⊢
  obtain ⟨s, c'⟩ := r
  simp only at HS
  go_enter Try.func21, Try.ntmps21
  go_wp2_with (go_at_call 19; refine (HR.out _).mono ?_; rintro e w1 ⟨rfl, G1⟩; replace R2 := Lib.hid (Rowz.grown R2.out G1); replace R3 := Lib.hid (RC.grown R3.out G1); replace G0 := Lib.hid (Grown.trans G0.out G1); clear G1)
  have hsz1 : w.heap.size + 1 + 1 < w1.heap.size := Rowz.lt R3.out
  go_loopw [7] (fun i wr => ∃ (k : Nat), k ≤ s.size ∧ i = .int .i64 (k : Int) ∧ Hid (Rowz wr (w1.heap.size + 1) (bC 32 ((sl s).take k)) 46) ∧ Hid (RC wr w1.heap.size c') ∧ Hid (Rowz wr (w.heap.size + 1) (bC 32 []) 46) ∧ Hid (RC wr (w.heap.size + 1 + 1) ⟨noB, 0⟩) ∧ Hid (Grown w wr)) (fun i _ => s.size - (intOf i).toNat)
  case atStart =>
    refine ⟨0, by omega, rfl, Lib.hid (Rowz.newEq1 w1 _ _ _ _ (by kernel_rfl)), Lib.hid ((Rowz.newEq w1 _ _ _ rfl).alloc _), Lib.hid ((R2.out.alloc _).alloc _), Lib.hid (Rowz.alloc (Rowz.alloc R3.out _) _), Lib.hid ((G0.out.alloc _ _).alloc _ _)⟩
  case round =>
    obtain ⟨k, hk, rfl, R6, R5, R2, R3, G0⟩ := hrel
    by_cases hlt : k < s.size
    · have hd : decide ((k : Int) < (s.size : Int)) = true := decide_eq_true (by omega)
      have hd' : decide (k < s.size) = true := decide_eq_true (by omega)
      have hki : (k : Int) < (s.size : Int) := by omega
      have hk32 : k < 32 := by omega
      have cl := R6.out.byte k hk32
      have fr := R6.out.free k
      have HTK : Hid ((sl s).take (k + 1) = (sl s).take k ++ [s[k]]) := Lib.hid (by
        rw [List.take_succ_eq_append_getElem (by rw [sl_length]; exact hlt)]; rfl)
      have HLK : Hid (((sl s).take k).length = k) := Lib.hid (by rw [List.length_take, sl_length]; omega)
      have HCL : s[k].toNat < 256 := s[k].toNat_lt
      go_wp2
      go_roundw
      case rel =>
        refine ⟨k + 1, by omega, by go_num, Lib.hid ?_, Lib.hid (Rowz.other R5.out _ _ (by simp)), Lib.hid (Rowz.other R2.out _ _ (by simp; omega)), Lib.hid (Rowz.other R3.out _ _ (by simp; omega)), Lib.hid (G0.out.setCell (by simp; omega) _)⟩
        rw [HTK.out]
        exact R6.out.pushB k HLK.out _ s[k] rfl
      case measure => simp [intOf]; omega
    · have hd : decide ((k : Int) < (s.size : Int)) = false := decide_eq_false (by omega)
      have hd' : decide (k < s.size) = false := decide_eq_false (by omega)
      replace R6 : Hid (Rowz wr (w1.heap.size + 1) (bC 32 (hashL s)) 46) := Lib.hid (by
        have h := R6.out
        rw [List.take_of_length_le (by rw [sl_length]; omega), hashL_row] at h
        exact h)
      go_wp2_with fail
      have r6 : Rowz wr.drew (w1.heap.size + 1) (bC 32 (hashL s)) 46 := R6.out
      have r5 : Rowz wr.drew w1.heap.size #[.string c'.b, .int .i64 c'.e] 27 := R5.out
      have r2 : Rowz wr.drew (w.heap.size + 1) (bC 32 []) 46 := R2.out
      have r3 : Rowz wr.drew (w.heap.size + 1 + 1) #[.string noB, .int .i64 0] 27 := R3.out
      have g0 : Grown w wr.drew := G0.out
      refine wp_region_held_drew (S := fun w' => Rowz w' (w1.heap.size + 1) (bC 32 (hashL s)) 46 ∧ Rowz w' w1.heap.size #[.string c'.b, .int .i64 c'.e] 27) (by kernel_rfl) ⟨r6, r5⟩ (fun _ => ?_)
      generalize wr.drew = v at r6 r5 r2 r3 g0 ⊢
      refine wpAnyH_take1 0 24 (.agg (bC 32 (hashL s))) rfl rfl (by kernel_rfl) (by kernel_rfl) (by kernel_rfl) (fun _ _ _ h => h) ⟨r6, r5⟩ (yieldsIf_load_row rfl 46 _ rfl (w1.heap.size + 1) rfl (bC 32 (hashL s)) 46 _ (fun _ h => h.1) Try.underlying46 rfl (info32c _)) ?_
      simp only [List.setIfInBounds_toArray, List.set_cons_zero, List.set_cons_succ]
      refine wpAnyH_take1 1 25 (.agg #[.string c'.b, .int .i64 c'.e]) rfl rfl (by kernel_rfl) (by kernel_rfl) (by kernel_rfl) (fun _ _ _ h => h) ⟨r6, r5⟩ (yieldsIf_load_row rfl 27 _ rfl w1.heap.size rfl #[.string c'.b, .int .i64 c'.e] 27 _ (fun _ h => h.2) Try.underlying27 rfl (infoC _ _)) ?_
      simp only [List.setIfInBounds_toArray, List.set_cons_zero, List.set_cons_succ]
      refine wpAnyH_ready (rs := [2]) (by kernel_rfl) (by simp) (AllReadyH.cons rfl (fun K hK => ?_) AllReadyH.nil)
      rw [if_pos (by rfl)]
      refine wp_store_row 46 _ _ rfl (w.heap.size + 1) (bC 32 (hashL s)) rfl rfl 46 (bC 32 []) r2 (info32c _) (by simp [bC_size]) (bC_one _ _) ?_
      have q6 := r6.rowOther (k := w.heap.size + 1) (D := bC 32 (hashL s)) (by omega)
      have q5 := r5.rowOther (k := w.heap.size + 1) (D := bC 32 (hashL s)) (by omega)
      have q2 := r2.row (D := bC 32 (hashL s))
      have q3 := r3.rowOther (k := w.heap.size + 1) (D := bC 32 (hashL s)) (by omega)
      have g1 := Grown.setRow g0 r2 (by omega) (bC 32 (hashL s))
      refine hK.out _ _ ⟨q6, q5⟩ (fun _ => ?_)
      clear hK K r6 r5 r2 r3 g0
      generalize v.setRow (w.heap.size + 1) (bC 32 (hashL s)) = v2 at q6 q5 q2 q3 g1 ⊢
      refine wpAnyH_ready (rs := [3]) (by kernel_rfl) (by simp) (AllReadyH.cons rfl (fun K hK => ?_) AllReadyH.nil)
      rw [if_pos (by rfl)]
      refine wp_store_row 27 _ _ rfl (w.heap.size + 1 + 1) #[.string c'.b, .int .i64 c'.e] rfl rfl 27 #[.string noB, .int .i64 0] q3 (infoC _ _) rfl (by simp [Value.oneCell']) ?_
      have p6 := q6.rowOther (k := w.heap.size + 1 + 1) (D := #[.string c'.b, .int .i64 c'.e]) (by omega)
      have p5 := q5.rowOther (k := w.heap.size + 1 + 1) (D := #[.string c'.b, .int .i64 c'.e]) (by omega)
      have p2 := Lib.hid (q2.rowOther (k := w.heap.size + 1 + 1) (D := #[.string c'.b, .int .i64 c'.e]) (by omega))
      have p3 := Lib.hid (q3.row (D := #[.string c'.b, .int .i64 c'.e]))
      have g2 := Lib.hid (Grown.setRow g1 q3 (by omega) #[.string c'.b, .int .i64 c'.e])
      refine hK.out _ _ ⟨p6, p5⟩ (fun _ => ?_)
      clear hK K q6 q5 q2 q3 g1 p6 p5
      generalize v2.setRow (w.heap.size + 1 + 1) #[.string c'.b, .int .i64 c'.e] = v3 at p2 p3 g2 ⊢
      refine wpAnyH_done (by kernel_rfl) ?_ _
      clear R6 R5 R2 R3 G0
      go_wp2_with fail
      refine bodyPost_ret (results_row_row Try.results21 _ _ (w.heap.size + 1) (w.heap.size + 1 + 1) 46 27 _ _ _ _ rfl rfl p2.out p3.out Try.underlying46 rfl (info32c _) Try.underlying27 rfl (infoC _ _)) rfl ⟨rfl, g2.out⟩
end Go.Proofs.Ytbnaiojbkecofaa
