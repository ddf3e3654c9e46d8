/-
  For layer 15's laws: awake of milepostlaw15. Condition: sha's table of round constants stands.
-/
import Derived.Test.YthafohijocidlaaDoorClashWalkC
namespace Go.Proofs.YthafohijocidlaaDoor
set_option maxRecDepth 4000
open Go.RowKit

theorem run_buildLf (s : ByteArray) (I N : Int) (p : Option Addr) (n c : Nat) (w : World) : (Instr.build 31 #[(0, .string s), (1, .agg #[.int .i64 I, .int .i64 N, .slice p n c])]).run Tryd.prog w = .ok (.agg #[.string s, .int .i64 I, .int .i64 N, .slice p n c]) w := by kernel_rfl
theorem execBuild2 {P : Program} {ty : TypeId} {o : Oper} {t : Array Value} {x y : Operand} {w w' : World} {a b u : Value} (ho : o.op = .build ty #[(0, x), (1, y)]) (hx : evS t x = a) (hy : evS t y = b) (h : (Instr.build ty #[(0, a), (1, b)]).run P w = .ok u w') : (execOp (evS t) o).run P w = .ok (.value u) w' := by
  unfold execOp
  simp [ho, hx, hy, h, Result.andThen_ok]

theorem co_opened (S R : Nat → ByteArray) (n n' k : Nat) (h : k < n) (h' : k < n') (hn : n ≤ 1048576) (hn' : n' ≤ 1048576) :
    coB (rootL S n) (S k) (opI n (k : Int)) (opC n (k : Int)) (opL S n (k : Int)).length (lh (opL S n (k : Int))) (R k) (opI n' (k : Int)) (opC n' (k : Int)) (opL R n' (k : Int)).length (lh (opL R n' (k : Int))) =
      (!decide (S k = R k) && decide (rootL S n = rootL R n')) := by
  have hi : 0 ≤ (k : Int) ∧ (k : Int) < (n : Int) := by omega
  have hi' : 0 ≤ (k : Int) ∧ (k : Int) < (n' : Int) := by omega
  have m1 := may_opL S n k hi hn
  have m2 := may_opL R n' k hi' hn'
  have t1 := rt_opL S n k hi hn
  have t2 := rt_opL R n' k hi' hn'
  simp only [Int.toNat_natCast] at t1 t2
  have e1 : ckO (rootL S n) (S k) (opI n (k : Int)) (opC n (k : Int)) (opL S n (k : Int)).length (lh (opL S n (k : Int))) = true := decide_eq_true ⟨m1, t1⟩
  have e2 : ckO (rootL S n) (R k) (opI n' (k : Int)) (opC n' (k : Int)) (opL R n' (k : Int)).length (lh (opL R n' (k : Int))) = decide (rootL S n = rootL R n') := by
    unfold ckO
    rw [decide_eq_decide, t2]
    exact ⟨fun h => h.2.symm, fun h => ⟨m2, h.symm⟩⟩
  have e3 : opI n (k : Int) = opI n' (k : Int) := by rw [opI, opI, if_pos hi, if_pos hi']
  rw [coB_eq, e1, e2, e3]
  simp

set_option maxRecDepth 100000 in
set_option maxHeartbeats 1000000 in
theorem awake15_any (w : World) (ht : Tab w) : Calls Tryd.prog 6 #[] w fun e w' => e = .returned (.bool true) ∧ Kept w w' := by
  have HX : Hid (∀ w, HSl 0 (fun _ => []) (.slice none 0 0) w) := Lib.hid fun w => ⟨none, 0, rfl, Nat.le_refl _, Nat.zero_le _, HAt.zero _ _ _⟩
  have hs1 : (⟨#[97]⟩ : ByteArray).size ≤ 1000000 := by show 1 ≤ 1000000; omega
  obtain ⟨A, hA⟩ : ∃ A, A = shaL (rootS 1 (shaL (leafS ⟨#[97]⟩))) := ⟨_, rfl⟩
  have hA32 : A.length = 32 := by rw [hA]; exact shaL_length _
  have H0 : Hid (∀ (w : World) (g : Nat), Rowz w g #[.string ⟨#[97]⟩] 9 → Calls Tryd.prog 13 #[.slice (some ⟨g, 0, none⟩) 1 1] w fun e w' => e = .returned (.agg (bC 32 A)) ∧ Kept w w') := Lib.hid fun w g h => by
    have := refRoot11_any (some ⟨g, 0, none⟩) 1 1 (fun _ => ⟨#[97]⟩) w (sat_one h) (fun _ _ => hs1) (by omega)
    rwa [rootL_one, ← hA] at this
  have H1 : Hid (∀ w, Tab w → Calls Tryd.prog 14 #[.agg (bC 32 A), .string ⟨#[97]⟩, .agg #[.int .i64 0, .int .i64 1, .slice none 0 0]] w fun e w' => e = .returned (.bool true) ∧ Kept w w') := Lib.hid fun w ht => by
    have := holdCheck_any A hA32 ⟨#[97]⟩ hs1 0 1 0 (fun _ => []) (.slice none 0 0) w (HX.out w) ht
    have e : ckO A ⟨#[97]⟩ 0 1 0 (fun _ => []) = true := decide_eq_true ⟨may_one, by rw [rt_one, hA]⟩
    rwa [e] at this
  have H2 : Hid (∀ w, Tab w → Calls Tryd.prog 9 #[.agg (bC 32 A), .agg #[.string ⟨#[97]⟩, .int .i64 0, .int .i64 1, .slice none 0 0], .agg #[.string ⟨#[97]⟩, .int .i64 0, .int .i64 1, .slice none 0 0]] w fun e w' => e = .returned (.tuple #[.string noB, .string noB, .bool false]) ∧ Kept w w') := Lib.hid fun w ht => by
    obtain ⟨a, b, h1, _, _, _, h5⟩ := clashFind_any A hA32 ⟨#[97]⟩ ⟨#[97]⟩ hs1 hs1 0 1 0 1 0 0 (fun _ => []) (fun _ => []) (fun k hk => absurd hk (Nat.not_lt_zero k)) (fun k hk => absurd hk (Nat.not_lt_zero k))
    have e : coB A ⟨#[97]⟩ 0 1 0 (fun _ => []) ⟨#[97]⟩ 0 1 0 (fun _ => []) = false := decide_eq_false fun h => h.1 rfl
    obtain ⟨rfl, rfl⟩ := h1 e
    have := h5 none none 0 0 w (HX.out w) (HX.out w) ht
    rwa [e] at this
  have H3 : Hid (∀ w, Tab w → Calls Tryd.prog 7 #[.string ⟨#[97]⟩, .string ⟨#[97]⟩] w fun e w' => e = .returned (.bool false) ∧ Kept w w') := Lib.hid fun w ht => by
    have := clashIs_any ⟨#[97]⟩ ⟨#[97]⟩ (by omega) (by omega) w ht
    simpa using this
  have HT := Lib.hid ht
  clear ht HX hA hA32 hs1
  go_enter Tryd.func6, Tryd.ntmps6
  go_wp2_with (refine wpList_store_made rfl 31 _ _ rfl _ _ #[.string ⟨#[97]⟩, .int .i64 0, .int .i64 1, .slice none 0 0] rfl rfl 31 _ rfl (leafR_size _ _ _ _) rfl (leafR_one _ _ _ _ _ _) ?_; intro v1 R1 k1)
  refine (H0.out _ _ (Rowz.new _ _ _)).mono ?_
  rintro e v2 ⟨rfl, k2⟩
  have K2 := Lib.hid ((k1.out.alloc _).trans k2)
  replace R1 := Lib.hid ((R1.out.alloc _).kept k2)
  clear k1 k2 H0
  go_wp2_with (first
    | (refine wpList_store_made rfl 25 _ _ rfl _ _ (bC 32 A) rfl rfl 25 _ rfl (info_hash _) (by simp [bC_size]) (bC_one _ _) ?_; intro v3 R3 k3)
    | (refine park_at 11 rfl ?_))
  obtain ⟨g2, hg2⟩ : ∃ g, g = v2.heap.size := ⟨_, rfl⟩
  rw [← hg2] at R3 ⊢
  clear hg2
  replace R1 := Lib.hid (R1.out.kept k3.out)
  have K3 := Lib.hid (K2.out.trans k3.out)
  clear k3 K2
  refine unpark ?_
  refine wpList_exec 11 rfl (by rfl) (.agg (bC 32 A)) _ (loadHr rfl rfl R3.out) ?_
  refine wpList_exec 12 rfl (by rfl) (.agg #[.string ⟨#[97]⟩, .int .i64 0, .int .i64 1, .slice none 0 0]) _ (loadLf rfl rfl R1.out rfl) ?_
  refine wpList_exec 13 rfl (by rfl) (.agg #[.string ⟨#[97]⟩, .int .i64 0, .int .i64 1, .slice none 0 0]) _ (loadLf rfl rfl R1.out rfl) ?_
  go_wp2_with fail
  refine (H2.out _ (HT.out.kept K3.out)).mono ?_
  rintro e v4 ⟨rfl, k4⟩
  replace R1 := Lib.hid (R1.out.kept k4)
  replace R3 := Lib.hid (R3.out.kept k4)
  have K4 := Lib.hid (K3.out.trans k4)
  clear k4 K3 H2
  go_wp2_with (refine park_at 21 rfl ?_)
  refine unpark ?_
  refine wpList_table 12 [(21, .is (.agg (bC 32 A))), (22, .is (.pointer (some ⟨w.heap.size, 0, none⟩))), (23, .is (.string ⟨#[97]⟩)), (24, .is (.pointer (some ⟨w.heap.size, 1, none⟩))), (25, .is (.agg #[.int .i64 0, .int .i64 1, .slice none 0 0])), (26, .is (.bool true)), (27, .is (.bool true)), (28, .is (.bool true)), (29, .is (.bool false)), (30, .is (.bool true)), (31, .is (.bool true)), (0, .is (.bool true))] (by kernel_rfl) ?_ ?_
  · refine ⟨fun t w1 hf hk hp => ?_, ?_⟩
    · have h2 : slot t 2 = .pointer (some ⟨g2, 0, none⟩) := hf 2 (by kernel_rfl)
      have h20 : slot t 20 = .bool true := hf 20 (by kernel_rfl)
      clear hf hp
      refine stepAt_on 20 true (by kernel_rfl) h20 ?_
      exact stepOK_pure (.agg (bC 32 A)) (loadHr rfl h2 (R3.out.kept hk)) rfl
    refine ⟨fun t w1 hf hk hp => ?_, ?_⟩
    · have h1 : slot t 1 = .pointer (some ⟨w.heap.size, 0, none⟩) := hf 1 (by kernel_rfl)
      have h20 : slot t 20 = .bool true := hf 20 (by kernel_rfl)
      clear hf hp
      refine stepAt_on 20 true (by kernel_rfl) h20 ?_
      exact stepOK_pure (.pointer (some ⟨w.heap.size, 0, none⟩)) (execFieldL w.heap.size 0 (by omega) w1 rfl h1) rfl
    refine ⟨fun t w1 hf hk hp => ?_, ?_⟩
    · have h22 : slot t 22 = .pointer (some ⟨w.heap.size, 0, none⟩) := hp 22 (by kernel_rfl)
      have h20 : slot t 20 = .bool true := hf 20 (by kernel_rfl)
      clear hf hp
      refine stepAt_on 20 true (by kernel_rfl) h20 ?_
      have hq0 := run_loadLS (R1.out.kept hk)
      exact stepOK_sem (.string ⟨#[97]⟩) (by simp only [execOp, evS, h22]) hq0 rfl
    refine ⟨fun t w1 hf hk hp => ?_, ?_⟩
    · have h1 : slot t 1 = .pointer (some ⟨w.heap.size, 0, none⟩) := hf 1 (by kernel_rfl)
      have h20 : slot t 20 = .bool true := hf 20 (by kernel_rfl)
      clear hf hp
      refine stepAt_on 20 true (by kernel_rfl) h20 ?_
      exact stepOK_pure (.pointer (some ⟨w.heap.size, 1, none⟩)) (execFieldL w.heap.size 1 (by omega) w1 rfl h1) rfl
    refine ⟨fun t w1 hf hk hp => ?_, ?_⟩
    · have h24 : slot t 24 = .pointer (some ⟨w.heap.size, 1, none⟩) := hp 24 (by kernel_rfl)
      have h20 : slot t 20 = .bool true := hf 20 (by kernel_rfl)
      clear hf hp
      refine stepAt_on 20 true (by kernel_rfl) h20 ?_
      have hq0 := run_loadLO (R1.out.kept hk)
      exact stepOK_sem (.agg #[.int .i64 0, .int .i64 1, .slice none 0 0]) (by simp only [execOp, evS, h24]) hq0 rfl
    refine ⟨fun t w1 hf hk hp => ?_, ?_⟩
    · have h21 : slot t 21 = .agg (bC 32 A) := hp 21 (by kernel_rfl)
      have h23 : slot t 23 = .string ⟨#[97]⟩ := hp 23 (by kernel_rfl)
      have h25 : slot t 25 = .agg #[.int .i64 0, .int .i64 1, .slice none 0 0] := hp 25 (by kernel_rfl)
      have h20 : slot t 20 = .bool true := hf 20 (by kernel_rfl)
      clear hf hp
      refine stepAt_on 20 true (by kernel_rfl) h20 ?_
      refine stepOK_call #[.agg (bC 32 A), .string ⟨#[97]⟩, .agg #[.int .i64 0, .int .i64 1, .slice none 0 0]] rfl (by simp only [List.map_toArray, List.map_cons, List.map_nil, evS, h21, h23, h25]) (by go_simp) ((H1.out w1 (HT.out.kept (K4.out.trans hk))).mono fun e w' ⟨he, hk'⟩ => ⟨_, he, hk', rfl⟩)
    refine ⟨fun t w1 hf hk hp => ?_, ?_⟩
    · have h20 : slot t 20 = .bool true := hf 20 (by kernel_rfl)
      have h26 : slot t 26 = .bool true := hp 26 (by kernel_rfl)
      clear hf hp
      refine stepAt_plain rfl ?_
      refine stepOK_pure (.bool true) ?_ rfl
      simp only [execOp, evS, h20, h26]
      go_simp
    refine ⟨fun t w1 hf hk hp => ?_, ?_⟩
    · have h27 : slot t 27 = .bool true := hp 27 (by kernel_rfl)
      clear hf hp
      refine stepAt_plain rfl ?_
      exact stepOK_move _ (.inl rfl) h27
    refine ⟨fun t w1 hf hk hp => ?_, ?_⟩
    · have h28 : slot t 28 = .bool true := hp 28 (by kernel_rfl)
      clear hf hp
      refine stepAt_on 28 true (by kernel_rfl) h28 ?_
      refine stepOK_call #[Value.string { data := #[97] }, Value.string { data := #[97] }] rfl (by simp only [List.map_toArray, List.map_cons, List.map_nil, evS]) (by go_simp) ((H3.out w1 (HT.out.kept (K4.out.trans hk))).mono fun e w' ⟨he, hk'⟩ => ⟨_, he, hk', rfl⟩)
    refine ⟨fun t w1 hf hk hp => ?_, ?_⟩
    · have h29 : slot t 29 = .bool false := hp 29 (by kernel_rfl)
      have h28 : slot t 28 = .bool true := hp 28 (by kernel_rfl)
      clear hf hp
      refine stepAt_on 28 true (by kernel_rfl) h28 ?_
      refine stepOK_pure (.bool true) ?_ rfl
      simp only [execOp, evS, h29]
      go_simp
    refine ⟨fun t w1 hf hk hp => ?_, ?_⟩
    · have h28 : slot t 28 = .bool true := hp 28 (by kernel_rfl)
      have h30 : slot t 30 = .bool true := hp 30 (by kernel_rfl)
      clear hf hp
      refine stepAt_plain rfl ?_
      refine stepOK_pure (.bool true) ?_ rfl
      simp only [execOp, evS, h28, h30]
      go_simp
    refine ⟨fun t w1 hf hk hp => ?_, ?_⟩
    · have h31 : slot t 31 = .bool true := hp 31 (by kernel_rfl)
      clear hf hp
      refine stepAt_plain rfl ?_
      exact stepOK_move _ (.inr rfl) h31
    exact trivial
  · intro t w1 hsz hf hk hfacts
    have h0 : slot t 0 = .bool true := hfacts 0 (by kernel_rfl)
    have h1 : slot t 1 = .pointer (some ⟨w.heap.size, 0, none⟩) := hf 1 (by kernel_rfl)
    have h2 : slot t 2 = .pointer (some ⟨g2, 0, none⟩) := hf 2 (by kernel_rfl)
    have h20 : slot t 20 = .bool true := hf 20 (by kernel_rfl)
    have harr : t = #[slot t 0, slot t 1, slot t 2, slot t 3, slot t 4, slot t 5, slot t 6, slot t 7, slot t 8, slot t 9, slot t 10, slot t 11, slot t 12, slot t 13, slot t 14, slot t 15, slot t 16, slot t 17, slot t 18, slot t 19, slot t 20, slot t 21, slot t 22, slot t 23, slot t 24, slot t 25, slot t 26, slot t 27, slot t 28, slot t 29, slot t 30, slot t 31] := arr_eq t 32 hsz
    rw [harr, h0, h1, h2, h20]
    clear harr hfacts hf h0 h1 h2 h20
    generalize slot t 3 = x3; generalize slot t 4 = x4; generalize slot t 5 = x5; generalize slot t 6 = x6; generalize slot t 7 = x7; generalize slot t 8 = x8; generalize slot t 9 = x9; generalize slot t 10 = x10; generalize slot t 11 = x11; generalize slot t 12 = x12; generalize slot t 13 = x13; generalize slot t 14 = x14
    generalize slot t 15 = x15; generalize slot t 16 = x16; generalize slot t 17 = x17; generalize slot t 18 = x18; generalize slot t 19 = x19; generalize slot t 21 = x21; generalize slot t 22 = x22; generalize slot t 23 = x23; generalize slot t 24 = x24; generalize slot t 25 = x25; generalize slot t 26 = x26; generalize slot t 27 = x27
    generalize slot t 28 = x28; generalize slot t 29 = x29; generalize slot t 30 = x30; generalize slot t 31 = x31
    clear hsz t
    simp only [List.drop_succ_cons, List.drop_zero]
    have K5 := Lib.hid (K4.out.trans hk)
    clear hk
    go_wp2_with fail
    go_ret
    exact ⟨rfl, K5.out⟩
end Go.Proofs.YthafohijocidlaaDoor
