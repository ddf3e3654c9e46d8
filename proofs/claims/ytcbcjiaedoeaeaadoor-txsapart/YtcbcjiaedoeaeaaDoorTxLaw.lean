/-
  For layer 22's laws: awake of milepostlaw22. Condition: sha's table of round constants stands.
-/
import Derived.Test.YtcbcjiaedoeaeaaDoorTxWalk
import Derived.Test.YtcbcjiaedoeaeaaDoorTxRef
import Derived.Test.YtcbcjiaedoeaeaaDoorTxMuch
namespace Go.Proofs.YtcbcjiaedoeaeaaDoor
set_option maxRecDepth 4000
open Go.RowKit

theorem execBuild2s {o : Oper} {t : Array Value} {x y : Operand} (a b : ByteArray) (w : World) (ho : o.op = .buildSlice 22 2 #[(0, x), (1, y)]) (hx : evS t x = .string a) (hy : evS t y = .string b) :
    (execOp (evS t) o).run Tryd.prog w = .ok (.value (.slice (some ⟨w.heap.size, 0, none⟩) 2 2)) (w.alloc (.cells #[.string a, .string b] 9)) := by
  have hr := run_build2s a b w
  unfold execOp
  simp [ho, hx, hy, hr, Result.andThen_ok]
def aB : ByteArray := ⟨#[97]⟩
def bB : ByteArray := ⟨#[98]⟩
def abS (i : Nat) : ByteArray := if i = 0 then aB else bB
theorem abS_small (i : Nat) : (abS i).size = 1 := by unfold abS; split <;> rfl
theorem abS_at {w : World} {g : Nat} {T : TypeId} (h : Rowz w g #[.string aB, .string bB] T) : SSl 2 abS (.slice (some ⟨g, 0, none⟩) 2 2) w := by
  refine ⟨_, _, rfl, Nat.le_refl _, by unfold maxLen; omega, fun i hi => ⟨_, rfl, h.lt, ?_⟩⟩
  rw [Addr.add_mid, h.cell, Nat.zero_add]
  have : i = 0 ∨ i = 1 := by omega
  rcases this with rfl | rfl <;> rfl
theorem may_ab : mayT abS 2 = 0 := mayT_zero.2 ⟨by omega, fun i _ => by rw [abS_small]; omega⟩
theorem ck_ab : (decide (otC abS 2 1 ≤ 1024) && decide (bB.size ≤ 4096) && ckO (rootL (tkS abS) 2) (txS bB) (otI abS 2 1) (otC abS 2 1) (otL abS 2 1).length (lh (otL abS 2 1))) = true := by
  rw [otI, otC, otL, if_pos may_ab, if_pos may_ab, if_pos may_ab]
  have h1 : ckO (rootL (tkS abS) 2) (txS bB) (opI 2 1) (opC 2 1) (opL (tkS abS) 2 1).length (lh (opL (tkS abS) 2 1)) = true :=
    decide_eq_true ⟨may_opL _ 2 1 (by omega) (by omega), rt_opL (tkS abS) 2 1 (by omega) (by omega)⟩
  rw [h1]
  decide
theorem root_zero (S : Nat → ByteArray) : rootL S 0 = shaL (rootS 0 zeroH) := by rw [rootL, topN_zero]
theorem txS_a : txS aB = ⟨#[84, 97]⟩ := by decide +kernel
set_option maxRecDepth 100000 in
set_option maxHeartbeats 1000000 in
theorem awake22_any (w : World) (hT : Tab w) : Calls Tryd.prog 7 #[] w fun e w' => e = .returned (.bool true) ∧ Kept w w' := by
  have HT := Lib.hid hT
  have HO : Hid (∀ g w, Rowz w g #[.string aB, .string bB] 9 → Tab w → Calls Tryd.prog 8 #[.slice (some ⟨g, 0, none⟩) 2 2, .int .i64 1] w fun e w' => ∃ q cc, e = .returned (.tuple #[.agg #[.int .i64 (otI abS 2 1), .int .i64 (otC abS 2 1), .slice q (otL abS 2 1).length cc], .int .i64 0]) ∧
      HSl (otL abS 2 1).length (lh (otL abS 2 1)) (.slice q (otL abS 2 1).length cc) w' ∧ Kept w w') := Lib.hid fun g w hr ht => by
    have := txsOpen_any 2 abS _ w 1 (abS_at hr) (by omega) (fun i _ => by rw [abS_small]; omega) ht
    have hE : otE abS 2 1 = 0 := by rw [otE, if_pos may_ab]; decide
    rwa [hE] at this
  have HR : Hid (∀ g w, Rowz w g #[.string aB, .string bB] 9 → Tab w → Calls Tryd.prog 13 #[.slice (some ⟨g, 0, none⟩) 2 2] w fun e w' => e = .returned (.agg (bC 32 (rootL (tkS abS) 2))) ∧ Kept w w') := Lib.hid fun g w hr ht => txsRoot_any 2 abS _ w (abS_at hr) (by omega) (fun i _ => by rw [abS_small]; omega) ht
  have HR0 : Hid (∀ w, Tab w → Calls Tryd.prog 13 #[.slice none 0 0] w fun e w' => e = .returned (.agg (bC 32 (shaL (rootS 0 zeroH)))) ∧ Kept w w') := Lib.hid fun w ht => by
    have := txsRoot_any 0 abS (.slice none 0 0) w ⟨none, 0, rfl, Nat.le_refl _, Nat.zero_le _, SAt.zero _ _ _⟩ (by omega) (fun i h => by omega) ht
    rwa [root_zero] at this
  have HL0 : Hid (∀ w, Tab w → Calls Tryd.prog 19 #[.slice none 0 0] w fun e w' => e = .returned (.agg (bC 32 (shaL (rootS 0 zeroH)))) ∧ Kept w w') := Lib.hid fun w ht => by
    have := linkRoot_any 0 (fun _ => []) (.slice none 0 0) w ⟨none, 0, rfl, Nat.le_refl _, Nat.zero_le _, HAt.zero _ _ _⟩ (by omega) ht
    rwa [root_zero] at this
  have HC : Hid (∀ v w, HSl (otL abS 2 1).length (lh (otL abS 2 1)) v w → Tab w → Calls Tryd.prog 15 #[.agg (bC 32 (rootL (tkS abS) 2)), .string bB, .agg #[.int .i64 (otI abS 2 1), .int .i64 (otC abS 2 1), v]] w fun e w' => e = .returned (.bool true) ∧ Kept w w') := Lib.hid fun v w hv ht => by
    have := txsCheck_any (rootL (tkS abS) 2) bB (otI abS 2 1) (otC abS 2 1) _ _ v w (shaL_length _) (by show 1 ≤ 10000; omega) hv ht
    rwa [ck_ab] at this
  have HX : Hid (∀ w, Calls Tryd.prog 17 #[.string aB] w fun e w' => e = .returned (.string ⟨#[84, 97]⟩) ∧ Kept w w') := Lib.hid fun w => by
    have := txsText_any aB w (by show 1 ≤ 10000; omega)
    rwa [txS_a] at this
  have hz32 : (shaL (rootS 0 zeroH)).length = 32 := shaL_length _
  generalize shaL (rootS 0 zeroH) = r0 at HR0 HL0 hz32
  generalize rootL (tkS abS) 2 = r at HR HC
  generalize (otL abS 2 1).length = m at HO HC
  generalize lh (otL abS 2 1) = G at HO HC
  generalize otI abS 2 1 = I at HO HC
  generalize otC abS 2 1 = N at HO HC
  have hsz : ∀ v : Value, (#[.int .i64 I, .int .i64 N, v] : Array Value).size = 3 := fun _ => rfl
  clear hT
  go_enter Tryd.func7, Tryd.ntmps7
  go_wp2_with (refine wpList_exec 4 rfl (by rfl) _ _ (execBuild2s aB bB _ rfl rfl rfl) ?_)
  have R1 := Lib.hid (Rowz.new w #[.string aB, .string bB] 9)
  have K1 := Lib.hid ((Kept.refl w).alloc (.cells #[.string aB, .string bB] 9))
  generalize w.alloc (.cells #[.string aB, .string bB] 9) = v1 at R1 K1 ⊢
  refine (HO.out _ v1 R1.out (HT.out.kept K1.out)).mono ?_
  rintro e v2 ⟨qq, cc, rfl, hp, k2⟩
  have HP := Lib.hid hp
  replace K1 := Lib.hid (K1.out.trans k2)
  clear hp k2 HO R1
  go_wp2_with (refine wpList_store_made rfl 27 _ _ rfl _ _ #[.int .i64 I, .int .i64 N, .slice qq m cc] rfl rfl 27 _ rfl (opR_size _ _ _) rfl (opR_one _ _ _ _ _) ?_; intro v3 R2 k3)
  obtain ⟨g1, hg1⟩ : ∃ g, g = v2.heap.size := ⟨_, rfl⟩
  rw [← hg1] at R2 ⊢
  clear hg1
  replace HP := Lib.hid (HSl.kept _ _ _ _ _ k3.out HP.out)
  replace K1 := Lib.hid (K1.out.trans k3.out)
  replace HT := Lib.hid (HT.out.kept K1.out)
  clear k3
  go_wp2_with fail
  refine wp_region_table [(8, .is (.agg (bC 32 r0))), (9, .is (.agg (bC 32 r0))), (10, .is (.bool true)), (11, .is (.bool true)), (12, .is (.int .i64 0)), (13, .is (.bool true)), (14, .is (.bool true)), (15, .is (.bool true)), (16, .row (sliceAt0 2) #[.string aB, .string bB] 9), (17, .is (.agg (bC 32 r))), (18, .is (.agg #[.int .i64 I, .int .i64 N, .slice qq m cc])), (19, .is (.bool true)), (20, .is (.bool true)), (21, .is (.bool true)), (22, .is (.string ⟨#[84, 97]⟩)), (23, .is (.bool true)), (24, .is (.bool true)), (0, .is (.bool true))] (by kernel_rfl) (by kernel_rfl) ?_ ?_
  · refine ⟨fun t w1 hf hk hp => ?_, ?_⟩
    · clear hf hp
      refine stepAt_plain rfl ?_
      refine stepOK_call #[Value.slice none 0 0] rfl (by simp only [List.map_toArray, List.map_cons, List.map_nil, evS]) (by go_simp) ((HR0.out w1 (HT.out.kept hk)).mono fun e w' ⟨he, hk'⟩ => ⟨_, he, hk', rfl⟩)
    refine ⟨fun t w1 hf hk hp => ?_, ?_⟩
    · clear hf hp
      refine stepAt_plain rfl ?_
      refine stepOK_call #[Value.slice none 0 0] rfl (by simp only [List.map_toArray, List.map_cons, List.map_nil, evS]) (by go_simp) ((HL0.out w1 (HT.out.kept hk)).mono fun e w' ⟨he, hk'⟩ => ⟨_, he, hk', rfl⟩)
    refine ⟨fun t w1 hf hk hp => ?_, ?_⟩
    · have h8 : slot t 8 = .agg (bC 32 r0) := hp 8 (by kernel_rfl)
      have h9 : slot t 9 = .agg (bC 32 r0) := hp 9 (by kernel_rfl)
      clear hf hp
      refine stepAt_plain rfl ?_
      exact stepOK_pure (.bool true) (execEqH1 r0 hz32 w1 rfl h8 h9) rfl
    refine ⟨fun t w1 hf hk hp => ?_, ?_⟩
    · have h10 : slot t 10 = .bool true := hp 10 (by kernel_rfl)
      clear hf hp
      refine stepAt_plain rfl ?_
      exact stepOK_move _ (.inl rfl) h10
    refine ⟨fun t w1 hf hk hp => ?_, ?_⟩
    · have h2 : slot t 2 = .int .i64 0 := hf 2 (by kernel_rfl)
      have h11 : slot t 11 = .bool true := hp 11 (by kernel_rfl)
      clear hf hp
      refine stepAt_on 11 true (by kernel_rfl) h11 ?_
      exact stepOK_move _ (.inl rfl) h2
    refine ⟨fun t w1 hf hk hp => ?_, ?_⟩
    · have h12 : slot t 12 = .int .i64 0 := hp 12 (by kernel_rfl)
      have h11 : slot t 11 = .bool true := hp 11 (by kernel_rfl)
      clear hf hp
      refine stepAt_on 11 true (by kernel_rfl) h11 ?_
      refine stepOK_pure (.bool true) ?_ rfl
      simp only [execOp, evS, h12]
      go_simp
    refine ⟨fun t w1 hf hk hp => ?_, ?_⟩
    · have h11 : slot t 11 = .bool true := hp 11 (by kernel_rfl)
      have h13 : slot t 13 = .bool true := hp 13 (by kernel_rfl)
      clear hf hp
      refine stepAt_plain rfl ?_
      refine stepOK_pure (.bool true) ?_ rfl
      simp only [execOp, evS, h11, h13]
      go_simp
    refine ⟨fun t w1 hf hk hp => ?_, ?_⟩
    · have h14 : slot t 14 = .bool true := hp 14 (by kernel_rfl)
      clear hf hp
      refine stepAt_plain rfl ?_
      exact stepOK_move _ (.inl rfl) h14
    refine ⟨fun t w1 hf hk hp => ?_, ?_⟩
    · have h15 : slot t 15 = .bool true := hp 15 (by kernel_rfl)
      clear hf hp
      refine stepAt_on 15 true (by kernel_rfl) h15 ?_
      exact .value ((sliceAt0 2) w1.heap.size) (w1.alloc (.cells #[.string aB, .string bB] 9)) (execBuild2s aB bB w1 rfl rfl rfl) ((Kept.refl w1).alloc _) ⟨_, rfl, Rowz.new w1 _ _⟩
    refine ⟨fun t w1 hf hk hp => ?_, ?_⟩
    · obtain ⟨g16, h16, r16⟩ : ∃ g, slot t 16 = (sliceAt0 2) g ∧ Rowz w1 g #[.string aB, .string bB] 9 := hp 16 (by kernel_rfl)
      simp only [sliceAt0] at h16
      have h15 : slot t 15 = .bool true := hp 15 (by kernel_rfl)
      clear hf hp
      refine stepAt_on 15 true (by kernel_rfl) h15 ?_
      refine stepOK_call #[.slice (some ⟨g16, 0, none⟩) 2 2] rfl (by simp only [List.map_toArray, List.map_cons, List.map_nil, evS, h16]) (by go_simp) ((HR.out _ w1 r16 (HT.out.kept hk)).mono fun e w' ⟨he, hk'⟩ => ⟨_, he, hk', rfl⟩)
    refine ⟨fun t w1 hf hk hp => ?_, ?_⟩
    · have h1 : slot t 1 = .pointer (some ⟨g1, 0, none⟩) := hf 1 (by kernel_rfl)
      have h15 : slot t 15 = .bool true := hp 15 (by kernel_rfl)
      clear hf hp
      refine stepAt_on 15 true (by kernel_rfl) h15 ?_
      exact stepOK_pure (.agg #[.int .i64 I, .int .i64 N, .slice qq m cc]) (loadO rfl h1 (R2.out.kept hk) (hsz _)) rfl
    refine ⟨fun t w1 hf hk hp => ?_, ?_⟩
    · have h17 : slot t 17 = .agg (bC 32 r) := hp 17 (by kernel_rfl)
      have h18 : slot t 18 = .agg #[.int .i64 I, .int .i64 N, .slice qq m cc] := hp 18 (by kernel_rfl)
      have h15 : slot t 15 = .bool true := hp 15 (by kernel_rfl)
      clear hf hp
      refine stepAt_on 15 true (by kernel_rfl) h15 ?_
      refine stepOK_call #[.agg (bC 32 r), Value.string { data := #[98] }, .agg #[.int .i64 I, .int .i64 N, .slice qq m cc]] rfl (by simp only [List.map_toArray, List.map_cons, List.map_nil, evS, h17, h18]) (by go_simp) ((HC.out _ w1 (HSl.kept _ _ _ _ _ hk HP.out) (HT.out.kept hk)).mono fun e w' ⟨he, hk'⟩ => ⟨_, he, hk', rfl⟩)
    refine ⟨fun t w1 hf hk hp => ?_, ?_⟩
    · have h15 : slot t 15 = .bool true := hp 15 (by kernel_rfl)
      have h19 : slot t 19 = .bool true := hp 19 (by kernel_rfl)
      clear hf hp
      refine stepAt_plain rfl ?_
      refine stepOK_pure (.bool true) ?_ rfl
      simp only [execOp, evS, h15, h19]
      go_simp
    refine ⟨fun t w1 hf hk hp => ?_, ?_⟩
    · have h20 : slot t 20 = .bool true := hp 20 (by kernel_rfl)
      clear hf hp
      refine stepAt_plain rfl ?_
      exact stepOK_move _ (.inl rfl) h20
    refine ⟨fun t w1 hf hk hp => ?_, ?_⟩
    · have h21 : slot t 21 = .bool true := hp 21 (by kernel_rfl)
      clear hf hp
      refine stepAt_on 21 true (by kernel_rfl) h21 ?_
      refine stepOK_call #[Value.string { data := #[97] }] rfl (by simp only [List.map_toArray, List.map_cons, List.map_nil, evS]) (by go_simp) ((HX.out w1).mono fun e w' ⟨he, hk'⟩ => ⟨_, he, hk', rfl⟩)
    refine ⟨fun t w1 hf hk hp => ?_, ?_⟩
    · have h22 : slot t 22 = .string ⟨#[84, 97]⟩ := hp 22 (by kernel_rfl)
      have h21 : slot t 21 = .bool true := hp 21 (by kernel_rfl)
      clear hf hp
      refine stepAt_on 21 true (by kernel_rfl) h21 ?_
      exact stepOK_pure (.bool true) (execEqSSelf ⟨#[84, 97]⟩ w1 rfl h22 rfl) rfl
    refine ⟨fun t w1 hf hk hp => ?_, ?_⟩
    · have h21 : slot t 21 = .bool true := hp 21 (by kernel_rfl)
      have h23 : slot t 23 = .bool true := hp 23 (by kernel_rfl)
      clear hf hp
      refine stepAt_plain rfl ?_
      refine stepOK_pure (.bool true) ?_ rfl
      simp only [execOp, evS, h21, h23]
      go_simp
    refine ⟨fun t w1 hf hk hp => ?_, ?_⟩
    · have h24 : slot t 24 = .bool true := hp 24 (by kernel_rfl)
      clear hf hp
      refine stepAt_plain rfl ?_
      exact stepOK_move _ (.inr rfl) h24
    exact trivial
  · intro t w1 hsz hf hk hfacts
    have h0 : slot t 0 = .bool true := hfacts 17 _ rfl 0 rfl
    have h1 : slot t 1 = .pointer (some ⟨g1, 0, none⟩) := hf 1 (by kernel_rfl)
    have h2 : slot t 2 = .int .i64 0 := hf 2 (by kernel_rfl)
    have harr : t = #[slot t 0, slot t 1, slot t 2, slot t 3, slot t 4, slot t 5, slot t 6, slot t 7, slot t 8, slot t 9, slot t 10, slot t 11, slot t 12, slot t 13, slot t 14, slot t 15, slot t 16, slot t 17, slot t 18, slot t 19, slot t 20, slot t 21, slot t 22, slot t 23, slot t 24] := arr_eq t 25 hsz
    rw [harr, h0, h1, h2]
    clear harr hfacts hf h0 h1 h2
    generalize slot t 3 = x3; generalize slot t 4 = x4; generalize slot t 5 = x5; generalize slot t 6 = x6; generalize slot t 7 = x7; generalize slot t 8 = x8; generalize slot t 9 = x9; generalize slot t 10 = x10; generalize slot t 11 = x11; generalize slot t 12 = x12; generalize slot t 13 = x13; generalize slot t 14 = x14
    generalize slot t 15 = x15; generalize slot t 16 = x16; generalize slot t 17 = x17; generalize slot t 18 = x18; generalize slot t 19 = x19; generalize slot t 20 = x20; generalize slot t 21 = x21; generalize slot t 22 = x22; generalize slot t 23 = x23; generalize slot t 24 = x24
    clear hsz t
    have KE := Lib.hid (K1.out.trans hk)
    clear hk
    go_wp2_with fail
    go_ret
    exact ⟨rfl, KE.out⟩
end Go.Proofs.YtcbcjiaedoeaeaaDoor
