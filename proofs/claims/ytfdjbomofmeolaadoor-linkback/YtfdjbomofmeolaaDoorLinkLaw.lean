/-
  For layer 21's laws: awake of milepostlaw21. Condition: sha's table of round constants stands.
-/
import Derived.Test.YtfdjbomofmeolaaDoorLinkWalk
import Derived.Test.YtfdjbomofmeolaaDoorLinkRef
import Derived.Test.YtfdjbomofmeolaaDoorHashEx
namespace Go.Proofs.YtfdjbomofmeolaaDoor
set_option maxRecDepth 4000
open Go.RowKit

/-- The opening of the second of two leaves, with the first one's text. -/
theorem rt_wrong (S : Nat → ByteArray) : rtO (S 0) (opI 2 1) (opC 2 1) (opL S 2 1).length (lh (opL S 2 1)) = shaL (rootS 2 (shaL (nodeS (lf S 0) (lf S 0)))) := by
  have hm := may_opL S 2 1 (by omega) (by omega)
  have hl2 : leftN 2 = 1 := by decide +kernel
  have hP : opL S 2 1 = [lf S 0] := by
    rw [opL, if_pos (by omega)]
    show pathN (lf S) 2 1 = _
    rw [pathN_right _ (by omega) (by omega), hl2, pathN_one _ _ (by omega), topN_one]
    rfl
  rw [rtO, if_pos hm, fl_lh, hP]
  have := upL_right (n := 2) (i := 1) (by omega) (by omega) (shaL (leafS (S 0))) [] (lf S 0) (by rw [hl2, sidesN_one _ (by omega)]; rfl)
  have e1 : (opI 2 1).toNat = 1 := by decide
  have e2 : (opC 2 1).toNat = 2 := by decide
  rw [e1, e2]
  rw [List.nil_append] at this
  rw [this, hl2, upL_one _ (by omega)]
  rfl
theorem root_two (S : Nat → ByteArray) : rootL S 2 = shaL (rootS 2 (shaL (nodeS (lf S 0) (lf S 1)))) := by
  have hl2 : leftN 2 = 1 := by decide +kernel
  rw [rootL, topN_two _ (by omega), hl2, topN_one, topN_one]
theorem roots_differ : shaL (rootS 2 (shaL (nodeS (shaL (leafS (linkS h1L))) (shaL (leafS (linkS h1L)))))) ≠ shaL (rootS 2 (shaL (nodeS (shaL (leafS (linkS h1L))) (shaL (leafS (linkS h2L)))))) := by decide +kernel
theorem ck_yes : ckO (rootL (lkS twoF) 2) (linkS h2L) (opI 2 1) (opC 2 1) (opL (lkS twoF) 2 1).length (lh (opL (lkS twoF) 2 1)) = true :=
  decide_eq_true ⟨may_opL _ 2 1 (by omega) (by omega), rt_opL (lkS twoF) 2 1 (by omega) (by omega)⟩
theorem ck_no : ckO (rootL (lkS twoF) 2) (linkS h1L) (opI 2 1) (opC 2 1) (opL (lkS twoF) 2 1).length (lh (opL (lkS twoF) 2 1)) = false := by
  refine decide_eq_false fun h => ?_
  have h2 := h.2
  rw [show linkS h1L = lkS twoF 0 from rfl, rt_wrong, root_two] at h2
  exact roots_differ h2
set_option maxRecDepth 100000 in
set_option maxHeartbeats 1000000 in
theorem awake21_any (w : World) (hT : Tab w) : Calls Tryd.prog 6 #[] w fun e w' => e = .returned (.bool true) ∧ Kept w w' := by
  have HT := Lib.hid hT
  have H1 : Hid (∀ {o : Oper} {t : Array Value} (w : World), o.op = .build 33 #[(0, .const (.int .u8 1))] → (execOp (evS t) o).run Tryd.prog w = .ok (.value (.agg (bC 32 h1L))) w) := Lib.hid fun w ho => execBuild_h1 w ho
  have H2 : Hid (∀ {o : Oper} {t : Array Value} (w : World), o.op = .build 33 #[(0, .const (.int .u8 2))] → (execOp (evS t) o).run Tryd.prog w = .ok (.value (.agg (bC 32 h2L))) w) := Lib.hid fun w ho => execBuild_h2 w ho
  have HV : Hid (∀ g w, Rowz w g (hC 2 (fun i => if i = 0 then h1L else h2L)) 33 → HAt w (some ⟨g, 0, none⟩) 2 twoF) := Lib.hid fun g w hr => HAt.ofRow (F := twoF) hr fun i _ => twoF_length i
  have HO : Hid (∀ v w, HSl 2 twoF v w → Tab w → _) := Lib.hid fun v w hv ht => linkOpen_any 2 twoF v w 1 hv (by omega) ht
  have HR : Hid (∀ v w, HSl 2 twoF v w → Tab w → _) := Lib.hid fun v w hv ht => linkRoot_any 2 twoF v w hv (by omega) ht
  have HX : Hid (∀ w, _) := Lib.hid fun w => linkText_any h1L w h1L_length
  have hz := linkS_size h1L h1L_length
  have HR32 : (rootL (lkS twoF) 2).length = 32 := shaL_length _
  have HC1 : Hid (∀ v w, HSl (opL (lkS twoF) 2 1).length (lh (opL (lkS twoF) 2 1)) v w → Tab w → Calls Tryd.prog 15 #[.agg (bC 32 (rootL (lkS twoF) 2)), .agg (bC 32 h2L), .agg #[.int .i64 (opI 2 1), .int .i64 (opC 2 1), v]] w fun e w' => e = .returned (.bool true) ∧ Kept w w') := Lib.hid fun v w hv ht => by
    have := linkCheck_any (rootL (lkS twoF) 2) h2L (opI 2 1) (opC 2 1) _ _ v w HR32 h2L_length hv ht
    rwa [ck_yes, show decide (opC 2 1 ≤ 257) = true by decide] at this
  have HC0 : Hid (∀ v w, HSl (opL (lkS twoF) 2 1).length (lh (opL (lkS twoF) 2 1)) v w → Tab w → Calls Tryd.prog 15 #[.agg (bC 32 (rootL (lkS twoF) 2)), .agg (bC 32 h1L), .agg #[.int .i64 (opI 2 1), .int .i64 (opC 2 1), v]] w fun e w' => e = .returned (.bool false) ∧ Kept w w') := Lib.hid fun v w hv ht => by
    have := linkCheck_any (rootL (lkS twoF) 2) h1L (opI 2 1) (opC 2 1) _ _ v w HR32 h1L_length hv ht
    rwa [ck_no, show decide (opC 2 1 ≤ 257) = true by decide] at this
  have hE : opE 2 1 = 0 := by decide
  rw [hE] at HO
  have hF0 : twoF 0 = h1L := rfl
  have hF1 : twoF 1 = h2L := rfl
  generalize rootL (lkS twoF) 2 = r at HR HC1 HC0
  generalize (opL (lkS twoF) 2 1).length = m at HO HC1 HC0
  generalize lh (opL (lkS twoF) 2 1) = G at HO HC1 HC0
  generalize opI 2 1 = I at HO HC1 HC0
  generalize opC 2 1 = N at HO HC1 HC0
  generalize linkS h1L = s at HX hz
  have hz' : ((s.size : Int) == 33) = true := by simp [hz]
  generalize twoF = F at HV HO HR hF0 hF1
  generalize h1L = A at *
  generalize h2L = B at *
  clear hT hE HR32 hz
  have hsz : ∀ v : Value, (#[.int .i64 I, .int .i64 N, v] : Array Value).size = 3 := fun _ => rfl
  go_enter Tryd.func6, Tryd.ntmps6
  go_wp2_with (first
    | (refine wpList_exec 4 rfl (by rfl) _ _ (H1.out _ rfl) ?_)
    | (refine wpList_exec 5 rfl (by rfl) _ _ (H2.out _ rfl) ?_)
    | (refine wpList_exec 6 rfl (by rfl) _ _ (execBuild2h A B _ rfl rfl rfl) ?_))
  have R1 := Lib.hid (Rowz.new w (hC 2 (fun i => if i = 0 then A else B)) 33)
  have K1 := Lib.hid ((Kept.refl w).alloc (.cells (hC 2 (fun i => if i = 0 then A else B)) 33))
  generalize w.alloc (.cells (hC 2 (fun i => if i = 0 then A else B)) 33) = v1 at R1 K1 ⊢
  have HA := Lib.hid (HV.out _ _ R1.out)
  obtain ⟨q, hq⟩ : ∃ q : Addr, q = ⟨w.heap.size, 0, none⟩ := ⟨_, rfl⟩
  rw [← hq] at HA ⊢
  clear HV R1 hq
  have SA : Hid (∀ u, Kept v1 u → HSl 2 F (.slice (some q) 2 2) u) := Lib.hid fun u hu => ⟨_, _, rfl, Nat.le_refl _, by unfold maxLen; omega, HA.out.kept hu⟩
  refine (HO.out _ v1 (SA.out _ (Kept.refl _)) (HT.out.kept K1.out)).mono ?_
  rintro e v2 ⟨qq, cc, rfl, hp, k2⟩
  have HP := Lib.hid hp
  have K2 := Lib.hid k2
  clear hp k2 HO
  go_wp2_with (refine wpList_store_made rfl 25 _ _ rfl _ _ #[.int .i64 I, .int .i64 N, .slice qq m cc] rfl rfl 25 _ rfl (opR_size _ _ _) rfl (opR_one _ _ _ _ _) ?_; intro v3 R2 k3)
  obtain ⟨g2, hg2⟩ : ∃ g, g = v2.heap.size := ⟨_, rfl⟩
  rw [← hg2] at R2 ⊢
  clear hg2
  replace HP := Lib.hid (HSl.kept _ _ _ _ _ k3.out HP.out)
  replace K2 := Lib.hid (K2.out.trans k3.out)
  clear k3
  have HA3 := Lib.hid (HA.out.kept K2.out)
  have HT3 := Lib.hid (HT.out.kept (K1.out.trans K2.out))
  go_wp2_with fail
  refine wp_region_table [(12, .is (.slice (some q) 2 2)), (13, .is (.pointer (some (q.add (0 * 32))))), (14, .is (.agg (bC 32 A))), (15, .is (.string s)), (16, .is (.int .i64 (s.size : Int))), (17, .is (.bool true)), (18, .is (.bool true)), (19, .is (.int .i64 0)), (20, .is (.bool true)), (21, .is (.bool true)), (22, .is (.bool true)), (23, .is (.slice (some q) 2 2)), (24, .is (.agg (bC 32 r))), (25, .is (.slice (some q) 2 2)), (26, .is (.pointer (some (q.add (1 * 32))))), (27, .is (.agg (bC 32 B))), (28, .is (.agg #[.int .i64 I, .int .i64 N, .slice qq m cc])), (29, .is (.bool true)), (30, .is (.bool true)), (31, .is (.bool true)), (32, .is (.slice (some q) 2 2)), (33, .is (.agg (bC 32 r))), (34, .is (.slice (some q) 2 2)), (35, .is (.pointer (some (q.add (0 * 32))))), (36, .is (.agg (bC 32 A))), (37, .is (.agg #[.int .i64 I, .int .i64 N, .slice qq m cc])), (38, .is (.bool false)), (39, .is (.bool true)), (40, .is (.bool true)), (0, .is (.bool true))] (by kernel_rfl) (by kernel_rfl) ?_ ?_
  · refine ⟨fun t w1 hf hk hp => ?_, ?_⟩
    · have h1 : slot t 1 = .slice (some q) 2 2 := hf 1 (by kernel_rfl)
      clear hf hp
      refine stepAt_plain rfl ?_
      exact stepOK_move _ (.inl rfl) h1
    refine ⟨fun t w1 hf hk hp => ?_, ?_⟩
    · have h12 : slot t 12 = .slice (some q) 2 2 := hp 12 (by kernel_rfl)
      clear hf hp
      refine stepAt_plain rfl ?_
      exact stepOK_pure (.pointer (some (q.add (0 * 32)))) (execIndex0 q 2 2 0 (by omega) w1 rfl h12) rfl
    refine ⟨fun t w1 hf hk hp => ?_, ?_⟩
    · have h13 : slot t 13 = .pointer (some (q.add (0 * 32))) := hp 13 (by kernel_rfl)
      clear hf hp
      refine stepAt_plain rfl ?_
      exact stepOK_pure (.agg (bC 32 A)) ((hF0 ▸ load_at 0 rfl h13 (HA3.out.kept hk) (by omega))) rfl
    refine ⟨fun t w1 hf hk hp => ?_, ?_⟩
    · have h14 : slot t 14 = .agg (bC 32 A) := hp 14 (by kernel_rfl)
      clear hf hp
      refine stepAt_plain rfl ?_
      refine stepOK_call #[.agg (bC 32 A)] rfl (by simp only [List.map_toArray, List.map_cons, List.map_nil, evS, h14]) (by go_simp) ((HX.out w1).mono fun e w' ⟨he, hk'⟩ => ⟨_, he, hk', rfl⟩)
    refine ⟨fun t w1 hf hk hp => ?_, ?_⟩
    · have h15 : slot t 15 = .string s := hp 15 (by kernel_rfl)
      clear hf hp
      refine stepAt_plain rfl ?_
      exact stepOK_pure (.int .i64 (s.size : Int)) (execLenSt w1 rfl rfl h15) rfl
    refine ⟨fun t w1 hf hk hp => ?_, ?_⟩
    · have h16 : slot t 16 = .int .i64 (s.size : Int) := hp 16 (by kernel_rfl)
      clear hf hp
      refine stepAt_plain rfl ?_
      have hq0 := hz'
      refine stepOK_pure (.bool true) ?_ rfl
      simp only [execOp, evS, h16]
      go_simp
    refine ⟨fun t w1 hf hk hp => ?_, ?_⟩
    · have h17 : slot t 17 = .bool true := hp 17 (by kernel_rfl)
      clear hf hp
      refine stepAt_plain rfl ?_
      exact stepOK_move _ (.inl rfl) h17
    refine ⟨fun t w1 hf hk hp => ?_, ?_⟩
    · have h3 : slot t 3 = .int .i64 0 := hf 3 (by kernel_rfl)
      have h18 : slot t 18 = .bool true := hp 18 (by kernel_rfl)
      clear hf hp
      refine stepAt_on 18 true (by kernel_rfl) h18 ?_
      exact stepOK_move _ (.inl rfl) h3
    refine ⟨fun t w1 hf hk hp => ?_, ?_⟩
    · have h19 : slot t 19 = .int .i64 0 := hp 19 (by kernel_rfl)
      have h18 : slot t 18 = .bool true := hp 18 (by kernel_rfl)
      clear hf hp
      refine stepAt_on 18 true (by kernel_rfl) h18 ?_
      refine stepOK_pure (.bool true) ?_ rfl
      simp only [execOp, evS, h19]
      go_simp
    refine ⟨fun t w1 hf hk hp => ?_, ?_⟩
    · have h18 : slot t 18 = .bool true := hp 18 (by kernel_rfl)
      have h20 : slot t 20 = .bool true := hp 20 (by kernel_rfl)
      clear hf hp
      refine stepAt_plain rfl ?_
      refine stepOK_pure (.bool true) ?_ rfl
      simp only [execOp, evS, h18, h20]
      go_simp
    refine ⟨fun t w1 hf hk hp => ?_, ?_⟩
    · have h21 : slot t 21 = .bool true := hp 21 (by kernel_rfl)
      clear hf hp
      refine stepAt_plain rfl ?_
      exact stepOK_move _ (.inl rfl) h21
    refine ⟨fun t w1 hf hk hp => ?_, ?_⟩
    · have h1 : slot t 1 = .slice (some q) 2 2 := hf 1 (by kernel_rfl)
      have h22 : slot t 22 = .bool true := hp 22 (by kernel_rfl)
      clear hf hp
      refine stepAt_on 22 true (by kernel_rfl) h22 ?_
      exact stepOK_move _ (.inl rfl) h1
    refine ⟨fun t w1 hf hk hp => ?_, ?_⟩
    · have h23 : slot t 23 = .slice (some q) 2 2 := hp 23 (by kernel_rfl)
      have h22 : slot t 22 = .bool true := hp 22 (by kernel_rfl)
      clear hf hp
      refine stepAt_on 22 true (by kernel_rfl) h22 ?_
      refine stepOK_call #[.slice (some q) 2 2] rfl (by simp only [List.map_toArray, List.map_cons, List.map_nil, evS, h23]) (by go_simp) ((HR.out _ w1 (SA.out _ (K2.out.trans hk)) (HT3.out.kept hk)).mono fun e w' ⟨he, hk'⟩ => ⟨_, he, hk', rfl⟩)
    refine ⟨fun t w1 hf hk hp => ?_, ?_⟩
    · have h1 : slot t 1 = .slice (some q) 2 2 := hf 1 (by kernel_rfl)
      have h22 : slot t 22 = .bool true := hp 22 (by kernel_rfl)
      clear hf hp
      refine stepAt_on 22 true (by kernel_rfl) h22 ?_
      exact stepOK_move _ (.inl rfl) h1
    refine ⟨fun t w1 hf hk hp => ?_, ?_⟩
    · have h25 : slot t 25 = .slice (some q) 2 2 := hp 25 (by kernel_rfl)
      have h22 : slot t 22 = .bool true := hp 22 (by kernel_rfl)
      clear hf hp
      refine stepAt_on 22 true (by kernel_rfl) h22 ?_
      exact stepOK_pure (.pointer (some (q.add (1 * 32)))) (execIndex0 q 2 2 1 (by omega) w1 rfl h25) rfl
    refine ⟨fun t w1 hf hk hp => ?_, ?_⟩
    · have h26 : slot t 26 = .pointer (some (q.add (1 * 32))) := hp 26 (by kernel_rfl)
      have h22 : slot t 22 = .bool true := hp 22 (by kernel_rfl)
      clear hf hp
      refine stepAt_on 22 true (by kernel_rfl) h22 ?_
      exact stepOK_pure (.agg (bC 32 B)) ((hF1 ▸ load_at 1 rfl h26 (HA3.out.kept hk) (by omega))) rfl
    refine ⟨fun t w1 hf hk hp => ?_, ?_⟩
    · have h2 : slot t 2 = .pointer (some ⟨g2, 0, none⟩) := hf 2 (by kernel_rfl)
      have h22 : slot t 22 = .bool true := hp 22 (by kernel_rfl)
      clear hf hp
      refine stepAt_on 22 true (by kernel_rfl) h22 ?_
      exact stepOK_pure (.agg #[.int .i64 I, .int .i64 N, .slice qq m cc]) (loadO rfl h2 (R2.out.kept hk) (hsz _)) rfl
    refine ⟨fun t w1 hf hk hp => ?_, ?_⟩
    · have h24 : slot t 24 = .agg (bC 32 r) := hp 24 (by kernel_rfl)
      have h27 : slot t 27 = .agg (bC 32 B) := hp 27 (by kernel_rfl)
      have h28 : slot t 28 = .agg #[.int .i64 I, .int .i64 N, .slice qq m cc] := hp 28 (by kernel_rfl)
      have h22 : slot t 22 = .bool true := hp 22 (by kernel_rfl)
      clear hf hp
      refine stepAt_on 22 true (by kernel_rfl) h22 ?_
      refine stepOK_call #[.agg (bC 32 r), .agg (bC 32 B), .agg #[.int .i64 I, .int .i64 N, .slice qq m cc]] rfl (by simp only [List.map_toArray, List.map_cons, List.map_nil, evS, h24, h27, h28]) (by go_simp) ((HC1.out _ w1 (HSl.kept _ _ _ _ _ hk HP.out) (HT3.out.kept hk)).mono fun e w' ⟨he, hk'⟩ => ⟨_, he, hk', rfl⟩)
    refine ⟨fun t w1 hf hk hp => ?_, ?_⟩
    · have h22 : slot t 22 = .bool true := hp 22 (by kernel_rfl)
      have h29 : slot t 29 = .bool true := hp 29 (by kernel_rfl)
      clear hf hp
      refine stepAt_plain rfl ?_
      refine stepOK_pure (.bool true) ?_ rfl
      simp only [execOp, evS, h22, h29]
      go_simp
    refine ⟨fun t w1 hf hk hp => ?_, ?_⟩
    · have h30 : slot t 30 = .bool true := hp 30 (by kernel_rfl)
      clear hf hp
      refine stepAt_plain rfl ?_
      exact stepOK_move _ (.inl rfl) h30
    refine ⟨fun t w1 hf hk hp => ?_, ?_⟩
    · have h1 : slot t 1 = .slice (some q) 2 2 := hf 1 (by kernel_rfl)
      have h31 : slot t 31 = .bool true := hp 31 (by kernel_rfl)
      clear hf hp
      refine stepAt_on 31 true (by kernel_rfl) h31 ?_
      exact stepOK_move _ (.inl rfl) h1
    refine ⟨fun t w1 hf hk hp => ?_, ?_⟩
    · have h32 : slot t 32 = .slice (some q) 2 2 := hp 32 (by kernel_rfl)
      have h31 : slot t 31 = .bool true := hp 31 (by kernel_rfl)
      clear hf hp
      refine stepAt_on 31 true (by kernel_rfl) h31 ?_
      refine stepOK_call #[.slice (some q) 2 2] rfl (by simp only [List.map_toArray, List.map_cons, List.map_nil, evS, h32]) (by go_simp) ((HR.out _ w1 (SA.out _ (K2.out.trans hk)) (HT3.out.kept hk)).mono fun e w' ⟨he, hk'⟩ => ⟨_, he, hk', rfl⟩)
    refine ⟨fun t w1 hf hk hp => ?_, ?_⟩
    · have h1 : slot t 1 = .slice (some q) 2 2 := hf 1 (by kernel_rfl)
      have h31 : slot t 31 = .bool true := hp 31 (by kernel_rfl)
      clear hf hp
      refine stepAt_on 31 true (by kernel_rfl) h31 ?_
      exact stepOK_move _ (.inl rfl) h1
    refine ⟨fun t w1 hf hk hp => ?_, ?_⟩
    · have h34 : slot t 34 = .slice (some q) 2 2 := hp 34 (by kernel_rfl)
      have h31 : slot t 31 = .bool true := hp 31 (by kernel_rfl)
      clear hf hp
      refine stepAt_on 31 true (by kernel_rfl) h31 ?_
      exact stepOK_pure (.pointer (some (q.add (0 * 32)))) (execIndex0 q 2 2 0 (by omega) w1 rfl h34) rfl
    refine ⟨fun t w1 hf hk hp => ?_, ?_⟩
    · have h35 : slot t 35 = .pointer (some (q.add (0 * 32))) := hp 35 (by kernel_rfl)
      have h31 : slot t 31 = .bool true := hp 31 (by kernel_rfl)
      clear hf hp
      refine stepAt_on 31 true (by kernel_rfl) h31 ?_
      exact stepOK_pure (.agg (bC 32 A)) ((hF0 ▸ load_at 0 rfl h35 (HA3.out.kept hk) (by omega))) rfl
    refine ⟨fun t w1 hf hk hp => ?_, ?_⟩
    · have h2 : slot t 2 = .pointer (some ⟨g2, 0, none⟩) := hf 2 (by kernel_rfl)
      have h31 : slot t 31 = .bool true := hp 31 (by kernel_rfl)
      clear hf hp
      refine stepAt_on 31 true (by kernel_rfl) h31 ?_
      exact stepOK_pure (.agg #[.int .i64 I, .int .i64 N, .slice qq m cc]) (loadO rfl h2 (R2.out.kept hk) (hsz _)) rfl
    refine ⟨fun t w1 hf hk hp => ?_, ?_⟩
    · have h33 : slot t 33 = .agg (bC 32 r) := hp 33 (by kernel_rfl)
      have h36 : slot t 36 = .agg (bC 32 A) := hp 36 (by kernel_rfl)
      have h37 : slot t 37 = .agg #[.int .i64 I, .int .i64 N, .slice qq m cc] := hp 37 (by kernel_rfl)
      have h31 : slot t 31 = .bool true := hp 31 (by kernel_rfl)
      clear hf hp
      refine stepAt_on 31 true (by kernel_rfl) h31 ?_
      refine stepOK_call #[.agg (bC 32 r), .agg (bC 32 A), .agg #[.int .i64 I, .int .i64 N, .slice qq m cc]] rfl (by simp only [List.map_toArray, List.map_cons, List.map_nil, evS, h33, h36, h37]) (by go_simp) ((HC0.out _ w1 (HSl.kept _ _ _ _ _ hk HP.out) (HT3.out.kept hk)).mono fun e w' ⟨he, hk'⟩ => ⟨_, he, hk', rfl⟩)
    refine ⟨fun t w1 hf hk hp => ?_, ?_⟩
    · have h38 : slot t 38 = .bool false := hp 38 (by kernel_rfl)
      have h31 : slot t 31 = .bool true := hp 31 (by kernel_rfl)
      clear hf hp
      refine stepAt_on 31 true (by kernel_rfl) h31 ?_
      refine stepOK_pure (.bool true) ?_ rfl
      simp only [execOp, evS, h38]
      go_simp
    refine ⟨fun t w1 hf hk hp => ?_, ?_⟩
    · have h31 : slot t 31 = .bool true := hp 31 (by kernel_rfl)
      have h39 : slot t 39 = .bool true := hp 39 (by kernel_rfl)
      clear hf hp
      refine stepAt_plain rfl ?_
      refine stepOK_pure (.bool true) ?_ rfl
      simp only [execOp, evS, h31, h39]
      go_simp
    refine ⟨fun t w1 hf hk hp => ?_, ?_⟩
    · have h40 : slot t 40 = .bool true := hp 40 (by kernel_rfl)
      clear hf hp
      refine stepAt_plain rfl ?_
      exact stepOK_move _ (.inr rfl) h40
    exact trivial
  · intro t w1 hsz hf hk hfacts
    have h0 : slot t 0 = .bool true := hfacts 29 _ rfl 0 rfl
    have h1 : slot t 1 = .slice (some q) 2 2 := hf 1 (by kernel_rfl)
    have h2 : slot t 2 = .pointer (some ⟨g2, 0, none⟩) := hf 2 (by kernel_rfl)
    have h3 : slot t 3 = .int .i64 0 := hf 3 (by kernel_rfl)
    have harr : t = #[slot t 0, slot t 1, slot t 2, slot t 3, slot t 4, slot t 5, slot t 6, slot t 7, slot t 8, slot t 9, slot t 10, slot t 11, slot t 12, slot t 13, slot t 14, slot t 15, slot t 16, slot t 17, slot t 18, slot t 19, slot t 20, slot t 21, slot t 22, slot t 23, slot t 24, slot t 25, slot t 26, slot t 27, slot t 28, slot t 29, slot t 30, slot t 31, slot t 32, slot t 33, slot t 34, slot t 35, slot t 36, slot t 37, slot t 38, slot t 39, slot t 40] := arr_eq t 41 hsz
    rw [harr, h0, h1, h2, h3]
    clear harr hfacts hf h0 h1 h2 h3
    generalize slot t 4 = x4; generalize slot t 5 = x5; generalize slot t 6 = x6; generalize slot t 7 = x7; generalize slot t 8 = x8; generalize slot t 9 = x9; generalize slot t 10 = x10; generalize slot t 11 = x11; generalize slot t 12 = x12; generalize slot t 13 = x13; generalize slot t 14 = x14; generalize slot t 15 = x15
    generalize slot t 16 = x16; generalize slot t 17 = x17; generalize slot t 18 = x18; generalize slot t 19 = x19; generalize slot t 20 = x20; generalize slot t 21 = x21; generalize slot t 22 = x22; generalize slot t 23 = x23; generalize slot t 24 = x24; generalize slot t 25 = x25; generalize slot t 26 = x26; generalize slot t 27 = x27
    generalize slot t 28 = x28; generalize slot t 29 = x29; generalize slot t 30 = x30; generalize slot t 31 = x31; generalize slot t 32 = x32; generalize slot t 33 = x33; generalize slot t 34 = x34; generalize slot t 35 = x35; generalize slot t 36 = x36; generalize slot t 37 = x37; generalize slot t 38 = x38; generalize slot t 39 = x39
    generalize slot t 40 = x40
    clear hsz t
    have KE := Lib.hid (K1.out.trans (K2.out.trans hk))
    clear hk
    go_wp2_with fail
    go_ret
    exact ⟨rfl, KE.out⟩
end Go.Proofs.YtfdjbomofmeolaaDoor
