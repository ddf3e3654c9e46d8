/-
  Contract of milepostlaw12.Clashes. Conditions: at most a thousand leaves of at most a million bytes.
-/
import Derived.Test.YtbjomgbekkgdlaaDoorTreeTexts
namespace Go.Proofs.YtbjomgbekkgdlaaDoor
set_option maxRecDepth 4000
open Go.RowKit

theorem SAt.load {w : World} {q : Addr} {n : Nat} {S : Nat → ByteArray} (h : SAt w (.some q) n S) (i : Nat) (hi : i < n) : (Instr.loadAt 9 (.pointer (.some (q.add i)))).run Tryd.prog w = .ok (.string (S i)) w := by
  have hc := h.cell i hi
  go_simp
theorem execIndexS {o : Oper} {t : Array Value} {x y : Operand} (q : Addr) (n c k : Nat) (hk : k < n) (w : World) (ho : o.op = .indexAddr 22 x y) (hx : evS t x = .slice (.some q) n c) (hy : evS t y = .int .i64 (k : Int)) :
    (execOp (evS t) o).run Tryd.prog w = .ok (.value (.pointer (.some (q.add k)))) w := by
  have h1 : ((k : Int) < (n : Int)) := by omega
  have hs := sizeStr12 w
  unfold execOp
  rw [ho]
  simp only [hx, hy]
  go_simp
theorem execNeS {o : Oper} {t : Array Value} {x y : Operand} (a b : ByteArray) (w : World) (ho : o.op = .binOp .neq 9 x y 9) (hx : evS t x = .string a) (hy : evS t y = .string b) :
    (execOp (evS t) o).run Tryd.prog w = .ok (.value (.bool (!(decide (a = b))))) w := by
  rw [← beq_strs]
  unfold execOp
  rw [ho]
  simp only [hx, hy]
  go_simp
theorem execEqSd {o : Oper} {t : Array Value} {x y : Operand} (a b : ByteArray) (w : World) (ho : o.op = .binOp .eql 9 x y 9) (hx : evS t x = .string a) (hy : evS t y = .string b) :
    (execOp (evS t) o).run Tryd.prog w = .ok (.value (.bool (decide (a = b)))) w := by
  rw [← beq_strs]
  exact execEqS a b w ho hx hy
theorem TxS.sat {base : Nat} {L : List ByteArray} {v : Value} {w : World} (h : TxS base L v w) (hL : 0 < L.length) :
    ∃ q cap, v = .slice (.some q) L.length cap ∧ L.length ≤ cap ∧ cap ≤ maxLen ∧ SAt w (.some q) L.length (fun i => L.getD i noB) := by
  obtain ⟨g, cap, cur, rfl, _, h1, h2, hr, hc⟩ := h.some hL
  refine ⟨⟨g, 0, none⟩, cap, rfl, h1, h2, fun i hi => ⟨_, rfl, hr.lt, ?_⟩⟩
  rw [Addr.add_mid, hr.cell, Nat.zero_add, hc i hi]
  simp [List.getD_eq_getElem?_getD, hi]
/-- Texts i and k of two lists are different and have one hash. -/
def clAt (X Y : Nat → ByteArray) (i k : Nat) : Prop := X i ≠ Y k ∧ shaL (X i) = shaL (Y k)
theorem clash_iff (X Y : List ByteArray) : clashL X Y ↔ ∃ i, i < X.length ∧ ∃ k, k < Y.length ∧ clAt (fun i => X.getD i noB) (fun k => Y.getD k noB) i k := by
  constructor
  · rintro ⟨x, hx, y, hy, h⟩
    obtain ⟨i, hi, rfl⟩ := List.getElem_of_mem hx
    obtain ⟨k, hk, rfl⟩ := List.getElem_of_mem hy
    refine ⟨i, hi, k, hk, ?_⟩
    simpa [clAt, List.getD_eq_getElem?_getD, hi, hk] using h
  · rintro ⟨i, hi, k, hk, h⟩
    refine ⟨X[i], List.getElem_mem hi, Y[k], List.getElem_mem hk, ?_⟩
    simpa [clAt, List.getD_eq_getElem?_getD, hi, hk] using h
set_option maxRecDepth 100000 in
set_option maxHeartbeats 2000000 in
theorem clashes_any (p p' : Option Addr) (n m c c' : Nat) (S R : Nat → ByteArray) (w : World) (hc : n ≤ c ∧ c ≤ maxLen) (hc' : m ≤ c' ∧ c' ≤ maxLen) (hS : SAt w p n S) (hR : SAt w p' m R)
    (hz : ∀ i, i < n → (S i).size ≤ 900000) (hz' : ∀ i, i < m → (R i).size ≤ 900000) (hn : n ≤ 1000) (hm : m ≤ 1000) :
    Calls Tryd.prog 15 #[.slice p n c, .slice p' m c'] w fun e w' => ∃ B : Bool, e = .returned (.bool B) ∧ (B = true ↔ clashL (allT S n) (allT R m)) ∧ Kept w w' := by
  have hzm : ∀ i, i < n → (S i).size ≤ 1000000 := fun i hi => Nat.le_trans (hz i hi) (by omega)
  have hzm' : ∀ i, i < m → (R i).size ≤ 1000000 := fun i hi => Nat.le_trans (hz' i hi) (by omega)
  have HX1 : Hid (∀ w1 : World, w.heap.size ≤ w1.heap.size → SAt w1 p n S → _) := Lib.hid fun w1 hb hS => TxS.mono w.heap.size hb (texts_any n p c S w1 hc.1 hc.2 hS hzm hn)
  have HX2 : Hid (∀ w1 : World, SAt w1 p' m R → _) := Lib.hid fun w1 hR => texts_any m p' c' R w1 hc'.1 hc'.2 hR hzm' hm
  have HL1 : Hid (∀ w, SAt w p n S → _) := Lib.hid fun w hS => refLeaves_at p n c S w hS hzm (by omega)
  have HL2 : Hid (∀ w, SAt w p' m R → _) := Lib.hid fun w hR => refLeaves_at p' m c' R w hR hzm' (by omega)
  have HT1 : Hid (∀ v w, HSl n (lf S) v w → _) := Lib.hid fun v w hv => (refTop_any n).at hv
  have HT2 : Hid (∀ v w, HSl m (lf R) v w → _) := Lib.hid fun v w hv => (refTop_any m).at hv
  have HR1 : Hid (∀ w, _) := Lib.hid fun w => refRoot_any n (by omega) (topN (lf S) n) (top_lf_length S n) w
  have HR2 : Hid (∀ w, _) := Lib.hid fun w => refRoot_any m (by omega) (topN (lf R) m) (top_lf_length R m) w
  have hX := allT_small 1000000 n (by omega) S (fun i hi => by have := hz i hi; omega)
  have hY := allT_small 1000000 m (by omega) R (fun i hi => by have := hz' i hi; omega)
  have l1 := txtsN_le S n
  have l2 := txtsN_le R m
  have e1 : allT S n = txtsN S n ++ [rootS n (topN (lf S) n)] := rfl
  have e2 : allT R m = txtsN R m ++ [rootS m (topN (lf R) m)] := rfl
  have HE1 := Lib.hid e1
  have HE2 := Lib.hid e2
  have HSX := Lib.hid hX
  have HSY := Lib.hid hY
  have HS := Lib.hid hS
  have HR := Lib.hid hR
  clear e1 e2 hS hR hz hz' hzm hzm' hX hY
  generalize allT S n = X at HE1 HSX ⊢
  generalize allT R m = Y at HE2 HSY ⊢
  generalize txtsN S n = L at HX1 l1 HE1
  generalize txtsN R m = M at HX2 l2 HE2
  generalize rootS n (topN (lf S) n) = r1 at HR1 HE1
  generalize rootS m (topN (lf R) m) = r2 at HR2 HE2
  generalize topN (lf S) n = A at HT1 HR1
  generalize topN (lf R) m = B at HT2 HR2
  have hw1 : IntKind.u64.wrap (n : Int) = (n : Int) := by simp only [IntKind.wrap, IntKind.signed, IntKind.bits]; simp; omega
  have hw2 : IntKind.u64.wrap (m : Int) = (m : Int) := by simp only [IntKind.wrap, IntKind.signed, IntKind.bits]; simp; omega
  go_enter Tryd.func15, Tryd.ntmps15
  go_wp2_with fail
  refine (HX1.out w (Nat.le_refl _) HS.out).mono ?_
  rintro e v1 ⟨a1, rfl, t1, k1⟩
  have T1 := Lib.hid t1
  have K1 := Lib.hid k1
  clear t1 k1 HX1
  go_wp2_with fail
  refine (HL1.out v1 (HS.out.kept K1.out)).mono ?_
  rintro e v2 ⟨a2, rfl, t2, k2⟩
  have Q2 := Lib.hid t2
  replace T1 := Lib.hid (TxS.kept _ _ _ _ _ k2 T1.out)
  have K2 := Lib.hid (K1.out.trans k2)
  clear t2 k2 K1 HL1
  go_wp2_with fail
  refine (HT1.out a2 v2 Q2.out).mono ?_
  rintro e v3 ⟨rfl, k3⟩
  replace T1 := Lib.hid (TxS.kept _ _ _ _ _ k3 T1.out)
  have K3 := Lib.hid (K2.out.trans k3)
  clear k3 K2 HT1 Q2
  go_wp2_with fail
  refine (HR1.out v3).mono ?_
  rintro e v4 ⟨rfl, k4⟩
  replace T1 := Lib.hid (TxS.kept _ _ _ _ _ k4 T1.out)
  have K4 := Lib.hid (K3.out.trans k4)
  clear k4 K3 HR1
  go_wp2_with (at_builtin; refine wpList_append_strs rfl _ _ rfl w 0 _ _ L [r1] rfl rfl (Lib.hid (TxS.kept _ _ _ _ _ ((Kept.refl v4).alloc _) T1.out)) (Lib.hid (TxS.one (Rowz.new _ _ _) (Nat.zero_le _))) (by simp) (by simp; omega) (Lib.hid (K4.out.alloc _)) ?_; rw [← HE1.out]; intro x5 v5 T5 K5)
  clear T1 K4
  refine (HX2.out v5 (HR.out.kept K5.out)).mono ?_
  rintro e v6 ⟨a6, rfl, t6, k6⟩
  have T6 := Lib.hid t6
  have K6 := Lib.hid k6
  clear t6 k6 HX2
  go_wp2_with fail
  refine (HL2.out v6 (HR.out.kept (K5.out.trans K6.out))).mono ?_
  rintro e v7 ⟨a7, rfl, t7, k7⟩
  have Q7 := Lib.hid t7
  replace T6 := Lib.hid (TxS.kept _ _ _ _ _ k7 T6.out)
  have K7 := Lib.hid (K6.out.trans k7)
  clear t7 k7 K6 HL2
  go_wp2_with fail
  refine (HT2.out a7 v7 Q7.out).mono ?_
  rintro e v8 ⟨rfl, k8⟩
  replace T6 := Lib.hid (TxS.kept _ _ _ _ _ k8 T6.out)
  have K8 := Lib.hid (K7.out.trans k8)
  clear k8 K7 HT2 Q7
  go_wp2_with fail
  refine (HR2.out v8).mono ?_
  rintro e v9 ⟨rfl, k9⟩
  replace T6 := Lib.hid (TxS.kept _ _ _ _ _ k9 T6.out)
  have K9 := Lib.hid (K8.out.trans k9)
  clear k9 K8 HR2
  have lX : Hid (X.length = L.length + 1) := Lib.hid (by rw [HE1.out]; simp)
  have lY : Hid (Y.length = M.length + 1) := Lib.hid (by rw [HE2.out]; simp)
  obtain ⟨q, cx, rfl, hqc, hqm, sX⟩ := T5.out.sat (by have := lX.out; omega)
  replace T5 := Lib.hid sX
  clear sX HS HR hqm
  go_wp2_with (at_builtin; refine wpList_append_strs rfl _ _ rfl v5 0 _ _ M [r2] rfl rfl (Lib.hid (TxS.kept _ _ _ _ _ ((Kept.refl v9).alloc _) T6.out)) (Lib.hid (TxS.one (Rowz.new _ _ _) (Nat.zero_le _))) (by simp) (by simp; omega) (Lib.hid (K9.out.alloc _)) ?_; rw [← HE2.out]; intro x10 v10 T10 K10; obtain ⟨q', cy, rfl, hqc', hqm', sY⟩ := T10.out.sat (by have := lY.out; omega); clear T10; have T10 := Lib.hid sY; clear sY)
  replace T5 := Lib.hid (T5.out.kept K10.out)
  have KW := Lib.hid (K5.out.trans K10.out)
  have HI := Lib.hid (clash_iff X Y)
  have HX : Hid (∀ i, i < X.length → ((fun i => X.getD i noB) i).size ≤ 1000000) := Lib.hid fun i hi => HSX.out _ (by simp only [List.getD_eq_getElem?_getD, List.getElem?_eq_getElem hi]; exact List.getElem_mem hi)
  have HY : Hid (∀ i, i < Y.length → ((fun i => Y.getD i noB) i).size ≤ 1000000) := Lib.hid fun i hi => HSY.out _ (by simp only [List.getD_eq_getElem?_getD, List.getElem?_eq_getElem hi]; exact List.getElem_mem hi)
  clear T6 K5 K9 K10 HE1 HE2 HSX HSY hw1 hw2
  have bX : X.length ≤ 3000 := by have := lX.out; omega
  have bY : Y.length ≤ 3000 := by have := lY.out; omega
  clear lX lY l1 l2
  generalize (fun i => X.getD i noB) = XF at T5 HI HX
  generalize (fun i => Y.getD i noB) = YF at T10 HI HY
  generalize X.length = NX at T5 HI HX hqc bX ⊢
  generalize Y.length = NY at T10 HI HY hqc' bY ⊢
  go_loopw [7] (fun i wr => ∃ I : Nat, I ≤ NX ∧ i = .int .i64 I ∧ Hid (∀ a, a < I → ∀ b, b < NY → ¬ clAt XF YF a b) ∧ Hid (Kept v10 wr)) (fun i _ => NX - (intOf i).toNat)
  case atStart => exact ⟨0, by omega, rfl, Lib.hid (fun a h => absurd h (Nat.not_lt_zero a)), Lib.hid (Kept.refl _)⟩
  case round =>
    obtain ⟨I, hI, rfl, HU, HK⟩ := hrel
    by_cases hlt : I < NX
    · have hd1 : decide ((I : Int) < (NX : Int)) = true := decide_eq_true (by omega)
      have hd1' : decide (I < NX) = true := decide_eq_true hlt
      obtain ⟨wo, hwo⟩ : ∃ wo, wo = wr := ⟨_, rfl⟩
      subst hwo
      go_wp2
      go_loopw [8] (fun k wr => ∃ K : Nat, K ≤ NY ∧ k = .int .i64 K ∧ Hid (∀ b, b < K → ¬ clAt XF YF I b) ∧ Hid (Kept v10 wr)) (fun k _ => NY - (intOf k).toNat)
      case atStart => exact ⟨0, by omega, rfl, Lib.hid (fun a h => absurd h (Nat.not_lt_zero a)), HK⟩
      case round =>
        clear HK
        obtain ⟨K, hK, rfl, HV, HK⟩ := hrel
        by_cases hlt2 : K < NY
        · have hd2 : decide ((K : Int) < (NY : Int)) = true := decide_eq_true (by omega)
          have hd2' : decide (K < NY) = true := decide_eq_true hlt2
          have hx := HX.out I hlt
          have hy := HY.out K hlt2
          obtain ⟨G, hG⟩ : ∃ G, G = !decide (XF I = YF K) := ⟨_, rfl⟩
          go_wp2_with fail
          refine wp_region_table [(43, .is (.slice (some q) NX cx)), (44, .is (.int .i64 (I : Int))), (45, .is (.pointer (some (q.add I)))), (46, .is (.string (XF I))), (47, .is (.slice (some q') NY cy)), (48, .is (.int .i64 (K : Int))), (49, .is (.pointer (some (q'.add K)))), (50, .is (.string (YF K))), (51, .is (.bool G)), (52, .is (.bool G)), (53, .is (bif G then (.slice (some q) NX cx) else undef)), (54, .is (bif G then (.int .i64 (I : Int)) else undef)), (55, .is (bif G then (.pointer (some (q.add I))) else undef)), (56, .is (bif G then (.string (XF I)) else undef)), (57, .is (bif G then (.agg (bC 32 (shaL (XF I)))) else undef)), (58, .is (bif G then (.slice (some q') NY cy) else undef)), (59, .is (bif G then (.int .i64 (K : Int)) else undef)), (60, .is (bif G then (.pointer (some (q'.add K))) else undef)), (61, .is (bif G then (.string (YF K)) else undef)), (62, .is (bif G then (.agg (bC 32 (shaL (YF K)))) else undef)), (63, .is (bif G then (.bool (decide (shaL (XF I) = shaL (YF K)))) else undef)), (64, .is (.bool (G && decide (shaL (XF I) = shaL (YF K)))))] (by kernel_rfl) (by kernel_rfl) ?_ ?_
          · refine ⟨fun t w1 hf hk hp => ?_, ?_⟩
            · have h5 : slot t 5 = .slice (some q) NX cx := hf 5 (by kernel_rfl)
              clear hf hp
              refine stepAt_plain rfl ?_
              exact stepOK_move _ (.inl rfl) h5
            refine ⟨fun t w1 hf hk hp => ?_, ?_⟩
            · have h7 : slot t 7 = .int .i64 (I : Int) := hf 7 (by kernel_rfl)
              clear hf hp
              refine stepAt_plain rfl ?_
              exact stepOK_move _ (.inl rfl) h7
            refine ⟨fun t w1 hf hk hp => ?_, ?_⟩
            · have h43 : slot t 43 = .slice (some q) NX cx := hp 43 (by kernel_rfl)
              have h44 : slot t 44 = .int .i64 (I : Int) := hp 44 (by kernel_rfl)
              clear hf hp
              refine stepAt_plain rfl ?_
              exact stepOK_pure (.pointer (some (q.add I))) (execIndexS q NX cx I hlt w1 rfl h43 h44) rfl
            refine ⟨fun t w1 hf hk hp => ?_, ?_⟩
            · have h45 : slot t 45 = .pointer (some (q.add I)) := hp 45 (by kernel_rfl)
              clear hf hp
              refine stepAt_plain rfl ?_
              have hq0 := (T5.out.kept (HK.out.trans hk)).load I hlt
              exact stepOK_sem (.string (XF I)) (by simp only [execOp, evS, h45]) hq0 rfl
            refine ⟨fun t w1 hf hk hp => ?_, ?_⟩
            · have h6 : slot t 6 = .slice (some q') NY cy := hf 6 (by kernel_rfl)
              clear hf hp
              refine stepAt_plain rfl ?_
              exact stepOK_move _ (.inl rfl) h6
            refine ⟨fun t w1 hf hk hp => ?_, ?_⟩
            · have h8 : slot t 8 = .int .i64 (K : Int) := hf 8 (by kernel_rfl)
              clear hf hp
              refine stepAt_plain rfl ?_
              exact stepOK_move _ (.inl rfl) h8
            refine ⟨fun t w1 hf hk hp => ?_, ?_⟩
            · have h47 : slot t 47 = .slice (some q') NY cy := hp 47 (by kernel_rfl)
              have h48 : slot t 48 = .int .i64 (K : Int) := hp 48 (by kernel_rfl)
              clear hf hp
              refine stepAt_plain rfl ?_
              exact stepOK_pure (.pointer (some (q'.add K))) (execIndexS q' NY cy K hlt2 w1 rfl h47 h48) rfl
            refine ⟨fun t w1 hf hk hp => ?_, ?_⟩
            · have h49 : slot t 49 = .pointer (some (q'.add K)) := hp 49 (by kernel_rfl)
              clear hf hp
              refine stepAt_plain rfl ?_
              have hq0 := (T10.out.kept (HK.out.trans hk)).load K hlt2
              exact stepOK_sem (.string (YF K)) (by simp only [execOp, evS, h49]) hq0 rfl
            refine ⟨fun t w1 hf hk hp => ?_, ?_⟩
            · have h46 : slot t 46 = .string (XF I) := hp 46 (by kernel_rfl)
              have h50 : slot t 50 = .string (YF K) := hp 50 (by kernel_rfl)
              clear hf hp
              refine stepAt_plain rfl ?_
              exact stepOK_pure (.bool G) (by rw [hG]; exact execNeS (XF I) (YF K) w1 rfl h46 h50) rfl
            refine ⟨fun t w1 hf hk hp => ?_, ?_⟩
            · have h51 : slot t 51 = .bool G := hp 51 (by kernel_rfl)
              clear hf hp
              refine stepAt_plain rfl ?_
              exact stepOK_move _ (.inl rfl) h51
            refine ⟨fun t w1 hf hk hp => ?_, ?_⟩
            · have h5 : slot t 5 = .slice (some q) NX cx := hf 5 (by kernel_rfl)
              have h52 : slot t 52 = .bool G := hp 52 (by kernel_rfl)
              clear hf hp
              refine stepAt_sym 52 G (by kernel_rfl) h52 (fun hB => ?_) (fun hB => by show undef = bif G then _ else undef; rw [hB]; rfl)
              refine stepOK_move _ (.inl rfl) ?_
              show slot t 5 = bif G then _ else undef
              rw [hB, cond_true]
              exact h5
            refine ⟨fun t w1 hf hk hp => ?_, ?_⟩
            · have h7 : slot t 7 = .int .i64 (I : Int) := hf 7 (by kernel_rfl)
              have h52 : slot t 52 = .bool G := hp 52 (by kernel_rfl)
              clear hf hp
              refine stepAt_sym 52 G (by kernel_rfl) h52 (fun hB => ?_) (fun hB => by show undef = bif G then _ else undef; rw [hB]; rfl)
              refine stepOK_move _ (.inl rfl) ?_
              show slot t 7 = bif G then _ else undef
              rw [hB, cond_true]
              exact h7
            refine ⟨fun t w1 hf hk hp => ?_, ?_⟩
            · have h53 : slot t 53 = bif G then (.slice (some q) NX cx) else undef := hp 53 (by kernel_rfl)
              have h54 : slot t 54 = bif G then (.int .i64 (I : Int)) else undef := hp 54 (by kernel_rfl)
              have h52 : slot t 52 = .bool G := hp 52 (by kernel_rfl)
              clear hf hp
              refine stepAt_sym 52 G (by kernel_rfl) h52 (fun hB => ?_) (fun hB => by show undef = bif G then _ else undef; rw [hB]; rfl)
              rw [hB, cond_true] at h53
              rw [hB, cond_true] at h54
              exact stepOK_pure (.pointer (some (q.add I))) (execIndexS q NX cx I hlt w1 rfl h53 h54) (by show _ = bif G then _ else undef; rw [hB]; rfl)
            refine ⟨fun t w1 hf hk hp => ?_, ?_⟩
            · have h55 : slot t 55 = bif G then (.pointer (some (q.add I))) else undef := hp 55 (by kernel_rfl)
              have h52 : slot t 52 = .bool G := hp 52 (by kernel_rfl)
              clear hf hp
              refine stepAt_sym 52 G (by kernel_rfl) h52 (fun hB => ?_) (fun hB => by show undef = bif G then _ else undef; rw [hB]; rfl)
              rw [hB, cond_true] at h55
              have hq0 := (T5.out.kept (HK.out.trans hk)).load I hlt
              exact stepOK_sem (.string (XF I)) (by simp only [execOp, evS, h55]) hq0 (by show _ = bif G then _ else undef; rw [hB]; rfl)
            refine ⟨fun t w1 hf hk hp => ?_, ?_⟩
            · have h56 : slot t 56 = bif G then (.string (XF I)) else undef := hp 56 (by kernel_rfl)
              have h52 : slot t 52 = .bool G := hp 52 (by kernel_rfl)
              clear hf hp
              refine stepAt_sym 52 G (by kernel_rfl) h52 (fun hB => ?_) (fun hB => by show undef = bif G then _ else undef; rw [hB]; rfl)
              rw [hB, cond_true] at h56
              refine stepOK_call #[.string (XF I)] rfl (by simp only [List.map_toArray, List.map_cons, List.map_nil, evS, h56]) (by go_simp) ((refSum_any (XF I) w1 (by omega)).mono fun e w' ⟨he, hk'⟩ => ⟨_, he, Grown.kept hk', (by show _ = bif G then _ else undef; rw [hB]; rfl)⟩)
            refine ⟨fun t w1 hf hk hp => ?_, ?_⟩
            · have h6 : slot t 6 = .slice (some q') NY cy := hf 6 (by kernel_rfl)
              have h52 : slot t 52 = .bool G := hp 52 (by kernel_rfl)
              clear hf hp
              refine stepAt_sym 52 G (by kernel_rfl) h52 (fun hB => ?_) (fun hB => by show undef = bif G then _ else undef; rw [hB]; rfl)
              refine stepOK_move _ (.inl rfl) ?_
              show slot t 6 = bif G then _ else undef
              rw [hB, cond_true]
              exact h6
            refine ⟨fun t w1 hf hk hp => ?_, ?_⟩
            · have h8 : slot t 8 = .int .i64 (K : Int) := hf 8 (by kernel_rfl)
              have h52 : slot t 52 = .bool G := hp 52 (by kernel_rfl)
              clear hf hp
              refine stepAt_sym 52 G (by kernel_rfl) h52 (fun hB => ?_) (fun hB => by show undef = bif G then _ else undef; rw [hB]; rfl)
              refine stepOK_move _ (.inl rfl) ?_
              show slot t 8 = bif G then _ else undef
              rw [hB, cond_true]
              exact h8
            refine ⟨fun t w1 hf hk hp => ?_, ?_⟩
            · have h58 : slot t 58 = bif G then (.slice (some q') NY cy) else undef := hp 58 (by kernel_rfl)
              have h59 : slot t 59 = bif G then (.int .i64 (K : Int)) else undef := hp 59 (by kernel_rfl)
              have h52 : slot t 52 = .bool G := hp 52 (by kernel_rfl)
              clear hf hp
              refine stepAt_sym 52 G (by kernel_rfl) h52 (fun hB => ?_) (fun hB => by show undef = bif G then _ else undef; rw [hB]; rfl)
              rw [hB, cond_true] at h58
              rw [hB, cond_true] at h59
              exact stepOK_pure (.pointer (some (q'.add K))) (execIndexS q' NY cy K hlt2 w1 rfl h58 h59) (by show _ = bif G then _ else undef; rw [hB]; rfl)
            refine ⟨fun t w1 hf hk hp => ?_, ?_⟩
            · have h60 : slot t 60 = bif G then (.pointer (some (q'.add K))) else undef := hp 60 (by kernel_rfl)
              have h52 : slot t 52 = .bool G := hp 52 (by kernel_rfl)
              clear hf hp
              refine stepAt_sym 52 G (by kernel_rfl) h52 (fun hB => ?_) (fun hB => by show undef = bif G then _ else undef; rw [hB]; rfl)
              rw [hB, cond_true] at h60
              have hq0 := (T10.out.kept (HK.out.trans hk)).load K hlt2
              exact stepOK_sem (.string (YF K)) (by simp only [execOp, evS, h60]) hq0 (by show _ = bif G then _ else undef; rw [hB]; rfl)
            refine ⟨fun t w1 hf hk hp => ?_, ?_⟩
            · have h61 : slot t 61 = bif G then (.string (YF K)) else undef := hp 61 (by kernel_rfl)
              have h52 : slot t 52 = .bool G := hp 52 (by kernel_rfl)
              clear hf hp
              refine stepAt_sym 52 G (by kernel_rfl) h52 (fun hB => ?_) (fun hB => by show undef = bif G then _ else undef; rw [hB]; rfl)
              rw [hB, cond_true] at h61
              refine stepOK_call #[.string (YF K)] rfl (by simp only [List.map_toArray, List.map_cons, List.map_nil, evS, h61]) (by go_simp) ((refSum_any (YF K) w1 (by omega)).mono fun e w' ⟨he, hk'⟩ => ⟨_, he, Grown.kept hk', (by show _ = bif G then _ else undef; rw [hB]; rfl)⟩)
            refine ⟨fun t w1 hf hk hp => ?_, ?_⟩
            · have h57 : slot t 57 = bif G then (.agg (bC 32 (shaL (XF I)))) else undef := hp 57 (by kernel_rfl)
              have h62 : slot t 62 = bif G then (.agg (bC 32 (shaL (YF K)))) else undef := hp 62 (by kernel_rfl)
              have h52 : slot t 52 = .bool G := hp 52 (by kernel_rfl)
              clear hf hp
              refine stepAt_sym 52 G (by kernel_rfl) h52 (fun hB => ?_) (fun hB => by show undef = bif G then _ else undef; rw [hB]; rfl)
              rw [hB, cond_true] at h57
              rw [hB, cond_true] at h62
              exact stepOK_pure (.bool (decide (shaL (XF I) = shaL (YF K)))) (execEqHs (shaL (XF I)) (shaL (YF K)) (shaL_length _) (shaL_length _) w1 rfl h57 h62) (by show _ = bif G then _ else undef; rw [hB]; rfl)
            refine ⟨fun t w1 hf hk hp => ?_, ?_⟩
            · have h52 : slot t 52 = .bool G := hp 52 (by kernel_rfl)
              have h63 : slot t 63 = bif G then (.bool (decide (shaL (XF I) = shaL (YF K)))) else undef := hp 63 (by kernel_rfl)
              clear hf hp
              refine stepAt_plain rfl ?_
              refine stepOK_pick (G) rfl h52 ?_
              simp only [evS, h63]
              show _ = (.bool (G && decide (shaL (XF I) = shaL (YF K))) : Value)
              cases G <;> rfl
            exact trivial
          · intro t w1 hsz hf hk hfacts
            have h64 : slot t 64 = .bool (G && decide (shaL (XF I) = shaL (YF K))) := hfacts 21 _ rfl 64 rfl
            have h5 : slot t 5 = .slice (some q) NX cx := hf 5 (by kernel_rfl)
            have h6 : slot t 6 = .slice (some q') NY cy := hf 6 (by kernel_rfl)
            have h7 : slot t 7 = .int .i64 (I : Int) := hf 7 (by kernel_rfl)
            have h8 : slot t 8 = .int .i64 (K : Int) := hf 8 (by kernel_rfl)
            have h0 := hf 0 (by kernel_rfl)
            conv at h0 => rhs; whnf
            try change slot t 0 = undef at h0
            have h1 := hf 1 (by kernel_rfl)
            conv at h1 => rhs; whnf
            try change slot t 1 = undef at h1
            have h2 := hf 2 (by kernel_rfl)
            conv at h2 => rhs; whnf
            try change slot t 2 = undef at h2
            have h3 := hf 3 (by kernel_rfl)
            conv at h3 => rhs; whnf
            try change slot t 3 = undef at h3
            have h4 := hf 4 (by kernel_rfl)
            conv at h4 => rhs; whnf
            try change slot t 4 = undef at h4
            have h9 := hf 9 (by kernel_rfl)
            conv at h9 => rhs; whnf
            try change slot t 9 = undef at h9
            have h10 := hf 10 (by kernel_rfl)
            conv at h10 => rhs; whnf
            try change slot t 10 = undef at h10
            have h11 := hf 11 (by kernel_rfl)
            conv at h11 => rhs; whnf
            try change slot t 11 = undef at h11
            have h12 := hf 12 (by kernel_rfl)
            conv at h12 => rhs; whnf
            try change slot t 12 = undef at h12
            have h13 := hf 13 (by kernel_rfl)
            conv at h13 => rhs; whnf
            try change slot t 13 = undef at h13
            have h14 := hf 14 (by kernel_rfl)
            conv at h14 => rhs; whnf
            try change slot t 14 = undef at h14
            have h15 := hf 15 (by kernel_rfl)
            conv at h15 => rhs; whnf
            try change slot t 15 = undef at h15
            have h16 := hf 16 (by kernel_rfl)
            conv at h16 => rhs; whnf
            try change slot t 16 = undef at h16
            have h17 := hf 17 (by kernel_rfl)
            conv at h17 => rhs; whnf
            try change slot t 17 = undef at h17
            have h18 := hf 18 (by kernel_rfl)
            conv at h18 => rhs; whnf
            try change slot t 18 = undef at h18
            have h19 := hf 19 (by kernel_rfl)
            conv at h19 => rhs; whnf
            try change slot t 19 = undef at h19
            have h20 := hf 20 (by kernel_rfl)
            conv at h20 => rhs; whnf
            try change slot t 20 = undef at h20
            have h21 := hf 21 (by kernel_rfl)
            conv at h21 => rhs; whnf
            try change slot t 21 = undef at h21
            have h22 := hf 22 (by kernel_rfl)
            conv at h22 => rhs; whnf
            try change slot t 22 = undef at h22
            have h23 := hf 23 (by kernel_rfl)
            conv at h23 => rhs; whnf
            try change slot t 23 = undef at h23
            have h24 := hf 24 (by kernel_rfl)
            conv at h24 => rhs; whnf
            try change slot t 24 = undef at h24
            have h25 := hf 25 (by kernel_rfl)
            conv at h25 => rhs; whnf
            try change slot t 25 = undef at h25
            have h26 := hf 26 (by kernel_rfl)
            conv at h26 => rhs; whnf
            try change slot t 26 = undef at h26
            have h27 := hf 27 (by kernel_rfl)
            conv at h27 => rhs; whnf
            try change slot t 27 = undef at h27
            have h28 := hf 28 (by kernel_rfl)
            conv at h28 => rhs; whnf
            try change slot t 28 = undef at h28
            have h29 := hf 29 (by kernel_rfl)
            conv at h29 => rhs; whnf
            try change slot t 29 = undef at h29
            have h30 := hf 30 (by kernel_rfl)
            conv at h30 => rhs; whnf
            try change slot t 30 = undef at h30
            have h31 := hf 31 (by kernel_rfl)
            conv at h31 => rhs; whnf
            try change slot t 31 = undef at h31
            have h32 := hf 32 (by kernel_rfl)
            conv at h32 => rhs; whnf
            try change slot t 32 = undef at h32
            have h33 := hf 33 (by kernel_rfl)
            conv at h33 => rhs; whnf
            try change slot t 33 = undef at h33
            have h34 := hf 34 (by kernel_rfl)
            conv at h34 => rhs; whnf
            try change slot t 34 = undef at h34
            have h35 := hf 35 (by kernel_rfl)
            conv at h35 => rhs; whnf
            try change slot t 35 = undef at h35
            have h36 := hf 36 (by kernel_rfl)
            conv at h36 => rhs; whnf
            try change slot t 36 = undef at h36
            have h37 := hf 37 (by kernel_rfl)
            conv at h37 => rhs; whnf
            try change slot t 37 = undef at h37
            have h38 := hf 38 (by kernel_rfl)
            conv at h38 => rhs; whnf
            try change slot t 38 = undef at h38
            have h39 := hf 39 (by kernel_rfl)
            conv at h39 => rhs; whnf
            try change slot t 39 = undef at h39
            have h40 := hf 40 (by kernel_rfl)
            conv at h40 => rhs; whnf
            try change slot t 40 = undef at h40
            have h41 := hf 41 (by kernel_rfl)
            conv at h41 => rhs; whnf
            try change slot t 41 = undef at h41
            have h42 := hf 42 (by kernel_rfl)
            conv at h42 => rhs; whnf
            try change slot t 42 = undef at h42
            have harr : t = #[slot t 0, slot t 1, slot t 2, slot t 3, slot t 4, slot t 5, slot t 6, slot t 7, slot t 8, slot t 9, slot t 10, slot t 11, slot t 12, slot t 13, slot t 14, slot t 15, slot t 16, slot t 17, slot t 18, slot t 19, slot t 20, slot t 21, slot t 22, slot t 23, slot t 24, slot t 25, slot t 26, slot t 27, slot t 28, slot t 29, slot t 30, slot t 31, slot t 32, slot t 33, slot t 34, slot t 35, slot t 36, slot t 37, slot t 38, slot t 39, slot t 40, slot t 41, slot t 42, slot t 43, slot t 44, slot t 45, slot t 46, slot t 47, slot t 48, slot t 49, slot t 50, slot t 51, slot t 52, slot t 53, slot t 54, slot t 55, slot t 56, slot t 57, slot t 58, slot t 59, slot t 60, slot t 61, slot t 62, slot t 63, slot t 64] := arr_eq t 65 hsz
            rw [harr, h64, h5, h6, h7, h8, h0, h1, h2, h3, h4, h9, h10, h11, h12, h13, h14, h15, h16, h17, h18, h19, h20, h21, h22, h23, h24, h25, h26, h27, h28, h29, h30, h31, h32, h33, h34, h35, h36, h37, h38, h39, h40, h41, h42]
            clear harr hfacts hf h64 h5 h6 h7 h8 h0 h1 h2 h3 h4 h9 h10 h11 h12 h13 h14 h15 h16 h17 h18 h19 h20 h21 h22 h23 h24 h25 h26 h27 h28 h29 h30 h31 h32 h33 h34 h35 h36 h37 h38 h39 h40 h41 h42
            generalize slot t 43 = x43; generalize slot t 44 = x44; generalize slot t 45 = x45; generalize slot t 46 = x46; generalize slot t 47 = x47; generalize slot t 48 = x48; generalize slot t 49 = x49; generalize slot t 50 = x50; generalize slot t 51 = x51; generalize slot t 52 = x52; generalize slot t 53 = x53; generalize slot t 54 = x54
            generalize slot t 55 = x55; generalize slot t 56 = x56; generalize slot t 57 = x57; generalize slot t 58 = x58; generalize slot t 59 = x59; generalize slot t 60 = x60; generalize slot t 61 = x61; generalize slot t 62 = x62; generalize slot t 63 = x63
            clear hsz t
            have HK1 := Lib.hid (HK.out.trans hk)
            have HC : Hid ((G && decide (shaL (XF I) = shaL (YF K))) = true ↔ clAt XF YF I K) := Lib.hid (by rw [hG]; simp [clAt])
            clear hk HK hG hx hy
            generalize (G && decide (shaL (XF I) = shaL (YF K))) = D at HC ⊢
            cases D with
            | true =>
              have HD := Lib.hid (HC.out.1 rfl)
              have HW := Lib.hid (HI.out.2 ⟨I, hlt, K, hlt2, HD.out⟩)
              go_wp2
              go_ret
              exact .inr ⟨rfl, HW.out, KW.out.trans HK1.out⟩
            | false =>
              have HV1 : Hid (∀ b, b < K + 1 → ¬ clAt XF YF I b) := Lib.hid (fun b hb => by
                rcases Nat.lt_or_eq_of_le (show b ≤ K by omega) with h | h
                · exact HV.out b h
                · subst h; intro hcl; have := HC.out.2 hcl; cases this)
              clear HV HC
              go_wp2
              go_roundw
              case rel => exact ⟨K + 1, by omega, by go_num, HV1, HK1⟩
              case measure => simp [intOf]; omega
        · have hd2 : decide ((K : Int) < (NY : Int)) = false := decide_eq_false (by omega)
          have hd2' : decide (K < NY) = false := decide_eq_false hlt2
          have HU1 : Hid (∀ a, a < I + 1 → ∀ b, b < NY → ¬ clAt XF YF a b) := Lib.hid (fun a ha b hb => by
            rcases Nat.lt_or_eq_of_le (show a ≤ I by omega) with h | h
            · exact HU.out a h b hb
            · subst h; exact HV.out b (by omega))
          clear HU HV
          go_wp2
          go_roundw
          case rel => exact ⟨I + 1, by omega, by go_num, HU1, HK⟩
          case measure => simp [intOf]; omega
    · have hd1 : decide ((I : Int) < (NX : Int)) = false := decide_eq_false (by omega)
      have hd1' : decide (I < NX) = false := decide_eq_false hlt
      obtain rfl : I = NX := by omega
      go_wp2
      go_ret
      refine ⟨_, rfl, ⟨fun h => by simp at h, fun h => ?_⟩, KW.out.trans HK.out⟩
      obtain ⟨a, ha, b, hb, hcl⟩ := HI.out.1 h
      exact absurd hcl (HU.out a ha b hb)
end Go.Proofs.YtbjomgbekkgdlaaDoor
