/-
  Contracts of multi.reader's hash and leaf, multi.part's has. Conditions: something is left to read; a leaf of at most a million bytes; sha's table of round constants stands.
-/
import Derived.Test.YtggpjhldmaflaaaDoorMultiRead
import Derived.Test.YtggpjhldmaflaaaDoorMultiWalkN
namespace Go.Proofs.YtggpjhldmaflaaaDoor
set_option maxRecDepth 4000
open Go.RowKit

theorem partHas_any (f n : Nat) (p : Option Addr) (K c : Nat) (x : Int) (w : World) (hx : x ≤ 1000000000) (hx0 : -1 ≤ x) :
    Calls Tryd.prog 55 #[.agg (paC f n p K c), .int .i64 x] w fun e w' => e = .returned (.bool (decide ((f : Int) ≤ x ∧ x < ((f + n : Nat) : Int)))) ∧ Kept w w' := by
  have K1 := Lib.hid ((Kept.refl w).alloc (.cells (paC f n p K c) 62))
  by_cases h1 : (f : Int) ≤ x
  · have hd1 : decide (x ≥ (f : Int)) = true := decide_eq_true h1
    have hd1' : decide ((f : Int) ≤ x) = true := decide_eq_true h1
    have hsub : IntKind.i64.wrap (x - (f : Int)) = x - (f : Int) := by simp only [IntKind.wrap, IntKind.signed, IntKind.bits]; simp; omega
    by_cases h2 : x < ((f + n : Nat) : Int)
    · rw [decide_eq_true (⟨h1, h2⟩ : _ ∧ _)]
      have hd2 : decide (x - (f : Int) < (n : Int)) = true := decide_eq_true (by omega)
      clear h1 h2
      unfold paC at K1 ⊢
      go_enter Tryd.func55, Tryd.ntmps55
      go_wp2
      go_ret
      exact ⟨rfl, K1.out⟩
    · rw [decide_eq_false (fun h => h2 h.2)]
      have hd2 : decide (x - (f : Int) < (n : Int)) = false := decide_eq_false (by omega)
      clear h1 h2
      unfold paC at K1 ⊢
      go_enter Tryd.func55, Tryd.ntmps55
      go_wp2
      go_ret
      exact ⟨rfl, K1.out⟩
  · have hd1 : decide (x ≥ (f : Int)) = false := decide_eq_false h1
    have hd1' : decide ((f : Int) ≤ x) = false := decide_eq_false h1
    rw [decide_eq_false (fun h => h1 h.1)]
    clear h1
    unfold paC at K1 ⊢
    go_enter Tryd.func55, Tryd.ntmps55
    go_wp2
    go_ret
    exact ⟨rfl, K1.out⟩
set_option maxRecDepth 100000 in
set_option maxHeartbeats 2000000 in
theorem readerHash_any (W w : World) (g k : Nat) (S : Nat → ByteArray) (m : Nat) (F : Nat → List UInt8) (pl : Int) (L : List (List UInt8)) (h : RdAt W w g k S m F pl L) (hm : 0 < m) :
    Calls Tryd.prog 53 #[.pointer (some ⟨g, 0, none⟩)] w fun e w' => e = .returned (.agg (bC 32 (F 0))) ∧ RdAt W w' g k S (m - 1) (fun i => F (1 + i)) pl L ∧ Turn g w w' := by
  obtain ⟨⟨p1, c1, q0, d, v, hr, hc, hS, hF, hp, hv⟩, hb, hk⟩ := h
  have hF0 := hF
  obtain ⟨q1, d', e1, hmd, hd, hH⟩ := hF0
  obtain ⟨q, rfl, _⟩ := hH.some hm
  obtain ⟨rfl, rfl⟩ : q0 = some q ∧ d = d' := by
    injection e1 with e1 e2 e3
    exact ⟨e1, e3⟩
  clear e1
  obtain ⟨q', hcut, hF'⟩ := run_cutH_tail q m d hm hmd hd
  have HC := Lib.hid hcut
  have HL : Hid (∀ w', Kept W w' → _) := Lib.hid fun w' hk => (hH.kept hk).load 0 hm
  have R0 := Lib.hid hr
  have V0 := Lib.hid hv
  have P0 := Lib.hid hp
  have KW := Lib.hid hk
  have RES : Hid (∀ w1, Rowz w1 g (rdC p1 k c1 (some q) m d pl v) 71 → Kept w w1 → RdAt W (w1.setCell ⟨g, 1, none⟩ (.slice (some q') (m - 1) (d - 1))) g k S (m - 1) (fun i => F (1 + i)) pl L ∧ Turn g w (w1.setCell ⟨g, 1, none⟩ (.slice (some q') (m - 1) (d - 1))) ∧ FreeOf g w.heap.size (w1.setCell ⟨g, 1, none⟩ (.slice (some q') (m - 1) (d - 1)))) := Lib.hid fun w1 hr1 hk1 => by
    have hr2 := hr1.set 1 (.slice (some q') (m - 1) (d - 1))
    refine ⟨⟨⟨p1, c1, some q', d - 1, v, hr2, hc, hS, hF' F W hF, PaS.setCellNe (PaS.kept _ _ _ _ _ hk1 hp) _ hv _, hv⟩, hb, (hk.trans hk1).setCell hb _⟩, ?_, hr2.lt, by have := hr.lt; omega, fun e => ?_⟩
    · exact (Turn.ofKept hk1).trans (Turn.field hr1 (grown_refl _ _) (fun i hi => .inl hi) 1 _ hr2)
    · rw [upOf_row hr2] at e
      have := (World.ownsRow.lt hp _ e).2
      omega
  have Z0 := Lib.hid hr.lt
  clear hr hc hS hF hp hv hb hk hH hF' hcut
  go_enter Tryd.func53, Tryd.ntmps53
  go_wp2_with (refine park_at 7 rfl ?_)
  have K1 := Lib.hid ((Kept.refl w).alloc (.cells (bC 32 []) 38))
  have T1 := Lib.hid (Rowz.new w (bC 32 []) 38)
  change Parked (wpList _ _ _ _ _ (w.alloc (.cells (bC 32 []) 38)))
  generalize w.alloc (.cells (bC 32 []) 38) = w1 at K1 T1 ⊢
  have R1 := Lib.hid (R0.out.kept K1.out)
  have x1 : w1.cell? ⟨g, 1, none⟩ = some (.slice (some q) m d) := R1.out.cell 1
  refine unpark ?_
  go_wp2_with (refine park_at 8 rfl ?_)
  clear x1
  refine unpark ?_
  refine wpList_exec 8 rfl (by rfl) (.pointer (some (q.add (0 * 32)))) _ (execIndexH q m d 0 hm w1 rfl rfl rfl) ?_
  refine wpList_exec 9 rfl (by rfl) (.agg (bC 32 (F 0))) _ (execLoadAt rfl rfl (HL.out w1 (KW.out.trans K1.out))) ?_
  go_wp2_with (first
    | (refine wpList_store_made rfl 38 _ _ rfl _ _ (bC 32 (F 0)) rfl rfl 38 _ rfl (info_hash _) (by simp [bC_size]) (bC_one _ _) ?_; intro w2 T2 k2; have R2 := Lib.hid (R1.out.kept k2.out); have x2 : w2.cell? ⟨g, 1, none⟩ = some (.slice (some q) m d) := R2.out.cell 1)
    | (refine park_at 15 rfl ?_))
  obtain ⟨g3, hg3⟩ : ∃ g3, g3 = w1.heap.size := ⟨_, rfl⟩
  have G3 : Hid (w.heap.size < g3) := Lib.hid (by rw [hg3]; exact T1.out.lt)
  rw [← hg3] at T2 ⊢
  clear hg3 x2
  have U2 := Lib.hid (T1.out.kept k2.out)
  have K2 := Lib.hid (K1.out.trans k2.out)
  clear k2 T1 K1 R1
  refine unpark ?_
  refine wpList_exec 15 rfl (by rfl) (.slice (some q') (m - 1) (d - 1)) _ (execSliceP _ _ _ _ _ rfl rfl rfl rfl rfl (HC.out w2)) ?_
  have x1 := R2.out.cell 1
  have f1 := R2.out.free 1
  obtain ⟨hRD, hTN, hFR⟩ := RES.out w2 R2.out K2.out
  have T3 : Hid (Rowz (w2.setCell ⟨g, 1, none⟩ (.slice (some q') (m - 1) (d - 1))) g3 (bC 32 (F 0)) 38) := Lib.hid (T2.out.other _ _ (by have := G3.out; have := Z0.out; show g3 ≠ g; omega))
  have U3 : Hid (Rowz (w2.setCell ⟨g, 1, none⟩ (.slice (some q') (m - 1) (d - 1))) w.heap.size (bC 32 []) 38) := Lib.hid (U2.out.other _ _ (by have := Z0.out; show _ ≠ g; omega))
  have HRD := Lib.hid hRD
  have HTN := Lib.hid hTN
  have HFR := Lib.hid hFR
  clear hFR hRD hTN T2 U2 RES
  go_wp2_with (refine park_at 18 rfl ?_)
  generalize w2.setCell ⟨g, 1, none⟩ (.slice (some q') (m - 1) (d - 1)) = w3 at T3 U3 HRD HTN HFR ⊢
  clear x1 f1
  refine unpark ?_
  refine wpList_exec 18 rfl (by rfl) (.agg (bC 32 (F 0))) _ (loadHr rfl rfl T3.out) ?_
  go_wp2_with (refine wpList_store_row rfl 38 _ _ rfl w.heap.size (bC 32 (F 0)) rfl rfl 38 (bC 32 []) U3.out (info_hash _) (by simp [bC_size]) (bC_one _ _) ?_)
  refine bodyPost_ret (v := .agg (bC 32 (F 0))) (results_rowP Tryd.results53 _ _ w.heap.size 38 _ _ rfl U3.out.row Tryd.underlying38 rfl (info_hash _)) rfl ?_
  exact ⟨rfl, HRD.out.setRow HFR.out (KW.out.size) _, HTN.out.setRow (Nat.le_refl _) _⟩
set_option maxRecDepth 100000 in
set_option maxHeartbeats 2000000 in
theorem readerLeaf_any (W w : World) (g k : Nat) (S : Nat → ByteArray) (m : Nat) (F : Nat → List UInt8) (pl : Int) (L : List (List UInt8)) (h : RdAt W w g k S m F pl L) (hm : 0 < k) (hz : (S 0).size ≤ 1000000) (ht : Tab W) :
    Calls Tryd.prog 54 #[.pointer (some ⟨g, 0, none⟩)] w fun e w' => e = .returned (.agg (bC 32 (lf S 0))) ∧ RdAt W w' g (k - 1) (fun i => S (1 + i)) m F pl L ∧ Turn g w w' := by
  obtain ⟨⟨p0, c1, q0, d, v, hr, hc, hS, hF, hp, hv⟩, hb, hk⟩ := h
  obtain ⟨p1, rfl, _⟩ := hS.some hm
  obtain ⟨p', hcut, hS'⟩ := run_cutS_tail p1 k c1 hm hc.1
  have HC := Lib.hid hcut
  have HLd : Hid (∀ w', Kept W w' → _) := Lib.hid fun w' hk => (hS.kept hk).load 0 hm
  have HSum : Hid (∀ w', Kept W w' → _) := Lib.hid fun w' hk => tagLeafSum_any (S 0) hz w' (ht.kept hk)
  have R0 := Lib.hid hr
  have V0 := Lib.hid hv
  have KW := Lib.hid hk
  have RES : Hid (∀ w1, Rowz w1 g (rdC (some p1) k c1 q0 m d pl v) 71 → Kept w w1 → RdAt W (w1.setCell ⟨g, 0, none⟩ (.slice (some p') (k - 1) (c1 - 1))) g (k - 1) (fun i => S (1 + i)) m F pl L ∧ Turn g w (w1.setCell ⟨g, 0, none⟩ (.slice (some p') (k - 1) (c1 - 1))) ∧ FreeOf g w.heap.size (w1.setCell ⟨g, 0, none⟩ (.slice (some p') (k - 1) (c1 - 1)))) := Lib.hid fun w1 hr1 hk1 => by
    have hr2 := hr1.set 0 (.slice (some p') (k - 1) (c1 - 1))
    refine ⟨⟨⟨some p', c1 - 1, q0, d, v, hr2, ⟨by omega, by omega⟩, hS' S W hS, hF, PaS.setCellNe (PaS.kept _ _ _ _ _ hk1 hp) _ hv _, hv⟩, hb, (hk.trans hk1).setCell hb _⟩, ?_, hr2.lt, by have := hr.lt; omega, fun e => ?_⟩
    · exact (Turn.ofKept hk1).trans (Turn.field hr1 (grown_refl _ _) (fun i hi => .inl hi) 0 _ hr2)
    · rw [upOf_row hr2] at e
      have := (World.ownsRow.lt hp _ e).2
      omega
  have Z0 := Lib.hid hr.lt
  clear hr hc hS hF hp hv hb hk hS' hcut ht hz
  go_enter Tryd.func54, Tryd.ntmps54
  go_wp2_with (refine park_at 7 rfl ?_)
  have K1 := Lib.hid ((Kept.refl w).alloc (.cells (bC 32 []) 38))
  have T1 := Lib.hid (Rowz.new w (bC 32 []) 38)
  change Parked (wpList _ _ _ _ _ (w.alloc (.cells (bC 32 []) 38)))
  generalize w.alloc (.cells (bC 32 []) 38) = w1 at K1 T1 ⊢
  have R1 := Lib.hid (R0.out.kept K1.out)
  have x0 : w1.cell? ⟨g, 0, none⟩ = some (.slice (some p1) k c1) := R1.out.cell 0
  have f0 := R1.out.free 0
  refine unpark ?_
  go_wp2_with (refine park_at 8 rfl ?_)
  refine unpark ?_
  refine wpList_exec 8 rfl (by rfl) (.pointer (some (p1.add 0))) _ (execIndexS p1 k c1 0 hm w1 rfl rfl rfl) ?_
  refine wpList_exec 9 rfl (by rfl) (.string (S 0)) _ (execLoadAt rfl rfl (HLd.out w1 (KW.out.trans K1.out))) ?_
  go_wp2_with (refine park_at 15 rfl ?_)
  refine unpark ?_
  refine wpList_exec 15 rfl (by rfl) (.slice (some p') (k - 1) (c1 - 1)) _ (execSliceP _ _ _ _ _ rfl rfl rfl rfl rfl (HC.out w1)) ?_
  obtain ⟨hRD, hTN, hFR⟩ := RES.out w1 R1.out K1.out
  have T3 : Hid (Rowz (w1.setCell ⟨g, 0, none⟩ (.slice (some p') (k - 1) (c1 - 1))) w.heap.size (bC 32 []) 38) := Lib.hid (T1.out.other _ _ (by have := Z0.out; show _ ≠ g; omega))
  have HRD := Lib.hid hRD
  have HTN := Lib.hid hTN
  have HFR := Lib.hid hFR
  clear hFR hRD hTN T1 RES
  go_wp2_with fail
  clear x0 f0
  change Calls _ _ _ (w1.setCell ⟨g, 0, none⟩ (.slice (some p') (k - 1) (c1 - 1))) _
  generalize w1.setCell ⟨g, 0, none⟩ (.slice (some p') (k - 1) (c1 - 1)) = w3 at T3 HRD HTN HFR ⊢
  refine (HSum.out w3 HRD.out.kept).mono ?_
  rintro e w4 ⟨rfl, k4⟩
  have U4 := Lib.hid (T3.out.kept k4)
  have RD4 := Lib.hid (HRD.out.keptTo k4)
  have FR4 := Lib.hid ((Turn.ofKept (g := g) k4).free T3.out.lt HFR.out).1
  have TN4 := Lib.hid (HTN.out.trans (Turn.ofKept k4))
  clear k4 T3 HRD HTN HFR
  change Hid (Rowz w4 w.heap.size (bC 32 []) 38) at U4
  go_wp2_with (refine wpList_store_row rfl 38 _ _ rfl w.heap.size (bC 32 (shaL (leafS (S 0)))) rfl rfl 38 (bC 32 []) U4.out (info_hash _) (by simp [bC_size]) (bC_one _ _) ?_)
  refine bodyPost_ret (v := .agg (bC 32 (shaL (leafS (S 0))))) (results_rowP Tryd.results54 _ _ w.heap.size 38 _ _ rfl U4.out.row Tryd.underlying38 rfl (info_hash _)) rfl ?_
  exact ⟨rfl, RD4.out.setRow FR4.out (KW.out.size) _, TN4.out.setRow (Nat.le_refl _) _⟩
end Go.Proofs.YtggpjhldmaflaaaDoor
