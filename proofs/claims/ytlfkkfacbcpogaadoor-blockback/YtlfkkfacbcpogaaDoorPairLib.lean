/-
  A drawn statement whose reads are taken first, by its operations' whole runs (takeW); then its new variables and the stores into them: one (wpAnyH_one), or two in either order (wpAnyH_two). No condition.
-/
import Derived.Test.YtlfkkfacbcpogaaDoorBas
import Derived.Test.YtlfkkfacbcpogaaDoorTag
namespace Go.Proofs.YtlfkkfacbcpogaaDoor
set_option maxRecDepth 4000
open Go.RowKit

theorem takeW {P : Program} {ops : Array Oper} {Q : Exit → Act → World → Prop} {S : World → Prop} (i d : Nat) (v : Value) {oi : Oper} {fuel : Nat} {listed : Array Bool} {tmps : Array Value} {defers} {w : World} (hi : ops[i]? = some oi) (hd : oi.dst = some d)
    (hs : Region.noSelect ops = true) (hf : Region.free .any ops listed i = true) (hr : (Region.ready .any ops listed).contains i = true) (hg : Region.wanted oi (yielded ops tmps) = true)
    (hQ : ∀ c a w, Q (.panic c) (a.put oi.dst v) w → Q (.panic c) a w) (hS : S w) (hx : ∀ w', S w' → (execOp (evS tmps) oi).run P w' = .ok (.value v) w')
    (h : wpAnyH P .any ops Q S fuel (listed.setIfInBounds i true) ⟨tmps.setIfInBounds d v, defers⟩ w) : wpAnyH P .any ops Q S (fuel + 1) listed ⟨tmps, defers⟩ w := by
  refine wpAnyH_take hi hs hf hr hQ (.inl ⟨hg, fun w' hw' => by rw [evS_eq]; exact hx w' hw'⟩) hS ?_
  have e : (Act.mk tmps defers).put oi.dst v = ⟨tmps.setIfInBounds d v, defers⟩ := by rw [hd]; rfl
  rw [e]
  exact h
theorem execMoveW {P : Program} {o : Oper} {t : Array Value} {x : Operand} {v : Value} (w : World) (ho : o.op = .move x ∨ o.op = .assign x) (hx : evS t x = v) : (execOp (evS t) o).run P w = .ok (.value v) w := by
  unfold execOp
  rcases ho with ho | ho
  · rw [ho]; simp [hx]
  · rw [ho]; simp [hx]
section
variable {P : Program} {ops : Array Oper} {Q : Exit → Act → World → Prop} {W : World}
theorem allocH {i d : Nat} {oi : Oper} {fuel : Nat} {listed : Array Bool} {t : Array Value} {ds : List Deferred} {w : World} {Z : Array Value} {T : TypeId} (_hi : ops[i]? = some oi) (hg : oi.guard = none) (hd : oi.dst = some d)
    (hx : ∀ r w, (execOp r oi).run P w = .ok (.value (.pointer (some ⟨w.heap.size, 0, none⟩))) (w.alloc (.cells Z T))) (hk : Kept W w)
    (h : wpAnyH P .any ops Q (fun w' => Kept W w') fuel (listed.setIfInBounds i true) ⟨t.setIfInBounds d (.pointer (some ⟨w.heap.size, 0, none⟩)), ds⟩ (w.alloc (.cells Z T))) :
    ∀ K' : Act → World → Prop, Shut (∀ a w, Kept W w → (Kept W w → wpAnyH P .any ops Q (fun w' => Kept W w') fuel (listed.setIfInBounds i true) a w) → K' a w) → if Region.wanted oi (yielded ops t) = true then Oper.wp P oi ⟨t, ds⟩ w K' Q else K' ((Act.mk t ds).put oi.dst undef) w := by
  intro K' hK
  rw [if_pos (by simp [Region.wanted, hg])]
  unfold Oper.wp
  rw [hx, Oper.upon_value, hd]
  exact hK.out _ _ (hk.alloc _) fun _ => h
theorem storeH {k : Nat} {ok : Oper} {fuel : Nat} {listed : Array Bool} {t : Array Value} {ds : List Deferred} {w : World} (_hi : ops[k]? = some ok) (hg : ok.guard = none) (hd : ok.dst = none) (ty : TypeId) (x y : Operand) (ho : ok.op = .store ty x y)
    (g : Nat) (C Z : Array Value) (T : TypeId) (hx : evS t x = .pointer (some ⟨g, 0, none⟩)) (hy : evS t y = .agg C) (hr : Rowz w g Z T) (hi2 : (P.info? ty).map (·.size) = some C.size) (hs : Z.size = C.size) (h1 : C.all (·.oneCell') = true) (hk : Kept W w) (hb : W.heap.size ≤ g)
    (h : wpAnyH P .any ops Q (fun w' => Kept W w') fuel (listed.setIfInBounds k true) ⟨t, ds⟩ (w.setRow g C)) :
    ∀ K' : Act → World → Prop, Shut (∀ a w, Kept W w → (Kept W w → wpAnyH P .any ops Q (fun w' => Kept W w') fuel (listed.setIfInBounds k true) a w) → K' a w) → if Region.wanted ok (yielded ops t) = true then Oper.wp P ok ⟨t, ds⟩ w K' Q else K' ((Act.mk t ds).put ok.dst undef) w := by
  intro K' hK
  rw [if_pos (by simp [Region.wanted, hg])]
  refine wp_store_row ty x y ho g C (by rw [evS_eq]; exact hx) (by rw [evS_eq]; exact hy) T Z hr hi2 hs h1 ?_
  rw [hd]
  exact hK.out _ _ (hk.setRow hb C) fun _ => h
theorem set_comm (t : Array Value) (d e : Nat) (u v : Value) (h : d ≠ e) : (t.setIfInBounds e v).setIfInBounds d u = (t.setIfInBounds d u).setIfInBounds e v := by
  apply Array.ext_getElem?
  intro i
  simp only [Array.getElem?_setIfInBounds, Array.size_setIfInBounds]
  by_cases h1 : d = i
  · by_cases h2 : e = i
    · omega
    · subst h1; simp [h2]
  · simp [h1]
/-- Two new variables, in either order, then a store into each, the second one last. -/
theorem wpAnyH_two (i j k l d e : Nat) {oi oj ok ol : Oper} {fuel : Nat} {listed : Array Bool} {t : Array Value} {ds : List Deferred} {w : World}
    (hi : ops[i]? = some oi) (gi : oi.guard = none) (di : oi.dst = some d) (hj : ops[j]? = some oj) (gj : oj.guard = none) (dj : oj.dst = some e) (hde : d ≠ e)
    (hk : ops[k]? = some ok) (gk : ok.guard = none) (dk : ok.dst = none) (hl : ops[l]? = some ol) (gl : ol.guard = none) (dl : ol.dst = none)
    (r0 : Region.ready .any ops listed = [i, j]) (r1 : Region.ready .any ops (listed.setIfInBounds i true) = [j]) (r2 : Region.ready .any ops (listed.setIfInBounds j true) = [i])
    (r3 : Region.ready .any ops ((listed.setIfInBounds i true).setIfInBounds j true) = [k]) (r4 : Region.ready .any ops ((listed.setIfInBounds j true).setIfInBounds i true) = [k])
    (r5 : Region.ready .any ops (((listed.setIfInBounds i true).setIfInBounds j true).setIfInBounds k true) = [l]) (r6 : Region.ready .any ops (((listed.setIfInBounds j true).setIfInBounds i true).setIfInBounds k true) = [l])
    (r7 : Region.ready .any ops ((((listed.setIfInBounds i true).setIfInBounds j true).setIfInBounds k true).setIfInBounds l true) = []) (r8 : Region.ready .any ops ((((listed.setIfInBounds j true).setIfInBounds i true).setIfInBounds k true).setIfInBounds l true) = [])
    (Z1 Z2 C1 C2 : Array Value) (T1 T2 y1 y2 : TypeId) (s1 u1 s2 u2 : Operand)
    (a1 : ∀ r w, (execOp r oi).run P w = .ok (.value (.pointer (some ⟨w.heap.size, 0, none⟩))) (w.alloc (.cells Z1 T1)))
    (a2 : ∀ r w, (execOp r oj).run P w = .ok (.value (.pointer (some ⟨w.heap.size, 0, none⟩))) (w.alloc (.cells Z2 T2)))
    (o1 : ok.op = .store y1 s1 u1) (o2 : ol.op = .store y2 s2 u2)
    (e1 : ∀ g h, evS ((t.setIfInBounds d (.pointer (some ⟨g, 0, none⟩))).setIfInBounds e (.pointer (some ⟨h, 0, none⟩))) s1 = .pointer (some ⟨g, 0, none⟩))
    (e2 : ∀ g h, evS ((t.setIfInBounds d (.pointer (some ⟨g, 0, none⟩))).setIfInBounds e (.pointer (some ⟨h, 0, none⟩))) u1 = .agg C1)
    (e3 : ∀ g h, evS ((t.setIfInBounds d (.pointer (some ⟨g, 0, none⟩))).setIfInBounds e (.pointer (some ⟨h, 0, none⟩))) s2 = .pointer (some ⟨h, 0, none⟩))
    (e4 : ∀ g h, evS ((t.setIfInBounds d (.pointer (some ⟨g, 0, none⟩))).setIfInBounds e (.pointer (some ⟨h, 0, none⟩))) u2 = .agg C2)
    (i1 : (P.info? y1).map (·.size) = some C1.size) (i2 : (P.info? y2).map (·.size) = some C2.size) (z1 : Z1.size = C1.size) (z2 : Z2.size = C2.size) (c1 : C1.all (·.oneCell') = true) (c2 : C2.all (·.oneCell') = true)
    (hW : Kept W w)
    (h : ∀ g7 g8 w', g7 ≠ g8 → W.heap.size ≤ g7 → W.heap.size ≤ g8 → Kept W w' → Rowz w' g7 C1 T1 → Rowz w' g8 C2 T2 → Q .normal ⟨(t.setIfInBounds d (.pointer (some ⟨g7, 0, none⟩))).setIfInBounds e (.pointer (some ⟨g8, 0, none⟩)), ds⟩ w') :
    wpAnyH P .any ops Q (fun w' => Kept W w') (fuel + 1 + 1 + 1 + 1) listed ⟨t, ds⟩ w := by
  refine wpAnyH_ready r0 (by simp) (AllReadyH.cons hi (allocH hi gi di a1 hW ?_) (AllReadyH.cons hj (allocH hj gj dj a2 hW ?_) AllReadyH.nil))
  · refine wpAnyH_ready r1 (by simp) (AllReadyH.cons hj (allocH hj gj dj a2 (hW.alloc _) ?_) AllReadyH.nil)
    have q1 := (Rowz.new w Z1 T1).alloc (.cells Z2 T2)
    have q2 : Rowz ((w.alloc (.cells Z1 T1)).alloc (.cells Z2 T2)) (w.alloc (.cells Z1 T1)).heap.size Z2 T2 := Rowz.new _ _ _
    have hz : (w.alloc (.cells Z1 T1)).heap.size = w.heap.size + 1 := by simp
    have K2 := (hW.alloc (.cells Z1 T1)).alloc (.cells Z2 T2)
    refine wpAnyH_ready r3 (by simp) (AllReadyH.cons hk (storeH hk gk dk y1 s1 u1 o1 w.heap.size C1 Z1 T1 (e1 _ _) (e2 _ _) q1 i1 z1 c1 K2 hW.size ?_) AllReadyH.nil)
    have p2 := q2.rowOther (k := w.heap.size) (D := C1) (by omega)
    refine wpAnyH_ready r5 (by simp) (AllReadyH.cons hl (storeH hl gl dl y2 s2 u2 o2 (w.alloc (.cells Z1 T1)).heap.size C2 Z2 T2 (e3 _ _) (e4 _ _) p2 i2 z2 c2 (K2.setRow hW.size _) (by have := hW.size; omega) ?_) AllReadyH.nil)
    refine wpAnyH_done r7 ?_ _
    have p1 := (q1.row (D := C1)).rowOther (k := (w.alloc (.cells Z1 T1)).heap.size) (D := C2) (by omega)
    exact h _ _ _ (by omega) hW.size (by have := hW.size; omega) ((K2.setRow hW.size _).setRow (by have := hW.size; omega) _) p1 p2.row
  · refine wpAnyH_ready r2 (by simp) (AllReadyH.cons hi (allocH hi gi di a1 (hW.alloc _) ?_) AllReadyH.nil)
    have q2 := (Rowz.new w Z2 T2).alloc (.cells Z1 T1)
    have q1 : Rowz ((w.alloc (.cells Z2 T2)).alloc (.cells Z1 T1)) (w.alloc (.cells Z2 T2)).heap.size Z1 T1 := Rowz.new _ _ _
    have hz : (w.alloc (.cells Z2 T2)).heap.size = w.heap.size + 1 := by simp
    have K2 := (hW.alloc (.cells Z2 T2)).alloc (.cells Z1 T1)
    rw [set_comm t d e _ _ hde]
    refine wpAnyH_ready r4 (by simp) (AllReadyH.cons hk (storeH hk gk dk y1 s1 u1 o1 (w.alloc (.cells Z2 T2)).heap.size C1 Z1 T1 (e1 _ _) (e2 _ _) q1 i1 z1 c1 K2 (by have := hW.size; omega) ?_) AllReadyH.nil)
    have p2 := q2.rowOther (k := (w.alloc (.cells Z2 T2)).heap.size) (D := C1) (by omega)
    refine wpAnyH_ready r6 (by simp) (AllReadyH.cons hl (storeH hl gl dl y2 s2 u2 o2 w.heap.size C2 Z2 T2 (e3 _ _) (e4 _ _) p2 i2 z2 c2 (K2.setRow (by have := hW.size; omega) _) hW.size ?_) AllReadyH.nil)
    refine wpAnyH_done r8 ?_ _
    have p1 := (q1.row (D := C1)).rowOther (k := w.heap.size) (D := C2) (by omega)
    exact h _ _ _ (by omega) (by have := hW.size; omega) hW.size ((K2.setRow (by have := hW.size; omega) _).setRow hW.size _) p1 p2.row
end
end Go.Proofs.YtlfkkfacbcpogaaDoor
