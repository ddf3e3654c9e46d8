/-
  Contracts of shape.Depth and shape.Sides: loops over the iterator.
-/
import Derived.Test.YtghphfioigekhaaShapeWalkB
namespace Go.Proofs.Ytghphfioigekhaa
open Go.RowKit Go.Shelf
attribute [local go_sem] Oper.semAt_some

/-- A row of bools. -/
def boC (l : List Bool) : Array Value := (l.map Value.bool).toArray
theorem boC_size (l : List Bool) : (boC l).size = l.length := by simp [boC]
theorem boC_get (l : List Bool) (i : Nat) (h : i < l.length) : (boC l)[i]? = some (.bool (l.getD i false)) := by
  simp [boC, List.getElem?_eq_getElem h]
theorem boC_set (l : List Bool) (i : Nat) (x : Bool) : (boC l).setIfInBounds i (.bool x) = boC (l.set i x) := by
  simp [boC, List.map_set]
theorem madeCells_bools (n : Nat) : madeCells (Value.bool false).cells n = boC (List.replicate n false) := by
  apply Array.ext
  · simp [madeCells, boC]
  · intro i h1 h2
    simp [madeCells, boC, Value.cells, Nat.mod_one]
/-- What has come lies at the end of the row, the last step first. -/
def fillB (L : Nat) (pre : List Bool) : List Bool := List.replicate (L - pre.length) false ++ pre.reverse
theorem fillB_nil (L : Nat) : fillB L [] = List.replicate L false := by simp [fillB]
theorem fillB_length (L : Nat) (pre : List Bool) (h : pre.length ≤ L) : (fillB L pre).length = L := by simp [fillB]; omega
theorem fillB_all (pre : List Bool) : fillB pre.length pre = pre.reverse := by simp [fillB]
theorem fillB_step (L : Nat) (pre : List Bool) (x : Bool) (h : pre.length < L) : (fillB L pre).set (L - pre.length - 1) x = fillB L (pre ++ [x]) := by
  obtain ⟨k, hk⟩ : ∃ k, L - pre.length = k + 1 := ⟨L - pre.length - 1, by omega⟩
  have h2 : L - (pre ++ [x]).length = k := by simp; omega
  rw [fillB, fillB, hk, h2, List.set_append_left _ _ (by simp), Nat.add_sub_cancel, List.replicate_succ', List.set_append_right _ _ (by simp)]
  simp

/-- 'The block is a row that holds f s' speaks of cells alone. -/
theorem rowz_own {β : Type} (g : Nat) (T : TypeId) (f : β → Array Value) : Own (fun s W => Rowz W g (f s) T) := fun s X Y row hs hg hrow =>
  (hg.block g hs.lt (fun e' => by obtain ⟨o, ho, hc⟩ := hrow g e'.symm; rw [show X.heap[g]? = _ from hs] at ho; cases ho; cases hc)).trans hs

set_option maxRecDepth 100000 in
set_option maxHeartbeats 2000000 in
theorem shapeDepth_in (n i : Nat) (hn : n < 9223372036854775808) (hi : i < n) (w : World) :
    CallsIn Fence.wide 3 Try.prog 12 #[.int .i64 (n : Int), .int .i64 (i : Int)] w fun e W' => e = .returned (.int .i64 ((dn n i).length : Int)) ∧ Below w.heap.size w W' := by
  have hd1 : decide ((i : Int) < 0) = false := decide_eq_false (by omega)
  have hd2 : decide ((i : Int) ≥ (n : Int)) = false := decide_eq_false (by omega)
  have hd3 : decide (n ≤ i) = false := decide_eq_false (by omega)
  have hin : (i : Int) < (n : Int) := by omega
  refine callsIn_of_wp_marks Try.func12 rfl trivial ?_ rfl
  simp only [Try.ntmps12, List.size_toArray, List.length_cons, List.length_nil, Nat.reduceAdd, Nat.reduceSub, Array.replicate_succ, Array.replicate_zero, List.push_toArray, List.append_toArray, List.nil_append, List.cons_append]
  gi_wp2_with (refine ⟨trivial, ?_⟩; gi_at_call 14; refine (shapeDown_in _ _ _ _).mono ?_; rintro e w' ⟨rfl, rfl⟩)
  have bD := Boxed.new w 3 (.int .i64 0)
  have bN := Boxed.new (w.alloc (.cells #[.int .i64 0] 3)) 3 (.int .i64 (n : Int))
  have bI := Boxed.new ((w.alloc (.cells #[.int .i64 0] 3)).alloc (.cells #[.int .i64 (n : Int)] 3)) 3 (.int .i64 (i : Int))
  simp only [World.size_alloc] at bN bI
  have hB0 : Below w.heap.size w (((w.alloc (.cells #[.int .i64 0] 3)).alloc (.cells #[.int .i64 (n : Int)] 3)).alloc (.cells #[.int .i64 (i : Int)] 3)) := (((Below.refl _ w).alloc (Nat.le_refl _) _).alloc (by simp) _).alloc (by simp; omega) _
  have h63 := dn_len63 i (Nat.le_of_lt hn)
  refine wpIn_rangeFunc_ownF rfl (by decide) (gf := 15) (lb := #[.pointer (some ⟨w.heap.size + 1, 0, none⟩), .pointer (some ⟨w.heap.size + 1 + 1, 0, none⟩)]) rfl trivial (enters_of Try.func15 (by kernel_rfl) rfl)
    (shapeDown_stops (3 - 1) (w.heap.size + 1) (w.heap.size + 1 + 1) n i (by decide) hn hi _ (by simp) (by simp) (bN.alloc _).cell bI.cell) walksK_t walksK_b (Below.refl _ _) (fun _ => rfl)
    (fun pre W => Boxed W w.heap.size 3 (.int .i64 (pre.length : Int)) ∧ Below w.heap.size w W)
    (fun _ _ _ => False)
    (OwnFrom.and (Own.from (fun s A B row hs hg hr => hs.kept hg (fun e => by obtain ⟨o, ho, hc⟩ := hr _ e.symm; rw [show A.heap[w.heap.size]? = _ from hs] at ho; cases ho; cases hc)) _) (ownFrom_below (Nat.le_refl _) (by simp; omega)))
    (fun _ _ _ _ _ hs _ _ => hs)
    ⟨(bD.alloc _).alloc _, hB0⟩
    (fun x => { tmps := #[.int .i64 (n : Int), .int .i64 (i : Int), undef, undef, .int .i64 0, .pointer (some ⟨w.heap.size, 0, none⟩), .int .i64 (i : Int), .bool false, .bool false, .int .i64 (i : Int), .int .i64 (n : Int), .bool false, .bool false, .int .i64 (n : Int), .int .i64 (i : Int), .func (.func 15) #[] #[.pointer (some ⟨w.heap.size + 1, 0, none⟩), .pointer (some ⟨w.heap.size + 1 + 1, 0, none⟩)], .bool x, undef, undef, undef], defers := [] }) ?assign ?body ?done ?stop
  case assign =>
    intro l x W K hK
    gi_wp2
    simpa using hK
  case body =>
    rintro l pre x W ⟨hb, hB⟩ hlt
    have hc := hb.cell
    have hf := hb.frozen
    gi_wp2
    refine ⟨KeepsOthers.setCell _ _ _, KeepsWalks.setCell _ _ _, ?_, hB.setCell (p := ⟨w.heap.size, 0, none⟩) (Nat.le_refl _) _⟩
    have := hb.set (.int .i64 ((pre.length : Int) + 1))
    simpa using this
  case done =>
    rintro D ys W hD rfl ⟨hb, hB⟩ hK
    have hc := hb.cell
    gi_wp2
    refine ⟨by simp, .inl ⟨_, _, rfl, run_takeDeferred hK, ?_⟩⟩
    exact ⟨_, results_tmp rfl _ _ _, rfl, hB.trans (belowK_b (w := w) (Nat.le_refl _) W D _ _ (by simp at hD; omega) hK rfl rfl)⟩
  case stop =>
    rintro D c pre W _ _ h _
    exact h.elim
theorem run_makeBools (l : Nat) (w : World) (hl : l ≤ 1000000) :
    (Instr.makeSlice 26 (.int .i64 (l : Int)) (.int .i64 (l : Int))).run Try.prog w = .ok (.slice (some ⟨w.heap.size, 0, none⟩) l l) (w.alloc (.cells (boC (List.replicate l false)) 4)) := by
  obtain ⟨i, hi, hz, hs, hb⟩ : ∃ i, Try.prog.info? 4 = some i ∧ i.zero = some (.bool false) ∧ i.size = 1 ∧ i.bytes = 1 := info_parts (by kernel_rfl)
  have h := run_makeSlice (P := Try.prog) w 26 4 i _ Try.underlying26 hi hz .i64 .i64 (l : Int) (l : Int) (by omega) (by omega) (by rw [hs]; omega) (by rw [hb]; omega) (by omega)
  rw [hs, Int.toNat_natCast, Nat.mul_one, madeCells_bools] at h
  exact h
set_option maxRecDepth 100000 in
set_option maxHeartbeats 2000000 in
theorem shapeSides_in (n i : Nat) (hn : n < 9223372036854775808) (hi : i < n) (w : World) :
    CallsIn Fence.wide 3 Try.prog 10 #[.int .i64 (n : Int), .int .i64 (i : Int)] w fun e W' => (∃ g, e = .returned (.slice (some ⟨g, 0, none⟩) (dn n i).length (dn n i).length) ∧ w.heap.size ≤ g ∧ Rowz W' g (boC (sidesN n i)) 4) ∧ Below w.heap.size w W' := by
  obtain ⟨L, hL⟩ : ∃ L, L = (dn n i).length := ⟨_, rfl⟩
  have hd1 : decide ((L : Int) < 0) = false := decide_eq_false (by omega)
  refine callsIn_of_wp_marks Try.func10 rfl trivial ?_ rfl
  simp only [Try.ntmps10, List.size_toArray, List.length_cons, List.length_nil, Nat.reduceAdd, Nat.reduceSub, Array.replicate_succ, Array.replicate_zero, List.push_toArray, List.append_toArray, List.nil_append, List.cons_append]
  rw [← hL]
  have h63 : L ≤ 63 := by have := dn_len63 i (Nat.le_of_lt hn); omega
  replace hL := Lib.hid hL
  have HD : Hid (∀ w, CallsIn Fence.wide (3 - 1) Try.prog 12 #[.int .i64 (n : Int), .int .i64 (i : Int)] w fun e W' => e = .returned (.int .i64 (L : Int)) ∧ Below w.heap.size w W') := Lib.hid fun w => by
    rw [hL.out]
    exact callsIn_wide.2 (callsIn_wide.1 (shapeDepth_in n i hn hi w))
  have HM : ∀ w, (Instr.makeSlice 26 (.int .i64 (L : Int)) (.int .i64 (L : Int))).run Try.prog w = .ok (.slice (some ⟨w.heap.size, 0, none⟩) L L) (w.alloc (.cells (boC (List.replicate L false)) 4)) := fun w => run_makeBools L w (by omega)
  gi_wp2_with (first
    | (refine ⟨trivial, ?_⟩; gi_at_call 14; refine (shapeDown_in _ _ _ _).mono ?_; rintro e w' ⟨rfl, rfl⟩)
    | (refine ⟨trivial, ?_⟩; gi_at_call 12; refine (HD.out _).mono ?_; rintro e w1 ⟨rfl, hB1⟩))
  have hsz := hB1.size
  have bD := Boxed.new w1 3 (.int .i64 (L : Int))
  have bR := Rowz.newEq1 w1 (.cells #[.int .i64 (L : Int)] 3) (.cells (boC (List.replicate L false)) 4) _ _ rfl
  have bS := Boxed.new ((w1.alloc (.cells #[.int .i64 (L : Int)] 3)).alloc (.cells (boC (List.replicate L false)) 4)) 26 (.slice (some ⟨w1.heap.size + 1, 0, none⟩) L L)
  simp only [World.size_alloc] at bS
  replace bD := ((bD.alloc (.cells (boC (List.replicate L false)) 4)).alloc (.cells #[.slice (some ⟨w1.heap.size + 1, 0, none⟩) L L] 26))
  replace bR := bR.alloc (.cells #[.slice (some ⟨w1.heap.size + 1, 0, none⟩) L L] 26)
  have hB2 : Below w.heap.size w (((w1.alloc (.cells #[.int .i64 (L : Int)] 3)).alloc (.cells (boC (List.replicate L false)) 4)).alloc (.cells #[.slice (some ⟨w1.heap.size + 1, 0, none⟩) L L] 26)) := ((hB1.alloc hsz _).alloc (by simp; omega) _).alloc (by simp; omega) _
  have hsz2 : (((w1.alloc (.cells #[.int .i64 (L : Int)] 3)).alloc (.cells (boC (List.replicate L false)) 4)).alloc (.cells #[.slice (some ⟨w1.heap.size + 1, 0, none⟩) L L] 26)).heap.size = w1.heap.size + 1 + 1 + 1 := by simp
  generalize ((w1.alloc (.cells #[.int .i64 (L : Int)] 3)).alloc (.cells (boC (List.replicate L false)) 4)).alloc (.cells #[.slice (some ⟨w1.heap.size + 1, 0, none⟩) L L] 26) = w2 at bD bR bS hB2 hsz2 ⊢
  generalize w1.heap.size = Bd at hsz bD bR bS hsz2 ⊢
  have bN := Boxed.new w2 3 (.int .i64 (n : Int))
  have bI := Boxed.new (w2.alloc (.cells #[.int .i64 (n : Int)] 3)) 3 (.int .i64 (i : Int))
  simp only [World.size_alloc, hsz2] at bN bI
  have hB3 : Below w.heap.size w ((w2.alloc (.cells #[.int .i64 (n : Int)] 3)).alloc (.cells #[.int .i64 (i : Int)] 3)) := (hB2.alloc (by omega) _).alloc (by simp; omega) _
  refine wpIn_rangeFunc_ownF rfl (by decide) (gf := 15) (lb := #[.pointer (some ⟨Bd + 1 + 1 + 1, 0, none⟩), .pointer (some ⟨Bd + 1 + 1 + 1 + 1, 0, none⟩)]) rfl trivial (enters_of Try.func15 (by kernel_rfl) rfl)
    (shapeDown_stops (3 - 1) (Bd + 1 + 1 + 1) (Bd + 1 + 1 + 1 + 1) n i (by decide) hn hi _ (by simp; omega) (by simp; omega) (bN.alloc _).cell bI.cell) walksK_t walksK_b (Below.refl _ _) (fun _ => rfl)
    (fun pre W => Boxed W Bd 3 (.int .i64 ((L - pre.length : Nat) : Int)) ∧ (Rowz W (Bd + 1) (boC (fillB L pre)) 4 ∧ (Boxed W (Bd + 1 + 1) 26 (.slice (some ⟨Bd + 1, 0, none⟩) L L) ∧ Below w.heap.size w W)))
    (fun _ _ _ => False)
    (OwnFrom.and (Own.from (boxed_own Bd 3 (fun pre : List Bool => .int .i64 ((L - pre.length : Nat) : Int))) _) (OwnFrom.and (Own.from (rowz_own (Bd + 1) 4 (fun pre : List Bool => boC (fillB L pre))) _)
      (OwnFrom.and (Own.from (boxed_own (Bd + 1 + 1) 26 (fun _ : List Bool => .slice (some ⟨Bd + 1, 0, none⟩) L L)) _) (ownFrom_below (Nat.le_refl _) (by simp; omega)))))
    (fun _ _ _ _ _ hs _ _ => hs)
    ⟨(bD.alloc _).alloc _, by rw [fillB_nil]; exact (bR.alloc _).alloc _, (bS.alloc _).alloc _, hB3⟩
    (fun x => { tmps := #[.int .i64 (n : Int), .int .i64 (i : Int), undef, undef, .slice none 0 0, .pointer (some ⟨Bd, 0, none⟩), .pointer (some ⟨Bd + 1 + 1, 0, none⟩), .bool x, .int .i64 (n : Int), .int .i64 (i : Int), .int .i64 (L : Int), .int .i64 (L : Int), .bool false, .int .i64 (L : Int), .slice (some ⟨Bd + 1, 0, none⟩) L L, .int .i64 (n : Int), .int .i64 (i : Int), .func (.func 15) #[] #[.pointer (some ⟨Bd + 1 + 1 + 1, 0, none⟩), .pointer (some ⟨Bd + 1 + 1 + 1 + 1, 0, none⟩)], .bool x, undef, undef, undef, undef, undef, undef, undef], defers := [] }) ?assign ?body ?done ?stop
  case assign =>
    intro l x W K hK
    gi_wp2
    exact hK
  case body =>
    clear bD bR bS bN bI hB2 hB3 HD HM
    rintro l pre x W ⟨hb, hr, hs, hB⟩ hlt
    rw [← hL.out] at hlt
    obtain ⟨d, hd⟩ : ∃ d, L - pre.length = d + 1 := ⟨L - pre.length - 1, by omega⟩
    have hd' : L - (pre ++ [x]).length = d := by simp; omega
    have hdl : (d : Int) < (L : Int) := by omega
    rw [hd] at hb
    have HF : Hid ((fillB L pre).set d x = fillB L (pre ++ [x])) := Lib.hid (by have := fillB_step L pre x hlt; rwa [hd] at this)
    replace hd := Lib.hid hd
    replace hd' := Lib.hid hd'
    have hc : W.cell? ⟨Bd, 0, none⟩ = some (.int .i64 ((d : Int) + 1)) := hb.cell
    have hf := hb.frozen
    have b1 := hb.set (.int .i64 (d : Int))
    have r1 := hr.other ⟨Bd, 0, none⟩ (.int .i64 (d : Int)) (by simp)
    have s1 := hs.other (B' := Bd) (by omega) (.int .i64 (d : Int))
    have B1 := hB.setCell (p := ⟨Bd, 0, none⟩) (by simpa using hsz) (.int .i64 (d : Int))
    have cb1 := b1.cell
    have cs1 := s1.cell
    have cr1 : (W.setCell ⟨Bd, 0, none⟩ (.int .i64 (d : Int))).cell? ⟨Bd + 1, d, none⟩ = some (.bool ((fillB L pre).getD d false)) := by rw [r1.cell, boC_get _ _ (by rw [fillB_length _ _ (by omega)]; omega)]
    have fr1 := r1.free d
    replace b1 := Lib.hid b1
    replace r1 := Lib.hid r1
    replace s1 := Lib.hid s1
    replace B1 := Lib.hid B1
    replace hB := Lib.hid hB
    replace hb := Lib.hid hb
    replace hs := Lib.hid hs
    replace hr := Lib.hid hr
    gi_wp2
    refine ⟨(KeepsOthers.setCell _ _ _).trans (KeepsOthers.setCell _ _ _), (KeepsWalks.setCell _ _ _).trans (KeepsWalks.setCell _ _ _), ?_, ?_, ?_, B1.out.setCell (p := ⟨Bd + 1, d, none⟩) (by simp; omega) _⟩
    · rw [hd'.out]; exact Rowz.other (C := #[_]) b1.out _ _ (by simp)
    · rw [← HF.out, ← boC_set]; exact r1.out.set d _
    · exact Rowz.other (C := #[_]) s1.out _ _ (by simp)
  case done =>
    rintro D ys W hD rfl ⟨hb, hr, hs, hB⟩ hK
    have hc := hs.cell
    gi_wp2
    refine ⟨by simp, .inl ⟨_, _, rfl, run_takeDeferred hK, ?_⟩⟩
    refine ⟨_, results_tmp rfl _ _ _, ⟨Bd + 1, rfl, by omega, ?_⟩, hB.trans (belowK_b (w := w) (Nat.le_refl _) W D _ _ (by simp at hD; omega) hK rfl rfl)⟩
    rw [hL.out, fillB_all] at hr
    exact (World.putObj_heap_other (by rintro rfl; rw [show W.heap[Bd + 1]? = _ from hr] at hK; cases hK)).trans hr
  case stop =>
    rintro D c pre W _ _ h _
    exact h.elim
/-- A slice of the bools l (nil, or a row whose first cells they are). -/
def BRow (w : World) (v : Value) (l : List Bool) : Prop := ∃ p cap, v = .slice p l.length cap ∧ (0 < l.length → ∃ g cur, p = some ⟨g, 0, none⟩ ∧ Rowz w g cur 4 ∧ ∀ i, i < l.length → cur[i]? = some (.bool (l.getD i false)))
theorem BRow.kept {w w' : World} {v : Value} {l : List Bool} (h : BRow w v l) (hk : Kept w w') : BRow w' v l := by
  obtain ⟨p, cap, hv, h⟩ := h
  exact ⟨p, cap, hv, fun hl => by obtain ⟨g, cur, hp, hr, hc⟩ := h hl; exact ⟨g, cur, hp, hr.kept hk, hc⟩⟩
theorem BRow.none (w : World) : BRow w (.slice none 0 0) [] := ⟨.none, 0, rfl, fun h => by simp at h⟩
theorem BRow.ofRow {w : World} {g : Nat} {l : List Bool} (h : Rowz w g (boC l) 4) : BRow w (.slice (some ⟨g, 0, .none⟩) l.length l.length) l := ⟨_, _, rfl, fun _ => ⟨g, _, rfl, h, fun i hi => boC_get l i hi⟩⟩
theorem BRow.ofOwns {w : World} {base n : Nat} {v : Value} {l : List Bool} (h : w.ownsRow base 4 1 v n (l.map Value.bool)) (hn : n = l.length) : BRow w v l := by
  subst hn
  rcases Nat.eq_zero_or_pos l.length with h0 | h0
  · rcases h.2 with ⟨hv, _⟩ | ⟨g, cap, cur, hv, _⟩
    · exact ⟨.none, 0, by rw [hv, h0], fun hl => by omega⟩
    · exact ⟨_, cap, hv, fun hl => by omega⟩
  · obtain ⟨g, cap, cur, hv, _, _, hr, hc⟩ := owns_row h h0
    exact ⟨_, cap, hv, fun _ => ⟨g, cur, rfl, hr, fun i hi => by rw [hc i hi]; simp [List.getElem?_eq_getElem hi]⟩⟩

theorem depthI_no {n i : Int} (h : ¬ (0 ≤ i ∧ i < n)) : depthI n i = -1 := by rw [depthI, if_neg h]
theorem depthI_yes {n i : Nat} (h : i < n) : depthI (n : Int) (i : Int) = ((dn n i).length : Int) := by rw [depthI, if_pos (by omega)]; simp [sidesN]
theorem sidesI_no {n i : Int} (h : ¬ (0 ≤ i ∧ i < n)) : sidesI n i = [] := by rw [sidesI, if_neg h]
theorem sidesI_yes {n i : Nat} (h : i < n) : sidesI (n : Int) (i : Int) = sidesN n i := by rw [sidesI, if_pos (by omega)]; simp

set_option maxHeartbeats 400000 in
theorem shapeDepth_any (n i : Int) (w : World) (hu : n < 9223372036854775808) :
    Calls Try.prog 12 #[.int .i64 n, .int .i64 i] w fun e w' => e = .returned (.int .i64 (depthI n i)) ∧ Kept w w' := by
  by_cases h : 0 ≤ i ∧ i < n
  · obtain ⟨I, rfl⟩ := Int.eq_ofNat_of_zero_le h.1
    obtain ⟨N, rfl⟩ := Int.eq_ofNat_of_zero_le (show 0 ≤ n by omega)
    rw [depthI_yes (by omega)]
    exact (callsIn_wide.1 (shapeDepth_in N I (by omega) (by omega) w)).mono fun e w' ⟨he, hB⟩ => ⟨he, kept_below hB⟩
  · rw [depthI_no h]
    by_cases h0 : i < 0
    · have hd1 : decide (i < 0) = true := decide_eq_true h0
      clear h
      go_enter Try.func12, Try.ntmps12
      go_wp2
      go_ret
      exact ⟨rfl, Kept.refl _⟩
    · have hd1 : decide (i < 0) = false := decide_eq_false h0
      have h1 : n ≤ i := by omega
      have hd2 : decide (i ≥ n) = true := decide_eq_true h1
      have h2 : 0 ≤ i := by omega
      clear h h0
      go_enter Try.func12, Try.ntmps12
      go_wp2
      go_ret
      exact ⟨rfl, Kept.refl _⟩

set_option maxHeartbeats 400000 in
theorem shapeSides_any (n i : Int) (w : World) (hu : n < 9223372036854775808) :
    Calls Try.prog 10 #[.int .i64 n, .int .i64 i] w fun e w' => ∃ v, e = .returned v ∧ BRow w' v (sidesI n i) ∧ Kept w w' := by
  by_cases h : 0 ≤ i ∧ i < n
  · obtain ⟨I, rfl⟩ := Int.eq_ofNat_of_zero_le h.1
    obtain ⟨N, rfl⟩ := Int.eq_ofNat_of_zero_le (show 0 ≤ n by omega)
    rw [sidesI_yes (by omega)]
    refine (callsIn_wide.1 (shapeSides_in N I (by omega) (by omega) w)).mono ?_
    rintro e w' ⟨⟨g, rfl, _, hr⟩, hB⟩
    exact ⟨_, rfl, by have := BRow.ofRow hr; rwa [sidesN_length] at this, kept_below hB⟩
  · rw [sidesI_no h]
    have HD : Hid (∀ w, Calls Try.prog 12 #[.int .i64 n, .int .i64 i] w fun e w' => e = .returned (.int .i64 (-1)) ∧ Kept w w') := Lib.hid fun w => by
      have := shapeDepth_any n i w hu
      rwa [depthI_no h] at this
    clear h
    go_enter Try.func10, Try.ntmps10
    go_wp2_with (go_at_call 12; refine (HD.out _).mono ?_; rintro e w1 ⟨rfl, k1⟩; have K1 := Lib.hid k1; clear k1)
    go_ret
    exact ⟨_, rfl, BRow.none _, K1.out.alloc _⟩
end Go.Proofs.Ytghphfioigekhaa
