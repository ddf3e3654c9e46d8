/-
  A drawn statement by its slots' facts, with a tail in one forced order (stores, copies, appends ..) that waits for all the rest: the head in all orders at once, the tail as a list.
-/
import Derived.Test.YtggpjhldmaflaaaFactLib
import Derived.StillTailTactics
namespace Go.Proofs.Ytggpjhldmaflaaa
set_option maxRecDepth 4000
open Go.RowKit

theorem Kept.setCell {W w' : World} (h : Kept W w') {a : Addr} (ha : W.heap.size ≤ a.block) (v : Value) : Kept W (w'.setCell a v) := by
  obtain ⟨h1, h2, h3⟩ := h
  refine ⟨h1, h2, fun i hi => ?_⟩
  have e : (w'.setCell a v).heap[i]? = w'.heap[i]? := by
    simp only [World.setCell, Array.getElem?_modify]
    rw [if_neg (by omega)]
  rw [e]
  exact h3 i hi
theorem Kept.setRow {w w' : World} (h : Kept w w') {g : Nat} (hg : w.heap.size ≤ g) (D : Array Value) : Kept w (w'.setRow g D) := by
  obtain ⟨h1, h2, h3⟩ := h
  refine ⟨h1, h2, fun i hi => ?_⟩
  rw [setRow_other w' g i D (by omega)]; exact h3 i hi

/-- 'x := f(..)', x an array or a struct: the variable is made and written at once. -/
theorem wpList_store_made {P : Program} {ops : Array Oper} {rest : List Oper} {op : Oper} {a : Act} {Q : Exit → Act → World → Prop} (hgd : op.guard = none) (ty : TypeId) (x y : Operand) (ho : op.op = .store ty x y)
    (w : World) (o : Obj) (cells : Array Value) (hx : a.eval x = .pointer (some ⟨w.heap.size, 0, none⟩)) (hy : a.eval y = .agg cells) (t : TypeId) (cur : Array Value) (hob : o = .cells cur t)
    (hi : (P.info? ty).map (·.size) = some cells.size) (hs : cur.size = cells.size) (h1 : cells.all (·.oneCell') = true)
    (h : ∀ v, Hid (Rowz v w.heap.size cells t) → Hid (Kept w v) → wpList P ops Q rest (a.put op.dst undef) v) : wpList P ops Q (op :: rest) a (w.alloc o) := by
  subst hob
  have hr := Rowz.new w cur t
  exact wpList_store_row hgd ty x y ho w.heap.size cells hx hy t cur hr hi hs h1 (h _ (Lib.hid hr.row) (Lib.hid (((Kept.refl w).alloc _).setRow (Nat.le_refl _) _)))

def slotFreeH (ops : Array Oper) (n s : Nat) : Bool := (ops.toList.take n).all fun o => o.dst != some s
def fineH (ops : Array Oper) (n m : Nat) : Bool := edgesBack 0 ops.toList && (ops.toList.take n).all fun o => match o.dst with | some d => decide (d < m) | none => false
def headDone (ops : Array Oper) (n : Nat) : Array Bool := ((List.range ops.size).map fun i => decide (i < n)).toArray
def tailB (ops : Array Oper) (n m : Nat) : Bool :=
  fineH ops n m && decide (n < ops.size) && Region.sinkB .any ops n && Region.chainB .any ops n && Region.seqB .any ops (ops.size - n) n (headDone ops n)

/-- The block that a pointer or a slice names. -/
def ptrBlock : Value → Option Nat
  | .pointer (some a) => some a.block
  | .slice (some a) _ _ => some a.block
  | _ => none
/-- An operation that makes a block of its own. -/
structure StepMade (P : Program) (F : Nat → Value → World → Prop) (d : Nat) (o : Oper) (t : Array Value) (w : World) : Prop where
  guard : o.guard = none
  made : ∃ v w' g, (execOp (evS t) o).run P w = .ok (.value v) w' ∧ Kept w w' ∧ F d v w' ∧ ptrBlock v = some g ∧ w.heap.size ≤ g ∧ g < w'.heap.size
def StepM (M : List Nat) (P : Program) (ops : Array Oper) (F : Nat → Value → World → Prop) (o : Oper) (t : Array Value) (w : World) : Prop :=
  match M.contains (o.dst.getD 0) with
  | true => StepMade P F (o.dst.getD 0) o t w
  | false => StepAt P ops F o t w
theorem stepM_at {M : List Nat} {P : Program} {ops : Array Oper} {F : Nat → Value → World → Prop} {o : Oper} {t : Array Value} {w : World} (h : M.contains (o.dst.getD 0) = false) (s : StepAt P ops F o t w) : StepM M P ops F o t w := by
  unfold StepM; rw [h]; exact s
theorem stepM_made {M : List Nat} {P : Program} {ops : Array Oper} {F : Nat → Value → World → Prop} {o : Oper} {t : Array Value} {w : World} (h : M.contains (o.dst.getD 0) = true) (s : StepMade P F (o.dst.getD 0) o t w) : StepM M P ops F o t w := by
  unfold StepM; rw [h]; exact s
theorem stepMade_new {P : Program} {F : Nat → Value → World → Prop} {d : Nat} {o : Oper} {t : Array Value} {w : World} (C : Array Value) (T : TypeId) (hg : o.guard = none)
    (h : (execOp (evS t) o).run P w = .ok (.value (ptrAt0 w.heap.size)) (w.alloc (.cells C T))) (f : F d (ptrAt0 w.heap.size) (w.alloc (.cells C T))) : StepMade P F d o t w :=
  ⟨hg, _, _, w.heap.size, h, (Kept.refl w).alloc _, f, rfl, Nat.le_refl _, by simp⟩
theorem made_ge {v : Value} {g a b : Nat} (h : ∃ g', ptrBlock v = some g' ∧ a ≤ g' ∧ g' < b) (e : v = .pointer (some ⟨g, 0, none⟩)) : a ≤ g := by
  obtain ⟨g', h1, h2, _⟩ := h
  subst e
  simp only [ptrBlock, Option.some.injEq] at h1
  omega
theorem made_ne {v u : Value} {g k : Nat} (h : ptrBlock v ≠ ptrBlock u) (e : v = .pointer (some ⟨g, 0, none⟩)) (f : u = .pointer (some ⟨k, 0, none⟩)) : g ≠ k := by
  subst e; subst f
  intro hgk
  subst hgk
  exact h rfl
def StepsHead (M : List Nat) (P : Program) (ops : Array Oper) (n : Nat) (F : Nat → Value → World → Prop) (t0 : Array Value) (w0 : World) : List Oper → Prop
  | [] => True
  | o :: r => (∀ t w, (∀ s, slotFreeH ops n s = true → slot t s = slot t0 s) → Kept w0 w → (∀ s, hasPred ops o s = true → F s (slot t s) w) → StepM M P ops F o t w) ∧ StepsHead M P ops n F t0 w0 r

theorem stepsHead_mem {M : List Nat} {P : Program} {ops : Array Oper} {n : Nat} {F : Nat → Value → World → Prop} {t0 : Array Value} {w0 : World} (o : Oper) (L : List Oper) (h : StepsHead M P ops n F t0 w0 L) (hm : o ∈ L) :
    ∀ t w, (∀ s, slotFreeH ops n s = true → slot t s = slot t0 s) → Kept w0 w → (∀ s, hasPred ops o s = true → F s (slot t s) w) → StepM M P ops F o t w := by
  induction L with
  | nil => cases hm
  | cons a r ih =>
    cases hm with
    | head => exact h.1
    | tail _ hm => exact ih h.2 hm

section
variable {P : Program} {ops : Array Oper} {n : Nat} {Q : Exit → Act → World → Prop} {F : Nat → Value → World → Prop} {t0 : Array Value} {ds : List Deferred} {w0 : World}

def wroteIn (L : List Oper) (d : Nat) : Bool := L.any fun o => o.dst == some d
def wrote (ops : Array Oper) (n : Nat) (listed : Array Bool) (d : Nat) : Prop := ∃ i o, i < n ∧ ops[i]? = some o ∧ listed.getD i false = true ∧ o.dst = some d
structure HInv (M : List Nat) (ops : Array Oper) (n : Nat) (F : Nat → Value → World → Prop) (t0 : Array Value) (w0 : World) (listed : Array Bool) (t : Array Value) (w : World) : Prop where
  size : t.size = t0.size
  head : HeadInv .any ops n listed
  frame : ∀ s, slotFreeH ops n s = true → slot t s = slot t0 s
  kept : Kept w0 w
  facts : ∀ (i : Nat) (o : Oper), i < n → ops[i]? = some o → listed.getD i false = true → ∀ d, o.dst = some d → F d (slot t d) w
  made : ∀ d, M.contains d = true → wrote ops n listed d → ∃ g, ptrBlock (slot t d) = some g ∧ w0.heap.size ≤ g ∧ g < w.heap.size
  apart : ∀ d d', M.contains d = true → M.contains d' = true → d ≠ d' → wrote ops n listed d → wrote ops n listed d' → ptrBlock (slot t d) ≠ ptrBlock (slot t d')

theorem head_ready (hb : edgesBack 0 ops.toList = true) {listed : Array Bool} (hs : listed.size = ops.size) : ∀ i, i < ops.size → listed.getD i true = false → ∃ j, j ≤ i ∧ j ∈ Region.ready .any ops listed := by
  intro i
  induction i using Nat.strongRecOn with
  | ind i ih =>
    intro hi hun
    by_cases h : ∃ j, j < i ∧ listed.getD j true = false
    · obtain ⟨j, hj, hjn⟩ := h
      obtain ⟨k, hk, hr⟩ := ih j hj (by omega) hjn
      exact ⟨k, by omega, hr⟩
    · refine ⟨i, Nat.le_refl _, mem_ready.2 ⟨hun, ops[i], by simp [hi], fun e he hbd => ?_⟩⟩
      have h1 := edgesBack_get ops.toList 0 hb i ops[i] (by simp [hi]) e he hbd
      have hl : e.on < listed.size := by rw [hs]; omega
      cases hx : listed.getD e.on false with
      | true => rfl
      | false => exact absurd ⟨e.on, by omega, getD_in hl hx⟩ h

theorem wpAny_tail {M : List Nat} (hB : tailB ops n t0.size = true) (hst : ∀ d v w w', Kept w w' → F d v w → F d v w') (hM : M.all (fun d => wroteIn (ops.toList.take n) d) = true) (hsteps : StepsHead M P ops n F t0 w0 (ops.toList.take n))
    (hdone : ∀ t w, t.size = t0.size → (∀ s, slotFreeH ops n s = true → slot t s = slot t0 s) → Kept w0 w → (∀ (i : Nat) (o : Oper), i < n → ops[i]? = some o → ∀ d, o.dst = some d → F d (slot t d) w) →
      (∀ d, M.contains d = true → ∃ g, ptrBlock (slot t d) = some g ∧ w0.heap.size ≤ g ∧ g < w.heap.size) → (∀ d d', M.contains d = true → M.contains d' = true → d ≠ d' → ptrBlock (slot t d) ≠ ptrBlock (slot t d')) → wpList P ops Q (ops.toList.drop n) ⟨t, ds⟩ w) :
    ∀ (fuel : Nat) (listed : Array Bool) (t : Array Value) (w : World), listed.toList.count false = fuel + (ops.size - n) → HInv M ops n F t0 w0 listed t w → wpAny P .any ops Q (fuel + (ops.size - n)) listed ⟨t, ds⟩ w := by
  simp only [tailB, fineH, Bool.and_eq_true, decide_eq_true_eq, List.all_eq_true] at hB
  obtain ⟨⟨⟨⟨⟨hb, hin⟩, hn⟩, hs⟩, hc⟩, hseq⟩ := hB
  intro fuel
  induction fuel with
  | zero =>
    intro listed t w hcn h
    have hall : ∀ i, i < n → listed.getD i false = true := by
      intro i hi
      cases hx : listed.getD i false with
      | true => rfl
      | false =>
        exfalso
        have hls := h.head.size
        -- the tail alone has ops.size - n unlisted entries
        have e1 : listed.toList = listed.toList.take n ++ listed.toList.drop n := (List.take_append_drop n _).symm
        have e2 : listed.toList.drop n = List.replicate (ops.size - n) false := by
          apply List.ext_getElem?
          intro k
          rw [List.getElem?_drop, List.getElem?_replicate]
          by_cases hk : k < ops.size - n
          · rw [if_pos hk]
            have := h.head.tail (n + k) (by omega) (by omega)
            have hl : n + k < listed.size := by omega
            simp [hl] at this ⊢
            exact this
          · rw [if_neg hk]
            have hl : listed.size ≤ n + k := by omega
            simp [hl]
        rw [e1, List.count_append, e2, List.count_replicate_self] at hcn
        have hil : i < listed.size := by omega
        have hm : false ∈ listed.toList.take n := by
          refine List.mem_iff_getElem?.2 ⟨i, ?_⟩
          rw [List.getElem?_take, if_pos hi]
          simp [hil] at hx ⊢
          exact hx
        have := List.count_pos_iff.2 hm
        omega
    have he : listed = headDone ops n := by
      apply Array.ext
      · rw [h.head.size]; simp [headDone]
      · intro i h1 h2
        have hi : i < ops.size := by rw [← h.head.size]; exact h1
        by_cases hin : i < n
        · have := hall i hin
          simp [h1] at this
          simp [headDone, hin, this]
        · have := h.head.tail i (by omega) hi
          simp [h1] at this
          simp [headDone, hin, this]
    have hl : (ops.toList.drop n).length = ops.size - n := by simp
    rw [Nat.zero_add, ← hl]
    refine wpAny_of_seq (ops.toList.drop n) n listed _ _ (fun j => by rw [List.getElem?_drop]; simp) (by rw [hl, he]; exact hseq) ?_
    have hwr : ∀ d, M.contains d = true → wrote ops n listed d := by
      intro d hd
      have h1 := List.all_eq_true.1 hM d (by simpa using hd)
      obtain ⟨o, ho, hod⟩ := List.any_eq_true.1 h1
      obtain ⟨i, hi⟩ := List.mem_iff_getElem?.1 ho
      have hin : i < n := by
        rcases Nat.lt_or_ge i n with h | h
        · exact h
        · rw [List.getElem?_take, if_neg (by omega)] at hi; cases hi
      rw [List.getElem?_take, if_pos hin] at hi
      exact ⟨i, o, hin, by simpa using hi, hall i hin, by simpa using hod⟩
    exact hdone t w h.size h.frame h.kept (fun i o hi ho d hd => h.facts i o hi ho (hall i hi) d hd) (fun d hd => h.made d hd (hwr d hd)) (fun d d' hd hd' hne => h.apart d d' hd hd' hne (hwr d hd) (hwr d' hd'))
  | succ fuel ih =>
    intro listed t w hcn h
    have hls := h.head.size
    -- some operation of the head is not yet listed
    have hex : ∃ i, i < n ∧ listed.getD i true = false := by
      apply Classical.byContradiction
      intro hno
      have hall : ∀ i, i < n → listed.getD i false = true := by
        intro i hi
        cases hx : listed.getD i false with
        | true => rfl
        | false => exact absurd ⟨i, hi, getD_in (by omega) hx⟩ hno
      have e2 : (listed.toList.take n).count false = 0 := by
        apply List.count_eq_zero.2
        intro hm
        obtain ⟨i, hi⟩ := List.mem_iff_getElem?.1 hm
        have hin : i < n := by
          rcases Nat.lt_or_ge i n with h | h
          · exact h
          · rw [List.getElem?_take, if_neg (by omega)] at hi; cases hi
        rw [List.getElem?_take, if_pos hin] at hi
        have := hall i hin
        have hil : i < listed.size := by omega
        simp [hil] at this hi
        rw [this] at hi
        cases hi
      have e3 : (listed.toList.drop n).count false ≤ ops.size - n := by
        have := List.count_le_length (a := false) (l := listed.toList.drop n)
        rw [List.length_drop, Array.length_toList, hls] at this
        exact this
      rw [← List.take_append_drop n listed.toList, List.count_append, e2] at hcn
      omega
    obtain ⟨i0, hi0, hun0⟩ := hex
    rw [show fuel + 1 + (ops.size - n) = (fuel + (ops.size - n)) + 1 by omega]
    refine ⟨fun hr => ?_, fun i hi => ?_⟩
    · obtain ⟨j, _, hj⟩ := head_ready hb hls i0 (by omega) hun0
      rw [hr] at hj
      cases hj
    have hiN : i < n := by
      rcases Nat.lt_or_ge i n with h' | h'
      · exact h'
      · exact absurd hi (tail_waits hs hc hn h.head _ i0 rfl hi0 hun0 i h')
    obtain ⟨hun, o, ho, hpre⟩ := mem_ready.1 hi
    have hl : i < listed.size := by omega
    have hmemT : o ∈ ops.toList.take n := by
      refine List.mem_iff_getElem?.2 ⟨i, ?_⟩
      rw [List.getElem?_take, if_pos hiN]
      simpa using ho
    have hd0 := hin o hmemT
    obtain ⟨d, hd⟩ : ∃ d, o.dst = some d := by cases e : o.dst with | none => rw [e] at hd0; cases hd0 | some d => exact ⟨d, rfl⟩
    have hdn : d < t.size := by rw [h.size]; rw [hd] at hd0; simpa using hd0
    have hcnt : (listed.setIfInBounds i true).toList.count false = fuel + (ops.size - n) := by
      rw [Array.toList_setIfInBounds, List.count_set (by simpa using hl)]
      have e : listed.toList[i]'(by simpa using hl) = false := by simp [hl] at hun; simpa using hun
      have hp : 0 < listed.toList.count false := List.count_pos_iff.2 (by rw [← e]; simp)
      rw [e]
      simp only [beq_self_eq_true, if_true, Bool.true_beq, Bool.false_eq_true, if_false]
      omega
    have hpreds : ∀ s, hasPred ops o s = true → F s (slot t s) w := by
      intro s hs'
      simp only [hasPred, List.contains_iff_mem, predSlots, List.mem_filterMap, List.mem_filter] at hs'
      obtain ⟨e, ⟨he, hbnd⟩, hes⟩ := hs'
      have h1 := hpre e (by simpa using he) hbnd
      have h2 := edgesBack_get ops.toList 0 hb i o (by simpa using ho) e (by simpa using he) hbnd
      unfold dstOf at hes
      cases eo : ops[e.on]? with
      | none => rw [eo] at hes; cases hes
      | some o' => rw [eo] at hes; exact h.facts e.on o' (by omega) eo h1 s hes
    have hback : ∀ d1, d ≠ d1 → wrote ops n (listed.setIfInBounds i true) d1 → wrote ops n listed d1 := by
      intro d1 hne ⟨j, o', hjn, ho', hj, hd'⟩
      refine ⟨j, o', hjn, ho', ?_, hd'⟩
      by_cases hij : i = j
      · subst hij
        rw [ho] at ho'
        cases ho'
        rw [hd] at hd'
        exact absurd (Option.some.inj hd') hne
      · rw [getD_set_ne false hij] at hj; exact hj
    have next : ∀ v w', Kept w w' → F d v w' → (M.contains d = true → ∃ g, ptrBlock v = some g ∧ w.heap.size ≤ g ∧ g < w'.heap.size) → wpAny P .any ops Q (fuel + (ops.size - n)) (listed.setIfInBounds i true) ((Act.mk t ds).put o.dst v) w' := by
      intro v w' hk hf hnew
      have e : (Act.mk t ds).put o.dst v = ⟨t.setIfInBounds d v, ds⟩ := by rw [hd]; rfl
      rw [e]
      refine ih _ _ _ hcnt ⟨by simpa using h.size, h.head.set hi hiN, fun s hs' => ?_, h.kept.trans hk, fun j o' hjn ho' hj d' hd' => ?_, fun d1 hd1 hw1 => ?_, fun d1 d2 hd1 hd2 hne hw1 hw2 => ?_⟩
      · by_cases hds : d = s
        · exfalso
          subst hds
          simp only [slotFreeH, List.all_eq_true] at hs'
          have := hs' o hmemT
          simp [hd] at this
        · rw [slot_put_ne _ _ _ _ hds]; exact h.frame s hs'
      · by_cases hdd : d = d'
        · subst hdd; rw [slot_put_same _ _ _ hdn]; exact hf
        · rw [slot_put_ne _ _ _ _ hdd]
          by_cases hij : i = j
          · subst hij
            rw [ho] at ho'
            cases ho'
            rw [hd] at hd'
            exact absurd (Option.some.inj hd') hdd
          · rw [getD_set_ne false hij] at hj
            exact hst _ _ _ _ hk (h.facts j o' hjn ho' hj d' hd')
      · by_cases hdd : d = d1
        · subst hdd
          rw [slot_put_same _ _ _ hdn]
          obtain ⟨g, h1, h2, h3⟩ := hnew hd1
          exact ⟨g, h1, Nat.le_trans h.kept.size h2, h3⟩
        · rw [slot_put_ne _ _ _ _ hdd]
          obtain ⟨g, h1, h2, h3⟩ := h.made d1 hd1 (hback d1 hdd hw1)
          exact ⟨g, h1, h2, Nat.lt_of_lt_of_le h3 hk.size⟩
      · by_cases hdd : d = d1
        · subst hdd
          rw [slot_put_same _ _ _ hdn, slot_put_ne _ _ _ _ hne]
          obtain ⟨g, h1, h2, _⟩ := hnew hd1
          obtain ⟨g', h1', _, h3'⟩ := h.made d2 hd2 (hback d2 hne hw2)
          rw [h1, h1']
          intro he
          have := Option.some.inj he
          omega
        · by_cases hde : d = d2
          · subst hde
            rw [slot_put_same _ _ _ hdn, slot_put_ne _ _ _ _ hdd]
            obtain ⟨g, h1, h2, _⟩ := hnew hd2
            obtain ⟨g', h1', _, h3'⟩ := h.made d1 hd1 (hback d1 hdd hw1)
            rw [h1, h1']
            intro he
            have := Option.some.inj he
            omega
          · rw [slot_put_ne _ _ _ _ hdd, slot_put_ne _ _ _ _ hde]
            exact h.apart d1 d2 hd1 hd2 hne (hback d1 hdd hw1) (hback d2 hde hw2)
    have hstep := stepsHead_mem o _ hsteps hmemT t w h.frame h.kept hpreds
    have hd' : o.dst.getD 0 = d := by rw [hd]; rfl
    unfold StepM at hstep
    rw [hd'] at hstep
    cases hMd : M.contains d with
    | true =>
      rw [hMd] at hstep
      obtain ⟨hg, v, w', g, hx, hk, hf, hb, h1, h2⟩ := hstep
      have hw : Region.wanted o (yielded ops t) = true := by unfold Region.wanted; rw [hg]
      unfold wpOp
      rw [ho]
      simp only
      rw [if_pos hw]
      refine .inl ?_
      unfold Oper.wp
      rw [evS_eq, hx]
      exact next v w' hk hf (fun _ => ⟨g, hb, h1, h2⟩)
    | false =>
    rw [hMd] at hstep
    have nextS : ∀ v w', Kept w w' → F d v w' → wpAny P .any ops Q (fuel + (ops.size - n)) (listed.setIfInBounds i true) ((Act.mk t ds).put o.dst v) w' := fun v w' hk hf => next v w' hk hf (fun h => by rw [hMd] at h; cases h)
    have run : StepOK P F d o t w → o.wp P ⟨t, ds⟩ w (wpAny P .any ops Q (fuel + (ops.size - n)) (listed.setIfInBounds i true)) Q := by
      intro hs
      unfold Oper.wp
      rw [evS_eq]
      cases hs with
      | value v w' hx hk hf => rw [hx]; exact nextS v w' hk hf
      | call g args hx hc =>
        rw [hx]
        refine Calls.mono hc fun e w' he => ?_
        obtain ⟨v, rfl, hk, hf⟩ := he
        exact nextS v w' hk hf
    unfold wpOp
    rw [ho]
    simp only
    simp only at hstep
    unfold StepAt gslot at hstep
    rw [hd'] at hstep
    cases hg : o.guard with
    | none =>
      rw [hg] at hstep
      have hw : Region.wanted o (yielded ops t) = true := by unfold Region.wanted; rw [hg]
      rw [if_pos hw]
      exact .inl (run hstep)
    | some jb =>
      obtain ⟨j, b⟩ := jb
      rw [hg] at hstep
      simp only [Option.map_some] at hstep
      cases hj : dstOf ops j with
      | none => rw [hj] at hstep; exact hstep.elim
      | some s =>
        rw [hj] at hstep
        have hy : ∀ b', slot t s = .bool b' → yielded ops t j = some b' := by
          intro b' hb'
          have hs : t[s]? = some (.bool b') := by
            unfold slot at hb'
            cases e : t[s]? with
            | none => simp [Array.getD_eq_getD_getElem?, e, undef] at hb'
            | some x => simp [Array.getD_eq_getD_getElem?, e] at hb'; rw [hb']
          unfold yielded
          unfold dstOf at hj
          rw [hj]
          simp [hs]
        simp only at hstep
        rcases hstep with ⟨hv, hs⟩ | ⟨hv, hf⟩
        · have hw : Region.wanted o (yielded ops t) = true := by unfold Region.wanted; rw [hg]; simp [hy b hv]
          rw [if_pos hw]
          exact .inl (run hs)
        · have hw : ¬ Region.wanted o (yielded ops t) = true := by unfold Region.wanted; rw [hg]; simp [hy _ hv]
          rw [if_neg hw]
          exact nextS undef w (Kept.refl w) hf

/-- A drawn statement by its head's facts (a table), its own new blocks (the slots M) and its tail as a list. -/
theorem wp_region_made {id : Nat} (n : Nat) (M : List Nat) (L : List (Nat × Fact)) (hm : P.follows .mixedOrders = true) (hB : tailB ops n t0.size = true) (hM : M.all (fun d => wroteIn (ops.toList.take n) d) = true)
    (hsteps : StepsHead M P ops n (TF L) t0 w0 (ops.toList.take n))
    (hdone : ∀ t w, t.size = t0.size → (∀ s, slotFreeH ops n s = true → slot t s = slot t0 s) → Kept w0 w → (∀ (i : Nat) (o : Oper), i < n → ops[i]? = some o → ∀ d, o.dst = some d → TF L d (slot t d) w) →
      (∀ d, M.contains d = true → ∃ g, ptrBlock (slot t d) = some g ∧ w0.heap.size ≤ g ∧ g < w.heap.size) → (∀ d d', M.contains d = true → M.contains d' = true → d ≠ d' → ptrBlock (slot t d) ≠ ptrBlock (slot t d')) → wpList P ops Q (ops.toList.drop n) ⟨t, ds⟩ w) :
    (Code.region id ops true).wp P Q ⟨t0, ds⟩ w0 := by
  have hn : n < ops.size := by
    simp only [tailB, Bool.and_eq_true, decide_eq_true_eq] at hB
    exact hB.1.1.1.2
  refine wp_region_any hm ?_
  have hno : ∀ d, ¬ wrote ops n (Array.replicate ops.size false) d := fun d ⟨i, o, _, _, hl, _⟩ => by rw [getD_replicate_false] at hl; cases hl
  have := wpAny_tail (P := P) (Q := Q) (F := TF L) (M := M) (ds := ds) hB (fun _ _ _ _ hk h => Fact.holds_kept hk h) hM hsteps hdone n (Array.replicate ops.size false) t0 { w0 with drawn := w0.drawn + 1 } (by simp; omega)
    ⟨rfl, ⟨by simp, fun j oj _ hl => (by rw [getD_replicate_false] at hl; cases hl), fun t _ ht => getD_in (by simpa using ht) (getD_replicate_false _ _)⟩, fun _ _ => rfl, Kept.refl w0, fun i o _ _ hl => (by rw [getD_replicate_false] at hl; cases hl), fun d _ h => absurd h (hno d), fun d _ _ _ _ h _ => absurd h (hno d)⟩
  rwa [show n + (ops.size - n) = ops.size by omega] at this
theorem wp_region_tail {id : Nat} (n : Nat) (L : List (Nat × Fact)) (hm : P.follows .mixedOrders = true) (hB : tailB ops n t0.size = true)
    (hsteps : StepsHead [] P ops n (TF L) t0 w0 (ops.toList.take n))
    (hdone : ∀ t w, t.size = t0.size → (∀ s, slotFreeH ops n s = true → slot t s = slot t0 s) → Kept w0 w → (∀ (i : Nat) (o : Oper), i < n → ops[i]? = some o → ∀ d, o.dst = some d → TF L d (slot t d) w) → wpList P ops Q (ops.toList.drop n) ⟨t, ds⟩ w) :
    (Code.region id ops true).wp P Q ⟨t0, ds⟩ w0 :=
  wp_region_made n [] L hm hB rfl hsteps (fun t w h1 h2 h3 h4 _ _ => hdone t w h1 h2 h3 h4)
end

/-! ### A list of operations in its one order, by its slots' facts (guards and all) -/
structure Parked (p : Prop) : Prop where
  out : p
theorem unpark {p : Prop} (h : p) : Parked p := ⟨h⟩
/-- Stops the walk ahead of the operation that writes slot d. -/
theorem park_at {P : Program} {ops : Array Oper} {Q : Exit → Act → World → Prop} {o : Oper} {rest : List Oper} {a : Act} {w : World} (d : Nat) (_ : o.dst = some d) (h : Parked (wpList P ops Q (o :: rest) a w)) : wpList P ops Q (o :: rest) a w := h.out
def wroteB (L : List Oper) (s : Nat) : Bool := L.any fun o => o.dst == some s
def StepsSeq (P : Program) (ops : Array Oper) (F : Nat → Value → World → Prop) (t0 : Array Value) (w0 : World) (all : List Oper) : List Oper → List Oper → Prop
  | _, [] => True
  | done, o :: r => (∀ t w, (∀ s, wroteB all s = false → slot t s = slot t0 s) → Kept w0 w → (∀ s, wroteB done s = true → F s (slot t s) w) → StepAt P ops F o t w) ∧ StepsSeq P ops F t0 w0 all (done ++ [o]) r

section
variable {P : Program} {ops : Array Oper} {Q : Exit → Act → World → Prop} {F : Nat → Value → World → Prop} {t0 : Array Value} {ds : List Deferred} {w0 : World}
theorem wpList_seq {all rest : List Oper} (hin : (all.all fun o => match o.dst with | some d => decide (d < t0.size) | none => false) = true) (hst : ∀ d v w w', Kept w w' → F d v w → F d v w')
    (hdone : ∀ t w, t.size = t0.size → (∀ s, wroteB all s = false → slot t s = slot t0 s) → Kept w0 w → (∀ s, wroteB all s = true → F s (slot t s) w) → wpList P ops Q rest ⟨t, ds⟩ w) :
    ∀ (L done : List Oper) (t : Array Value) (w : World), done ++ L = all → t.size = t0.size → (∀ s, wroteB all s = false → slot t s = slot t0 s) → Kept w0 w → (∀ s, wroteB done s = true → F s (slot t s) w) → StepsSeq P ops F t0 w0 all done L → wpList P ops Q (L ++ rest) ⟨t, ds⟩ w := by
  intro L
  induction L with
  | nil =>
    intro done t w he hsz hf hk hp _
    rw [List.append_nil] at he
    subst he
    exact hdone t w hsz hf hk hp
  | cons o r ih =>
    intro done t w he hsz hf hk hp hs
    have hmem : o ∈ all := by rw [← he]; simp
    have hd0 := List.all_eq_true.1 hin o hmem
    obtain ⟨d, hd⟩ : ∃ d, o.dst = some d := by cases e : o.dst with | none => rw [e] at hd0; cases hd0 | some d => exact ⟨d, rfl⟩
    have hdn : d < t.size := by rw [hsz]; rw [hd] at hd0; simpa using hd0
    have next : ∀ v w', Kept w w' → F d v w' → wpList P ops Q (r ++ rest) ((Act.mk t ds).put o.dst v) w' := by
      intro v w' hk' hv
      have e : (Act.mk t ds).put o.dst v = ⟨t.setIfInBounds d v, ds⟩ := by rw [hd]; rfl
      rw [e]
      refine ih (done ++ [o]) _ _ (by rw [← he]; simp) (by simpa using hsz) (fun s hs' => ?_) (hk.trans hk') (fun s hs' => ?_) hs.2
      · by_cases hds : d = s
        · exfalso
          subst hds
          have : wroteB all d = true := List.any_eq_true.2 ⟨o, hmem, by simp [hd]⟩
          rw [hs'] at this
          cases this
        · rw [slot_put_ne _ _ _ _ hds]; exact hf s hs'
      · by_cases hds : d = s
        · subst hds; rw [slot_put_same _ _ _ hdn]; exact hv
        · rw [slot_put_ne _ _ _ _ hds]
          refine hst _ _ _ _ hk' (hp s ?_)
          simp only [wroteB, List.any_append, List.any_cons, List.any_nil, Bool.or_false, Bool.or_eq_true] at hs'
          rcases hs' with h | h
          · exact h
          · rw [hd] at h; simp at h; exact absurd h hds
    have hstep := hs.1 t w hf hk hp
    have hd' : o.dst.getD 0 = d := by rw [hd]; rfl
    have run : StepOK P F d o t w → o.wp P ⟨t, ds⟩ w (wpList P ops Q (r ++ rest)) Q := by
      intro hs
      unfold Oper.wp
      rw [evS_eq]
      cases hs with
      | value v w' hx hk hf => rw [hx]; exact next v w' hk hf
      | call g args hx hc =>
        rw [hx]
        refine Calls.mono hc fun e w' he => ?_
        obtain ⟨v, rfl, hk, hf⟩ := he
        exact next v w' hk hf
    show wpList P ops Q (o :: (r ++ rest)) ⟨t, ds⟩ w
    unfold wpList
    unfold StepAt gslot at hstep
    rw [hd'] at hstep
    cases hg : o.guard with
    | none =>
      rw [hg] at hstep
      have hw : Region.wanted o (yielded ops t) = true := by unfold Region.wanted; rw [hg]
      rw [if_pos hw]
      exact .inl (run hstep)
    | some jb =>
      obtain ⟨j, b⟩ := jb
      rw [hg] at hstep
      simp only [Option.map_some] at hstep
      cases hj : dstOf ops j with
      | none => rw [hj] at hstep; exact hstep.elim
      | some s =>
        rw [hj] at hstep
        have hy : ∀ b', slot t s = .bool b' → yielded ops t j = some b' := by
          intro b' hb'
          have hs : t[s]? = some (.bool b') := by
            unfold slot at hb'
            cases e : t[s]? with
            | none => simp [Array.getD_eq_getD_getElem?, e, undef] at hb'
            | some x => simp [Array.getD_eq_getD_getElem?, e] at hb'; rw [hb']
          unfold yielded
          unfold dstOf at hj
          rw [hj]
          simp [hs]
        simp only at hstep
        rcases hstep with ⟨hv, hs⟩ | ⟨hv, hf⟩
        · have hw : Region.wanted o (yielded ops t) = true := by unfold Region.wanted; rw [hg]; simp [hy b hv]
          rw [if_pos hw]
          exact .inl (run hs)
        · have hw : ¬ Region.wanted o (yielded ops t) = true := by unfold Region.wanted; rw [hg]; simp [hy _ hv]
          rw [if_neg hw]
          exact next undef w (Kept.refl w) hf
/-- The first n operations of a list by a table of facts; the rest as a list. -/
theorem wpList_table {L : List Oper} (n : Nat) (T : List (Nat × Fact)) (hin : ((L.take n).all fun o => match o.dst with | some d => decide (d < t0.size) | none => false) = true)
    (hsteps : StepsSeq P ops (TF T) t0 w0 (L.take n) [] (L.take n))
    (hdone : ∀ t w, t.size = t0.size → (∀ s, wroteB (L.take n) s = false → slot t s = slot t0 s) → Kept w0 w → (∀ s, wroteB (L.take n) s = true → TF T s (slot t s) w) → wpList P ops Q (L.drop n) ⟨t, ds⟩ w) :
    wpList P ops Q L ⟨t0, ds⟩ w0 := by
  have := wpList_seq (P := P) (ops := ops) (Q := Q) (F := TF T) (t0 := t0) (w0 := w0) (ds := ds) (all := L.take n) (rest := L.drop n) hin (fun _ _ _ _ hk h => Fact.holds_kept hk h) hdone (L.take n) [] t0 w0 (List.nil_append _) rfl (fun _ _ => rfl) (Kept.refl w0) (fun s h => by simp [wroteB] at h) hsteps
  rwa [List.take_append_drop] at this
end
end Go.Proofs.Ytggpjhldmaflaaa
