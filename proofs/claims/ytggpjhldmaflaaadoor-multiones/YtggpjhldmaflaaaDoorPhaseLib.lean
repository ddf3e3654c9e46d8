/-
  A drawn statement by its slots' facts, where some of its operations (calls that write, appends) come in one chain and change the world as a relation R says: what the world is between them is a phase (Ph k: k of them are done); the others in all orders at once; a tail in one forced order as a list. No condition.
-/
import Derived.Test.YtggpjhldmaflaaaDoorBas
namespace Go.Proofs.YtggpjhldmaflaaaDoor
set_option maxRecDepth 4000
open Go.RowKit

structure RelOk (R : World → World → Prop) (Ph : Nat → World → Prop) : Prop where
  trans : ∀ {a b c}, R a b → R b c → R a c
  kept : ∀ {a b}, Kept a b → R a b
  size : ∀ {a b}, R a b → a.heap.size ≤ b.heap.size
  ph : ∀ {k a b}, Ph k a → Kept a b → Ph k b
/-- One operation of the chain. -/
inductive StepEff (P : Program) (F : Nat → Value → World → Prop) (R : World → World → Prop) (Ph : Nat → World → Prop) (j d : Nat) (o : Oper) (t : Array Value) (w : World) : Prop
  | value (hg : o.guard = none) (v : Value) (w' : World) (h : (execOp (evS t) o).run P w = .ok (.value v) w') (k : R w w') (f : F d v w') (p : Ph (j + 1) w')
  | call (hg : o.guard = none) (g : FuncId) (args : Array Value) (h : (execOp (evS t) o).run P w = .ok (.enter g args) w) (c : Calls P g args w fun e w' => ∃ v, e = .returned v ∧ R w w' ∧ F d v w' ∧ Ph (j + 1) w')
def StepPh (M E : List Nat) (P : Program) (ops : Array Oper) (F : Nat → Value → World → Prop) (R : World → World → Prop) (Ph : Nat → World → Prop) (i : Nat) (o : Oper) (t : Array Value) (w : World) (k : Nat) : Prop :=
  match E.findIdx? (fun x => x == i) with
  | none => StepM M P ops F o t w
  | some j => k = j → StepEff P F R Ph j (o.dst.getD 0) o t w
theorem stepPh_no {M E : List Nat} {P : Program} {ops : Array Oper} {F : Nat → Value → World → Prop} {R : World → World → Prop} {Ph : Nat → World → Prop} {i : Nat} {o : Oper} {t : Array Value} {w : World} {k : Nat} (h : E.findIdx? (fun x => x == i) = none) (s : StepM M P ops F o t w) : StepPh M E P ops F R Ph i o t w k := by
  unfold StepPh; rw [h]; exact s
theorem stepPh_eff {M E : List Nat} {P : Program} {ops : Array Oper} {F : Nat → Value → World → Prop} {R : World → World → Prop} {Ph : Nat → World → Prop} {i : Nat} {o : Oper} {t : Array Value} {w : World} {k : Nat} (j : Nat) (h : E.findIdx? (fun x => x == i) = some j) (s : k = j → StepEff P F R Ph j (o.dst.getD 0) o t w) : StepPh M E P ops F R Ph i o t w k := by
  unfold StepPh; rw [h]; exact s
def StepsPh (M E : List Nat) (P : Program) (ops : Array Oper) (n : Nat) (F : Nat → Value → World → Prop) (R : World → World → Prop) (Ph : Nat → World → Prop) (t0 : Array Value) (w0 : World) : Nat → List Oper → Prop
  | _, [] => True
  | i, o :: r => (∀ t w k, (∀ s, slotFreeH ops n s = true → slot t s = slot t0 s) → R w0 w → Ph k w → (∀ s, hasPred ops o s = true → F s (slot t s) w) → StepPh M E P ops F R Ph i o t w k) ∧ StepsPh M E P ops n F R Ph t0 w0 (i + 1) r
theorem stepsPh_get {M E : List Nat} {P : Program} {ops : Array Oper} {n : Nat} {F : Nat → Value → World → Prop} {R : World → World → Prop} {Ph : Nat → World → Prop} {t0 : Array Value} {w0 : World} :
    ∀ (L : List Oper) (a : Nat), StepsPh M E P ops n F R Ph t0 w0 a L → ∀ i o, L[i]? = some o → ∀ t w k, (∀ s, slotFreeH ops n s = true → slot t s = slot t0 s) → R w0 w → Ph k w → (∀ s, hasPred ops o s = true → F s (slot t s) w) → StepPh M E P ops F R Ph (a + i) o t w k := by
  intro L
  induction L with
  | nil => intro a _ i o h; simp at h
  | cons x r ih =>
    intro a hs i o h
    cases i with
    | zero => simp at h; subst h; exact hs.1
    | succ i =>
      have := ih (a + 1) hs.2 i o (by simpa using h)
      rw [show a + 1 + i = a + (i + 1) by omega] at this
      exact this
/-- The chain: numbers that rise below n, each waiting for the one before. -/
def waitsFor (ops : Array Oper) (a b : Nat) : Bool := match ops[b]? with | some o => o.after.any fun e => Region.binds .any e && e.on == a | none => false
def chainE (ops : Array Oper) : List Nat → Bool
  | a :: b :: r => decide (a < b) && waitsFor ops a b && chainE ops (b :: r)
  | _ => true
def effB (ops : Array Oper) (n : Nat) (M E : List Nat) : Bool := chainE ops E && E.all fun i => decide (i < n) && !(M.contains (((ops[i]?).bind (·.dst)).getD 0))
theorem chainE_get (ops : Array Oper) : ∀ (E : List Nat), chainE ops E = true → ∀ j, j + 1 < E.length → E.getD j 0 < E.getD (j + 1) 0 ∧ waitsFor ops (E.getD j 0) (E.getD (j + 1) 0) = true
  | [], _, j, h => by simp at h
  | [_], _, j, h => by simp at h
  | a :: b :: r, hc, j, h => by
    simp only [chainE, Bool.and_eq_true, decide_eq_true_eq] at hc
    cases j with
    | zero => exact ⟨hc.1.1, hc.1.2⟩
    | succ j => exact chainE_get ops (b :: r) hc.2 j (by simpa using h)
section
variable {ops : Array Oper} {n : Nat} {M E : List Nat}
theorem effB_lt (h : effB ops n M E = true) (j : Nat) (hj : j < E.length) : E.getD j 0 < n := by
  simp only [effB, Bool.and_eq_true, List.all_eq_true, decide_eq_true_eq] at h
  have hm : E.getD j 0 ∈ E := by rw [List.getD_eq_getElem?_getD, List.getElem?_eq_getElem hj]; exact List.getElem_mem hj
  exact (h.2 _ hm).1
theorem effB_made (h : effB ops n M E = true) (j : Nat) (hj : j < E.length) : M.contains (((ops[E.getD j 0]?).bind (·.dst)).getD 0) = false := by
  simp only [effB, Bool.and_eq_true, List.all_eq_true, decide_eq_true_eq, Bool.not_eq_true'] at h
  have hm : E.getD j 0 ∈ E := by rw [List.getD_eq_getElem?_getD, List.getElem?_eq_getElem hj]; exact List.getElem_mem hj
  exact (h.2 _ hm).2
theorem effB_chain (h : effB ops n M E = true) (j : Nat) (hj : j + 1 < E.length) : ∃ o, ops[E.getD (j + 1) 0]? = some o ∧ ∃ e ∈ o.after, Region.binds .any e = true ∧ e.on = E.getD j 0 := by
  simp only [effB, Bool.and_eq_true] at h
  have h1 := (chainE_get ops E h.1 j hj).2
  unfold waitsFor at h1
  cases e : ops[E.getD (j + 1) 0]? with
  | none => rw [e] at h1; cases h1
  | some o =>
    rw [e] at h1
    obtain ⟨k, hk, hk2⟩ := Array.any_eq_true'.1 h1
    simp only [Bool.and_eq_true, beq_iff_eq] at hk2
    exact ⟨o, rfl, k, hk, hk2⟩
theorem effB_lt2 (h : effB ops n M E = true) (i j : Nat) (hij : i < j) (hj : j < E.length) : E.getD i 0 < E.getD j 0 := by
  simp only [effB, Bool.and_eq_true] at h
  induction j with
  | zero => omega
  | succ j ih =>
    have h1 := (chainE_get ops E h.1 j hj).1
    by_cases he : i = j
    · subst he; exact h1
    · have := ih (by omega) (by omega); omega
end
/-- Slots whose facts hold behind the chain only: what its one operation writes. -/
def ownB (ops : Array Oper) (E X : List Nat) : Bool := X.isEmpty || (E.length == 1 && X.all fun d => ((ops[E.getD 0 0]?).bind (·.dst)) == some d)
theorem ownB_no {ops : Array Oper} {E X : List Nat} (h : ownB ops E X = true) {k d d' : Nat} {o : Oper} (hk : k < E.length) (ho : ops[E.getD k 0]? = some o) (hd : o.dst = some d) (hne : d ≠ d') : X.contains d' = false := by
  cases hc : X.contains d' with
  | false => rfl
  | true =>
    exfalso
    simp only [ownB, Bool.or_eq_true, Bool.and_eq_true, beq_iff_eq, List.all_eq_true] at h
    rcases h with h | ⟨h1, h2⟩
    · rw [List.isEmpty_iff.1 h] at hc; cases hc
    · obtain rfl : k = 0 := by omega
      have := h2 d' (by simpa using hc)
      rw [ho] at this
      simp only [Option.bind_some, hd, Option.some.injEq] at this
      exact hne this
theorem findIdx_get {E : List Nat} {i j : Nat} (h : E.findIdx? (fun x => x == i) = some j) : E.getD j 0 = i ∧ j < E.length := by
  obtain ⟨hj, h1, _⟩ := List.findIdx?_eq_some_iff_getElem.1 h
  refine ⟨?_, hj⟩
  rw [List.getD_eq_getElem?_getD, List.getElem?_eq_getElem hj]
  simpa using h1
theorem findIdx_none {E : List Nat} {i : Nat} (h : E.findIdx? (fun x => x == i) = none) : ∀ x, x < E.length → i ≠ E.getD x 0 := by
  intro x hx he
  have h1 := List.findIdx?_eq_none_iff.1 h (E.getD x 0) (by rw [List.getD_eq_getElem?_getD, List.getElem?_eq_getElem hx]; exact List.getElem_mem hx)
  simp [he] at h1
theorem getD_of_false {a : Array Bool} {i : Nat} (h : a.getD i false = true) : a.getD i true = true := by
  rcases Nat.lt_or_ge i a.size with hi | hi
  · simpa [hi] using h
  · simp [Array.getElem?_eq_none hi] at h
theorem getD_set_self {a : Array Bool} {i : Nat} (d : Bool) (hi : i < a.size) : (a.setIfInBounds i true).getD i d = true := by simp [hi]
/-- k of the chain are listed. -/
def PhIn (E : List Nat) (listed : Array Bool) (k : Nat) : Prop := (∀ j, j < k → listed.getD (E.getD j 0) false = true) ∧ ∀ j, k ≤ j → j < E.length → listed.getD (E.getD j 0) true = false

section
variable {P : Program} {ops : Array Oper} {n : Nat} {Q : Exit → Act → World → Prop} {F : Nat → Value → World → Prop} {t0 : Array Value} {ds : List Deferred} {w0 : World}
structure PInv (M E : List Nat) (ops : Array Oper) (n : Nat) (F : Nat → Value → World → Prop) (R : World → World → Prop) (Ph : Nat → World → Prop) (t0 : Array Value) (w0 : World) (listed : Array Bool) (t : Array Value) (w : World) : Prop where
  size : t.size = t0.size
  head : HeadInv .any ops n listed
  frame : ∀ s, slotFreeH ops n s = true → slot t s = slot t0 s
  kept : R w0 w
  phase : ∃ k, PhIn E listed k ∧ k ≤ E.length ∧ Ph k w
  facts : ∀ (i : Nat) (o : Oper), i < n → ops[i]? = some o → listed.getD i false = true → ∀ d, o.dst = some d → F d (slot t d) w
  made : ∀ d, M.contains d = true → wrote ops n listed d → ∃ g, ptrBlock (slot t d) = some g ∧ w0.heap.size ≤ g ∧ g < w.heap.size
  apart : ∀ d d', M.contains d = true → M.contains d' = true → d ≠ d' → wrote ops n listed d → wrote ops n listed d' → ptrBlock (slot t d) ≠ ptrBlock (slot t d')

theorem wpAny_phase {M E X : List Nat} {R : World → World → Prop} {Ph : Nat → World → Prop} (hR : RelOk R Ph) (hE : effB ops n M E = true) (hB : tailB ops n t0.size = true) (hX : ownB ops E X = true) (hst : ∀ d v w w', X.contains d = false → R w w' → F d v w → F d v w') (hstK : ∀ d v w w', Kept w w' → F d v w → F d v w') (hM : M.all (fun d => wroteIn (ops.toList.take n) d) = true) (hsteps : StepsPh M E P ops n F R Ph t0 w0 0 (ops.toList.take n))
    (hdone : ∀ t w, t.size = t0.size → (∀ s, slotFreeH ops n s = true → slot t s = slot t0 s) → R w0 w → Ph E.length w → (∀ (i : Nat) (o : Oper), i < n → ops[i]? = some o → ∀ d, o.dst = some d → F d (slot t d) w) →
      (∀ d, M.contains d = true → ∃ g, ptrBlock (slot t d) = some g ∧ w0.heap.size ≤ g ∧ g < w.heap.size) → (∀ d d', M.contains d = true → M.contains d' = true → d ≠ d' → ptrBlock (slot t d) ≠ ptrBlock (slot t d')) → wpList P ops Q (ops.toList.drop n) ⟨t, ds⟩ w) :
    ∀ (fuel : Nat) (listed : Array Bool) (t : Array Value) (w : World), listed.toList.count false = fuel + (ops.size - n) → PInv M E ops n F R Ph t0 w0 listed t w → wpAny P .any ops Q (fuel + (ops.size - n)) listed ⟨t, ds⟩ w := by
  simp only [tailB, fineH, Bool.and_eq_true, decide_eq_true_eq, List.all_eq_true] at hB
  obtain ⟨⟨⟨⟨⟨hb, hin⟩, hn⟩, hs⟩, hc⟩, hseq⟩ := hB
  intro fuel
  induction fuel with
  | zero =>
    intro listed t w hcn h
    have hall : ∀ i, i < n → listed.getD i false = true := by
      intro i hi
      cases hx : listed.getD i false with
      | true => rfl
      | false =>
        exfalso
        have hls := h.head.size
        -- the tail alone has ops.size - n unlisted entries
        have e1 : listed.toList = listed.toList.take n ++ listed.toList.drop n := (List.take_append_drop n _).symm
        have e2 : listed.toList.drop n = List.replicate (ops.size - n) false := by
          apply List.ext_getElem?
          intro k
          rw [List.getElem?_drop, List.getElem?_replicate]
          by_cases hk : k < ops.size - n
          · rw [if_pos hk]
            have := h.head.tail (n + k) (by omega) (by omega)
            have hl : n + k < listed.size := by omega
            simp [hl] at this ⊢
            exact this
          · rw [if_neg hk]
            have hl : listed.size ≤ n + k := by omega
            simp [hl]
        rw [e1, List.count_append, e2, List.count_replicate_self] at hcn
        have hil : i < listed.size := by omega
        have hm : false ∈ listed.toList.take n := by
          refine List.mem_iff_getElem?.2 ⟨i, ?_⟩
          rw [List.getElem?_take, if_pos hi]
          simp [hil] at hx ⊢
          exact hx
        have := List.count_pos_iff.2 hm
        omega
    have he : listed = headDone ops n := by
      apply Array.ext
      · rw [h.head.size]; simp [headDone]
      · intro i h1 h2
        have hi : i < ops.size := by rw [← h.head.size]; exact h1
        by_cases hin : i < n
        · have := hall i hin
          simp [h1] at this
          simp [headDone, hin, this]
        · have := h.head.tail i (by omega) hi
          simp [h1] at this
          simp [headDone, hin, this]
    have hl : (ops.toList.drop n).length = ops.size - n := by simp
    rw [Nat.zero_add, ← hl]
    refine wpAny_of_seq (ops.toList.drop n) n listed _ _ (fun j => by rw [List.getElem?_drop]; simp) (by rw [hl, he]; exact hseq) ?_
    have hwr : ∀ d, M.contains d = true → wrote ops n listed d := by
      intro d hd
      have h1 := List.all_eq_true.1 hM d (by simpa using hd)
      obtain ⟨o, ho, hod⟩ := List.any_eq_true.1 h1
      obtain ⟨i, hi⟩ := List.mem_iff_getElem?.1 ho
      have hin : i < n := by
        rcases Nat.lt_or_ge i n with h | h
        · exact h
        · rw [List.getElem?_take, if_neg (by omega)] at hi; cases hi
      rw [List.getElem?_take, if_pos hin] at hi
      exact ⟨i, o, hin, by simpa using hi, hall i hin, by simpa using hod⟩
    obtain ⟨k, hk1, hk2, hk3⟩ := h.phase
    have hkE : k = E.length := by
      rcases Nat.lt_or_ge k E.length with hlt | hge
      · have h1 := hk1.2 k (Nat.le_refl _) hlt
        have h2 := hall (E.getD k 0) (effB_lt hE k hlt)
        rw [getD_of_false h2] at h1
        cases h1
      · omega
    subst hkE
    exact hdone t w h.size h.frame h.kept hk3 (fun i o hi ho d hd => h.facts i o hi ho (hall i hi) d hd) (fun d hd => h.made d hd (hwr d hd)) (fun d d' hd hd' hne => h.apart d d' hd hd' hne (hwr d hd) (hwr d' hd'))
  | succ fuel ih =>
    intro listed t w hcn h
    have hls := h.head.size
    -- some operation of the head is not yet listed
    have hex : ∃ i, i < n ∧ listed.getD i true = false := by
      apply Classical.byContradiction
      intro hno
      have hall : ∀ i, i < n → listed.getD i false = true := by
        intro i hi
        cases hx : listed.getD i false with
        | true => rfl
        | false => exact absurd ⟨i, hi, getD_in (by omega) hx⟩ hno
      have e2 : (listed.toList.take n).count false = 0 := by
        apply List.count_eq_zero.2
        intro hm
        obtain ⟨i, hi⟩ := List.mem_iff_getElem?.1 hm
        have hin : i < n := by
          rcases Nat.lt_or_ge i n with h | h
          · exact h
          · rw [List.getElem?_take, if_neg (by omega)] at hi; cases hi
        rw [List.getElem?_take, if_pos hin] at hi
        have := hall i hin
        have hil : i < listed.size := by omega
        simp [hil] at this hi
        rw [this] at hi
        cases hi
      have e3 : (listed.toList.drop n).count false ≤ ops.size - n := by
        have := List.count_le_length (a := false) (l := listed.toList.drop n)
        rw [List.length_drop, Array.length_toList, hls] at this
        exact this
      rw [← List.take_append_drop n listed.toList, List.count_append, e2] at hcn
      omega
    obtain ⟨i0, hi0, hun0⟩ := hex
    rw [show fuel + 1 + (ops.size - n) = (fuel + (ops.size - n)) + 1 by omega]
    refine ⟨fun hr => ?_, fun i hi => ?_⟩
    · obtain ⟨j, _, hj⟩ := head_ready hb hls i0 (by omega) hun0
      rw [hr] at hj
      cases hj
    have hiN : i < n := by
      rcases Nat.lt_or_ge i n with h' | h'
      · exact h'
      · exact absurd hi (tail_waits hs hc hn h.head _ i0 rfl hi0 hun0 i h')
    obtain ⟨hun, o, ho, hpre⟩ := mem_ready.1 hi
    have hl : i < listed.size := by omega
    have hmemT : o ∈ ops.toList.take n := by
      refine List.mem_iff_getElem?.2 ⟨i, ?_⟩
      rw [List.getElem?_take, if_pos hiN]
      simpa using ho
    have hd0 := hin o hmemT
    obtain ⟨d, hd⟩ : ∃ d, o.dst = some d := by cases e : o.dst with | none => rw [e] at hd0; cases hd0 | some d => exact ⟨d, rfl⟩
    have hdn : d < t.size := by rw [h.size]; rw [hd] at hd0; simpa using hd0
    have hcnt : (listed.setIfInBounds i true).toList.count false = fuel + (ops.size - n) := by
      rw [Array.toList_setIfInBounds, List.count_set (by simpa using hl)]
      have e : listed.toList[i]'(by simpa using hl) = false := by simp [hl] at hun; simpa using hun
      have hp : 0 < listed.toList.count false := List.count_pos_iff.2 (by rw [← e]; simp)
      rw [e]
      simp only [beq_self_eq_true, if_true, Bool.true_beq, Bool.false_eq_true, if_false]
      omega
    have hpreds : ∀ s, hasPred ops o s = true → F s (slot t s) w := by
      intro s hs'
      simp only [hasPred, List.contains_iff_mem, predSlots, List.mem_filterMap, List.mem_filter] at hs'
      obtain ⟨e, ⟨he, hbnd⟩, hes⟩ := hs'
      have h1 := hpre e (by simpa using he) hbnd
      have h2 := edgesBack_get ops.toList 0 hb i o (by simpa using ho) e (by simpa using he) hbnd
      unfold dstOf at hes
      cases eo : ops[e.on]? with
      | none => rw [eo] at hes; cases hes
      | some o' => rw [eo] at hes; exact h.facts e.on o' (by omega) eo h1 s hes
    have hback : ∀ d1, d ≠ d1 → wrote ops n (listed.setIfInBounds i true) d1 → wrote ops n listed d1 := by
      intro d1 hne ⟨j, o', hjn, ho', hj, hd'⟩
      refine ⟨j, o', hjn, ho', ?_, hd'⟩
      by_cases hij : i = j
      · subst hij
        rw [ho] at ho'
        cases ho'
        rw [hd] at hd'
        exact absurd (Option.some.inj hd') hne
      · rw [getD_set_ne false hij] at hj; exact hj
    have next : ∀ v w', R w w' → (∀ d' v', d ≠ d' → F d' v' w → F d' v' w') → F d v w' → (∃ k, PhIn E (listed.setIfInBounds i true) k ∧ k ≤ E.length ∧ Ph k w') → (M.contains d = true → ∃ g, ptrBlock v = some g ∧ w.heap.size ≤ g ∧ g < w'.heap.size) → wpAny P .any ops Q (fuel + (ops.size - n)) (listed.setIfInBounds i true) ((Act.mk t ds).put o.dst v) w' := by
      intro v w' hk hsb hf hpn hnew
      have e : (Act.mk t ds).put o.dst v = ⟨t.setIfInBounds d v, ds⟩ := by rw [hd]; rfl
      rw [e]
      refine ih _ _ _ hcnt ⟨by simpa using h.size, h.head.set hi hiN, fun s hs' => ?_, hR.trans h.kept hk, hpn, fun j o' hjn ho' hj d' hd' => ?_, fun d1 hd1 hw1 => ?_, fun d1 d2 hd1 hd2 hne hw1 hw2 => ?_⟩
      · by_cases hds : d = s
        · exfalso
          subst hds
          simp only [slotFreeH, List.all_eq_true] at hs'
          have := hs' o hmemT
          simp [hd] at this
        · rw [slot_put_ne _ _ _ _ hds]; exact h.frame s hs'
      · by_cases hdd : d = d'
        · subst hdd; rw [slot_put_same _ _ _ hdn]; exact hf
        · rw [slot_put_ne _ _ _ _ hdd]
          by_cases hij : i = j
          · subst hij
            rw [ho] at ho'
            cases ho'
            rw [hd] at hd'
            exact absurd (Option.some.inj hd') hdd
          · rw [getD_set_ne false hij] at hj
            exact hsb _ _ hdd (h.facts j o' hjn ho' hj d' hd')
      · by_cases hdd : d = d1
        · subst hdd
          rw [slot_put_same _ _ _ hdn]
          obtain ⟨g, h1, h2, h3⟩ := hnew hd1
          exact ⟨g, h1, Nat.le_trans (hR.size h.kept) h2, h3⟩
        · rw [slot_put_ne _ _ _ _ hdd]
          obtain ⟨g, h1, h2, h3⟩ := h.made d1 hd1 (hback d1 hdd hw1)
          exact ⟨g, h1, h2, Nat.lt_of_lt_of_le h3 (hR.size hk)⟩
      · by_cases hdd : d = d1
        · subst hdd
          rw [slot_put_same _ _ _ hdn, slot_put_ne _ _ _ _ hne]
          obtain ⟨g, h1, h2, _⟩ := hnew hd1
          obtain ⟨g', h1', _, h3'⟩ := h.made d2 hd2 (hback d2 hne hw2)
          rw [h1, h1']
          intro he
          have := Option.some.inj he
          omega
        · by_cases hde : d = d2
          · subst hde
            rw [slot_put_same _ _ _ hdn, slot_put_ne _ _ _ _ hdd]
            obtain ⟨g, h1, h2, _⟩ := hnew hd2
            obtain ⟨g', h1', _, h3'⟩ := h.made d1 hd1 (hback d1 hdd hw1)
            rw [h1, h1']
            intro he
            have := Option.some.inj he
            omega
          · rw [slot_put_ne _ _ _ _ hdd, slot_put_ne _ _ _ _ hde]
            exact h.apart d1 d2 hd1 hd2 hne (hback d1 hdd hw1) (hback d2 hde hw2)
    obtain ⟨k, hk1, hk2, hk3⟩ := h.phase
    have hi0 : (ops.toList.take n)[i]? = some o := by
      rw [List.getElem?_take, if_pos hiN]
      simpa using ho
    have hstep := stepsPh_get (ops.toList.take n) 0 hsteps i o hi0 t w k h.frame h.kept hk3 hpreds
    rw [Nat.zero_add] at hstep
    have hd' : o.dst.getD 0 = d := by rw [hd]; rfl
    unfold StepPh at hstep
    rw [hd'] at hstep
    cases hEi : E.findIdx? (fun x => x == i) with
    | some j =>
      rw [hEi] at hstep
      obtain ⟨hj, hjE⟩ := findIdx_get hEi
      have hkj : k = j := by
        rcases Nat.lt_trichotomy k j with hlt | he | hgt
        · -- the one before is not listed, but this one waits for it
          exfalso
          have hw := effB_chain hE (j - 1) (by omega)
          rw [show j - 1 + 1 = j by omega, hj] at hw
          obtain ⟨o2, ho2, e, he, hbd, hon⟩ := hw
          have hoo : o2 = o := Option.some.inj (ho2.symm.trans (by simpa using ho))
          have h1 := hpre e (hoo ▸ he) hbd
          rw [hon] at h1
          have h2 := hk1.2 (j - 1) (by omega) (by omega)
          rw [getD_of_false h1] at h2
          cases h2
        · exact he
        · exfalso
          have h1 := hk1.1 j hgt
          rw [hj] at h1
          rw [getD_of_false h1] at hun
          cases hun
      subst hkj
      have hph : PhIn E (listed.setIfInBounds i true) (k + 1) := by
        refine ⟨fun x hx => ?_, fun x hx hxE => ?_⟩
        · by_cases hxk : x = k
          · subst hxk; rw [hj, getD_set_self _ hl]
          · have hne : i ≠ E.getD x 0 := by rw [← hj]; have := effB_lt2 hE x k (by omega) (by omega); omega
            rw [getD_set_ne false hne]
            exact hk1.1 x (by omega)
        · have hne : i ≠ E.getD x 0 := by rw [← hj]; have := effB_lt2 hE k x (by omega) (by omega); omega
          rw [getD_set_ne true hne]
          exact hk1.2 x (by omega) hxE
      have hMd : M.contains d = false := by
        have := effB_made hE k hjE
        rw [hj, show ops[i]? = some o by simpa using ho] at this
        simpa [hd] using this
      have nextE : ∀ v w', R w w' → F d v w' → Ph (k + 1) w' → wpAny P .any ops Q (fuel + (ops.size - n)) (listed.setIfInBounds i true) ((Act.mk t ds).put o.dst v) w' := fun v w' hk hf hp => next v w' hk (fun d' v' hne => hst d' v' w w' (ownB_no hX hjE (by rw [hj]; simpa using ho) hd hne) hk) hf ⟨k + 1, hph, by omega, hp⟩ (fun h => by rw [hMd] at h; cases h)
      unfold wpOp
      rw [ho]
      simp only
      have hs := hstep rfl
      have hg : o.guard = none := by cases hs <;> assumption
      have hw : Region.wanted o (yielded ops t) = true := by unfold Region.wanted; rw [hg]
      rw [if_pos hw]
      refine .inl ?_
      unfold Oper.wp
      rw [evS_eq]
      cases hs with
      | value _ v w' hx hk' hf hp => rw [hx]; exact nextE v w' hk' hf hp
      | call _ g args hx hc =>
        rw [hx]
        refine Calls.mono hc fun e w' he => ?_
        obtain ⟨v, rfl, hk', hf, hp⟩ := he
        exact nextE v w' hk' hf hp
    | none =>
    rw [hEi] at hstep
    simp only at hstep
    have hnE : ∀ x, x < E.length → i ≠ E.getD x 0 := findIdx_none hEi
    have hph : ∀ w', Kept w w' → ∃ k, PhIn E (listed.setIfInBounds i true) k ∧ k ≤ E.length ∧ Ph k w' := fun w' hk' =>
      ⟨k, ⟨fun x hx => by rw [getD_set_ne false (hnE x (by omega))]; exact hk1.1 x hx, fun x hx hxE => by rw [getD_set_ne true (hnE x hxE)]; exact hk1.2 x hx hxE⟩, hk2, hR.ph hk3 hk'⟩
    unfold StepM at hstep
    rw [hd'] at hstep
    cases hMd : M.contains d with
    | true =>
      rw [hMd] at hstep
      obtain ⟨hg, v, w', g, hx, hk, hf, hb, h1, h2⟩ := hstep
      have hw : Region.wanted o (yielded ops t) = true := by unfold Region.wanted; rw [hg]
      unfold wpOp
      rw [ho]
      simp only
      rw [if_pos hw]
      refine .inl ?_
      unfold Oper.wp
      rw [evS_eq, hx]
      exact next v w' (hR.kept hk) (fun d' v' _ => hstK d' v' w w' hk) hf (hph w' hk) (fun _ => ⟨g, hb, h1, h2⟩)
    | false =>
    rw [hMd] at hstep
    have nextS : ∀ v w', Kept w w' → F d v w' → wpAny P .any ops Q (fuel + (ops.size - n)) (listed.setIfInBounds i true) ((Act.mk t ds).put o.dst v) w' := fun v w' hk hf => next v w' (hR.kept hk) (fun d' v' _ => hstK d' v' w w' hk) hf (hph w' hk) (fun h => by rw [hMd] at h; cases h)
    have run : StepOK P F d o t w → o.wp P ⟨t, ds⟩ w (wpAny P .any ops Q (fuel + (ops.size - n)) (listed.setIfInBounds i true)) Q := by
      intro hs
      unfold Oper.wp
      rw [evS_eq]
      cases hs with
      | value v w' hx hk hf => rw [hx]; exact nextS v w' hk hf
      | call g args hx hc =>
        rw [hx]
        refine Calls.mono hc fun e w' he => ?_
        obtain ⟨v, rfl, hk, hf⟩ := he
        exact nextS v w' hk hf
    unfold wpOp
    rw [ho]
    simp only
    simp only at hstep
    unfold StepAt gslot at hstep
    rw [hd'] at hstep
    cases hg : o.guard with
    | none =>
      rw [hg] at hstep
      have hw : Region.wanted o (yielded ops t) = true := by unfold Region.wanted; rw [hg]
      rw [if_pos hw]
      exact .inl (run hstep)
    | some jb =>
      obtain ⟨j, b⟩ := jb
      rw [hg] at hstep
      simp only [Option.map_some] at hstep
      cases hj : dstOf ops j with
      | none => rw [hj] at hstep; exact hstep.elim
      | some s =>
        rw [hj] at hstep
        have hy : ∀ b', slot t s = .bool b' → yielded ops t j = some b' := by
          intro b' hb'
          have hs : t[s]? = some (.bool b') := by
            unfold slot at hb'
            cases e : t[s]? with
            | none => simp [Array.getD_eq_getD_getElem?, e, undef] at hb'
            | some x => simp [Array.getD_eq_getD_getElem?, e] at hb'; rw [hb']
          unfold yielded
          unfold dstOf at hj
          rw [hj]
          simp [hs]
        simp only at hstep
        rcases hstep with ⟨hv, hs⟩ | ⟨hv, hf⟩
        · have hw : Region.wanted o (yielded ops t) = true := by unfold Region.wanted; rw [hg]; simp [hy b hv]
          rw [if_pos hw]
          exact .inl (run hs)
        · have hw : ¬ Region.wanted o (yielded ops t) = true := by unfold Region.wanted; rw [hg]; simp [hy _ hv]
          rw [if_neg hw]
          exact nextS undef w (Kept.refl w) hf

/-! ### Facts as a table -/
/-- What goes with R and Ph: blocks that R leaves alone (Fr). -/
structure RelFr (R : World → World → Prop) (Ph : Nat → World → Prop) (Fr : Nat → World → Prop) : Prop extends RelOk R Ph where
  free : ∀ {a b i}, R a b → i < a.heap.size → Fr i a → Fr i b ∧ b.heap[i]? = a.heap[i]?
  new : ∀ {k a b i}, Ph k a → Kept a b → a.heap.size ≤ i → Fr i b
inductive FactR (R : World → World → Prop) where
  | is (v : Value)
  | row (mk : Nat → Value) (C : Array Value) (T : TypeId)
  | such (p : Value → World → Prop) (st : ∀ v w w', R w w' → p v w → p v w')
  | own (p : Value → World → Prop) (st : ∀ v w w', Kept w w' → p v w → p v w')
  | no
def FactR.holds {R : World → World → Prop} (Fr : Nat → World → Prop) : FactR R → Value → World → Prop
  | .is c, v, _ => v = c
  | .row mk C T, v, w => ∃ g, v = mk g ∧ Rowz w g C T ∧ Fr g w
  | .such p _, v, w => p v w
  | .own p _, v, w => p v w
  | .no, _, _ => False
def FactR.owned {R : World → World → Prop} : FactR R → Bool
  | .own _ _ => true
  | _ => false
def factAtR {R : World → World → Prop} : List (Nat × FactR R) → Nat → FactR R
  | [], _ => .no
  | (k, f) :: r, d => if k = d then f else factAtR r d
def TFR {R : World → World → Prop} (Fr : Nat → World → Prop) (L : List (Nat × FactR R)) (d : Nat) (v : Value) (w : World) : Prop := (factAtR L d).holds Fr v w
theorem FactR.holds_rel {R : World → World → Prop} {Ph : Nat → World → Prop} {Fr : Nat → World → Prop} (hR : RelFr R Ph Fr) {f : FactR R} {v : Value} {w w' : World} (ho : f.owned = false) (hk : R w w') (h : f.holds Fr v w) : f.holds Fr v w' := by
  cases f with
  | own p st => cases ho
  | is c => exact h
  | row mk C T =>
    obtain ⟨g, hv, hr, hf⟩ := h
    obtain ⟨h1, h2⟩ := hR.free hk hr.lt hf
    exact ⟨g, hv, h2.trans hr, h1⟩
  | such p st => exact st v w w' hk h
  | no => exact h
theorem FactR.holds_kept {R : World → World → Prop} {Ph : Nat → World → Prop} {Fr : Nat → World → Prop} (hR : RelFr R Ph Fr) {f : FactR R} {v : Value} {w w' : World} (hk : Kept w w') (h : f.holds Fr v w) : f.holds Fr v w' := by
  cases f with
  | own p st => exact st v w w' hk h
  | is c => exact h
  | row mk C T => exact FactR.holds_rel hR (f := .row mk C T) rfl (hR.kept hk) h
  | such p st => exact st v w w' (hR.kept hk) h
  | no => exact h
/-- All slots of the table but X hold under R. -/
def ownT {R : World → World → Prop} (L : List (Nat × FactR R)) (X : List Nat) : Bool := L.all fun x => !x.2.owned || X.contains x.1
theorem ownT_no {R : World → World → Prop} {X : List Nat} : ∀ {L : List (Nat × FactR R)}, ownT L X = true → ∀ {d}, X.contains d = false → (factAtR L d).owned = false
  | [], _, _, _ => rfl
  | (k, f) :: r, h, d, hd => by
    simp only [ownT, List.all_cons, Bool.and_eq_true, Bool.or_eq_true, Bool.not_eq_true'] at h
    unfold factAtR
    by_cases he : k = d
    · rw [if_pos he]
      subst he
      rcases h.1 with h1 | h1
      · exact h1
      · rw [hd] at h1; cases h1
    · rw [if_neg he]
      exact ownT_no (L := r) h.2 hd
theorem stepEff_call {P : Program} {F : Nat → Value → World → Prop} {R : World → World → Prop} {Ph : Nat → World → Prop} {j d : Nat} {o : Oper} {t : Array Value} {w : World} {f : FuncId} {ars : Array Operand} {ats : Array TypeId} (hg : o.guard = none) (args : Array Value) (hop : o.op = .call { callee := .value (.func f), args := ars, argTypes := ats })
    (ha : ars.map (evS t) = args) (hc : (callFunc f args).run P w = .ok (.enter f args) w) (c : Calls P f args w fun e w' => ∃ v, e = .returned v ∧ R w w' ∧ F d v w' ∧ Ph (j + 1) w') : StepEff P F R Ph j d o t w :=
  .call hg f args (by rw [exec_call t hop, ha]; exact hc) c
theorem stepEff_val {P : Program} {F : Nat → Value → World → Prop} {R : World → World → Prop} {Ph : Nat → World → Prop} {j d : Nat} {o : Oper} {t : Array Value} {w : World} (hg : o.guard = none) (h : ∃ v w', (execOp (evS t) o).run P w = .ok (.value v) w' ∧ R w w' ∧ F d v w' ∧ Ph (j + 1) w') : StepEff P F R Ph j d o t w := by
  obtain ⟨v, w', h1, h2, h3, h4⟩ := h
  exact .value hg v w' h1 h2 h3 h4
/-- A drawn statement whose operations numbered E come in one chain of phases. -/
theorem wp_region_phase {id : Nat} {R : World → World → Prop} {Ph : Nat → World → Prop} {Fr : Nat → World → Prop} (hR : RelFr R Ph Fr) (h0 : Ph 0 w0.drew) (n : Nat) (M E X : List Nat) (L : List (Nat × FactR R)) (hm : P.follows .mixedOrders = true) (hB : tailB ops n t0.size = true) (hE : effB ops n M E = true) (hX : ownB ops E X = true) (hT : ownT L X = true) (hM : M.all (fun d => wroteIn (ops.toList.take n) d) = true)
    (hsteps : StepsPh M E P ops n (TFR Fr L) R Ph t0 w0 0 (ops.toList.take n))
    (hdone : ∀ t w, t.size = t0.size → (∀ s, slotFreeH ops n s = true → slot t s = slot t0 s) → R w0 w → Ph E.length w → (∀ (i : Nat) (o : Oper), i < n → ops[i]? = some o → ∀ d, o.dst = some d → TFR Fr L d (slot t d) w) →
      (∀ d, M.contains d = true → ∃ g, ptrBlock (slot t d) = some g ∧ w0.heap.size ≤ g ∧ g < w.heap.size) → (∀ d d', M.contains d = true → M.contains d' = true → d ≠ d' → ptrBlock (slot t d) ≠ ptrBlock (slot t d')) → wpList P ops Q (ops.toList.drop n) ⟨t, ds⟩ w) :
    (Code.region id ops true).wp P Q ⟨t0, ds⟩ w0 := by
  have hn : n < ops.size := by
    simp only [tailB, Bool.and_eq_true, decide_eq_true_eq] at hB
    exact hB.1.1.1.2
  refine wp_region_any hm ?_
  have hno : ∀ d, ¬ wrote ops n (Array.replicate ops.size false) d := fun d ⟨i, o, _, _, hl, _⟩ => by rw [getD_replicate_false] at hl; cases hl
  have := wpAny_phase (P := P) (Q := Q) (F := TFR Fr L) (M := M) (E := E) (X := X) (ds := ds) hR.toRelOk hE hB hX (fun d _ _ _ hd hk h => FactR.holds_rel hR (ownT_no hT hd) hk h) (fun _ _ _ _ hk h => FactR.holds_kept hR hk h) hM hsteps hdone n (Array.replicate ops.size false) t0 { w0 with drawn := w0.drawn + 1 } (by simp; omega)
    ⟨rfl, ⟨by simp, fun j oj _ hl => (by rw [getD_replicate_false] at hl; cases hl), fun t _ ht => getD_in (by simpa using ht) (getD_replicate_false _ _)⟩, fun _ _ => rfl, hR.kept (Kept.refl w0), ⟨0, ⟨fun j hj => absurd hj (Nat.not_lt_zero j), fun j _ hj => getD_in (by have := effB_lt hE j hj; rw [Array.size_replicate]; omega) (getD_replicate_false _ _)⟩, Nat.zero_le _, h0⟩, fun i o _ _ hl => (by rw [getD_replicate_false] at hl; cases hl), fun d _ h => absurd h (hno d), fun d _ _ _ _ h _ => absurd h (hno d)⟩
  rwa [show n + (ops.size - n) = ops.size by omega] at this
end
end Go.Proofs.YtggpjhldmaflaaaDoor
