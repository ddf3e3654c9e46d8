/-
  Drawn statements whose tail may come up ahead of one late 'extract' ('x, ok := f(..)' with x an array: the store may come ahead of ok's extract).
-/
import Derived.Test.YtggpjhldmaflaaaDoorBas
namespace Go.Proofs.YtggpjhldmaflaaaDoor
set_option maxRecDepth 4000
open Go.RowKit
section
variable {P : Program} {ops : Array Oper} {n : Nat} {Q : Exit → Act → World → Prop} {F : Nat → Value → World → Prop} {t0 : Array Value} {ds : List Deferred} {w0 : World}

/-- Edges that bind go back (others may not: 'gcOnly'). -/
def edgesA (ops : Array Oper) : Bool := (List.range ops.size).all fun i => match ops[i]? with | some o => o.after.all fun e => !(Region.binds .any e) || decide (e.on < i) | none => true
theorem edgesA_get (h : edgesA ops = true) (i : Nat) (o : Oper) (ho : ops[i]? = some o) (e : Edge) (he : e ∈ o.after) (hb : Region.binds .any e = true) : e.on < i := by
  have hi : i < ops.size := (Array.getElem?_eq_some_iff.1 ho).1
  have h1 := List.all_eq_true.1 h i (List.mem_range.2 hi)
  rw [ho] at h1
  have h2 := Array.all_eq_true_iff_forall_mem.1 h1 e he
  simpa [hb] using h2
theorem head_readyA (hb : edgesA ops = true) {listed : Array Bool} (hs : listed.size = ops.size) : ∀ i, i < ops.size → listed.getD i true = false → ∃ j, j ≤ i ∧ j ∈ Region.ready .any ops listed := by
  intro i
  induction i using Nat.strongRecOn with
  | ind i ih =>
    intro hi hun
    by_cases h : ∃ j, j < i ∧ listed.getD j true = false
    · obtain ⟨j, hj, hjn⟩ := h
      obtain ⟨k, hk, hr⟩ := ih j hj (by omega) hjn
      exact ⟨k, by omega, hr⟩
    · refine ⟨i, Nat.le_refl _, mem_ready.2 ⟨hun, ops[i], by simp [hi], fun e he hbd => ?_⟩⟩
      have h1 := edgesA_get hb i ops[i] (by simp [hi]) e he hbd
      have hl : e.on < listed.size := by rw [hs]; omega
      cases hx : listed.getD e.on false with
      | true => rfl
      | false => exact absurd ⟨e.on, by omega, getD_in hl hx⟩ h
theorem HInv_step {M : List Nat} (hb : edgesA ops = true) (hn : n < ops.size) (hst : ∀ d v w w', Kept w w' → F d v w → F d v w') {listed : Array Bool} {t : Array Value} {w : World} {fuel : Nat} (hcn : listed.toList.count false = fuel + 1 + (ops.size - n)) (h : HInv M ops n F t0 w0 listed t w)
    {i : Nat} {o : Oper} {d : Nat} (hi : i ∈ Region.ready .any ops listed) (hiN : i < n) (ho : ops[i]? = some o) (hd : o.dst = some d) (hdn : d < t.size) :
    (listed.setIfInBounds i true).toList.count false = fuel + (ops.size - n) ∧ (∀ s, hasPred ops o s = true → F s (slot t s) w) ∧
    ∀ v w', Kept w w' → F d v w' → (M.contains d = true → ∃ g, ptrBlock v = some g ∧ w.heap.size ≤ g ∧ g < w'.heap.size) → HInv M ops n F t0 w0 (listed.setIfInBounds i true) (t.setIfInBounds d v) w' := by
  obtain ⟨hun, o2, ho2, hpre2⟩ := mem_ready.1 hi
  have hoo : o2 = o := Option.some.inj (ho2.symm.trans ho)
  have hpre : ∀ e ∈ o.after, Region.binds .any e = true → listed.getD e.on false = true := by rw [← hoo]; exact hpre2
  have hls := h.head.size
  have hl : i < listed.size := by omega
  have hmemT : o ∈ ops.toList.take n := by
    refine List.mem_iff_getElem?.2 ⟨i, ?_⟩
    rw [List.getElem?_take, if_pos hiN]
    simpa using ho
  have hcnt : (listed.setIfInBounds i true).toList.count false = fuel + (ops.size - n) := by
    rw [Array.toList_setIfInBounds, List.count_set (by simpa using hl)]
    have e : listed.toList[i]'(by simpa using hl) = false := by simp [hl] at hun; simpa using hun
    have hp : 0 < listed.toList.count false := List.count_pos_iff.2 (by rw [← e]; simp)
    rw [e]
    simp only [beq_self_eq_true, if_true, Bool.true_beq, Bool.false_eq_true, if_false]
    omega
  have hpreds : ∀ s, hasPred ops o s = true → F s (slot t s) w := by
    intro s hs'
    simp only [hasPred, List.contains_iff_mem, predSlots, List.mem_filterMap, List.mem_filter] at hs'
    obtain ⟨e, ⟨he, hbnd⟩, hes⟩ := hs'
    have h1 := hpre e (by simpa using he) hbnd
    have h2 := edgesA_get hb i o ho e (by simpa using he) hbnd
    unfold dstOf at hes
    cases eo : ops[e.on]? with
    | none => rw [eo] at hes; cases hes
    | some o' => rw [eo] at hes; exact h.facts e.on o' (by omega) eo h1 s hes
  have hback : ∀ d1, d ≠ d1 → wrote ops n (listed.setIfInBounds i true) d1 → wrote ops n listed d1 := by
    intro d1 hne ⟨j, o', hjn, ho', hj, hd'⟩
    refine ⟨j, o', hjn, ho', ?_, hd'⟩
    by_cases hij : i = j
    · subst hij
      rw [ho] at ho'
      cases ho'
      rw [hd] at hd'
      exact absurd (Option.some.inj hd') hne
    · rw [getD_set_ne false hij] at hj; exact hj
  refine ⟨hcnt, hpreds, fun v w' hk hf hnew => ?_⟩
  refine ⟨by simpa using h.size, h.head.set hi hiN, fun s hs' => ?_, h.kept.trans hk, fun j o' hjn ho' hj d' hd' => ?_, fun d1 hd1 hw1 => ?_, fun d1 d2 hd1 hd2 hne hw1 hw2 => ?_⟩
  · by_cases hds : d = s
    · exfalso
      subst hds
      simp only [slotFreeH, List.all_eq_true] at hs'
      have := hs' o hmemT
      simp [hd] at this
    · rw [slot_put_ne _ _ _ _ hds]; exact h.frame s hs'
  · by_cases hdd : d = d'
    · subst hdd; rw [slot_put_same _ _ _ hdn]; exact hf
    · rw [slot_put_ne _ _ _ _ hdd]
      by_cases hij : i = j
      · subst hij
        rw [ho] at ho'
        cases ho'
        rw [hd] at hd'
        exact absurd (Option.some.inj hd') hdd
      · rw [getD_set_ne false hij] at hj
        exact hst _ _ _ _ hk (h.facts j o' hjn ho' hj d' hd')
  · by_cases hdd : d = d1
    · subst hdd
      rw [slot_put_same _ _ _ hdn]
      obtain ⟨g, h1, h2, h3⟩ := hnew hd1
      exact ⟨g, h1, Nat.le_trans h.kept.size h2, h3⟩
    · rw [slot_put_ne _ _ _ _ hdd]
      obtain ⟨g, h1, h2, h3⟩ := h.made d1 hd1 (hback d1 hdd hw1)
      exact ⟨g, h1, h2, Nat.lt_of_lt_of_le h3 hk.size⟩
  · by_cases hdd : d = d1
    · subst hdd
      rw [slot_put_same _ _ _ hdn, slot_put_ne _ _ _ _ hne]
      obtain ⟨g, h1, h2, _⟩ := hnew hd1
      obtain ⟨g', h1', _, h3'⟩ := h.made d2 hd2 (hback d2 hne hw2)
      rw [h1, h1']
      intro he
      have := Option.some.inj he
      omega
    · by_cases hde : d = d2
      · subst hde
        rw [slot_put_same _ _ _ hdn, slot_put_ne _ _ _ _ hdd]
        obtain ⟨g, h1, h2, _⟩ := hnew hd2
        obtain ⟨g', h1', _, h3'⟩ := h.made d1 hd1 (hback d1 hdd hw1)
        rw [h1, h1']
        intro he
        have := Option.some.inj he
        omega
      · rw [slot_put_ne _ _ _ _ hdd, slot_put_ne _ _ _ _ hde]
        exact h.apart d1 d2 hd1 hd2 hne (hback d1 hdd hw1) (hback d2 hde hw2)

def fineA (ops : Array Oper) (n m : Nat) : Bool := edgesA ops && (ops.toList.take n).all fun o => match o.dst with | some d => decide (d < m) | none => false
def sinkLB (ops : Array Oper) (n l : Nat) : Bool := (List.range n).all fun i => i == l || (List.range (n + 1)).any fun j => decide (i < j) && j != l && Region.waitsFor .any ops j i
def headLate (ops : Array Oper) (n l : Nat) : Array Bool := ((List.range ops.size).map fun i => decide (i < n) && i != l).toArray
def isExtract (o : Oper) : Bool := o.guard.isNone && match o.op with | .extract _ _ => true | _ => false
def lateB (ops : Array Oper) (n m l : Nat) : Bool :=
  fineA ops n m && decide (n < ops.size) && sinkLB ops n l && Region.chainB .any ops n && Region.seqB .any ops (ops.size - n) n (headDone ops n) &&
    (Region.noSelect ops && Region.free .any ops (headLate ops n l) l && (Region.ready .any ops (headLate ops n l)).contains l && decide (l < n) && (ops[l]?.map isExtract == some true))
theorem late_waits {l : Nat} {listed : Array Bool} (hs : sinkLB ops n l = true) (hc : Region.chainB .any ops n = true) (inv : HeadInv .any ops n listed) :
    ∀ (d i : Nat), n - i = d → i < n → i ≠ l → listed.getD i true = false → ∀ t, n ≤ t → t ∉ Region.ready .any ops listed := by
  intro d
  induction d using Nat.strongRecOn with
  | ind d ih =>
    intro i hd hi hil hun t ht hr
    obtain ⟨_, o, ho, hall⟩ := mem_ready.1 hr
    have hts : t < ops.size := (Array.getElem?_eq_some_iff.1 ho).1
    rcases Nat.lt_or_ge n t with hlt | hge
    · have h1 := List.all_eq_true.1 hc t (List.mem_range.2 hts)
      simp only [Bool.or_eq_true, decide_eq_true_eq] at h1
      have h2 : Region.waitsFor .any ops t (t - 1) = true := h1.resolve_left (by omega)
      obtain ⟨o2, ho2, e, he, hbd, hon⟩ := Region.waitsFor_spec h2
      have : o2 = o := Option.some.inj (ho2.symm.trans ho)
      subst this
      have h3 := hall e he hbd
      rw [hon, getD_both (inv.tail (t - 1) (by omega) (by omega))] at h3
      cases h3
    · have htn : t = n := by omega
      subst htn
      have h1 := List.all_eq_true.1 hs i (List.mem_range.2 hi)
      simp only [Bool.or_eq_true, beq_iff_eq] at h1
      obtain ⟨j, hj, hj2⟩ := List.any_eq_true.1 (h1.resolve_left hil)
      simp only [Bool.and_eq_true, decide_eq_true_eq, bne_iff_ne] at hj2
      obtain ⟨⟨hij, hjl⟩, hw⟩ := hj2
      have hjle := List.mem_range.1 hj
      obtain ⟨o2, ho2, e, he, hbd, hon⟩ := Region.waitsFor_spec hw
      rcases Nat.lt_or_ge j t with hjt | hjt
      · have hjun : listed.getD j true = false := by
          have hjs : j < listed.size := by rw [inv.size]; omega
          cases hx : listed.getD j false with
          | false => exact getD_in hjs hx
          | true =>
            have h3 := inv.closed j o2 ho2 hx e he hbd
            rw [hon, getD_both hun] at h3
            cases h3
        exact ih (t - j) (by omega) j rfl hjt hjl hjun t (Nat.le_refl _) hr
      · have : j = t := by omega
        subst this
        have : o2 = o := Option.some.inj (ho2.symm.trans ho)
        subst this
        have h3 := hall e he hbd
        rw [hon, getD_both hun] at h3
        cases h3
theorem wpAny_late {M : List Nat} (l : Nat) (hB : lateB ops n t0.size l = true) (hQ : ∀ c (a : Act) dst v w, Q (.panic c) (a.put dst v) w → Q (.panic c) a w) (hMl : (ops[l]?.bind (·.dst)).all (fun d => !M.contains d) = true) (hst : ∀ d v w w', Kept w w' → F d v w → F d v w') (hM : M.all (fun d => wroteIn (ops.toList.take n) d) = true) (hsteps : StepsHead M P ops n F t0 w0 (ops.toList.take n))
    (hdone : ∀ t w, t.size = t0.size → (∀ s, slotFreeH ops n s = true → slot t s = slot t0 s) → Kept w0 w → (∀ (i : Nat) (o : Oper), i < n → ops[i]? = some o → ∀ d, o.dst = some d → F d (slot t d) w) →
      (∀ d, M.contains d = true → ∃ g, ptrBlock (slot t d) = some g ∧ w0.heap.size ≤ g ∧ g < w.heap.size) → (∀ d d', M.contains d = true → M.contains d' = true → d ≠ d' → ptrBlock (slot t d) ≠ ptrBlock (slot t d')) → wpList P ops Q (ops.toList.drop n) ⟨t, ds⟩ w) :
    ∀ (fuel : Nat) (listed : Array Bool) (t : Array Value) (w : World), listed.toList.count false = fuel + (ops.size - n) → HInv M ops n F t0 w0 listed t w → wpAny P .any ops Q (fuel + (ops.size - n)) listed ⟨t, ds⟩ w := by
  simp only [lateB, fineA, Bool.and_eq_true, decide_eq_true_eq, List.all_eq_true] at hB
  obtain ⟨⟨⟨⟨⟨⟨hb, hin⟩, hn⟩, hs⟩, hc⟩, hseq⟩, ⟨⟨⟨⟨hns, hfr⟩, hrd⟩, hln⟩, hext⟩⟩ := hB
  intro fuel
  induction fuel with
  | zero =>
    intro listed t w hcn h
    have hall : ∀ i, i < n → listed.getD i false = true := by
      intro i hi
      cases hx : listed.getD i false with
      | true => rfl
      | false =>
        exfalso
        have hls := h.head.size
        -- the tail alone has ops.size - n unlisted entries
        have e1 : listed.toList = listed.toList.take n ++ listed.toList.drop n := (List.take_append_drop n _).symm
        have e2 : listed.toList.drop n = List.replicate (ops.size - n) false := by
          apply List.ext_getElem?
          intro k
          rw [List.getElem?_drop, List.getElem?_replicate]
          by_cases hk : k < ops.size - n
          · rw [if_pos hk]
            have := h.head.tail (n + k) (by omega) (by omega)
            have hl : n + k < listed.size := by omega
            simp [hl] at this ⊢
            exact this
          · rw [if_neg hk]
            have hl : listed.size ≤ n + k := by omega
            simp [hl]
        rw [e1, List.count_append, e2, List.count_replicate_self] at hcn
        have hil : i < listed.size := by omega
        have hm : false ∈ listed.toList.take n := by
          refine List.mem_iff_getElem?.2 ⟨i, ?_⟩
          rw [List.getElem?_take, if_pos hi]
          simp [hil] at hx ⊢
          exact hx
        have := List.count_pos_iff.2 hm
        omega
    have he : listed = headDone ops n := by
      apply Array.ext
      · rw [h.head.size]; simp [headDone]
      · intro i h1 h2
        have hi : i < ops.size := by rw [← h.head.size]; exact h1
        by_cases hin : i < n
        · have := hall i hin
          simp [h1] at this
          simp [headDone, hin, this]
        · have := h.head.tail i (by omega) hi
          simp [h1] at this
          simp [headDone, hin, this]
    have hl : (ops.toList.drop n).length = ops.size - n := by simp
    rw [Nat.zero_add, ← hl]
    refine wpAny_of_seq (ops.toList.drop n) n listed _ _ (fun j => by rw [List.getElem?_drop]; simp) (by rw [hl, he]; exact hseq) ?_
    have hwr : ∀ d, M.contains d = true → wrote ops n listed d := by
      intro d hd
      have h1 := List.all_eq_true.1 hM d (by simpa using hd)
      obtain ⟨o, ho, hod⟩ := List.any_eq_true.1 h1
      obtain ⟨i, hi⟩ := List.mem_iff_getElem?.1 ho
      have hin : i < n := by
        rcases Nat.lt_or_ge i n with h | h
        · exact h
        · rw [List.getElem?_take, if_neg (by omega)] at hi; cases hi
      rw [List.getElem?_take, if_pos hin] at hi
      exact ⟨i, o, hin, by simpa using hi, hall i hin, by simpa using hod⟩
    exact hdone t w h.size h.frame h.kept (fun i o hi ho d hd => h.facts i o hi ho (hall i hi) d hd) (fun d hd => h.made d hd (hwr d hd)) (fun d d' hd hd' hne => h.apart d d' hd hd' hne (hwr d hd) (hwr d' hd'))
  | succ fuel ih =>
    intro listed t w hcn h
    have hls := h.head.size
    -- some operation of the head is not yet listed
    have hex : ∃ i, i < n ∧ listed.getD i true = false := by
      apply Classical.byContradiction
      intro hno
      have hall : ∀ i, i < n → listed.getD i false = true := by
        intro i hi
        cases hx : listed.getD i false with
        | true => rfl
        | false => exact absurd ⟨i, hi, getD_in (by omega) hx⟩ hno
      have e2 : (listed.toList.take n).count false = 0 := by
        apply List.count_eq_zero.2
        intro hm
        obtain ⟨i, hi⟩ := List.mem_iff_getElem?.1 hm
        have hin : i < n := by
          rcases Nat.lt_or_ge i n with h | h
          · exact h
          · rw [List.getElem?_take, if_neg (by omega)] at hi; cases hi
        rw [List.getElem?_take, if_pos hin] at hi
        have := hall i hin
        have hil : i < listed.size := by omega
        simp [hil] at this hi
        rw [this] at hi
        cases hi
      have e3 : (listed.toList.drop n).count false ≤ ops.size - n := by
        have := List.count_le_length (a := false) (l := listed.toList.drop n)
        rw [List.length_drop, Array.length_toList, hls] at this
        exact this
      rw [← List.take_append_drop n listed.toList, List.count_append, e2] at hcn
      omega
    have hcore : ∀ i, i ∈ Region.ready .any ops listed → i < n → wpOp P ops Q i (wpAny P .any ops Q (fuel + (ops.size - n)) (listed.setIfInBounds i true)) ⟨t, ds⟩ w := by
      intro i hi hiN
      obtain ⟨hun, o, ho, hpre⟩ := mem_ready.1 hi
      have hl : i < listed.size := by omega
      have hmemT : o ∈ ops.toList.take n := by
        refine List.mem_iff_getElem?.2 ⟨i, ?_⟩
        rw [List.getElem?_take, if_pos hiN]
        simpa using ho
      have hd0 := hin o hmemT
      obtain ⟨d, hd⟩ : ∃ d, o.dst = some d := by cases e : o.dst with | none => rw [e] at hd0; cases hd0 | some d => exact ⟨d, rfl⟩
      have hdn : d < t.size := by rw [h.size]; rw [hd] at hd0; simpa using hd0
      obtain ⟨hcnt, hpreds, hinv⟩ := HInv_step hb hn hst hcn h hi hiN ho hd hdn
      have next : ∀ v w', Kept w w' → F d v w' → (M.contains d = true → ∃ g, ptrBlock v = some g ∧ w.heap.size ≤ g ∧ g < w'.heap.size) → wpAny P .any ops Q (fuel + (ops.size - n)) (listed.setIfInBounds i true) ((Act.mk t ds).put o.dst v) w' := by
        intro v w' hk hf hnew
        have e : (Act.mk t ds).put o.dst v = ⟨t.setIfInBounds d v, ds⟩ := by rw [hd]; rfl
        rw [e]
        exact ih _ _ _ hcnt (hinv v w' hk hf hnew)
      have hstep := stepsHead_mem o _ hsteps hmemT t w h.frame h.kept hpreds
      have hd' : o.dst.getD 0 = d := by rw [hd]; rfl
      unfold StepM at hstep
      rw [hd'] at hstep
      cases hMd : M.contains d with
      | true =>
        rw [hMd] at hstep
        obtain ⟨hg, v, w', g, hx, hk, hf, hb, h1, h2⟩ := hstep
        have hw : Region.wanted o (yielded ops t) = true := by unfold Region.wanted; rw [hg]
        unfold wpOp
        rw [ho]
        simp only
        rw [if_pos hw]
        refine .inl ?_
        unfold Oper.wp
        rw [evS_eq, hx]
        exact next v w' hk hf (fun _ => ⟨g, hb, h1, h2⟩)
      | false =>
      rw [hMd] at hstep
      have nextS : ∀ v w', Kept w w' → F d v w' → wpAny P .any ops Q (fuel + (ops.size - n)) (listed.setIfInBounds i true) ((Act.mk t ds).put o.dst v) w' := fun v w' hk hf => next v w' hk hf (fun h => by rw [hMd] at h; cases h)
      have run : StepOK P F d o t w → o.wp P ⟨t, ds⟩ w (wpAny P .any ops Q (fuel + (ops.size - n)) (listed.setIfInBounds i true)) Q := by
        intro hs
        unfold Oper.wp
        rw [evS_eq]
        cases hs with
        | value v w' hx hk hf => rw [hx]; exact nextS v w' hk hf
        | call g args hx hc =>
          rw [hx]
          refine Calls.mono hc fun e w' he => ?_
          obtain ⟨v, rfl, hk, hf⟩ := he
          exact nextS v w' hk hf
      unfold wpOp
      rw [ho]
      simp only
      simp only at hstep
      unfold StepAt gslot at hstep
      rw [hd'] at hstep
      cases hg : o.guard with
      | none =>
        rw [hg] at hstep
        have hw : Region.wanted o (yielded ops t) = true := by unfold Region.wanted; rw [hg]
        rw [if_pos hw]
        exact .inl (run hstep)
      | some jb =>
        obtain ⟨j, b⟩ := jb
        rw [hg] at hstep
        simp only [Option.map_some] at hstep
        cases hj : dstOf ops j with
        | none => rw [hj] at hstep; exact hstep.elim
        | some s =>
          rw [hj] at hstep
          have hy : ∀ b', slot t s = .bool b' → yielded ops t j = some b' := by
            intro b' hb'
            have hs : t[s]? = some (.bool b') := by
              unfold slot at hb'
              cases e : t[s]? with
              | none => simp [Array.getD_eq_getD_getElem?, e, undef] at hb'
              | some x => simp [Array.getD_eq_getD_getElem?, e] at hb'; rw [hb']
            unfold yielded
            unfold dstOf at hj
            rw [hj]
            simp [hs]
          simp only at hstep
          rcases hstep with ⟨hv, hs⟩ | ⟨hv, hf⟩
          · have hw : Region.wanted o (yielded ops t) = true := by unfold Region.wanted; rw [hg]; simp [hy b hv]
            rw [if_pos hw]
            exact .inl (run hs)
          · have hw : ¬ Region.wanted o (yielded ops t) = true := by unfold Region.wanted; rw [hg]; simp [hy _ hv]
            rw [if_neg hw]
            exact nextS undef w (Kept.refl w) hf
    by_cases hex2 : ∃ i, i < n ∧ i ≠ l ∧ listed.getD i true = false
    · obtain ⟨i0, hi0, hil0, hun0⟩ := hex2
      rw [show fuel + 1 + (ops.size - n) = (fuel + (ops.size - n)) + 1 by omega]
      refine ⟨fun hr => ?_, fun i hi => ?_⟩
      · obtain ⟨j, _, hj⟩ := head_readyA hb hls i0 (by omega) hun0
        rw [hr] at hj
        cases hj
      · refine hcore i hi ?_
        rcases Nat.lt_or_ge i n with h' | h'
        · exact h'
        · exact absurd hi (late_waits hs hc h.head _ i0 rfl hi0 hil0 hun0 i h')
    · have hrest : ∀ i, i < n → i ≠ l → listed.getD i false = true := by
        intro i hi hil
        cases hx : listed.getD i false with
        | true => rfl
        | false => exact absurd ⟨i, hi, hil, getD_in (by omega) hx⟩ hex2
      have hlun : listed.getD l true = false := by
        obtain ⟨i, hi, hu⟩ := hex
        by_cases e : i = l
        · rw [← e]; exact hu
        · exact absurd ⟨i, hi, e, hu⟩ hex2
      have he : listed = headLate ops n l := by
        apply Array.ext
        · rw [hls]; simp [headLate]
        · intro i h1 h2
          have hi : i < ops.size := by rw [← hls]; exact h1
          by_cases hin2 : i < n
          · by_cases hil : i = l
            · subst hil
              simp [h1] at hlun
              simp [headLate, hlun]
            · have := hrest i hin2 hil
              simp [h1] at this
              simp [headLate, hin2, hil, this]
          · have := h.head.tail i (by omega) hi
            simp [h1] at this
            simp [headLate, hin2, this]
      rw [show fuel + 1 + (ops.size - n) = (fuel + (ops.size - n)) + 1 by omega]
      have hi : l ∈ Region.ready .any ops listed := by rw [he]; simpa using hrd
      have hiN := hln
      obtain ⟨hun, o, ho, hpre⟩ := mem_ready.1 hi
      have hmemT : o ∈ ops.toList.take n := by
        refine List.mem_iff_getElem?.2 ⟨l, ?_⟩
        rw [List.getElem?_take, if_pos hiN]
        simpa using ho
      have hd0 := hin o hmemT
      obtain ⟨d, hd⟩ : ∃ d, o.dst = some d := by cases e : o.dst with | none => rw [e] at hd0; cases hd0 | some d => exact ⟨d, rfl⟩
      have hdn : d < t.size := by rw [h.size]; rw [hd] at hd0; simpa using hd0
      obtain ⟨hcnt, hpreds, hinv⟩ := HInv_step hb hn hst hcn h hi hiN ho hd hdn
      have hMd : M.contains d = false := by
        rw [ho] at hMl
        simp only [Option.bind_some, hd, Option.all_some, Bool.not_eq_true'] at hMl
        exact hMl
      have hstep := stepsHead_mem o _ hsteps hmemT t w h.frame h.kept hpreds
      have hd' : o.dst.getD 0 = d := by rw [hd]; rfl
      unfold StepM at hstep
      rw [hd', hMd] at hstep
      rw [ho] at hext
      simp only [Option.map_some, beq_iff_eq, Option.some.injEq, isExtract, Bool.and_eq_true, Option.isNone_iff_eq_none] at hext
      obtain ⟨hg, hex3⟩ := hext
      simp only at hstep
      unfold StepAt gslot at hstep
      rw [hd', hg] at hstep
      have hw : Region.wanted o (yielded ops t) = true := by unfold Region.wanted; rw [hg]
      obtain ⟨x, k, hop⟩ : ∃ x k, o.op = .extract x k := by
        cases hop : o.op with
        | extract x k => exact ⟨x, k, rfl⟩
        | _ => rw [hop] at hex3; cases hex3
      have hpure : ∀ w2, (execOp (evS t) o).run P w2 = match evS t x with | .tuple vs => (match vs[k]? with | some v => .ok (.value v) w2 | none => (execOp (evS t) o).run P w2) | _ => (execOp (evS t) o).run P w2 := by
        intro w2
        cases hv : evS t x with
        | tuple vs =>
          cases hk : vs[k]? with
          | some v => simp [execOp, hop, hv, Instr.extract, hk]
          | none => simp only [hk]
        | _ => rfl
      cases hstep with
      | value v w' hx hk hf =>
        have hall : w' = w ∧ ∀ w2, (execOp (evS t) o).run P w2 = .ok (.value v) w2 := by
          cases hv : evS t x with
          | tuple vs =>
            cases hk : vs[k]? with
            | some v0 =>
              have h1 := hpure w
              rw [hv] at h1
              simp only [hk] at h1
              rw [hx] at h1
              simp only [Result.ok.injEq, Next.value.injEq] at h1
              refine ⟨h1.2, fun w2 => ?_⟩
              have h2 := hpure w2
              rw [hv] at h2
              simp only [hk] at h2
              rw [h2, h1.1]
            | none => exact absurd hx (by simp [execOp, hop, hv, Instr.extract, hk, stuck])
          | _ => exact absurd hx (by simp [execOp, hop, hv, Instr.extract, stuck])
        refine wpAny_take (i := l) ho hns (by rw [he]; exact hfr) (by rw [he]; exact hrd) (fun c a w h => hQ c a _ _ w h) (Or.inl ⟨hw, fun w2 => by rw [evS_eq]; exact hall.2 w2⟩) ?_
        have e : (Act.mk t ds).put o.dst v = ⟨t.setIfInBounds d v, ds⟩ := by rw [hd]; rfl
        rw [e]
        rw [hall.1] at hk hf
        exact ih _ _ _ hcnt (hinv v w hk hf (fun h => by rw [hMd] at h; cases h))
      | call g args hx hc =>
        exfalso
        cases hv : evS t x with
        | tuple vs =>
          cases hk : vs[k]? with
          | some v0 => simp [execOp, hop, hv, Instr.extract, hk] at hx
          | none => simp [execOp, hop, hv, Instr.extract, hk, stuck] at hx
        | _ => simp [execOp, hop, hv, Instr.extract, stuck] at hx

/-- A drawn statement by its head's facts (a table), its own new blocks (the slots M) and its tail as a list. -/
theorem wp_region_late {id : Nat} (n l : Nat) (M : List Nat) (L : List (Nat × Fact)) (hm : P.follows .mixedOrders = true) (hB : lateB ops n t0.size l = true) (hQ : ∀ c (a : Act) dst v w, Q (.panic c) (a.put dst v) w → Q (.panic c) a w) (hMl : (ops[l]?.bind (·.dst)).all (fun d => !M.contains d) = true) (hM : M.all (fun d => wroteIn (ops.toList.take n) d) = true)
    (hsteps : StepsHead M P ops n (TF L) t0 w0 (ops.toList.take n))
    (hdone : ∀ t w, t.size = t0.size → (∀ s, slotFreeH ops n s = true → slot t s = slot t0 s) → Kept w0 w → (∀ (i : Nat) (o : Oper), i < n → ops[i]? = some o → ∀ d, o.dst = some d → TF L d (slot t d) w) →
      (∀ d, M.contains d = true → ∃ g, ptrBlock (slot t d) = some g ∧ w0.heap.size ≤ g ∧ g < w.heap.size) → (∀ d d', M.contains d = true → M.contains d' = true → d ≠ d' → ptrBlock (slot t d) ≠ ptrBlock (slot t d')) → wpList P ops Q (ops.toList.drop n) ⟨t, ds⟩ w) :
    (Code.region id ops true).wp P Q ⟨t0, ds⟩ w0 := by
  have hn : n < ops.size := by
    simp only [lateB, Bool.and_eq_true, decide_eq_true_eq] at hB
    exact hB.1.1.1.1.2
  refine wp_region_any hm ?_
  have hno : ∀ d, ¬ wrote ops n (Array.replicate ops.size false) d := fun d ⟨i, o, _, _, hl, _⟩ => by rw [getD_replicate_false] at hl; cases hl
  have := wpAny_late l (P := P) (Q := Q) (F := TF L) (M := M) (ds := ds) hB hQ hMl (fun _ _ _ _ hk h => Fact.holds_kept hk h) hM hsteps hdone n (Array.replicate ops.size false) t0 { w0 with drawn := w0.drawn + 1 } (by simp; omega)
    ⟨rfl, ⟨by simp, fun j oj _ hl => (by rw [getD_replicate_false] at hl; cases hl), fun t _ ht => getD_in (by simpa using ht) (getD_replicate_false _ _)⟩, fun _ _ => rfl, Kept.refl w0, fun i o _ _ hl => (by rw [getD_replicate_false] at hl; cases hl), fun d _ h => absurd h (hno d), fun d _ _ _ _ h _ => absurd h (hno d)⟩
  rwa [show n + (ops.size - n) = ops.size by omega] at this
end
end Go.Proofs.YtggpjhldmaflaaaDoor
