/-
  Statements whose order of evaluation Go leaves open, walked ONCE for all orders: a fact is given for each slot that the statement writes, each fact stays true where only new memory is made, and each operation is shown to make its own fact from those of the operations that it waits for. No condition.
-/
import Derived.Test.YtggpjhldmaflaaaRowLib
import Derived.OrdersHeld
import Derived.ChangeAgain
namespace Go.Proofs.Ytggpjhldmaflaaa
set_option maxRecDepth 4000
open Go.RowKit

/-! ### Only new memory is made; blocks made since may be frozen (strings.Builder) -/
def Kept (W w' : World) : Prop := W.keptBut w' (fun _ => False)
theorem Kept.refl (w : World) : Kept w w := World.keptBut_refl _ _
theorem Kept.trans {a b c : World} (h : Kept a b) (g : Kept b c) : Kept a c := World.keptBut_trans h g
theorem Kept.drew {a b : World} (h : Kept a b) : Kept a b.drew := h
theorem Kept.ofDrew {a b : World} (h : Kept a.drew b) : Kept a b := h
theorem Kept.size {a b : World} (h : Kept a b) : a.heap.size ≤ b.heap.size := World.keptBut.size h
theorem Kept.block {w w' : World} (h : Kept w w') (i : Nat) (hi : i < w.heap.size) : w'.heap[i]? = w.heap[i]? := World.keptBut.block h hi (fun _ f => f.elim)
theorem Kept.alloc {a b : World} (h : Kept a b) (o : Obj) : Kept a (b.alloc o) := World.keptBut_trans h (World.keptBut_alloc _ _ _)
theorem Kept.frame {a b : World} (h : Kept a b) (may : MemPlace → Prop) : a.keptBut b may := World.keptBut_mono (fun _ f => f.elim) h
theorem Kept.frozen {a b : World} (h : Kept a b) (p : Addr) (hp : p.block < a.heap.size) : b.frozen? p = a.frozen? p := World.frozen?_of_block (w := a) (h.block p.block hp)
theorem Kept.cellAt {a b : World} (h : Kept a b) (p : Addr) (hp : p.block < a.heap.size) : b.cell? p = a.cell? p := World.cell?_of_block (w := a) (h.block p.block hp)
theorem Grown.kept {a b : World} (h : Grown a b) : Kept a b := h.1
theorem kept_below {a b : World} (h : Below a.heap.size a b) : Kept a b := h.frame _
theorem Kept.same {a b : World} (h : a = b) : Kept a b := h ▸ Kept.refl a
theorem Rowz.kept {w w' : World} {g : Nat} {C : Array Value} {T : TypeId} (h : Rowz w g C T) (k : Kept w w') : Rowz w' g C T := (k.block g h.lt).trans h

/-! ### The slots -/
/-- What a slot holds. -/
def slot (t : Array Value) (s : Nat) : Value := t.getD s undef
def evS (t : Array Value) : Operand → Value
  | .tmp s => slot t s
  | .const v => v
  | .global g => .pointer (some ⟨g, 0, none⟩)
  | .func f => .func (.func f) #[] #[]
theorem evS_eq (t : Array Value) (ds : List Deferred) : Act.eval ⟨t, ds⟩ = evS t := by
  funext x
  cases x <;> rfl

def dstOf (ops : Array Oper) (j : Nat) : Option Nat := (ops[j]?).bind (·.dst)
/-- The slots of the operations that this one waits for. -/
def predSlots (ops : Array Oper) (o : Oper) : List Nat := (o.after.toList.filter (Region.binds .any ·)).filterMap fun e => dstOf ops e.on
def hasPred (ops : Array Oper) (o : Oper) (s : Nat) : Bool := (predSlots ops o).contains s
def gslot (ops : Array Oper) (o : Oper) : Option (Option Nat × Bool) := o.guard.map fun (j, b) => (dstOf ops j, b)
def slotFree (ops : Array Oper) (s : Nat) : Bool := ops.all fun o => o.dst != some s
def edgesBack : Nat → List Oper → Bool
  | _, [] => true
  | i, o :: r => o.after.all (fun e => !(Region.binds .any e) || decide (e.on < i)) && edgesBack (i + 1) r
def fine (ops : Array Oper) (n : Nat) : Bool := edgesBack 0 ops.toList && ops.all fun o => match o.dst with | some d => decide (d < n) | none => false

/-- One operation makes its fact. -/
inductive StepOK (P : Program) (F : Nat → Value → World → Prop) (d : Nat) (o : Oper) (t : Array Value) (w : World) : Prop
  | value (v : Value) (w' : World) (h : (execOp (evS t) o).run P w = .ok (.value v) w') (k : Kept w w') (f : F d v w')
  | call (g : FuncId) (args : Array Value) (h : (execOp (evS t) o).run P w = .ok (.enter g args) w) (c : Calls P g args w fun e w' => ∃ v, e = .returned v ∧ Kept w w' ∧ F d v w')

def StepAt (P : Program) (ops : Array Oper) (F : Nat → Value → World → Prop) (o : Oper) (t : Array Value) (w : World) : Prop :=
  match gslot ops o with
  | none => StepOK P F (o.dst.getD 0) o t w
  | some (none, _) => False
  | some (some s, b) => (slot t s = .bool b ∧ StepOK P F (o.dst.getD 0) o t w) ∨ (slot t s = .bool (!b) ∧ F (o.dst.getD 0) undef w)

theorem stepAt_plain {P : Program} {ops : Array Oper} {F : Nat → Value → World → Prop} {o : Oper} {t : Array Value} {w : World} (hg : o.guard = none) (h : StepOK P F (o.dst.getD 0) o t w) : StepAt P ops F o t w := by
  unfold StepAt gslot; rw [hg]; exact h
theorem stepAt_on {P : Program} {ops : Array Oper} {F : Nat → Value → World → Prop} {o : Oper} {t : Array Value} {w : World} (s : Nat) (b : Bool) (hg : gslot ops o = some (some s, b)) (hs : slot t s = .bool b) (h : StepOK P F (o.dst.getD 0) o t w) : StepAt P ops F o t w := by
  unfold StepAt; rw [hg]; exact .inl ⟨hs, h⟩
theorem stepAt_off {P : Program} {ops : Array Oper} {F : Nat → Value → World → Prop} {o : Oper} {t : Array Value} {w : World} (s : Nat) (b : Bool) (hg : gslot ops o = some (some s, b)) (hs : slot t s = .bool (!b)) (h : F (o.dst.getD 0) undef w) : StepAt P ops F o t w := by
  unfold StepAt; rw [hg]; exact .inr ⟨hs, h⟩

/-- A guard that is a Boolean of the frame: both ways at once. -/
theorem stepAt_sym {P : Program} {ops : Array Oper} {F : Nat → Value → World → Prop} {o : Oper} {t : Array Value} {w : World} (s : Nat) (B : Bool) (hg : gslot ops o = some (some s, true)) (hs : slot t s = .bool B) (hon : B = true → StepOK P F (o.dst.getD 0) o t w) (hoff : B = false → F (o.dst.getD 0) undef w) : StepAt P ops F o t w := by
  unfold StepAt; rw [hg]
  cases B with
  | true => exact .inl ⟨hs, hon rfl⟩
  | false => exact .inr ⟨hs, hoff rfl⟩
def StepsFrom (P : Program) (ops : Array Oper) (F : Nat → Value → World → Prop) (t0 : Array Value) (w0 : World) : List Oper → Prop
  | [] => True
  | o :: r => (∀ t w, (∀ s, slotFree ops s = true → slot t s = slot t0 s) → Kept w0 w → (∀ s, hasPred ops o s = true → F s (slot t s) w) → StepAt P ops F o t w) ∧ StepsFrom P ops F t0 w0 r

theorem stepsFrom_mem {P : Program} {ops : Array Oper} {F : Nat → Value → World → Prop} {t0 : Array Value} {w0 : World} (o : Oper) (L : List Oper) (h : StepsFrom P ops F t0 w0 L) (hm : o ∈ L) :
    ∀ t w, (∀ s, slotFree ops s = true → slot t s = slot t0 s) → Kept w0 w → (∀ s, hasPred ops o s = true → F s (slot t s) w) → StepAt P ops F o t w := by
  induction L with
  | nil => cases hm
  | cons a r ih =>
    cases hm with
    | head => exact h.1
    | tail _ hm => exact ih h.2 hm

theorem edgesBack_get : ∀ (L : List Oper) (k : Nat), edgesBack k L = true → ∀ i o, L[i]? = some o → ∀ e ∈ o.after, Region.binds .any e = true → e.on < k + i
  | [], _, _, i, o, h, _, _, _ => by simp at h
  | o' :: r, k, hb, i, o, h, e, he, hbd => by
    simp only [edgesBack, Bool.and_eq_true, Array.all_eq_true_iff_forall_mem, Bool.or_eq_true, Bool.not_eq_true', decide_eq_true_eq] at hb
    cases i with
    | zero => simp at h; subst h; have := hb.1 e he; rw [hbd] at this; simp at this; omega
    | succ i => have := edgesBack_get r (k + 1) hb.2 i o (by simpa using h) e he hbd; omega

section
variable {P : Program} {ops : Array Oper} {Q : Exit → Act → World → Prop} {F : Nat → Value → World → Prop} {t0 : Array Value} {ds : List Deferred} {w0 : World}

structure FInv (ops : Array Oper) (F : Nat → Value → World → Prop) (t0 : Array Value) (w0 : World) (listed : Array Bool) (t : Array Value) (w : World) : Prop where
  size : t.size = t0.size
  lsize : listed.size = ops.size
  frame : ∀ s, slotFree ops s = true → slot t s = slot t0 s
  kept : Kept w0 w
  facts : ∀ (i : Nat) (o : Oper), ops[i]? = some o → listed.getD i false = true → ∀ d, o.dst = some d → F d (slot t d) w

theorem all_listed (hb : edgesBack 0 ops.toList = true) {listed : Array Bool} (hr : Region.ready .any ops listed = []) : ∀ i, i < ops.size → listed.getD i true = true := by
  intro i
  induction i using Nat.strongRecOn with
  | ind i ih =>
    intro hi
    by_cases h : listed.getD i true = true
    · exact h
    · exfalso
      have h' : listed.getD i true = false := by simpa using h
      have hm : i ∈ Region.ready .any ops listed := mem_ready.2 ⟨h', ops[i], by simp [hi], fun e he hbd => by
        have h1 := edgesBack_get ops.toList 0 hb i ops[i] (by simp [hi]) e he hbd
        have h2 := ih e.on (by omega) (by omega)
        have hl : i < listed.size := by
          rcases Nat.lt_or_ge i listed.size with h | h
          · exact h
          · simp [Array.getElem?_eq_none h] at h'
        have hj : e.on < listed.size := by omega
        simp [hj] at h2 ⊢
        exact h2⟩
      rw [hr] at hm
      cases hm

theorem slot_put_same (t : Array Value) (d : Nat) (v : Value) (h : d < t.size) : slot (t.setIfInBounds d v) d = v := by
  simp [slot, h]
theorem slot_put_ne (t : Array Value) (d s : Nat) (v : Value) (h : d ≠ s) : slot (t.setIfInBounds d v) s = slot t s := by
  simp [slot, Array.getElem?_setIfInBounds_ne h]

theorem wpAny_facts (hfine : fine ops t0.size = true) (hst : ∀ d v w w', Kept w w' → F d v w → F d v w') (hsteps : StepsFrom P ops F t0 w0 ops.toList)
    (hdone : ∀ t w, t.size = t0.size → (∀ s, slotFree ops s = true → slot t s = slot t0 s) → Kept w0 w → (∀ (i : Nat) (o : Oper), ops[i]? = some o → ∀ d, o.dst = some d → F d (slot t d) w) → Q .normal ⟨t, ds⟩ w) :
    ∀ (fuel : Nat) (listed : Array Bool) (t : Array Value) (w : World), listed.toList.count false ≤ fuel → FInv ops F t0 w0 listed t w → wpAny P .any ops Q fuel listed ⟨t, ds⟩ w := by
  simp only [fine, Bool.and_eq_true, Array.all_eq_true_iff_forall_mem] at hfine
  obtain ⟨hb, hin⟩ := hfine
  have fin : ∀ (listed : Array Bool) (t : Array Value) (w : World), FInv ops F t0 w0 listed t w → Region.ready .any ops listed = [] → Q .normal ⟨t, ds⟩ w := fun listed t w h hr =>
    hdone t w h.size h.frame h.kept (fun i o ho d hd => h.facts i o ho (by
      have hi : i < ops.size := (Array.getElem?_eq_some_iff.1 ho).1
      have h1 := all_listed hb hr i hi
      have hl : i < listed.size := by rw [h.lsize]; exact hi
      simp [hl] at h1 ⊢
      exact h1) d hd)
  intro fuel
  induction fuel with
  | zero =>
    intro listed t w hc h
    have hr : Region.ready .any ops listed = [] := by
      apply List.eq_nil_iff_forall_not_mem.2
      intro i hi
      have h1 := (mem_ready.1 hi).1
      have hl : i < listed.size := by
        rcases Nat.lt_or_ge i listed.size with h | h
        · exact h
        · simp [Array.getElem?_eq_none h] at h1
      have : false ∈ listed.toList := by
        simp [hl] at h1
        rw [← h1]
        simp
      have := List.count_pos_iff.2 this
      omega
    exact ⟨hr, fin listed t w h hr⟩
  | succ fuel ih =>
    intro listed t w hc h
    refine ⟨fun hr => fin listed t w h hr, fun i hi => ?_⟩
    obtain ⟨hun, o, ho, hpre⟩ := mem_ready.1 hi
    have hl : i < listed.size := by
      rcases Nat.lt_or_ge i listed.size with h | h
      · exact h
      · simp [Array.getElem?_eq_none h] at hun
    have hmem : o ∈ ops := Array.mem_of_getElem? ho
    have hd0 := hin o hmem
    obtain ⟨d, hd⟩ : ∃ d, o.dst = some d := by cases e : o.dst with | none => rw [e] at hd0; cases hd0 | some d => exact ⟨d, rfl⟩
    have hdn : d < t.size := by rw [h.size]; rw [hd] at hd0; simpa using hd0
    have hcnt : (listed.setIfInBounds i true).toList.count false ≤ fuel := by
      rw [Array.toList_setIfInBounds, List.count_set (by simpa using hl)]
      have e : listed.toList[i]'(by simpa using hl) = false := by simp [hl] at hun; simpa using hun
      have hp : 0 < listed.toList.count false := List.count_pos_iff.2 (by rw [← e]; simp)
      rw [e]
      simp only [beq_self_eq_true, if_true, Bool.true_beq, Bool.false_eq_true, if_false]
      omega
    have hpreds : ∀ s, hasPred ops o s = true → F s (slot t s) w := by
      intro s hs
      simp only [hasPred, List.contains_iff_mem, predSlots, List.mem_filterMap, List.mem_filter] at hs
      obtain ⟨e, ⟨he, hbnd⟩, hes⟩ := hs
      have h1 := hpre e (by simpa using he) hbnd
      unfold dstOf at hes
      cases eo : ops[e.on]? with
      | none => rw [eo] at hes; cases hes
      | some o' => rw [eo] at hes; exact h.facts e.on o' eo h1 s hes
    have next : ∀ v w', Kept w w' → F d v w' → wpAny P .any ops Q fuel (listed.setIfInBounds i true) ((Act.mk t ds).put o.dst v) w' := by
      intro v w' hk hf
      have e : (Act.mk t ds).put o.dst v = ⟨t.setIfInBounds d v, ds⟩ := by rw [hd]; rfl
      rw [e]
      refine ih _ _ _ hcnt ⟨by simpa using h.size, by simpa using h.lsize, fun s hs => ?_, h.kept.trans hk, fun j o' ho' hj d' hd' => ?_⟩
      · by_cases hds : d = s
        · exfalso
          subst hds
          simp only [slotFree, Array.all_eq_true_iff_forall_mem] at hs
          have := hs o hmem
          simp [hd] at this
        · rw [slot_put_ne _ _ _ _ hds]; exact h.frame s hs
      · by_cases hdd : d = d'
        · subst hdd; rw [slot_put_same _ _ _ hdn]; exact hf
        · rw [slot_put_ne _ _ _ _ hdd]
          by_cases hij : i = j
          · subst hij
            rw [ho] at ho'
            cases ho'
            rw [hd] at hd'
            exact absurd (Option.some.inj hd') hdd
          · rw [getD_set_ne false hij] at hj
            exact hst _ _ _ _ hk (h.facts j o' ho' hj d' hd')
    have hstep := stepsFrom_mem o ops.toList hsteps (by simpa using hmem) t w h.frame h.kept hpreds
    have hd' : o.dst.getD 0 = d := by rw [hd]; rfl
    have run : StepOK P F d o t w → o.wp P ⟨t, ds⟩ w (wpAny P .any ops Q fuel (listed.setIfInBounds i true)) Q := by
      intro hs
      unfold Oper.wp
      rw [evS_eq]
      cases hs with
      | value v w' hx hk hf => rw [hx]; exact next v w' hk hf
      | call g args hx hc =>
        rw [hx]
        refine Calls.mono hc fun e w' he => ?_
        obtain ⟨v, rfl, hk, hf⟩ := he
        exact next v w' hk hf
    unfold wpOp
    rw [ho]
    simp only
    unfold StepAt gslot at hstep
    rw [hd'] at hstep
    cases hg : o.guard with
    | none =>
      rw [hg] at hstep
      have hw : Region.wanted o (yielded ops t) = true := by unfold Region.wanted; rw [hg]
      rw [if_pos hw]
      exact .inl (run hstep)
    | some jb =>
      obtain ⟨j, b⟩ := jb
      rw [hg] at hstep
      simp only [Option.map_some] at hstep
      cases hj : dstOf ops j with
      | none => rw [hj] at hstep; exact hstep.elim
      | some s =>
        rw [hj] at hstep
        have hy : ∀ b', slot t s = .bool b' → yielded ops t j = some b' := by
          intro b' hb'
          have hs : t[s]? = some (.bool b') := by
            unfold slot at hb'
            cases e : t[s]? with
            | none => simp [Array.getD_eq_getD_getElem?, e, undef] at hb'
            | some x => simp [Array.getD_eq_getD_getElem?, e] at hb'; rw [hb']
          unfold yielded
          unfold dstOf at hj
          rw [hj]
          simp [hs]
        simp only at hstep
        rcases hstep with ⟨hv, hs⟩ | ⟨hv, hf⟩
        · have hw : Region.wanted o (yielded ops t) = true := by unfold Region.wanted; rw [hg]; simp [hy b hv]
          rw [if_pos hw]
          exact .inl (run hs)
        · have hw : ¬ Region.wanted o (yielded ops t) = true := by unfold Region.wanted; rw [hg]; simp [hy _ hv]
          rw [if_neg hw]
          exact next undef w (Kept.refl w) hf

/-- A drawn statement by its slots' facts. -/
theorem wp_region_facts {id : Nat} (F : Nat → Value → World → Prop) (hm : P.follows .mixedOrders = true) (hfine : fine ops t0.size = true) (hst : ∀ d v w w', Kept w w' → F d v w → F d v w')
    (hsteps : StepsFrom P ops F t0 w0 ops.toList)
    (hdone : ∀ t w, t.size = t0.size → (∀ s, slotFree ops s = true → slot t s = slot t0 s) → Kept w0 w → (∀ (i : Nat) (o : Oper), ops[i]? = some o → ∀ d, o.dst = some d → F d (slot t d) w) → Q .normal ⟨t, ds⟩ w) :
    (Code.region id ops true).wp P Q ⟨t0, ds⟩ w0 :=
  wp_region_any hm (wpAny_facts hfine hst hsteps hdone ops.size _ t0 _ (by simp) ⟨rfl, by simp, fun _ _ => rfl, Kept.refl w0, fun i o ho hl => by
    exfalso
    rcases Nat.lt_or_ge i ops.size with h | h <;> simp [h] at hl⟩)
end

/-! ### Facts as a table: what a slot holds -/
inductive Fact where
  | is (v : Value)
  | row (mk : Nat → Value) (C : Array Value) (T : TypeId)
  | such (p : Value → World → Prop) (st : ∀ v w w', Kept w w' → p v w → p v w')
  | no
def Fact.holds : Fact → Value → World → Prop
  | .is c, v, _ => v = c
  | .row mk C T, v, w => ∃ g, v = mk g ∧ Rowz w g C T
  | .such p _, v, w => p v w
  | .no, _, _ => False
def factAt : List (Nat × Fact) → Nat → Fact
  | [], _ => .no
  | (k, f) :: r, d => if k = d then f else factAt r d
def sliceAt0 (n : Nat) (g : Nat) : Value := .slice (some ⟨g, 0, none⟩) n n
def ptrAt0 (g : Nat) : Value := .pointer (some ⟨g, 0, none⟩)
theorem Fact.holds_kept {f : Fact} {v : Value} {w w' : World} (hk : Kept w w') (h : f.holds v w) : f.holds v w' := by
  cases f with
  | is c => exact h
  | row mk C T => obtain ⟨g, hv, hr⟩ := h; exact ⟨g, hv, hr.kept hk⟩
  | such p st => exact st v w w' hk h
  | no => exact h
def TF (L : List (Nat × Fact)) (d : Nat) (v : Value) (w : World) : Prop := (factAt L d).holds v w

theorem wp_region_table {P : Program} {ops : Array Oper} {Q : Exit → Act → World → Prop} {t0 : Array Value} {ds : List Deferred} {w0 : World} {id : Nat} (L : List (Nat × Fact)) (hm : P.follows .mixedOrders = true) (hfine : fine ops t0.size = true)
    (hsteps : StepsFrom P ops (TF L) t0 w0 ops.toList)
    (hdone : ∀ t w, t.size = t0.size → (∀ s, slotFree ops s = true → slot t s = slot t0 s) → Kept w0 w → (∀ (i : Nat) (o : Oper), ops[i]? = some o → ∀ d, o.dst = some d → TF L d (slot t d) w) → Q .normal ⟨t, ds⟩ w) :
    (Code.region id ops true).wp P Q ⟨t0, ds⟩ w0 :=
  wp_region_facts (TF L) hm hfine (fun _ _ _ _ hk h => Fact.holds_kept hk h) hsteps hdone

theorem arr_eq (t : Array Value) (n : Nat) (h : t.size = n) : t = ((List.range n).map (slot t)).toArray := by
  apply Array.ext
  · simp [h]
  · intro i h1 h2
    simp [slot, h1]
theorem exec_call {o : Oper} {f : FuncId} {ars : Array Operand} {ats : Array TypeId} (t : Array Value) (hop : o.op = .call { callee := .value (.func f), args := ars, argTypes := ats }) : execOp (evS t) o = callFunc f (ars.map (evS t)) := by
  rw [← evS_eq t []]
  unfold execOp
  simp [hop, resolve, Deferred.ofValue, Act.eval, invoke]
theorem stepOK_call {P : Program} {F : Nat → Value → World → Prop} {d : Nat} {o : Oper} {t : Array Value} {w : World} {f : FuncId} {ars : Array Operand} {ats : Array TypeId} (args : Array Value) (hop : o.op = .call { callee := .value (.func f), args := ars, argTypes := ats })
    (ha : ars.map (evS t) = args) (hc : (callFunc f args).run P w = .ok (.enter f args) w) (c : Calls P f args w fun e w' => ∃ v, e = .returned v ∧ Kept w w' ∧ F d v w') : StepOK P F d o t w :=
  .call f args (by rw [exec_call t hop, ha]; exact hc) c
theorem stepOK_pure {P : Program} {F : Nat → Value → World → Prop} {d : Nat} {o : Oper} {t : Array Value} {w : World} (v : Value) (h : (execOp (evS t) o).run P w = .ok (.value v) w) (f : F d v w) : StepOK P F d o t w := .value v w h (Kept.refl w) f
theorem stepOK_sem {P : Program} {F : Nat → Value → World → Prop} {d : Nat} {o : Oper} {t : Array Value} {w : World} {s : Sem Value} (v : Value) (hx : execOp (evS t) o = (do let a ← s; pure (.value a))) (h : s.run P w = .ok v w) (f : F d v w) : StepOK P F d o t w :=
  .value v w (by rw [hx]; simp only [Sem.run_bind, Sem.run_pure, h, Result.andThen_ok]) (Kept.refl w) f
theorem stepOK_add {P : Program} {F : Nat → Value → World → Prop} {d : Nat} {o : Oper} {t : Array Value} {w : World} {x y : Operand} {T T' : TypeId} (a b c : ByteArray) (ho : o.op = .binOp .add T x y T') (hx : evS t x = .string a) (hy : evS t y = .string b)
    (hs : a.size + b.size ≤ 9223372036854775807) (hc : a ++ b = c) (f : F d (.string c) w) : StepOK P F d o t w :=
  .value (.string c) w (by
    subst hc
    have hn : ¬ (9223372036854775807 < a.size + b.size) := by omega
    unfold execOp
    rw [ho]
    simp only [hx, hy]
    go_simp) (Kept.refl w) f
theorem stepOK_pick {P : Program} {F : Nat → Value → World → Prop} {d : Nat} {o : Oper} {t : Array Value} {w : World} {c x y : Operand} (B : Bool) (ho : o.op = .pick c x y) (hc : evS t c = .bool B) (f : F d (if B then evS t x else evS t y) w) : StepOK P F d o t w :=
  .value _ w (by unfold execOp; rw [ho]; simp only [hc]; cases B <;> simp [asBool]) (Kept.refl w) f
theorem stepOK_move {P : Program} {F : Nat → Value → World → Prop} {d : Nat} {o : Oper} {t : Array Value} {w : World} (x : Operand) (ho : o.op = .move x ∨ o.op = .assign x) (f : F d (evS t x) w) : StepOK P F d o t w :=
  .value (evS t x) w (by unfold execOp; rcases ho with ho | ho <;> rw [ho] <;> rfl) (Kept.refl w) f
end Go.Proofs.Ytggpjhldmaflaaa
