/-
  For the laws' frames: arguments of whatever type read behind a call that made new memory alone as they read before; arrays of integers among the arguments opened. No condition.
-/
import Derived.Test.YtggpjhldmaflaaaRowLib
import Derived.Test.YtggpjhldmaflaaaFactLib
import Derived.ProofKit
import Derived.OpenShut
import Derived.Carry
import Derived.ChangeSame
import Derived.Deep.Strs
import Derived.Deep.MidRow
import Derived.SizedLaws
namespace Go.Proofs.Ytggpjhldmaflaaa
set_option maxRecDepth 4000
open Go.ChangeShapes Go.WideShapes Go.ChangeAt Go.RowKit

/-- Each type can be read and is a row of the table: one closed fact. -/
def typesRowed (P : Program) (ts : List TypeId) : Bool := ts.all fun t => P.readableRec t && decide (t < P.types.size)

theorem Kept.sameAt {W W' : World} (h : Kept W W') {p : MemPlace} (hp : p.block < W.heap.size) : W.sameAt W' p := by
  cases p with
  | cell b o => exact World.cell?_of_block (w := W) (h.block b hp)
  | map b => exact h.block b hp

theorem trodAll_stays {H : Type} {enc : TypeId × Value → H} {P : Program} (hl : laidOutB P = true) {W W' : World} (hg : Kept W W') {sp : Nat → Bool} :
    ∀ {ts : List TypeId} {vs : List Value} {ds : List (DataW H)} {ps : List MemPlace}, typesRowed P ts = true → DataW.TrodAll enc P W 0 (fun _ => true) true ts vs ds ps → (∀ x ∈ ps, x.block < W.heap.size) → (∀ x ∈ ps, sp x.block = true) →
      DataW.TrodAll enc P W' 0 sp true ts vs ds ps
  | [], [], [], _, _, h, _, _ => h
  | [], [], _ :: _, _, _, h, _, _ => h.elim
  | [], _ :: _, _, _, _, h, _, _ => h.elim
  | _ :: _, [], _, _, _, h, _, _ => h.elim
  | _ :: _, _ :: _, [], _, _, h, _, _ => h.elim
  | t :: ts, v :: vs, d :: ds, ps, ht, h, hlt, hs => by
    obtain ⟨p, q, h1, h2, rfl⟩ := h
    simp only [typesRowed, List.all_cons, Bool.and_eq_true, decide_eq_true_eq] at ht
    refine ⟨p, q, WideElems.Trod_stays hl ht.1.1 ht.1.2 h1 (fun x hx => Kept.sameAt hg (hlt x (by simp [hx]))) (fun x hx => hs x (by simp [hx])),
      trodAll_stays hl hg (by simpa [typesRowed] using ht.2) h2 (fun x hx => hlt x (by simp [hx])) (fun x hx => hs x (by simp [hx])), rfl⟩

def readInt : Option Value → Int
  | some (.int _ z) => z
  | _ => 0
/-- An array of integers among the arguments. -/
theorem open_intArr {H : Type} {enc : TypeId × Value → H} {P : Program} {W : World} {base : Nat} {sp : Nat → Bool} {held : Bool} {t e : TypeId} {n : Nat} {k : IntKind} {cs : Array Value} {d : DataW H} {ps : List MemPlace}
    (ht : P.underlying t = some (.array n e)) (he : P.underlying e = some (.int k)) (hce : P.cellsOf e = 1) (hct : P.cellsOf t = n)
    (h : DataW.Trod enc P W base sp held t (.agg cs) d ps) : ∃ f : Nat → Int, (∀ i, i < n → (Lit.int k (f i)).wf = true) ∧ cs = ((List.range n).map fun i => Value.int k (f i)).toArray := by
  obtain ⟨fuel, hf⟩ := h
  obtain ⟨xs, m, rfl, _, hl, hn, hel⟩ := DataW.trod_array ht hf
  rw [hct] at hl
  have hcs : ∀ i, i < n → ∃ z, (Lit.int k z).wf = true ∧ cs.toList[i]? = some (Value.int k z) := by
    intro i hi
    have h1 := hel i hi
    rw [hce, Nat.mul_one, List.getElem?_eq_getElem (by omega)] at h1
    obtain ⟨z, hz, _, hw⟩ := DataW.trod_int he h1
    refine ⟨z, hw, ?_⟩
    have hi' : i < cs.toList.length := by
      have : (Value.agg cs).cells.toList = cs.toList := rfl
      rw [this] at hl; omega
    have h2 : (cs.toList.drop i).take 1 = [cs.toList[i]] := by
      rw [List.drop_eq_getElem_cons hi']; rfl
    have h3 : [cs.toList[i]] = [Value.int k z] := h2.symm.trans hz
    rw [List.getElem?_eq_getElem hi']
    exact congrArg some (List.cons.inj h3).1
  refine ⟨fun i => readInt cs.toList[i]?, fun i hi => ?_, ?_⟩
  · obtain ⟨z, hw, hz⟩ := hcs i hi
    show (Lit.int k (readInt cs.toList[i]?)).wf = true
    rw [hz]; exact hw
  · have hl' : cs.toList.length = n := hl
    apply Array.ext'
    apply List.ext_getElem?
    intro i
    by_cases hi : i < n
    · obtain ⟨z, _, hz⟩ := hcs i hi
      have e : ((List.range n).map fun i => Value.int k (readInt cs.toList[i]?)).toArray.toList[i]? = some (Value.int k (readInt cs.toList[i]?)) := by
        rw [List.getElem?_map, List.getElem?_range hi]; rfl
      rw [e, hz]; rfl
    · rw [List.getElem?_eq_none (by omega), List.getElem?_eq_none (by simp; omega)]

theorem open_words {H : Type} {enc : TypeId × Value → H} {P : Program} {W : World} {base : Nat} {sp : Nat → Bool} {held : Bool} {t e : TypeId} {n : Nat} {cs : Array Value} {d : DataW H} {ps : List MemPlace}
    (ht : P.underlying t = some (.array n e)) (he : P.underlying e = some (.int .u32)) (hce : P.cellsOf e = 1) (hct : P.cellsOf t = n)
    (h : DataW.Trod enc P W base sp held t (.agg cs) d ps) : ∃ l : List Nat, l.length = n ∧ (∀ x ∈ l, x < 4294967296) ∧ cs = wC n l := by
  obtain ⟨f, hw, rfl⟩ := open_intArr ht he hce hct h
  have hb : ∀ i, i < n → 0 ≤ f i ∧ f i < 4294967296 := fun i hi => by have := bounds_u32 (hw i hi); omega
  refine ⟨(List.range n).map fun i => (f i).toNat, by simp, fun x hx => ?_, ?_⟩
  · obtain ⟨i, hi, rfl⟩ := List.mem_map.1 hx
    have := hb i (by simpa using hi)
    omega
  · unfold wC
    congr 1
    apply List.map_congr_left
    intro i hi
    have hi' : i < n := by simpa using hi
    have := hb i hi'
    simp [List.getD_eq_getElem?_getD, hi']
    omega
theorem open_hash {H : Type} {enc : TypeId × Value → H} {P : Program} {W : World} {base : Nat} {sp : Nat → Bool} {held : Bool} {t e : TypeId} {n : Nat} {cs : Array Value} {d : DataW H} {ps : List MemPlace}
    (ht : P.underlying t = some (.array n e)) (he : P.underlying e = some (.int .u8)) (hce : P.cellsOf e = 1) (hct : P.cellsOf t = n)
    (h : DataW.Trod enc P W base sp held t (.agg cs) d ps) : ∃ l : List UInt8, l.length = n ∧ cs = bC n l := by
  obtain ⟨f, hw, rfl⟩ := open_intArr ht he hce hct h
  have hb : ∀ i, i < n → 0 ≤ f i ∧ f i < 256 := fun i hi => by have := bounds_u8 (hw i hi); omega
  refine ⟨(List.range n).map fun i => UInt8.ofNat (f i).toNat, by simp, ?_⟩
  unfold bC
  congr 1
  apply List.map_congr_left
  intro i hi
  have hi' : i < n := by simpa using hi
  have := hb i hi'
  simp [List.getD_eq_getElem?_getD, hi']
  omega
theorem add_block (a : Addr) (i : Nat) : (a.add i).block = a.block := by
  unfold Addr.add; split <;> simp_all
theorem Grown.cellAt {w w' : World} (h : Grown w w') (a : Addr) (hb : a.block < w.heap.size) : w'.cell? a = w.cell? a := by
  simp only [World.cell?]
  rw [Grown.block h a.block hb]
theorem lt_of_cell {w : World} {a : Addr} {v : Value} (h : w.cell? a = some v) : a.block < w.heap.size := by
  by_cases e : a.block < w.heap.size
  · exact e
  · exfalso
    have : w.heap[a.block]? = none := Array.getElem?_eq_none (by omega)
    simp [World.cell?, this] at h
/-- A '[]string' among the arguments. -/
theorem open_strsArg {H : Type} {enc : TypeId × Value → H} {P : Program} {W : World} {sp : Nat → Bool} {held : Bool} {t e : TypeId} {base : Nat} {v : Value} {d : DataW H} {ps : List MemPlace}
    (ht : P.underlying t = some (.slice e)) (he : P.underlying e = some .string) (hc : P.cellsOf e = 1) (hv : Value.okWide P W .any base t v) (h : DataW.Trod enc P W 0 sp held t v d ps) :
    ∃ (p : Option Addr) (n c : Nat) (S : Nat → ByteArray), n ≤ maxLen ∧ v = .slice p n c ∧ ∀ i, i < n → ∃ a : Addr, p = some a ∧ W.cell? (a.add i) = some (.string (S i)) ∧ a.block < W.heap.size ∧ (S i).size ≤ maxLen := by
  obtain ⟨a0, len, cap, rfl⟩ := okWide_slice ht hv
  obtain ⟨fuel, hf⟩ := h
  rcases Deep.open_strs ht he hc hf with ⟨hcs, _⟩ | ⟨a, len', cap', m, Sx, hcs, _, hl, hm, hmm, _, hx⟩
  · have e1 : [Value.slice a0 len cap] = [Value.slice none 0 0] := hcs
    simp only [List.cons.injEq, Value.slice.injEq, and_true] at e1
    obtain ⟨rfl, rfl, rfl⟩ := e1
    exact ⟨none, 0, 0, fun _ => ByteArray.empty, Nat.zero_le _, rfl, fun i hi => absurd hi (Nat.not_lt_zero _)⟩
  · have e1 : [Value.slice a0 len cap] = [Value.slice (some a) len' cap'] := hcs
    simp only [List.cons.injEq, Value.slice.injEq, and_true] at e1
    obtain ⟨rfl, rfl, rfl⟩ := e1
    refine ⟨some a, len, cap, Sx, Nat.le_trans hl hm, rfl, fun i hi => ?_⟩
    have hlm : len ≤ m := by rw [hmm]; split <;> omega
    obtain ⟨h1, h2⟩ := hx i (by omega)
    refine ⟨a, rfl, h1, ?_, h2⟩
    have := lt_of_cell h1
    rwa [add_block] at this
/-! ### Arrays of hashes, of strings, of integers -/
/-- An array of hashes among the arguments, its bytes in one row. -/
theorem open_hashArr {H : Type} {enc : TypeId × Value → H} {P : Program} {W : World} {base : Nat} {sp : Nat → Bool} {held : Bool} {t e1 e : TypeId} {m : Nat} {cs : Array Value} {d : DataW H} {ps : List MemPlace}
    (ht : P.underlying t = some (.array m e1)) (h1 : P.underlying e1 = some (.array 32 e)) (he : P.underlying e = some (.int .u8)) (hce : P.cellsOf e = 1) (hc1 : P.cellsOf e1 = 32) (hct : P.cellsOf t = 32 * m)
    (h : DataW.Trod enc P W base sp held t (.agg cs) d ps) : ∃ l : List UInt8, l.length = 32 * m ∧ cs = bC (32 * m) l := by
  obtain ⟨fuel, hf⟩ := h
  obtain ⟨xs, q, rfl, _, hl, hn, hel⟩ := DataW.trod_array ht hf
  rw [hct] at hl
  have hl' : cs.toList.length = 32 * m := hl
  have hcs : ∀ i, i < 32 * m → ∃ z, (Lit.int .u8 z).wf = true ∧ cs.toList[i]? = some (Value.int .u8 z) := by
    intro i hi
    have hj : i / 32 < m := by omega
    have g1 := hel (i / 32) hj
    rw [hc1, List.getElem?_eq_getElem (by omega)] at g1
    obtain ⟨ys, q', rfl, _, hl2, hn2, hel2⟩ := DataW.trod_array h1 g1
    have g2 := hel2 (i % 32) (by omega)
    rw [hce, Nat.mul_one, List.getElem?_eq_getElem (by omega)] at g2
    obtain ⟨z, hz, _, hw⟩ := DataW.trod_int he g2
    refine ⟨z, hw, ?_⟩
    have e0 : (Value.agg cs).cells.toList = cs.toList := rfl
    rw [e0] at hz
    have h3 := congrArg (fun l => l[0]?) hz
    simp only [List.getElem?_take, List.getElem?_drop] at h3
    rw [if_pos (by omega), if_pos (by omega), show i / 32 * 32 + (i % 32 + 0) = i by omega] at h3
    exact h3
  have hb : ∀ i, i < 32 * m → ∃ b : UInt8, cs.toList[i]? = some (Value.int .u8 ((b.toNat : Nat) : Int)) := by
    intro i hi
    obtain ⟨z, hw, hz⟩ := hcs i hi
    have := bounds_u8 hw
    refine ⟨UInt8.ofNat z.toNat, ?_⟩
    rw [hz]
    simp
    omega
  refine ⟨(List.range (32 * m)).map fun i => UInt8.ofNat (readInt cs.toList[i]?).toNat, by simp, ?_⟩
  apply Array.ext'
  apply List.ext_getElem?
  intro i
  by_cases hi : i < 32 * m
  · obtain ⟨b, hz⟩ := hb i hi
    have e : (bC (32 * m) ((List.range (32 * m)).map fun i => UInt8.ofNat (readInt cs.toList[i]?).toNat)).toList[i]? = some (Value.int .u8 (((UInt8.ofNat (readInt cs.toList[i]?).toNat).toNat : Nat) : Int)) := by
      simp [bC, hi, List.getD_eq_getElem?_getD]
    rw [e, hz]
    simp [readInt]
  · rw [List.getElem?_eq_none (by omega), List.getElem?_eq_none (by simp [bC]; omega)]

/-- The i-th hash of a row of them. -/
def hAt (l : List UInt8) (i : Nat) : List UInt8 := (l.drop (32 * i)).take 32
theorem hAt_length (l : List UInt8) (i : Nat) (h : 32 * i + 32 ≤ l.length) : (hAt l i).length = 32 := by simp [hAt]; omega
theorem hash_range {w : World} {g n : Nat} {l : List UInt8} {T : TypeId} (h : Rowz w g (bC n l) T) (i : Nat) (hn : 32 * i + 32 ≤ n) : w.rangeAt g (32 * i) (bC 32 (hAt l i)).toList := by
  intro j v hv
  have hj : j < 32 := by
    by_cases hj : j < 32
    · exact hj
    · simp [bC, hj] at hv
  rw [h.cell, bC_get n l _ (by omega)]
  rw [← hv]
  simp [bC, hj, hAt, List.getD_eq_getElem?_getD]

theorem mem_weightsAll {H : Type} {P : Program} {e : TypeId} {x : DataW H} {k : Nat} (hk : k ∈ x.weights P e) : ∀ {parts : List (DataW H)}, x ∈ parts → k ∈ DataW.weightsAll P e parts
  | _ :: _, .head _ => by simp [DataW.weightsAll, hk]
  | _ :: _, .tail _ hm => by simp [DataW.weightsAll, mem_weightsAll hk hm]
/-- n cells of strings. -/
def sC (n : Nat) (S : Nat → ByteArray) : Array Value := ((List.range n).map fun i => Value.string (S i)).toArray
def readStr : Option Value → ByteArray
  | some (.string s) => s
  | _ => ByteArray.empty
/-- An array of strings among the arguments; each is of the size that the form's reach allows. -/
theorem open_strArr {H : Type} {enc : TypeId × Value → H} {P : Program} {W : World} {base : Nat} {sp : Nat → Bool} {held : Bool} {t e : TypeId} {n : Nat} {cs : Array Value} {d : DataW H} {ps : List MemPlace}
    (ht : P.underlying t = some (.array n e)) (he : P.underlying e = some .string) (hce : P.cellsOf e = 1) (hct : P.cellsOf t = n)
    (h : DataW.Trod enc P W base sp held t (.agg cs) d ps) :
    ∃ S : Nat → ByteArray, cs = sC n S ∧ ∀ {ts : List TypeId} {ds : List (DataW H)} {J : Nat}, (DataW.weightsEach P ts ds).all (· ≤ reachBytes) = true → ts[J]? = some t → ds[J]? = some d → ∀ i, i < n → (S i).size ≤ 140737488351232 := by
  obtain ⟨fuel, hf⟩ := h
  obtain ⟨xs, m, rfl, hx, hl, hn, hel⟩ := DataW.trod_array ht hf
  rw [hct] at hl
  have hl' : cs.toList.length = n := hl
  have hcs : ∀ i, i < n → ∃ z : ByteArray, cs.toList[i]? = some (Value.string z) ∧ xs[i]? = some (.lit (.string z.data.toList), []) := by
    intro i hi
    have h1 := hel i hi
    rw [hce, Nat.mul_one, List.getElem?_eq_getElem (by omega)] at h1
    obtain ⟨z, hz, hx, hw⟩ := DataW.trod_string he h1
    refine ⟨z, ?_, by rw [List.getElem?_eq_getElem (by omega), hx]⟩
    have h3 := congrArg (fun l => l[0]?) hz
    have e0 : (Value.agg cs).cells.toList = cs.toList := rfl
    rw [e0] at h3
    simp only [List.getElem?_take, List.getElem?_drop] at h3
    rw [if_pos (by omega), Nat.add_zero] at h3
    exact h3
  refine ⟨fun i => readStr cs.toList[i]?, ?_, fun {ts ds J} hsz hT hD i hi => ?_⟩
  · apply Array.ext'
    apply List.ext_getElem?
    intro i
    by_cases hi : i < n
    · obtain ⟨z, hz, _⟩ := hcs i hi
      have e : (sC n fun i => readStr cs.toList[i]?).toList[i]? = some (Value.string (readStr cs.toList[i]?)) := by simp [sC, hi]
      rw [e, hz]; rfl
    · rw [List.getElem?_eq_none (by omega), List.getElem?_eq_none (by simp [sC]; omega)]
  · obtain ⟨z, hz, hxi⟩ := hcs i hi
    have hd : d = .agg (xs.map (·.1)) := congrArg Prod.fst hx
    have hm : z.size ∈ d.weights P t := by
      rw [hd]
      simp only [DataW.weights, ht]
      refine mem_weightsAll (x := .lit (.string z.data.toList)) (by
        have e : DataW.weights P e (.lit (.string z.data.toList) : DataW H) = [z.data.toList.length] := by rw [DataW.weights]
        rw [e, Array.length_toList]
        exact List.mem_singleton.2 rfl) ?_
      exact List.mem_map.2 ⟨_, List.mem_of_getElem? hxi, rfl⟩
    have := List.all_eq_true.1 hsz _ (DataW.weights_mem_each hT hD z.size hm)
    show (readStr cs.toList[i]?).size ≤ _
    rw [hz]
    exact of_decide_eq_true this
/-- n cells of numbers of 64 bits. -/
def qC (n : Nat) (l : List Nat) : Array Value := ((List.range n).map fun i => Value.int .u64 ((l.getD i 0 : Nat) : Int)).toArray
theorem open_u64Arr {H : Type} {enc : TypeId × Value → H} {P : Program} {W : World} {base : Nat} {sp : Nat → Bool} {held : Bool} {t e : TypeId} {n : Nat} {cs : Array Value} {d : DataW H} {ps : List MemPlace}
    (ht : P.underlying t = some (.array n e)) (he : P.underlying e = some (.int .u64)) (hce : P.cellsOf e = 1) (hct : P.cellsOf t = n)
    (h : DataW.Trod enc P W base sp held t (.agg cs) d ps) : ∃ l : List Nat, l.length = n ∧ (∀ x ∈ l, x < 18446744073709551616) ∧ cs = qC n l := by
  obtain ⟨f, hw, rfl⟩ := open_intArr ht he hce hct h
  have hb : ∀ i, i < n → 0 ≤ f i ∧ f i < 18446744073709551616 := fun i hi => by have := bounds_u64 (hw i hi); omega
  refine ⟨(List.range n).map fun i => (f i).toNat, by simp, fun x hx => ?_, ?_⟩
  · obtain ⟨i, hi, rfl⟩ := List.mem_map.1 hx
    have := hb i (by simpa using hi)
    omega
  · unfold qC
    congr 1
    apply List.map_congr_left
    intro i hi
    have hi' : i < n := by simpa using hi
    have := hb i hi'
    simp [List.getD_eq_getElem?_getD, hi']
    omega
end Go.Proofs.Ytggpjhldmaflaaa
