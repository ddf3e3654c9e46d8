/-
  Slices of strings and slices of hashes, wherever they lie (SAt, HAt): among a law's arguments; cut in two; a hash loaded out of one. No condition.
-/
import Derived.Test.YtfadcibmkjpjoaaBas
import Derived.Test.YtfadcibmkjpjoaaProg
import Derived.Deep.MidRow
namespace Go.Proofs.Ytfadcibmkjpjoaa
set_option maxRecDepth 4000
open Go.ChangeShapes Go.WideShapes Go.ChangeAt Go.RowKit

/-- n strings from p on. -/
def SAt (w : World) (p : Option Addr) (n : Nat) (S : Nat → ByteArray) : Prop := ∀ i, i < n → ∃ a : Addr, p = some a ∧ a.block < w.heap.size ∧ w.cell? (a.add i) = some (.string (S i))
/-- n hashes from p on. -/
def HAt (w : World) (p : Option Addr) (n : Nat) (F : Nat → List UInt8) : Prop :=
  ∀ i, i < n → (F i).length = 32 ∧ ∃ a : Addr, p = some a ∧ a.block < w.heap.size ∧ ∀ j u, (bC 32 (F i)).toList[j]? = some u → w.cell? (a.add (i * 32 + j)) = some u
theorem SAt.kept {w w' : World} {p : Option Addr} {n : Nat} {S : Nat → ByteArray} (h : SAt w p n S) (K : Kept w w') : SAt w' p n S := by
  intro i hi
  obtain ⟨a, hp, hb, hc⟩ := h i hi
  refine ⟨a, hp, Nat.lt_of_lt_of_le hb K.size, ?_⟩
  rw [Kept.cellAt K _ (by rw [add_block]; exact hb)]; exact hc
theorem HAt.kept {w w' : World} {p : Option Addr} {n : Nat} {F : Nat → List UInt8} (h : HAt w p n F) (K : Kept w w') : HAt w' p n F := by
  intro i hi
  obtain ⟨hl, a, hp, hb, hc⟩ := h i hi
  refine ⟨hl, a, hp, Nat.lt_of_lt_of_le hb K.size, fun j u hj => ?_⟩
  rw [Kept.cellAt K _ (by rw [add_block]; exact hb)]; exact hc j u hj
theorem SAt.zero (w : World) (p : Option Addr) (S : Nat → ByteArray) : SAt w p 0 S := fun i hi => absurd hi (Nat.not_lt_zero i)
theorem HAt.zero (w : World) (p : Option Addr) (F : Nat → List UInt8) : HAt w p 0 F := fun i hi => absurd hi (Nat.not_lt_zero i)
theorem SAt.some {w : World} {p : Option Addr} {n : Nat} {S : Nat → ByteArray} (h : SAt w p n S) (hn : 0 < n) : ∃ a, p = .some a ∧ a.block < w.heap.size := by
  obtain ⟨a, hp, hb, _⟩ := h 0 hn; exact ⟨a, hp, hb⟩
theorem HAt.some {w : World} {p : Option Addr} {n : Nat} {F : Nat → List UInt8} (h : HAt w p n F) (hn : 0 < n) : ∃ a, p = .some a ∧ a.block < w.heap.size := by
  obtain ⟨_, a, hp, hb, _⟩ := h 0 hn; exact ⟨a, hp, hb⟩
theorem SAt.cell {w : World} {a : Addr} {n : Nat} {S : Nat → ByteArray} (h : SAt w (.some a) n S) (i : Nat) (hi : i < n) : w.cell? (a.add i) = .some (.string (S i)) := by
  obtain ⟨q, e, _, hc⟩ := h i hi
  obtain rfl := Option.some.inj e
  exact hc
theorem SAt.left {w : World} {p : Option Addr} {n : Nat} {S : Nat → ByteArray} (h : SAt w p n S) (m : Nat) (hm : m ≤ n) : SAt w p m S := fun i hi => h i (by omega)
theorem HAt.left {w : World} {p : Option Addr} {n : Nat} {F : Nat → List UInt8} (h : HAt w p n F) (m : Nat) (hm : m ≤ n) : HAt w p m F := fun i hi => h i (by omega)
theorem SAt.right {w : World} {a : Addr} {n : Nat} {S : Nat → ByteArray} (h : SAt w (.some a) n S) (m : Nat) (hm : m ≤ n) : SAt w (.some (a.add m)) (n - m) (fun i => S (m + i)) := by
  intro i hi
  obtain ⟨q, e, hb, hc⟩ := h (m + i) (by omega)
  obtain rfl := Option.some.inj e
  exact ⟨_, rfl, by rw [add_block]; exact hb, by rw [Deep.add_add]; exact hc⟩
theorem HAt.right {w : World} {a : Addr} {n : Nat} {F : Nat → List UInt8} (h : HAt w (.some a) n F) (m : Nat) (hm : m ≤ n) : HAt w (.some (a.add (m * 32))) (n - m) (fun i => F (m + i)) := by
  intro i hi
  obtain ⟨hl, q, e, hb, hc⟩ := h (m + i) (by omega)
  obtain rfl := Option.some.inj e
  refine ⟨hl, _, rfl, by rw [add_block]; exact hb, fun j u hj => ?_⟩
  rw [Deep.add_add, show m * 32 + (i * 32 + j) = (m + i) * 32 + j by omega]
  exact hc j u hj
theorem HAt.length {w : World} {p : Option Addr} {n : Nat} {F : Nat → List UInt8} (h : HAt w p n F) : ∀ i, i < n → (F i).length = 32 := fun i hi => (h i hi).1
theorem HAt.load {w : World} {a : Addr} {n : Nat} {F : Nat → List UInt8} (h : HAt w (.some a) n F) (i : Nat) (hi : i < n) :
    (Instr.loadAt 24 (.pointer (.some (a.add (i * 32))))).run Try.prog w = .ok (.agg (bC 32 (F i))) w := by
  obtain ⟨hl, q, e, hb, hc⟩ := h i hi
  obtain rfl := Option.some.inj e
  have h1 := run_loadCells_list (P := Try.prog) w (a.add (i * 32)) (bC 32 (F i)).toList (fun j v hj => by rw [Deep.add_add]; exact hc j v hj)
  rw [Array.length_toList, bC_size, Array.toArray_toList] at h1
  have hagg : (isAgg 24).run Try.prog w = .ok true w := by
    unfold isAgg
    rw [Sem.run_bind, run_underlying Try.underlying24 w]
    rfl
  have hsz : (Go.sizeOf 24).run Try.prog w = .ok 32 w := by kernel_rfl
  simp only [Instr.loadAt, Instr.sureAddr, Sem.run_bind, Sem.run_pure, Result.andThen_ok, loadVar, hagg, hsz, h1, if_true]
theorem HAt.load0 {w : World} {a : Addr} {n : Nat} {F : Nat → List UInt8} (h : HAt w (.some a) n F) (hn : 0 < n) :
    (Instr.loadAt 24 (.pointer (.some a))).run Try.prog w = .ok (.agg (bC 32 (F 0))) w := by
  have := h.load 0 hn
  simpa [Addr.add] using this

/-! ### A row of hashes -/
/-- n hashes in a row, 32 cells each. -/
def hC (n : Nat) (F : Nat → List UInt8) : Array Value := ((List.range (n * 32)).map fun k => Value.int .u8 ((((F (k / 32)).getD (k % 32) 0).toNat : Nat) : Int)).toArray
theorem hC_size (n : Nat) (F : Nat → List UInt8) : (hC n F).size = n * 32 := by simp [hC]
theorem hC_get (n : Nat) (F : Nat → List UInt8) (k : Nat) (h : k < n * 32) : (hC n F)[k]? = .some (.int .u8 ((((F (k / 32)).getD (k % 32) 0).toNat : Nat) : Int)) := by simp [hC, h]
theorem hC_one (n : Nat) (F : Nat → List UInt8) : ∀ x ∈ (hC n F).toList, x.oneCell' = true := by
  intro x hx
  simp only [hC, List.mem_map] at hx
  obtain ⟨i, _, rfl⟩ := hx
  rfl
theorem hC_congr (n : Nat) (F G : Nat → List UInt8) (h : ∀ i, i < n → F i = G i) : hC n F = hC n G := by
  unfold hC
  congr 1
  apply List.map_congr_left
  intro k hk
  have : k < n * 32 := by simpa using hk
  rw [h (k / 32) (by omega)]
/-- One hash more, written into the row of n. -/
theorem hC_put (n : Nat) (F : Nat → List UInt8) (k : Nat) (h : List UInt8) (hk : k < n) :
    ((hC n F).toList.take (k * 32) ++ (bC 32 h).toList ++ (hC n F).toList.drop (k * 32 + 32)).toArray = hC n (fun i => if i = k then h else F i) := by
  apply Array.ext
  · simp [hC_size, bC_size]; omega
  · intro i h1 h2
    have hi : i < n * 32 := by rw [hC_size] at h2; exact h2
    apply Option.some.inj
    rw [← Array.getElem?_eq_getElem, ← Array.getElem?_eq_getElem, hC_get _ _ _ hi]
    simp only [List.getElem?_toArray]
    by_cases a1 : i < k * 32
    · rw [List.append_assoc, List.getElem?_append_left (by simp [hC_size]; omega), List.getElem?_take, if_pos a1, Array.getElem?_toList, hC_get _ _ _ hi, if_neg (by omega)]
    · by_cases a2 : i < k * 32 + 32
      · rw [List.getElem?_append_left (by simp [hC_size, bC_size]; omega), List.getElem?_append_right (by simp [hC_size]; omega), Array.getElem?_toList]
        simp only [List.length_take, Array.length_toList, hC_size]
        rw [show min (k * 32) (n * 32) = k * 32 by omega, bC_get _ _ _ (by omega), if_pos (by omega), show i - k * 32 = i % 32 by omega]
      · rw [List.getElem?_append_right (by simp [hC_size, bC_size]; omega), List.getElem?_drop, Array.getElem?_toList]
        simp only [List.length_append, List.length_take, Array.length_toList, hC_size, bC_size]
        rw [show k * 32 + 32 + (i - (min (k * 32) (n * 32) + 32)) = i by omega, hC_get _ _ _ hi, if_neg (by omega)]
theorem hC_snoc (k : Nat) (F : Nat → List UInt8) : (hC k F).toList ++ (bC 32 (F k)).toList = (hC (k + 1) F).toList := by
  apply List.ext_getElem?
  intro i
  by_cases a1 : i < k * 32
  · rw [List.getElem?_append_left (by simp [hC_size]; omega), Array.getElem?_toList, Array.getElem?_toList, hC_get _ _ _ a1, hC_get _ _ _ (by omega)]
  · rw [List.getElem?_append_right (by simp [hC_size]; omega), Array.length_toList, hC_size, Array.getElem?_toList, Array.getElem?_toList]
    by_cases a2 : i < (k + 1) * 32
    · rw [bC_get _ _ _ (by omega), hC_get _ _ _ a2, show i / 32 = k by omega, show i - k * 32 = i % 32 by omega]
    · rw [Array.getElem?_eq_none (by rw [bC_size]; omega), Array.getElem?_eq_none (by rw [hC_size]; omega)]
theorem madeCells_hashes (n : Nat) : madeCells (bC 32 []) (n * 32) = hC n (fun _ => []) := by
  apply Array.ext
  · simp [madeCells, hC]
  · intro i h1 h2
    have h3 : i % 32 < 32 := Nat.mod_lt _ (by decide)
    simp [madeCells, hC, bC, h3]
/-- A row of hashes, in a block of its own or at its head. -/
theorem HAt.ofCells {w : World} {g n : Nat} {F : Nat → List UInt8} {cur : Array Value} {T : TypeId} (h : Rowz w g cur T) (hl : ∀ i, i < n → (F i).length = 32) (hc : ∀ k, k < n * 32 → cur[k]? = (hC n F)[k]?) : HAt w (.some ⟨g, 0, none⟩) n F := by
  intro i hi
  refine ⟨hl i hi, _, rfl, h.lt, fun j u hj => ?_⟩
  have hj32 : j < 32 := by
    have := (List.getElem?_eq_some_iff.1 hj).1
    simpa [bC_size] using this
  have e : (⟨g, 0, none⟩ : Addr).add (i * 32 + j) = ⟨g, i * 32 + j, none⟩ := by rw [Addr.add_mid]; simp
  rw [e, h.cell, hc _ (by omega), hC_get _ _ _ (by omega), show (i * 32 + j) / 32 = i by omega, show (i * 32 + j) % 32 = j by omega, ← hj, Array.getElem?_toList, bC_get _ _ _ hj32]
theorem HAt.ofRow {w : World} {g n : Nat} {F : Nat → List UInt8} {T : TypeId} (h : Rowz w g (hC n F) T) (hl : ∀ i, i < n → (F i).length = 32) : HAt w (.some ⟨g, 0, none⟩) n F := HAt.ofCells h hl (fun _ _ => rfl)

/-! ### Among the arguments -/
section
variable {H : Type} {enc : TypeId × Value → H} {P : Program} {W : World}
theorem open_sslice {sp : Nat → Bool} {held : Bool} {t e : TypeId} {base : Nat} {v : Value} {d : DataW H} {ps : List MemPlace}
    (ht : P.underlying t = .some (.slice e)) (he : P.underlying e = .some .string) (hc : P.cellsOf e = 1) (hv : Value.okWide P W .any base t v) (h : DataW.Trod enc P W 0 sp held t v d ps) :
    ∃ (p : Option Addr) (n c : Nat) (S : Nat → ByteArray), (n ≤ c ∧ c ≤ maxLen) ∧ v = .slice p n c ∧ SAt W p n S ∧
      ∀ {ts : List TypeId} {ds : List (DataW H)} {J : Nat}, (DataW.weightsEach P ts ds).all (· ≤ reachBytes) = true → ts[J]? = .some t → ds[J]? = .some d → n * P.bytesOf e ≤ reachBytes ∧ ∀ i, i < n → (S i).size ≤ 140737488351232 := by
  obtain ⟨a0, len, cap, rfl⟩ := okWide_slice ht hv
  obtain ⟨fuel, hf⟩ := h
  rcases Deep.open_strs ht he hc hf with ⟨hcs, _⟩ | ⟨a, len', cap', m, Sx, hcs, _, hl, hm, hmm, hx0, hx⟩
  · have e1 : [Value.slice a0 len cap] = [Value.slice none 0 0] := hcs
    simp only [List.cons.injEq, Value.slice.injEq, and_true] at e1
    obtain ⟨rfl, rfl, rfl⟩ := e1
    exact ⟨none, 0, 0, fun _ => ByteArray.empty, ⟨Nat.le_refl _, Nat.zero_le _⟩, rfl, SAt.zero _ _ _, fun _ _ _ => ⟨by rw [Nat.zero_mul]; exact Nat.zero_le _, fun i hi => absurd hi (Nat.not_lt_zero i)⟩⟩
  · have e1 : [Value.slice a0 len cap] = [Value.slice (.some a) len' cap'] := hcs
    simp only [List.cons.injEq, Value.slice.injEq, and_true] at e1
    obtain ⟨rfl, rfl, rfl⟩ := e1
    have hlm : len ≤ m := by rw [hmm]; split <;> omega
    refine ⟨.some a, len, cap, Sx, ⟨hl, hm⟩, rfl, fun i hi => ?_, fun {ts ds J} hsz hT hD => ?_⟩
    · obtain ⟨h1, _⟩ := hx i (by omega)
      refine ⟨a, rfl, ?_, h1⟩
      have := lt_of_cell h1
      rwa [add_block] at this
    · have hd := congrArg Prod.fst hx0
      simp only at hd
      subst hd
      refine ⟨?_, fun i hi => ?_⟩
      · have h1 := sized_slice hsz hT hD ht
        simp only [List.length_map, List.length_range] at h1
        exact Nat.le_trans (Nat.mul_le_mul_right _ (by omega)) h1
      · have hm' : (Sx i).size ∈ (DataW.slice ((List.range len).map fun i => .lit (.string (Sx i).data.toList)) ((List.range (m - len)).map fun j => .lit (.string (Sx (len + j)).data.toList)) : DataW H).weights P t := by
          simp only [DataW.weights, ht]
          refine List.mem_cons_of_mem _ (List.mem_append_left _ (mem_weightsAll (x := .lit (.string (Sx i).data.toList)) ?_ (List.mem_map.2 ⟨i, List.mem_range.2 hi, rfl⟩)))
          have e : DataW.weights P e (.lit (.string (Sx i).data.toList) : DataW H) = [(Sx i).data.toList.length] := by rw [DataW.weights]
          rw [e, Array.length_toList]
          exact List.mem_singleton.2 rfl
        have := List.all_eq_true.1 hsz _ (DataW.weights_mem_each hT hD _ hm')
        exact of_decide_eq_true this
theorem open_hslice {sp : Nat → Bool} {held : Bool} {s t e : TypeId} {base : Nat} {v : Value} {d : DataW H} {ps : List MemPlace}
    (hs : P.underlying s = .some (.slice t)) (ht : P.underlying t = .some (.array 32 e)) (hct : P.cellsOf t = 32) (he : P.underlying e = .some (.int .u8)) (hce : P.cellsOf e = 1)
    (hv : Value.okWide P W .any base s v) (h : DataW.Trod enc P W 0 sp held s v d ps) :
    ∃ (p : Option Addr) (n c : Nat) (F : Nat → List UInt8), (n ≤ c ∧ c ≤ maxLen) ∧ v = .slice p n c ∧ HAt W p n F := by
  obtain ⟨a0, len, cap, rfl⟩ := okWide_slice hs hv
  obtain ⟨fuel, hf⟩ := h
  rcases Deep.open_slice hs hf with ⟨hcs, _⟩ | ⟨a, len', cap', m, n, D, Pl, hcs, _, hl, hm, hmm, _, hx⟩
  · have e1 : [Value.slice a0 len cap] = [Value.slice none 0 0] := hcs
    simp only [List.cons.injEq, Value.slice.injEq, and_true] at e1
    obtain ⟨rfl, rfl, rfl⟩ := e1
    exact ⟨none, 0, 0, fun _ => [], ⟨Nat.le_refl _, Nat.zero_le _⟩, rfl, HAt.zero _ _ _⟩
  · have e1 : [Value.slice a0 len cap] = [Value.slice (.some a) len' cap'] := hcs
    simp only [List.cons.injEq, Value.slice.injEq, and_true] at e1
    obtain ⟨rfl, rfl, rfl⟩ := e1
    have hlm : len ≤ m := by rw [hmm]; split <;> omega
    have each : ∀ i, i < len → ∃ l : List UInt8, l.length = 32 ∧ ∀ j u, (bC 32 l).toList[j]? = .some u → W.cell? (a.add (i * 32 + j)) = .some u := fun i hi => by
      obtain ⟨cs', h1, h2⟩ := hx i (by omega)
      rw [hct] at h1
      obtain ⟨_, hlen, hcell⟩ := World.cells?_some h1
      have hT : DataW.Trod enc P W 0 sp held t (.agg cs'.toArray) (D i) (Pl i) := ⟨n, h2⟩
      obtain ⟨l, hl32, er⟩ := open_hash ht he hce hct hT
      refine ⟨l, hl32, fun j u hj => ?_⟩
      have hj32 : j < 32 := by
        have := (List.getElem?_eq_some_iff.1 hj).1
        simpa [bC_size] using this
      have hc := hcell j hj32
      rw [Deep.add_add] at hc
      have er' : cs' = (bC 32 l).toList := by rw [← er]
      rw [hc, er', hj]
    obtain ⟨F, hF⟩ := Deep.choose_lt each
    refine ⟨.some a, len, cap, F, ⟨hl, hm⟩, rfl, fun i hi => ⟨(hF i hi).1, a, rfl, ?_, (hF i hi).2⟩⟩
    have hz : (bC 32 (F i)).toList[0]? = .some (.int .u8 ((((F i).getD 0 0).toNat : Nat) : Int)) := by rw [Array.getElem?_toList, bC_get _ _ _ (by omega)]
    have := lt_of_cell ((hF i hi).2 0 _ hz)
    rwa [add_block] at this
end
end Go.Proofs.Ytfadcibmkjpjoaa
