/-
  Slices of integers, wherever they lie (IAt): among a law's arguments; cut in two. No condition.
-/
import Derived.Test.YtfadcibmkjpjoaaBas
import Derived.Test.YtfadcibmkjpjoaaProg
import Derived.Deep.MidRow
namespace Go.Proofs.Ytfadcibmkjpjoaa
set_option maxRecDepth 4000
open Go.ChangeShapes Go.WideShapes Go.ChangeAt Go.RowKit

/-- n integers from p on. -/
def IAt (w : World) (p : Option Addr) (n : Nat) (I : Nat → Int) : Prop := ∀ i, i < n → ∃ a : Addr, p = some a ∧ a.block < w.heap.size ∧ w.cell? (a.add i) = some (.int .i64 (I i))
theorem IAt.kept {w w' : World} {p : Option Addr} {n : Nat} {I : Nat → Int} (h : IAt w p n I) (K : Kept w w') : IAt w' p n I := by
  intro i hi
  obtain ⟨a, hp, hb, hc⟩ := h i hi
  refine ⟨a, hp, Nat.lt_of_lt_of_le hb K.size, ?_⟩
  rw [Kept.cellAt K _ (by rw [add_block]; exact hb)]; exact hc
theorem IAt.zero (w : World) (p : Option Addr) (I : Nat → Int) : IAt w p 0 I := fun i hi => absurd hi (Nat.not_lt_zero i)
theorem IAt.some {w : World} {p : Option Addr} {n : Nat} {I : Nat → Int} (h : IAt w p n I) (hn : 0 < n) : ∃ a, p = .some a ∧ a.block < w.heap.size := by
  obtain ⟨a, hp, hb, _⟩ := h 0 hn; exact ⟨a, hp, hb⟩
theorem IAt.cell {w : World} {a : Addr} {n : Nat} {I : Nat → Int} (h : IAt w (.some a) n I) (i : Nat) (hi : i < n) : w.cell? (a.add i) = .some (.int .i64 (I i)) := by
  obtain ⟨q, e, _, hc⟩ := h i hi
  obtain rfl := Option.some.inj e
  exact hc
theorem IAt.left {w : World} {p : Option Addr} {n : Nat} {I : Nat → Int} (h : IAt w p n I) (m : Nat) (hm : m ≤ n) : IAt w p m I := fun i hi => h i (by omega)
theorem IAt.right {w : World} {a : Addr} {n : Nat} {I : Nat → Int} (h : IAt w (.some a) n I) (m : Nat) (hm : m ≤ n) : IAt w (.some (a.add m)) (n - m) (fun i => I (m + i)) := by
  intro i hi
  obtain ⟨q, e, hb, hc⟩ := h (m + i) (by omega)
  obtain rfl := Option.some.inj e
  exact ⟨_, rfl, by rw [add_block]; exact hb, by rw [Deep.add_add]; exact hc⟩
theorem IAt.ofRow {w : World} {g n : Nat} {I : Nat → Int} {cur : Array Value} {T : TypeId} (h : Rowz w g cur T) (hc : ∀ k, k < n → cur[k]? = .some (.int .i64 (I k))) : IAt w (.some ⟨g, 0, none⟩) n I := fun i hi =>
  ⟨_, rfl, h.lt, by rw [Addr.add_mid, h.cell, Nat.zero_add, hc i hi]⟩

section
variable {H : Type} {enc : TypeId × Value → H} {P : Program} {W : World}
theorem open_isliceL {sp : Nat → Bool} {held : Bool} {s t : TypeId} {v : Value} {fuel : Nat} {x : DataW H × List MemPlace}
    (hs : P.underlying s = some (.slice t)) (ht : P.underlying t = some (.int .i64)) (hct : P.cellsOf t = 1) (h : DataW.trod enc P W 0 sp held fuel s [v] = some x) :
    ∃ (p : Option Addr) (n c : Nat) (I : Nat → Int), (n ≤ c ∧ c ≤ maxLen) ∧ v = .slice p n c ∧ IAt W p n I ∧ ∀ i, i < n → (Lit.int .i64 (I i)).wf = true := by
  rcases Deep.open_slice hs h with ⟨hcs, _⟩ | ⟨a, len, cap, m, n, D, Pl, hcs, _, hl, hm, hmm, _, hx⟩
  · obtain rfl : v = .slice none 0 0 := by simpa using hcs
    exact ⟨none, 0, 0, fun _ => 0, ⟨Nat.le_refl _, Nat.zero_le _⟩, rfl, IAt.zero _ _ _, fun i hi => absurd hi (Nat.not_lt_zero i)⟩
  · obtain rfl : v = .slice (some a) len cap := by simpa using hcs
    have hlm : len ≤ m := by rw [hmm]; split <;> omega
    have each : ∀ i, i < len → ∃ z : Int, (Lit.int .i64 z).wf = true ∧ W.cell? (a.add i) = .some (.int .i64 z) := fun i hi => by
      obtain ⟨cs', h1, h2⟩ := hx i (by omega)
      rw [hct] at h1
      obtain ⟨_, hlen, hcell⟩ := World.cells?_some h1
      obtain ⟨z, e, _, hw⟩ := DataW.trod_int ht h2
      refine ⟨z, hw, ?_⟩
      have hc := hcell 0 (by omega)
      rw [e, Deep.add_add, Nat.mul_one, Nat.add_zero] at hc
      exact hc
    obtain ⟨F, hF⟩ := Deep.choose_lt each
    refine ⟨.some a, len, cap, F, ⟨hl, hm⟩, rfl, fun i hi => ⟨a, rfl, ?_, (hF i hi).2⟩, fun i hi => (hF i hi).1⟩
    have := lt_of_cell (hF i hi).2
    rwa [add_block] at this
theorem open_islice {sp : Nat → Bool} {held : Bool} {s t : TypeId} {base : Nat} {v : Value} {d : DataW H} {ps : List MemPlace}
    (hs : P.underlying s = some (.slice t)) (ht : P.underlying t = some (.int .i64)) (hct : P.cellsOf t = 1) (hv : Value.okWide P W .any base s v) (h : DataW.Trod enc P W 0 sp held s v d ps) :
    ∃ (p : Option Addr) (n c : Nat) (I : Nat → Int), (n ≤ c ∧ c ≤ maxLen) ∧ v = .slice p n c ∧ IAt W p n I ∧ ∀ i, i < n → (Lit.int .i64 (I i)).wf = true := by
  obtain ⟨a0, len, cap, rfl⟩ := okWide_slice hs hv
  obtain ⟨fuel, hf⟩ := h
  exact open_isliceL hs ht hct hf
end
end Go.Proofs.Ytfadcibmkjpjoaa
