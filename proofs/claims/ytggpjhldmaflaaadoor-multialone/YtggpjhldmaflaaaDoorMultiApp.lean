/-
  'append(l, h)' on a slice of hashes of the call's own, with where its bytes lie then; what such appends leave. No condition.
-/
import Derived.Test.YtggpjhldmaflaaaDoorHld
import Derived.Test.YtggpjhldmaflaaaDoorMultiRefB
import Derived.Test.YtggpjhldmaflaaaDoorMultiPart
namespace Go.Proofs.YtggpjhldmaflaaaDoor
set_option maxRecDepth 4000
open Go.RowKit

theorem Past.refl (b : Nat) (w : World) : Past b w w := ⟨fun _ _ h => h, fun _ _ _ h _ => h, Nat.le_refl _⟩
theorem Past.trans {b : Nat} {u v w : World} (h : Past b u v) (k : Past b v w) : Past b u w := ⟨fun W hb K => k.1 W hb (h.1 W hb K), fun g C T hr hg => k.2.1 g C T (h.2.1 g C T hr hg) hg, Nat.le_trans h.2.2 k.2.2⟩
theorem Past.ofKept {b : Nat} {u v : World} (h : Kept u v) : Past b u v := ⟨fun _ _ K => K.trans h, fun _ _ _ hr _ => hr.kept h, h.size⟩
/-- 'append(l, h)': in the same block, or in a new one. -/
theorem run_append_pathU (w : World) (ty : TypeId) (b : Nat) (hbw : b ≤ w.heap.size) (v : Value) (L : List (List UInt8)) (hown : PaS b L v w) (h0 : List UInt8) (g : Nat) (T : TypeId) (hr : Rowz w g (bC 32 h0) T) (hn : L.length ≤ 1000000000) :
    ∃ v' w', (Builtin.append_ #[26, 26] ty #[v, .slice (some ⟨g, 0, none⟩) 1 1]).run Tryd.prog w = .ok v' w' ∧ PaS b (L ++ [h0]) v' w' ∧ w.grownBy w' v.ownBlock ∧ ∀ k, v'.ownBlock = some k → v.ownBlock = some k ∨ w.heap.size ≤ k := by
  obtain ⟨i, hi⟩ : ∃ i, Tryd.prog.info? 38 = some i := Option.isSome_iff_exists.1 (by kernel_rfl)
  have h32 := info_hash32
  rw [hi] at h32
  have h0' := zero_hash
  rw [hi] at h0'
  obtain ⟨z, hz⟩ : ∃ z, i.zero = some z := by cases e : i.zero with | none => simp [e] at h0' | some z => exact ⟨z, rfl⟩
  have hz' : z.cells = bC 32 [] := by simpa [hz] using h0'
  have hs32 : i.size = 32 := by simpa using congrArg (Option.map (·.1)) h32
  have hb32 : i.bytes = 32 := by simpa using congrArg (Option.map (·.2)) h32
  have hnews : ∀ j u, (bC 32 h0).toList[j]? = some u → w.cell? ((⟨g, 0, none⟩ : Addr).add j) = some u := by
    intro j y hj
    rw [Addr.add_mid, hr.cell, ← hj, Array.getElem?_toList]
    simp
  have hone : ∀ u ∈ (bC 32 h0).toList, u.oneCell' = true := fun y hy => Array.all_eq_true_iff_forall_mem.1 (bC_one 32 h0) y (by simpa using hy)
  have hlen : (bC 32 h0).toList.length = 1 * 32 := by rw [Array.length_toList, bC_size]
  have run := fun base hbase (hown' : w.ownsRow base 38 32 v L.length (hC L.length (lh L)).toList) => run_append_own (P := Tryd.prog) w base 26 ty 38 i z 32 32 Tryd.underlying26 hi hz hs32 hb32 (by rw [hz', bC_size]) (by decide) v L.length (hC L.length (lh L)).toList hown' ⟨g, 0, none⟩ 1 1 (bC 32 h0).toList hlen hnews hone (by unfold maxLen; omega) (by omega) hbase
  obtain ⟨v', w', hx, ho', hg, _⟩ := run b hbw hown
  refine ⟨v', w', hx, ?_, hg, fun k hk => ?_⟩
  · have e1 : hC L.length (lh L) = hC L.length (lh (L ++ [h0])) := hC_congr _ _ _ fun i hi => (lh_snoc L h0 i hi).symm
    have e2 : bC 32 h0 = bC 32 (lh (L ++ [h0]) L.length) := by rw [lh_last]
    rw [e1, e2, hC_snoc] at ho'
    unfold PaS
    rw [List.length_append]
    exact ho'
  · rcases hown.2 with ⟨rfl, h0⟩ | ⟨g', cap, cur, rfl, hb', hg', hnc, hcm, hcs, htake⟩
    · obtain ⟨v2, w2, hx2, ho2, _, _⟩ := run w.heap.size (Nat.le_refl _) ⟨hown.1, .inl ⟨rfl, h0⟩⟩
      have e := hx.symm.trans hx2
      injection e with e1 e2
      subst e1
      exact .inr (ho2.lt k hk).1
    · by_cases hroom : L.length + 1 ≤ cap
      · have hr2 := run_append_room (P := Tryd.prog) w 26 ty 38 i Tryd.underlying26 hi g' L.length cap cur hg' ⟨g, 0, none⟩ 1 1 (bC 32 h0).toList (by rw [hs32]; exact hlen) hnews hone hroom (by rw [hlen, hs32, hcs, ← Nat.add_mul]; exact Nat.mul_le_mul_right _ hroom)
        have e := hx.symm.trans hr2
        injection e with e1 e2
        left
        rw [← hk, e1]
        rfl
      · have holds : ∀ j u, (hC L.length (lh L)).toList[j]? = some u → w.cell? ((⟨g', 0, none⟩ : Addr).add j) = some u := World.ownsRow.cells hown (g := g') rfl
        have hr2 := run_append_grow (P := Tryd.prog) w 26 ty 38 i z Tryd.underlying26 hi hz ⟨g', 0, none⟩ L.length cap (hC L.length (lh L)).toList (by rw [hs32]; exact hown.1) holds ⟨g, 0, none⟩ 1 1 (bC 32 h0).toList (by rw [hs32]; exact hlen) hnews (by omega) (by omega) (by rw [hb32]; exact growslice_fits (by omega) (by omega))
        have e := hx.symm.trans hr2
        injection e with e1 e2
        right
        rw [e1] at hk
        have : w.heap.size = k := by simpa [Value.ownBlock] using hk
        omega
theorem past_of_grown {b : Nat} {w w' : World} {L : List (List UInt8)} {v : Value} (hown : PaS b L v w) (hg : w.grownBy w' v.ownBlock) : Past b w w' := by
  have hlt := fun k hk' => (World.ownsRow.lt hown k hk').1
  refine ⟨fun W hW K => K.grownBy hg fun k hk' => Nat.le_trans hW (hlt k hk'), fun k C T' hR hk => ?_, hg.size⟩
  refine (hg.block k hR.lt fun e => ?_).trans hR
  rcases hk with hk | hk
  · have := hlt k e.symm; omega
  · rcases hown.2 with ⟨rfl, _⟩ | ⟨g', cap, cur, rfl, _, hg', _⟩
    · cases e
    · obtain rfl : k = g' := by simpa [Value.ownBlock] using e
      have e3 := hg'.symm.trans hR
      simp at e3
      exact hk e3.2.symm
theorem wpList_append_pathU {w : World} {T : TypeId} {h0 : List UInt8} {ops : Array Oper} {rest : List Oper} {o : Oper} {a : Act} {Q : Exit → Act → World → Prop} (hgd : o.guard = none) (s x : Operand)
    (ho : o.op = .call { callee := .builtin .append, args := #[s, x], argTypes := #[26, 26] }) (b : Nat) (hbw : Hid (b ≤ w.heap.size))
    (v : Value) (L : List (List UInt8)) (g : Nat) (hs : a.eval s = v) (hown : Hid (PaS b L v w)) (hx : a.eval x = .slice (some ⟨g, 0, none⟩) 1 1) (hr : Hid (Rowz w g (bC 32 h0) T)) (hn : Hid (L.length ≤ 1000000000))
    (h : ∀ v' w', Hid (PaS b (L ++ [h0]) v' w') → Hid (w.grownBy w' v.ownBlock) → Hid (∀ k, v'.ownBlock = some k → v.ownBlock = some k ∨ w.heap.size ≤ k) → Hid (Past b w w') → wpList Tryd.prog ops Q rest (a.put o.dst v') w') :
    wpList Tryd.prog ops Q (o :: rest) a w :=
  wpList_plain hgd fun _ hK => by
    obtain ⟨v', w', hr', h2, h3, h4⟩ := run_append_pathU w o.type b hbw.out v L hown.out h0 g T hr.out hn.out
    unfold Oper.wp execOp
    simp only [ho, resolve, invoke, builtin, Sem.run_bind, Sem.run_pure, Result.andThen_ok, List.map_toArray, List.map_cons, List.map_nil, hs, hx, hr']
    exact hK _ _ (h v' w' (Lib.hid h2) (Lib.hid h3) (Lib.hid h4) (Lib.hid (past_of_grown hown.out h3)))
end Go.Proofs.YtggpjhldmaflaaaDoor
