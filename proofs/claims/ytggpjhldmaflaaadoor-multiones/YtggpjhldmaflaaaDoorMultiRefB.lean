/-
  Contracts of the reference's Beside and Top of several leaves (milepostref16). Conditions: at most a million leaves of at most a million bytes; sizes fit.
-/
import Derived.Test.YtggpjhldmaflaaaDoorMultiRefA
import Derived.Test.YtggpjhldmaflaaaDoorMultiMath
import Derived.Test.YtggpjhldmaflaaaDoorOpe
import Derived.Laws.AppendOwnNone
namespace Go.Proofs.YtggpjhldmaflaaaDoor
set_option maxRecDepth 4000
open Go.RowKit

theorem hC_append (L M : List (List UInt8)) : (hC L.length (lh L)).toList ++ (hC M.length (lh M)).toList = (hC (L ++ M).length (lh (L ++ M))).toList := by
  have eL : (hC L.length (lh L)).toList.length = L.length * 32 := by rw [Array.length_toList, hC_size]
  apply List.ext_getElem?
  intro i
  by_cases a1 : i < L.length * 32
  · have h1 : i / 32 < L.length := by omega
    rw [List.getElem?_append_left (by simp [hC_size]; omega), Array.getElem?_toList, Array.getElem?_toList, hC_get _ _ _ a1, hC_get _ _ _ (by rw [List.length_append]; omega)]
    unfold lh
    rw [List.getD_eq_getElem?_getD (l := L ++ M), List.getElem?_append_left h1, List.getD_eq_getElem?_getD (l := L)]
  · rw [List.getElem?_append_right (by rw [eL]; omega), eL, Array.getElem?_toList, Array.getElem?_toList]
    by_cases a2 : i < (L ++ M).length * 32
    · rw [List.length_append] at a2
      rw [hC_get _ _ _ (by omega), hC_get _ _ _ (by rw [List.length_append]; omega)]
      unfold lh
      rw [List.getD_eq_getElem?_getD (l := L ++ M), List.getElem?_append_right (by omega), List.getD_eq_getElem?_getD (l := M), show (i - L.length * 32) / 32 = i / 32 - L.length by omega, show (i - L.length * 32) % 32 = i % 32 by omega]
    · rw [List.length_append] at a2
      rw [Array.getElem?_eq_none (by rw [hC_size]; omega), Array.getElem?_eq_none (by rw [hC_size, List.length_append]; omega)]
/-- 'append(l, m...)' of two slices of hashes of the call's own. -/
theorem wpList_append_paths {w : World} {ops : Array Oper} {rest : List Oper} {o : Oper} {a : Act} {Q : Exit → Act → World → Prop} (hgd : o.guard = none) (s x : Operand)
    (ho : o.op = .call { callee := .builtin .append, args := #[s, x], argTypes := #[26, 26] }) (W : World) (b : Nat)
    (v u : Value) (L M : List (List UInt8)) (hs : a.eval s = v) (hx : a.eval x = u) (hown : Hid (PaS W.heap.size L v w)) (hu : Hid (PaS b M u w)) (hn : L.length + M.length ≤ 100000000) (hk : Hid (Kept W w))
    (h : ∀ v' w', Hid (PaS W.heap.size (L ++ M) v' w') → Hid (Kept W w') → wpList Tryd.prog ops Q rest (a.put o.dst v') w') : wpList Tryd.prog ops Q (o :: rest) a w := by
  obtain ⟨i, hi⟩ : ∃ i, Tryd.prog.info? 38 = some i := Option.isSome_iff_exists.1 (by kernel_rfl)
  have h32 := info_hash32
  rw [hi] at h32
  have h0' := zero_hash
  rw [hi] at h0'
  obtain ⟨z, hz⟩ : ∃ z, i.zero = some z := by cases e : i.zero with | none => simp [e] at h0' | some z => exact ⟨z, rfl⟩
  have hz' : z.cells = bC 32 [] := by simpa [hz] using h0'
  have hs32 : i.size = 32 := by simpa using congrArg (Option.map (·.1)) h32
  have hb32 : i.bytes = 32 := by simpa using congrArg (Option.map (·.2)) h32
  rcases hu.out.2 with ⟨rfl, hM⟩ | ⟨g, cap, cur, rfl, hb, hg, h1, h2, h3, h4⟩
  · obtain rfl := List.length_eq_zero_iff.1 hM
    refine wpList_append_own_none hgd s x 26 ho W.heap.size 38 i 32 Tryd.underlying26 hi v L.length (hC L.length (lh L)).toList hs hown.out hx ?_
    exact h v w (by rw [List.append_nil]; exact hown) hk
  · refine wpList_append_own w hgd s x 26 ho W.heap.size 38 i z 32 32 Tryd.underlying26 hi hz hs32 hb32 (by rw [hz', bC_size]) (by decide) v L.length (hC L.length (lh L)).toList hs hown.out ⟨g, 0, none⟩ M.length cap (hC M.length (lh M)).toList hx (by rw [Array.length_toList, hC_size]) ?_ ?_ (by unfold maxLen; omega) (by omega) hk.out.size ?_
    · intro j y hj
      have hr : Rowz w g cur 38 := hg
      have hjl : j < M.length * 32 := by
        have := (List.getElem?_eq_some_iff.1 hj).1
        simpa [hC_size] using this
      rw [Addr.add_mid, hr.cell, Nat.zero_add, ← hj, ← h4, List.getElem?_take, if_pos hjl, Array.getElem?_toList]
    · exact hC_one _ _
    · intro v' w' ho' hg' _
      refine h v' w' (Lib.hid ?_) (Lib.hid (hk.out.grownBy hg' fun k hk' => (hown.out.lt k hk').1))
      rw [hC_append] at ho'
      unfold PaS
      rw [List.length_append] at ho' ⊢
      exact ho'
theorem run_cutH_mid (q : Addr) (n c m k : Nat) (w : World) (hm : m ≤ k) (hk : k ≤ c) (hc : m < c) :
    (Instr.sliceAt 26 (.slice (some q) n c) (some (.int .i64 (m : Int))) (some (.int .i64 (k : Int))) none).run Tryd.prog w = .ok (.slice (some (q.add (m * 32))) (k - m) (c - m)) w := by
  have e : Tryd.prog.elem 26 = 38 := by kernel_rfl
  have hs := sizeHash w
  have hne : ¬ c = m := by omega
  rw [run_sliceAt_slice w 26 _ _ _ _ Tryd.underlying26, run_slice_lh w 26 (some q) n c Tryd.underlying26 .i64 .i64 (m : Int) (k : Int) (by omega) (by omega) (by omega), e, hs]
  simp [sliced, Result.andThen, hne]
/-- 'path[1:]': the pointer stays where nothing is left of the room. -/
theorem run_cutH_tail (q : Addr) (n c : Nat) (h1 : 0 < n) (hn : n ≤ c) (hcm : c ≤ maxLen) :
    ∃ q', (∀ w : World, (Instr.sliceAt 26 (.slice (some q) n c) (some (.int .i64 1)) none none).run Tryd.prog w = .ok (.slice (some q') (n - 1) (c - 1)) w) ∧
      ∀ (F : Nat → List UInt8) (W : World), HSl n F (.slice (some q) n c) W → HSl (n - 1) (fun i => F (1 + i)) (.slice (some q') (n - 1) (c - 1)) W := by
  by_cases hc : 1 < c
  · refine ⟨q.add (1 * 32), fun w => run_cutH_right q n c 1 w h1 hc, fun F W hv => ?_⟩
    obtain ⟨p, c', e, h2, h3, hF⟩ := hv
    obtain ⟨rfl, rfl⟩ : p = some q ∧ c' = c := by
      injection e with e1 e2 e3
      exact ⟨e1.symm, e3.symm⟩
    exact ⟨_, _, rfl, by omega, by omega, hF.right 1 h1⟩
  · obtain rfl : c = 1 := by omega
    obtain rfl : n = 1 := by omega
    refine ⟨q, fun w => ?_, fun F W hv => ⟨some q, 0, rfl, Nat.le_refl _, Nat.zero_le _, HAt.zero _ _ _⟩⟩
    have e : Tryd.prog.elem 26 = 38 := by kernel_rfl
    have hs := sizeHash w
    rw [run_sliceAt_slice w 26 _ _ _ _ Tryd.underlying26, run_slice_l w 26 (some q) 1 1 Tryd.underlying26 .i64 1 (by omega) (by omega), e, hs]
    simp [sliced, Result.andThen]

def BesOk (f : FuncId) (n : Nat) : Prop := ∀ (v : Value) (N : Nat) (G : Nat → List UInt8) (p : Option Addr) (K c : Nat) (Pl : Nat → Int) (x T : Nat) (w : World), HSl N G v w → N ≤ 1000000 → IAt w p K Pl → K ≤ 1000000 → 0 < n → T = x + n → T ≤ N →
    Calls Tryd.prog f #[v, .slice p K c, .int .i64 (x : Int), .int .i64 (T : Int)] w fun e w' => ∃ u, e = .returned u ∧ PaS w.heap.size (besN G (qP K Pl) x n) u w' ∧ Kept w w'
set_option maxRecDepth 100000 in
set_option maxHeartbeats 2000000 in
theorem refBeside_any (n : Nat) : BesOk 12 n := by
  induction n using Nat.strongRecOn with
  | _ n ih =>
    intro v N G p K c Pl x T w hv hN h hK hn hT hTN
    have HA := Lib.hid (refAmong_any p K c Pl x n T hT w h hK)
    cases hh : hasQ (qP K Pl) x n with
    | false =>
      rw [besN_none G hh]
      rw [hh] at HA
      obtain ⟨p0, c0, rfl, hc0, hm0, hF⟩ := hv
      obtain ⟨q, rfl, _⟩ := hF.some (by omega)
      have hcut := run_cutH_mid q N c0 x T w (by omega) (by omega) (by omega)
      have HT : Hid (Calls Tryd.prog 32 #[.slice (some (q.add (x * 32))) (T - x) (c0 - x)] w fun e w' => e = .returned (.agg (bC 32 (topN (fun j => G (x + j)) n))) ∧ Kept w w') := Lib.hid (by
        have := refTop_any n (some (q.add (x * 32))) (c0 - x) (fun j => G (x + j)) w (by omega) (by omega) ((hF.right x (by omega)).left n (by omega))
        rwa [show n = T - x by omega] at this ⊢)
      generalize topN (fun j => G (x + j)) n = A at HT ⊢
      clear ih h hh hF hc0 hm0
      replace hT := Lib.hid hT
      go_enter Tryd.func12, Tryd.ntmps12
      go_wp2_with fail
      refine HA.out.mono ?_
      rintro e v1 ⟨rfl, rfl⟩
      go_wp2_with fail
      refine HT.out.mono ?_
      rintro e v2 ⟨rfl, k2⟩
      have K2 := Lib.hid k2
      clear k2 HT HA hcut
      go_wp2_with (refine park_at 20 rfl ?_)
      refine unpark ?_
      refine wpList_exec 20 rfl (by rfl) (.slice (some ⟨v2.heap.size, 0, none⟩) 1 1) (v2.alloc (.cells (bC 32 A) 38)) (execBuild1 rfl rfl (run_build1h _ _)) ?_
      go_wp2_with fail
      go_ret
      exact ⟨_, rfl, PaS.one (Rowz.new _ _ _) K2.out.size, K2.out.alloc _⟩
    | true =>
      rw [hh] at HA
      by_cases h2 : n < 2
      · rw [besN_one G hh h2]
        have hsub : IntKind.i64.wrap ((T : Int) - (x : Int)) = 1 := by rw [wrap_sub T x (by omega) (by omega)]; omega
        clear ih h hh hv
        replace hT := Lib.hid hT
        go_enter Tryd.func12, Tryd.ntmps12
        go_wp2_with fail
        refine HA.out.mono ?_
        rintro e v1 ⟨rfl, rfl⟩
        go_wp2_with fail
        go_ret
        exact ⟨_, rfl, PaS.nil _ _, Kept.refl w⟩
      · rw [besN_two G hh (by omega)]
        have hp := leftN_pos (n := n) (by omega)
        have hl := leftN_lt (n := n) (by omega)
        have hsub : IntKind.i64.wrap ((T : Int) - (x : Int)) = (n : Int) := by rw [wrap_sub T x (by omega) (by omega)]; omega
        have hne : ((n : Int) == 1) = false := by simp; omega
        have HL : Hid (∀ w, _) := Lib.hid fun w => refLeft_any (n : Int) w (by omega)
        have hLI : (leftI (n : Int) : Int) = (leftN n : Int) := rfl
        rw [hLI] at HL
        have HI1 : Hid (∀ w, HSl N G v w → IAt w p K Pl → _) := Lib.hid fun w hv h => ih (leftN n) hl v N G p K c Pl x (x + leftN n) w hv hN h hK hp rfl (by omega)
        have HI2 : Hid (∀ w, HSl N G v w → IAt w p K Pl → _) := Lib.hid fun w hv h => ih (n - leftN n) (by omega) v N G p K c Pl (x + leftN n) T w hv hN h hK (by omega) (by omega) hTN
        have b1 := needN_le (qP K Pl) (leftN n) x hp
        have b2 := needN_le (qP K Pl) (n - leftN n) (x + leftN n) (by omega)
        rw [← besN_length G] at b1 b2
        have hadd : IntKind.i64.wrap ((x : Int) + (leftN n : Int)) = ((x + leftN n : Nat) : Int) := by simp only [IntKind.wrap, IntKind.signed, IntKind.bits]; simp; omega
        have HV := Lib.hid hv
        have HP := Lib.hid h
        clear ih h hh hLI hv
        generalize besN G (qP K Pl) x (leftN n) = L at HI1 b1 ⊢
        generalize besN G (qP K Pl) (x + leftN n) (n - leftN n) = M at HI2 b2 ⊢
        generalize x + leftN n = X at HI1 HI2 hadd
        generalize leftN n = l at hl hp HL hadd b1 b2
        have hLM : L.length + M.length ≤ 100000000 := by omega
        replace b1 := Lib.hid b1
        replace b2 := Lib.hid b2
        replace hT := Lib.hid hT
        go_enter Tryd.func12, Tryd.ntmps12
        go_wp2_with fail
        refine HA.out.mono ?_
        rintro e v1 ⟨rfl, rfl⟩
        go_wp2_with fail
        refine (HL.out _).mono ?_
        rintro e v1 ⟨rfl, rfl⟩
        go_wp2_with fail
        refine (HI1.out w HV.out HP.out).mono ?_
        rintro e v1 ⟨u1, rfl, hu1, k1⟩
        have U1 := Lib.hid hu1
        have K1 := Lib.hid k1
        clear hu1 k1 HI1
        go_wp2_with fail
        refine (HI2.out v1 (HSl.kept _ _ _ _ _ K1.out HV.out) (HP.out.kept K1.out)).mono ?_
        rintro e v2 ⟨u2, rfl, hu2, k2⟩
        have U2 := Lib.hid hu2
        have U3 := Lib.hid (PaS.kept _ _ _ _ _ k2 U1.out)
        have K2 := Lib.hid (K1.out.trans k2)
        clear hu2 k2 HI2 U1
        go_wp2_with (at_builtin; refine wpList_append_paths rfl _ _ rfl w _ _ _ L M rfl rfl U3 U2 hLM K2 ?_; intro v' w' U4 K4)
        go_ret
        exact ⟨_, rfl, U4.out, K4.out⟩
end Go.Proofs.YtggpjhldmaflaaaDoor
