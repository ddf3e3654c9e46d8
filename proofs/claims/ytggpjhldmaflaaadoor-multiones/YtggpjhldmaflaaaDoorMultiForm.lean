/-
  What multi's exported functions answer (needI, mayM, rtM, ckM, onB, onI, onC, onL), the contracts' forms, and how these answers hang together: an opening of several leaves that a list makes determines its root and each leaf's own opening; each leaf alone determines the same root.
-/
import Derived.Test.YtggpjhldmaflaaaDoorMultiRefC
import Derived.Test.YtggpjhldmaflaaaDoorOpe
import Derived.Test.YtggpjhldmaflaaaDoorMultiNeed
namespace Go.Proofs.YtggpjhldmaflaaaDoor
set_option maxRecDepth 4000
open Go.RowKit

/-- May's answer. -/
noncomputable def mayM (k N : Int) (K : Nat) (Pl : Nat → Int) (m : Nat) : Int := if 1 ≤ N ∧ N ≤ 1048576 ∧ risP N K Pl then (if k = (K : Int) ∧ (m : Int) = needI N K Pl then 0 else 2) else 3
noncomputable def rtM (k : Nat) (S : Nat → ByteArray) (N : Int) (K : Nat) (Pl : Nat → Int) (m : Nat) (F : Nat → List UInt8) : List UInt8 :=
  if mayM (k : Int) N K Pl m = 0 then shaL (rootS N.toNat (tpM (qP K Pl) (hP K Pl S) F 0 N.toNat 0)) else zeroH
noncomputable def ckM (r : List UInt8) (k : Nat) (S : Nat → ByteArray) (N : Int) (K : Nat) (Pl : Nat → Int) (m : Nat) (F : Nat → List UInt8) : Bool := decide (mayM (k : Int) N K Pl m = 0 ∧ rtM k S N K Pl m F = r)
/-- What One answers. -/
noncomputable def onB (k : Nat) (N : Int) (K : Nat) (Pl : Nat → Int) (m : Nat) (i : Int) : Bool := decide (mayM (k : Int) N K Pl m = 0 ∧ 0 ≤ i ∧ i < (K : Int))
noncomputable def onI (k : Nat) (N : Int) (K : Nat) (Pl : Nat → Int) (m : Nat) (i : Int) : Int := if onB k N K Pl m i then Pl i.toNat else 0
noncomputable def onC (k : Nat) (N : Int) (K : Nat) (Pl : Nat → Int) (m : Nat) (i : Int) : Int := if onB k N K Pl m i then N else 0
noncomputable def onL (k : Nat) (S : Nat → ByteArray) (N : Int) (K : Nat) (Pl : Nat → Int) (m : Nat) (F : Nat → List UInt8) (i : Int) : List (List UInt8) :=
  if onB k N K Pl m i then onM (qP K Pl) (hP K Pl S) F 0 N.toNat 0 (Pl i.toNat).toNat else []
/-- What Open answers. -/
noncomputable def mkE (n K : Nat) (Pl : Nat → Int) : Int := if risP (n : Int) K Pl then 0 else 3
noncomputable def mkC (n K : Nat) (Pl : Nat → Int) : Int := if risP (n : Int) K Pl then (n : Int) else 0
noncomputable def mkK (n K : Nat) (Pl : Nat → Int) : Nat := if risP (n : Int) K Pl then K else 0
noncomputable def mkL (S : Nat → ByteArray) (n K : Nat) (Pl : Nat → Int) : List (List UInt8) := if risP (n : Int) K Pl then besN (lf S) (qP K Pl) 0 n else []

/-! ### The contracts' forms -/
def MultiOpenC (f : FuncId) : Prop := ∀ (p : Option Addr) (n c : Nat) (S : Nat → ByteArray) (p1 : Option Addr) (K c1 : Nat) (Pl : Nat → Int) (w : World), SAt w p n S → n ≤ c → c ≤ maxLen → (∀ i, i < n → (S i).size ≤ 1000000) → n ≤ 1000000 →
  IAt w p1 K Pl → K ≤ c1 → c1 ≤ maxLen → K ≤ 1000000 → Tab w →
  Calls Tryd.prog f #[.slice p n c, .slice p1 K c1] w fun e w' => ∃ pp pc q qc, e = .returned (.tuple #[.agg #[.int .i64 (mkC n K Pl), .slice pp (mkK n K Pl) pc, .slice q (mkL S n K Pl).length qc], .int .i64 (mkE n K Pl)]) ∧
    (mkK n K Pl ≤ pc ∧ pc ≤ maxLen) ∧ IAt w' pp (mkK n K Pl) Pl ∧ HSl (mkL S n K Pl).length (lh (mkL S n K Pl)) (.slice q (mkL S n K Pl).length qc) w' ∧ Kept w w'
def MultiMayC (f : FuncId) : Prop := ∀ (k N : Int) (p : Option Addr) (K c : Nat) (Pl : Nat → Int) (q : Option Addr) (m d : Nat) (w : World), IAt w p K Pl → K ≤ c → c ≤ maxLen → K ≤ 1000000 → m ≤ d → d ≤ maxLen →
  Calls Tryd.prog f #[.int .i64 k, .agg #[.int .i64 N, .slice p K c, .slice q m d]] w fun e w' => e = .returned (.int .i64 (mayM k N K Pl m)) ∧ Kept w w'
def MultiRootC (f : FuncId) : Prop := ∀ (p1 : Option Addr) (k c1 : Nat) (S : Nat → ByteArray) (N : Int) (p : Option Addr) (K c : Nat) (Pl : Nat → Int) (q : Option Addr) (m d : Nat) (F : Nat → List UInt8) (w : World),
  SAt w p1 k S → k ≤ c1 → c1 ≤ maxLen → (∀ i, i < k → (S i).size ≤ 1000000) → IAt w p K Pl → K ≤ c → c ≤ maxLen → K ≤ 1000000 → HSl m F (.slice q m d) w → Tab w →
  Calls Tryd.prog f #[.slice p1 k c1, .agg #[.int .i64 N, .slice p K c, .slice q m d]] w fun e w' => e = .returned (.tuple #[.agg (bC 32 (rtM k S N K Pl m F)), .int .i64 (mayM (k : Int) N K Pl m)]) ∧ Kept w w'
def MultiCheckC (f : FuncId) : Prop := ∀ (r : List UInt8) (p1 : Option Addr) (k c1 : Nat) (S : Nat → ByteArray) (N : Int) (p : Option Addr) (K c : Nat) (Pl : Nat → Int) (q : Option Addr) (m d : Nat) (F : Nat → List UInt8) (w : World), r.length = 32 →
  SAt w p1 k S → k ≤ c1 → c1 ≤ maxLen → (∀ i, i < k → (S i).size ≤ 1000000) → IAt w p K Pl → K ≤ c → c ≤ maxLen → K ≤ 1000000 → HSl m F (.slice q m d) w → Tab w →
  Calls Tryd.prog f #[.agg (bC 32 r), .slice p1 k c1, .agg #[.int .i64 N, .slice p K c, .slice q m d]] w fun e w' => e = .returned (.bool (ckM r k S N K Pl m F)) ∧ Kept w w'
def MultiOneC (f : FuncId) : Prop := ∀ (p1 : Option Addr) (k c1 : Nat) (S : Nat → ByteArray) (N : Int) (p : Option Addr) (K c : Nat) (Pl : Nat → Int) (q : Option Addr) (m d : Nat) (F : Nat → List UInt8) (i : Int) (w : World),
  SAt w p1 k S → k ≤ c1 → c1 ≤ maxLen → (∀ i, i < k → (S i).size ≤ 1000000) → IAt w p K Pl → K ≤ c → c ≤ maxLen → K ≤ 1000000 → HSl m F (.slice q m d) w → Tab w →
  Calls Tryd.prog f #[.slice p1 k c1, .agg #[.int .i64 N, .slice p K c, .slice q m d], .int .i64 i] w fun e w' => ∃ q' c', e = .returned (.tuple #[.agg #[.int .i64 (onI k N K Pl m i), .int .i64 (onC k N K Pl m i), .slice q' (onL k S N K Pl m F i).length c'], .bool (onB k N K Pl m i)]) ∧
    HSl (onL k S N K Pl m F i).length (lh (onL k S N K Pl m F i)) (.slice q' (onL k S N K Pl m F i).length c') w' ∧ Kept w w'

/-! ### How the answers hang together -/
theorem mayM_zero {k N : Int} {K : Nat} {Pl : Nat → Int} {m : Nat} : mayM k N K Pl m = 0 ↔ (1 ≤ N ∧ N ≤ 1048576 ∧ risP N K Pl) ∧ k = (K : Int) ∧ (m : Int) = needI N K Pl := by
  unfold mayM
  by_cases h : 1 ≤ N ∧ N ≤ 1048576 ∧ risP N K Pl
  · rw [if_pos h]
    by_cases h2 : k = (K : Int) ∧ (m : Int) = needI N K Pl
    · rw [if_pos h2]; exact ⟨fun _ => ⟨h, h2⟩, fun _ => rfl⟩
    · rw [if_neg h2]; exact ⟨fun h' => absurd h' (by decide), fun h' => absurd h'.2 h2⟩
  · rw [if_neg h]; exact ⟨fun h' => absurd h' (by decide), fun h' => absurd h'.1 h⟩
theorem mayM_nat {k : Nat} {N : Int} {K : Nat} {Pl : Nat → Int} {m : Nat} (h : mayM (k : Int) N K Pl m = 0) : ∃ n : Nat, N = n ∧ 0 < n ∧ n ≤ 1048576 ∧ risP (n : Int) K Pl ∧ k = K ∧ m = needN (qP K Pl) 0 n := by
  obtain ⟨⟨h1, h2, h3⟩, h4, h5⟩ := mayM_zero.1 h
  obtain ⟨n, rfl, hn⟩ := risP_nat h3
  rw [needI_yes h3] at h5
  exact ⟨n, rfl, hn, by omega, h3, by omega, by omega⟩
theorem rtM_length (k : Nat) (S : Nat → ByteArray) (N : Int) (K : Nat) (Pl : Nat → Int) (m : Nat) (F : Nat → List UInt8) : (rtM k S N K Pl m F).length = 32 := by
  unfold rtM
  split
  · exact shaL_length _
  · rfl
/-- What Open tells of a list: the leaves are the list's. -/
theorem hP_list {n K : Nat} {Pl : Nat → Int} (h : risP (n : Int) K Pl) (S : Nat → ByteArray) (x : Nat) (hx : qP K Pl x = true) : hP K Pl (fun k => S (Pl k).toNat) x = lf S x := by
  obtain ⟨i, hi, he⟩ := qP_iff.1 hx
  rw [hP_at h _ hi he]
  show lf S (Pl i).toNat = _
  rw [he]; rfl
theorem may_mk {n K : Nat} {Pl : Nat → Int} (h : risP (n : Int) K Pl) (hn : n ≤ 1048576) (S : Nat → ByteArray) : mayM (K : Int) (mkC n K Pl) (mkK n K Pl) Pl (mkL S n K Pl).length = 0 := by
  obtain ⟨n', e, h0⟩ := risP_nat h
  rw [mkC, mkK, mkL, if_pos h, if_pos h, if_pos h, mayM_zero, needI_yes h, besN_length]
  exact ⟨⟨by omega, by omega, h⟩, rfl, rfl⟩
theorem rt_mk {n K : Nat} {Pl : Nat → Int} (h : risP (n : Int) K Pl) (hn : n ≤ 1048576) (S : Nat → ByteArray) : rtM K (fun k => S (Pl k).toNat) (mkC n K Pl) (mkK n K Pl) Pl (mkL S n K Pl).length (lh (mkL S n K Pl)) = rootL S n := by
  rw [rtM, if_pos (may_mk h hn S), mkC, mkK, mkL, if_pos h, if_pos h, if_pos h]
  obtain ⟨n', e, h0⟩ := risP_nat h
  simp only [Int.toNat_natCast]
  rw [tpM_bes (qP K Pl) (lf S) _ _ n 0 0 (by omega) (fun x _ _ hq => hP_list h S x hq) (fun k _ => by rw [Nat.zero_add])]
  simp only [Nat.zero_add]
  rfl
theorem onB_mk {n K : Nat} {Pl : Nat → Int} (h : risP (n : Int) K Pl) (hn : n ≤ 1048576) (S : Nat → ByteArray) (i : Int) : onB K (mkC n K Pl) (mkK n K Pl) Pl (mkL S n K Pl).length i = decide (0 ≤ i ∧ i < (K : Int)) := by
  have e : mkK n K Pl = K := if_pos h
  unfold onB
  rw [decide_eq_decide]
  constructor
  · rintro ⟨_, h2, h3⟩; rw [e] at h3; exact ⟨h2, h3⟩
  · rintro ⟨h2, h3⟩; exact ⟨may_mk h hn S, h2, by rw [e]; exact h3⟩
theorem onL_mk {n K : Nat} {Pl : Nat → Int} (h : risP (n : Int) K Pl) (hn : n ≤ 1048576) (S : Nat → ByteArray) {i : Nat} (hi : i < K) :
    onL K (fun k => S (Pl k).toNat) (mkC n K Pl) (mkK n K Pl) Pl (mkL S n K Pl).length (lh (mkL S n K Pl)) (i : Int) = opL S n (Pl i) ∧ onI K (mkC n K Pl) (mkK n K Pl) Pl (mkL S n K Pl).length (i : Int) = opI n (Pl i) ∧ onC K (mkC n K Pl) (mkK n K Pl) Pl (mkL S n K Pl).length (i : Int) = opC n (Pl i) := by
  have hb : onB K (mkC n K Pl) (mkK n K Pl) Pl (mkL S n K Pl).length (i : Int) = true := by rw [onB_mk h hn]; exact decide_eq_true ⟨by omega, by omega⟩
  obtain ⟨x, hx, hxn, hq⟩ := risP_at h hi
  have hin : 0 ≤ Pl i ∧ Pl i < (n : Int) := by omega
  rw [onL, onI, onC, if_pos hb, if_pos hb, if_pos hb, opL, opI, opC, if_pos hin, if_pos hin, if_pos hin, mkC, mkK, mkL, if_pos h, if_pos h, if_pos h]
  simp only [Int.toNat_natCast]
  rw [hx]
  simp only [Int.toNat_natCast]
  rw [onM_bes (qP K Pl) (lf S) _ _ n 0 0 x (fun x _ _ hq => hP_list h S x hq) (fun k _ => by rw [Nat.zero_add]) hq (by omega) (by omega)]
  simp only [Nat.zero_add, Nat.sub_zero]
  refine ⟨?_, ?_, ?_⟩ <;> first | rfl | trivial
/-- Each leaf alone determines the root. -/
theorem one_alone {k : Nat} {N : Int} {K : Nat} {Pl : Nat → Int} {m : Nat} (S : Nat → ByteArray) (F : Nat → List UInt8) (h : mayM (k : Int) N K Pl m = 0) {i : Nat} (hi : i < K) :
    onI k N K Pl m (i : Int) = Pl i ∧ onC k N K Pl m (i : Int) = N ∧ mayE (Pl i) N (onL k S N K Pl m F (i : Int)).length = 0 ∧
      rtO (S i) (Pl i) N (onL k S N K Pl m F (i : Int)).length (lh (onL k S N K Pl m F (i : Int))) = rtM k S N K Pl m F := by
  have hb : onB k N K Pl m (i : Int) = true := decide_eq_true ⟨h, by omega, by omega⟩
  have h' := h
  obtain ⟨n, rfl, h0, hn, hr, rfl, rfl⟩ := mayM_nat h
  obtain ⟨x, hx, hxn, hq⟩ := risP_at hr hi
  have hm : mayE (Pl i) (n : Int) (onL k S (n : Int) k Pl (needN (qP k Pl) 0 n) F (i : Int)).length = 0 := by
    rw [mayE_zero, onL, if_pos hb]
    simp only [Int.toNat_natCast]
    rw [onM_length _ _ _ _ _ _ _ (Nat.zero_le _), hx, depthI, if_pos (by omega)]
    simp only [Int.toNat_natCast, Nat.sub_zero]
    exact ⟨by omega, trivial⟩
  refine ⟨by rw [onI, if_pos hb]; rfl, by rw [onC, if_pos hb], hm, ?_⟩
  rw [rtO, if_pos hm, rtM, if_pos h', fl_lh, onL, if_pos hb]
  simp only [Int.toNat_natCast]
  rw [hx]
  simp only [Int.toNat_natCast]
  have := up_onM (qP k Pl) (hP k Pl S) F n 0 0 x hq (by omega) (by omega)
  rw [Nat.sub_zero, hP_at hr S hi hx] at this
  rw [show shaL (leafS (S i)) = lf S i from rfl, this]
theorem sameO_nil : sameO 0 0 0 (lh []) 0 0 0 (fun _ => []) = true := by
  unfold sameO
  exact decide_eq_true ⟨rfl, rfl, rfl, fun i hi => absurd hi (Nat.not_lt_zero i)⟩
end Go.Proofs.YtggpjhldmaflaaaDoor
