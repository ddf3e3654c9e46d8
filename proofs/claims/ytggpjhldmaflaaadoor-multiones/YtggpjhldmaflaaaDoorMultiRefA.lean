/-
  Contracts of the reference's among, Rising and Need (milepostref16). Conditions: at most a million places; sizes fit.
-/
import Derived.Test.YtggpjhldmaflaaaDoorMultiMathA
import Derived.Test.YtggpjhldmaflaaaDoorLawLibI
import Derived.Test.YtggpjhldmaflaaaDoorTre
import Derived.BigQuiet
namespace Go.Proofs.YtggpjhldmaflaaaDoor
set_option maxRecDepth 4000
open Go.RowKit

set_option maxRecDepth 100000 in
set_option maxHeartbeats 1000000 in
theorem refAmong0_any (p : Option Addr) (K c : Nat) (Pl : Nat → Int) (f t : Int) (w : World) (h : IAt w p K Pl) (hK : K ≤ 1000000) :
    Calls Tryd.prog 31 #[.slice p K c, .int .i64 f, .int .i64 t] w fun e w' => e = .returned (.bool (decide (∃ i, i < K ∧ f ≤ Pl i ∧ Pl i < t))) ∧ w = w' := by
  have H := Lib.hid h
  clear h
  obtain ⟨B, hB⟩ : ∃ B, B = decide (∃ i, i < K ∧ f ≤ Pl i ∧ Pl i < t) := ⟨_, rfl⟩
  rw [← hB]
  replace hB := Lib.hid hB
  go_enter Tryd.func31, Tryd.ntmps31
  go_wp2
  go_loopw [7] (fun i wr => ∃ k : Nat, k ≤ K ∧ i = .int .i64 k ∧ Hid (∀ j, j < k → ¬ (f ≤ Pl j ∧ Pl j < t)) ∧ wr = w) (fun i _ => K - (intOf i).toNat)
  case atStart => exact ⟨0, by omega, rfl, Lib.hid (fun j hj => absurd hj (Nat.not_lt_zero j)), rfl⟩
  case round =>
    obtain ⟨k, hk, rfl, HU, rfl⟩ := hrel
    by_cases hlt : k < K
    · have hd1 : decide ((k : Int) < (K : Int)) = true := decide_eq_true (by omega)
      have hd1' : decide (k < K) = true := decide_eq_true hlt
      obtain ⟨q, rfl, _⟩ := H.out.some (by omega)
      have hc := H.out.cell k hlt
      obtain ⟨x, hx⟩ : ∃ x, x = Pl k := ⟨_, rfl⟩
      rw [← hx] at hc
      replace hx := Lib.hid hx
      by_cases h1 : f ≤ x
      · have hd2 : decide (x ≥ f) = true := decide_eq_true h1
        have hd2' : decide (f ≤ x) = true := decide_eq_true h1
        by_cases h2 : x < t
        · have hd3 : decide (x < t) = true := decide_eq_true h2
          have hBt : B = true := by rw [hB.out]; exact decide_eq_true ⟨k, hlt, hx.out ▸ h1, hx.out ▸ h2⟩
          subst hBt
          clear h1 h2
          go_wp2
          go_ret
          exact ⟨rfl, rfl⟩
        · have hd3 : decide (x < t) = false := decide_eq_false h2
          have HU1 : Hid (∀ j, j < k + 1 → ¬ (f ≤ Pl j ∧ Pl j < t)) := Lib.hid fun j hj => by
            rcases Nat.lt_or_eq_of_le (show j ≤ k by omega) with h | h
            · exact HU.out j h
            · subst h; rw [← hx.out]; exact fun h => h2 h.2
          clear h1 h2 HU
          go_wp2
          go_roundw
          case rel => exact ⟨k + 1, by omega, by go_num, HU1, trivial⟩
          case measure => simp [intOf]; omega
      · have hd2 : decide (x ≥ f) = false := decide_eq_false h1
        have hd2' : decide (f ≤ x) = false := decide_eq_false h1
        have HU1 : Hid (∀ j, j < k + 1 → ¬ (f ≤ Pl j ∧ Pl j < t)) := Lib.hid fun j hj => by
          rcases Nat.lt_or_eq_of_le (show j ≤ k by omega) with h | h
          · exact HU.out j h
          · subst h; rw [← hx.out]; exact fun h => h1 h.1
        clear h1 HU
        go_wp2
        go_roundw
        case rel => exact ⟨k + 1, by omega, by go_num, HU1, trivial⟩
        case measure => simp [intOf]; omega
    · have hd1 : decide ((k : Int) < (K : Int)) = false := decide_eq_false (by omega)
      have hd1' : decide (k < K) = false := decide_eq_false hlt
      obtain rfl : k = K := by omega
      have hBf : B = false := by rw [hB.out]; exact decide_eq_false fun ⟨i, hi, h⟩ => HU.out i hi h
      subst hBf
      go_wp2
      go_ret
      exact ⟨rfl, rfl⟩
theorem refAmong_any (p : Option Addr) (K c : Nat) (Pl : Nat → Int) (x n T : Nat) (hT : T = x + n) (w : World) (h : IAt w p K Pl) (hK : K ≤ 1000000) :
    Calls Tryd.prog 31 #[.slice p K c, .int .i64 (x : Int), .int .i64 (T : Int)] w fun e w' => e = .returned (.bool (hasQ (qP K Pl) x n)) ∧ w = w' := by
  have := refAmong0_any p K c Pl (x : Int) (T : Int) w h hK
  have e : decide (∃ i, i < K ∧ (x : Int) ≤ Pl i ∧ Pl i < (T : Int)) = hasQ (qP K Pl) x n := by
    rw [Bool.eq_iff_iff, decide_eq_true_iff, among_iff, hT]
  rwa [e] at this

/-- Place i is what the loop asks. -/
def goodP (n : Int) (Pl : Nat → Int) (i : Nat) : Prop := ¬ (Pl i < 0) ∧ ¬ (n ≤ Pl i) ∧ ¬ (0 < i ∧ Pl i ≤ Pl (i - 1))
theorem risP_snoc {n : Int} {K : Nat} {Pl : Nat → Int} : risP n K Pl ↔ 0 < K ∧ ∀ i, i < K → goodP n Pl i := by
  unfold risP goodP
  constructor
  · rintro ⟨h0, h⟩
    exact ⟨h0, fun i hi => by obtain ⟨h1, h2, h3⟩ := h i hi; refine ⟨by omega, by omega, fun h => ?_⟩; have := h3 h.1; omega⟩
  · rintro ⟨h0, h⟩
    exact ⟨h0, fun i hi => by obtain ⟨h1, h2, h3⟩ := h i hi; exact ⟨by omega, by omega, fun h4 => by omega⟩⟩
set_option maxRecDepth 100000 in
set_option maxHeartbeats 2000000 in
theorem refRising_any (n : Int) (p : Option Addr) (K c : Nat) (Pl : Nat → Int) (w : World) (h : IAt w p K Pl) (hK : K ≤ 1000000) :
    Calls Tryd.prog 10 #[.int .i64 n, .slice p K c] w fun e w' => e = .returned (.bool (decide (risP n K Pl))) ∧ Kept w w' := by
  have H := Lib.hid h
  clear h
  obtain ⟨B, hB⟩ : ∃ B, B = decide (risP n K Pl) := ⟨_, rfl⟩
  rw [← hB]
  replace hB := Lib.hid hB
  go_enter Tryd.func10, Tryd.ntmps10
  go_wp2
  go_loopw [5] (fun i wr => ∃ k : Nat, k ≤ K ∧ i = .int .i64 k ∧ Hid (∀ i, i < k → goodP n Pl i) ∧ Hid (Kept w wr)) (fun i _ => K - (intOf i).toNat)
  case atStart => exact ⟨0, by omega, rfl, Lib.hid (fun j hj => absurd hj (Nat.not_lt_zero j)), Lib.hid (Kept.refl w)⟩
  case round =>
    obtain ⟨k, hk, rfl, HU, HK⟩ := hrel
    by_cases hlt : k < K
    · have hd1 : decide ((k : Int) < (K : Int)) = true := decide_eq_true (by omega)
      have hd1' : decide (k < K) = true := decide_eq_true hlt
      obtain ⟨q, rfl, _⟩ := H.out.some (by omega)
      have hc := (H.out.kept HK.out).cell k hlt
      obtain ⟨x, hx⟩ : ∃ x, x = Pl k := ⟨_, rfl⟩
      rw [← hx] at hc
      replace hx := Lib.hid hx
      have HF : Hid (¬ goodP n Pl k → B = false) := Lib.hid fun hn => by rw [hB.out]; exact decide_eq_false fun hr => hn ((risP_snoc.1 hr).2 k hlt)
      have HS : Hid (goodP n Pl k → ∀ i, i < k + 1 → goodP n Pl i) := Lib.hid fun hg i hi => by
        rcases Nat.lt_or_eq_of_le (show i ≤ k by omega) with h | h
        · exact HU.out i h
        · subst h; exact hg
      clear HU
      by_cases h1 : x < 0
      · have hd2 : decide (x < 0) = true := decide_eq_true h1
        have hBf := HF.out fun h => h.1 (hx.out ▸ h1)
        subst hBf
        clear HF HS h1
        go_wp2
        go_quiet (fail)
        replace HK : Hid (Kept w (wr.drewN nq)) := HK
        clear hc
        generalize wr.drewN nq = w2 at HK ⊢
        go_wp2
        go_ret
        exact ⟨rfl, HK.out⟩
      · have hd2 : decide (x < 0) = false := decide_eq_false h1
        by_cases h2 : n ≤ x
        · have hd3 : decide (x ≥ n) = true := decide_eq_true h2
          have hd3' : decide (n ≤ x) = true := decide_eq_true h2
          have hBf := HF.out fun h => h.2.1 (hx.out ▸ h2)
          subst hBf
          clear HF HS h1 h2
          go_wp2
          go_quiet (fail)
          replace HK : Hid (Kept w (wr.drewN nq)) := HK
          clear hc
          generalize wr.drewN nq = w2 at HK ⊢
          go_wp2
          go_ret
          exact ⟨rfl, HK.out⟩
        · have hd3 : decide (x ≥ n) = false := decide_eq_false h2
          have hd3' : decide (n ≤ x) = false := decide_eq_false h2
          by_cases h3 : k = 0
          · have HS1 := Lib.hid (HS.out ⟨hx.out ▸ h1, hx.out ▸ h2, fun h => by have := h.1; omega⟩)
            have hd4 : decide ((k : Int) > 0) = false := decide_eq_false (by omega)
            have hd4' : decide (0 < (k : Int)) = false := decide_eq_false (by omega)
            have hd4'' : decide (0 < k) = false := decide_eq_false (by omega)
            replace h3 := Lib.hid h3
            clear HF HS h1 h2
            go_wp2
            go_quiet (fail)
            replace HK : Hid (Kept w (wr.drewN nq)) := HK
            clear hc
            generalize wr.drewN nq = w2 at HK ⊢
            go_wp2
            go_roundw
            case rel => exact ⟨k + 1, by omega, by go_num, HS1, HK⟩
            case measure => simp [intOf]; omega
          · obtain ⟨j, hj⟩ : ∃ j, k = j + 1 := ⟨k - 1, by omega⟩
            have hd4 : decide ((k : Int) > 0) = true := decide_eq_true (by omega)
            have hd4' : decide (0 < (k : Int)) = true := decide_eq_true (by omega)
            have hd4'' : decide (0 < k) = true := decide_eq_true (by omega)
            have hd5 : decide (j < K) = true := decide_eq_true (by omega)
            have hd5' : decide ((j : Int) < (K : Int)) = true := decide_eq_true (by omega)
            have hsub : IntKind.i64.wrap ((k : Int) - 1) = (j : Int) := by simp only [IntKind.wrap, IntKind.signed, IntKind.bits]; simp; omega
            have hc2 := (H.out.kept HK.out).cell j (by omega)
            have ej : k - 1 = j := by omega
            have hjK : j < K := by omega
            obtain ⟨y, hy⟩ : ∃ y, y = Pl j := ⟨_, rfl⟩
            rw [← hy] at hc2
            replace hy := Lib.hid hy
            replace hj := Lib.hid hj
            replace h3 := Lib.hid h3
            by_cases h4 : x ≤ y
            · have hd6 : decide (x ≤ y) = true := decide_eq_true h4
              have hBf := HF.out fun h => h.2.2 ⟨by have := hj.out; omega, by rw [ej, ← hx.out, ← hy.out]; exact h4⟩
              subst hBf
              clear HF HS h1 h2 h4 ej
              go_wp2
              go_quiet (fail)
              replace HK : Hid (Kept w (wr.drewN nq)) := HK
              clear hc hc2
              generalize wr.drewN nq = w2 at HK ⊢
              go_wp2
              go_ret
              exact ⟨rfl, HK.out⟩
            · have hd6 : decide (x ≤ y) = false := decide_eq_false h4
              have HS1 := Lib.hid (HS.out ⟨hx.out ▸ h1, hx.out ▸ h2, fun h => h4 (by have := h.2; rwa [ej, ← hx.out, ← hy.out] at this)⟩)
              clear HF HS h1 h2 h4 ej
              go_wp2
              go_quiet (fail)
              replace HK : Hid (Kept w (wr.drewN nq)) := HK
              clear hc hc2
              generalize wr.drewN nq = w2 at HK ⊢
              go_wp2
              go_roundw
              case rel => exact ⟨k + 1, by omega, by go_num, HS1, HK⟩
              case measure => simp [intOf]; omega
    · have hd1 : decide ((k : Int) < (K : Int)) = false := decide_eq_false (by omega)
      have hd1' : decide (k < K) = false := decide_eq_false hlt
      obtain rfl : k = K := by omega
      obtain ⟨E, hE⟩ : ∃ E, E = decide ((k : Int) > 0) := ⟨_, rfl⟩
      have hEB : E = B := by
        rw [hE, hB.out, decide_eq_decide, risP_snoc]
        exact ⟨fun h => ⟨by omega, HU.out⟩, fun h => by have := h.1; omega⟩
      rw [hEB] at hE
      have hd2 : decide ((k : Int) > 0) = B := hE.symm
      have hd2' : decide (0 < (k : Int)) = B := hE.symm
      have hd2'' : decide (0 < k) = B := by rw [hE, decide_eq_decide]; omega
      clear HU hEB hE
      go_wp2
      go_ret
      exact ⟨rfl, HK.out⟩

def NeedOk (f : FuncId) (n : Nat) : Prop := ∀ (p : Option Addr) (K c : Nat) (Pl : Nat → Int) (x T : Nat) (w : World), IAt w p K Pl → K ≤ 1000000 → 0 < n → T = x + n → T ≤ 1000000000 →
    Calls Tryd.prog f #[.slice p K c, .int .i64 (x : Int), .int .i64 (T : Int)] w fun e w' => e = .returned (.int .i64 (needN (qP K Pl) x n : Int)) ∧ w = w'
set_option maxRecDepth 100000 in
set_option maxHeartbeats 1000000 in
theorem refNeed_any (n : Nat) : NeedOk 14 n := by
  induction n using Nat.strongRecOn with
  | _ n ih =>
    intro p K c Pl x T w h hK hn hT hT9
    have HA := Lib.hid (refAmong_any p K c Pl x n T hT w h hK)
    cases hh : hasQ (qP K Pl) x n with
    | false =>
      rw [needN_none hh]
      rw [hh] at HA
      clear ih h hh
      replace hT := Lib.hid hT
      go_enter Tryd.func14, Tryd.ntmps14
      go_wp2_with fail
      refine HA.out.mono ?_
      rintro e v ⟨rfl, rfl⟩
      go_wp2_with fail
      go_ret
      exact ⟨rfl, rfl⟩
    | true =>
      rw [hh] at HA
      by_cases h2 : n < 2
      · rw [needN_one hh h2]
        have hsub : IntKind.i64.wrap ((T : Int) - (x : Int)) = 1 := by rw [wrap_sub T x (by omega) (by omega)]; omega
        clear ih h hh
        replace hT := Lib.hid hT
        go_enter Tryd.func14, Tryd.ntmps14
        go_wp2_with fail
        refine HA.out.mono ?_
        rintro e v ⟨rfl, rfl⟩
        go_wp2_with fail
        go_ret
        exact ⟨rfl, rfl⟩
      · rw [needN_two hh (by omega)]
        have hp := leftN_pos (n := n) (by omega)
        have hl := leftN_lt (n := n) (by omega)
        have hsub : IntKind.i64.wrap ((T : Int) - (x : Int)) = (n : Int) := by rw [wrap_sub T x (by omega) (by omega)]; omega
        have hne : ((n : Int) == 1) = false := by simp; omega
        have HL := Lib.hid (refLeft_any (n : Int) w (by omega))
        have HI1 := Lib.hid (ih (leftN n) hl p K c Pl x (x + leftN n) w h hK hp rfl (by omega))
        have HI2 := Lib.hid (ih (n - leftN n) (by omega) p K c Pl (x + leftN n) T w h hK (by omega) (by omega) hT9)
        have b1 := needN_le (qP K Pl) (leftN n) x hp
        have b2 := needN_le (qP K Pl) (n - leftN n) (x + leftN n) (by omega)
        have hadd : IntKind.i64.wrap ((x : Int) + (leftN n : Int)) = ((x + leftN n : Nat) : Int) := by simp only [IntKind.wrap, IntKind.signed, IntKind.bits]; simp; omega
        have hLI : (leftI (n : Int) : Int) = (leftN n : Int) := rfl
        rw [hLI] at HL
        clear ih h hh hLI
        generalize needN (qP K Pl) x (leftN n) = a at HI1 b1 ⊢
        generalize needN (qP K Pl) (x + leftN n) (n - leftN n) = b at HI2 b2 ⊢
        generalize x + leftN n = M at HI1 HI2 hadd
        generalize leftN n = l at hl hp HL hadd b1 b2
        have hsum : IntKind.i64.wrap ((a : Int) + (b : Int)) = ((a + b : Nat) : Int) := by simp only [IntKind.wrap, IntKind.signed, IntKind.bits]; simp; omega
        clear b1 b2 h2
        replace hT := Lib.hid hT
        go_enter Tryd.func14, Tryd.ntmps14
        go_wp2_with fail
        refine HA.out.mono ?_
        rintro e v ⟨rfl, rfl⟩
        go_wp2_with fail
        refine HL.out.mono ?_
        rintro e v ⟨rfl, rfl⟩
        go_wp2_with fail
        refine HI1.out.mono ?_
        rintro e v ⟨rfl, rfl⟩
        go_wp2_with fail
        refine HI2.out.mono ?_
        rintro e v ⟨rfl, rfl⟩
        go_wp2_with fail
        go_ret
        exact ⟨rfl, rfl⟩
end Go.Proofs.YtggpjhldmaflaaaDoor
