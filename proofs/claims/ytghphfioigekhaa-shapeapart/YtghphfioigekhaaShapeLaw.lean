/-
  Contracts of milepostlaw11: same, awake.
-/
import Derived.Test.YtghphfioigekhaaShapeRefA
namespace Go.Proofs.Ytghphfioigekhaa
open Go.RowKit

/-- The first k steps are the same. -/
def Upto (l m : List Bool) (k : Nat) : Prop := ∀ j, j < k → l.getD j false = m.getD j false
theorem Upto.zero (l m : List Bool) : Upto l m 0 := fun _ h => by omega
theorem Upto.next {l m : List Bool} {k : Nat} (h : Upto l m k) (e : l.getD k false = m.getD k false) : Upto l m (k + 1) := fun j hj => by
  rcases Nat.lt_succ_iff_lt_or_eq.1 hj with h' | rfl
  · exact h j h'
  · exact e
theorem Upto.all {l m : List Bool} (h : Upto l m l.length) (hl : l.length = m.length) : l = m := by
  apply List.ext_getElem hl
  intro i h1 h2
  have := h i h1
  simpa [List.getD_eq_getElem?_getD, List.getElem?_eq_getElem h1, List.getElem?_eq_getElem h2] using this

set_option maxRecDepth 100000 in
set_option maxHeartbeats 1000000 in
theorem same11_any (l m : List Bool) (u v : Value) (w : World) (hu : BRow w u l) (hv : BRow w v m) (hl : l.length ≤ 1000) :
    Calls Try.prog 9 #[u, v] w fun e w' => e = .returned (.bool (decide (l = m))) ∧ Kept w w' := by
  obtain ⟨p1, cap1, rfl, h1⟩ := hu
  obtain ⟨p2, cap2, rfl, h2⟩ := hv
  by_cases hE : l.length = m.length
  · obtain ⟨L, hL⟩ : ∃ L, L = l.length := ⟨_, rfl⟩
    rw [← hE, ← hL]
    rw [← hL] at h1 hl
    rw [← hE, ← hL] at h2
    have hd0 : ((L : Int) != (L : Int)) = false := by simp
    have H1 := Lib.hid h1
    have H2 := Lib.hid h2
    replace hL := Lib.hid hL
    replace hE := Lib.hid hE
    clear h1 h2
    have HK0 := Lib.hid (Kept.refl w)
    go_enter Try.func9, Try.ntmps9
    go_wp2
    go_loopw [5] (fun i wr => ∃ k : Nat, k ≤ L ∧ i = .int .i64 (k : Int) ∧ Hid (Upto l m k) ∧ Hid (Kept w wr)) (fun i _ => L - (intOf i).toNat)
    case atStart => exact ⟨0, by omega, rfl, Lib.hid (Upto.zero _ _), HK0⟩
    case round =>
      clear HK0
      obtain ⟨k, hk, rfl, HU, HK⟩ := hrel
      by_cases hkL : k < L
      · have hd1 : decide ((k : Int) < (L : Int)) = true := decide_eq_true (by omega)
        have hd1' : decide (k < L) = true := decide_eq_true hkL
        have hki : (k : Int) < (L : Int) := by omega
        obtain ⟨g1, cur1, rfl, r1, e1⟩ := H1.out (by omega)
        obtain ⟨g2, cur2, rfl, r2, e2⟩ := H2.out (by omega)
        have c1 : wr.cell? ⟨g1, k, none⟩ = some (.bool (l.getD k false)) := by rw [(r1.kept HK.out).cell, e1 k hkL]
        have c2 : wr.cell? ⟨g2, k, none⟩ = some (.bool (m.getD k false)) := by rw [(r2.kept HK.out).cell, e2 k hkL]
        have HN : Hid (l.getD k false = m.getD k false → Upto l m (k + 1)) := Lib.hid HU.out.next
        have HF : Hid (¬ l.getD k false = m.getD k false → decide (l = m) = false) := Lib.hid fun h => decide_eq_false fun e => h (by rw [e])
        clear r1 r2 e1 e2 H1 H2
        generalize l.getD k false = x at c1 HN HF
        generalize m.getD k false = y at c2 HN HF
        by_cases hxy : x = y
        · subst hxy
          replace HN := Lib.hid (HN.out rfl)
          have hd5 : (x != x) = false := by cases x <;> rfl
          clear HF
          go_wp2
          go_quiet (fail)
          replace HK : Hid (Kept w (wr.drewN nq)) := HK
          clear c1 c2
          generalize wr.drewN nq = w2 at HK ⊢
          go_wp2
          go_roundw
          case rel => exact ⟨k + 1, by omega, by go_num, HN, HK⟩
          case measure => simp [intOf]; omega
        · have HE := Lib.hid (HF.out hxy)
          have hd5 : (x != y) = true := by cases x <;> cases y <;> simp_all
          have hd6 : (x == y) = false := by cases x <;> cases y <;> simp_all
          clear HF HN
          replace hxy := Lib.hid hxy
          go_wp2
          go_quiet (fail)
          replace HK : Hid (Kept w (wr.drewN nq)) := HK
          clear c1 c2
          generalize wr.drewN nq = w2 at HK ⊢
          go_wp2
          go_ret
          exact ⟨by rw [HE.out]; rfl, HK.out⟩
      · have hd1 : decide ((k : Int) < (L : Int)) = false := decide_eq_false (by omega)
        have hd1' : decide (k < L) = false := decide_eq_false hkL
        have HE : Hid (decide (l = m) = true) := Lib.hid (decide_eq_true (Upto.all (by rw [← hL.out, show L = k by omega]; exact HU.out) hE.out))
        go_wp2
        go_ret
        exact ⟨by rw [HE.out]; rfl, HK.out⟩
  · have hF : decide (l = m) = false := decide_eq_false fun e => hE (by rw [e])
    rw [hF]
    clear hF h1 h2
    generalize l.length = L at hE hl
    generalize m.length = M at hE
    have hd0 : ((L : Int) != (M : Int)) = true := by simp; omega
    have hd1 : ((L : Int) == (M : Int)) = false := by simp; omega
    have hd2 : ¬ (L : Int) = (M : Int) := by omega
    go_enter Try.func9, Try.ntmps9
    go_wp2
    go_ret
    exact ⟨rfl, Kept.refl _⟩

theorem sidesI54 : sidesI 5 4 = [true] := (sidesI_yes (n := 5) (i := 4) (by decide)).trans sides54
theorem sidesI51 : sidesI 5 1 = [true, false, false] := (sidesI_yes (n := 5) (i := 1) (by decide)).trans sides51
theorem leftI5 : leftI 5 = 4 := leftN5
set_option maxRecDepth 100000 in
set_option maxHeartbeats 1000000 in
theorem awake11_any (w : World) : Calls Try.prog 8 #[] w fun e w' => e = .returned (.bool true) ∧ Kept w w' := by
  have HA : Hid (∀ w, Calls Try.prog 10 #[.int .i64 5, .int .i64 4] w fun e w' => ∃ g cap, e = .returned (.slice (some ⟨g, 0, none⟩) 1 cap) ∧ g < w'.heap.size ∧ w'.cell? ⟨g, 0, none⟩ = some (.bool true) ∧ Kept w w') := Lib.hid fun w => by
    refine (shapeSides_any 5 4 w (by omega)).mono ?_
    rintro e w' ⟨v, rfl, hb, hk⟩
    rw [sidesI54] at hb
    obtain ⟨p, cap, rfl, h⟩ := hb
    obtain ⟨g, cur, rfl, hr, hc⟩ := h (by simp)
    exact ⟨g, cap, rfl, hr.lt, by rw [hr.cell, hc 0 (by simp)]; rfl, hk⟩
  have HB : Hid (∀ w, Calls Try.prog 10 #[.int .i64 5, .int .i64 1] w fun e w' => ∃ g cap, e = .returned (.slice (some ⟨g, 0, none⟩) 3 cap) ∧ w'.cell? ⟨g, 0, none⟩ = some (.bool true) ∧ w'.cell? ⟨g, 1, none⟩ = some (.bool false) ∧ w'.cell? ⟨g, 2, none⟩ = some (.bool false) ∧ Kept w w') := Lib.hid fun w => by
    refine (shapeSides_any 5 1 w (by omega)).mono ?_
    rintro e w' ⟨v, rfl, hb, hk⟩
    rw [sidesI51] at hb
    obtain ⟨p, cap, rfl, h⟩ := hb
    obtain ⟨g, cur, rfl, hr, hc⟩ := h (by simp)
    exact ⟨g, cap, rfl, by rw [hr.cell, hc 0 (by simp)]; rfl, by rw [hr.cell, hc 1 (by simp)]; rfl, by rw [hr.cell, hc 2 (by simp)]; rfl, hk⟩
  have HL : Hid (∀ w, Calls Try.prog 6 #[.int .i64 5] w fun e w' => e = .returned (.int .i64 4) ∧ w = w') := Lib.hid fun w => by
    have := shapeLeft_any 5 w (by omega) (by omega)
    rwa [leftI5] at this
  go_enter Try.func8, Try.ntmps8
  go_wp2_with fail
  refine (HA.out _).mono ?_
  rintro e w1 ⟨g1, cap1, rfl, hg, c1, k1⟩
  have K1 := Lib.hid k1
  clear k1
  go_wp2_with fail
  refine (HB.out _).mono ?_
  rintro e w2 ⟨g2, cap2, rfl, d0, d1, d2, k2⟩
  have c1' : w2.cell? ⟨g1, 0, none⟩ = some (.bool true) := (k2.cellAt _ hg).trans c1
  have K2 := Lib.hid (K1.out.trans k2)
  clear k2 c1 K1 hg
  go_wp2_with (go_at_call 6; refine (HL.out _).mono ?_; rintro e w3 ⟨rfl, rfl⟩)
  go_ret
  exact ⟨rfl, K2.out⟩
end Go.Proofs.Ytghphfioigekhaa
