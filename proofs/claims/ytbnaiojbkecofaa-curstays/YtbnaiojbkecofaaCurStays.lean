/-
  Behind an error nothing changes, and what is left is the end of what was read, over at most 100 steps of any kind; the law's example holds: 'CurStays' returns true for every input.
  Conditions: none.
-/
import Derived.Test.YtbnaiojbkecofaaRows
import Derived.Test.YtbnaiojbkecofaaCurLawB
import Derived.Test.YtbnaiojbkecofaaLawLibC
import Derived.WalkKit
import Derived.ProofKit
import Derived.OpenShut
import Derived.ShutString
import Derived.SizedLaws
import Derived.Test.YtbnaiojbkecofaaLawLib
namespace Go.Proofs.Ytbnaiojbkecofaa.curStays
open Go.ChangeShapes Go.WideShapes Go.ChangeAt Go.RowKit
open Go.ChangeMaps (open_string shut_string)
set_option linter.unusedVariables false

theorem own : ownKnob Try.prog.godebug = none := by kernel_rfl
theorem laidOut : laidOutB Try.prog = true := by kernel_rfl

set_option maxRecDepth 100000 in
set_option maxHeartbeats 4000000 in
theorem walk (a0 : ByteArray) (w0 : a0.size ≤ maxLen) (r0 : a0.size ≤ 140737488351232) (p1 : Option Addr) (n1 c1 : Nat) (F1 : Nat → Int × Int × Int × Int) (z1 : n1 ≤ maxLen) (w : World) (e1 : ∀ i, i < n1 → ((Lit.int .i64 (F1 i).1).wf = true ∧ (Lit.int .i64 (F1 i).2.1).wf = true ∧ (Lit.int .u64 (F1 i).2.2.1).wf = true ∧ (Lit.int .i64 (F1 i).2.2.2).wf = true) ∧ ∃ a : Addr, p1 = some a ∧ a.block < w.heap.size ∧ w.cell? (a.add (i * 4)) = some (.int .i64 (F1 i).1) ∧ w.cell? (a.add (i * 4 + 1)) = some (.int .i64 (F1 i).2.1) ∧ w.cell? (a.add (i * 4 + 2)) = some (.int .u64 (F1 i).2.2.1) ∧ w.cell? (a.add (i * 4 + 3)) = some (.int .i64 (F1 i).2.2.2)) :
    Calls Try.prog 4 #[.string a0, .slice p1 n1 c1] w fun e w' => e = .returned (.bool true) ∧ Kept w w' := by
  have hz1 : n1 ≤ 9223372036854775807 := z1
  have hz0 : a0.size ≤ 9223372036854775807 := w0
  have HS : Hid (∀ i, i < n1 → ∃ (a b : Int) (m : Nat) (x : Int), b < 9223372036854775808 ∧ StepAt4 w p1 i a b m x) := Lib.hid fun i hi => by
    obtain ⟨⟨_, wb, wm, _⟩, q, hq, hb, h0, h1, h2, h3⟩ := e1 i hi
    have bb := bounds_i64 wb
    have bm := bounds_u64 wm
    refine ⟨(F1 i).1, (F1 i).2.1, (F1 i).2.2.1.toNat, (F1 i).2.2.2, by omega, q, hq, hb, h0, h1, ?_, h3⟩
    rw [h2]
    congr 2
    omega
  clear e1 z1
  have HR := Lib.hid (curRead_any a0 w)
  go_enter Try.func4, Try.ntmps4
  go_wp2_with fail
  refine HR.out.mono ?_
  rintro e v1 ⟨rfl, C1, G1⟩
  obtain ⟨g, hg⟩ : ∃ g, g = w.heap.size := ⟨_, rfl⟩
  have hgw : w.heap.size ≤ g := by omega
  rw [← hg] at C1 ⊢
  replace C1 := Lib.hid C1
  replace G1 := Lib.hid (Grown.kept G1)
  clear HR hg
  go_wp2_with fail
  go_loopw [6, 7] (fun s6 s7 wr => ∃ (k : Nat) (c : Cu), s6 = .int .i64 (c.b.size : Int) ∧ s7 = .int .i64 (k : Int) ∧ k ≤ n1 ∧ k ≤ 100 ∧ Hid (CurAt wr g c) ∧ Hid c.ok ∧ Hid (Ends c.b a0) ∧ Hid (Kept w wr)) (fun _ i _ => 100 - (intOf i).toNat)
  case atStart =>
    exact ⟨0, ⟨a0, 0⟩, rfl, rfl, by omega, by omega, C1, Lib.hid fun h => absurd rfl h, Lib.hid (Ends.refl _), G1⟩
  case round =>
    clear C1 G1
    obtain ⟨k, c, rfl, rfl, hkn, hk100, C1, HO, HD, G1⟩ := hrel
    by_cases hgo : k < n1 ∧ k < 100
    · obtain ⟨hk1, hk2⟩ := hgo
      have hd1 : decide ((k : Int) < (n1 : Int)) = true := decide_eq_true (by omega)
      have hd2 : decide ((k : Int) < 100) = true := decide_eq_true (by omega)
      obtain ⟨a, b, m, x, hb, HA⟩ := HS.out k hk1
      obtain ⟨q, rfl⟩ : ∃ q, p1 = some q := by obtain ⟨q, h, _⟩ := HA; exact ⟨q, h⟩
      replace HA := Lib.hid (HA.kept G1.out)
      have HE := Lib.hid (curErr_any g c wr C1.out)
      go_wp2_with fail
      refine HE.out.mono ?_
      rintro e w' ⟨rfl, rfl⟩
      clear HE
      go_wp2_with (refine park_at 31 rfl ?_)
      refine unpark ?_
      refine wpList_exec 31 rfl (by rfl) (.pointer (some (q.add (k * 4)))) wr (execIndexAddr wr q n1 c1 k hk1 rfl rfl rfl) ?_
      simp only [List.setIfInBounds_toArray, List.set_cons_zero, List.set_cons_succ]
      refine wpList_exec 32 rfl (by rfl) (.agg #[.int .i64 a, .int .i64 b, .int .u64 (m : Int), .int .i64 x]) wr (execLoad4 rfl rfl HA.out.load) ?_
      simp only [List.setIfInBounds_toArray, List.set_cons_zero, List.set_cons_succ]
      have HC := Lib.hid (do_any g c ⟨noB, 0⟩ a b m x wr C1.out (Nat.zero_le _) hb)
      go_wp2_with fail
      refine HC.out.mono ?_
      rintro e u1 ⟨B, rfl, _, C2, O2⟩
      have K2 := Lib.hid (O2.kept w G1.out hgw)
      have H2 := Lib.hid (stepP_ok c a b m x HO.out)
      have E2 := Lib.hid ((stepP_ends c a b m x).trans HD.out)
      have hle := (stepP_ends c a b m x).size
      have her := stepP_err c a b m x
      replace C2 := Lib.hid C2
      clear HC O2 HA C1 G1
      generalize stepP c a b m x = c2 at C2 H2 E2 hle her
      generalize stepR ⟨noB, 0⟩ a b m x = d2
      obtain ⟨cb, ce⟩ := c
      obtain ⟨b2, e2⟩ := c2
      simp only at hle her
      rcases Decidable.em (ce = 0) with rfl | he
      · rcases Decidable.em (e2 = 0) with rfl | he2
        · have HL : Hid (Calls Try.prog 8 #[.pointer (some ⟨g, 0, none⟩)] u1 fun e w' => e = .returned (.int .i64 (b2.size : Int)) ∧ u1 = w') := Lib.hid (curLeft_any g ⟨b2, 0⟩ u1 C2.out)
          have HE : Hid (Calls Try.prog 9 #[.pointer (some ⟨g, 0, none⟩)] u1 fun e w' => e = .returned (.int .i64 0) ∧ u1 = w') := Lib.hid (curErr_any g ⟨b2, 0⟩ u1 C2.out)
          have hdl : decide (cb.size < b2.size) = false := decide_eq_false (by omega)
          clear her
          go_wp2_with (first
            | (go_at_call 8; refine HL.out.mono ?_; rintro e w' ⟨rfl, rfl⟩)
            | (go_at_call 9; refine HE.out.mono ?_; rintro e w' ⟨rfl, rfl⟩))
          go_roundw
          case rel => exact ⟨k + 1, ⟨b2, 0⟩, rfl, by go_num, by omega, by omega, C2, H2, E2, K2⟩
          case measure => simp [intOf]; omega
        · have hb2 : (e2 != 0) = true := by simp [he2]
          obtain rfl : b2 = noB := H2.out he2
          have HL : Hid (Calls Try.prog 8 #[.pointer (some ⟨g, 0, none⟩)] u1 fun e w' => e = .returned (.int .i64 0) ∧ u1 = w') := Lib.hid (curLeft_any g ⟨noB, e2⟩ u1 C2.out)
          have HE : Hid (Calls Try.prog 9 #[.pointer (some ⟨g, 0, none⟩)] u1 fun e w' => e = .returned (.int .i64 e2) ∧ u1 = w') := Lib.hid (curErr_any g ⟨noB, e2⟩ u1 C2.out)
          clear her hle
          go_wp2_with (first
            | (go_at_call 8; refine HL.out.mono ?_; rintro e w' ⟨rfl, rfl⟩)
            | (go_at_call 9; refine HE.out.mono ?_; rintro e w' ⟨rfl, rfl⟩))
          go_roundw
          case rel => exact ⟨k + 1, ⟨noB, e2⟩, rfl, by go_num, by omega, by omega, C2, H2, E2, K2⟩
          case measure => simp [intOf]; omega
      · have hb1 : (ce != 0) = true := by simp [he]
        obtain rfl : e2 = ce := her he
        obtain rfl : b2 = noB := H2.out he
        have HL : Hid (Calls Try.prog 8 #[.pointer (some ⟨g, 0, none⟩)] u1 fun e w' => e = .returned (.int .i64 0) ∧ u1 = w') := Lib.hid (curLeft_any g ⟨noB, e2⟩ u1 C2.out)
        have HE : Hid (Calls Try.prog 9 #[.pointer (some ⟨g, 0, none⟩)] u1 fun e w' => e = .returned (.int .i64 e2) ∧ u1 = w') := Lib.hid (curErr_any g ⟨noB, e2⟩ u1 C2.out)
        clear her hle
        go_wp2_with (first
          | (go_at_call 8; refine HL.out.mono ?_; rintro e w' ⟨rfl, rfl⟩)
          | (go_at_call 9; refine HE.out.mono ?_; rintro e w' ⟨rfl, rfl⟩))
        go_roundw
        case rel => exact ⟨k + 1, ⟨noB, e2⟩, rfl, by go_num, by omega, by omega, C2, H2, E2, K2⟩
        case measure => simp [intOf]; omega
    · have HW := Lib.hid awake8_any
      have hraw : rawP c (c.b.size : Int) = (c.b, ⟨noB, c.e⟩) := by
        rw [rawP, if_neg (by omega), if_neg (by omega)]
        have e1 : c.b.extract 0 (c.b.size : Int).toNat = c.b := by simp
        have e2 : c.b.extract (c.b.size : Int).toNat c.b.size = noB := size0 (by rw [ByteArray.size_extract]; omega)
        rw [e1, e2]
      have HC : Hid (Calls Try.prog 13 #[.pointer (some ⟨g, 0, none⟩), .int .i64 (c.b.size : Int)] wr fun e w' => e = .returned (.string c.b) ∧ CurAt w' g ⟨noB, c.e⟩ ∧ OnlyC g wr w') := Lib.hid (by
        have h := curRaw_any g c (c.b.size : Int) wr C1.out
        rw [hraw] at h
        exact h)
      have hcl := HD.out.size
      have hs2 : ∀ w, (Instr.sliceAt 9 (.string a0) (some (.int .i64 ((a0.size : Int) - (c.b.size : Int)))) none none).run Try.prog w = .ok (.string c.b) w := fun w => by
        obtain ⟨j, hj, h⟩ := HD.out
        have hj2 : c.b.size = a0.size - j := by rw [h, ByteArray.size_extract]; omega
        have h3 := run_cutT a0 j w hj
        rw [← h] at h3
        rw [show (a0.size : Int) - (c.b.size : Int) = (j : Int) by omega]
        exact h3
      clear hraw
      obtain ⟨cb, ce⟩ := c
      simp only at hs2 hcl HC
      rcases Decidable.em (ce = 0) with rfl | he
      · skip
        by_cases hk1 : k < n1
        · have hd1 : decide ((k : Int) < (n1 : Int)) = true := decide_eq_true (by omega)
          have hd2 : decide ((k : Int) < 100) = false := decide_eq_false (by omega)
          clear hgo
          go_wp2_with fail
          refine HC.out.mono ?_
          rintro e u1 ⟨rfl, C2, O2⟩
          have K2 := Lib.hid (O2.kept w G1.out hgw)
          have HE := Lib.hid (curErr_any g ⟨noB, 0⟩ u1 C2)
          clear HC O2 C2 C1 G1
          go_wp2_with (first
            | (go_at_call 9; refine HE.out.mono ?_; rintro e w' ⟨rfl, rfl⟩)
            | (go_at_call 12; refine (HW.out _).mono ?_; rintro e v4 ⟨rfl, G4⟩))
          go_ret
          exact ⟨rfl, K2.out.trans (Grown.kept G4)⟩
        · have hd1 : decide ((k : Int) < (n1 : Int)) = false := decide_eq_false (by omega)
          have hd1' : decide (k < n1) = false := decide_eq_false (by omega)
          clear hgo
          go_wp2_with fail
          refine HC.out.mono ?_
          rintro e u1 ⟨rfl, C2, O2⟩
          have K2 := Lib.hid (O2.kept w G1.out hgw)
          have HE := Lib.hid (curErr_any g ⟨noB, 0⟩ u1 C2)
          clear HC O2 C2 C1 G1
          go_wp2_with (first
            | (go_at_call 9; refine HE.out.mono ?_; rintro e w' ⟨rfl, rfl⟩)
            | (go_at_call 12; refine (HW.out _).mono ?_; rintro e v4 ⟨rfl, G4⟩))
          go_ret
          exact ⟨rfl, K2.out.trans (Grown.kept G4)⟩
      · have hb1 : (ce != 0) = true := by simp [he]
        by_cases hk1 : k < n1
        · have hd1 : decide ((k : Int) < (n1 : Int)) = true := decide_eq_true (by omega)
          have hd2 : decide ((k : Int) < 100) = false := decide_eq_false (by omega)
          clear hgo
          go_wp2_with fail
          refine HC.out.mono ?_
          rintro e u1 ⟨rfl, C2, O2⟩
          have K2 := Lib.hid (O2.kept w G1.out hgw)
          have HE := Lib.hid (curErr_any g ⟨noB, ce⟩ u1 C2)
          clear HC O2 C2 C1 G1
          go_wp2_with (first
            | (go_at_call 9; refine HE.out.mono ?_; rintro e w' ⟨rfl, rfl⟩)
            | (go_at_call 12; refine (HW.out _).mono ?_; rintro e v4 ⟨rfl, G4⟩))
          go_ret
          exact ⟨rfl, K2.out.trans (Grown.kept G4)⟩
        · have hd1 : decide ((k : Int) < (n1 : Int)) = false := decide_eq_false (by omega)
          have hd1' : decide (k < n1) = false := decide_eq_false (by omega)
          clear hgo
          go_wp2_with fail
          refine HC.out.mono ?_
          rintro e u1 ⟨rfl, C2, O2⟩
          have K2 := Lib.hid (O2.kept w G1.out hgw)
          have HE := Lib.hid (curErr_any g ⟨noB, ce⟩ u1 C2)
          clear HC O2 C2 C1 G1
          go_wp2_with (first
            | (go_at_call 9; refine HE.out.mono ?_; rintro e w' ⟨rfl, rfl⟩)
            | (go_at_call 12; refine (HW.out _).mono ?_; rintro e v4 ⟨rfl, G4⟩))
          go_ret
          exact ⟨rfl, K2.out.trans (Grown.kept G4)⟩

set_option maxRecDepth 100000 in
set_option maxHeartbeats 1000000 in
theorem lifted (os : Os) (started : os.Started) (H : Type) (enc : TypeId × Value → H) :
    ReturnsInHanded {} Try.checked os 4 .any (Rows.curStaysSpec.pre6 enc Try.prog Try.f4 Rows.curStaysRow.domain false) (Rows.curStaysSpec.post enc Try.prog Try.f4 false true false false) := by
  refine returnsInHanded_of_change_sized (C := Try.checked) own started (by kernel_rfl) Try.func4
    (ChangeSpec.witness6 (enc := enc) (C := Try.checked) false ⟨#[], #[.string ByteArray.empty, .slice none 0 0], []⟩ 8 (by kernel_rfl) (by kernel_rfl) (by kernel_rfl) (by kernel_rfl)) ?_
  intro W base args ds gs before hval0 hW hcnd hsz0 _
  have hval : ∀ (j : Nat) t v, Try.f4.params[j]? = some t → args[j]? = some v → Value.okWide Try.prog W .any base t v := hval0
  have hsz : (DataW.weightsEach Try.prog (Try.f4.params.toList ++ Rows.curStaysSpec.plain.varTypes Try.prog) (ds ++ gs)).all (· ≤ reachBytes) = true := hsz0
  have hW' := hW
  obtain ⟨p, q, hA0, hV, rfl, hfz, hnd⟩ := hW
  have hA : DataW.TrodAll enc Try.prog W 0 (fun _ => true) true Try.f4.params.toList args.toList ds p := hA0
  have hAk := hA
  rw [Try.params4] at hA hval hsz
  obtain ⟨v0, vs0, d0, ds0, p0_, q0_, hargs, rfl, rfl, h0, r0_⟩ := trodAll_cons hA
  obtain ⟨v1, vs1, d1, ds1, p1_, q1_, rfl, rfl, rfl, h1, r1_⟩ := trodAll_cons r0_
  obtain ⟨rfl, rfl, rfl⟩ := trodAll_nil r1_
  obtain rfl : args = #[v0, v1] := by cases args; simp_all
  obtain ⟨rfl, rfl⟩ := trodVars_none hV
  have hlt : ∀ x ∈ (p0_ ++ (p1_ ++ ([]))), x.block < W.heap.size := fun x hx => by simpa using hW'.lt x (by simpa using hx)
  obtain ⟨a0, rfl, rfl, rfl, w0⟩ := open_string Try.underlying9 (hval 0 9 v0 rfl rfl) h0
  obtain ⟨p1, n1, c1, F1, z1, rfl, e1⟩ := open_quadsArg Try.underlying22 Try.underlying32 (by kernel_rfl) ⟨rfl, rfl, rfl, rfl⟩ ⟨by kernel_rfl, by kernel_rfl, by kernel_rfl, by kernel_rfl⟩ Try.underlying3 Try.underlying3 Try.underlying30 Try.underlying3 (hval 1 22 v1 rfl rfl) h1
  have r0 : a0.size ≤ 140737488351232 := by have := sized_string hsz (j := 0) (t := 9) rfl rfl; simpa [reachBytes] using this
  clear hA0 hval0
  refine (walk a0 w0 r0 p1 n1 c1 F1 z1 W e1).mono fun e W' ⟨he, hg⟩ => ?_
  subst he
  exact ⟨_, rfl, ⟨_, _, _, [], _, [], hW', trodAll_cons_mk (shut_bool Try.underlying4 _) trodAll_mk0, trodAll_stays laidOut hg (by kernel_rfl) hAk hlt (fun x hx => by simpa using hlt x hx), rfl, Kept.frame hg _, fun h => by cases h⟩⟩

theorem over : Rows.curStaysRow.holds Try.pinned (OpenSpec.ofChange Rows.curStaysSpec) :=
  OpenClaim.holds_of_wide 4 Try.f4 rfl rfl rfl rfl rfl rfl rfl ⟨rfl, rfl, rfl, rfl, rfl⟩ rfl rfl rfl rfl rfl (by kernel_rfl) Try.func4 (by kernel_rfl)
    (of_decide_eq_true (by kernel_rfl)) (by unfold Func.isWrapper; first | (rw [if_pos (by decide +kernel)]; kernel_rfl) | (rw [if_neg (by decide +kernel)]; exact ⟨rfl, rfl⟩))
    (fun os started H enc _ => lifted os started H enc)
end Go.Proofs.Ytbnaiojbkecofaa.curStays
namespace Go.Proofs.Ytbnaiojbkecofaa
theorem curStays_holds : Rows.CurStaysSaid := curStays.over
#print axioms curStays_holds
end Go.Proofs.Ytbnaiojbkecofaa
