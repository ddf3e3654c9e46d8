/-
  After each of at most 60 pieces, of 3000 bytes together, Sum and Len are those of everything written; the law's examples hold: 'ShaWrites' returns true for every input.
  Conditions: none beyond the card's own (the variable 'rounds' is tied to the program's text).
-/
import Derived.Test.YtfckjiamcdlfmaaDoorRows
import Derived.Test.YtfckjiamcdlfmaaDoorShaWalkI
import Derived.Test.YtfckjiamcdlfmaaDoorEqLib
import Derived.WalkKit
import Derived.ProofKit
import Derived.OpenShut
import Derived.ShutString
import Derived.SizedLaws
import Derived.Test.YtfckjiamcdlfmaaDoorLawLib
import Derived.LaidMore
import Derived.SevenTiedAt
import Derived.Test.YtfckjiamcdlfmaaDoorCards
import Derived.Test.YtfckjiamcdlfmaaDoorTie
import Derived.Test.YtfckjiamcdlfmaaDoorShaLaid
namespace Go.Proofs.YtfckjiamcdlfmaaDoor.shaWrites
open Go.ChangeShapes Go.WideShapes Go.ChangeAt Go.RowKit
open Go.ChangeMaps (open_string shut_string)
set_option linter.unusedVariables false

theorem own : ownKnob Tryd.prog.godebug = none := by kernel_rfl
theorem laidOut : laidOutB Tryd.prog = true := by kernel_rfl

set_option maxRecDepth 100000 in
set_option maxHeartbeats 4000000 in
theorem walk (p0 : Option Addr) (n0 c0 : Nat) (S0 : Nat → ByteArray) (z0 : n0 ≤ maxLen) (w : World) (e0 : ∀ i, i < n0 → ∃ a : Addr, p0 = some a ∧ w.cell? (a.add i) = some (.string (S0 i)) ∧ a.block < w.heap.size ∧ (S0 i).size ≤ maxLen) (hT : Tab w) :
    Calls Tryd.prog 7 #[.slice p0 n0 c0] w fun e w' => e = .returned (.bool true) ∧ Grown w w' := by
  have hpos := hT.pos
  have hgd := guard_hash
  have hz0 : n0 ≤ 9223372036854775807 := z0
  have HE := Lib.hid e0
  clear e0
  go_enter Tryd.func7, Tryd.ntmps7
  go_wp2_with fail
  refine (shaNew_any w).mono ?_
  rintro e v1 ⟨rfl, hst, hg1⟩
  obtain ⟨b, hb⟩ : ∃ b, b = w.heap.size := ⟨_, rfl⟩
  have hbw : w.heap.size ≤ b := by omega
  have hbT : 0 ≠ b := by omega
  rw [← hb] at hst ⊢
  have A0 := Lib.hid hst
  have A3 := Lib.hid hg1
  have A4 := Lib.hid (hT.grown hg1)
  clear hst hg1 hT hb
  go_wp2_with fail
  go_loopw [3, 5] (fun s3 s5 wr => ∃ (k : Nat) (M : ByteArray), s3 = .string M ∧ s5 = .int .i64 (k : Int) ∧ k ≤ n0 ∧ k ≤ 60 ∧ M.size ≤ 3000 ∧ Hid (StIs wr b M) ∧ Hid (Grown w wr) ∧ Hid (Tab wr)) (fun _ s5 _ => 60 - (intOf s5).toNat)
  case atStart => exact ⟨0, ⟨#[]⟩, rfl, rfl, by omega, by omega, by decide, A0, A3, A4⟩
  case round =>
    clear A0 A3 A4
    obtain ⟨k, M, rfl, rfl, hkn, hk60, hM, A0, A3, A4⟩ := hrel
    by_cases hgo : k < n0 ∧ k < 60
    · obtain ⟨hk1, hk2⟩ := hgo
      have hd1 : decide ((k : Int) < (n0 : Int)) = true := by simp; omega
      have hd2 : decide ((k : Int) < 60) = true := by simp; omega
      have hkI : (k : Int) < (n0 : Int) := by omega
      obtain ⟨a, rfl, hca, hba, hsz⟩ := HE.out k hk1
      have hcell : wr.cell? (a.add k) = some (.string (S0 k)) := by
        rw [Grown.cellAt A3.out (a.add k) (by rw [add_block]; exact hba)]; exact hca
      clear hca
      obtain ⟨t, ht⟩ : ∃ t, t = S0 k := ⟨_, rfl⟩
      rw [← ht] at hcell hsz
      have hts : t.size ≤ 9223372036854775807 := hsz
      clear ht hsz
      by_cases hbig : 3000 - (M.size : Int) < (t.size : Int)
      · have hd3 : decide (3000 - (M.size : Int) < (t.size : Int)) = true := by simpa using hbig
        go_wp2_with (go_at_call 11; refine (awakeSha_any _ A4.out).mono ?_; rintro e v4 ⟨rfl, hg4⟩)
        go_ret
        exact ⟨rfl, Grown.trans A3.out hg4⟩
      · have hd3 : decide (3000 - (M.size : Int) < (t.size : Int)) = false := by simpa using hbig
        have hsum : M.size + t.size ≤ 3000 := by omega
        have hcat : ¬ 9223372036854775807 < M.size + t.size := by omega
        go_wp2_with fail
        refine (shaWrite_any b M t wr A0.out A4.out hbT (by omega)).mono ?_
        rintro e v2 ⟨rfl, hst, hon⟩
        have B3 := Lib.hid (hon.1 w A3.out hbw)
        have B4 := Lib.hid (A4.out.only hon hbT)
        have hMs : (M ++ t).size ≤ 3000 := by rw [ByteArray.size_append]; exact hsum
        obtain ⟨M2, hM2⟩ : ∃ M2, M2 = M ++ t := ⟨_, rfl⟩
        rw [← hM2] at hst hMs ⊢
        have B0 := Lib.hid hst
        clear hst hon hM2 A0 A3 A4 hcell hd3 hcat
        go_wp2_with fail
        refine (shaLen_any b M2 v2 B0.out).mono ?_
        rintro e w' ⟨rfl, rfl⟩
        have hw1 : IntKind.u64.wrap (M2.size : Int) = (M2.size : Int) := by rw [IntKind.wrap_u64]; omega
        go_wp2_with fail
        refine (stateSum_any b M2 v2 B0.out B4.out (by omega)).mono ?_
        rintro e v3 ⟨rfl, hg3⟩
        go_wp2_with fail
        refine (refSum_any M2 v3 (by omega)).mono ?_
        rintro e v4 ⟨rfl, hg4⟩
        have hs := same_hash (shaL M2)
        go_wp2_with fail
        go_roundw
        case rel => exact ⟨k + 1, M2, rfl, by go_num, by omega, by omega, hMs, Lib.hid ((B0.out.grown hg3).grown hg4), Lib.hid (Grown.trans (Grown.trans B3.out hg3) hg4), Lib.hid ((B4.out.grown hg3).grown hg4)⟩
        case measure => simp [intOf]; omega
    · have HX : Hid (¬ (k < n0 ∧ k < 60)) := Lib.hid hgo
      clear hgo
      by_cases hk1 : k < n0
      have hd1 : decide ((k : Int) < (n0 : Int)) = true := by simp; omega
      have hd2 : decide ((k : Int) < 60) = false := by have := HX.out; simp; omega
      rotate_left
      have hd1 : decide ((k : Int) < (n0 : Int)) = false := by simp; omega
      all_goals
        go_wp2_with fail
        refine (stateSum_any b M wr A0.out A4.out (by omega)).mono ?_
        rintro e v3 ⟨rfl, hg3⟩
        go_wp2_with fail
        refine (refSum_any M v3 (by omega)).mono ?_
        rintro e v4 ⟨rfl, hg4⟩
        have hs := same_hash (shaL M)
        go_wp2_with fail
        refine (awakeSha_any v4 ((A4.out.grown hg3).grown hg4)).mono ?_
        rintro e v5 ⟨rfl, hg5⟩
        go_wp2_with fail
        go_ret
        exact ⟨rfl, Grown.trans (Grown.trans (Grown.trans A3.out hg3) hg4) hg5⟩

set_option maxRecDepth 100000 in
set_option maxHeartbeats 1000000 in
theorem lifted (os : Os) (started : os.Started) (H : Type) (enc : TypeId × Value → H) :
    ReturnsInHanded {} Tryd.checked os 7 .any (fun w args => (Rows.shaWritesSpec.pre enc Tryd.prog Tryd.f7 [] false w args ∧ laidMetH Tryd.prog Rows.shaWritesRow.laid w) ∧ sizedMet enc Tryd.prog Tryd.f7 (OpenSpec.ofChange Rows.shaWritesSpec) false w args)
      (Rows.shaWritesSpec.post enc Tryd.prog Tryd.f7 false true false false) := by
  refine returnsInHanded_of_change_and (C := Tryd.checked) (X := fun w _ => laidMetH Tryd.prog Rows.shaWritesRow.laid w) (fun _ _ _ hh h => h.of_heap hh) own started (by kernel_rfl) Tryd.func7
    (ChangeSpec.witness_shaped (enc := enc) (C := Tryd.checked) (os := os) (X := fun w _ => laidMetH Tryd.prog Rows.shaWritesRow.laid w) false (World.doorLaid Tryd.prog 400 os) #[.slice none 0 0] 8 rfl (World.shaped_of_RefB (by kernel_rfl) (by kernel_rfl)) (by kernel_rfl) (by kernel_rfl) (by kernel_rfl) (door_met os _)) ?_
  intro W base args ds gs before hval0 hW _ hsz0 hL _
  have hval : ∀ (j : Nat) t v, Tryd.f7.params[j]? = some t → args[j]? = some v → Value.okWide Tryd.prog W .any base t v := hval0
  have hsz : (DataW.weightsEach Tryd.prog (Tryd.f7.params.toList ++ Rows.shaWritesSpec.plain.varTypes Tryd.prog) (ds ++ gs)).all (· ≤ reachBytes) = true := hsz0
  have hW' := hW
  obtain ⟨p, q, hA0, hV, rfl, hfz, hnd⟩ := hW
  have hA : DataW.TrodAll enc Tryd.prog W 0 (fun _ => true) true Tryd.f7.params.toList args.toList ds p := hA0
  have hAk := hA
  rw [Tryd.params7] at hA hval hsz
  obtain ⟨v0, vs0, d0, ds0, p0_, q0_, hargs, rfl, rfl, h0, r0_⟩ := trodAll_cons hA
  obtain ⟨rfl, rfl, rfl⟩ := trodAll_nil r0_
  obtain rfl : args = #[v0] := by cases args; simp_all
  obtain ⟨rfl, rfl⟩ := trodVars_none hV
  have hlt : ∀ x ∈ (p0_ ++ ([])), x.block < W.heap.size := fun x hx => by simpa using hW'.lt x (by simpa using hx)
  obtain ⟨p0, n0, c0, S0, z0, rfl, e0⟩ := open_strsArg Tryd.underlying42 Tryd.underlying9 (by kernel_rfl) (hval 0 42 v0 rfl rfl) h0
  clear hA0 hval0
  refine (walk p0 n0 c0 S0 z0 W e0 (tab_of_laid hL)).mono fun e W' ⟨he, hg⟩ => ?_
  subst he
  exact ⟨_, rfl, post_of_same (pv := []) hW' (fun _ _ _ => (trodAll_cons_mk (shut_bool Tryd.underlying4 _) trodAll_mk0)) (fun sp hsp => trodAll_stays laidOut hg (by kernel_rfl) hAk hlt (fun x hx => hsp x (by simpa using hx))) (fun _ _ => rfl) rfl
    (hg.frame _) hg.2.1 (ok_one (by kernel_rfl) rfl (okWide_bool_mk Tryd.underlying4 _))⟩

theorem over : Rows.shaWritesRow.holds Tryd.pinned (OpenSpec.ofChange Rows.shaWritesSpec) :=
  OpenClaim.holds_of_wide 7 Tryd.f7 rfl rfl rfl rfl rfl rfl rfl ⟨rfl, rfl, rfl, rfl, rfl⟩ rfl rfl rfl rfl rfl (by kernel_rfl) Tryd.func7 (by kernel_rfl)
    (of_decide_eq_true (by kernel_rfl)) (by unfold Func.isWrapper; first | (rw [if_pos (by decide +kernel)]; kernel_rfl) | (rw [if_neg (by decide +kernel)]; exact ⟨rfl, rfl⟩))
    (fun os started H enc _ => lifted os started H enc)
end Go.Proofs.YtfckjiamcdlfmaaDoor.shaWrites
namespace Go.Proofs.YtfckjiamcdlfmaaDoor
theorem shaWrites_holds : Rows.ShaWritesSaid := shaWrites.over
theorem shaWrites_card : Rows.ShaWritesCardSaid :=
  Claim7.holds_tied_plain_at .later [] [.data] true (true, "3fd9c09119dcb6742678292bf1f0da0b5e8780ac195f2e9e26683ee4bf1d4650") false
    shaWrites_holds (fun _ h => by cases h) (by kernel_rfl) (fun _ h => by cases h) shaWrites_row_tie rfl ⟨rfl, rfl⟩ (by kernel_rfl) rfl
    (fun f fn hf hfn => by
      obtain rfl : f = 7 := Option.some.inj ((show Tryd.prog.funcNamed "milepost/milepostlaw02.ShaWrites" = some 7 by kernel_rfl).symm.trans hf) |>.symm
      obtain rfl : fn = Tryd.f7 := (Option.some.inj (Tryd.func7.symm.trans hfn)).symm
      refine ⟨by kernel_rfl, fun j t ht => ?_⟩
      have hm : t ∈ Tryd.f7.params.toList := by simpa using Array.mem_of_getElem? ht
      have hall : (Tryd.f7.params.toList.all fun u => !Tryd.prog.wantsStandIn u) = true := by kernel_rfl
      exact (show Tryd.prog.wantsStandIn t = false by simpa using List.all_eq_true.1 hall t hm))
    (by kernel_rfl)
#print axioms shaWrites_card
end Go.Proofs.YtfckjiamcdlfmaaDoor
