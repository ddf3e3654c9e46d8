/-
  The first place of an id among any others is where it stands first; chapter 18's example holds: 'IdentFirst' returns true.
  Conditions: those of the given card (sha's table of round constants as the program's text lays it).
-/
import Derived.Test.YtncnlmjhejminaaDoorRows
import Derived.Test.YtncnlmjhejminaaDoorIdentLaw
import Derived.Test.YtncnlmjhejminaaDoorLawLibK
import Derived.WalkKit
import Derived.ProofKit
import Derived.OpenShut
import Derived.ShutString
import Derived.SizedLaws
import Derived.Test.YtncnlmjhejminaaDoorBas
import Derived.LaidMore
import Derived.SevenTiedAt
import Derived.Test.YtncnlmjhejminaaDoorCards
import Derived.Test.YtncnlmjhejminaaDoorTie
import Derived.Test.YtncnlmjhejminaaDoorShb
namespace Go.Proofs.YtncnlmjhejminaaDoor.identFirst
open Go.ChangeShapes Go.WideShapes Go.ChangeAt Go.RowKit
open Go.ChangeMaps (open_string shut_string)
set_option linter.unusedVariables false

theorem own : ownKnob Tryd.prog.godebug = none := by kernel_rfl
theorem laidOut : laidOutB Tryd.prog = true := by kernel_rfl

set_option maxRecDepth 100000 in
set_option maxHeartbeats 4000000 in
theorem walk (p0 : Option Addr) (n0 c0 : Nat) (F0 : Nat → List UInt8) (z0 : n0 ≤ c0 ∧ c0 ≤ maxLen) (a1 : List UInt8) (n1 : a1.length = 32) (w : World) (e0 : HAt w p0 n0 F0) (hT : Tab w) :
    Calls Tryd.prog 4 #[.slice p0 n0 c0, .agg (bC 32 a1)] w fun e w' => e = .returned (.bool true) ∧ Kept w w' := by
  have HT := Lib.hid hT
  have HA : Hid (∀ w, Tab w → _) := Lib.hid fun w ht => awake18_any w ht
  have X0 := Lib.hid (show HSl n0 F0 (.slice p0 n0 c0) w from ⟨p0, c0, rfl, z0.1, z0.2, e0⟩)
  have R3 := Lib.hid (Rowz.new w (bC 32 a1) 27)
  have K1 := Lib.hid ((Kept.refl w).alloc (.cells (bC 32 a1) 27))
  by_cases hn : 200 < n0
  · have hd1 : decide ((n0 : Int) > 200) = true := decide_eq_true (by omega)
    have hd1' : decide ((200 : Int) < (n0 : Int)) = true := decide_eq_true (by omega)
    clear e0 z0 X0 hn hT
    go_enter Tryd.func4, Tryd.ntmps4
    go_wp2_with fail
    refine (HA.out _ (HT.out.kept K1.out)).mono ?_
    rintro e v1 ⟨rfl, k1⟩
    replace K1 := Lib.hid (K1.out.trans k1)
    go_wp2_with fail
    go_ret
    exact ⟨rfl, K1.out⟩
  · have hd1 : decide ((n0 : Int) > 200) = false := decide_eq_false (by omega)
    have hd1' : decide ((200 : Int) < (n0 : Int)) = false := decide_eq_false (by omega)
    have hn200 : n0 ≤ 200 := by omega
    have H1 : Hid (∀ w, HSl n0 F0 (.slice p0 n0 c0) w → Calls Tryd.prog 13 #[.slice p0 n0 c0, .agg (bC 32 a1)] w fun e w' => e = .returned (.int .i64 (fiN F0 a1 n0 0)) ∧ Kept w w') := Lib.hid fun w hv => identFirst_any n0 F0 (.slice p0 n0 c0) w a1 hv (by omega) n1
    have HF := Lib.hid e0
    have hl1 := n1
    clear e0 z0 hn hT n1
    go_enter Tryd.func4, Tryd.ntmps4
    go_wp2_with fail
    generalize w.alloc (.cells (bC 32 a1) 27) = v1 at R3 K1 ⊢
    replace HF := Lib.hid (HF.out.kept K1.out)
    replace X0 := Lib.hid (HSl.kept _ _ _ _ _ K1.out X0.out)
    replace HT := Lib.hid (HT.out.kept K1.out)
    go_loopw [5, 6] (fun x i wr => ∃ k : Nat, k ≤ n0 ∧ i = .int .i64 ((k : Int) - 1) ∧ x = .int .i64 (fiN F0 a1 (n0 - k) k) ∧ Hid (Kept v1 wr)) (fun _ i _ => (intOf i + 1).toNat)
    case atStart => exact ⟨n0, Nat.le_refl _, rfl, by rw [Nat.sub_self]; rfl, Lib.hid (Kept.refl _)⟩
    case round =>
      obtain ⟨k, hk, rfl, rfl, KW⟩ := hrel
      by_cases hlt : 0 < k
      · obtain ⟨j, rfl⟩ : ∃ j, k = j + 1 := ⟨k - 1, by omega⟩
        have ej : (((j + 1 : Nat) : Int) - 1) = (j : Int) := by omega
        rw [ej]
        clear ej
        have hd : decide ((j : Int) ≥ 0) = true := decide_eq_true (by omega)
        have hd' : decide (0 ≤ (j : Int)) = true := decide_eq_true (by omega)
        have hjn : j < n0 := by omega
        obtain ⟨q, rfl, _⟩ := HF.out.some (by omega)
        have hlj := HF.out.length j hjn
        have HS : Hid (fiN F0 a1 (n0 - j) j = if F0 j = a1 then (j : Int) else fiN F0 a1 (n0 - (j + 1)) (j + 1)) := Lib.hid (by rw [show n0 - j = (n0 - (j + 1)) + 1 by omega]; rfl)
        generalize fiN F0 a1 (n0 - (j + 1)) (j + 1) = x at HS ⊢
        have HFw := Lib.hid (HF.out.kept KW.out)
        have R3w := Lib.hid (R3.out.kept KW.out)
        obtain ⟨b, hb⟩ : ∃ b, b = decide (F0 j = a1) := ⟨_, rfl⟩
        replace hb := Lib.hid hb
        go_wp2_with fail
        refine wp_region_table [(18, .is (.slice (some q) n0 c0)), (19, .is (.int .i64 (j : Int))), (20, .is (.pointer (some (q.add (j * 32))))), (21, .is (.agg (bC 32 (F0 j)))), (22, .is (.agg (bC 32 a1))), (23, .is (.bool b))] (by kernel_rfl) (by kernel_rfl) ?_ ?_
        · refine ⟨fun t w1 hf hk hp => ?_, ?_⟩
          · have h0 : slot t 0 = .slice (some q) n0 c0 := hf 0 (by kernel_rfl)
            clear hf hp
            refine stepAt_plain rfl ?_
            exact stepOK_move _ (.inl rfl) h0
          refine ⟨fun t w1 hf hk hp => ?_, ?_⟩
          · have h6 : slot t 6 = .int .i64 (j : Int) := hf 6 (by kernel_rfl)
            clear hf hp
            refine stepAt_plain rfl ?_
            exact stepOK_move _ (.inl rfl) h6
          refine ⟨fun t w1 hf hk hp => ?_, ?_⟩
          · have h18 : slot t 18 = .slice (some q) n0 c0 := hp 18 (by kernel_rfl)
            have h19 : slot t 19 = .int .i64 (j : Int) := hp 19 (by kernel_rfl)
            clear hf hp
            refine stepAt_plain rfl ?_
            exact stepOK_pure (.pointer (some (q.add (j * 32)))) (execIndexH q n0 c0 j hjn w1 rfl h18 h19) rfl
          refine ⟨fun t w1 hf hk hp => ?_, ?_⟩
          · have h20 : slot t 20 = .pointer (some (q.add (j * 32))) := hp 20 (by kernel_rfl)
            clear hf hp
            refine stepAt_plain rfl ?_
            have hq0 := (HFw.out.kept hk).load j hjn
            exact stepOK_sem (.agg (bC 32 (F0 j))) (by simp only [execOp, evS, h20]) hq0 rfl
          refine ⟨fun t w1 hf hk hp => ?_, ?_⟩
          · have h3 : slot t 3 = .pointer (some ⟨w.heap.size, 0, none⟩) := hf 3 (by kernel_rfl)
            clear hf hp
            refine stepAt_plain rfl ?_
            exact stepOK_pure (.agg (bC 32 a1)) (load_h rfl h3 (R3w.out.kept hk)) rfl
          refine ⟨fun t w1 hf hk hp => ?_, ?_⟩
          · have h21 : slot t 21 = .agg (bC 32 (F0 j)) := hp 21 (by kernel_rfl)
            have h22 : slot t 22 = .agg (bC 32 a1) := hp 22 (by kernel_rfl)
            clear hf hp
            refine stepAt_plain rfl ?_
            exact stepOK_pure (.bool b) ((hb.out ▸ execEqHs (F0 j) a1 hlj hl1 w1 rfl h21 h22)) rfl
          exact trivial
        · intro t w1 hsz hf hk hfacts
          have h23 : slot t 23 = .bool b := hfacts 5 _ rfl 23 rfl
          have h0 : slot t 0 = .slice (some q) n0 c0 := hf 0 (by kernel_rfl)
          have h3 : slot t 3 = .pointer (some ⟨w.heap.size, 0, none⟩) := hf 3 (by kernel_rfl)
          have h6 : slot t 6 = .int .i64 (j : Int) := hf 6 (by kernel_rfl)
          have h1 := hf 1 (by kernel_rfl)
          conv at h1 => rhs; whnf
          try change slot t 1 = undef at h1
          have h2 := hf 2 (by kernel_rfl)
          conv at h2 => rhs; whnf
          try change slot t 2 = undef at h2
          have h4 := hf 4 (by kernel_rfl)
          conv at h4 => rhs; whnf
          try change slot t 4 = undef at h4
          have h5 := hf 5 (by kernel_rfl)
          conv at h5 => rhs; whnf
          try change slot t 5 = undef at h5
          have h7 := hf 7 (by kernel_rfl)
          conv at h7 => rhs; whnf
          try change slot t 7 = undef at h7
          have h8 := hf 8 (by kernel_rfl)
          conv at h8 => rhs; whnf
          try change slot t 8 = undef at h8
          have h9 := hf 9 (by kernel_rfl)
          conv at h9 => rhs; whnf
          try change slot t 9 = undef at h9
          have h10 := hf 10 (by kernel_rfl)
          conv at h10 => rhs; whnf
          try change slot t 10 = undef at h10
          have h11 := hf 11 (by kernel_rfl)
          conv at h11 => rhs; whnf
          try change slot t 11 = undef at h11
          have h12 := hf 12 (by kernel_rfl)
          conv at h12 => rhs; whnf
          try change slot t 12 = undef at h12
          have h13 := hf 13 (by kernel_rfl)
          conv at h13 => rhs; whnf
          try change slot t 13 = undef at h13
          have h14 := hf 14 (by kernel_rfl)
          conv at h14 => rhs; whnf
          try change slot t 14 = undef at h14
          have h15 := hf 15 (by kernel_rfl)
          conv at h15 => rhs; whnf
          try change slot t 15 = undef at h15
          have h16 := hf 16 (by kernel_rfl)
          conv at h16 => rhs; whnf
          try change slot t 16 = undef at h16
          have h17 := hf 17 (by kernel_rfl)
          conv at h17 => rhs; whnf
          try change slot t 17 = undef at h17
          have h24 := hf 24 (by kernel_rfl)
          conv at h24 => rhs; whnf
          try change slot t 24 = undef at h24
          have h25 := hf 25 (by kernel_rfl)
          conv at h25 => rhs; whnf
          try change slot t 25 = undef at h25
          have h26 := hf 26 (by kernel_rfl)
          conv at h26 => rhs; whnf
          try change slot t 26 = undef at h26
          have h27 := hf 27 (by kernel_rfl)
          conv at h27 => rhs; whnf
          try change slot t 27 = undef at h27
          have h28 := hf 28 (by kernel_rfl)
          conv at h28 => rhs; whnf
          try change slot t 28 = undef at h28
          have h29 := hf 29 (by kernel_rfl)
          conv at h29 => rhs; whnf
          try change slot t 29 = undef at h29
          have h30 := hf 30 (by kernel_rfl)
          conv at h30 => rhs; whnf
          try change slot t 30 = undef at h30
          have h31 := hf 31 (by kernel_rfl)
          conv at h31 => rhs; whnf
          try change slot t 31 = undef at h31
          have h32 := hf 32 (by kernel_rfl)
          conv at h32 => rhs; whnf
          try change slot t 32 = undef at h32
          have harr : t = #[slot t 0, slot t 1, slot t 2, slot t 3, slot t 4, slot t 5, slot t 6, slot t 7, slot t 8, slot t 9, slot t 10, slot t 11, slot t 12, slot t 13, slot t 14, slot t 15, slot t 16, slot t 17, slot t 18, slot t 19, slot t 20, slot t 21, slot t 22, slot t 23, slot t 24, slot t 25, slot t 26, slot t 27, slot t 28, slot t 29, slot t 30, slot t 31, slot t 32] := arr_eq t 33 hsz
          rw [harr, h23, h0, h3, h6, h1, h2, h4, h5, h7, h8, h9, h10, h11, h12, h13, h14, h15, h16, h17, h24, h25, h26, h27, h28, h29, h30, h31, h32]
          clear harr hfacts hf h23 h0 h3 h6 h1 h2 h4 h5 h7 h8 h9 h10 h11 h12 h13 h14 h15 h16 h17 h24 h25 h26 h27 h28 h29 h30 h31 h32
          generalize slot t 18 = x18; generalize slot t 19 = x19; generalize slot t 20 = x20; generalize slot t 21 = x21; generalize slot t 22 = x22
          clear hsz t
          have KC := Lib.hid (KW.out.trans hk)
          clear hk
          cases b
          · have HE : Hid (x = fiN F0 a1 (n0 - j) j) := Lib.hid (by rw [HS.out, if_neg (of_decide_eq_false hb.out.symm)])
            go_wp2_with fail
            go_roundw
            case rel => exact ⟨j, by omega, rfl, by rw [HE.out], KC⟩
            case measure => simp [intOf]
          · have HE : Hid ((j : Int) = fiN F0 a1 (n0 - j) j) := Lib.hid (by rw [HS.out, if_pos (of_decide_eq_true hb.out.symm)])
            go_wp2_with fail
            go_roundw
            case rel => exact ⟨j, by omega, rfl, by rw [← HE.out], KC⟩
            case measure => simp [intOf]
      · obtain rfl : k = 0 := by omega
        have e0 : (((0 : Nat) : Int) - 1) = -1 := by omega
        rw [e0, Nat.sub_zero]
        generalize fiN F0 a1 n0 0 = x at H1 ⊢
        have hx : (x == x) = true := by simp
        have R3w := Lib.hid (R3.out.kept KW.out)
        go_wp2_with (refine wpList_exec 26 rfl (by rfl) _ _ (load_h rfl rfl R3w.out) ?_)
        refine (H1.out _ (HSl.kept _ _ _ _ _ KW.out X0.out)).mono ?_
        rintro e u1 ⟨rfl, k1⟩
        have KE := Lib.hid (KW.out.trans k1)
        clear k1 H1
        go_wp2_with fail
        refine (HA.out _ (HT.out.kept KE.out)).mono ?_
        rintro e u2 ⟨rfl, k2⟩
        replace KE := Lib.hid (K1.out.trans (KE.out.trans k2))
        clear k2
        go_wp2_with fail
        go_ret
        exact ⟨rfl, KE.out⟩

set_option maxRecDepth 100000 in
set_option maxHeartbeats 1000000 in
theorem lifted (os : Os) (started : os.Started) (H : Type) (enc : TypeId × Value → H) :
    ReturnsInHanded {} Tryd.checked os 4 .any (fun w args => (Rows.identFirstSpec.pre enc Tryd.prog Tryd.f4 [] false w args ∧ laidMetH Tryd.prog Rows.identFirstRow.laid w) ∧ sizedMet enc Tryd.prog Tryd.f4 (OpenSpec.ofChange Rows.identFirstSpec) false w args)
      (Rows.identFirstSpec.post enc Tryd.prog Tryd.f4 false true false false) := by
  refine returnsInHanded_of_change_and (C := Tryd.checked) (X := fun w _ => laidMetH Tryd.prog Rows.identFirstRow.laid w) (fun _ _ _ hh h => h.of_heap hh) own started (by kernel_rfl) Tryd.func4
    (ChangeSpec.witness_shaped (enc := enc) (C := Tryd.checked) (os := os) (X := fun w _ => laidMetH Tryd.prog Rows.identFirstRow.laid w) false (World.doorLaid Tryd.prog 400 os) #[.slice none 0 0, .agg #[.int .u8 0, .int .u8 0, .int .u8 0, .int .u8 0, .int .u8 0, .int .u8 0, .int .u8 0, .int .u8 0, .int .u8 0, .int .u8 0, .int .u8 0, .int .u8 0, .int .u8 0, .int .u8 0, .int .u8 0, .int .u8 0, .int .u8 0, .int .u8 0, .int .u8 0, .int .u8 0, .int .u8 0, .int .u8 0, .int .u8 0, .int .u8 0, .int .u8 0, .int .u8 0, .int .u8 0, .int .u8 0, .int .u8 0, .int .u8 0, .int .u8 0, .int .u8 0]] 8 rfl (World.shaped_of_RefB (by kernel_rfl) (by kernel_rfl)) (by kernel_rfl) (by kernel_rfl) (by kernel_rfl) (door_met os _)) ?_
  intro W base args ds gs before hval0 hW _ hsz0 hL _
  have hval : ∀ (j : Nat) t v, Tryd.f4.params[j]? = some t → args[j]? = some v → Value.okWide Tryd.prog W .any base t v := hval0
  have hsz : (DataW.weightsEach Tryd.prog (Tryd.f4.params.toList ++ Rows.identFirstSpec.plain.varTypes Tryd.prog) (ds ++ gs)).all (· ≤ reachBytes) = true := hsz0
  have hW' := hW
  obtain ⟨p, q, hA0, hV, rfl, hfz, hnd⟩ := hW
  have hA : DataW.TrodAll enc Tryd.prog W 0 (fun _ => true) true Tryd.f4.params.toList args.toList ds p := hA0
  have hAk := hA
  rw [Tryd.params4] at hA hval hsz
  obtain ⟨v0, vs0, d0, ds0, p0_, q0_, hargs, rfl, rfl, h0, r0_⟩ := trodAll_cons hA
  obtain ⟨v1, vs1, d1, ds1, p1_, q1_, rfl, rfl, rfl, h1, r1_⟩ := trodAll_cons r0_
  obtain ⟨rfl, rfl, rfl⟩ := trodAll_nil r1_
  obtain rfl : args = #[v0, v1] := by cases args; simp_all
  obtain ⟨rfl, rfl⟩ := trodVars_none hV
  have hlt : ∀ x ∈ (p0_ ++ (p1_ ++ ([]))), x.block < W.heap.size := fun x hx => by simpa using hW'.lt x (by simpa using hx)
  obtain ⟨p0, n0, c0, F0, z0, rfl, e0⟩ := open_hslice Tryd.underlying24 Tryd.underlying27 (by kernel_rfl) Tryd.underlying5 (by kernel_rfl) (hval 0 24 v0 rfl rfl) h0
  obtain ⟨cs1, rfl⟩ : ∃ cs, v1 = .agg cs := by
    have := hval 1 27 v1 rfl rfl
    simp only [Value.okWide, Tryd.underlying27] at this
    obtain ⟨cs, h, _⟩ := this
    exact ⟨cs, h⟩
  obtain ⟨a1, n1, rfl⟩ := open_hash Tryd.underlying27 Tryd.underlying5 (by kernel_rfl) (by kernel_rfl) h1
  clear hA0 hval0
  refine (walk p0 n0 c0 F0 z0 a1 n1 W e0 (tab_of_laid hL)).mono fun e W' ⟨he, hg⟩ => ?_
  subst he
  exact ⟨_, rfl, ⟨_, _, _, [], _, [], hW', trodAll_cons_mk (shut_bool Tryd.underlying4 _) trodAll_mk0, trodAll_stays laidOut hg (by kernel_rfl) hAk hlt (fun x hx => by simpa using hlt x hx), rfl, Kept.frame hg _, fun h => by cases h⟩⟩

theorem over : Rows.identFirstRow.holds Tryd.pinned (OpenSpec.ofChange Rows.identFirstSpec) :=
  OpenClaim.holds_of_wide 4 Tryd.f4 rfl rfl rfl rfl rfl rfl rfl ⟨rfl, rfl, rfl, rfl, rfl⟩ rfl rfl rfl rfl rfl (by kernel_rfl) Tryd.func4 (by kernel_rfl)
    (of_decide_eq_true (by kernel_rfl)) (by unfold Func.isWrapper; first | (rw [if_pos (by decide +kernel)]; kernel_rfl) | (rw [if_neg (by decide +kernel)]; exact ⟨rfl, rfl⟩))
    (fun os started H enc _ => lifted os started H enc)
end Go.Proofs.YtncnlmjhejminaaDoor.identFirst
namespace Go.Proofs.YtncnlmjhejminaaDoor
theorem identFirst_holds : Rows.IdentFirstSaid := identFirst.over
theorem identFirst_card : Rows.IdentFirstCardSaid :=
  Claim7.holds_tied_plain_at .later [] [.data] true (true, "f76569e19b13405f4d40f90b9e0120c3d7734e180611063ab5fdfb662327150c") false
    identFirst_holds (fun _ h => by cases h) (by kernel_rfl) (fun _ h => by cases h) identFirst_row_tie rfl ⟨rfl, rfl⟩ (by kernel_rfl) rfl
    (fun f fn hf hfn => by
      obtain rfl : f = 4 := Option.some.inj ((show Tryd.prog.funcNamed "milepost/milepostlaw18.IdentFirst" = some 4 by kernel_rfl).symm.trans hf) |>.symm
      obtain rfl : fn = Tryd.f4 := (Option.some.inj (Tryd.func4.symm.trans hfn)).symm
      refine ⟨by kernel_rfl, fun j t ht => ?_⟩
      have hm : t ∈ Tryd.f4.params.toList := by simpa using Array.mem_of_getElem? ht
      have hall : (Tryd.f4.params.toList.all fun u => !Tryd.prog.wantsStandIn u) = true := by kernel_rfl
      exact (show Tryd.prog.wantsStandIn t = false by simpa using List.all_eq_true.1 hall t hm))
    (by kernel_rfl)
#print axioms identFirst_card
end Go.Proofs.YtncnlmjhejminaaDoor
