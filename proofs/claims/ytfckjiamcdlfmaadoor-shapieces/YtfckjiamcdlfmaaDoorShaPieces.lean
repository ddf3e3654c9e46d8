/-
  A text written in two pieces, wherever it is cut, has the hash of the whole; a zero State is as a new one; on a nil State Write does nothing, Len is 0 and Sum is that of the empty text (texts of at most 3000 bytes); the law's examples hold: 'ShaPieces' returns true for every input.
  Conditions: none beyond the card's own (the variable 'rounds' is tied to the program's text).
-/
import Derived.Test.YtfckjiamcdlfmaaDoorRows
import Derived.Test.YtfckjiamcdlfmaaDoorShaWalkI
import Derived.Test.YtfckjiamcdlfmaaDoorEqLib
import Derived.WalkKit
import Derived.ProofKit
import Derived.OpenShut
import Derived.ShutString
import Derived.SizedLaws
import Derived.LaidMore
import Derived.SevenTiedAt
import Derived.Test.YtfckjiamcdlfmaaDoorCards
import Derived.Test.YtfckjiamcdlfmaaDoorTie
import Derived.Test.YtfckjiamcdlfmaaDoorShaLaid
namespace Go.Proofs.YtfckjiamcdlfmaaDoor.shaPieces
open Go.ChangeShapes Go.WideShapes Go.ChangeAt Go.RowKit
open Go.ChangeMaps (open_string shut_string)
set_option linter.unusedVariables false

theorem own : ownKnob Tryd.prog.godebug = none := by kernel_rfl

set_option maxRecDepth 100000 in
set_option maxHeartbeats 4000000 in
theorem walk (a0 : ByteArray) (a1 : Int) (w0 : a0.size ≤ maxLen) (w1 : (Lit.int .i64 a1).wf = true) (r0 : a0.size ≤ 140737488351232) (w : World) (hT : Tab w) :
    Calls Tryd.prog 8 #[.string a0, .int .i64 a1] w fun e w' => e = .returned (.bool true) ∧ Grown w w' := by
  have hpos := hT.pos
  by_cases h3 : 3000 < a0.size
  · have hd : decide ((3000 : Int) < (a0.size : Int)) = true := by simp; omega
    go_enter Tryd.func8, Tryd.ntmps8
    go_wp2_with (go_at_call 11; refine (awakeSha_any _ hT).mono ?_; rintro e v4 ⟨rfl, hg4⟩)
    go_ret
    exact ⟨rfl, hg4⟩
  · have hd : decide ((3000 : Int) < (a0.size : Int)) = false := by simp; omega
    obtain ⟨x, hx⟩ : ∃ x : Nat, IntKind.u64.wrap a1 = (x : Int) := ⟨(a1 % 18446744073709551616).toNat, by rw [IntKind.wrap_u64]; omega⟩
    obtain ⟨k, hkk⟩ : ∃ k : Nat, k = x % (a0.size + 1) := ⟨_, rfl⟩
    have hk : k ≤ a0.size := by have := Nat.mod_lt x (show a0.size + 1 > 0 by omega); omega
    obtain ⟨y, hy⟩ : ∃ y : Nat, y = a0.size + 1 := ⟨_, rfl⟩
    have hw1 : IntKind.i64.wrap ((a0.size : Int) + 1) = (y : Int) := by rw [IntWalk.i64_in _ (by omega)]; omega
    have hw2 : IntKind.u64.wrap (y : Int) = (y : Int) := by rw [IntKind.wrap_u64]; omega
    have hy0 : (y : Int) ≠ 0 := by omega
    have hrm : ((x : Int)).tmod (y : Int) = (k : Int) := by rw [Int.tmod_eq_emod_of_nonneg (by omega), hkk, hy]; simp
    have hw3 : IntKind.i64.wrap (k : Int) = (k : Int) := IntWalk.i64_in _ (by omega)
    have hkI : (k : Int) ≤ (a0.size : Int) := by omega
    have hz := zeroState
    have HXS : Hid ((a0.extract 0 k).size = k) := Lib.hid (by rw [ByteArray.size_extract]; omega)
    have hxs : (a0.extract 0 k).size ≤ 140737488351232 := by rw [HXS.out]; omega
    have HYS : Hid ((a0.extract k a0.size).size = a0.size - k) := Lib.hid (by rw [ByteArray.size_extract]; omega)
    have HSP : Hid (a0.extract 0 k ++ a0.extract k a0.size = a0) := Lib.hid (by
      apply ba_ext
      rw [ba_append, ba_extract, ba_extract, List.drop_zero, List.take_of_length_le (l := a0.data.toList) (i := a0.size) (by rw [ba_len]; exact Nat.le_refl _), List.take_append_drop])
    clear hkk hy
    go_enter Tryd.func8, Tryd.ntmps8
    go_wp2_with fail
    obtain ⟨b, hb⟩ : ∃ b, b = w.heap.size := ⟨_, rfl⟩
    have hbw : w.heap.size ≤ b := by omega
    have e0 : (⟨#[]⟩ : ByteArray).size = 0 := rfl
    have A0 : StIs (w.alloc (.cells (stC [] [] 0) 51)) b ⟨#[]⟩ := by rw [hb]; exact StIs.new (Rowz.new w _ _)
    have A3 : Grown w (w.alloc (.cells (stC [] [] 0) 51)) := (Grown.refl w).alloc _ _
    have A4 := hT.alloc (.cells (stC [] [] 0) 51)
    rw [← hb]
    clear hz hw1 hw2 hw3 hrm hx hy0
    generalize w.alloc (.cells (stC [] [] 0) 51) = va at A0 A3 A4 ⊢
    refine (shaWrite_any b ⟨#[]⟩ (a0.extract 0 k) va A0 A4 (by omega) (by rw [e0, HXS.out]; omega)).mono ?_
    rintro e vb ⟨rfl, B0, hon⟩
    rw [ba_nil_append] at B0
    have B3 := hon.1 w A3 hbw
    have B4 := A4.only hon (by omega)
    clear hon A0 A3 A4 e0
    have HB0 := Lib.hid B0
    have HB3 := Lib.hid B3
    have HB4 := Lib.hid B4
    clear B0 B3 B4 hb
    go_wp2_with fail
    refine (stateSum_any b (a0.extract 0 k) vb HB0.out HB4.out hxs).mono ?_
    rintro e vc ⟨rfl, hg⟩
    have C0 := Lib.hid (HB0.out.grown hg)
    have C3 := Lib.hid (Grown.trans HB3.out hg)
    have C4 := Lib.hid (HB4.out.grown hg)
    clear hg HB0 HB3 HB4
    have D0 := Lib.hid (C0.out.grown ((Grown.refl vc).alloc (bC 32 (shaL (a0.extract 0 k))) 23))
    have D1 := Lib.hid (Rowz.new vc (bC 32 (shaL (a0.extract 0 k))) 23)
    have D3 := Lib.hid (C3.out.alloc (bC 32 (shaL (a0.extract 0 k))) 23)
    have D4 := Lib.hid (C4.out.alloc (.cells (bC 32 (shaL (a0.extract 0 k))) 23))
    have hbc : b < vc.heap.size := C0.out.lt
    obtain ⟨g, hg⟩ : ∃ g, g = vc.heap.size := ⟨_, rfl⟩
    have hgb : g ≠ b := by omega
    go_wp2_with (refine wpList_store_row rfl 23 _ _ rfl vc.heap.size (bC 32 (shaL (a0.extract 0 k))) rfl rfl 23 _ (Rowz.new vc _ _) (info32 _) (by rw [bC_size]; rfl) (bC_one _ _) ?_; rw [World.setRow_alloc_new])
    rw [← hg] at D1 ⊢
    clear hg C0 C3 C4
    generalize vc.alloc (.cells (bC 32 (shaL (a0.extract 0 k))) 23) = vd at D0 D1 D3 D4 ⊢
    refine (shaWrite_any b (a0.extract 0 k) (a0.extract k a0.size) vd D0.out D4.out (by omega) (by rw [HXS.out, HYS.out]; omega)).mono ?_
    rintro e v ⟨rfl, E0, hon⟩
    rw [HSP.out] at E0
    have F0 := Lib.hid E0
    have F1 := Lib.hid (D1.out.only hon hgb)
    have F3 := Lib.hid (hon.1 w D3.out hbw)
    have F4 := Lib.hid (D4.out.only hon (by omega))
    clear hon E0 D0 D1 D3 D4
    go_wp2_with (go_at_call 21; refine (shaWrite_nil a0 _).mono ?_; rintro e w' ⟨rfl, rfl⟩)
    have hS : StIs v.drew b a0 ∧ Rowz v.drew g (bC 32 (shaL (a0.extract 0 k))) 23 := ⟨F0.out, F1.out⟩
    refine wp_region_held_drew (S := fun w' => StIs w' b a0 ∧ Rowz w' g (bC 32 (shaL (a0.extract 0 k))) 23) (by kernel_rfl) hS (fun _ => ?_)
    refine wpAnyH_take1 0 38 (.pointer (some ⟨b, 0, none⟩)) rfl rfl (by kernel_rfl) (by kernel_rfl) (by kernel_rfl) (fun _ _ _ h => h) hS (Or.inl ⟨by rfl, fun _ _ => by rfl⟩) ?_
    simp only [List.setIfInBounds_toArray, List.set_cons_zero, List.set_cons_succ]
    refine wpAnyH_take1 2 40 (.string a0) rfl rfl (by kernel_rfl) (by kernel_rfl) (by kernel_rfl) (fun _ _ _ h => h) hS (Or.inl ⟨by rfl, fun _ _ => by rfl⟩) ?_
    simp only [List.setIfInBounds_toArray, List.set_cons_zero, List.set_cons_succ]
    refine wpAnyH_ready (rs := [1]) (by kernel_rfl) (by simp) (AllReadyH.cons rfl (fun K hK => ?_) AllReadyH.nil)
    rw [if_pos (by rfl)]
    go_simp
    refine (stateSum_any b a0 v.drew F0.out F4.out r0).mono ?_
    rintro e v1 ⟨rfl, hg⟩
    have A0 : Hid (StIs v1 b a0) := Lib.hid (StIs.grown (w := v.drew) F0.out hg)
    have A1 : Hid (Rowz v1 g (bC 32 (shaL (a0.extract 0 k))) 23) := Lib.hid (Rowz.grown (w := v.drew) F1.out hg)
    have A3 : Hid (Grown w v1) := Lib.hid (Grown.trans (b := v.drew) F3.out hg)
    have A4 : Hid (Tab v1) := Lib.hid (Tab.grown (w := v.drew) F4.out hg)
    clear hg
    have hS : StIs v1 b a0 ∧ Rowz v1 g (bC 32 (shaL (a0.extract 0 k))) 23 := ⟨A0.out, A1.out⟩
    refine hK.out _ _ hS (fun _ => ?_)
    clear hK K
    refine wpAnyH_ready (rs := [3]) (by kernel_rfl) (by simp) (AllReadyH.cons rfl (fun K hK => ?_) AllReadyH.nil)
    rw [if_pos (by rfl)]
    go_simp
    refine (shaSum_any a0 _ A4.out r0).mono ?_
    rintro e v2 ⟨rfl, hg⟩
    have B0 : Hid (StIs v2 b a0) := Lib.hid (StIs.grown (w := v1) A0.out hg)
    have B1 : Hid (Rowz v2 g (bC 32 (shaL (a0.extract 0 k))) 23) := Lib.hid (Rowz.grown (w := v1) A1.out hg)
    have B3 : Hid (Grown w v2) := Lib.hid (Grown.trans (b := v1) A3.out hg)
    have B4 : Hid (Tab v2) := Lib.hid (Tab.grown (w := v1) A4.out hg)
    clear hg
    have hS : StIs v2 b a0 ∧ Rowz v2 g (bC 32 (shaL (a0.extract 0 k))) 23 := ⟨B0.out, B1.out⟩
    refine hK.out _ _ hS (fun _ => ?_)
    clear hK K
    refine wpAnyH_take1 4 42 (.bool true) rfl rfl (by kernel_rfl) (by kernel_rfl) (by kernel_rfl) (fun _ _ _ h => h) hS (Or.inl ⟨by rfl, fun w' _ => by have hq := same_hash (shaL a0) w'; have hq2 := guard_hash; go_simp⟩) ?_
    simp only [List.setIfInBounds_toArray, List.set_cons_zero, List.set_cons_succ]
    refine wpAnyH_take1 5 43 (.bool true) rfl rfl (by kernel_rfl) (by kernel_rfl) (by kernel_rfl) (fun _ _ _ h => h) hS (Or.inl ⟨by rfl, fun _ _ => by rfl⟩) ?_
    simp only [List.setIfInBounds_toArray, List.set_cons_zero, List.set_cons_succ]
    refine wpAnyH_take1 6 44 (.agg (bC 32 (shaL (a0.extract 0 k)))) rfl rfl (by kernel_rfl) (by kernel_rfl) (by kernel_rfl) (fun _ _ _ h => h) hS (yieldsIf_load_row rfl 23 _ rfl g rfl (bC 32 (shaL (a0.extract 0 k))) 23 _ (fun _ h => h.2) Tryd.underlying23 rfl (info32 _)) ?_
    simp only [List.setIfInBounds_toArray, List.set_cons_zero, List.set_cons_succ]
    refine wpAnyH_take1 7 45 (.string a0) rfl rfl (by kernel_rfl) (by kernel_rfl) (by kernel_rfl) (fun _ _ _ h => h) hS (Or.inl ⟨by rfl, fun _ _ => by rfl⟩) ?_
    simp only [List.setIfInBounds_toArray, List.set_cons_zero, List.set_cons_succ]
    refine wpAnyH_take1 8 46 (.int .i64 (k : Int)) rfl rfl (by kernel_rfl) (by kernel_rfl) (by kernel_rfl) (fun _ _ _ h => h) hS (Or.inl ⟨by rfl, fun _ _ => by rfl⟩) ?_
    simp only [List.setIfInBounds_toArray, List.set_cons_zero, List.set_cons_succ]
    refine wpAnyH_take1 9 47 (.string (a0.extract 0 k)) rfl rfl (by kernel_rfl) (by kernel_rfl) (by kernel_rfl) (fun _ _ _ h => h) hS (yieldsIf_slice rfl 9 _ _ _ _ rfl (.string a0) _ none (some (.int .i64 (k : Int))) none rfl rfl rfl rfl (fun w' _ => run_slice_head a0 k w' hk)) ?_
    simp only [List.setIfInBounds_toArray, List.set_cons_zero, List.set_cons_succ]
    refine wpAnyH_ready (rs := [10]) (by kernel_rfl) (by simp) (AllReadyH.cons rfl (fun K hK => ?_) AllReadyH.nil)
    rw [if_pos (by rfl)]
    go_simp
    refine (shaSum_any (a0.extract 0 k) _ B4.out hxs).mono ?_
    rintro e v3 ⟨rfl, hg⟩
    have C0 : Hid (StIs v3 b a0) := Lib.hid (StIs.grown (w := v2) B0.out hg)
    have C1 : Hid (Rowz v3 g (bC 32 (shaL (a0.extract 0 k))) 23) := Lib.hid (Rowz.grown (w := v2) B1.out hg)
    have C3 : Hid (Grown w v3) := Lib.hid (Grown.trans (b := v2) B3.out hg)
    have C4 : Hid (Tab v3) := Lib.hid (Tab.grown (w := v2) B4.out hg)
    clear hg
    have hS : StIs v3 b a0 ∧ Rowz v3 g (bC 32 (shaL (a0.extract 0 k))) 23 := ⟨C0.out, C1.out⟩
    refine hK.out _ _ hS (fun _ => ?_)
    clear hK K
    refine wpAnyH_take1 11 49 (.bool true) rfl rfl (by kernel_rfl) (by kernel_rfl) (by kernel_rfl) (fun _ _ _ h => h) hS (Or.inl ⟨by rfl, fun w' _ => by have hq := same_hash (shaL (a0.extract 0 k)) w'; have hq2 := guard_hash; go_simp⟩) ?_
    simp only [List.setIfInBounds_toArray, List.set_cons_zero, List.set_cons_succ]
    refine wpAnyH_take1 12 50 (.bool true) rfl rfl (by kernel_rfl) (by kernel_rfl) (by kernel_rfl) (fun _ _ _ h => h) hS (Or.inl ⟨by rfl, fun _ _ => by rfl⟩) ?_
    simp only [List.setIfInBounds_toArray, List.set_cons_zero, List.set_cons_succ]
    refine wpAnyH_take1 13 51 (.bool true) rfl rfl (by kernel_rfl) (by kernel_rfl) (by kernel_rfl) (fun _ _ _ h => h) hS (Or.inl ⟨by rfl, fun _ _ => by rfl⟩) ?_
    simp only [List.setIfInBounds_toArray, List.set_cons_zero, List.set_cons_succ]
    refine wpAnyH_take1 14 52 (.pointer none) rfl rfl (by kernel_rfl) (by kernel_rfl) (by kernel_rfl) (fun _ _ _ h => h) hS (Or.inl ⟨by rfl, fun _ _ => by rfl⟩) ?_
    simp only [List.setIfInBounds_toArray, List.set_cons_zero, List.set_cons_succ]
    refine wpAnyH_ready (rs := [15]) (by kernel_rfl) (by simp) (AllReadyH.cons rfl (fun K hK => ?_) AllReadyH.nil)
    rw [if_pos (by rfl)]
    go_simp
    refine (shaLen_nil _).mono ?_
    rintro e w' ⟨rfl, rfl⟩
    refine hK.out _ _ hS (fun _ => ?_)
    clear hK K
    refine wpAnyH_take1 16 54 (.bool true) rfl rfl (by kernel_rfl) (by kernel_rfl) (by kernel_rfl) (fun _ _ _ h => h) hS (Or.inl ⟨by rfl, fun _ _ => by go_simp⟩) ?_
    simp only [List.setIfInBounds_toArray, List.set_cons_zero, List.set_cons_succ]
    refine wpAnyH_take1 17 55 (.bool true) rfl rfl (by kernel_rfl) (by kernel_rfl) (by kernel_rfl) (fun _ _ _ h => h) hS (Or.inl ⟨by rfl, fun _ _ => by rfl⟩) ?_
    simp only [List.setIfInBounds_toArray, List.set_cons_zero, List.set_cons_succ]
    refine wpAnyH_take1 18 56 (.bool true) rfl rfl (by kernel_rfl) (by kernel_rfl) (by kernel_rfl) (fun _ _ _ h => h) hS (Or.inl ⟨by rfl, fun _ _ => by rfl⟩) ?_
    simp only [List.setIfInBounds_toArray, List.set_cons_zero, List.set_cons_succ]
    refine wpAnyH_take1 19 57 (.pointer none) rfl rfl (by kernel_rfl) (by kernel_rfl) (by kernel_rfl) (fun _ _ _ h => h) hS (Or.inl ⟨by rfl, fun _ _ => by rfl⟩) ?_
    simp only [List.setIfInBounds_toArray, List.set_cons_zero, List.set_cons_succ]
    refine wpAnyH_ready (rs := [20]) (by kernel_rfl) (by simp) (AllReadyH.cons rfl (fun K hK => ?_) AllReadyH.nil)
    rw [if_pos (by rfl)]
    go_simp
    refine (stateSum_nil _ C4.out).mono ?_
    rintro e v4 ⟨rfl, hg⟩
    have D0 : Hid (StIs v4 b a0) := Lib.hid (StIs.grown (w := v3) C0.out hg)
    have D1 : Hid (Rowz v4 g (bC 32 (shaL (a0.extract 0 k))) 23) := Lib.hid (Rowz.grown (w := v3) C1.out hg)
    have D3 : Hid (Grown w v4) := Lib.hid (Grown.trans (b := v3) C3.out hg)
    have D4 : Hid (Tab v4) := Lib.hid (Tab.grown (w := v3) C4.out hg)
    clear hg
    have hS : StIs v4 b a0 ∧ Rowz v4 g (bC 32 (shaL (a0.extract 0 k))) 23 := ⟨D0.out, D1.out⟩
    refine hK.out _ _ hS (fun _ => ?_)
    clear hK K
    refine wpAnyH_ready (rs := [21]) (by kernel_rfl) (by simp) (AllReadyH.cons rfl (fun K hK => ?_) AllReadyH.nil)
    rw [if_pos (by rfl)]
    go_simp
    refine (shaSum_any ⟨#[]⟩ _ D4.out (by decide)).mono ?_
    rintro e v5 ⟨rfl, hg⟩
    have E0 : Hid (StIs v5 b a0) := Lib.hid (StIs.grown (w := v4) D0.out hg)
    have E1 : Hid (Rowz v5 g (bC 32 (shaL (a0.extract 0 k))) 23) := Lib.hid (Rowz.grown (w := v4) D1.out hg)
    have E3 : Hid (Grown w v5) := Lib.hid (Grown.trans (b := v4) D3.out hg)
    have E4 : Hid (Tab v5) := Lib.hid (Tab.grown (w := v4) D4.out hg)
    clear hg
    have hS : StIs v5 b a0 ∧ Rowz v5 g (bC 32 (shaL (a0.extract 0 k))) 23 := ⟨E0.out, E1.out⟩
    refine hK.out _ _ hS (fun _ => ?_)
    clear hK K
    refine wpAnyH_take1 22 60 (.bool true) rfl rfl (by kernel_rfl) (by kernel_rfl) (by kernel_rfl) (fun _ _ _ h => h) hS (Or.inl ⟨by rfl, fun w' _ => by have hq := same_hash (shaL ⟨#[]⟩) w'; have hq2 := guard_hash; go_simp⟩) ?_
    simp only [List.setIfInBounds_toArray, List.set_cons_zero, List.set_cons_succ]
    refine wpAnyH_take1 23 61 (.bool true) rfl rfl (by kernel_rfl) (by kernel_rfl) (by kernel_rfl) (fun _ _ _ h => h) hS (Or.inl ⟨by rfl, fun _ _ => by rfl⟩) ?_
    simp only [List.setIfInBounds_toArray, List.set_cons_zero, List.set_cons_succ]
    refine wpAnyH_take1 24 62 (.bool true) rfl rfl (by kernel_rfl) (by kernel_rfl) (by kernel_rfl) (fun _ _ _ h => h) hS (Or.inl ⟨by rfl, fun _ _ => by rfl⟩) ?_
    simp only [List.setIfInBounds_toArray, List.set_cons_zero, List.set_cons_succ]
    refine wpAnyH_ready (rs := [25]) (by kernel_rfl) (by simp) (AllReadyH.cons rfl (fun K hK => ?_) AllReadyH.nil)
    rw [if_pos (by rfl)]
    go_simp
    refine (awakeSha_any _ E4.out).mono ?_
    rintro e v6 ⟨rfl, hg⟩
    have G0 : Hid (StIs v6 b a0) := Lib.hid (StIs.grown (w := v5) E0.out hg)
    have G1 : Hid (Rowz v6 g (bC 32 (shaL (a0.extract 0 k))) 23) := Lib.hid (Rowz.grown (w := v5) E1.out hg)
    have G3 : Hid (Grown w v6) := Lib.hid (Grown.trans (b := v5) E3.out hg)
    have G4 : Hid (Tab v6) := Lib.hid (Tab.grown (w := v5) E4.out hg)
    clear hg
    have hS : StIs v6 b a0 ∧ Rowz v6 g (bC 32 (shaL (a0.extract 0 k))) 23 := ⟨G0.out, G1.out⟩
    refine hK.out _ _ hS (fun _ => ?_)
    clear hK K
    refine wpAnyH_take1 26 64 (.bool true) rfl rfl (by kernel_rfl) (by kernel_rfl) (by kernel_rfl) (fun _ _ _ h => h) hS (Or.inl ⟨by rfl, fun _ _ => by rfl⟩) ?_
    simp only [List.setIfInBounds_toArray, List.set_cons_zero, List.set_cons_succ]
    refine wpAnyH_take1 27 4 (.bool true) rfl rfl (by kernel_rfl) (by kernel_rfl) (by kernel_rfl) (fun _ _ _ h => h) hS (Or.inl ⟨by rfl, fun _ _ => by rfl⟩) ?_
    simp only [List.setIfInBounds_toArray, List.set_cons_zero, List.set_cons_succ]
    refine wpAnyH_done (by kernel_rfl) ?_ _
    go_wp2_with fail
    go_ret
    exact ⟨rfl, G3.out⟩

set_option maxRecDepth 100000 in
theorem lifted (os : Os) (started : os.Started) (H : Type) (enc : TypeId × Value → H) :
    ReturnsInHanded {} Tryd.checked os 8 .any (fun w args => (Rows.shaPiecesSpec.pre enc Tryd.prog Tryd.f8 [] false w args ∧ laidMetH Tryd.prog Rows.shaPiecesRow.laid w) ∧ sizedMet enc Tryd.prog Tryd.f8 (OpenSpec.ofChange Rows.shaPiecesSpec) false w args)
      (Rows.shaPiecesSpec.post enc Tryd.prog Tryd.f8 false true false false) := by
  refine returnsInHanded_of_change_and (C := Tryd.checked) (X := fun w _ => laidMetH Tryd.prog Rows.shaPiecesRow.laid w) (fun _ _ _ hh h => h.of_heap hh) own started (by kernel_rfl) Tryd.func8
    (ChangeSpec.witness_shaped (enc := enc) (C := Tryd.checked) (os := os) (X := fun w _ => laidMetH Tryd.prog Rows.shaPiecesRow.laid w) false (World.doorLaid Tryd.prog 400 os) #[.string ByteArray.empty, .int .i64 0] 8 rfl (World.shaped_of_RefB (by kernel_rfl) (by kernel_rfl)) (by kernel_rfl) (by kernel_rfl) (by kernel_rfl) (door_met os _)) ?_
  intro W base args ds gs before hval0 hW _ hsz0 hL _
  have hsz : (DataW.weightsEach Tryd.prog (Tryd.f8.params.toList ++ Rows.shaPiecesSpec.plain.varTypes Tryd.prog) (ds ++ gs)).all (· ≤ reachBytes) = true := hsz0
  have hval : ∀ (j : Nat) t v, Tryd.f8.params[j]? = some t → args[j]? = some v → Value.okWide Tryd.prog W .any base t v := hval0
  have hW' := hW
  obtain ⟨p, q, hA0, hV, rfl, hfz, hnd⟩ := hW
  have hA : DataW.TrodAll enc Tryd.prog W 0 (fun _ => true) true Tryd.f8.params.toList args.toList ds p := hA0
  rw [Tryd.params8] at hA hval hsz
  obtain ⟨v0, vs0, d0, ds0, p0, q0, hargs, rfl, rfl, h0, r0⟩ := trodAll_cons hA
  obtain ⟨v1, vs1, d1, ds1, p1, q1, rfl, rfl, rfl, h1, r1⟩ := trodAll_cons r0
  obtain ⟨rfl, rfl, rfl⟩ := trodAll_nil r1
  obtain rfl : args = #[v0, v1] := by cases args; simp_all
  obtain ⟨rfl, rfl⟩ := trodVars_none hV
  obtain ⟨a0, rfl, rfl, rfl, w0⟩ := open_string Tryd.underlying9 (hval 0 9 v0 rfl rfl) h0
  obtain ⟨a1, rfl, rfl, rfl, w1⟩ := open_int Tryd.underlying3 (hval 1 3 v1 rfl rfl) h1
  clear hA0 hval0
  simp only [List.append_nil] at hW'
  have r0 : a0.size ≤ 140737488351232 := by have := sized_string hsz (j := 0) (t := 9) rfl rfl; simpa [reachBytes] using this
  refine (walk a0 a1 w0 w1 r0 W (tab_of_laid hL)).mono fun e W' ⟨he, hg⟩ => ?_
  subst he
  exact ⟨_, rfl, post_of_same (pa := []) (pv := []) hW' (fun _ _ _ => (trodAll_cons_mk (shut_bool Tryd.underlying4 _) trodAll_mk0)) (fun sp _ => (trodAll_cons_mk (shut_string Tryd.underlying9 w0) (trodAll_cons_mk (shut_int Tryd.underlying3 w1) trodAll_mk0))) (fun _ _ => rfl) rfl
    (hg.frame _) hg.2.1 (ok_one (by kernel_rfl) rfl (okWide_bool_mk Tryd.underlying4 _))⟩

theorem over : Rows.shaPiecesRow.holds Tryd.pinned (OpenSpec.ofChange Rows.shaPiecesSpec) :=
  OpenClaim.holds_of_wide 8 Tryd.f8 rfl rfl rfl rfl rfl rfl rfl ⟨rfl, rfl, rfl, rfl, rfl⟩ rfl rfl rfl rfl rfl (by kernel_rfl) Tryd.func8 (by kernel_rfl)
    (of_decide_eq_true (by kernel_rfl)) (by unfold Func.isWrapper; first | (rw [if_pos (by decide +kernel)]; kernel_rfl) | (rw [if_neg (by decide +kernel)]; exact ⟨rfl, rfl⟩))
    (fun os started H enc _ => lifted os started H enc)

theorem proved : Rows.ShaPiecesSaid :=
  over
end Go.Proofs.YtfckjiamcdlfmaaDoor.shaPieces
namespace Go.Proofs.YtfckjiamcdlfmaaDoor
theorem shaPieces_holds : Rows.ShaPiecesSaid := shaPieces.proved
theorem shaPieces_card : Rows.ShaPiecesCardSaid :=
  Claim7.holds_tied_plain_at .later [] [.data] true (true, "3fd9c09119dcb6742678292bf1f0da0b5e8780ac195f2e9e26683ee4bf1d4650") false
    shaPieces_holds (fun _ h => by cases h) (by kernel_rfl) (fun _ h => by cases h) shaPieces_row_tie rfl ⟨rfl, rfl⟩ (by kernel_rfl) rfl
    (fun f fn hf hfn => by
      obtain rfl : f = 8 := Option.some.inj ((show Tryd.prog.funcNamed "milepost/milepostlaw02.ShaPieces" = some 8 by kernel_rfl).symm.trans hf) |>.symm
      obtain rfl : fn = Tryd.f8 := (Option.some.inj (Tryd.func8.symm.trans hfn)).symm
      refine ⟨by kernel_rfl, fun j t ht => ?_⟩
      have hm : t ∈ Tryd.f8.params.toList := by simpa using Array.mem_of_getElem? ht
      have hall : (Tryd.f8.params.toList.all fun u => !Tryd.prog.wantsStandIn u) = true := by kernel_rfl
      exact (show Tryd.prog.wantsStandIn t = false by simpa using List.all_eq_true.1 hall t hm))
    (by kernel_rfl)
#print axioms shaPieces_card
end Go.Proofs.YtfckjiamcdlfmaaDoor
