/-
  Contracts of package sha: Mix. Conditions: the arguments fit their kinds; the variable 'rounds' holds the 64 constants.
-/
import Derived.Test.YtecfgjoomckleaaDoorShaWalkB
import Derived.Test.YtecfgjoomckleaaDoorDrawLib
namespace Go.Proofs.YtecfgjoomckleaaDoor
set_option maxRecDepth 4000
open Go.RowKit

/-- Eight words, all zero, as a new variable has them. -/
def z8 : Array Value := #[.int .u32 0, .int .u32 0, .int .u32 0, .int .u32 0, .int .u32 0, .int .u32 0, .int .u32 0, .int .u32 0]
theorem z8_eq : z8 = wC 8 [] := by kernel_rfl

set_option maxRecDepth 100000 in
set_option maxHeartbeats 2000000 in
theorem shaMix_any (l : List Nat) (s : ByteArray) (w : World) (hs : s.size ≤ maxLen) (hl : l.length = 8) (hlt : ∀ x ∈ l, x < 4294967296) (ht : Tab w) :
    Calls Tryd.prog 47 #[.agg (wC 8 l), .string s] w fun e w' => e = .returned (.agg (wC 8 (mixW l s))) ∧ Grown w w' := by
  go_enter Tryd.func47, Tryd.ntmps47
  go_wp2_with fail
  have A0 : Hid (Rowz ((w.alloc (.cells (wC 8 l) 65)).alloc (.cells #[.int .u32 0, .int .u32 0, .int .u32 0, .int .u32 0, .int .u32 0, .int .u32 0, .int .u32 0, .int .u32 0] 65)) w.heap.size (wC 8 l) 65) :=
    Lib.hid ((Rowz.new w _ _).alloc _)
  have A1 : Hid (Rowz ((w.alloc (.cells (wC 8 l) 65)).alloc (.cells #[.int .u32 0, .int .u32 0, .int .u32 0, .int .u32 0, .int .u32 0, .int .u32 0, .int .u32 0, .int .u32 0] 65)) (w.heap.size + 1) (wC 8 []) 65) :=
    Lib.hid (Rowz.newEq1 w _ _ _ _ (by kernel_rfl))
  have A3 : Hid (Grown w ((w.alloc (.cells (wC 8 l) 65)).alloc (.cells #[.int .u32 0, .int .u32 0, .int .u32 0, .int .u32 0, .int .u32 0, .int .u32 0, .int .u32 0, .int .u32 0] 65))) :=
    Lib.hid (((Grown.refl w).alloc _ _).alloc _ _)
  have hpos := ht.pos
  have A4 := Lib.hid ((ht.alloc (.cells (wC 8 l) 65)).alloc (.cells #[.int .u32 0, .int .u32 0, .int .u32 0, .int .u32 0, .int .u32 0, .int .u32 0, .int .u32 0, .int .u32 0] 65))
  have hv : ((w.alloc (.cells (wC 8 l) 65)).alloc (.cells #[.int .u32 0, .int .u32 0, .int .u32 0, .int .u32 0, .int .u32 0, .int .u32 0, .int .u32 0, .int .u32 0] 65)).heap.size = w.heap.size + 2 := by simp
  clear ht
  generalize (w.alloc (.cells (wC 8 l) 65)).alloc (.cells #[.int .u32 0, .int .u32 0, .int .u32 0, .int .u32 0, .int .u32 0, .int .u32 0, .int .u32 0, .int .u32 0] 65) = v at A0 A1 A3 A4 hv ⊢
  go_cut [5] from 7 to 10 (fun s5 wx => ∃ g, s5 = .pointer (some ⟨g, 0, none⟩) ∧ w.heap.size + 2 ≤ g ∧ Hid (Rowz wx g (wC 8 (rnds (spread s) l 64)) 65) ∧ Hid (Rowz wx w.heap.size (wC 8 l) 65) ∧ Hid (Rowz wx (w.heap.size + 1) (wC 8 []) 65) ∧ Hid (Grown w wx))
  case first =>
    refine wp_region_held_drew (S := fun w' => Rowz w' w.heap.size (wC 8 l) 65) (by kernel_rfl) A0.out (fun _ => ?_)
    refine wpAnyH_take (i := 0) rfl (by kernel_rfl) (by kernel_rfl) (by kernel_rfl) (fun _ _ _ h => h) (yieldsIf_load_row rfl 65 _ rfl w.heap.size rfl (wC 8 l) 65 _ (fun _ h => h) Tryd.underlying65 rfl (info8W _)) A0.out ?_
    refine wpAnyH_take (i := 1) (v := .string s) rfl (by kernel_rfl) (by kernel_rfl) (by kernel_rfl) (fun _ _ _ h => h) (Or.inl ⟨by rfl, fun _ _ => by rfl⟩) A0.out ?_
    refine wpAnyH_ready (rs := [2, 4]) (by kernel_rfl) (by simp) (AllReadyH.cons rfl (fun K hK => ?_) (AllReadyH.cons rfl (fun K hK => ?_) AllReadyH.nil))
    · rw [if_pos (by rfl)]
      go_simp
      refine (shaSpread_any s _ hs).mono ?_
      rintro e v1 ⟨rfl, hg⟩
      have hzv1 : v.heap.size ≤ v1.heap.size := hg.2.2
      have B0 : Hid (Rowz v1 w.heap.size (wC 8 l) 65) := Lib.hid (Rowz.grown (w := v.drew) A0.out hg)
      have B1 : Hid (Rowz v1 (w.heap.size + 1) (wC 8 []) 65) := Lib.hid (Rowz.grown (w := v.drew) A1.out hg)
      have B3 : Hid (Grown w v1) := Lib.hid (Grown.trans (b := v.drew) A3.out hg)
      have B4 : Hid (Tab v1) := Lib.hid (Tab.grown (w := v.drew) A4.out hg)
      clear hg
      refine hK.out _ _ B0.out (fun _ => ?_)
      clear hK K
      refine wpAnyH_ready (rs := [3, 4]) (by kernel_rfl) (by simp) (AllReadyH.cons rfl (fun K hK => ?_) (AllReadyH.cons rfl (fun K hK => ?_) AllReadyH.nil))
      · rw [if_pos (by rfl)]
        go_simp
        refine (runRounds_any l (spread s) _ hl hlt (wl_lt s 64) B4.out).mono ?_
        rintro e v2 ⟨rfl, hg⟩
        have hzv2 : v1.heap.size ≤ v2.heap.size := hg.2.2
        have C0 : Hid (Rowz v2 w.heap.size (wC 8 l) 65) := Lib.hid (Rowz.grown (w := v1) B0.out hg)
        have C1 : Hid (Rowz v2 (w.heap.size + 1) (wC 8 []) 65) := Lib.hid (Rowz.grown (w := v1) B1.out hg)
        have C3 : Hid (Grown w v2) := Lib.hid (Grown.trans (b := v1) B3.out hg)
        have C4 : Hid (Tab v2) := Lib.hid (Tab.grown (w := v1) B4.out hg)
        clear hg
        refine hK.out _ _ C0.out (fun _ => ?_)
        clear hK K
        refine wpAnyH_ready (rs := [4]) (by kernel_rfl) (by simp) (AllReadyH.cons rfl (fun K hK => ?_) AllReadyH.nil)
        rw [if_pos (by rfl)]
        go_simp
        have D0 : Hid (Rowz (v2.alloc (.cells #[.int .u32 0, .int .u32 0, .int .u32 0, .int .u32 0, .int .u32 0, .int .u32 0, .int .u32 0, .int .u32 0] 65)) w.heap.size (wC 8 l) 65) := Lib.hid (Rowz.alloc C0.out _)
        have D1 : Hid (Rowz (v2.alloc (.cells #[.int .u32 0, .int .u32 0, .int .u32 0, .int .u32 0, .int .u32 0, .int .u32 0, .int .u32 0, .int .u32 0] 65)) (w.heap.size + 1) (wC 8 []) 65) := Lib.hid (Rowz.alloc C1.out _)
        have D3 : Hid (Grown w (v2.alloc (.cells #[.int .u32 0, .int .u32 0, .int .u32 0, .int .u32 0, .int .u32 0, .int .u32 0, .int .u32 0, .int .u32 0] 65))) := Lib.hid (Grown.alloc C3.out _ _)
        have D4 : Hid (Tab (v2.alloc (.cells #[.int .u32 0, .int .u32 0, .int .u32 0, .int .u32 0, .int .u32 0, .int .u32 0, .int .u32 0, .int .u32 0] 65))) := Lib.hid (Tab.alloc C4.out _)
        have D5 : Hid (Rowz ((v2.alloc (.cells #[.int .u32 0, .int .u32 0, .int .u32 0, .int .u32 0, .int .u32 0, .int .u32 0, .int .u32 0, .int .u32 0] 65))) v2.heap.size (wC 8 []) 65) := Lib.hid (Rowz.newEq v2 _ _ _ (by kernel_rfl))
        refine hK.out _ _ D0.out (fun _ => ?_)
        clear hK K
        generalize (v2.alloc (.cells #[.int .u32 0, .int .u32 0, .int .u32 0, .int .u32 0, .int .u32 0, .int .u32 0, .int .u32 0, .int .u32 0] 65)) = v3 at D0 D1 D3 D4 D5 ⊢
        refine wpAnyH_ready (rs := [5]) (by kernel_rfl) (by simp) (AllReadyH.cons rfl (fun K hK => ?_) AllReadyH.nil)
        rw [if_pos (by rfl)]
        refine wp_store_row 65 _ _ rfl v2.heap.size (wC 8 (rnds (spread s) l 64)) rfl rfl 65 (wC 8 []) D5.out (info8W _) (by simp [wC_size]) (wC_one _ _) ?_
        refine hK.out _ _ (Rowz.rowOther D0.out (by omega)) (fun _ => ?_)
        clear hK K
        refine wpAnyH_done (by kernel_rfl) ?_ _
        go_wp2_with fail
        go_meet
        case rel => exact ⟨v2.heap.size, rfl, by omega, Lib.hid D5.out.row, Lib.hid (D0.out.rowOther (by omega)), Lib.hid (D1.out.rowOther (by omega)), Lib.hid (Grown.setRow D3.out D5.out (by omega) _)⟩
      · rw [if_pos (by rfl)]
        go_simp
        have C0 : Hid (Rowz (v1.alloc (.cells #[.int .u32 0, .int .u32 0, .int .u32 0, .int .u32 0, .int .u32 0, .int .u32 0, .int .u32 0, .int .u32 0] 65)) w.heap.size (wC 8 l) 65) := Lib.hid (Rowz.alloc B0.out _)
        have C1 : Hid (Rowz (v1.alloc (.cells #[.int .u32 0, .int .u32 0, .int .u32 0, .int .u32 0, .int .u32 0, .int .u32 0, .int .u32 0, .int .u32 0] 65)) (w.heap.size + 1) (wC 8 []) 65) := Lib.hid (Rowz.alloc B1.out _)
        have C3 : Hid (Grown w (v1.alloc (.cells #[.int .u32 0, .int .u32 0, .int .u32 0, .int .u32 0, .int .u32 0, .int .u32 0, .int .u32 0, .int .u32 0] 65))) := Lib.hid (Grown.alloc B3.out _ _)
        have C4 : Hid (Tab (v1.alloc (.cells #[.int .u32 0, .int .u32 0, .int .u32 0, .int .u32 0, .int .u32 0, .int .u32 0, .int .u32 0, .int .u32 0] 65))) := Lib.hid (Tab.alloc B4.out _)
        have C5 : Hid (Rowz ((v1.alloc (.cells #[.int .u32 0, .int .u32 0, .int .u32 0, .int .u32 0, .int .u32 0, .int .u32 0, .int .u32 0, .int .u32 0] 65))) v1.heap.size (wC 8 []) 65) := Lib.hid (Rowz.newEq v1 _ _ _ (by kernel_rfl))
        refine hK.out _ _ C0.out (fun _ => ?_)
        clear hK K
        generalize (v1.alloc (.cells #[.int .u32 0, .int .u32 0, .int .u32 0, .int .u32 0, .int .u32 0, .int .u32 0, .int .u32 0, .int .u32 0] 65)) = v2 at C0 C1 C3 C4 C5 ⊢
        refine wpAnyH_ready (rs := [3]) (by kernel_rfl) (by simp) (AllReadyH.cons rfl (fun K hK => ?_) AllReadyH.nil)
        rw [if_pos (by rfl)]
        go_simp
        refine (runRounds_any l (spread s) _ hl hlt (wl_lt s 64) C4.out).mono ?_
        rintro e v3 ⟨rfl, hg⟩
        have hzv3 : v2.heap.size ≤ v3.heap.size := hg.2.2
        have D5 : Hid (Rowz v3 v1.heap.size (wC 8 []) 65) := Lib.hid (C5.out.grown hg)
        have D0 : Hid (Rowz v3 w.heap.size (wC 8 l) 65) := Lib.hid (Rowz.grown (w := v2) C0.out hg)
        have D1 : Hid (Rowz v3 (w.heap.size + 1) (wC 8 []) 65) := Lib.hid (Rowz.grown (w := v2) C1.out hg)
        have D3 : Hid (Grown w v3) := Lib.hid (Grown.trans (b := v2) C3.out hg)
        have D4 : Hid (Tab v3) := Lib.hid (Tab.grown (w := v2) C4.out hg)
        clear hg
        refine hK.out _ _ D0.out (fun _ => ?_)
        clear hK K
        refine wpAnyH_ready (rs := [5]) (by kernel_rfl) (by simp) (AllReadyH.cons rfl (fun K hK => ?_) AllReadyH.nil)
        rw [if_pos (by rfl)]
        refine wp_store_row 65 _ _ rfl v1.heap.size (wC 8 (rnds (spread s) l 64)) rfl rfl 65 (wC 8 []) D5.out (info8W _) (by simp [wC_size]) (wC_one _ _) ?_
        refine hK.out _ _ (Rowz.rowOther D0.out (by omega)) (fun _ => ?_)
        clear hK K
        refine wpAnyH_done (by kernel_rfl) ?_ _
        go_wp2_with fail
        go_meet
        case rel => exact ⟨v1.heap.size, rfl, by omega, Lib.hid D5.out.row, Lib.hid (D0.out.rowOther (by omega)), Lib.hid (D1.out.rowOther (by omega)), Lib.hid (Grown.setRow D3.out D5.out (by omega) _)⟩
    · rw [if_pos (by rfl)]
      go_simp
      have B0 : Hid (Rowz (v.alloc (.cells #[.int .u32 0, .int .u32 0, .int .u32 0, .int .u32 0, .int .u32 0, .int .u32 0, .int .u32 0, .int .u32 0] 65)).drew w.heap.size (wC 8 l) 65) := Lib.hid (Rowz.alloc A0.out _)
      have B1 : Hid (Rowz (v.alloc (.cells #[.int .u32 0, .int .u32 0, .int .u32 0, .int .u32 0, .int .u32 0, .int .u32 0, .int .u32 0, .int .u32 0] 65)).drew (w.heap.size + 1) (wC 8 []) 65) := Lib.hid (Rowz.alloc A1.out _)
      have B3 : Hid (Grown w (v.alloc (.cells #[.int .u32 0, .int .u32 0, .int .u32 0, .int .u32 0, .int .u32 0, .int .u32 0, .int .u32 0, .int .u32 0] 65)).drew) := Lib.hid (Grown.alloc A3.out _ _)
      have B4 : Hid (Tab (v.alloc (.cells #[.int .u32 0, .int .u32 0, .int .u32 0, .int .u32 0, .int .u32 0, .int .u32 0, .int .u32 0, .int .u32 0] 65)).drew) := Lib.hid (Tab.alloc A4.out _)
      have B5 : Hid (Rowz ((v.alloc (.cells #[.int .u32 0, .int .u32 0, .int .u32 0, .int .u32 0, .int .u32 0, .int .u32 0, .int .u32 0, .int .u32 0] 65)).drew) v.heap.size (wC 8 []) 65) := Lib.hid (Rowz.newEq v _ _ _ (by kernel_rfl))
      refine hK.out _ _ B0.out (fun _ => ?_)
      clear hK K
      generalize (v.alloc (.cells #[.int .u32 0, .int .u32 0, .int .u32 0, .int .u32 0, .int .u32 0, .int .u32 0, .int .u32 0, .int .u32 0] 65)).drew = v1 at B0 B1 B3 B4 B5 ⊢
      refine wpAnyH_ready (rs := [2]) (by kernel_rfl) (by simp) (AllReadyH.cons rfl (fun K hK => ?_) AllReadyH.nil)
      rw [if_pos (by rfl)]
      go_simp
      refine (shaSpread_any s _ hs).mono ?_
      rintro e v2 ⟨rfl, hg⟩
      have hzv2 : v1.heap.size ≤ v2.heap.size := hg.2.2
      have C5 : Hid (Rowz v2 v.heap.size (wC 8 []) 65) := Lib.hid (B5.out.grown hg)
      have C0 : Hid (Rowz v2 w.heap.size (wC 8 l) 65) := Lib.hid (Rowz.grown (w := v1) B0.out hg)
      have C1 : Hid (Rowz v2 (w.heap.size + 1) (wC 8 []) 65) := Lib.hid (Rowz.grown (w := v1) B1.out hg)
      have C3 : Hid (Grown w v2) := Lib.hid (Grown.trans (b := v1) B3.out hg)
      have C4 : Hid (Tab v2) := Lib.hid (Tab.grown (w := v1) B4.out hg)
      clear hg
      refine hK.out _ _ C0.out (fun _ => ?_)
      clear hK K
      refine wpAnyH_ready (rs := [3]) (by kernel_rfl) (by simp) (AllReadyH.cons rfl (fun K hK => ?_) AllReadyH.nil)
      rw [if_pos (by rfl)]
      go_simp
      refine (runRounds_any l (spread s) _ hl hlt (wl_lt s 64) C4.out).mono ?_
      rintro e v3 ⟨rfl, hg⟩
      have hzv3 : v2.heap.size ≤ v3.heap.size := hg.2.2
      have D5 : Hid (Rowz v3 v.heap.size (wC 8 []) 65) := Lib.hid (C5.out.grown hg)
      have D0 : Hid (Rowz v3 w.heap.size (wC 8 l) 65) := Lib.hid (Rowz.grown (w := v2) C0.out hg)
      have D1 : Hid (Rowz v3 (w.heap.size + 1) (wC 8 []) 65) := Lib.hid (Rowz.grown (w := v2) C1.out hg)
      have D3 : Hid (Grown w v3) := Lib.hid (Grown.trans (b := v2) C3.out hg)
      have D4 : Hid (Tab v3) := Lib.hid (Tab.grown (w := v2) C4.out hg)
      clear hg
      refine hK.out _ _ D0.out (fun _ => ?_)
      clear hK K
      rw [hv] at D5
      refine wpAnyH_ready (rs := [5]) (by kernel_rfl) (by simp) (AllReadyH.cons rfl (fun K hK => ?_) AllReadyH.nil)
      rw [if_pos (by rfl)]
      refine wp_store_row 65 _ _ rfl (w.heap.size + 2) (wC 8 (rnds (spread s) l 64)) rfl rfl 65 (wC 8 []) D5.out (info8W _) (by simp [wC_size]) (wC_one _ _) ?_
      refine hK.out _ _ (Rowz.rowOther D0.out (by omega)) (fun _ => ?_)
      clear hK K
      refine wpAnyH_done (by kernel_rfl) ?_ _
      go_wp2_with fail
      go_meet
      case rel => exact ⟨(w.heap.size + 2), rfl, by omega, Lib.hid D5.out.row, Lib.hid (D0.out.rowOther (by omega)), Lib.hid (D1.out.rowOther (by omega)), Lib.hid (Grown.setRow D3.out D5.out (by omega) _)⟩
  case rest =>
    clear A0 A1 A3 A4 hv
    obtain ⟨g, rfl, hg2, R0, R6, R1, G0⟩ := hcut
    have LA := Lib.hid (rnds_length (spread s) l hl 64)
    have HM := Lib.hid (show mixW l s = addW (rnds (spread s) l 64) l from rfl)
    have AB := Lib.hid (rnds_lt (spread s) l hlt 64)
    have HLT := Lib.hid hlt
    have HLL := Lib.hid hl
    clear hl hlt
    generalize rnds (spread s) l 64 = A at R0 LA HM AB
    go_wp2_with fail
    go_loopw [11] (fun i wr => ∃ (j : Nat), j ≤ 8 ∧ i = .int .i64 j ∧ Hid (Rowz wr g (wC 8 (addp A l j)) 65) ∧ Hid (Rowz wr (w.heap.size + 1) (wC 8 []) 65) ∧ Hid (Rowz wr w.heap.size (wC 8 l) 65) ∧ Hid (Grown w wr)) (fun i _ => 8 - (intOf i).toNat)
    case atStart => exact ⟨0, by omega, rfl, by rw [addp_none]; exact R0, R1, R6, G0⟩
    case round =>
      clear R0 R1 R6 G0
      obtain ⟨j, hj8, rfl, R0, R1, R6, G0⟩ := hrel
      by_cases hj : j < 8
      · have hcj := R0.out.word j (by omega)
        rw [addp_get A l LA.out HLL.out j hj] at hcj
        have hcl := R6.out.word j (by omega)
        have hfr := R0.out.free j
        have HS := Lib.hid (addp_step A l LA.out HLL.out j hj)
        have HL := Lib.hid (addp_length A l LA.out HLL.out j hj8)
        have bA := getD_lt A AB.out j
        have bl_ := getD_lt l HLT.out j
        obtain ⟨p, hp⟩ : ∃ p, p = A.getD j 0 := ⟨_, rfl⟩
        obtain ⟨q, hq⟩ : ∃ q, q = l.getD j 0 := ⟨_, rfl⟩
        rw [← hp] at hcj HS bA
        rw [← hq] at hcl HS bl_
        clear hp hq
        have hdj : decide ((j : Int) < 8) = true := by simp; omega
        go_wp2_with fail
        refine wp_region_still_tail 8 (by kernel_rfl) (by kernel_rfl) ?_
        simp only [List.take_succ_cons, List.take_zero, List.drop_succ_cons, List.drop_zero]
        change wpStill _ _ wr.drew (fun a' => wpList _ _ _ _ a' wr.drew) _ _
        replace R0 : Hid (Rowz wr.drew g (wC 8 (addp A l j)) 65) := R0
        replace R1 : Hid (Rowz wr.drew (w.heap.size + 1) (wC 8 []) 65) := R1
        replace R6 : Hid (Rowz wr.drew w.heap.size (wC 8 l) 65) := R6
        replace G0 : Hid (Grown w wr.drew) := G0
        replace hcj : wr.drew.cell? ⟨g, j, none⟩ = some (.int .u32 (p : Int)) := hcj
        replace hcl : wr.drew.cell? ⟨w.heap.size, j, none⟩ = some (.int .u32 (q : Int)) := hcl
        replace hfr : wr.drew.frozen? ⟨g, j, none⟩ = false := hfr
        generalize wr.drew = w2 at R0 R1 R6 G0 hcj hcl hfr ⊢
        have hbj : (j : Int) < 8 := by omega
        repeat still_step
        refine wpStill_nil ?_
        go_wp2_with fail
        go_roundw
        case rel =>
          refine ⟨j + 1, by omega, by go_num, Lib.hid ?_, Lib.hid (R1.out.other _ _ (by simp; omega)), Lib.hid (R6.out.other _ _ (by simp; omega)), Lib.hid (G0.out.setCell (by simp; omega) _)⟩
          rw [← HS.out]
          exact R0.out.put j HL.out (by omega) _ ((p + q) % 4294967296) (by omega)
        case measure => simp [intOf]; omega
      · have e8 : j = 8 := by omega
        rw [e8, addp_all A l LA.out HLL.out, ← HM.out] at R0
        clear e8
        have hdj : decide ((j : Int) < 8) = false := by simp; omega
        go_wp2_with (first
          | (refine wpList_load_row rfl 65 _ rfl g rfl 65 (wC 8 (mixW l s)) (0, 0) _ R0.out Tryd.underlying65 rfl (info8W _) ?_)
          | (refine wpList_store_row rfl 65 _ _ rfl (w.heap.size + 1) (wC 8 (mixW l s)) rfl rfl 65 (wC 8 []) R1.out (info8W _) (by simp [wC_size]) (wC_one _ _) ?_))
        refine bodyPost_ret (v := .agg (wC 8 (mixW l s))) (results_cell_row Tryd.results47 _ _ (w.heap.size + 1) 65 _ (0, 0) _ rfl R1.out.row Tryd.underlying65 rfl (info8W _)) rfl ⟨rfl, ?_⟩
        exact Grown.setRow G0.out R1.out (by omega) _
end Go.Proofs.YtecfgjoomckleaaDoor
