/-
  Contracts of package sha: Pad, mixAll, bytesOf. Conditions: the arguments fit their kinds; the variable 'rounds' holds the 64 constants.
-/
import Derived.Test.YtecfgjoomckleaaDoorShaWalkC
namespace Go.Proofs.YtecfgjoomckleaaDoor
set_option maxRecDepth 4000
open Go.RowKit

set_option maxRecDepth 100000 in
set_option maxHeartbeats 1000000 in
theorem shaPad_any (n : Nat) (w : World) (_hn : n < 18446744073709551616) :
    Calls Tryd.prog 48 #[.int .u64 n] w fun e w' => e = .returned (.string (padS n)) ∧ Grown w w' := by
  obtain ⟨z, hzz⟩ : ∃ z, z = zeros n := ⟨_, rfl⟩
  have hz := zeros_le n
  rw [← hzz] at hz
  have hw1 : (IntKind.u64.wrap (55 - (n : Int))).tmod 64 = (z : Int) := by
    rw [IntKind.wrap_u64, hzz, Int.tmod_eq_emod_of_nonneg (by omega)]; unfold zeros; omega
  obtain ⟨m, hm⟩ : ∃ m, m = z + 1 := ⟨_, rfl⟩
  have hw2 : IntKind.u64.wrap (1 + (z : Int)) = (m : Int) := by rw [IntKind.wrap_u64]; omega
  have hmk := run_makeB m w (by omega)
  have hcell : (bC m [])[0]? = some (.int .u8 0) := by rw [bC_get _ _ _ (by omega)]; rfl
  have hpos : (0 : Int) < (m : Int) := by omega
  have HZ := Lib.hid hzz
  have HM := Lib.hid hm
  clear hzz hm
  go_enter Tryd.func48, Tryd.ntmps48
  go_wp2_with fail
  clear hmk hw2 hw1
  have hrow : Rowz (w.alloc (.cells ((bC m []).setIfInBounds 0 (.int .u8 128)) 5)) w.heap.size (bC m [128]) 5 := by
    have e : (bC m []).setIfInBounds 0 (.int .u8 128) = bC m [128] := bC_push m [] 128 0 rfl
    rw [← e]; exact Rowz.new w _ _
  have G0 : Grown w (w.alloc (.cells ((bC m []).setIfInBounds 0 (.int .u8 128)) 5)) := (Grown.refl _).alloc _ _
  have hcv : ∀ w', Rowz w' w.heap.size (bC m [128]) 5 → (convert 64 9 (.slice (some ⟨w.heap.size, 0, none⟩) m m)).run Tryd.prog w' = .ok (.string (padT z)) w' := by
    intro w' hr
    have hl : (128 :: List.replicate z 0 : List UInt8).length = m := by rw [HM.out]; simp
    have h := run_strB w' w.heap.size 0 m (128 :: List.replicate z 0) (fun j hj => by
      rw [Nat.zero_add, hr.byte j (by omega)]
      rcases j with _ | j
      · rfl
      · simp)
    rw [hl] at h
    exact h
  obtain ⟨q, hq⟩ : ∃ q, q = n * 8 % 18446744073709551616 := ⟨_, rfl⟩
  have hq2 : IntKind.u64.wrap (8 * (n : Int)) = (q : Int) := by rw [IntKind.wrap_u64]; omega
  have hql : q < 18446744073709551616 := by omega
  have HE := Lib.hid (padT_end n z (padT z) rfl HZ.out)
  rw [← hq] at HE
  clear hq
  generalize w.alloc (.cells ((bC m []).setIfInBounds 0 (.int .u8 128)) 5) = v at hrow G0 ⊢
  refine wp_region_held_drew (S := fun w' => Rowz w' w.heap.size (bC m [128]) 5) (by kernel_rfl) hrow (fun _ => ?_)
  refine wpAnyH_take (i := 0) (v := .slice (some ⟨w.heap.size, 0, none⟩) m m) rfl (by kernel_rfl) (by kernel_rfl) (by kernel_rfl) (fun _ _ _ h => h) (Or.inl ⟨by rfl, fun _ _ => by rfl⟩) hrow ?_
  refine wpAnyH_take (i := 1) (v := .string (padT z)) rfl (by kernel_rfl) (by kernel_rfl) (by kernel_rfl) (fun _ _ _ h => h) (yieldsIf_convert rfl 64 9 _ rfl (.slice (some ⟨w.heap.size, 0, none⟩) m m) _ rfl hcv) hrow ?_
  refine wpAnyH_take (i := 2) (v := .int .u64 (n : Int)) rfl (by kernel_rfl) (by kernel_rfl) (by kernel_rfl) (fun _ _ _ h => h) (Or.inl ⟨by rfl, fun _ _ => by rfl⟩) hrow ?_
  refine wpAnyH_take (i := 3) (v := .int .u64 (q : Int)) rfl (by kernel_rfl) (by kernel_rfl) (by kernel_rfl) (fun _ _ _ h => h) (Or.inl ⟨by rfl, fun _ _ => by go_simp⟩) hrow ?_
  refine wpAnyH_ready (rs := [4]) (by kernel_rfl) (by simp) (AllReadyH.cons rfl (fun K hK => ?_) AllReadyH.nil)
  rw [if_pos (by rfl)]
  go_simp
  refine (put64_any q _ hql).mono ?_
  rintro e v1 ⟨rfl, hg⟩
  have G1 : Grown w v1 := Grown.trans (b := v.drew) G0 hg
  refine hK.out _ _ (Rowz.grown (w := v.drew) hrow hg) (fun _ => ?_)
  clear hK K
  have hps : ¬ 9223372036854775807 < (padT z).size + 8 := by rw [padT_size]; omega
  have hbs := beS_size 8 q
  refine wpAnyH_ready (rs := [5]) (by kernel_rfl) (by simp) (AllReadyH.cons rfl (fun K hK => ?_) AllReadyH.nil)
  rw [if_pos (by rfl)]
  go_simp
  refine hK.out _ _ (Rowz.grown (w := v.drew) hrow hg) (fun _ => ?_)
  clear hK K
  refine wpAnyH_ready (rs := [6]) (by kernel_rfl) (by simp) (AllReadyH.cons rfl (fun K hK => ?_) AllReadyH.nil)
  rw [if_pos (by rfl)]
  go_simp
  refine hK.out _ _ (Rowz.grown (w := v.drew) hrow hg) (fun _ => ?_)
  clear hK K
  refine wpAnyH_done (by kernel_rfl) ?_ _
  go_wp2_with fail
  go_ret
  exact ⟨ret_str HE.out, G1⟩

/-! ### mixAll -/
def mixN (l : List Nat) (b : ByteArray) : Nat → List Nat
  | 0 => l
  | n + 1 => mixW (mixN l b n) (b.extract (64 * n) (64 * n + 64))
theorem mixN_length (l : List Nat) (b : ByteArray) (h : l.length = 8) : ∀ n, (mixN l b n).length = 8
  | 0 => h
  | n + 1 => mixW_length _ _ (mixN_length l b h n)
theorem mixN_lt (l : List Nat) (b : ByteArray) (h : ∀ x ∈ l, x < 4294967296) : ∀ n, ∀ x ∈ mixN l b n, x < 4294967296
  | 0 => h
  | _ + 1 => mixW_lt _ _

set_option maxRecDepth 100000 in
set_option maxHeartbeats 2000000 in
theorem mixAll_any (l : List Nat) (b : ByteArray) (w : World) (hb : b.size ≤ maxLen) (hl : l.length = 8) (hlt : ∀ x ∈ l, x < 4294967296) (ht : Tab w) :
    Calls Tryd.prog 46 #[.agg (wC 8 l), .string b] w fun e w' => e = .returned (.tuple #[.agg (wC 8 (mixN l b (b.size / 64))), .string (b.extract (64 * (b.size / 64)) b.size)]) ∧ Grown w w' := by
  have hbm : b.size ≤ 9223372036854775807 := hb
  have HB := Lib.hid hb
  have HL := Lib.hid hl
  have HLT := Lib.hid hlt
  clear hl hlt hb
  go_enter Tryd.func46, Tryd.ntmps46
  go_wp2_with fail
  have A0 : Hid (Rowz ((w.alloc (.cells (wC 8 l) 65)).alloc (.cells #[.int .u32 0, .int .u32 0, .int .u32 0, .int .u32 0, .int .u32 0, .int .u32 0, .int .u32 0, .int .u32 0] 65)) w.heap.size (wC 8 l) 65) :=
    Lib.hid ((Rowz.new w _ _).alloc _)
  have A1 : Hid (Rowz ((w.alloc (.cells (wC 8 l) 65)).alloc (.cells #[.int .u32 0, .int .u32 0, .int .u32 0, .int .u32 0, .int .u32 0, .int .u32 0, .int .u32 0, .int .u32 0] 65)) (w.heap.size + 1) (wC 8 []) 65) :=
    Lib.hid (Rowz.newEq1 w _ _ _ _ (by kernel_rfl))
  have A3 : Hid (Grown w ((w.alloc (.cells (wC 8 l) 65)).alloc (.cells #[.int .u32 0, .int .u32 0, .int .u32 0, .int .u32 0, .int .u32 0, .int .u32 0, .int .u32 0, .int .u32 0] 65))) :=
    Lib.hid (((Grown.refl w).alloc _ _).alloc _ _)
  have hpos := ht.pos
  have A4 := Lib.hid ((ht.alloc (.cells (wC 8 l) 65)).alloc (.cells #[.int .u32 0, .int .u32 0, .int .u32 0, .int .u32 0, .int .u32 0, .int .u32 0, .int .u32 0, .int .u32 0] 65))
  clear ht
  generalize (w.alloc (.cells (wC 8 l) 65)).alloc (.cells #[.int .u32 0, .int .u32 0, .int .u32 0, .int .u32 0, .int .u32 0, .int .u32 0, .int .u32 0, .int .u32 0] 65) = v at A0 A1 A3 A4 ⊢
  go_loopw [1] (fun s1 wr => ∃ (k : Nat) (t : ByteArray), s1 = .string t ∧ t.size ≤ 9223372036854775807 ∧ Hid (64 * k ≤ b.size ∧ t = b.extract (64 * k) b.size) ∧ Hid (Rowz wr w.heap.size (wC 8 (mixN l b k)) 65) ∧ Hid (Rowz wr (w.heap.size + 1) (wC 8 []) 65) ∧ Hid (Grown w wr) ∧ Hid (Tab wr)) (fun a _ => strSize a)
  case atStart => exact ⟨0, b, rfl, hbm, Lib.hid ⟨by omega, by simp⟩, A0, A1, A3, A4⟩
  case round =>
    clear A0 A1 A3 A4
    obtain ⟨k, t, rfl, hts, HT, A0, A1, A3, A4⟩ := hrel
    by_cases h64 : 64 ≤ t.size
    · have hd : decide ((64 : Int) ≤ (t.size : Int)) = true := by simp; omega
      have hts2 : t.size = b.size - 64 * k := by have := HT.out; rw [this.2, ByteArray.size_extract]; omega
      have HK : Hid (mixN l b (k + 1) = mixW (mixN l b k) (t.extract 0 64)) := Lib.hid (by
        have := HT.out
        rw [this.2, ByteArray.extract_extract, Nat.add_zero, Nat.min_eq_left (by omega)]; rfl)
      have HT2 : Hid (64 * (k + 1) ≤ b.size ∧ t.extract 64 t.size = b.extract (64 * (k + 1)) b.size) := Lib.hid (by
        have := HT.out
        refine ⟨by omega, ?_⟩
        rw [hts2, this.2, ByteArray.extract_extract]
        congr 1; omega)
      clear hts2
      go_wp2_with fail
      refine wp_region_still_tail 3 (by kernel_rfl) (by kernel_rfl) ?_
      simp only [List.take_succ_cons, List.take_zero, List.drop_succ_cons, List.drop_zero]
      change wpStill _ _ wr.drew (fun a' => wpList _ _ _ _ a' wr.drew) _ _
      replace A0 : Hid (Rowz wr.drew w.heap.size (wC 8 (mixN l b k)) 65) := A0
      replace A1 : Hid (Rowz wr.drew (w.heap.size + 1) (wC 8 []) 65) := A1
      replace A3 : Hid (Grown w wr.drew) := A3
      replace A4 : Hid (Tab wr.drew) := A4
      generalize wr.drew = w3 at A0 A1 A3 A4 ⊢
      refine wpStill_load_row rfl 65 _ rfl w.heap.size rfl 65 (wC 8 (mixN l b k)) (0, 0) _ A0.out Tryd.underlying65 rfl (info8W _) ?_
      have hle : (64 : Int) ≤ (t.size : Int) := by omega
      repeat still_step
      refine wpStill_nil ?_
      have hsx : (t.extract 0 64).size ≤ maxLen := by rw [ByteArray.size_extract]; unfold maxLen; omega
      go_wp2_with (first
        | (go_at_call 47; refine (shaMix_any (mixN l b k) (t.extract 0 64) _ hsx (mixN_length l b HL.out k) (mixN_lt l b HLT.out k) A4.out).mono ?_; rintro e w4 ⟨rfl, hg⟩)
        | (refine wpList_store_row rfl 65 _ _ rfl w.heap.size (wC 8 (mixW (mixN l b k) (t.extract 0 64))) rfl rfl 65 _ (A0.out.grown hg) (info8W _) (by simp [wC_size]) (wC_one _ _) ?_))
      go_roundw
      case rel =>
        refine ⟨k + 1, _, rfl, by rw [ByteArray.size_extract]; omega, HT2, Lib.hid ?_, Lib.hid ((A1.out.grown hg).rowOther (by omega)), Lib.hid (Grown.setRow (Grown.trans A3.out hg) (A0.out.grown hg) (Nat.le_refl _) _), Lib.hid ((A4.out.grown hg).setRow _ _ (by omega))⟩
        rw [HK.out]
        exact (A0.out.grown hg).row
      case measure => simp only [strSize, ByteArray.size_extract]; omega
    · have hd : decide ((64 : Int) ≤ (t.size : Int)) = false := by simp; omega
      have HE : Hid (b.size / 64 = k ∧ t = b.extract (64 * (b.size / 64)) b.size) := Lib.hid (by
        have h1 := HT.out
        have h2 : t.size = b.size - 64 * k := by rw [h1.2, ByteArray.size_extract]; omega
        have h3 : b.size / 64 = k := by omega
        exact ⟨h3, by rw [h3]; exact h1.2⟩)
      go_wp2_with (first
        | (refine wpList_load_row rfl 65 _ rfl w.heap.size rfl 65 (wC 8 (mixN l b k)) (0, 0) _ A0.out Tryd.underlying65 rfl (info8W _) ?_)
        | (refine wpList_store_row rfl 65 _ _ rfl (w.heap.size + 1) (wC 8 (mixN l b k)) rfl rfl 65 (wC 8 []) A1.out (info8W _) (by simp [wC_size]) (wC_one _ _) ?_))
      refine bodyPost_ret (v := .tuple #[.agg (wC 8 (mixN l b k)), .string t]) (results_row_tmp Tryd.results46 _ _ (w.heap.size + 1) 65 _ _ (.string t) rfl rfl A1.out.row Tryd.underlying65 rfl (info8W _)) rfl ⟨?_, ?_⟩
      · rw [HE.out.1, HE.out.2, HE.out.1]
      · exact Grown.setRow A3.out A1.out (by omega) _
end Go.Proofs.YtecfgjoomckleaaDoor
