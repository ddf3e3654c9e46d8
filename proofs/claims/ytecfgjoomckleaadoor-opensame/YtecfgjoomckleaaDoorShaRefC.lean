/-
  Contracts of the reference of layer 2: First, Pad, Sum. Conditions: the arguments fit their kinds; a string takes at most 2^47 - 4096 bytes.
-/
import Derived.Test.YtecfgjoomckleaaDoorShaRefB
namespace Go.Proofs.YtecfgjoomckleaaDoor
set_option maxRecDepth 4000
open Go.RowKit

set_option maxHeartbeats 400000 in
theorem refFirst_any (w : World) :
    Calls Tryd.prog 40 #[] w fun e w' => e = .returned (.agg (wC 8 first8)) ∧ Grown w w' := by
  go_enter Tryd.func40, Tryd.ntmps40
  go_wp2
  exact bodyPost_ret (v := .agg (wC 8 first8)) (results_cell_row Tryd.results40 _ _ w.heap.size 57 (wC 8 first8) (0, 0) _ rfl (Rowz.newEq w _ _ _ (by kernel_rfl)) Tryd.underlying57 rfl (info8 _)) rfl ⟨rfl, (Grown.refl _).alloc _ _⟩

def strSize : Value → Nat
  | .string t => t.size
  | _ => 0
def padT (j : Nat) : ByteArray := ⟨(128 :: List.replicate j 0).toArray⟩
theorem padT_size (j : Nat) : (padT j).size = j + 1 := by
  show (128 :: List.replicate j 0).toArray.size = _
  simp
theorem padT_step (t : ByteArray) (j : Nat) (ht : t = padT j) : t ++ ⟨#[UInt8.ofNat 0]⟩ = padT (j + 1) := by
  subst ht
  apply ByteArray.ext
  simp [padT, List.replicate_succ']
theorem padT_end (n j : Nat) (t : ByteArray) (ht : t = padT j) (hj : j = zeros n) : t ++ beS 8 (n * 8 % 18446744073709551616) = padS n := by
  subst ht; subst hj
  apply ByteArray.ext
  simp [padT, padS, beS]

set_option maxHeartbeats 400000 in
theorem refPad_any (n : Nat) (w : World) (hn : n < 18446744073709551616) :
    Calls Tryd.prog 41 #[.int .u64 n] w fun e w' => e = .returned (.string (padS n)) ∧ Grown w w' := by
  have hz := zeros_le n
  go_enter Tryd.func41, Tryd.ntmps41
  go_wp2_with fail
  refine (byte_any 128 _ (by omega)).mono ?_
  rintro e w1 ⟨rfl, hg⟩
  have HG := Lib.hid hg
  clear hg
  go_wp2_with fail
  go_loopw [3] (fun a wr => ∃ (j : Nat) (t : ByteArray), j ≤ zeros n ∧ a = .string t ∧ t.size = j + 1 ∧ Hid (t = padT j) ∧ Hid (Grown w wr)) (fun a _ => 64 - strSize a)
  case atStart => exact ⟨0, _, by omega, rfl, rfl, Lib.hid rfl, HG⟩
  case round =>
    clear HG
    obtain ⟨j, t, hj, rfl, hts, HT, HG⟩ := hrel
    by_cases hz2 : j = zeros n
    · have ht : (((n : Int) % 64 + ((j : Int) + 1) + 8) % 64 != 0) = false := by
        have h2 : ((n : Int) % 64 + ((j : Int) + 1) + 8) % 64 = 0 := by rw [hz2]; unfold zeros; omega
        rw [h2]; rfl
      have HZ := Lib.hid hz2
      clear hz2
      have hm : IntKind.u64.wrap ((n : Int) * 8) = ((n * 8 % 18446744073709551616 : Nat) : Int) := by rw [IntKind.wrap_u64]; omega
      obtain ⟨m, hm2⟩ : ∃ m, m = n * 8 % 18446744073709551616 := ⟨_, rfl⟩
      have hml : m < 18446744073709551616 := by omega
      have HE := Lib.hid (padT_end n j t HT.out HZ.out)
      rw [← hm2] at hm HE
      clear hm2
      go_wp2_with fail
      refine (refPut_any m 8 _ hml (by omega)).mono ?_
      rintro e w2 ⟨rfl, hg⟩
      have HS := beS_size 8 m
      go_wp2_with fail
      go_ret
      exact ⟨ret_str HE.out, Grown.trans HG.out hg⟩
    · have hlt : j < zeros n := by omega
      have ht : (((n : Int) % 64 + ((j : Int) + 1) + 8) % 64 != 0) = true := by
        have h2 : ((n : Int) % 64 + ((j : Int) + 1) + 8) % 64 ≠ 0 := by unfold zeros at hlt; omega
        simpa using h2
      go_wp2_with fail
      refine (byte_any 0 _ (by omega)).mono ?_
      rintro e w2 ⟨rfl, hg⟩
      go_wp2_with fail
      go_roundw
      case rel => exact ⟨j + 1, _, by omega, rfl, by rw [ByteArray.size_append, hts]; rfl, Lib.hid (padT_step t j HT.out), Lib.hid (Grown.trans HG.out hg)⟩
      case measure => simp only [strSize, ByteArray.size_append, hts]; show 64 - (j + 1 + 1) < 64 - (j + 1); omega

theorem info32 (l : List UInt8) : (Tryd.prog.info? 41).map (·.size) = some (bC 32 l).size := by rw [bC_size]; kernel_rfl

set_option maxRecDepth 100000 in
set_option maxHeartbeats 2000000 in
theorem refSum_any (b : ByteArray) (w : World) (hb : b.size ≤ 140737488351232) :
    Calls Tryd.prog 32 #[.string b] w fun e w' => e = .returned (.agg (bC 32 (shaL b))) ∧ Grown w w' := by
  have hp : (padS b.size).size ≤ 72 := by rw [padS_size]; have := zeros_le b.size; omega
  have HSZ : Hid (∃ m, (b ++ padS b.size).size = 64 * m ∧ shaL b = bytesW (sumW (b ++ padS b.size) m)) := Lib.hid (by
    have h1 := pad_whole b.size
    have h2 : (b ++ padS b.size).size = b.size + (9 + zeros b.size) := by rw [ByteArray.size_append, padS_size]
    refine ⟨(b ++ padS b.size).size / 64, by omega, rfl⟩)
  have htl : Hid ((b ++ padS b.size).size ≤ 140737488351304) := Lib.hid (by rw [ByteArray.size_append]; omega)
  go_enter Tryd.func32, Tryd.ntmps32
  go_wp2_with fail
  refine (refFirst_any _).mono ?_
  rintro e w1 ⟨rfl, hg⟩
  have R2 : Hid (Rowz w1 w.heap.size (bC 32 []) 41) := Lib.hid (Rowz.grown (w := _) (by exact Rowz.newEq w _ _ _ (by kernel_rfl)) hg)
  have G0 : Hid (Grown w w1) := Lib.hid (Grown.trans (b := _) (by exact (Grown.refl _).alloc _ _) hg)
  have hs1 : w.heap.size < w1.heap.size := R2.out.lt
  clear hg
  go_wp2_with (first
    | (refine wpList_store_row rfl 57 _ _ rfl w1.heap.size (wC 8 first8) rfl rfl 57 _ (Rowz.new w1 _ _) (info8 _) (by rw [wC_size]; rfl) (wC_one _ _) ?_; rw [World.setRow_alloc_new])
    | (go_at_call 41; refine (refPad_any b.size _ (by omega)).mono ?_; rintro e w2 ⟨rfl, hg⟩))
  have R3 : Hid (Rowz w2 w1.heap.size (wC 8 first8) 57) := Lib.hid (Rowz.grown (Rowz.new w1 _ _) hg)
  replace R2 : Hid (Rowz w2 w.heap.size (bC 32 []) 41) := Lib.hid (Rowz.grown (R2.out.alloc _) hg)
  replace G0 : Hid (Grown w w2) := Lib.hid (Grown.trans (G0.out.alloc _ _) hg)
  clear hg
  obtain ⟨t, ht⟩ : ∃ t, t = b ++ padS b.size := ⟨_, rfl⟩
  rw [← ht] at HSZ htl ⊢
  clear ht hp
  obtain ⟨m, hm, hsh⟩ := HSZ.out
  have htl2 : t.size ≤ 140737488351304 := htl.out
  have HSH := Lib.hid hsh
  have HM := Lib.hid hm
  clear hsh HSZ htl hm
  go_loopw [4] (fun i wr => ∃ (j p : Nat), p ≤ t.size ∧ i = .int .i64 (p : Int) ∧ Hid (p = 64 * j) ∧ Hid (Rowz wr w1.heap.size (wC 8 (sumW t j)) 57) ∧ Hid (Rowz wr w.heap.size (bC 32 []) 41) ∧ Hid (Grown w wr)) (fun i _ => t.size - (intOf i).toNat)
  case atStart => exact ⟨0, 0, by omega, rfl, Lib.hid rfl, R3, R2, G0⟩
  case round =>
    clear R3 R2 G0
    obtain ⟨j, p, hj, rfl, HP, R3, R2, G0⟩ := hrel
    by_cases hlt : p < t.size
    · have hdt : decide ((p : Int) < (t.size : Int)) = true := by simp; omega
      have hp64 : p + 64 ≤ t.size := by have := HP.out; have := HM.out; omega
      go_wp2_with fail
      refine wp_region_still_tail 6 (by kernel_rfl) (by kernel_rfl) ?_
      simp only [List.take_succ_cons, List.take_zero, List.drop_succ_cons, List.drop_zero]
      change wpStill _ _ wr.drew (fun a' => wpList _ _ _ _ a' wr.drew) _ _
      replace R3 : Hid (Rowz wr.drew w1.heap.size (wC 8 (sumW t j)) 57) := R3
      replace R2 : Hid (Rowz wr.drew w.heap.size (bC 32 []) 41) := R2
      replace G0 : Hid (Grown w wr.drew) := G0
      generalize wr.drew = w3 at R3 R2 G0 ⊢
      refine wpStill_load_row rfl 57 _ rfl w1.heap.size rfl 57 (wC 8 (sumW t j)) (0, 0) _ R3.out Tryd.underlying57 rfl (info8 _) ?_
      have hw64 : IntKind.i64.wrap ((p : Int) + 64) = (p : Int) + 64 := IntWalk.i64_in _ (by omega)
      have hle : (p : Int) + 64 ≤ (t.size : Int) := by omega
      have hle2 : (p : Int) ≤ (p : Int) + 64 := by omega
      have hle3 : (0 : Int) ≤ (p : Int) + 64 := by omega
      have hto : ((p : Int) + 64).toNat = p + 64 := by omega
      repeat still_step
      refine wpStill_nil ?_
      clear hw64 hle hle2 hle3 hto
      have hsx : (t.extract p (p + 64)).size ≤ maxLen := by rw [ByteArray.size_extract]; unfold maxLen; omega
      have HSX : Hid (sumW t (j + 1) = mixW (sumW t j) (t.extract p (p + 64))) := Lib.hid (by rw [HP.out]; rfl)
      go_wp2_with (first
        | (go_at_call 42; refine (refMix_any (sumW t j) (t.extract p (p + 64)) _ hsx (sumW_length t j) (sumW_lt t j)).mono ?_; rintro e w4 ⟨rfl, hg⟩)
        | (refine wpList_store_row rfl 57 _ _ rfl w1.heap.size (wC 8 (mixW (sumW t j) (t.extract p (p + 64)))) rfl rfl 57 _ (R3.out.grown hg) (info8 _) (by simp [wC_size]) (wC_one _ _) ?_))
      go_roundw
      case rel =>
        refine ⟨j + 1, p + 64, by omega, by go_num, Lib.hid (by have := HP.out; omega), Lib.hid ?_, Lib.hid ((R2.out.grown hg).rowOther (by omega)), Lib.hid (Grown.setRow (Grown.trans G0.out hg) (R3.out.grown hg) (by omega) _)⟩
        rw [HSX.out]
        exact (R3.out.grown hg).row
      case measure => simp [intOf]; omega
    · have HF : Hid (Rowz wr w1.heap.size (wC 8 (sumW t m)) 57) := by
        have e : j = m := by have := HP.out; have := HM.out; omega
        rw [← e]; exact R3
      have HL8 := Lib.hid (sumW_length t m)
      have HB8 := Lib.hid (sumW_lt t m)
      obtain ⟨S, hS⟩ : ∃ S, S = sumW t m := ⟨_, rfl⟩
      rw [← hS] at HF HSH HL8 HB8
      clear hS R3 HP HM
      have hdt : decide ((p : Int) < (t.size : Int)) = false := by simp; omega
      go_wp2_with fail
      have hsw : w1.heap.size < wr.heap.size := HF.out.lt
      have N5 : Hid (Rowz (wr.alloc (.cells (bC 32 []) 41)) wr.heap.size (bC 32 []) 41) := Lib.hid (Rowz.new wr _ _)
      replace HF : Hid (Rowz (wr.alloc (.cells (bC 32 []) 41)) w1.heap.size (wC 8 S) 57) := Lib.hid (HF.out.alloc _)
      replace R2 : Hid (Rowz (wr.alloc (.cells (bC 32 []) 41)) w.heap.size (bC 32 []) 41) := Lib.hid (R2.out.alloc _)
      replace G0 : Hid (Grown w (wr.alloc (.cells (bC 32 []) 41))) := Lib.hid (G0.out.alloc _ _)
      obtain ⟨g5, hg5⟩ : ∃ g, wr.heap.size = g := ⟨_, rfl⟩
      rw [hg5] at hsw N5 ⊢
      clear hg5
      go_loopw [6] (fun i v => ∃ (k : Nat), k ≤ 8 ∧ i = .int .i64 (k : Int) ∧ Hid (Rowz v w1.heap.size (wC 8 S) 57) ∧ Hid (Rowz v w.heap.size (bC 32 []) 41) ∧ Hid (Rowz v g5 (bC 32 (bytesW (S.take k))) 41) ∧ Hid (Grown w v)) (fun i _ => 8 - (intOf i).toNat)
      case atStart => exact ⟨0, by omega, rfl, HF, R2, N5, G0⟩
      case round =>
        clear HF R2 G0 N5
        obtain ⟨k, hk8, rfl, HF, R2, R5, G0⟩ := hrel
        by_cases hk : k < 8
        · have hdk : decide ((k : Int) < 8) = true := by simp; omega
          have hck := HF.out.word k hk
          have hxl := getD_lt S HB8.out k
          have HTK : Hid (S.take (k + 1) = S.take k ++ [S.getD k 0]) := Lib.hid (by
            rw [List.take_succ_eq_append_getElem (by rw [HL8.out]; exact hk), List.getD_eq_getElem?_getD, List.getElem?_eq_getElem (by rw [HL8.out]; exact hk)]; rfl)
          have HBL : Hid ((bytesW (S.take k)).length = 4 * k) := Lib.hid (by rw [bytesW_length, List.length_take, HL8.out]; omega)
          obtain ⟨x, hx⟩ : ∃ x, x = S.getD k 0 := ⟨_, rfl⟩
          rw [← hx] at hck hxl HTK
          clear hx
          go_wp2_with fail
          refine (refPut_any x 4 _ (by omega) (by omega)).mono ?_
          rintro e v2 ⟨rfl, hg⟩
          obtain ⟨u, hu⟩ : ∃ u, u = beS 4 x := ⟨_, rfl⟩
          rw [← hu]
          have hus : u.size = 4 := by rw [hu, beS_size]
          have HU := Lib.hid hu
          clear hu
          replace HF := Lib.hid (HF.out.grown hg)
          replace R2 := Lib.hid (R2.out.grown hg)
          replace R5 := Lib.hid (R5.out.grown hg)
          replace G0 := Lib.hid (Grown.trans G0.out hg)
          clear hg hck
          go_wp2_with fail
          go_loopw [8] (fun i v => ∃ (q : Nat), q ≤ 4 ∧ i = .int .i64 (q : Int) ∧ Hid (Rowz v w1.heap.size (wC 8 S) 57) ∧ Hid (Rowz v w.heap.size (bC 32 []) 41) ∧ Hid (Rowz v g5 (bC 32 (bytesW (S.take k) ++ (be 4 x).take q)) 41) ∧ Hid (Grown w v)) (fun i _ => 4 - (intOf i).toNat)
          case atStart => exact ⟨0, by omega, rfl, HF, R2, by simpa using R5, G0⟩
          case round =>
            clear HF R2 R5 G0
            obtain ⟨q, hq4, rfl, HF, R2, R5, G0⟩ := hrel
            by_cases hq : q < 4
            · have hdq : decide ((q : Int) < 4) = true := by simp; omega
              have hcc := R5.out.byte (4 * k + q) (by omega)
              have hff := R5.out.free (4 * k + q)
              go_wp2
              go_roundw
              case rel =>
                have HTQ : (be 4 x).take (q + 1) = (be 4 x).take q ++ [u[q]] := by
                  rw [List.take_succ_eq_append_getElem (by rw [be_length]; exact hq)]
                  congr 2
                  have e : u.data = (be 4 x).toArray := by rw [HU.out]; rfl
                  show _ = u.data[q]'_
                  simp only [e, List.getElem_toArray]
                refine ⟨q + 1, by omega, by go_num, Lib.hid (HF.out.other _ _ (by simp; omega)), Lib.hid (R2.out.other _ _ (by simp; omega)), Lib.hid ?_, Lib.hid (G0.out.setCell (by simp; omega) _)⟩
                rw [HTQ, ← List.append_assoc]
                exact R5.out.pushB _ (by rw [List.length_append, HBL.out, List.length_take, be_length]; omega) _ _ rfl
              case measure => simp [intOf]; omega
            · have hdq : decide ((q : Int) < 4) = false := by simp; omega
              have R5' : Hid (Rowz wr g5 (bC 32 (bytesW (S.take (k + 1)))) 41) := by
                have e : q = 4 := by omega
                rw [HTK.out, bytesW_snoc]
                rw [e, List.take_of_length_le (l := be 4 x) (by rw [be_length]; exact Nat.le_refl _)] at R5
                exact R5
              go_wp2
              go_roundw
              case rel => exact ⟨k + 1, by omega, by go_num, HF, R2, R5', G0⟩
              case measure => simp [intOf]; omega
        · have hdk : decide ((k : Int) < 8) = false := by simp; omega
          have R5' : Hid (Rowz wr g5 (bC 32 (shaL b)) 41) := by
            have e : k = 8 := by omega
            rw [HSH.out]
            rw [e, List.take_of_length_le (by rw [HL8.out]; exact Nat.le_refl _)] at R5
            exact R5
          go_wp2_with (first
            | (refine wpList_load_row rfl 41 _ rfl g5 rfl 41 (bC 32 (shaL b)) (0, 0) _ R5'.out Tryd.underlying41 rfl (info32 _) ?_)
            | (refine wpList_store_row rfl 41 _ _ rfl w.heap.size (bC 32 (shaL b)) rfl rfl 41 (bC 32 []) R2.out (info32 _) (by simp [bC_size]) (bC_one _ _) ?_))
          refine bodyPost_ret (v := .agg (bC 32 (shaL b))) (results_cell_row Tryd.results32 _ _ w.heap.size 41 _ (0, 0) _ rfl R2.out.row Tryd.underlying41 rfl (info32 _)) rfl ⟨rfl, ?_⟩
          exact Grown.setRow G0.out R2.out (Nat.le_refl _) _
end Go.Proofs.YtecfgjoomckleaaDoor
