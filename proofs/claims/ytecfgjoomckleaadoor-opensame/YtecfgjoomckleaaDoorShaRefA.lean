/-
  Contracts of the reference of layer 2: turn, number, Spread. Conditions: the arguments fit their kinds.
-/
import Derived.Test.YtecfgjoomckleaaDoorWalkB
import Derived.Test.YtecfgjoomckleaaDoorShaMath
import Derived.StillTailTactics
import Derived.Outline
namespace Go.Proofs.YtecfgjoomckleaaDoor
set_option maxRecDepth 4000
open Go.RowKit

theorem turn_val' (x k : Nat) (hx : x < 4294967296) (h0 : 1 ≤ k) (hk : k < 32) : ((x : Int) / 2 ^ k + (x : Int) * 2 ^ (32 - k) % 4294967296) % 4294967296 = ((rotr x k : Nat) : Int) := by
  have h := turn_val x k hx h0 hk
  have hl := rotr_lt x k hx
  have h1 : ((x : Int) / 2 ^ k) = ((x / 2 ^ k : Nat) : Int) := by simp
  have h2 : ((x : Int) * 2 ^ (32 - k) % 4294967296) = ((x * 2 ^ (32 - k) % 4294967296 : Nat) : Int) := by simp
  rw [h1, h2]
  omega

set_option maxHeartbeats 400000 in
theorem turn_any (x k : Nat) (n : Int) (w : World) (hx : x < 4294967296) (hn : n = k) (h0 : 1 ≤ k) (hk : k < 32) :
    Calls Tryd.prog 53 #[.int .u32 x, .int .u64 n] w fun e w' => e = .returned (.int .u32 (rotr x k : Nat)) ∧ w = w' := by
  subst hn
  go_enter Tryd.func53, Tryd.ntmps53
  go_wp2
  go_ret
  exact ⟨ret_int (turn_val' x k hx h0 hk), rfl⟩

theorem turn_still (x : Nat) (n : Int) (w : World) (hx : x < 4294967296) (h0 : 1 ≤ n) (hk : n < 32) :
    Calls Tryd.prog 53 #[.int .u32 x, .int .u64 n] w fun e w'' => e = .returned (.int .u32 (rotr x n.toNat : Nat)) ∧ w'' = w :=
  (turn_any x n.toNat n w hx (by omega) (by omega) (by omega)).mono fun _ _ ⟨he, hw⟩ => ⟨he, hw.symm⟩

set_option maxHeartbeats 400000 in
theorem number_at (i : Nat) (w : World) (hi : i < 64) :
    Calls Tryd.prog 54 #[.int .i64 i] w fun e w' => e = .returned (.int .u32 (rks.getD i 0 : Nat)) ∧ Grown w w' := by
  go_enter Tryd.func54, Tryd.ntmps54
  go_wp2
  go_ret
  refine ⟨?_, by repeat (first | exact Grown.refl _ | apply Grown.drew | apply Grown.alloc)⟩
  show Ending.returned ((rks.map fun n : Nat => Value.int .u32 (n : Int))[i]'(by simpa [rks] using hi)) = _
  rw [List.getElem_map, List.getD_eq_getElem?_getD, List.getElem?_eq_getElem (by simpa [rks] using hi)]
  rfl

theorem spread_step (s : ByteArray) (k : Nat) (hk : k < 16) : wl s (k + 1) = wl s k ++ [tkz s ((4 * k : Nat) : Int) 4] := by
  simp [wl, wstep, hk]
theorem spread_step' (s : ByteArray) (k : Nat) (hk : 16 ≤ k) : wl s (k + 1) = wl s k ++ [nxt (wl s k)] := by
  simp only [wl, wstep]
  rw [if_neg (by omega)]

theorem xor32 (a b : Nat) (ha : a < 4294967296) (hb : b < 4294967296) : bits .xor .u32 (a : Int) (b : Int) = ((a ^^^ b : Nat) : Int) := u32_xor_nat a b ha hb
theorem nxt_val (x16 x15 x7 x2 : Nat) (b15 : x15 < 4294967296) (b2 : x2 < 4294967296) :
    ((x16 : Int) + bits .xor .u32 (bits .xor .u32 ((rotr x15 7 : Nat) : Int) ((rotr x15 18 : Nat) : Int)) ((x15 : Int) / 8) + (x7 : Int) +
      bits .xor .u32 (bits .xor .u32 ((rotr x2 17 : Nat) : Int) ((rotr x2 19 : Nat) : Int)) ((x2 : Int) / 1024)) % 4294967296 = (((x16 + sg0 x15 + x7 + sg1 x2) % 4294967296 : Nat) : Int) := by
  have e1 : ((x15 : Int) / 8) = ((x15 / 8 : Nat) : Int) := by omega
  have e2 : ((x2 : Int) / 1024) = ((x2 / 1024 : Nat) : Int) := by omega
  rw [e1, e2, xor32 _ _ (rotr_lt _ _ b15) (rotr_lt _ _ b15), xor32 _ _ (rotr_lt _ _ b2) (rotr_lt _ _ b2),
    xor32 _ _ (xor_lt _ _ (rotr_lt _ _ b15) (rotr_lt _ _ b15)) (by omega), xor32 _ _ (xor_lt _ _ (rotr_lt _ _ b2) (rotr_lt _ _ b2)) (by omega)]
  rw [show (rotr x15 7 ^^^ rotr x15 18 ^^^ (x15 / 8)) = sg0 x15 from rfl, show (rotr x2 17 ^^^ rotr x2 19 ^^^ (x2 / 1024)) = sg1 x2 from rfl]
  omega
theorem info64 (l : List Nat) : (Tryd.prog.info? 76).map (·.size) = some (wC 64 l).size := by rw [wC_size]; kernel_rfl

set_option maxHeartbeats 1000000 in
theorem refSpread_any (s : ByteArray) (w : World) (hs : s.size ≤ maxLen) :
    Calls Tryd.prog 52 #[.string s] w fun e w' => e = .returned (.agg (wC 64 (spread s))) ∧ Grown w w' := by
  go_enter Tryd.func52, Tryd.ntmps52
  go_wp2
  go_loopw [4] (fun i wr => ∃ (k : Nat), k ≤ 16 ∧ i = .int .i64 k ∧ Hid (Rowz wr (w.heap.size + 1) (wC 64 (wl s k)) 76) ∧ Hid (Rowz wr w.heap.size (wC 64 []) 76) ∧ Hid (Grown w wr)) (fun i _ => 16 - (intOf i).toNat)
  case atStart => exact ⟨0, by omega, rfl, Lib.hid (Rowz.newEq1 w _ _ _ _ (by kernel_rfl)), Lib.hid ((Rowz.newEq w _ _ _ (by kernel_rfl)).alloc _), Lib.hid (((Grown.refl _).alloc _ _).alloc _ _)⟩
  case round =>
    obtain ⟨k, hk, rfl, HR, HZ, HG⟩ := hrel
    by_cases hlt : k < 16
    · have hcell : wr.cell? ⟨w.heap.size + 1, k, none⟩ = some (.int .u32 (((wl s k).getD k 0 : Nat) : Int)) := by
        rw [HR.out.cell, wC_get 64 _ k (by omega)]
      have hfr : wr.frozen? ⟨w.heap.size + 1, k, none⟩ = false := HR.out.free k
      have h4 : tkz s ((4 * k : Nat) : Int) 4 < 4294967296 := tkz_lt s _ 4
      go_wp2_with (go_at_call 63; refine (refTake_any s ((4 * k : Nat) : Int) 4 _ hs (by omega) (by omega) (by omega)).mono ?_; rintro e w' ⟨rfl, rfl⟩)
      go_roundw
      case rel =>
        have e4 : (4 * (k : Int)) = ((4 * k : Nat) : Int) := by omega
        rw [e4]
        refine ⟨k + 1, by omega, by go_num, Lib.hid ?_, Lib.hid (HZ.out.other _ _ (by simp)), Lib.hid (HG.out.setCell (by simp) _)⟩
        rw [spread_step s k hlt]
        exact HR.out.push k (wl_length s k) _ _ (by omega)
      case measure => simp [intOf]; omega
    · have HR16 : Hid (Rowz wr (w.heap.size + 1) (wC 64 (wl s 16)) 76) := by rw [show (16 : Nat) = k by omega]; exact HR
      clear HR
      have hd : decide ((k : Int) < 16) = false := by simp; omega
      go_wp2_with fail
      go_loopw [5] (fun i wr => ∃ (k : Nat), 16 ≤ k ∧ k ≤ 64 ∧ i = .int .i64 k ∧ Hid (Rowz wr (w.heap.size + 1) (wC 64 (wl s k)) 76) ∧ Hid (Rowz wr w.heap.size (wC 64 []) 76) ∧ Hid (Grown w wr)) (fun i _ => 64 - (intOf i).toNat)
      case atStart => exact ⟨16, by omega, by omega, rfl, HR16, HZ, HG⟩
      case round =>
        clear HR16 HZ HG
        obtain ⟨k, hk16, hk64, rfl, HR, HZ, HG⟩ := hrel
        by_cases hlt : k < 64
        · have hc15 := HR.out.word (k - 15) (by omega)
          have hc2 := HR.out.word (k - 2) (by omega)
          have hc16 := HR.out.word (k - 16) (by omega)
          have hc7 := HR.out.word (k - 7) (by omega)
          have hcell := HR.out.word k (by omega)
          have hfr := HR.out.free k
          have hall := wl_lt s k
          have b15 := getD_lt _ hall (k - 15)
          have b2 := getD_lt _ hall (k - 2)
          have b16 := getD_lt _ hall (k - 16)
          have b7 := getD_lt _ hall (k - 7)
          obtain ⟨x15, e15⟩ : ∃ x, x = (wl s k).getD (k - 15) 0 := ⟨_, rfl⟩
          obtain ⟨x2, e2⟩ : ∃ x, x = (wl s k).getD (k - 2) 0 := ⟨_, rfl⟩
          obtain ⟨x16, e16⟩ : ∃ x, x = (wl s k).getD (k - 16) 0 := ⟨_, rfl⟩
          obtain ⟨x7, e7⟩ : ∃ x, x = (wl s k).getD (k - 7) 0 := ⟨_, rfl⟩
          rw [← e15] at hc15 b15
          rw [← e2] at hc2 b2
          rw [← e16] at hc16 b16
          rw [← e7] at hc7 b7
          have HN : Hid (nxt (wl s k) = (x16 + sg0 x15 + x7 + sg1 x2) % 4294967296) := Lib.hid (by
            unfold nxt; rw [wl_length, ← e15, ← e2, ← e16, ← e7])
          clear e15 e2 e16 e7 hall
          have hd : decide ((k : Int) < 64) = true := by simp; omega
          go_wp2_with fail
          refine wp_region_still_tail 29 (by kernel_rfl) (by kernel_rfl) ?_
          simp only [List.take_succ_cons, List.take_zero, List.drop_succ_cons, List.drop_zero]
          change wpStill _ _ wr.drew (fun a' => wpList _ _ _ _ a' wr.drew) _ _
          replace HR : Hid (Rowz wr.drew (w.heap.size + 1) (wC 64 (wl s k)) 76) := HR
          replace HZ : Hid (Rowz wr.drew w.heap.size (wC 64 []) 76) := HZ
          replace HG : Hid (Grown w wr.drew) := HG
          replace hc16 : wr.drew.cell? ⟨w.heap.size + 1, k - 16, none⟩ = some (.int .u32 (x16 : Int)) := hc16
          replace hc7 : wr.drew.cell? ⟨w.heap.size + 1, k - 7, none⟩ = some (.int .u32 (x7 : Int)) := hc7
          replace hcell : wr.drew.cell? ⟨w.heap.size + 1, k, none⟩ = some (.int .u32 (((wl s k).getD k 0 : Nat) : Int)) := hcell
          replace hfr : wr.drew.frozen? ⟨w.heap.size + 1, k, none⟩ = false := hfr
          clear hc15 hc2
          generalize wr.drew = w2 at HR HZ HG hc16 hc7 hcell hfr ⊢
          have hw16 : IntKind.i64.wrap ((k : Int) - 16) = ((k - 16 : Nat) : Int) := by rw [IntWalk.i64_in _ (by omega)]; omega
          have hw7 : IntKind.i64.wrap ((k : Int) - 7) = ((k - 7 : Nat) : Int) := by rw [IntWalk.i64_in _ (by omega)]; omega
          have hb16 : ((k - 16 : Nat) : Int) < 64 := by omega
          have hb7 : ((k - 7 : Nat) : Int) < 64 := by omega
          have hbk : (k : Int) < 64 := by omega
          repeat (first
            | still_step
            | (refine wpStill_step (fun K hK => ?_); go_simp; refine ⟨_, turn_still _ _ _ (by assumption) (by decide) (by decide), hK _ ?_⟩; clear hK K))
          refine wpStill_nil ?_
          clear hw16 hw7
          go_wp2_with fail
          go_roundw
          case rel =>
            refine ⟨k + 1, by omega, by omega, by go_num, Lib.hid ?_, Lib.hid (HZ.out.other _ _ (by simp)), Lib.hid (HG.out.setCell (by simp) _)⟩
            rw [spread_step' s k hk16, HN.out]
            exact HR.out.push k (wl_length s k) _ _ (nxt_val x16 x15 x7 x2 b15 b2)
          case measure => simp [intOf]; omega
        · have e64 : k = 64 := by omega
          rw [e64] at HR
          have hd : decide ((k : Int) < 64) = false := by simp; omega
          go_wp2_with (first
            | (refine wpList_load_row rfl 76 _ rfl (w.heap.size + 1) rfl 76 (wC 64 (wl s 64)) (0, 0) _ HR.out Tryd.underlying76 rfl (info64 _) ?_)
            | (refine wpList_store_row rfl 76 _ _ rfl w.heap.size (wC 64 (wl s 64)) rfl rfl 76 (wC 64 []) HZ.out (info64 _) (by simp [wC_size]) (wC_one _ _) ?_))
          refine bodyPost_ret (v := .agg (wC 64 (wl s 64))) (results_cell_row Tryd.results52 _ _ w.heap.size 76 _ (0, 0) _ rfl HZ.out.row Tryd.underlying76 rfl (info64 _)) rfl ⟨rfl, ?_⟩
          exact Grown.setRow HG.out HZ.out (Nat.le_refl _) _
end Go.Proofs.YtecfgjoomckleaaDoor
