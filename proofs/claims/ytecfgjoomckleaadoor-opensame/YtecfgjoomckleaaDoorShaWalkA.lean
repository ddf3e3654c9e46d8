/-
  Contracts of package sha: First, Spread. Conditions: the arguments fit their kinds.
-/
import Derived.Test.YtecfgjoomckleaaDoorShaRefC
namespace Go.Proofs.YtecfgjoomckleaaDoor
set_option maxRecDepth 4000
open Go.RowKit

theorem rot_still (x : Nat) (n : Int) (w : World) (hx : x < 4294967296) (h0 : 0 ≤ n) (hk : n < 32) :
    Calls Tryd.prog 64 #[.int .u32 x, .int .i64 n] w fun e w'' => e = .returned (.int .u32 (rotr x n.toNat : Nat)) ∧ w'' = w := by
  refine (rot_any x n w hx).mono fun _ _ ⟨he, hw⟩ => ⟨?_, hw.symm⟩
  rw [he, show n % 32 = n by omega]

theorem info8W (l : List Nat) : (Tryd.prog.info? 65).map (·.size) = some (wC 8 l).size := by rw [wC_size]; kernel_rfl

set_option maxHeartbeats 400000 in
theorem shaFirst_any (w : World) :
    Calls Tryd.prog 55 #[] w fun e w' => e = .returned (.agg (wC 8 first8)) ∧ Grown w w' := by
  go_enter Tryd.func55, Tryd.ntmps55
  go_wp2
  exact bodyPost_ret (v := .agg (wC 8 first8)) (results_cell_row Tryd.results55 _ _ w.heap.size 65 (wC 8 first8) (0, 0) _ rfl (Rowz.newEq w _ _ _ (by kernel_rfl)) Tryd.underlying65 rfl (info8W _)) rfl ⟨rfl, (Grown.refl _).alloc _ _⟩

theorem nxt_valS (x16 x15 x7 x2 : Nat) (b15 : x15 < 4294967296) (b2 : x2 < 4294967296) :
    ((x16 : Int) + (x7 : Int) + bits .xor .u32 (bits .xor .u32 ((rotr x15 7 : Nat) : Int) ((rotr x15 18 : Nat) : Int)) ((x15 : Int) / 8) +
      bits .xor .u32 (bits .xor .u32 ((rotr x2 17 : Nat) : Int) ((rotr x2 19 : Nat) : Int)) ((x2 : Int) / 1024)) % 4294967296 = (((x16 + sg0 x15 + x7 + sg1 x2) % 4294967296 : Nat) : Int) := by
  rw [← nxt_val x16 x15 x7 x2 b15 b2]
  congr 1
  omega

set_option maxHeartbeats 1000000 in
theorem shaSpread_any (s : ByteArray) (w : World) (hs : s.size ≤ maxLen) :
    Calls Tryd.prog 57 #[.string s] w fun e w' => e = .returned (.agg (wC 64 (spread s))) ∧ Grown w w' := by
  go_enter Tryd.func57, Tryd.ntmps57
  go_wp2
  go_loopw [8] (fun i wr => ∃ (k : Nat), k ≤ 16 ∧ i = .int .i64 k ∧ Hid (Rowz wr (w.heap.size + 1) (wC 64 (wl s k)) 76) ∧ Hid (Rowz wr w.heap.size (wC 64 []) 76) ∧ Hid (Grown w wr)) (fun i _ => 16 - (intOf i).toNat)
  case atStart => exact ⟨0, by omega, rfl, Lib.hid (Rowz.newEq1 w _ _ _ _ (by kernel_rfl)), Lib.hid ((Rowz.newEq w _ _ _ (by kernel_rfl)).alloc _), Lib.hid (((Grown.refl _).alloc _ _).alloc _ _)⟩
  case round =>
    obtain ⟨k, hk, rfl, HR, HZ, HG⟩ := hrel
    by_cases hlt : k < 16
    · have hcell : wr.cell? ⟨w.heap.size + 1, k, none⟩ = some (.int .u32 (((wl s k).getD k 0 : Nat) : Int)) := by
        rw [HR.out.cell, wC_get 64 _ k (by omega)]
      have hfr : wr.frozen? ⟨w.heap.size + 1, k, none⟩ = false := HR.out.free k
      have h4 : tkz s ((4 * k : Nat) : Int) 4 < 4294967296 := tkz_lt s _ 4
      go_wp2_with (go_at_call 65; refine (take32_any s ((4 * k : Nat) : Int) _ hs (by omega) (by omega)).mono ?_; rintro e w' ⟨rfl, rfl⟩)
      go_roundw
      case rel =>
        have e4 : (4 * (k : Int)) = ((4 * k : Nat) : Int) := by omega
        rw [e4]
        refine ⟨k + 1, by omega, by go_num, Lib.hid ?_, Lib.hid (HZ.out.other _ _ (by simp)), Lib.hid (HG.out.setCell (by simp) _)⟩
        rw [spread_step s k hlt]
        exact HR.out.push k (wl_length s k) _ _ (by omega)
      case measure => simp [intOf]; omega
    · have HR16 : Hid (Rowz wr (w.heap.size + 1) (wC 64 (wl s 16)) 76) := by rw [show (16 : Nat) = k by omega]; exact HR
      clear HR
      have hd : decide ((k : Int) < 16) = false := by simp; omega
      go_wp2_with fail
      go_loopw [5] (fun i wr => ∃ (k : Nat), 16 ≤ k ∧ k ≤ 64 ∧ i = .int .i64 k ∧ Hid (Rowz wr (w.heap.size + 1) (wC 64 (wl s k)) 76) ∧ Hid (Rowz wr w.heap.size (wC 64 []) 76) ∧ Hid (Grown w wr)) (fun i _ => 64 - (intOf i).toNat)
      case atStart => exact ⟨16, by omega, by omega, rfl, HR16, HZ, HG⟩
      case round =>
        clear HR16 HZ HG
        obtain ⟨k, hk16, hk64, rfl, HR, HZ, HG⟩ := hrel
        by_cases hlt : k < 64
        · have hc15 := HR.out.word (k - 15) (by omega)
          have hc2 := HR.out.word (k - 2) (by omega)
          have hc16 := HR.out.word (k - 16) (by omega)
          have hc7 := HR.out.word (k - 7) (by omega)
          have hcell := HR.out.word k (by omega)
          have hfr := HR.out.free k
          have hall := wl_lt s k
          have b15 := getD_lt _ hall (k - 15)
          have b2 := getD_lt _ hall (k - 2)
          have b16 := getD_lt _ hall (k - 16)
          have b7 := getD_lt _ hall (k - 7)
          obtain ⟨x15, e15⟩ : ∃ x, x = (wl s k).getD (k - 15) 0 := ⟨_, rfl⟩
          obtain ⟨x2, e2⟩ : ∃ x, x = (wl s k).getD (k - 2) 0 := ⟨_, rfl⟩
          obtain ⟨x16, e16⟩ : ∃ x, x = (wl s k).getD (k - 16) 0 := ⟨_, rfl⟩
          obtain ⟨x7, e7⟩ : ∃ x, x = (wl s k).getD (k - 7) 0 := ⟨_, rfl⟩
          rw [← e15] at hc15 b15
          rw [← e2] at hc2 b2
          rw [← e16] at hc16 b16
          rw [← e7] at hc7 b7
          have HN : Hid (nxt (wl s k) = (x16 + sg0 x15 + x7 + sg1 x2) % 4294967296) := Lib.hid (by
            unfold nxt; rw [wl_length, ← e15, ← e2, ← e16, ← e7])
          clear e15 e2 e16 e7 hall
          have hd : decide ((k : Int) < 64) = true := by simp; omega
          go_wp2_with fail
          go_quiet (fail)
          replace HR : Hid (Rowz (wr.drewN nq) (w.heap.size + 1) (wC 64 (wl s k)) 76) := HR
          replace HZ : Hid (Rowz (wr.drewN nq) w.heap.size (wC 64 []) 76) := HZ
          replace HG : Hid (Grown w (wr.drewN nq)) := HG
          replace hc16 : (wr.drewN nq).cell? ⟨w.heap.size + 1, k - 16, none⟩ = some (.int .u32 (x16 : Int)) := hc16
          replace hc7 : (wr.drewN nq).cell? ⟨w.heap.size + 1, k - 7, none⟩ = some (.int .u32 (x7 : Int)) := hc7
          replace hcell : (wr.drewN nq).cell? ⟨w.heap.size + 1, k, none⟩ = some (.int .u32 (((wl s k).getD k 0 : Nat) : Int)) := hcell
          replace hfr : (wr.drewN nq).frozen? ⟨w.heap.size + 1, k, none⟩ = false := hfr
          clear hc15 hc2
          generalize wr.drewN nq = w3 at HR HZ HG hc16 hc7 hcell hfr ⊢
          go_wp2_with fail
          refine wp_region_still_tail 29 (by kernel_rfl) (by kernel_rfl) ?_
          simp only [List.take_succ_cons, List.take_zero, List.drop_succ_cons, List.drop_zero]
          change wpStill _ _ w3.drew (fun a' => wpList _ _ _ _ a' w3.drew) _ _
          replace HR : Hid (Rowz w3.drew (w.heap.size + 1) (wC 64 (wl s k)) 76) := HR
          replace HZ : Hid (Rowz w3.drew w.heap.size (wC 64 []) 76) := HZ
          replace HG : Hid (Grown w w3.drew) := HG
          replace hc16 : w3.drew.cell? ⟨w.heap.size + 1, k - 16, none⟩ = some (.int .u32 (x16 : Int)) := hc16
          replace hc7 : w3.drew.cell? ⟨w.heap.size + 1, k - 7, none⟩ = some (.int .u32 (x7 : Int)) := hc7
          replace hcell : w3.drew.cell? ⟨w.heap.size + 1, k, none⟩ = some (.int .u32 (((wl s k).getD k 0 : Nat) : Int)) := hcell
          replace hfr : w3.drew.frozen? ⟨w.heap.size + 1, k, none⟩ = false := hfr
          generalize w3.drew = w2 at HR HZ HG hc16 hc7 hcell hfr ⊢
          have hw16 : IntKind.i64.wrap ((k : Int) - 16) = ((k - 16 : Nat) : Int) := by rw [IntWalk.i64_in _ (by omega)]; omega
          have hw7 : IntKind.i64.wrap ((k : Int) - 7) = ((k - 7 : Nat) : Int) := by rw [IntWalk.i64_in _ (by omega)]; omega
          have hb16 : ((k - 16 : Nat) : Int) < 64 := by omega
          have hb7 : ((k - 7 : Nat) : Int) < 64 := by omega
          have hbk : (k : Int) < 64 := by omega
          repeat (first
            | still_step
            | (refine wpStill_step (fun K hK => ?_); go_simp; refine ⟨_, rot_still _ _ _ (by assumption) (by decide) (by decide), hK _ ?_⟩; clear hK K))
          refine wpStill_nil ?_
          clear hw16 hw7
          go_wp2_with fail
          go_roundw
          case rel =>
            refine ⟨k + 1, by omega, by omega, by go_num, Lib.hid ?_, Lib.hid (HZ.out.other _ _ (by simp)), Lib.hid (HG.out.setCell (by simp) _)⟩
            rw [spread_step' s k hk16, HN.out]
            exact HR.out.push k (wl_length s k) _ _ (nxt_valS x16 x15 x7 x2 b15 b2)
          case measure => simp [intOf]; omega
        · have e64 : k = 64 := by omega
          rw [e64] at HR
          have hd : decide ((k : Int) < 64) = false := by simp; omega
          go_wp2_with (first
            | (refine wpList_load_row rfl 76 _ rfl (w.heap.size + 1) rfl 76 (wC 64 (wl s 64)) (0, 0) _ HR.out Tryd.underlying76 rfl (info64 _) ?_)
            | (refine wpList_store_row rfl 76 _ _ rfl w.heap.size (wC 64 (wl s 64)) rfl rfl 76 (wC 64 []) HZ.out (info64 _) (by simp [wC_size]) (wC_one _ _) ?_))
          refine bodyPost_ret (v := .agg (wC 64 (wl s 64))) (results_cell_row Tryd.results57 _ _ w.heap.size 76 _ (0, 0) _ rfl HZ.out.row Tryd.underlying76 rfl (info64 _)) rfl ⟨rfl, ?_⟩
          exact Grown.setRow HG.out HZ.out (Nat.le_refl _) _
end Go.Proofs.YtecfgjoomckleaaDoor
