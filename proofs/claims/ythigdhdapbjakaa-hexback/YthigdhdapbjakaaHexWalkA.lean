/-
  Contracts of hex: value, Text. Conditions: a string has at most a million bytes.
-/
import Derived.Test.YthigdhdapbjakaaHexLib
import Derived.Lib.OthersKept
import Derived.Laws.RangeAny
namespace Go.Proofs.Ythigdhdapbjakaa
open Go.RowKit

def digs : ByteArray := ⟨#[48, 49, 50, 51, 52, 53, 54, 55, 56, 57, 97, 98, 99, 100, 101, 102]⟩
theorem digs_size : digs.size = 16 := rfl
theorem digs_get (k : Nat) (h : k < digs.size) : (digs[k]'h).toNat = fig k := by
  have h2 : ∀ k : Fin 16, (digs[k.1]'k.2).toNat = fig k.1 := by decide +kernel
  exact h2 ⟨k, h⟩
def valB (r : Nat) : Bool := decide (valN r < 16)
def valX (r : Nat) : Nat := if valN r < 16 then valN r else 0
theorem valX_lt (r : Nat) : valX r < 16 := by unfold valX; split <;> omega
theorem ret_val {r x : Nat} {b : Bool} (hx : valX r = x) (hb : valB r = b) : Ending.returned (.tuple #[.int .u8 (x : Int), .bool b]) = .returned (.tuple #[.int .u8 (valX r : Int), .bool (valB r)]) := by rw [hx, hb]

set_option maxRecDepth 100000 in
theorem hexValue_any (r : Nat) (w : World) :
    Calls Try.prog 14 #[.int .i32 (r : Int)] w fun e w' => e = .returned (.tuple #[.int .u8 (valX r : Int), .bool (valB r)]) ∧ Kept w w' := by
  go_enter Try.func14, Try.ntmps14
  go_wp2
  go_loopw [] (fun wr => ∃ k : Nat, k ≤ 16 ∧ wr = w.iter digs k ∧ Hid (∀ j, j < k → fig j ≠ r)) (fun wr => 16 - wr.iterPos w.heap.size)
  case atStart => exact ⟨0, by omega, rfl, Lib.hid fun j hj => by omega⟩
  case round =>
    obtain ⟨k, hk, rfl, HN⟩ := hrel
    by_cases hlt : k < 16
    · obtain ⟨c, hc⟩ : ∃ c, c = fig k := ⟨_, rfl⟩
      have hcl : c < 103 := by rw [hc]; exact fig_lt k hlt
      have hg : (digs[k]'hlt).toNat = c := by rw [hc]; exact digs_get k hlt
      have hnx : ∀ ty, (Instr.next (.pointer (some ⟨w.heap.size, 0, none⟩)) true ty).run Try.prog (w.iter digs k) = .ok (.tuple #[.bool true, .int .i64 (k : Int), .int .i32 (c : Int)]) (w.iter digs (k + 1)) := fun ty => by
        have h := run_next_ascii (P := Try.prog) w digs k ty hlt (by rw [hg]; omega)
        rw [hg] at h
        exact h
      have HC := Lib.hid hc
      clear hg hc
      by_cases he : c = r
      · have hd : ((c : Int) == (r : Int)) = true := by simp; omega
        have hw : IntKind.u8.wrap (k : Int) = (k : Int) := by rw [IntKind.wrap_u8]; omega
        have hv : valN r = k := by rw [← he, HC.out]; exact val_fig k hlt
        have HV := Lib.hid hv
        clear hv he
        go_wp2
        refine bodyPost_ret (results_tmp2 Try.results14 _ _ _) rfl ⟨ret_val ?_ ?_, (Kept.refl w).alloc _⟩
        · rw [valX, HV.out, if_pos hlt]
        · rw [valB, HV.out, decide_eq_true hlt]
      · have hd : ((c : Int) == (r : Int)) = false := by simp; omega
        have HE := Lib.hid he
        clear he
        go_wp2
        go_roundw
        case rel =>
          refine ⟨k + 1, by omega, rfl, Lib.hid fun j hj => ?_⟩
          rcases Nat.lt_or_ge j k with h | h
          · exact HN.out j h
          · rw [show j = k by omega, ← HC.out]; exact HE.out
        case measure => simp; omega
    · obtain rfl : k = 16 := by omega
      have hnx : ∀ ty, (Instr.next (.pointer (some ⟨w.heap.size, 0, none⟩)) true ty).run Try.prog (w.iter digs 16) = .ok (.tuple #[.bool false]) (w.iter digs 16) := fun ty => run_next_end w digs 16 ty (by rw [digs_size]; omega)
      have HV := Lib.hid (val_none r HN.out)
      go_wp2
      refine bodyPost_ret (results_tmp2 Try.results14 _ _ _) rfl ⟨ret_val ?_ ?_, (Kept.refl w).alloc _⟩
      · rw [valX, if_neg HV.out]
      · rw [valB, decide_eq_false HV.out]
set_option maxRecDepth 100000 in
set_option maxHeartbeats 1000000 in
theorem hexText_any (s : ByteArray) (w : World) (hs : s.size ≤ 1000000) :
    Calls Try.prog 6 #[.string s] w fun e w' => e = .returned (.string (hexS s)) ∧ Kept w w' := by
  by_cases h0 : s.size = 0
  · obtain rfl := size0 h0
    have he := isE_yes
    go_enter Try.func6, Try.ntmps6
    go_wp2
    go_ret
    exact ⟨rfl, Kept.refl w⟩
  · have he := isE_no h0
    have hmk : ∀ w, (Instr.makeSlice 32 (.int .i64 0) (.int .i64 (2 * (s.size : Int)))).run Try.prog w = .ok (.slice (some ⟨w.heap.size, 0, none⟩) 0 (2 * s.size)) (w.alloc (.cells (bC (2 * s.size) []) 5)) := fun w => run_makeLC 0 (2 * s.size) w (by omega) (by omega)
    have HX := Lib.hid (hexS_some h0)
    go_enter Try.func6, Try.ntmps6
    go_wp2
    clear hmk he
    have F0 : Hid ((w.alloc (.cells (bC (2 * s.size) []) 5)).ownsRow w.heap.size 5 1 (.slice (some ⟨w.heap.size, 0, none⟩) 0 (2 * s.size)) 0 (bvL [])) :=
      Lib.hid (World.ownsRow_made w (bC (2 * s.size) []) (2 * s.size) (Nat.le_refl _) (by unfold maxLen; omega) (by rw [bC_size]; omega))
    have F1 := Lib.hid ((Kept.refl w).alloc (.cells (bC (2 * s.size) []) 5))
    generalize w.alloc (.cells (bC (2 * s.size) []) 5) = v0 at F0 F1 ⊢
    generalize Value.slice (some ⟨w.heap.size, 0, none⟩) 0 (2 * s.size) = V0 at F0 ⊢
    go_loopw [3, 13] (fun v i wr => ∃ k : Nat, k ≤ s.size ∧ i = .int .i64 (k : Int) ∧ Hid (wr.ownsRow w.heap.size 5 1 v (2 * k) (bvL (hexTo (sl s) (2 * k)))) ∧ Hid (Kept w wr)) (fun _ i _ => s.size - (intOf i).toNat)
    case atStart => exact ⟨0, by omega, rfl, F0, F1⟩
    case round =>
      clear F0 F1
      obtain ⟨k, hk, rfl, HO, HK⟩ := hrel
      by_cases hlt : k < s.size
      · have hd : decide ((k : Int) < (s.size : Int)) = true := decide_eq_true (by omega)
        have hd' : decide (k < s.size) = true := decide_eq_true hlt
        obtain ⟨c, hc⟩ : ∃ c, c = byteL (sl s) k := ⟨_, rfl⟩
        have hcl : c < 256 := by rw [hc]; exact byteL_lt _ _
        have hcs : (s[k]).toNat = c := by rw [hc]; exact sl_get s k hlt
        have HC := Lib.hid hc
        clear hc
        go_wp2
        refine wp_region_tail 12 [(16, .is (u3)), (17, .is (.string s)), (18, .is (.int .i64 (k : Int))), (19, .is (.int .u8 (c : Int))), (20, .is (.int .u8 ((c / 16 : Nat) : Int))), (21, .is (.int .u8 ((fig (c / 16) : Nat) : Int))), (22, .is (.string s)), (23, .is (.int .i64 (k : Int))), (24, .is (.int .u8 (c : Int))), (25, .is (.int .u8 ((c % 16 : Nat) : Int))), (26, .is (.int .u8 ((fig (c % 16) : Nat) : Int))), (27, .row (sliceAt0 2) #[.int .u8 ((fig (c / 16) : Nat) : Int), .int .u8 ((fig (c % 16) : Nat) : Int)] 5)] (by kernel_rfl) (by kernel_rfl) ?_ ?_
        · refine ⟨fun t w1 hf hk hp => ?_, ?_⟩
          · have h3 : slot t 3 = u3 := hf 3 (by kernel_rfl)
            clear hf hp
            refine stepM_at (by kernel_rfl) ?_
            refine stepAt_plain rfl ?_
            exact stepOK_move _ (.inl rfl) h3
          refine ⟨fun t w1 hf hk hp => ?_, ?_⟩
          · have h0 : slot t 0 = .string s := hf 0 (by kernel_rfl)
            clear hf hp
            refine stepM_at (by kernel_rfl) ?_
            refine stepAt_plain rfl ?_
            exact stepOK_move _ (.inl rfl) h0
          refine ⟨fun t w1 hf hk hp => ?_, ?_⟩
          · have h4 : slot t 4 = .int .i64 (k : Int) := hf 4 (by kernel_rfl)
            clear hf hp
            refine stepM_at (by kernel_rfl) ?_
            refine stepAt_plain rfl ?_
            exact stepOK_move _ (.inl rfl) h4
          refine ⟨fun t w1 hf hk hp => ?_, ?_⟩
          · have h17 : slot t 17 = .string s := hp 17 (by kernel_rfl)
            have h18 : slot t 18 = .int .i64 (k : Int) := hp 18 (by kernel_rfl)
            clear hf hp
            refine stepM_at (by kernel_rfl) ?_
            refine stepAt_plain rfl ?_
            exact stepOK_pure (.int .u8 (c : Int)) (execIdxS s k c .i64 w1 rfl h17 h18 hlt hcs) rfl
          refine ⟨fun t w1 hf hk hp => ?_, ?_⟩
          · have h19 : slot t 19 = .int .u8 (c : Int) := hp 19 (by kernel_rfl)
            clear hf hp
            refine stepM_at (by kernel_rfl) ?_
            refine stepAt_plain rfl ?_
            exact stepOK_pure (.int .u8 ((c / 16 : Nat) : Int)) (execShr4 c w1 rfl h19 rfl) rfl
          refine ⟨fun t w1 hf hk hp => ?_, ?_⟩
          · have h20 : slot t 20 = .int .u8 ((c / 16 : Nat) : Int) := hp 20 (by kernel_rfl)
            clear hf hp
            refine stepM_at (by kernel_rfl) ?_
            refine stepAt_plain rfl ?_
            exact stepOK_pure (.int .u8 ((fig (c / 16) : Nat) : Int)) (execIdxS digs (c / 16) (fig (c / 16)) .u8 w1 rfl rfl h20 (by rw [digs_size]; omega) (digs_get _ _)) rfl
          refine ⟨fun t w1 hf hk hp => ?_, ?_⟩
          · have h0 : slot t 0 = .string s := hf 0 (by kernel_rfl)
            clear hf hp
            refine stepM_at (by kernel_rfl) ?_
            refine stepAt_plain rfl ?_
            exact stepOK_move _ (.inl rfl) h0
          refine ⟨fun t w1 hf hk hp => ?_, ?_⟩
          · have h4 : slot t 4 = .int .i64 (k : Int) := hf 4 (by kernel_rfl)
            clear hf hp
            refine stepM_at (by kernel_rfl) ?_
            refine stepAt_plain rfl ?_
            exact stepOK_move _ (.inl rfl) h4
          refine ⟨fun t w1 hf hk hp => ?_, ?_⟩
          · have h22 : slot t 22 = .string s := hp 22 (by kernel_rfl)
            have h23 : slot t 23 = .int .i64 (k : Int) := hp 23 (by kernel_rfl)
            clear hf hp
            refine stepM_at (by kernel_rfl) ?_
            refine stepAt_plain rfl ?_
            exact stepOK_pure (.int .u8 (c : Int)) (execIdxS s k c .i64 w1 rfl h22 h23 hlt hcs) rfl
          refine ⟨fun t w1 hf hk hp => ?_, ?_⟩
          · have h24 : slot t 24 = .int .u8 (c : Int) := hp 24 (by kernel_rfl)
            clear hf hp
            refine stepM_at (by kernel_rfl) ?_
            refine stepAt_plain rfl ?_
            exact stepOK_pure (.int .u8 ((c % 16 : Nat) : Int)) (execAnd15 c w1 rfl h24 rfl hcl) rfl
          refine ⟨fun t w1 hf hk hp => ?_, ?_⟩
          · have h25 : slot t 25 = .int .u8 ((c % 16 : Nat) : Int) := hp 25 (by kernel_rfl)
            clear hf hp
            refine stepM_at (by kernel_rfl) ?_
            refine stepAt_plain rfl ?_
            exact stepOK_pure (.int .u8 ((fig (c % 16) : Nat) : Int)) (execIdxS digs (c % 16) (fig (c % 16)) .u8 w1 rfl rfl h25 (by rw [digs_size]; omega) (digs_get _ _)) rfl
          refine ⟨fun t w1 hf hk hp => ?_, ?_⟩
          · have h21 : slot t 21 = .int .u8 ((fig (c / 16) : Nat) : Int) := hp 21 (by kernel_rfl)
            have h26 : slot t 26 = .int .u8 ((fig (c % 16) : Nat) : Int) := hp 26 (by kernel_rfl)
            clear hf hp
            refine stepM_at (by kernel_rfl) ?_
            refine stepAt_plain rfl ?_
            have hq0 := run_build2b ((fig (c / 16) : Nat) : Int) ((fig (c % 16) : Nat) : Int) w1
            refine .value ((sliceAt0 2) w1.heap.size) (w1.alloc (.cells #[.int .u8 ((fig (c / 16) : Nat) : Int), .int .u8 ((fig (c % 16) : Nat) : Int)] 5)) ?_ ((Kept.refl w1).alloc _) ⟨_, rfl, Rowz.new w1 _ _⟩
            simp only [execOp, evS, List.map_toArray, List.map_cons, List.map_nil, h21, h26, sliceAt0]
            go_simp
          exact trivial
        · intro t w1 hsz hf hk hfacts
          have h16 : slot t 16 = u3 := hfacts 0 _ (by decide) rfl 16 rfl
          obtain ⟨g27, h27, r27⟩ : ∃ g, slot t 27 = (sliceAt0 2) g ∧ Rowz w1 g #[.int .u8 ((fig (c / 16) : Nat) : Int), .int .u8 ((fig (c % 16) : Nat) : Int)] 5 := hfacts 11 _ (by decide) rfl 27 rfl
          simp only [sliceAt0] at h27
          have h0 : slot t 0 = .string s := hf 0 (by kernel_rfl)
          have h3 : slot t 3 = u3 := hf 3 (by kernel_rfl)
          have h4 : slot t 4 = .int .i64 (k : Int) := hf 4 (by kernel_rfl)
          have h1 := hf 1 (by kernel_rfl)
          conv at h1 => rhs; whnf
          try change slot t 1 = undef at h1
          have h2 := hf 2 (by kernel_rfl)
          conv at h2 => rhs; whnf
          try change slot t 2 = undef at h2
          have h5 := hf 5 (by kernel_rfl)
          conv at h5 => rhs; whnf
          try change slot t 5 = undef at h5
          have h6 := hf 6 (by kernel_rfl)
          conv at h6 => rhs; whnf
          try change slot t 6 = undef at h6
          have h7 := hf 7 (by kernel_rfl)
          conv at h7 => rhs; whnf
          try change slot t 7 = undef at h7
          have h8 := hf 8 (by kernel_rfl)
          conv at h8 => rhs; whnf
          try change slot t 8 = undef at h8
          have h9 := hf 9 (by kernel_rfl)
          conv at h9 => rhs; whnf
          try change slot t 9 = undef at h9
          have h10 := hf 10 (by kernel_rfl)
          conv at h10 => rhs; whnf
          try change slot t 10 = undef at h10
          have h11 := hf 11 (by kernel_rfl)
          conv at h11 => rhs; whnf
          try change slot t 11 = undef at h11
          have h12 := hf 12 (by kernel_rfl)
          conv at h12 => rhs; whnf
          try change slot t 12 = undef at h12
          have h13 := hf 13 (by kernel_rfl)
          conv at h13 => rhs; whnf
          try change slot t 13 = undef at h13
          have h14 := hf 14 (by kernel_rfl)
          conv at h14 => rhs; whnf
          try change slot t 14 = undef at h14
          have h15 := hf 15 (by kernel_rfl)
          conv at h15 => rhs; whnf
          try change slot t 15 = undef at h15
          have h28 := hf 28 (by kernel_rfl)
          conv at h28 => rhs; whnf
          try change slot t 28 = undef at h28
          have h29 := hf 29 (by kernel_rfl)
          conv at h29 => rhs; whnf
          try change slot t 29 = undef at h29
          have h30 := hf 30 (by kernel_rfl)
          conv at h30 => rhs; whnf
          try change slot t 30 = undef at h30
          have h31 := hf 31 (by kernel_rfl)
          conv at h31 => rhs; whnf
          try change slot t 31 = undef at h31
          have harr : t = #[slot t 0, slot t 1, slot t 2, slot t 3, slot t 4, slot t 5, slot t 6, slot t 7, slot t 8, slot t 9, slot t 10, slot t 11, slot t 12, slot t 13, slot t 14, slot t 15, slot t 16, slot t 17, slot t 18, slot t 19, slot t 20, slot t 21, slot t 22, slot t 23, slot t 24, slot t 25, slot t 26, slot t 27, slot t 28, slot t 29, slot t 30, slot t 31] := arr_eq t 32 hsz
          rw [harr, h16, h27, h0, h3, h4, h1, h2, h5, h6, h7, h8, h9, h10, h11, h12, h13, h14, h15, h28, h29, h30, h31]
          clear harr hfacts hf h16 h27 h0 h3 h4 h1 h2 h5 h6 h7 h8 h9 h10 h11 h12 h13 h14 h15 h28 h29 h30 h31
          generalize slot t 17 = x17; generalize slot t 18 = x18; generalize slot t 19 = x19; generalize slot t 20 = x20; generalize slot t 21 = x21; generalize slot t 22 = x22; generalize slot t 23 = x23; generalize slot t 24 = x24; generalize slot t 25 = x25; generalize slot t 26 = x26
          clear hsz t
          simp only [List.drop_succ_cons, List.drop_zero]
          have A0 := Lib.hid (ownsRow_kept HO.out hk)
          have A1 := Lib.hid (HK.out.trans hk)
          have A2 := Lib.hid r27
          have hf1 := fig_lt (c / 16) (by omega)
          have hf2 := fig_lt (c % 16) (by omega)
          have HE : Hid (hexTo (sl s) (2 * k) ++ [UInt8.ofNat (fig (c / 16)), UInt8.ofNat (fig (c % 16))] = hexTo (sl s) (2 * (k + 1))) := Lib.hid (by
            rw [show 2 * (k + 1) = 2 * k + 1 + 1 by omega, hexTo_odd, hexTo_even, HC.out]; simp)
          clear HO HK r27 hk
          go_wp2_with (at_builtin; refine wpList_appendR rfl _ _ rfl w _ _ _ rfl A0 g27 2 [UInt8.ofNat (fig (c / 16)), UInt8.ofNat (fig (c % 16))] rfl rfl _ _ A2 (by simp [bvL]; omega) (by omega) A1 ?_; intro v' w' B0 B1 _)
          go_roundw
          case rel => exact ⟨k + 1, by omega, by go_num, by rw [HE.out] at B0; exact B0, B1⟩
          case measure => simp [intOf]; omega
      · have hd : decide ((k : Int) < (s.size : Int)) = false := decide_eq_false (by omega)
        have hd' : decide (k < s.size) = false := decide_eq_false hlt
        obtain rfl : k = s.size := by omega
        have hcv := run_owned (hexTo (sl s) (2 * s.size)) HO.out (by omega)
        go_wp2
        go_ret
        exact ⟨ret_str HX.out.symm, HK.out⟩
end Go.Proofs.Ythigdhdapbjakaa
