/-
  Contract of hex.Bytes. Condition: a string has at most a million bytes.
-/
import Derived.Test.YthigdhdapbjakaaHexWalkA
namespace Go.Proofs.Ythigdhdapbjakaa
open Go.RowKit

theorem ret_un {s a : ByteArray} {b : Bool} (hx : unS s = a) (hb : unB s = b) : Ending.returned (.tuple #[.string a, .bool b]) = .returned (.tuple #[.string (unS s), .bool (unB s)]) := by rw [hx, hb]
theorem eqS_no {s t : ByteArray} (h : s ≠ t) : (s.toList == t.toList) = false := by
  rw [beq_eq_false_iff_ne]
  intro e
  apply h
  rw [ByteArray.toList_eq, ByteArray.toList_eq] at e
  exact ByteArray.ext (Array.toList_inj.1 e)

theorem eq45_yes : (dashB.toList == [45]) = true := by rw [ByteArray.toList_eq]; rfl
theorem eq45_no {s : ByteArray} (h : s ≠ dashB) : (s.toList == [45]) = false := by
  have e := eqS_no h
  rwa [ByteArray.toList_eq dashB] at e

theorem hexBytes_dash (w : World) :
    Calls Try.prog 9 #[.string dashB] w fun e w' => e = .returned (.tuple #[.string (unS dashB), .bool (unB dashB)]) ∧ Kept w w' := by
  go_enter Try.func9, Try.ntmps9
  have he := eq45_yes
  go_wp2
  exact bodyPost_ret (results_tmp2 Try.results9 _ _ _) rfl ⟨ret_un unS_dash unB_dash, Kept.refl w⟩
theorem hexBytes_odd (s : ByteArray) (w : World) (hs : s.size ≤ 1000000) (hd : s ≠ dashB) (ho : s.size = 0 ∨ s.size % 2 = 1) :
    Calls Try.prog 9 #[.string s] w fun e w' => e = .returned (.tuple #[.string (unS s), .bool (unB s)]) ∧ Kept w w' := by
  have HB := Lib.hid (unB_odd hd ho)
  have HS := Lib.hid (unS_no HB.out)
  have he := eq45_no hd
  clear hd
  rcases ho with h0 | h1
  · obtain rfl := size0 h0
    have hi := isE_yes
    go_enter Try.func9, Try.ntmps9
    go_wp2
    exact bodyPost_ret (results_tmp2 Try.results9 _ _ _) rfl ⟨ret_un HS.out HB.out, Kept.refl w⟩
  · have hi := isE_no (s := s) (by omega)
    have hm : ((s.size : Int) % 2) = 1 := by omega
    clear h1
    go_enter Try.func9, Try.ntmps9
    go_wp2
    exact bodyPost_ret (results_tmp2 Try.results9 _ _ _) rfl ⟨ret_un HS.out HB.out, Kept.refl w⟩
set_option maxRecDepth 100000 in
set_option maxHeartbeats 2000000 in
theorem hexBytes_even (s : ByteArray) (w : World) (hs : s.size ≤ 1000000) (hd : s ≠ dashB) (h0 : ¬ s.size = 0) (h2 : s.size % 2 = 0) :
    Calls Try.prog 9 #[.string s] w fun e w' => e = .returned (.tuple #[.string (unS s), .bool (unB s)]) ∧ Kept w w' := by
  have HB := Lib.hid (unB_even hd h0 h2)
  have HY : Hid (unB s = true → unS s = lS (prsAt (sl s) (s.size / 2))) := Lib.hid (unS_yes hd)
  have he := eq45_no hd
  have hi := isE_no h0
  have hm : ((s.size : Int) % 2) = 0 := by omega
  have hmk : ∀ w, (Instr.makeSlice 32 (.int .i64 0) (.int .i64 ((s.size : Int) / 2))).run Try.prog w = .ok (.slice (some ⟨w.heap.size, 0, none⟩) 0 (s.size / 2)) (w.alloc (.cells (bC (s.size / 2) []) 5)) := fun w => run_makeLC 0 (s.size / 2) w (by omega) (by omega)
  clear hd
  go_enter Try.func9, Try.ntmps9
  go_wp2
  clear hmk he hi hm
  have F0 : Hid (((w.alloc (.cells (bC (s.size / 2) []) 5)).iter s 0).ownsRow w.heap.size 5 1 (.slice (some ⟨w.heap.size, 0, none⟩) 0 (s.size / 2)) 0 (bvL [])) :=
    Lib.hid (World.ownsRow.alloc (World.ownsRow_made w (bC (s.size / 2) []) (s.size / 2) (Nat.le_refl _) (by unfold maxLen; omega) (by rw [bC_size]; omega)) _)
  have F1 : Hid (Kept w ((w.alloc (.cells (bC (s.size / 2) []) 5)).iter s 0)) := Lib.hid (((Kept.refl w).alloc (.cells (bC (s.size / 2) []) 5)).alloc _)
  have F2 : Hid (((w.alloc (.cells (bC (s.size / 2) []) 5)).iter s 0).heap[w.heap.size + 1]? = some (.stringIter s 0)) := Lib.hid (by
    have h := World.iter_heap (w.alloc (.cells (bC (s.size / 2) []) 5)) s 0
    rwa [show (w.alloc (.cells (bC (s.size / 2) []) 5)).heap.size = w.heap.size + 1 by simp] at h)
  generalize (w.alloc (.cells (bC (s.size / 2) []) 5)).iter s 0 = v0 at F0 F1 F2 ⊢
  generalize Value.slice (some ⟨w.heap.size, 0, none⟩) 0 (s.size / 2) = V0 at F0 ⊢
  go_loopw [4, 5] (fun v u wr => ∃ k x : Nat, k ≤ s.size ∧ u = .int .u8 (x : Int) ∧ x < 256 ∧ Hid (wr.heap[w.heap.size + 1]? = some (.stringIter s k)) ∧ Hid (∀ j, k = 2 * j + 1 → x = 16 * valN (byteL (sl s) (2 * j))) ∧ Hid (okB (sl s) k = true) ∧
    Hid (wr.ownsRow w.heap.size 5 1 v (k / 2) (bvL (prsAt (sl s) (k / 2)))) ∧ Hid (Kept w wr)) (fun _ _ wr => s.size - wr.iterPos (w.heap.size + 1))
  case atStart => exact ⟨0, 0, by omega, rfl, by omega, F2, Lib.hid (fun j h => by omega), Lib.hid rfl, F0, F1⟩
  case round =>
    clear F0 F1 F2
    obtain ⟨k, x, hk, rfl, hx, HI, HX, HD, HO, HK⟩ := hrel
    have HM := Lib.hid (iterPos_of HI.out)
    by_cases hlt : k < s.size
    · by_cases hv : valN (byteL (sl s) k) < 16
      · -- a digit
        obtain ⟨c, hc⟩ : ∃ c, c = byteL (sl s) k := ⟨_, rfl⟩
        have hcl : c < 128 := by
          rcases Nat.lt_or_ge c 128 with h | h
          · exact h
          · rw [← hc, val_high c h] at hv; omega
        have hcs : (s[k]).toNat = c := by rw [hc]; exact sl_get s k hlt
        obtain ⟨y, hy⟩ : ∃ y, y = valN (byteL (sl s) k) := ⟨_, rfl⟩
        have hy16 : y < 16 := by rw [hy]; exact hv
        have hnx : ∀ ty, (Instr.next (.pointer (some ⟨w.heap.size + 1, 0, none⟩)) true ty).run Try.prog wr = .ok (.tuple #[.bool true, .int .i64 (k : Int), .int .i32 (c : Int)]) (wr.iterAt (w.heap.size + 1) s (k + 1)) := fun ty => by
          have h := Lib.run_next_ascii_at (P := Try.prog) wr (w.heap.size + 1) s k ty HI.out hlt (by rw [hcs]; exact hcl)
          rw [hcs] at h
          exact h
        have A0 := Lib.hid (own_iter HO.out HI.out (k + 1))
        have A1 := Lib.hid (HK.out.iterAt (k := w.heap.size + 1) (by omega) s (k + 1))
        have A2 := Lib.hid (Lib.iterAt_heap wr (w.heap.size + 1) s k (k + 1) HI.out)
        have A3 := Lib.hid (okB_succ (sl s) k HD.out hv)
        have HV : Hid (∀ w, Calls Try.prog 14 #[.int .i32 (c : Int)] w fun e w' => e = .returned (.tuple #[.int .u8 (y : Int), .bool true]) ∧ Kept w w') := Lib.hid fun w => by
          have h := hexValue_any c w
          rwa [show valX c = y by rw [valX, hc, if_pos hv, hy], show valB c = true by rw [valB, hc, decide_eq_true hv]] at h
        have HYK := Lib.hid hy
        generalize wr.iterAt (w.heap.size + 1) s (k + 1) = W at hnx A0 A1 A2
        clear HI HD HO HK hcs hc hv hy
        rcases Nat.mod_two_eq_zero_or_one k with hp | hp
        · -- the upper four bits
          have hr : ((k : Int) % 2) = 0 := by omega
          have HP := Lib.hid hp
          clear hp HX
          go_wp2_with (go_at_call 14; refine (HV.out _).mono ?_; rintro e w2 ⟨rfl, K2⟩; replace K2 := Lib.hid K2)
          go_roundw
          case measure =>
            have h1 := iterPos_of ((K2.out.block _ (lt_iter A2.out)).trans A2.out)
            have h2 := HM.out
            omega
          case rel =>
            refine ⟨k + 1, 16 * y, by omega, by go_num, by omega, Lib.hid ((K2.out.block _ (lt_iter A2.out)).trans A2.out), Lib.hid ?_, A3, Lib.hid ?_, Lib.hid (A1.out.trans K2.out)⟩
            · intro j hj
              have := HP.out
              rw [HYK.out, show k = 2 * j by omega]
            · rw [show (k + 1) / 2 = k / 2 by have := HP.out; omega]
              exact ownsRow_kept A0.out K2.out
        · -- the lower four bits
          have hr : ((k : Int) % 2) = 1 := by omega
          obtain ⟨z, hz⟩ : ∃ z, z = valN (byteL (sl s) (2 * (k / 2))) := ⟨_, rfl⟩
          have hz16 : z < 16 := by
            rw [hz]
            exact (okB_iff _ _).1 A3.out _ (by omega)
          have hxz : x = 16 * z := by rw [hz]; exact HX.out (k / 2) (by omega)
          have hor : bits .or .u8 (x : Int) (y : Int) = ((16 * z + y : Nat) : Int) := by rw [hxz]; exact or16 z y hz16 hy16
          have HE : Hid (prsAt (sl s) (k / 2) ++ [UInt8.ofNat (16 * z + y)] = prsAt (sl s) ((k + 1) / 2)) := Lib.hid (by
            rw [show (k + 1) / 2 = k / 2 + 1 by omega, prsAt_succ, prC, hz, HYK.out, show 2 * (k / 2) + 1 = k by omega])
          have HP := Lib.hid hp
          have hzy : 16 * z + y < 256 := by omega
          generalize 16 * z + y = t at hor HE hzy
          clear hp HX hz hxz
          go_wp2_with (first
            | (go_at_call 14; refine (HV.out _).mono ?_; rintro e w2 ⟨rfl, K2⟩; replace K2 := Lib.hid K2)
            | (at_builtin; refine wpList_appendR rfl _ _ rfl w _ _ _ rfl (Lib.hid ((ownsRow_kept A0.out K2.out).alloc _)) _ 1 [UInt8.ofNat t] rfl rfl _ _ (Lib.hid (Rowz.new _ _ _)) (by simp [bvL]; omega) (by omega) (Lib.hid ((A1.out.trans K2.out).alloc _)) ?_; intro v' w' B0 B1 B2))
          have I2 : w2.heap[w.heap.size + 1]? = some (.stringIter s (k + 1)) := (K2.out.block _ (lt_iter A2.out)).trans A2.out
          have I3 : w'.heap[w.heap.size + 1]? = some (.stringIter s (k + 1)) :=
            (B2.out.block _ (Nat.lt_of_lt_of_le (lt_iter I2) (by simp)) (own_not_iter (ownsRow_kept A0.out K2.out) I2)).trans ((Below.heap_alloc _ _ _ (lt_iter I2)).trans I2)
          go_roundw
          case measure =>
            have h1 := iterPos_of I3
            have h2 := HM.out
            omega
          case rel =>
            refine ⟨k + 1, x, by omega, rfl, hx, Lib.hid I3, Lib.hid (fun j hj => by have := HP.out; omega), A3, ?_, B1⟩
            rw [HE.out] at B0
            rw [show (k + 1) / 2 = k / 2 + 1 by have := HP.out; omega] at B0 ⊢
            exact B0
      · -- no digit
        have HF := Lib.hid (okB_not (sl s) k s.size hlt hv)
        have HU := Lib.hid (HB.out.trans HF.out)
        have HS := Lib.hid (unS_no HU.out)
        obtain ⟨r, W, hnx, hr, hKW⟩ : ∃ (r : Nat) (W : World), (∀ ty, (Instr.next (.pointer (some ⟨w.heap.size + 1, 0, none⟩)) true ty).run Try.prog wr = .ok (.tuple #[.bool true, .int .i64 (k : Int), .int .i32 (r : Int)]) W) ∧ ¬ valN r < 16 ∧ Kept w W := by
          refine ⟨_, _, fun ty => Lib.run_next_any_at (P := Try.prog) wr (w.heap.size + 1) s k ty HI.out hlt, ?_, HK.out.iterAt (k := w.heap.size + 1) (by omega) s _⟩
          have hcs : (s[k]).toNat = byteL (sl s) k := sl_get s k hlt
          rcases Nat.lt_or_ge (s[k]).toNat 128 with h | h
          · rw [decode_ascii s k hlt h, hcs]; exact hv
          · rw [val_high _ (decode_high s k hlt h).1]; omega
        have HW := Lib.hid hKW
        have HV : Hid (∀ w, Calls Try.prog 14 #[.int .i32 (r : Int)] w fun e w' => e = .returned (.tuple #[.int .u8 0, .bool false]) ∧ Kept w w') := Lib.hid fun w => by
          have h := hexValue_any r w
          rwa [show valX r = 0 by rw [valX, if_neg hr], show valB r = false by rw [valB, decide_eq_false hr]] at h
        clear hv HI HX HD HO HK HM hr hKW
        go_wp2_with (go_at_call 14; refine (HV.out _).mono ?_; rintro e w2 ⟨rfl, K2⟩; replace K2 := Lib.hid K2)
        exact bodyPost_ret (results_tmp2 Try.results9 _ _ _) rfl ⟨ret_un HS.out HU.out, HW.out.trans K2.out⟩
    · obtain rfl : k = s.size := by omega
      have hnx : ∀ ty, (Instr.next (.pointer (some ⟨w.heap.size + 1, 0, none⟩)) true ty).run Try.prog wr = .ok (.tuple #[.bool false]) wr := fun ty => Lib.run_next_end_at wr (w.heap.size + 1) s s.size ty HI.out (by omega)
      have HU := Lib.hid (HB.out.trans HD.out)
      have hcv := run_owned (prsAt (sl s) (s.size / 2)) HO.out (by omega)
      clear HI HX HD HO HM
      go_wp2
      exact bodyPost_ret (results_tmp2 Try.results9 _ _ _) rfl ⟨ret_un (HY.out HU.out) HU.out, HK.out⟩
theorem hexBytes_any (s : ByteArray) (w : World) (hs : s.size ≤ 1000000) :
    Calls Try.prog 9 #[.string s] w fun e w' => e = .returned (.tuple #[.string (unS s), .bool (unB s)]) ∧ Kept w w' := by
  by_cases hd : s = dashB
  · subst hd; exact hexBytes_dash w
  · by_cases h0 : s.size = 0
    · exact hexBytes_odd s w hs hd (.inl h0)
    · rcases Nat.mod_two_eq_zero_or_one s.size with h | h
      · exact hexBytes_even s w hs hd h0 h
      · exact hexBytes_odd s w hs hd (.inr h)
end Go.Proofs.Ythigdhdapbjakaa
