/-
  Contracts of milepostref05's Mul and Power.
-/
import Derived.Test.YtcjieaijcjinnaaLargeRefA
import Derived.Test.YtcjieaijcjinnaaLargeMathB
import Derived.Test.YtcjieaijcjinnaaDrawLib
namespace Go.Proofs.Ytcjieaijcjinnaa
open Go.RowKit

theorem madeCells_ints (n : Nat) : madeCells (Value.int .i64 0).cells n = rC n (dgt 0) := by
  apply Array.ext
  · simp [madeCells, rC]
  · intro i h1 h2
    simp [madeCells, rC, Value.cells, Nat.mod_one, dgt_zero]
theorem run_makeI (n : Nat) (w : World) (hn : n ≤ 1000000) :
    (Instr.makeSlice 26 (.int .i64 (n : Int)) (.int .i64 (n : Int))).run Try.prog w = .ok (.slice (some ⟨w.heap.size, 0, none⟩) n n) (w.alloc (.cells (rC n (dgt 0)) 3)) := by
  obtain ⟨i, hi, hz, hs, hb⟩ := info_parts infoInt
  have h := run_makeSlice (P := Try.prog) w 26 3 i _ Try.underlying26 hi hz .i64 .i64 (n : Int) (n : Int) (by omega) (by omega) (by rw [hs]; omega) (by rw [hb]; omega) (by omega)
  rw [hs, Int.toNat_natCast, Nat.mul_one, madeCells_ints] at h
  exact h
theorem dig_row {N m g cap : Nat} {w : World} (hr : Rowz w g (rC m (dgt N)) 3) (hc : m ≤ cap) : DigM N m (.slice (some ⟨g, 0, none⟩) m cap) w :=
  ⟨_, cap, rfl, hc, fun _ => ⟨g, _, rfl, hr, fun i hi => rC_get m _ i hi⟩⟩

set_option maxRecDepth 100000 in
set_option maxHeartbeats 4000000 in
theorem refMul5_any (A B : Nat) (v u : Value) (w : World) (hv : Dig A v w) (hu : Dig B u w) (hm : dl A ≤ 1000) (hm2 : dl B ≤ 1000) :
    Calls Try.prog 20 #[v, u] w fun e w' => ∃ v, e = .returned v ∧ Dig (A * B) v w' ∧ Kept w w' := by
  obtain ⟨p, cap, rfl, hc, hp⟩ := hv
  obtain ⟨p2, cap2, rfl, hc2, hp2⟩ := hu
  have HA := Lib.hid (dl_lt A)
  have HB := Lib.hid (dl_lt B)
  have HZ2 : Hid (∀ {k}, dl B ≤ k → dgt B k = 0) := Lib.hid fun h => dgt_none B _ _ (dl_lt B) h
  have HP := Lib.hid hp
  have HP2 := Lib.hid hp2
  clear hp hp2
  generalize dl A = la at *
  generalize dl B = lb at *
  obtain ⟨L, hL1, hL2⟩ : ∃ L, la + lb + 1 ≤ L ∧ L ≤ la + lb + 1 := ⟨_, Nat.le_refl _, Nat.le_refl _⟩
  have hmk : ∀ w, (Instr.makeSlice 26 (.int .i64 ((la : Int) + (lb : Int) + 1)) (.int .i64 ((la : Int) + (lb : Int) + 1))).run Try.prog w = .ok (.slice (some ⟨w.heap.size, 0, none⟩) L L) (w.alloc (.cells (rC L (dgt 0)) 3)) := fun w => by
    have eL : (la : Int) + (lb : Int) + 1 = (L : Int) := by omega
    rw [eL]
    exact run_makeI L w (by omega)
  have HFULL := Lib.hid (rowP_full A B la HA.out)
  have HLT : Hid (A * B < 65536 ^ L) := Lib.hid (by
    have h1 := rowP_lt A B la lb HB.out
    rw [HFULL.out] at h1
    exact Nat.lt_of_lt_of_le h1 (Nat.pow_le_pow_right (by decide) (by omega)))
  go_enter Try.func20, Try.ntmps20
  go_wp2
  clear hmk
  go_loopw [6] (fun i wr => ∃ (r : Nat), r ≤ la ∧ i = .int .i64 (r : Int) ∧ Hid (Rowz wr w.heap.size (rC L (dgt (rowP A B r))) 3) ∧ Hid (Kept w wr)) (fun i _ => la - (intOf i).toNat)
  case atStart => exact ⟨0, by omega, rfl, Lib.hid (by rw [rowP_zero]; exact Rowz.new w _ _), Lib.hid ((Kept.refl w).alloc _)⟩
  case round =>
    obtain ⟨r, hr, rfl, HR, HK⟩ := hrel
    by_cases hlt : r < la
    · have hdr : decide (r < la) = true := decide_eq_true hlt
      obtain ⟨g, cur, rfl, hrg, hbg⟩ := HP.out (by omega)
      have ca := hbg r hlt
      have hal := dgt_lt A r
      have HEND := Lib.hid (mulC_end A B r lb HB.out)
      have HMIX := Lib.hid (fun k j => mix_end A B r k lb j HB.out)
      generalize dgt A r = a at ca hal HEND HMIX
      have HRG := Lib.hid hrg
      have HCA := Lib.hid ca
      clear hrg hbg ca HP
      have HR0 : Hid (Rowz wr w.heap.size (rC L (mixD (mulS (rowP A B r) r a B 0) (rowP A B r) (r + 0))) 3) := Lib.hid (by
        rw [rC_congr (fun j _ => mix_zero (rowP A B r) r a B j)]; exact HR.out)
      generalize hPr : rowP A B r = P at HR0 HEND HMIX
      clear hPr HR
      go_wp2
      go_loopw [7, 8] (fun c q wq => ∃ (k : Nat), k ≤ lb + 1 ∧ q = .int .i64 (k : Int) ∧ c = .int .i64 ((mulC P r a B k : Nat) : Int) ∧ Hid (Rowz wq w.heap.size (rC L (mixD (mulS P r a B k) P (r + k))) 3) ∧ Hid (Kept w wq)) (fun _ q _ => lb + 1 - (intOf q).toNat)
      case atStart => exact ⟨0, by omega, rfl, by rw [mulC_zero]; rfl, HR0, HK⟩
      case round =>
        clear HR0 HK
        obtain ⟨k, hk, rfl, rfl, HR, HK⟩ := hrel
        have hcl := mulC_le P r a B k
        have hne : g ≠ w.heap.size := by have := HRG.out.lt; omega
        by_cases hgo : k < lb ∨ 0 < mulC P r a B k
        · have hk1 : k < lb + 1 := by
            rcases Nat.lt_or_ge k (lb + 1) with h | h
            · exact h
            · have e : k = lb + 1 := by omega
              rw [e, HEND.out] at hgo
              omega
          obtain ⟨q, hq⟩ : ∃ q, q = r + k := ⟨_, rfl⟩
          have eq1 : (r : Int) + (k : Int) = (q : Int) := by omega
          have hqL : (q : Int) < (L : Int) := by omega
          have c3 : wr.cell? ⟨w.heap.size, q, none⟩ = some (.int .i64 ((dgt P q : Nat) : Int)) := by
            rw [HR.out.cell, rC_get _ _ q (by omega)]
            unfold mixD
            rw [if_neg (by omega)]
          have f3 : wr.frozen? ⟨w.heap.size, q, none⟩ = false := HR.out.free q
          have hpl := dgt_lt P q
          have hbl := dgt_lt B k
          have HM1 := mulS_dgt P r a B k
          have HM2 := mulC_succ P r a B k
          rw [← hq] at HM1 HM2
          have HSET : Hid (∀ v : Int, v = (dgt (mulS P r a B (k + 1)) q : Nat) → (rC L (mixD (mulS P r a B k) P (r + k))).setIfInBounds q (.int .i64 v) = rC L (mixD (mulS P r a B (k + 1)) P (r + (k + 1)))) := Lib.hid (fun v hv =>
            rC_set q v (by rw [hv]; unfold mixD; rw [if_pos (by omega)]) (fun j _ hj => mix_step P r a B k j (by omega)))
          generalize dgt (mulS P r a B (k + 1)) q = d at HM1 HSET
          generalize hc' : mulC P r a B (k + 1) = c' at HM2
          have HC' := Lib.hid hc'
          clear hc'
          generalize dgt P q = pd at c3 hpl HM1 HM2
          by_cases h2 : k < lb
          · have hd2 : decide (k < lb) = true := decide_eq_true h2
            have h2i : (k : Int) < (lb : Int) := by omega
            have hri : (r : Int) < (la : Int) := by omega
            obtain ⟨g2, cur2, rfl, hrg2, hbg2⟩ := HP2.out (by omega)
            have c1 : wr.cell? ⟨g, r, none⟩ = some (.int .i64 (a : Int)) := ((HRG.out.kept HK.out).cell r).trans HCA.out
            have c2 : wr.cell? ⟨g2, k, none⟩ = some (.int .i64 ((dgt B k : Nat) : Int)) := ((hrg2.kept HK.out).cell k).trans (hbg2 k h2)
            generalize dgt B k = b at c2 hbl HM1 HM2
            generalize mulC P r a B k = c at hcl HM1 HM2 hgo ⊢
            obtain ⟨ab, hab⟩ : ∃ ab, ab = a * b := ⟨_, rfl⟩
            rw [← hab] at HM1 HM2
            have habl : ab ≤ 65535 * 65535 := by rw [hab]; exact Nat.mul_le_mul (by omega) (by omega)
            have hwm : (a : Int) * (b : Int) = (ab : Int) := by rw [hab]; simp
            have HD : Hid ((((pd : Int) + (c : Int) + (ab : Int)) % 65536) = (d : Int)) := Lib.hid (by omega)
            have HQ : Hid ((((pd : Int) + (c : Int) + (ab : Int)) / 65536) = (c' : Int)) := Lib.hid (by omega)
            clear hrg2 hbg2 hab HM1 HM2 HP2 hq hgo
            go_wp2
            go_quiet (fail)
            replace c3 : (wr.drewN nq).cell? ⟨w.heap.size, q, none⟩ = some (.int .i64 (pd : Int)) := c3
            replace f3 : (wr.drewN nq).frozen? ⟨w.heap.size, q, none⟩ = false := f3
            replace HR : Hid (Rowz (wr.drewN nq) w.heap.size (rC L (mixD (mulS P r a B k) P (r + k))) 3) := HR
            replace HK : Hid (Kept w (wr.drewN nq)) := HK
            clear c1 c2
            generalize wr.drewN nq = w2 at c3 f3 HR HK ⊢
            go_wp2
            go_roundw
            case rel =>
              refine ⟨k + 1, by omega, by go_num, by rw [HC'.out, ← HQ.out], Lib.hid ?_, Lib.hid (HK.out.setCell (Nat.le_refl _) _)⟩
              rw [← HSET.out _ HD.out]
              exact HR.out.set q _
            case measure => simp [intOf]; omega
          · have hd2 : decide (k < lb) = false := decide_eq_false h2
            have hz : dgt B k = 0 := HZ2.out (by omega)
            have hc0 : 0 < mulC P r a B k := hgo.resolve_left h2
            have hd3 : decide (0 < mulC P r a B k) = true := decide_eq_true hc0
            rw [hz, Nat.mul_zero, Nat.add_zero] at HM1 HM2
            generalize mulC P r a B k = c at hcl HM1 HM2 hc0 hd3 ⊢
            have HD : Hid ((((pd : Int) + (c : Int)) % 65536) = (d : Int)) := Lib.hid (by omega)
            have HQ : Hid ((((pd : Int) + (c : Int)) / 65536) = (c' : Int)) := Lib.hid (by omega)
            clear hz HM1 HM2 HP2 hq hgo
            go_wp2
            go_roundw
            case rel =>
              refine ⟨k + 1, by omega, by go_num, by rw [HC'.out, ← HQ.out], Lib.hid ?_, Lib.hid (HK.out.setCell (Nat.le_refl _) _)⟩
              rw [← HSET.out _ HD.out]
              exact HR.out.set q _
            case measure => simp [intOf]; omega
        · have h2 : ¬ k < lb := fun h => hgo (.inl h)
          have hd2 : decide (k < lb) = false := decide_eq_false h2
          have hc0 : mulC P r a B k = 0 := by omega
          have HR1 : Hid (Rowz wr w.heap.size (rC L (dgt (rowP A B (r + 1)))) 3) := Lib.hid (by
            rw [← rC_congr (fun j _ => HMIX.out k j (by omega) hc0)]; exact HR.out)
          rw [hc0]
          clear hgo hcl hc0 HR HMIX HEND
          go_wp2
          go_roundw
          case rel => exact ⟨r + 1, by omega, by go_num, HR1, HK⟩
          case measure => simp [intOf]; omega
    · have hdr : decide (r < la) = false := decide_eq_false hlt
      have er : r = la := by omega
      have HD : Hid (DigM (A * B) L (.slice (some ⟨w.heap.size, 0, none⟩) L L) wr) := Lib.hid (by rw [er, HFULL.out] at HR; exact dig_row HR.out (Nat.le_refl _))
      clear er HR
      go_wp2_with (go_at_call 37; refine (trim_any (A * B) L _ _ HD.out HLT.out (by omega)).mono ?_; rintro e w2 ⟨v2, rfl, hd2, hk2⟩)
      go_ret
      exact ⟨_, rfl, hd2, HK.out.trans hk2⟩

theorem pow_wrap : ∀ r, r < 16 → wrap64 ((2 : Int) ^ r) = ((2 ^ r : Nat) : Int) := by decide +kernel
set_option maxRecDepth 100000 in
set_option maxHeartbeats 800000 in
theorem refPower5_any (n : Nat) (w : World) (hn : n ≤ 1000) :
    Calls Try.prog 23 #[.int .i64 (n : Int)] w fun e w' => ∃ v, e = .returned v ∧ Dig (2 ^ n) v w' ∧ Kept w w' := by
  have hmk : ∀ w, (Instr.makeSlice 26 (.int .i64 ((n : Int) / 16 + 1)) (.int .i64 ((n : Int) / 16 + 1))).run Try.prog w = .ok (.slice (some ⟨w.heap.size, 0, none⟩) (n / 16 + 1) (n / 16 + 1)) (w.alloc (.cells (rC (n / 16 + 1) (dgt 0)) 3)) := fun w => by
    have e1 : (n : Int) / 16 + 1 = ((n / 16 + 1 : Nat) : Int) := by omega
    rw [e1]
    exact run_makeI (n / 16 + 1) w (by omega)
  have HDL := Lib.hid (dl_pow n)
  have HSET := Lib.hid (fun v hv => rC_set (L := n / 16 + 1) (f := dgt 0) (g := dgt (2 ^ n)) (n / 16) v hv (fun j hj hne => by rw [dgt_zero, dgt_pow_low n j (by omega)]))
  have HT := Lib.hid (dgt_pow_top n)
  have HR := Lib.hid (Rowz.new w (rC (n / 16 + 1) (dgt 0)) 3)
  have c1 : (w.alloc (.cells (rC (n / 16 + 1) (dgt 0)) 3)).cell? ⟨w.heap.size, n / 16, none⟩ = some (.int .i64 0) := by
    rw [HR.out.cell, rC_get _ _ _ (by omega), dgt_zero]; rfl
  have f1 : (w.alloc (.cells (rC (n / 16 + 1) (dgt 0)) 3)).frozen? ⟨w.heap.size, n / 16, none⟩ = false := HR.out.free _
  have hr16 : n % 16 < 16 := Nat.mod_lt _ (by decide)
  go_enter Try.func23, Try.ntmps23
  go_wp2
  go_ret
  refine ⟨_, rfl, ?_, (Kept.refl w).alloc _⟩
  have hsh : wrap64 ((2 : Int) ^ (n % 16)) = ((dgt (2 ^ n) (n / 16) : Nat) : Int) := by
    rw [HT.out]
    exact pow_wrap (n % 16) hr16
  rw [HSET.out _ hsh]
  unfold Dig
  rw [HDL.out]
  exact dig_row (Rowz.new w _ _) (Nat.le_refl _)
end Go.Proofs.Ytcjieaijcjinnaa
