/-
  The reference's Raw (layer 3), and the law's step 'do' on a Buf or none. Conditions: a step's string has at most 2000 bytes, the buffer at most a million.
-/
import Derived.Test.YtmccpbpnpdidbaaBufWalkB
import Derived.Test.YtmccpbpnpdidbaaNumLawB
namespace Go.Proofs.Ytmccpbpnpdidbaa
open Go.RowKit

theorem run_make32B (w : World) : (Instr.makeSlice 27 (.int .i64 32) (.int .i64 32)).run Try.prog w = .ok (.slice (some ⟨w.heap.size, 0, none⟩) 32 32) (w.alloc (.cells (bC 32 []) 5)) := by kernel_rfl
theorem take_stepB (l : List UInt8) (k : Nat) (h : k < l.length) : l.take k ++ [l.getD k 0] = l.take (k + 1) := by
  rw [List.take_add_one]
  simp [List.getD_eq_getElem?_getD, h]
set_option maxHeartbeats 400000 in
theorem refRawB_any (l : List UInt8) (hl : l.length = 32) (w : World) :
    Calls Try.prog 21 #[.agg (bC 32 l)] w fun e w' => e = .returned (.string (hB l)) ∧ Grown w w' := by
  have hm := run_make32B (w.alloc (.cells (bC 32 l) 33))
  go_enter Try.func21, Try.ntmps21
  go_wp2_with fail
  clear hm
  have F0 := Lib.hid ((Rowz.new w (bC 32 l) 33).alloc (.cells (bC 32 []) 5))
  have F1 := Lib.hid (Rowz.newEq1 w (.cells (bC 32 l) 33) (.cells (bC 32 []) 5) _ _ rfl)
  have F2 := Lib.hid (((Grown.refl w).alloc (bC 32 l) 33).alloc (bC 32 []) 5)
  generalize (w.alloc (.cells (bC 32 l) 33)).alloc (.cells (bC 32 []) 5) = v at F0 F1 F2 ⊢
  obtain ⟨b, hb⟩ : ∃ b, b = w.heap.size := ⟨_, rfl⟩
  have HB := Lib.hid hb
  rw [← hb] at F0 F1 ⊢
  clear hb
  go_loopw [4] (fun i wr => ∃ k : Nat, k ≤ 32 ∧ i = .int .i64 k ∧ Hid (Rowz wr b (bC 32 l) 33) ∧ Hid (Rowz wr (b + 1) (bC 32 (l.take k)) 5) ∧ Hid (Grown w wr)) (fun i _ => 32 - (intOf i).toNat)
  case atStart => exact ⟨0, by omega, rfl, F0, F1, F2⟩
  case round =>
    clear F0 F1 F2
    obtain ⟨k, hk, rfl, F0, F1, F2⟩ := hrel
    by_cases hlt : k < 32
    · have hd : decide ((k : Int) < 32) = true := by simp; omega
      have hc0 := F0.out.byte k hlt
      have hc1 := F1.out.byte k hlt
      have hf1 := F1.out.free k
      go_wp2
      go_roundw
      case measure => simp [intOf]; omega
      case rel =>
        have hkl : k < l.length := by omega
        have hv : ((l[k].toNat : Nat) : Int) = (((l.getD k 0).toNat : Nat) : Int) := by simp [List.getD_eq_getElem?_getD, hkl]
        exact ⟨k + 1, by omega, rfl, Lib.hid (F0.out.other _ _ (by simp)), Lib.hid (take_stepB l k (by omega) ▸ F1.out.pushB k (by simp; omega) _ _ hv), Lib.hid (F2.out.setCell (by rw [← HB.out]; simp) _)⟩
    · have hd : decide ((k : Int) < 32) = false := by simp; omega
      obtain rfl : k = 32 := by omega
      have hq := run_strH wr (b + 1) _ l hl (by have h := F1.out; rwa [List.take_of_length_le (by omega)] at h)
      go_wp2
      go_ret
      exact ⟨rfl, F2.out⟩
/-- A step's cells. -/
def stp (k : Int) (S : ByteArray) (n : Nat) (h : List UInt8) : Array Value := #[.int .i64 k, .string S, .int .u64 (n : Int)] ++ bC 32 h
theorem stp_size (k : Int) (S : ByteArray) (n : Nat) (h : List UInt8) : (stp k S n h).size = 35 := by simp [stp, bC_size]
theorem stp_c0 {w : World} {g : Nat} {k : Int} {S : ByteArray} {n : Nat} {h : List UInt8} {T : TypeId} (hr : Rowz w g (stp k S n h) T) : w.cell? ⟨g, 0, none⟩ = some (.int .i64 k) := by
  rw [hr.cell, stp, Array.getElem?_append_left (by simp)]; rfl
theorem stp_c1 {w : World} {g : Nat} {k : Int} {S : ByteArray} {n : Nat} {h : List UInt8} {T : TypeId} (hr : Rowz w g (stp k S n h) T) : w.cell? ⟨g, 1, none⟩ = some (.string S) := by
  rw [hr.cell, stp, Array.getElem?_append_left (by simp)]; rfl
theorem stp_c2 {w : World} {g : Nat} {k : Int} {S : ByteArray} {n : Nat} {h : List UInt8} {T : TypeId} (hr : Rowz w g (stp k S n h) T) : w.cell? ⟨g, 2, none⟩ = some (.int .u64 (n : Int)) := by
  rw [hr.cell, stp, Array.getElem?_append_left (by simp)]; rfl
theorem stp_range {w : World} {g : Nat} {k : Int} {S : ByteArray} {n : Nat} {h : List UInt8} {T : TypeId} (hr : Rowz w g (stp k S n h) T) : w.rangeAt g 3 (bC 32 h).toList := by
  intro j v hv
  rw [hr.cell, stp, Array.getElem?_append_right (by simp)]
  simpa using hv
theorem run_loadH3 {w : World} {g : Nat} {k : Int} {S : ByteArray} {n : Nat} {h : List UInt8} {T : TypeId} (hr : Rowz w g (stp k S n h) T) :
    (Instr.loadAt 33 (.pointer (some ⟨g, 3, none⟩))).run Try.prog w = .ok (.agg (bC 32 h)) w := by
  have h1 := run_loadAt_mid (P := Try.prog) w g 3 33 (bC 32 h).toList _ (stp_range hr) Try.underlying33 rfl (by rw [Array.length_toList, bC_size]; kernel_rfl)
  simpa using h1
theorem bC_two (a b : List UInt8) (ha : a.length = 32) : bC 32 a ++ bC 32 b = bC 64 (a ++ b) := by
  apply Array.ext_getElem?
  intro i
  rw [Array.getElem?_append, bC_size, bC_getAny, bC_getAny, bC_getAny]
  by_cases h1 : i < 32
  · rw [if_pos h1, if_pos h1, if_pos (by omega)]
    simp [List.getD_eq_getElem?_getD, List.getElem?_append_left (show i < a.length by omega)]
  · rw [if_neg h1]
    by_cases h2 : i < 64
    · rw [if_pos (by omega), if_pos h2]
      simp [List.getD_eq_getElem?_getD, List.getElem?_append_right (show a.length ≤ i by omega), ha]
    · rw [if_neg (by omega), if_neg h2]
theorem run_build2h (a b : List UInt8) (ha : a.length = 32) (w : World) : (Instr.buildSlice 61 2 #[(0, .agg (bC 32 a)), (1, .agg (bC 32 b))]).run Try.prog w = .ok (.slice (some ⟨w.heap.size, 0, none⟩) 2 2) (w.alloc (.cells (bC 64 (a ++ b)) 33)) := by
  rw [← bC_two a b ha]
  kernel_rfl
theorem execBuild2 {P : Program} {ty : TypeId} {o : Oper} {t : Array Value} {x y : Operand} {w w' : World} {a b : Value} {u : Value} (ho : o.op = .buildSlice ty 2 #[(0, x), (1, y)]) (hx : evS t x = a) (hy : evS t y = b) (h : (Instr.buildSlice ty 2 #[(0, a), (1, b)]).run P w = .ok u w') : (execOp (evS t) o).run P w = .ok (.value u) w' := by
  unfold execOp
  simp [ho, hx, hy, h, Result.andThen_ok]
theorem wrapU64 (n : Nat) (h : n < 18446744073709551616) : IntKind.u64.wrap (n : Int) = (n : Int) := by
  simp only [IntKind.wrap, IntKind.signed, IntKind.bits]
  simp
  omega
/-- What a step puts. -/
def putB (k : Int) (S : ByteArray) (n : Nat) (h : List UInt8) : ByteArray :=
  if k = 1 then S ++ S else if k = 2 then oneB (n % 256) else if k = 3 then vS n else if k = 4 then hB h ++ hB h else vS S.size ++ S
theorem putB_size (k : Int) (S : ByteArray) (n : Nat) (h : List UInt8) (hS : S.size ≤ 2000) (hn : n < 18446744073709551616) (hh : h.length = 32) : (putB k S n h).size ≤ 4000 := by
  have h1 : (vS n).size ≤ 10 := by rw [vS_size]; exact vs_len10 n hn
  have h2 : (vS S.size).size ≤ 10 := by rw [vS_size]; exact vs_len10 _ (by omega)
  unfold putB
  split
  · rw [ByteArray.size_append]; omega
  split
  · show 1 ≤ 4000; omega
  split
  · omega
  split
  · rw [ByteArray.size_append, hB_size]; omega
  · rw [ByteArray.size_append]; omega
theorem run_byteI (n : Nat) (w : World) : (convert 27 9 (.slice (some ⟨w.heap.size, 0, none⟩) 1 1)).run Try.prog (w.alloc (.cells #[.int .u8 ((n : Int) % 256)] 5)) = .ok (.string (oneB (n % 256))) (w.alloc (.cells #[.int .u8 ((n : Int) % 256)] 5)) := by
  have h := run_byte (n % 256) w (by omega)
  rw [show (((n % 256 : Nat)) : Int) = (n : Int) % 256 by omega] at h
  exact h

set_option maxRecDepth 100000 in
set_option maxHeartbeats 2000000 in
theorem do9_any (V : Value) (g r : Option Nat) (s : ByteArray) (k : Int) (S : ByteArray) (n : Nat) (h : List UInt8) (w : World) (H : BufV w V g r s) (hh : h.length = 32) (hn : n < 18446744073709551616) (hS : S.size ≤ 2000) (hs : s.size ≤ 1000000) :
    Calls Try.prog 8 #[V, .agg (stp k S n h)] w fun e w' => e = .returned (.string (putB k S n h)) ∧ ∃ r', BufV w' V g r' (s ++ putB k S n h) ∧ Wrote g r w r' w' := by
  have hz := putB_size k S n h hS hn hh
  have hx : ∀ i, (g = some i ∨ r = some i) → i < w.heap.size := H.lt
  go_enter Try.func8, Try.ntmps8
  go_wp2_with (refine park_at 6 rfl ?_)
  have R0 : Hid (Rowz (w.alloc (.cells (stp k S n h) 35)) w.heap.size (stp k S n h) 35) := Lib.hid (Rowz.new w _ _)
  have K0 : Hid (Kept w (w.alloc (.cells (stp k S n h) 35))) := Lib.hid ((Kept.refl w).alloc _)
  have HV : Hid (BufV (w.alloc (.cells (stp k S n h) 35)) V g r s) := Lib.hid (H.kept K0.out)
  have hbg : some w.heap.size ≠ g := fun e => Nat.lt_irrefl _ (hx _ (.inl e.symm))
  have hbr : some w.heap.size ≠ r := fun e => Nat.lt_irrefl _ (hx _ (.inr e.symm))
  clear H hx
  obtain ⟨b, hb⟩ : ∃ b, b = w.heap.size := ⟨_, rfl⟩
  rw [← hb] at R0 hbg hbr ⊢
  clear hb
  generalize w.alloc (.cells (stp k S n h) 35) = v at R0 K0 HV ⊢
  refine unpark ?_
  have HZ : Hid ((s ++ putB k S n h).size ≤ 140737488355328) := Lib.hid (by rw [ByteArray.size_append]; omega)
  clear hz
  have c0 : v.cell? ⟨b, 0, none⟩ = some (.int .i64 k) := stp_c0 R0.out
  by_cases h1 : k = 1
  · subst h1
    have HP : Hid (putB 1 S n h = S ++ S) := Lib.hid (by simp [putB])
    rw [HP.out] at HZ
    have c1 : v.cell? ⟨b, 1, none⟩ = some (.string S) := stp_c1 R0.out
    have hn1 : ¬ (9223372036854775807 < S.size + S.size) := by omega
    go_wp2_with (go_at_call 17; refine (bufRaw_new V g r s 2 [S, S] v HV.out rfl (by omega) _ rfl (by rw [show catB s [S, S] = s ++ S ++ S from rfl, ba_assoc]; exact HZ.out)).mono ?_; rintro e w1 ⟨rfl, r1, H1, W1⟩; have R1 := R0.out.wrote W1 hbg hbr; have c1' : w1.cell? ⟨b, 1, none⟩ = some (.string S) := stp_c1 R1; replace H1 := Lib.hid H1; replace W1 := Lib.hid W1; clear R1)
    go_ret
    rw [HP.out]
    refine ⟨rfl, r1, ?_, Wrote.trans (Wrote.ofKept K0.out) W1.out⟩
    rw [← ba_assoc]
    exact H1.out
  by_cases h2 : k = 2
  · subst h2
    have HP : Hid (putB 2 S n h = oneB (n % 256)) := Lib.hid (by simp [putB])
    rw [HP.out] at HZ
    have c2 : v.cell? ⟨b, 2, none⟩ = some (.int .u64 (n : Int)) := stp_c2 R0.out
    have HB := bufByte_any V g r s (n % 256) (by omega) v HV.out HZ.out
    rw [show (((n % 256 : Nat)) : Int) = (n : Int) % 256 by omega] at HB
    replace HB := Lib.hid HB
    go_wp2_with (go_at_call 18; refine HB.out.mono ?_; rintro e w1 ⟨rfl, r1, H1, W1⟩; have R1 := R0.out.wrote W1 hbg hbr; have c2' : w1.cell? ⟨b, 2, none⟩ = some (.int .u64 (n : Int)) := stp_c2 R1; have hcv := run_byteI n w1; replace H1 := Lib.hid H1; replace W1 := Lib.hid W1; clear R1)
    go_ret
    rw [HP.out]
    exact ⟨rfl, r1, H1.out.kept ((Kept.refl _).alloc _), Wrote.trans (Wrote.trans (Wrote.ofKept K0.out) W1.out) (Wrote.ofKept ((Kept.refl _).alloc _))⟩
  by_cases h3 : k = 3
  · subst h3
    have HP : Hid (putB 3 S n h = vS n) := Lib.hid (by simp [putB])
    rw [HP.out] at HZ
    have c2 : v.cell? ⟨b, 2, none⟩ = some (.int .u64 (n : Int)) := stp_c2 R0.out
    have HB := Lib.hid (bufNum_any V g r s n hn v HV.out HZ.out)
    go_wp2_with (first
      | (go_at_call 15; refine HB.out.mono ?_; rintro e w1 ⟨rfl, r1, H1, W1⟩; have R1 := R0.out.wrote W1 hbg hbr; have c2' : w1.cell? ⟨b, 2, none⟩ = some (.int .u64 (n : Int)) := stp_c2 R1; replace H1 := Lib.hid H1; replace W1 := Lib.hid W1; clear R1)
      | (go_at_call 19; refine (refPut7_any n _ hn).mono ?_; rintro e w2 ⟨rfl, G2⟩; replace G2 := Lib.hid G2))
    go_ret
    rw [HP.out]
    exact ⟨rfl, r1, H1.out.kept (Grown.kept G2.out), Wrote.trans (Wrote.trans (Wrote.ofKept K0.out) W1.out) (Wrote.ofKept (Grown.kept G2.out))⟩
  by_cases h4 : k = 4
  · subst h4
    have HP : Hid (putB 4 S n h = hB h ++ hB h) := Lib.hid (by simp [putB])
    rw [HP.out] at HZ
    go_wp2_with (refine park_at 46 rfl ?_)
    refine unpark ?_
    refine wpList_exec 46 rfl (by rfl) (.agg (bC 32 h)) _ (execLoadAny rfl rfl (run_loadH3 R0.out)) ?_
    go_wp2_with (refine park_at 48 rfl ?_)
    refine unpark ?_
    refine wpList_exec 48 rfl (by rfl) (.agg (bC 32 h)) _ (execLoadAny rfl rfl (run_loadH3 R0.out)) ?_
    have hbs := run_build2h h h hh v
    have hvx : ∀ i, (g = some i ∨ r = some i) → i < v.heap.size := HV.out.lt
    have HB := Lib.hid (bufHash_any V g r s v.heap.size 2 2 (h ++ h) (v.alloc (.cells (bC 64 (h ++ h)) 33)) (HV.out.kept ((Kept.refl v).alloc _)) (by simp [hh]) (by omega) 33 (Rowz.new v _ _) (fun e => Nat.lt_irrefl _ (hvx _ (.inl e.symm))) (fun e => Nat.lt_irrefl _ (hvx _ (.inr e.symm))) (by rw [hB_append]; exact HZ.out))
    have hbv : b < v.heap.size := R0.out.lt
    clear hvx
    go_wp2_with (refine park_at 49 rfl ?_)
    refine unpark ?_
    refine wpList_exec 49 rfl (by rfl) (.slice (some ⟨v.heap.size, 0, none⟩) 2 2) (v.alloc (.cells (bC 64 (h ++ h)) 33)) (execBuild2 rfl rfl rfl hbs) ?_
    clear hbs
    go_wp2_with (go_at_call 20; refine HB.out.mono ?_; rintro e w1 ⟨rfl, r1, H1, W1⟩; rw [hB_append] at H1; have R1 := Lib.hid ((R0.out.alloc _).wrote W1 hbg hbr); replace H1 := Lib.hid H1; replace W1 := Lib.hid W1)
    refine wp_region_table [(51, .is (.pointer (some ⟨b, 3, none⟩))), (52, .is (.agg (bC 32 h))), (53, .is (.string (hB h))), (54, .is (.pointer (some ⟨b, 3, none⟩))), (55, .is (.agg (bC 32 h))), (56, .is (.string (hB h))), (57, .is (.string (hB h ++ hB h))), (4, .is (.string (hB h ++ hB h)))] (by kernel_rfl) (by kernel_rfl) ?_ ?_
    · refine ⟨fun t w1 hf hk hp => ?_, ?_⟩
      · have h3 : slot t 3 = .pointer (some ⟨b, 0, none⟩) := hf 3 (by kernel_rfl)
        clear hf hp
        refine stepAt_plain rfl ?_
        refine stepOK_pure (.pointer (some ⟨b, 3, none⟩)) ?_ rfl
        simp only [execOp, evS, h3]
        go_simp
      refine ⟨fun t w1 hf hk hp => ?_, ?_⟩
      · have h51 : slot t 51 = .pointer (some ⟨b, 3, none⟩) := hp 51 (by kernel_rfl)
        clear hf hp
        refine stepAt_plain rfl ?_
        have hq0 := run_loadH3 (R1.out.kept hk)
        exact stepOK_sem (.agg (bC 32 h)) (by simp only [execOp, evS, h51]) hq0 rfl
      refine ⟨fun t w1 hf hk hp => ?_, ?_⟩
      · have h52 : slot t 52 = .agg (bC 32 h) := hp 52 (by kernel_rfl)
        clear hf hp
        refine stepAt_plain rfl ?_
        refine stepOK_call #[.agg (bC 32 h)] rfl (by simp only [List.map_toArray, List.map_cons, List.map_nil, evS, h52]) (by go_simp) ((refRawB_any h hh w1).mono fun e w' ⟨he, hk'⟩ => ⟨_, he, Grown.kept hk', rfl⟩)
      refine ⟨fun t w1 hf hk hp => ?_, ?_⟩
      · have h3 : slot t 3 = .pointer (some ⟨b, 0, none⟩) := hf 3 (by kernel_rfl)
        clear hf hp
        refine stepAt_plain rfl ?_
        refine stepOK_pure (.pointer (some ⟨b, 3, none⟩)) ?_ rfl
        simp only [execOp, evS, h3]
        go_simp
      refine ⟨fun t w1 hf hk hp => ?_, ?_⟩
      · have h54 : slot t 54 = .pointer (some ⟨b, 3, none⟩) := hp 54 (by kernel_rfl)
        clear hf hp
        refine stepAt_plain rfl ?_
        have hq0 := run_loadH3 (R1.out.kept hk)
        exact stepOK_sem (.agg (bC 32 h)) (by simp only [execOp, evS, h54]) hq0 rfl
      refine ⟨fun t w1 hf hk hp => ?_, ?_⟩
      · have h55 : slot t 55 = .agg (bC 32 h) := hp 55 (by kernel_rfl)
        clear hf hp
        refine stepAt_plain rfl ?_
        refine stepOK_call #[.agg (bC 32 h)] rfl (by simp only [List.map_toArray, List.map_cons, List.map_nil, evS, h55]) (by go_simp) ((refRawB_any h hh w1).mono fun e w' ⟨he, hk'⟩ => ⟨_, he, Grown.kept hk', rfl⟩)
      refine ⟨fun t w1 hf hk hp => ?_, ?_⟩
      · have h53 : slot t 53 = .string (hB h) := hp 53 (by kernel_rfl)
        have h56 : slot t 56 = .string (hB h) := hp 56 (by kernel_rfl)
        clear hf hp
        refine stepAt_plain rfl ?_
        exact stepOK_add ((hB h)) ((hB h)) ((hB h ++ hB h)) rfl h53 h56 (by rw [hB_size]; omega) (rfl) rfl
      refine ⟨fun t w1 hf hk hp => ?_, ?_⟩
      · have h57 : slot t 57 = .string (hB h ++ hB h) := hp 57 (by kernel_rfl)
        clear hf hp
        refine stepAt_plain rfl ?_
        exact stepOK_move _ (.inr rfl) h57
      exact trivial
    · intro t w1 hsz hf hk hfacts
      have h4 : slot t 4 = .string (hB h ++ hB h) := hfacts 7 _ rfl 4 rfl
      have h3 : slot t 3 = .pointer (some ⟨b, 0, none⟩) := hf 3 (by kernel_rfl)
      have harr : t = #[slot t 0, slot t 1, slot t 2, slot t 3, slot t 4, slot t 5, slot t 6, slot t 7, slot t 8, slot t 9, slot t 10, slot t 11, slot t 12, slot t 13, slot t 14, slot t 15, slot t 16, slot t 17, slot t 18, slot t 19, slot t 20, slot t 21, slot t 22, slot t 23, slot t 24, slot t 25, slot t 26, slot t 27, slot t 28, slot t 29, slot t 30, slot t 31, slot t 32, slot t 33, slot t 34, slot t 35, slot t 36, slot t 37, slot t 38, slot t 39, slot t 40, slot t 41, slot t 42, slot t 43, slot t 44, slot t 45, slot t 46, slot t 47, slot t 48, slot t 49, slot t 50, slot t 51, slot t 52, slot t 53, slot t 54, slot t 55, slot t 56, slot t 57, slot t 58, slot t 59, slot t 60, slot t 61, slot t 62, slot t 63, slot t 64, slot t 65, slot t 66, slot t 67, slot t 68, slot t 69] := arr_eq t 70 hsz
      rw [harr, h4, h3]
      clear harr hfacts hf h4 h3
      generalize slot t 0 = x0; generalize slot t 1 = x1; generalize slot t 2 = x2; generalize slot t 5 = x5; generalize slot t 6 = x6; generalize slot t 7 = x7; generalize slot t 8 = x8; generalize slot t 9 = x9; generalize slot t 10 = x10; generalize slot t 11 = x11; generalize slot t 12 = x12; generalize slot t 13 = x13
      generalize slot t 14 = x14; generalize slot t 15 = x15; generalize slot t 16 = x16; generalize slot t 17 = x17; generalize slot t 18 = x18; generalize slot t 19 = x19; generalize slot t 20 = x20; generalize slot t 21 = x21; generalize slot t 22 = x22; generalize slot t 23 = x23; generalize slot t 24 = x24; generalize slot t 25 = x25
      generalize slot t 26 = x26; generalize slot t 27 = x27; generalize slot t 28 = x28; generalize slot t 29 = x29; generalize slot t 30 = x30; generalize slot t 31 = x31; generalize slot t 32 = x32; generalize slot t 33 = x33; generalize slot t 34 = x34; generalize slot t 35 = x35; generalize slot t 36 = x36; generalize slot t 37 = x37
      generalize slot t 38 = x38; generalize slot t 39 = x39; generalize slot t 40 = x40; generalize slot t 41 = x41; generalize slot t 42 = x42; generalize slot t 43 = x43; generalize slot t 44 = x44; generalize slot t 45 = x45; generalize slot t 46 = x46; generalize slot t 47 = x47; generalize slot t 48 = x48; generalize slot t 49 = x49
      generalize slot t 50 = x50; generalize slot t 51 = x51; generalize slot t 52 = x52; generalize slot t 53 = x53; generalize slot t 54 = x54; generalize slot t 55 = x55; generalize slot t 56 = x56; generalize slot t 57 = x57; generalize slot t 58 = x58; generalize slot t 59 = x59; generalize slot t 60 = x60; generalize slot t 61 = x61
      generalize slot t 62 = x62; generalize slot t 63 = x63; generalize slot t 64 = x64; generalize slot t 65 = x65; generalize slot t 66 = x66; generalize slot t 67 = x67; generalize slot t 68 = x68; generalize slot t 69 = x69
      clear hsz t
      replace hk := Lib.hid hk
      go_wp2_with fail
      go_ret
      rw [HP.out]
      exact ⟨rfl, r1, H1.out.kept hk.out, Wrote.trans (Wrote.trans (Wrote.ofKept K0.out) (Wrote.trans (Wrote.ofKept ((Kept.refl _).alloc _)) W1.out)) (Wrote.ofKept hk.out)⟩
  have HP : Hid (putB k S n h = vS S.size ++ S) := Lib.hid (by simp [putB, h1, h2, h3, h4])
  have d1 : (k == 1) = false := by simp [h1]
  have d2 : (k == 2) = false := by simp [h2]
  have d3 : (k == 3) = false := by simp [h3]
  have d4 : (k == 4) = false := by simp [h4]
  clear h1 h2 h3 h4
  rw [HP.out] at HZ
  have c1 : v.cell? ⟨b, 1, none⟩ = some (.string S) := stp_c1 R0.out
  have HB := Lib.hid (bufText_any V g r s S (by omega) v HV.out HZ.out)
  go_wp2_with (go_at_call 16; refine HB.out.mono ?_; rintro e w1 ⟨rfl, r1, H1, W1⟩; have R1 := Lib.hid (R0.out.wrote W1 hbg hbr); replace H1 := Lib.hid H1; replace W1 := Lib.hid W1)
  have hv7 : (vS S.size).size ≤ 10 := by rw [vS_size]; exact vs_len10 _ (by omega)
  refine wp_region_table [(62, .is (.pointer (some ⟨b, 1, none⟩))), (63, .is (.string S)), (64, .is (.int .i64 (S.size : Int))), (65, .is (.int .u64 (S.size : Int))), (66, .is (.string (vS S.size))), (67, .is (.pointer (some ⟨b, 1, none⟩))), (68, .is (.string S)), (69, .is (.string (vS S.size ++ S))), (4, .is (.string (vS S.size ++ S)))] (by kernel_rfl) (by kernel_rfl) ?_ ?_
  · refine ⟨fun t w1 hf hk hp => ?_, ?_⟩
    · have h3 : slot t 3 = .pointer (some ⟨b, 0, none⟩) := hf 3 (by kernel_rfl)
      clear hf hp
      refine stepAt_plain rfl ?_
      refine stepOK_pure (.pointer (some ⟨b, 1, none⟩)) ?_ rfl
      simp only [execOp, evS, h3]
      go_simp
    refine ⟨fun t w1 hf hk hp => ?_, ?_⟩
    · have h62 : slot t 62 = .pointer (some ⟨b, 1, none⟩) := hp 62 (by kernel_rfl)
      clear hf hp
      refine stepAt_plain rfl ?_
      have hq0 := stp_c1 (R1.out.kept hk)
      refine stepOK_pure (.string S) ?_ rfl
      simp only [execOp, evS, h62]
      go_simp
    refine ⟨fun t w1 hf hk hp => ?_, ?_⟩
    · have h63 : slot t 63 = .string S := hp 63 (by kernel_rfl)
      clear hf hp
      refine stepAt_plain rfl ?_
      exact stepOK_pure (.int .i64 (S.size : Int)) (execLenS w1 rfl rfl h63) rfl
    refine ⟨fun t w1 hf hk hp => ?_, ?_⟩
    · have h64 : slot t 64 = .int .i64 (S.size : Int) := hp 64 (by kernel_rfl)
      clear hf hp
      refine stepAt_plain rfl ?_
      have hq0 := wrapU64 S.size (by omega)
      refine stepOK_pure (.int .u64 (S.size : Int)) ?_ rfl
      simp only [execOp, evS, h64]
      go_simp
    refine ⟨fun t w1 hf hk hp => ?_, ?_⟩
    · have h65 : slot t 65 = .int .u64 (S.size : Int) := hp 65 (by kernel_rfl)
      clear hf hp
      refine stepAt_plain rfl ?_
      refine stepOK_call #[.int .u64 (S.size : Int)] rfl (by simp only [List.map_toArray, List.map_cons, List.map_nil, evS, h65]) (by go_simp) ((refPut7_any S.size w1 (by omega)).mono fun e w' ⟨he, hk'⟩ => ⟨_, he, Grown.kept hk', rfl⟩)
    refine ⟨fun t w1 hf hk hp => ?_, ?_⟩
    · have h3 : slot t 3 = .pointer (some ⟨b, 0, none⟩) := hf 3 (by kernel_rfl)
      clear hf hp
      refine stepAt_plain rfl ?_
      refine stepOK_pure (.pointer (some ⟨b, 1, none⟩)) ?_ rfl
      simp only [execOp, evS, h3]
      go_simp
    refine ⟨fun t w1 hf hk hp => ?_, ?_⟩
    · have h67 : slot t 67 = .pointer (some ⟨b, 1, none⟩) := hp 67 (by kernel_rfl)
      clear hf hp
      refine stepAt_plain rfl ?_
      have hq0 := stp_c1 (R1.out.kept hk)
      refine stepOK_pure (.string S) ?_ rfl
      simp only [execOp, evS, h67]
      go_simp
    refine ⟨fun t w1 hf hk hp => ?_, ?_⟩
    · have h66 : slot t 66 = .string (vS S.size) := hp 66 (by kernel_rfl)
      have h68 : slot t 68 = .string S := hp 68 (by kernel_rfl)
      clear hf hp
      refine stepAt_plain rfl ?_
      exact stepOK_add ((vS S.size)) (S) ((vS S.size ++ S)) rfl h66 h68 (by omega) (rfl) rfl
    refine ⟨fun t w1 hf hk hp => ?_, ?_⟩
    · have h69 : slot t 69 = .string (vS S.size ++ S) := hp 69 (by kernel_rfl)
      clear hf hp
      refine stepAt_plain rfl ?_
      exact stepOK_move _ (.inr rfl) h69
    exact trivial
  · intro t w1 hsz hf hk hfacts
    have h4 : slot t 4 = .string (vS S.size ++ S) := hfacts 8 _ rfl 4 rfl
    have h3 : slot t 3 = .pointer (some ⟨b, 0, none⟩) := hf 3 (by kernel_rfl)
    have harr : t = #[slot t 0, slot t 1, slot t 2, slot t 3, slot t 4, slot t 5, slot t 6, slot t 7, slot t 8, slot t 9, slot t 10, slot t 11, slot t 12, slot t 13, slot t 14, slot t 15, slot t 16, slot t 17, slot t 18, slot t 19, slot t 20, slot t 21, slot t 22, slot t 23, slot t 24, slot t 25, slot t 26, slot t 27, slot t 28, slot t 29, slot t 30, slot t 31, slot t 32, slot t 33, slot t 34, slot t 35, slot t 36, slot t 37, slot t 38, slot t 39, slot t 40, slot t 41, slot t 42, slot t 43, slot t 44, slot t 45, slot t 46, slot t 47, slot t 48, slot t 49, slot t 50, slot t 51, slot t 52, slot t 53, slot t 54, slot t 55, slot t 56, slot t 57, slot t 58, slot t 59, slot t 60, slot t 61, slot t 62, slot t 63, slot t 64, slot t 65, slot t 66, slot t 67, slot t 68, slot t 69] := arr_eq t 70 hsz
    rw [harr, h4, h3]
    clear harr hfacts hf h4 h3
    generalize slot t 0 = x0; generalize slot t 1 = x1; generalize slot t 2 = x2; generalize slot t 5 = x5; generalize slot t 6 = x6; generalize slot t 7 = x7; generalize slot t 8 = x8; generalize slot t 9 = x9; generalize slot t 10 = x10; generalize slot t 11 = x11; generalize slot t 12 = x12; generalize slot t 13 = x13
    generalize slot t 14 = x14; generalize slot t 15 = x15; generalize slot t 16 = x16; generalize slot t 17 = x17; generalize slot t 18 = x18; generalize slot t 19 = x19; generalize slot t 20 = x20; generalize slot t 21 = x21; generalize slot t 22 = x22; generalize slot t 23 = x23; generalize slot t 24 = x24; generalize slot t 25 = x25
    generalize slot t 26 = x26; generalize slot t 27 = x27; generalize slot t 28 = x28; generalize slot t 29 = x29; generalize slot t 30 = x30; generalize slot t 31 = x31; generalize slot t 32 = x32; generalize slot t 33 = x33; generalize slot t 34 = x34; generalize slot t 35 = x35; generalize slot t 36 = x36; generalize slot t 37 = x37
    generalize slot t 38 = x38; generalize slot t 39 = x39; generalize slot t 40 = x40; generalize slot t 41 = x41; generalize slot t 42 = x42; generalize slot t 43 = x43; generalize slot t 44 = x44; generalize slot t 45 = x45; generalize slot t 46 = x46; generalize slot t 47 = x47; generalize slot t 48 = x48; generalize slot t 49 = x49
    generalize slot t 50 = x50; generalize slot t 51 = x51; generalize slot t 52 = x52; generalize slot t 53 = x53; generalize slot t 54 = x54; generalize slot t 55 = x55; generalize slot t 56 = x56; generalize slot t 57 = x57; generalize slot t 58 = x58; generalize slot t 59 = x59; generalize slot t 60 = x60; generalize slot t 61 = x61
    generalize slot t 62 = x62; generalize slot t 63 = x63; generalize slot t 64 = x64; generalize slot t 65 = x65; generalize slot t 66 = x66; generalize slot t 67 = x67; generalize slot t 68 = x68; generalize slot t 69 = x69
    clear hsz t
    replace hk := Lib.hid hk
    go_wp2_with fail
    go_ret
    rw [HP.out]
    exact ⟨rfl, r1, H1.out.kept hk.out, Wrote.trans (Wrote.trans (Wrote.ofKept K0.out) W1.out) (Wrote.ofKept hk.out)⟩
end Go.Proofs.Ytmccpbpnpdidbaa
