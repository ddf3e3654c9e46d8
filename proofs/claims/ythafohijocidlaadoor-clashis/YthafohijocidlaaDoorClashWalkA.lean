/-
  Contracts of clash.Is, contradict, unlike and of the closure that makes an inner node's text. Conditions: texts of at most two millions of bytes; a slice's length and capacity fit; sha's table of round constants stands.
-/
import Derived.Test.YthafohijocidlaaDoorClashMath
import Derived.Test.YthafohijocidlaaDoorHld
import Derived.Test.YthafohijocidlaaDoorTxsLib
import Derived.BigQuiet
import Derived.OwnWalk
namespace Go.Proofs.YthafohijocidlaaDoor
set_option maxRecDepth 4000
open Go.RowKit

/-! ### A leaf with its opening, in memory -/
theorem run_loadLO {w : World} {g : Nat} {s : ByteArray} {I N : Int} {p : Option Addr} {m c : Nat} (R : Rowz w g #[.string s, .int .i64 I, .int .i64 N, .slice p m c] 31) :
    (Instr.loadAt 29 (.pointer (some ⟨g, 1, none⟩))).run Tryd.prog w = .ok (.agg #[.int .i64 I, .int .i64 N, .slice p m c]) w := by
  have c1 : w.cell? ⟨g, 1, none⟩ = some (.int .i64 I) := R.cell 1
  have c2 : w.cell? ⟨g, 2, none⟩ = some (.int .i64 N) := R.cell 2
  have c3 : w.cell? ⟨g, 3, none⟩ = some (.slice p m c) := R.cell 3
  go_simp
theorem run_loadLS {w : World} {g : Nat} {s : ByteArray} {I N : Int} {v : Value} (R : Rowz w g #[.string s, .int .i64 I, .int .i64 N, v] 31) :
    (Instr.loadAt 9 (.pointer (some ⟨g, 0, none⟩))).run Tryd.prog w = .ok (.string s) w := by
  have c0 : w.cell? ⟨g, 0, none⟩ = some (.string s) := R.cell 0
  go_simp
theorem loadLf {o : Oper} {t : Array Value} {x : Operand} {w : World} {g : Nat} {C : Array Value} (ho : o.op = .load 31 x) (hx : evS t x = .pointer (some ⟨g, 0, none⟩)) (hg : Rowz w g C 31) (hs : C.size = 4) :
    (execOp (evS t) o).run Tryd.prog w = .ok (.value (.agg C)) w :=
  execLoadRow 31 ho g hx C 31 _ hg Tryd.underlying31 rfl (by rw [hs]; kernel_rfl)
theorem execFieldL {o : Oper} {t : Array Value} {x : Operand} (b k : Nat) (hk : k = 0 ∨ k = 1) (w : World) (ho : o.op = .fieldAddr 31 x k) (hx : evS t x = .pointer (some ⟨b, 0, none⟩)) :
    (execOp (evS t) o).run Tryd.prog w = .ok (.value (.pointer (some ⟨b, k, none⟩))) w := by
  rcases hk with rfl | rfl
  all_goals
    unfold execOp
    rw [ho]
    simp only [hx]
    go_simp
theorem execFieldO1 {o : Oper} {t : Array Value} {x : Operand} (b k j : Nat) (hk : k = 0 ∨ k = 1 ∨ k = 2) (hj : j = k + 1) (w : World) (ho : o.op = .fieldAddr 29 x k) (hx : evS t x = .pointer (some ⟨b, 1, none⟩)) :
    (execOp (evS t) o).run Tryd.prog w = .ok (.value (.pointer (some ⟨b, j, none⟩))) w := by
  subst hj
  rcases hk with rfl | rfl | rfl
  all_goals
    unfold execOp
    rw [ho]
    simp only [hx]
    go_simp
theorem leafR_size (s : ByteArray) (I N : Int) (v : Value) : (Tryd.prog.info? 31).map (·.size) = some (#[.string s, .int .i64 I, .int .i64 N, v] : Array Value).size := by
  show _ = some 4; kernel_rfl
theorem leafR_one (s : ByteArray) (I N : Int) (p : Option Addr) (n c : Nat) : (#[.string s, .int .i64 I, .int .i64 N, .slice p n c] : Array Value).all (·.oneCell') = true := by simp [Value.oneCell']
theorem execEqI {o : Oper} {t : Array Value} {x y : Operand} (a b : Int) (w : World) (ho : o.op = .binOp .eql 3 x y 3) (hx : evS t x = .int .i64 a) (hy : evS t y = .int .i64 b) :
    (execOp (evS t) o).run Tryd.prog w = .ok (.value (.bool (decide (a = b)))) w := by
  have e : (a == b) = decide (a = b) := rfl
  rw [← e]
  unfold execOp
  rw [ho]
  simp only [hx, hy]
  go_simp

/-! ### clash.Is -/
set_option maxRecDepth 100000 in
set_option maxHeartbeats 1000000 in
theorem clashIs_any (a b : ByteArray) (ha : a.size ≤ 140737488351232) (hb : b.size ≤ 140737488351232) (w : World) (ht : Tab w) :
    Calls Tryd.prog 7 #[.string a, .string b] w fun e w' => e = .returned (.bool (!decide (a = b) && decide (shaL a = shaL b))) ∧ Kept w w' := by
  have HT := Lib.hid ht
  have HA : Hid (∀ w, Tab w → _) := Lib.hid fun w ht => shaSum_any a w ht ha
  have HB : Hid (∀ w, Tab w → _) := Lib.hid fun w ht => shaSum_any b w ht hb
  have la := shaL_length a
  have lb := shaL_length b
  clear ht ha hb
  generalize shaL a = A at HA la ⊢
  generalize shaL b = B at HB lb ⊢
  by_cases h : a = b
  · have e1 : (a.toList == b.toList) = true := by rw [h]; simp
    have e2 : (a.toList != b.toList) = false := by rw [h]; simp
    rw [show (!decide (a = b) && decide (A = B)) = false by simp [h]]
    clear h HA HB la lb
    go_enter Tryd.func7, Tryd.ntmps7
    go_wp2_with fail
    go_ret
    exact ⟨rfl, Kept.refl w⟩
  · have e1 : (a.toList == b.toList) = false := by rw [beq_strs]; simpa using h
    have e2 : (a.toList != b.toList) = true := by rw [bne, e1]; rfl
    rw [show (!decide (a = b) && decide (A = B)) = decide (A = B) by simp [h]]
    clear h
    go_enter Tryd.func7, Tryd.ntmps7
    go_wp2_with fail
    refine (HA.out w HT.out).mono ?_
    rintro e w1 ⟨rfl, k1⟩
    have K1 := Lib.hid (Grown.kept k1)
    clear k1 HA
    go_wp2_with fail
    refine (HB.out w1 (HT.out.kept K1.out)).mono ?_
    rintro e w2 ⟨rfl, k2⟩
    have K2 := Lib.hid (K1.out.trans (Grown.kept k2))
    clear k2 HB K1
    go_wp2_with (refine wpList_exec 13 rfl (by rfl) (.bool (decide (A = B))) _ (execEqHs A B la lb _ rfl rfl rfl) ?_)
    go_ret
    exact ⟨rfl, K2.out⟩

/-! ### clash.contradict -/
set_option maxRecDepth 100000 in
set_option maxHeartbeats 2000000 in
theorem clashContra_any (r : List UInt8) (hr : r.length = 32) (s u : ByteArray) (hs : s.size ≤ 1000000) (hs' : u.size ≤ 1000000) (I N I' N' : Int) (p p' : Option Addr) (m m' c c' : Nat) (F G : Nat → List UInt8) (w : World)
    (hv : HSl m F (.slice p m c) w) (hv' : HSl m' G (.slice p' m' c') w) (ht : Tab w) :
    Calls Tryd.prog 20 #[.agg (bC 32 r), .agg #[.string s, .int .i64 I, .int .i64 N, .slice p m c], .agg #[.string u, .int .i64 I', .int .i64 N', .slice p' m' c']] w fun e w' => e = .returned (.bool (coB r s I N m F u I' N' m' G)) ∧ Kept w w' := by
  have HT := Lib.hid ht
  have HV := Lib.hid hv
  have HV' := Lib.hid hv'
  have HA : Hid (∀ w, HSl m F (.slice p m c) w → Tab w → _) := Lib.hid fun w hv ht => holdCheck_any r hr s hs I N m F _ w hv ht
  have HB : Hid (∀ w, HSl m' G (.slice p' m' c') w → Tab w → _) := Lib.hid fun w hv ht => holdCheck_any r hr u hs' I' N' m' G _ w hv ht
  obtain ⟨D1, hD1⟩ : ∃ D, D = !decide (s = u) := ⟨_, rfl⟩
  obtain ⟨D2, hD2⟩ : ∃ D, D = decide (I = I') := ⟨_, rfl⟩
  have hco : coB r s I N m F u I' N' m' G = (D1 && (D2 && (ckO r s I N m F && ckO r u I' N' m' G))) := by
    rw [hD1, hD2, coB]
    simp
  rw [hco]
  clear hco ht hv hv' hr
  generalize ckO r s I N m F = C1 at HA ⊢
  generalize ckO r u I' N' m' G = C2 at HB ⊢
  replace hD1 := Lib.hid hD1
  replace hD2 := Lib.hid hD2
  have R3 := Lib.hid (((Rowz.new w (bC 32 r) 25).alloc (.cells #[.string s, .int .i64 I, .int .i64 N, .slice p m c] 31)).alloc (.cells #[.string u, .int .i64 I', .int .i64 N', .slice p' m' c'] 31))
  have R4 := Lib.hid ((Rowz.newEq1 w (.cells (bC 32 r) 25) _ #[.string s, .int .i64 I, .int .i64 N, .slice p m c] 31 rfl).alloc (.cells #[.string u, .int .i64 I', .int .i64 N', .slice p' m' c'] 31))
  have R5 := Lib.hid (Rowz.newEq1 (w.alloc (.cells (bC 32 r) 25)) (.cells #[.string s, .int .i64 I, .int .i64 N, .slice p m c] 31) _ #[.string u, .int .i64 I', .int .i64 N', .slice p' m' c'] 31 rfl)
  have K1 := Lib.hid ((((Kept.refl w).alloc (.cells (bC 32 r) 25)).alloc (.cells #[.string s, .int .i64 I, .int .i64 N, .slice p m c] 31)).alloc (.cells #[.string u, .int .i64 I', .int .i64 N', .slice p' m' c'] 31))
  have b1 : (w.alloc (.cells (bC 32 r) 25)).heap.size + 1 = w.heap.size + 2 := by simp
  rw [b1] at R5
  clear b1
  go_enter Tryd.func20, Tryd.ntmps20
  go_wp2_with (refine park_at 7 rfl ?_)
  generalize ((w.alloc (.cells (bC 32 r) 25)).alloc (.cells #[.string s, .int .i64 I, .int .i64 N, .slice p m c] 31)).alloc (.cells #[.string u, .int .i64 I', .int .i64 N', .slice p' m' c'] 31) = v1 at R3 R4 R5 K1 ⊢
  cases D1 with
  | false =>
    refine unpark ?_
    refine wpList_table 31 [(7, .is (.pointer (some ⟨w.heap.size + 1, 0, none⟩))), (8, .is (.string s)), (9, .is (.pointer (some ⟨w.heap.size + 2, 0, none⟩))), (10, .is (.string u)), (11, .is (.bool false)), (12, .is (.bool false)), (13, .is (undef)), (14, .is (undef)), (15, .is (undef)), (16, .is (undef)), (17, .is (undef)), (18, .is (undef)), (19, .is (undef)), (20, .is (.bool false)), (21, .is (.bool false)), (22, .is (undef)), (23, .is (undef)), (24, .is (undef)), (25, .is (undef)), (26, .is (undef)), (27, .is (undef)), (28, .is (.bool false)), (29, .is (.bool false)), (30, .is (undef)), (31, .is (undef)), (32, .is (undef)), (33, .is (undef)), (34, .is (undef)), (35, .is (undef)), (36, .is (.bool false)), (6, .is (.bool false))] (by kernel_rfl) ?_ ?_
    · refine ⟨fun t w1 hf hk hp => ?_, ?_⟩
      · have h4 : slot t 4 = .pointer (some ⟨w.heap.size + 1, 0, none⟩) := hf 4 (by kernel_rfl)
        clear hf hp
        refine stepAt_plain rfl ?_
        exact stepOK_pure (.pointer (some ⟨w.heap.size + 1, 0, none⟩)) (execFieldL (w.heap.size + 1) 0 (by omega) w1 rfl h4) rfl
      refine ⟨fun t w1 hf hk hp => ?_, ?_⟩
      · have h7 : slot t 7 = .pointer (some ⟨w.heap.size + 1, 0, none⟩) := hp 7 (by kernel_rfl)
        clear hf hp
        refine stepAt_plain rfl ?_
        have hq0 := run_loadLS (R4.out.kept hk)
        exact stepOK_sem (.string s) (by simp only [execOp, evS, h7]) hq0 rfl
      refine ⟨fun t w1 hf hk hp => ?_, ?_⟩
      · have h5 : slot t 5 = .pointer (some ⟨w.heap.size + 2, 0, none⟩) := hf 5 (by kernel_rfl)
        clear hf hp
        refine stepAt_plain rfl ?_
        exact stepOK_pure (.pointer (some ⟨w.heap.size + 2, 0, none⟩)) (execFieldL (w.heap.size + 2) 0 (by omega) w1 rfl h5) rfl
      refine ⟨fun t w1 hf hk hp => ?_, ?_⟩
      · have h9 : slot t 9 = .pointer (some ⟨w.heap.size + 2, 0, none⟩) := hp 9 (by kernel_rfl)
        clear hf hp
        refine stepAt_plain rfl ?_
        have hq0 := run_loadLS (R5.out.kept hk)
        exact stepOK_sem (.string u) (by simp only [execOp, evS, h9]) hq0 rfl
      refine ⟨fun t w1 hf hk hp => ?_, ?_⟩
      · have h8 : slot t 8 = .string s := hp 8 (by kernel_rfl)
        have h10 : slot t 10 = .string u := hp 10 (by kernel_rfl)
        clear hf hp
        refine stepAt_plain rfl ?_
        exact stepOK_pure (.bool false) (by rw [hD1.out]; exact execNeS s u w1 rfl h8 h10) rfl
      refine ⟨fun t w1 hf hk hp => ?_, ?_⟩
      · have h11 : slot t 11 = .bool false := hp 11 (by kernel_rfl)
        clear hf hp
        refine stepAt_plain rfl ?_
        exact stepOK_move _ (.inl rfl) h11
      refine ⟨fun t w1 hf hk hp => ?_, ?_⟩
      · have h12 : slot t 12 = .bool false := hp 12 (by kernel_rfl)
        clear hf hp
        exact stepAt_off 12 true (by kernel_rfl) h12 rfl
      refine ⟨fun t w1 hf hk hp => ?_, ?_⟩
      · have h12 : slot t 12 = .bool false := hp 12 (by kernel_rfl)
        clear hf hp
        exact stepAt_off 12 true (by kernel_rfl) h12 rfl
      refine ⟨fun t w1 hf hk hp => ?_, ?_⟩
      · have h12 : slot t 12 = .bool false := hp 12 (by kernel_rfl)
        clear hf hp
        exact stepAt_off 12 true (by kernel_rfl) h12 rfl
      refine ⟨fun t w1 hf hk hp => ?_, ?_⟩
      · have h12 : slot t 12 = .bool false := hp 12 (by kernel_rfl)
        clear hf hp
        exact stepAt_off 12 true (by kernel_rfl) h12 rfl
      refine ⟨fun t w1 hf hk hp => ?_, ?_⟩
      · have h12 : slot t 12 = .bool false := hp 12 (by kernel_rfl)
        clear hf hp
        exact stepAt_off 12 true (by kernel_rfl) h12 rfl
      refine ⟨fun t w1 hf hk hp => ?_, ?_⟩
      · have h12 : slot t 12 = .bool false := hp 12 (by kernel_rfl)
        clear hf hp
        exact stepAt_off 12 true (by kernel_rfl) h12 rfl
      refine ⟨fun t w1 hf hk hp => ?_, ?_⟩
      · have h12 : slot t 12 = .bool false := hp 12 (by kernel_rfl)
        clear hf hp
        exact stepAt_off 12 true (by kernel_rfl) h12 rfl
      refine ⟨fun t w1 hf hk hp => ?_, ?_⟩
      · have h12 : slot t 12 = .bool false := hp 12 (by kernel_rfl)
        have h19 : slot t 19 = undef := hp 19 (by kernel_rfl)
        clear hf hp
        refine stepAt_plain rfl ?_
        refine stepOK_pure (.bool false) ?_ rfl
        simp only [execOp, evS, h12, h19]
        go_simp
      refine ⟨fun t w1 hf hk hp => ?_, ?_⟩
      · have h20 : slot t 20 = .bool false := hp 20 (by kernel_rfl)
        clear hf hp
        refine stepAt_plain rfl ?_
        exact stepOK_move _ (.inl rfl) h20
      refine ⟨fun t w1 hf hk hp => ?_, ?_⟩
      · have h21 : slot t 21 = .bool false := hp 21 (by kernel_rfl)
        clear hf hp
        exact stepAt_off 21 true (by kernel_rfl) h21 rfl
      refine ⟨fun t w1 hf hk hp => ?_, ?_⟩
      · have h21 : slot t 21 = .bool false := hp 21 (by kernel_rfl)
        clear hf hp
        exact stepAt_off 21 true (by kernel_rfl) h21 rfl
      refine ⟨fun t w1 hf hk hp => ?_, ?_⟩
      · have h21 : slot t 21 = .bool false := hp 21 (by kernel_rfl)
        clear hf hp
        exact stepAt_off 21 true (by kernel_rfl) h21 rfl
      refine ⟨fun t w1 hf hk hp => ?_, ?_⟩
      · have h21 : slot t 21 = .bool false := hp 21 (by kernel_rfl)
        clear hf hp
        exact stepAt_off 21 true (by kernel_rfl) h21 rfl
      refine ⟨fun t w1 hf hk hp => ?_, ?_⟩
      · have h21 : slot t 21 = .bool false := hp 21 (by kernel_rfl)
        clear hf hp
        exact stepAt_off 21 true (by kernel_rfl) h21 rfl
      refine ⟨fun t w1 hf hk hp => ?_, ?_⟩
      · have h21 : slot t 21 = .bool false := hp 21 (by kernel_rfl)
        clear hf hp
        exact stepAt_off 21 true (by kernel_rfl) h21 rfl
      refine ⟨fun t w1 hf hk hp => ?_, ?_⟩
      · have h21 : slot t 21 = .bool false := hp 21 (by kernel_rfl)
        have h27 : slot t 27 = undef := hp 27 (by kernel_rfl)
        clear hf hp
        refine stepAt_plain rfl ?_
        refine stepOK_pure (.bool false) ?_ rfl
        simp only [execOp, evS, h21, h27]
        go_simp
      refine ⟨fun t w1 hf hk hp => ?_, ?_⟩
      · have h28 : slot t 28 = .bool false := hp 28 (by kernel_rfl)
        clear hf hp
        refine stepAt_plain rfl ?_
        exact stepOK_move _ (.inl rfl) h28
      refine ⟨fun t w1 hf hk hp => ?_, ?_⟩
      · have h29 : slot t 29 = .bool false := hp 29 (by kernel_rfl)
        clear hf hp
        exact stepAt_off 29 true (by kernel_rfl) h29 rfl
      refine ⟨fun t w1 hf hk hp => ?_, ?_⟩
      · have h29 : slot t 29 = .bool false := hp 29 (by kernel_rfl)
        clear hf hp
        exact stepAt_off 29 true (by kernel_rfl) h29 rfl
      refine ⟨fun t w1 hf hk hp => ?_, ?_⟩
      · have h29 : slot t 29 = .bool false := hp 29 (by kernel_rfl)
        clear hf hp
        exact stepAt_off 29 true (by kernel_rfl) h29 rfl
      refine ⟨fun t w1 hf hk hp => ?_, ?_⟩
      · have h29 : slot t 29 = .bool false := hp 29 (by kernel_rfl)
        clear hf hp
        exact stepAt_off 29 true (by kernel_rfl) h29 rfl
      refine ⟨fun t w1 hf hk hp => ?_, ?_⟩
      · have h29 : slot t 29 = .bool false := hp 29 (by kernel_rfl)
        clear hf hp
        exact stepAt_off 29 true (by kernel_rfl) h29 rfl
      refine ⟨fun t w1 hf hk hp => ?_, ?_⟩
      · have h29 : slot t 29 = .bool false := hp 29 (by kernel_rfl)
        clear hf hp
        exact stepAt_off 29 true (by kernel_rfl) h29 rfl
      refine ⟨fun t w1 hf hk hp => ?_, ?_⟩
      · have h29 : slot t 29 = .bool false := hp 29 (by kernel_rfl)
        have h35 : slot t 35 = undef := hp 35 (by kernel_rfl)
        clear hf hp
        refine stepAt_plain rfl ?_
        refine stepOK_pure (.bool false) ?_ rfl
        simp only [execOp, evS, h29, h35]
        go_simp
      refine ⟨fun t w1 hf hk hp => ?_, ?_⟩
      · have h36 : slot t 36 = .bool false := hp 36 (by kernel_rfl)
        clear hf hp
        refine stepAt_plain rfl ?_
        exact stepOK_move _ (.inr rfl) h36
      exact trivial
    · intro t w1 hsz hf hk hfacts
      have h36 : slot t 36 = .bool false := hfacts 36 (by kernel_rfl)
      have h6 : slot t 6 = .bool false := hfacts 6 (by kernel_rfl)
      have h3 : slot t 3 = .pointer (some ⟨w.heap.size, 0, none⟩) := hf 3 (by kernel_rfl)
      have h4 : slot t 4 = .pointer (some ⟨w.heap.size + 1, 0, none⟩) := hf 4 (by kernel_rfl)
      have h5 : slot t 5 = .pointer (some ⟨w.heap.size + 2, 0, none⟩) := hf 5 (by kernel_rfl)
      have harr : t = #[slot t 0, slot t 1, slot t 2, slot t 3, slot t 4, slot t 5, slot t 6, slot t 7, slot t 8, slot t 9, slot t 10, slot t 11, slot t 12, slot t 13, slot t 14, slot t 15, slot t 16, slot t 17, slot t 18, slot t 19, slot t 20, slot t 21, slot t 22, slot t 23, slot t 24, slot t 25, slot t 26, slot t 27, slot t 28, slot t 29, slot t 30, slot t 31, slot t 32, slot t 33, slot t 34, slot t 35, slot t 36] := arr_eq t 37 hsz
      rw [harr, h36, h6, h3, h4, h5]
      clear harr hfacts hf h36 h6 h3 h4 h5
      generalize slot t 0 = x0; generalize slot t 1 = x1; generalize slot t 2 = x2; generalize slot t 7 = x7; generalize slot t 8 = x8; generalize slot t 9 = x9; generalize slot t 10 = x10; generalize slot t 11 = x11; generalize slot t 12 = x12; generalize slot t 13 = x13; generalize slot t 14 = x14; generalize slot t 15 = x15
      generalize slot t 16 = x16; generalize slot t 17 = x17; generalize slot t 18 = x18; generalize slot t 19 = x19; generalize slot t 20 = x20; generalize slot t 21 = x21; generalize slot t 22 = x22; generalize slot t 23 = x23; generalize slot t 24 = x24; generalize slot t 25 = x25; generalize slot t 26 = x26; generalize slot t 27 = x27
      generalize slot t 28 = x28; generalize slot t 29 = x29; generalize slot t 30 = x30; generalize slot t 31 = x31; generalize slot t 32 = x32; generalize slot t 33 = x33; generalize slot t 34 = x34; generalize slot t 35 = x35
      clear hsz t
      simp only [List.drop_succ_cons, List.drop_zero]
      have K := Lib.hid (K1.out.trans hk)
      clear hk
      go_wp2_with fail
      go_ret
      exact ⟨rfl, K.out⟩
  | true =>
    cases D2 with
    | false =>
      refine unpark ?_
      refine wpList_table 31 [(7, .is (.pointer (some ⟨w.heap.size + 1, 0, none⟩))), (8, .is (.string s)), (9, .is (.pointer (some ⟨w.heap.size + 2, 0, none⟩))), (10, .is (.string u)), (11, .is (.bool true)), (12, .is (.bool true)), (13, .is (.pointer (some ⟨w.heap.size + 1, 1, none⟩))), (14, .is (.pointer (some ⟨w.heap.size + 1, 1, none⟩))), (15, .is (.int .i64 I)), (16, .is (.pointer (some ⟨w.heap.size + 2, 1, none⟩))), (17, .is (.pointer (some ⟨w.heap.size + 2, 1, none⟩))), (18, .is (.int .i64 I')), (19, .is (.bool false)), (20, .is (.bool false)), (21, .is (.bool false)), (22, .is (undef)), (23, .is (undef)), (24, .is (undef)), (25, .is (undef)), (26, .is (undef)), (27, .is (undef)), (28, .is (.bool false)), (29, .is (.bool false)), (30, .is (undef)), (31, .is (undef)), (32, .is (undef)), (33, .is (undef)), (34, .is (undef)), (35, .is (undef)), (36, .is (.bool false)), (6, .is (.bool false))] (by kernel_rfl) ?_ ?_
      · refine ⟨fun t w1 hf hk hp => ?_, ?_⟩
        · have h4 : slot t 4 = .pointer (some ⟨w.heap.size + 1, 0, none⟩) := hf 4 (by kernel_rfl)
          clear hf hp
          refine stepAt_plain rfl ?_
          exact stepOK_pure (.pointer (some ⟨w.heap.size + 1, 0, none⟩)) (execFieldL (w.heap.size + 1) 0 (by omega) w1 rfl h4) rfl
        refine ⟨fun t w1 hf hk hp => ?_, ?_⟩
        · have h7 : slot t 7 = .pointer (some ⟨w.heap.size + 1, 0, none⟩) := hp 7 (by kernel_rfl)
          clear hf hp
          refine stepAt_plain rfl ?_
          have hq0 := run_loadLS (R4.out.kept hk)
          exact stepOK_sem (.string s) (by simp only [execOp, evS, h7]) hq0 rfl
        refine ⟨fun t w1 hf hk hp => ?_, ?_⟩
        · have h5 : slot t 5 = .pointer (some ⟨w.heap.size + 2, 0, none⟩) := hf 5 (by kernel_rfl)
          clear hf hp
          refine stepAt_plain rfl ?_
          exact stepOK_pure (.pointer (some ⟨w.heap.size + 2, 0, none⟩)) (execFieldL (w.heap.size + 2) 0 (by omega) w1 rfl h5) rfl
        refine ⟨fun t w1 hf hk hp => ?_, ?_⟩
        · have h9 : slot t 9 = .pointer (some ⟨w.heap.size + 2, 0, none⟩) := hp 9 (by kernel_rfl)
          clear hf hp
          refine stepAt_plain rfl ?_
          have hq0 := run_loadLS (R5.out.kept hk)
          exact stepOK_sem (.string u) (by simp only [execOp, evS, h9]) hq0 rfl
        refine ⟨fun t w1 hf hk hp => ?_, ?_⟩
        · have h8 : slot t 8 = .string s := hp 8 (by kernel_rfl)
          have h10 : slot t 10 = .string u := hp 10 (by kernel_rfl)
          clear hf hp
          refine stepAt_plain rfl ?_
          exact stepOK_pure (.bool true) (by rw [hD1.out]; exact execNeS s u w1 rfl h8 h10) rfl
        refine ⟨fun t w1 hf hk hp => ?_, ?_⟩
        · have h11 : slot t 11 = .bool true := hp 11 (by kernel_rfl)
          clear hf hp
          refine stepAt_plain rfl ?_
          exact stepOK_move _ (.inl rfl) h11
        refine ⟨fun t w1 hf hk hp => ?_, ?_⟩
        · have h4 : slot t 4 = .pointer (some ⟨w.heap.size + 1, 0, none⟩) := hf 4 (by kernel_rfl)
          have h12 : slot t 12 = .bool true := hp 12 (by kernel_rfl)
          clear hf hp
          refine stepAt_on 12 true (by kernel_rfl) h12 ?_
          exact stepOK_pure (.pointer (some ⟨w.heap.size + 1, 1, none⟩)) (execFieldL (w.heap.size + 1) 1 (by omega) w1 rfl h4) rfl
        refine ⟨fun t w1 hf hk hp => ?_, ?_⟩
        · have h13 : slot t 13 = .pointer (some ⟨w.heap.size + 1, 1, none⟩) := hp 13 (by kernel_rfl)
          have h12 : slot t 12 = .bool true := hp 12 (by kernel_rfl)
          clear hf hp
          refine stepAt_on 12 true (by kernel_rfl) h12 ?_
          exact stepOK_pure (.pointer (some ⟨w.heap.size + 1, 1, none⟩)) (execFieldO1 (w.heap.size + 1) 0 1 (by omega) rfl w1 rfl h13) rfl
        refine ⟨fun t w1 hf hk hp => ?_, ?_⟩
        · have h14 : slot t 14 = .pointer (some ⟨w.heap.size + 1, 1, none⟩) := hp 14 (by kernel_rfl)
          have h12 : slot t 12 = .bool true := hp 12 (by kernel_rfl)
          clear hf hp
          refine stepAt_on 12 true (by kernel_rfl) h12 ?_
          have hq0 := run_loadI ((R4.out.kept hk).cell 1)
          exact stepOK_sem (.int .i64 I) (by simp only [execOp, evS, h14]) hq0 rfl
        refine ⟨fun t w1 hf hk hp => ?_, ?_⟩
        · have h5 : slot t 5 = .pointer (some ⟨w.heap.size + 2, 0, none⟩) := hf 5 (by kernel_rfl)
          have h12 : slot t 12 = .bool true := hp 12 (by kernel_rfl)
          clear hf hp
          refine stepAt_on 12 true (by kernel_rfl) h12 ?_
          exact stepOK_pure (.pointer (some ⟨w.heap.size + 2, 1, none⟩)) (execFieldL (w.heap.size + 2) 1 (by omega) w1 rfl h5) rfl
        refine ⟨fun t w1 hf hk hp => ?_, ?_⟩
        · have h16 : slot t 16 = .pointer (some ⟨w.heap.size + 2, 1, none⟩) := hp 16 (by kernel_rfl)
          have h12 : slot t 12 = .bool true := hp 12 (by kernel_rfl)
          clear hf hp
          refine stepAt_on 12 true (by kernel_rfl) h12 ?_
          exact stepOK_pure (.pointer (some ⟨w.heap.size + 2, 1, none⟩)) (execFieldO1 (w.heap.size + 2) 0 1 (by omega) rfl w1 rfl h16) rfl
        refine ⟨fun t w1 hf hk hp => ?_, ?_⟩
        · have h17 : slot t 17 = .pointer (some ⟨w.heap.size + 2, 1, none⟩) := hp 17 (by kernel_rfl)
          have h12 : slot t 12 = .bool true := hp 12 (by kernel_rfl)
          clear hf hp
          refine stepAt_on 12 true (by kernel_rfl) h12 ?_
          have hq0 := run_loadI ((R5.out.kept hk).cell 1)
          exact stepOK_sem (.int .i64 I') (by simp only [execOp, evS, h17]) hq0 rfl
        refine ⟨fun t w1 hf hk hp => ?_, ?_⟩
        · have h15 : slot t 15 = .int .i64 I := hp 15 (by kernel_rfl)
          have h18 : slot t 18 = .int .i64 I' := hp 18 (by kernel_rfl)
          have h12 : slot t 12 = .bool true := hp 12 (by kernel_rfl)
          clear hf hp
          refine stepAt_on 12 true (by kernel_rfl) h12 ?_
          exact stepOK_pure (.bool false) (by rw [hD2.out]; exact execEqI I I' w1 rfl h15 h18) rfl
        refine ⟨fun t w1 hf hk hp => ?_, ?_⟩
        · have h12 : slot t 12 = .bool true := hp 12 (by kernel_rfl)
          have h19 : slot t 19 = .bool false := hp 19 (by kernel_rfl)
          clear hf hp
          refine stepAt_plain rfl ?_
          refine stepOK_pure (.bool false) ?_ rfl
          simp only [execOp, evS, h12, h19]
          go_simp
        refine ⟨fun t w1 hf hk hp => ?_, ?_⟩
        · have h20 : slot t 20 = .bool false := hp 20 (by kernel_rfl)
          clear hf hp
          refine stepAt_plain rfl ?_
          exact stepOK_move _ (.inl rfl) h20
        refine ⟨fun t w1 hf hk hp => ?_, ?_⟩
        · have h21 : slot t 21 = .bool false := hp 21 (by kernel_rfl)
          clear hf hp
          exact stepAt_off 21 true (by kernel_rfl) h21 rfl
        refine ⟨fun t w1 hf hk hp => ?_, ?_⟩
        · have h21 : slot t 21 = .bool false := hp 21 (by kernel_rfl)
          clear hf hp
          exact stepAt_off 21 true (by kernel_rfl) h21 rfl
        refine ⟨fun t w1 hf hk hp => ?_, ?_⟩
        · have h21 : slot t 21 = .bool false := hp 21 (by kernel_rfl)
          clear hf hp
          exact stepAt_off 21 true (by kernel_rfl) h21 rfl
        refine ⟨fun t w1 hf hk hp => ?_, ?_⟩
        · have h21 : slot t 21 = .bool false := hp 21 (by kernel_rfl)
          clear hf hp
          exact stepAt_off 21 true (by kernel_rfl) h21 rfl
        refine ⟨fun t w1 hf hk hp => ?_, ?_⟩
        · have h21 : slot t 21 = .bool false := hp 21 (by kernel_rfl)
          clear hf hp
          exact stepAt_off 21 true (by kernel_rfl) h21 rfl
        refine ⟨fun t w1 hf hk hp => ?_, ?_⟩
        · have h21 : slot t 21 = .bool false := hp 21 (by kernel_rfl)
          clear hf hp
          exact stepAt_off 21 true (by kernel_rfl) h21 rfl
        refine ⟨fun t w1 hf hk hp => ?_, ?_⟩
        · have h21 : slot t 21 = .bool false := hp 21 (by kernel_rfl)
          have h27 : slot t 27 = undef := hp 27 (by kernel_rfl)
          clear hf hp
          refine stepAt_plain rfl ?_
          refine stepOK_pure (.bool false) ?_ rfl
          simp only [execOp, evS, h21, h27]
          go_simp
        refine ⟨fun t w1 hf hk hp => ?_, ?_⟩
        · have h28 : slot t 28 = .bool false := hp 28 (by kernel_rfl)
          clear hf hp
          refine stepAt_plain rfl ?_
          exact stepOK_move _ (.inl rfl) h28
        refine ⟨fun t w1 hf hk hp => ?_, ?_⟩
        · have h29 : slot t 29 = .bool false := hp 29 (by kernel_rfl)
          clear hf hp
          exact stepAt_off 29 true (by kernel_rfl) h29 rfl
        refine ⟨fun t w1 hf hk hp => ?_, ?_⟩
        · have h29 : slot t 29 = .bool false := hp 29 (by kernel_rfl)
          clear hf hp
          exact stepAt_off 29 true (by kernel_rfl) h29 rfl
        refine ⟨fun t w1 hf hk hp => ?_, ?_⟩
        · have h29 : slot t 29 = .bool false := hp 29 (by kernel_rfl)
          clear hf hp
          exact stepAt_off 29 true (by kernel_rfl) h29 rfl
        refine ⟨fun t w1 hf hk hp => ?_, ?_⟩
        · have h29 : slot t 29 = .bool false := hp 29 (by kernel_rfl)
          clear hf hp
          exact stepAt_off 29 true (by kernel_rfl) h29 rfl
        refine ⟨fun t w1 hf hk hp => ?_, ?_⟩
        · have h29 : slot t 29 = .bool false := hp 29 (by kernel_rfl)
          clear hf hp
          exact stepAt_off 29 true (by kernel_rfl) h29 rfl
        refine ⟨fun t w1 hf hk hp => ?_, ?_⟩
        · have h29 : slot t 29 = .bool false := hp 29 (by kernel_rfl)
          clear hf hp
          exact stepAt_off 29 true (by kernel_rfl) h29 rfl
        refine ⟨fun t w1 hf hk hp => ?_, ?_⟩
        · have h29 : slot t 29 = .bool false := hp 29 (by kernel_rfl)
          have h35 : slot t 35 = undef := hp 35 (by kernel_rfl)
          clear hf hp
          refine stepAt_plain rfl ?_
          refine stepOK_pure (.bool false) ?_ rfl
          simp only [execOp, evS, h29, h35]
          go_simp
        refine ⟨fun t w1 hf hk hp => ?_, ?_⟩
        · have h36 : slot t 36 = .bool false := hp 36 (by kernel_rfl)
          clear hf hp
          refine stepAt_plain rfl ?_
          exact stepOK_move _ (.inr rfl) h36
        exact trivial
      · intro t w1 hsz hf hk hfacts
        have h36 : slot t 36 = .bool false := hfacts 36 (by kernel_rfl)
        have h6 : slot t 6 = .bool false := hfacts 6 (by kernel_rfl)
        have h3 : slot t 3 = .pointer (some ⟨w.heap.size, 0, none⟩) := hf 3 (by kernel_rfl)
        have h4 : slot t 4 = .pointer (some ⟨w.heap.size + 1, 0, none⟩) := hf 4 (by kernel_rfl)
        have h5 : slot t 5 = .pointer (some ⟨w.heap.size + 2, 0, none⟩) := hf 5 (by kernel_rfl)
        have harr : t = #[slot t 0, slot t 1, slot t 2, slot t 3, slot t 4, slot t 5, slot t 6, slot t 7, slot t 8, slot t 9, slot t 10, slot t 11, slot t 12, slot t 13, slot t 14, slot t 15, slot t 16, slot t 17, slot t 18, slot t 19, slot t 20, slot t 21, slot t 22, slot t 23, slot t 24, slot t 25, slot t 26, slot t 27, slot t 28, slot t 29, slot t 30, slot t 31, slot t 32, slot t 33, slot t 34, slot t 35, slot t 36] := arr_eq t 37 hsz
        rw [harr, h36, h6, h3, h4, h5]
        clear harr hfacts hf h36 h6 h3 h4 h5
        generalize slot t 0 = x0; generalize slot t 1 = x1; generalize slot t 2 = x2; generalize slot t 7 = x7; generalize slot t 8 = x8; generalize slot t 9 = x9; generalize slot t 10 = x10; generalize slot t 11 = x11; generalize slot t 12 = x12; generalize slot t 13 = x13; generalize slot t 14 = x14; generalize slot t 15 = x15
        generalize slot t 16 = x16; generalize slot t 17 = x17; generalize slot t 18 = x18; generalize slot t 19 = x19; generalize slot t 20 = x20; generalize slot t 21 = x21; generalize slot t 22 = x22; generalize slot t 23 = x23; generalize slot t 24 = x24; generalize slot t 25 = x25; generalize slot t 26 = x26; generalize slot t 27 = x27
        generalize slot t 28 = x28; generalize slot t 29 = x29; generalize slot t 30 = x30; generalize slot t 31 = x31; generalize slot t 32 = x32; generalize slot t 33 = x33; generalize slot t 34 = x34; generalize slot t 35 = x35
        clear hsz t
        simp only [List.drop_succ_cons, List.drop_zero]
        have K := Lib.hid (K1.out.trans hk)
        clear hk
        go_wp2_with fail
        go_ret
        exact ⟨rfl, K.out⟩
    | true =>
      cases C1 with
      | false =>
        refine unpark ?_
        refine wpList_table 31 [(7, .is (.pointer (some ⟨w.heap.size + 1, 0, none⟩))), (8, .is (.string s)), (9, .is (.pointer (some ⟨w.heap.size + 2, 0, none⟩))), (10, .is (.string u)), (11, .is (.bool true)), (12, .is (.bool true)), (13, .is (.pointer (some ⟨w.heap.size + 1, 1, none⟩))), (14, .is (.pointer (some ⟨w.heap.size + 1, 1, none⟩))), (15, .is (.int .i64 I)), (16, .is (.pointer (some ⟨w.heap.size + 2, 1, none⟩))), (17, .is (.pointer (some ⟨w.heap.size + 2, 1, none⟩))), (18, .is (.int .i64 I')), (19, .is (.bool true)), (20, .is (.bool true)), (21, .is (.bool true)), (22, .is (.agg (bC 32 r))), (23, .is (.pointer (some ⟨w.heap.size + 1, 0, none⟩))), (24, .is (.string s)), (25, .is (.pointer (some ⟨w.heap.size + 1, 1, none⟩))), (26, .is (.agg #[.int .i64 I, .int .i64 N, .slice p m c])), (27, .is (.bool false)), (28, .is (.bool false)), (29, .is (.bool false)), (30, .is (undef)), (31, .is (undef)), (32, .is (undef)), (33, .is (undef)), (34, .is (undef)), (35, .is (undef)), (36, .is (.bool false)), (6, .is (.bool false))] (by kernel_rfl) ?_ ?_
        · refine ⟨fun t w1 hf hk hp => ?_, ?_⟩
          · have h4 : slot t 4 = .pointer (some ⟨w.heap.size + 1, 0, none⟩) := hf 4 (by kernel_rfl)
            clear hf hp
            refine stepAt_plain rfl ?_
            exact stepOK_pure (.pointer (some ⟨w.heap.size + 1, 0, none⟩)) (execFieldL (w.heap.size + 1) 0 (by omega) w1 rfl h4) rfl
          refine ⟨fun t w1 hf hk hp => ?_, ?_⟩
          · have h7 : slot t 7 = .pointer (some ⟨w.heap.size + 1, 0, none⟩) := hp 7 (by kernel_rfl)
            clear hf hp
            refine stepAt_plain rfl ?_
            have hq0 := run_loadLS (R4.out.kept hk)
            exact stepOK_sem (.string s) (by simp only [execOp, evS, h7]) hq0 rfl
          refine ⟨fun t w1 hf hk hp => ?_, ?_⟩
          · have h5 : slot t 5 = .pointer (some ⟨w.heap.size + 2, 0, none⟩) := hf 5 (by kernel_rfl)
            clear hf hp
            refine stepAt_plain rfl ?_
            exact stepOK_pure (.pointer (some ⟨w.heap.size + 2, 0, none⟩)) (execFieldL (w.heap.size + 2) 0 (by omega) w1 rfl h5) rfl
          refine ⟨fun t w1 hf hk hp => ?_, ?_⟩
          · have h9 : slot t 9 = .pointer (some ⟨w.heap.size + 2, 0, none⟩) := hp 9 (by kernel_rfl)
            clear hf hp
            refine stepAt_plain rfl ?_
            have hq0 := run_loadLS (R5.out.kept hk)
            exact stepOK_sem (.string u) (by simp only [execOp, evS, h9]) hq0 rfl
          refine ⟨fun t w1 hf hk hp => ?_, ?_⟩
          · have h8 : slot t 8 = .string s := hp 8 (by kernel_rfl)
            have h10 : slot t 10 = .string u := hp 10 (by kernel_rfl)
            clear hf hp
            refine stepAt_plain rfl ?_
            exact stepOK_pure (.bool true) (by rw [hD1.out]; exact execNeS s u w1 rfl h8 h10) rfl
          refine ⟨fun t w1 hf hk hp => ?_, ?_⟩
          · have h11 : slot t 11 = .bool true := hp 11 (by kernel_rfl)
            clear hf hp
            refine stepAt_plain rfl ?_
            exact stepOK_move _ (.inl rfl) h11
          refine ⟨fun t w1 hf hk hp => ?_, ?_⟩
          · have h4 : slot t 4 = .pointer (some ⟨w.heap.size + 1, 0, none⟩) := hf 4 (by kernel_rfl)
            have h12 : slot t 12 = .bool true := hp 12 (by kernel_rfl)
            clear hf hp
            refine stepAt_on 12 true (by kernel_rfl) h12 ?_
            exact stepOK_pure (.pointer (some ⟨w.heap.size + 1, 1, none⟩)) (execFieldL (w.heap.size + 1) 1 (by omega) w1 rfl h4) rfl
          refine ⟨fun t w1 hf hk hp => ?_, ?_⟩
          · have h13 : slot t 13 = .pointer (some ⟨w.heap.size + 1, 1, none⟩) := hp 13 (by kernel_rfl)
            have h12 : slot t 12 = .bool true := hp 12 (by kernel_rfl)
            clear hf hp
            refine stepAt_on 12 true (by kernel_rfl) h12 ?_
            exact stepOK_pure (.pointer (some ⟨w.heap.size + 1, 1, none⟩)) (execFieldO1 (w.heap.size + 1) 0 1 (by omega) rfl w1 rfl h13) rfl
          refine ⟨fun t w1 hf hk hp => ?_, ?_⟩
          · have h14 : slot t 14 = .pointer (some ⟨w.heap.size + 1, 1, none⟩) := hp 14 (by kernel_rfl)
            have h12 : slot t 12 = .bool true := hp 12 (by kernel_rfl)
            clear hf hp
            refine stepAt_on 12 true (by kernel_rfl) h12 ?_
            have hq0 := run_loadI ((R4.out.kept hk).cell 1)
            exact stepOK_sem (.int .i64 I) (by simp only [execOp, evS, h14]) hq0 rfl
          refine ⟨fun t w1 hf hk hp => ?_, ?_⟩
          · have h5 : slot t 5 = .pointer (some ⟨w.heap.size + 2, 0, none⟩) := hf 5 (by kernel_rfl)
            have h12 : slot t 12 = .bool true := hp 12 (by kernel_rfl)
            clear hf hp
            refine stepAt_on 12 true (by kernel_rfl) h12 ?_
            exact stepOK_pure (.pointer (some ⟨w.heap.size + 2, 1, none⟩)) (execFieldL (w.heap.size + 2) 1 (by omega) w1 rfl h5) rfl
          refine ⟨fun t w1 hf hk hp => ?_, ?_⟩
          · have h16 : slot t 16 = .pointer (some ⟨w.heap.size + 2, 1, none⟩) := hp 16 (by kernel_rfl)
            have h12 : slot t 12 = .bool true := hp 12 (by kernel_rfl)
            clear hf hp
            refine stepAt_on 12 true (by kernel_rfl) h12 ?_
            exact stepOK_pure (.pointer (some ⟨w.heap.size + 2, 1, none⟩)) (execFieldO1 (w.heap.size + 2) 0 1 (by omega) rfl w1 rfl h16) rfl
          refine ⟨fun t w1 hf hk hp => ?_, ?_⟩
          · have h17 : slot t 17 = .pointer (some ⟨w.heap.size + 2, 1, none⟩) := hp 17 (by kernel_rfl)
            have h12 : slot t 12 = .bool true := hp 12 (by kernel_rfl)
            clear hf hp
            refine stepAt_on 12 true (by kernel_rfl) h12 ?_
            have hq0 := run_loadI ((R5.out.kept hk).cell 1)
            exact stepOK_sem (.int .i64 I') (by simp only [execOp, evS, h17]) hq0 rfl
          refine ⟨fun t w1 hf hk hp => ?_, ?_⟩
          · have h15 : slot t 15 = .int .i64 I := hp 15 (by kernel_rfl)
            have h18 : slot t 18 = .int .i64 I' := hp 18 (by kernel_rfl)
            have h12 : slot t 12 = .bool true := hp 12 (by kernel_rfl)
            clear hf hp
            refine stepAt_on 12 true (by kernel_rfl) h12 ?_
            exact stepOK_pure (.bool true) (by rw [hD2.out]; exact execEqI I I' w1 rfl h15 h18) rfl
          refine ⟨fun t w1 hf hk hp => ?_, ?_⟩
          · have h12 : slot t 12 = .bool true := hp 12 (by kernel_rfl)
            have h19 : slot t 19 = .bool true := hp 19 (by kernel_rfl)
            clear hf hp
            refine stepAt_plain rfl ?_
            refine stepOK_pure (.bool true) ?_ rfl
            simp only [execOp, evS, h12, h19]
            go_simp
          refine ⟨fun t w1 hf hk hp => ?_, ?_⟩
          · have h20 : slot t 20 = .bool true := hp 20 (by kernel_rfl)
            clear hf hp
            refine stepAt_plain rfl ?_
            exact stepOK_move _ (.inl rfl) h20
          refine ⟨fun t w1 hf hk hp => ?_, ?_⟩
          · have h3 : slot t 3 = .pointer (some ⟨w.heap.size, 0, none⟩) := hf 3 (by kernel_rfl)
            have h21 : slot t 21 = .bool true := hp 21 (by kernel_rfl)
            clear hf hp
            refine stepAt_on 21 true (by kernel_rfl) h21 ?_
            exact stepOK_pure (.agg (bC 32 r)) (loadHr rfl h3 (R3.out.kept hk)) rfl
          refine ⟨fun t w1 hf hk hp => ?_, ?_⟩
          · have h4 : slot t 4 = .pointer (some ⟨w.heap.size + 1, 0, none⟩) := hf 4 (by kernel_rfl)
            have h21 : slot t 21 = .bool true := hp 21 (by kernel_rfl)
            clear hf hp
            refine stepAt_on 21 true (by kernel_rfl) h21 ?_
            exact stepOK_pure (.pointer (some ⟨w.heap.size + 1, 0, none⟩)) (execFieldL (w.heap.size + 1) 0 (by omega) w1 rfl h4) rfl
          refine ⟨fun t w1 hf hk hp => ?_, ?_⟩
          · have h23 : slot t 23 = .pointer (some ⟨w.heap.size + 1, 0, none⟩) := hp 23 (by kernel_rfl)
            have h21 : slot t 21 = .bool true := hp 21 (by kernel_rfl)
            clear hf hp
            refine stepAt_on 21 true (by kernel_rfl) h21 ?_
            have hq0 := run_loadLS (R4.out.kept hk)
            exact stepOK_sem (.string s) (by simp only [execOp, evS, h23]) hq0 rfl
          refine ⟨fun t w1 hf hk hp => ?_, ?_⟩
          · have h4 : slot t 4 = .pointer (some ⟨w.heap.size + 1, 0, none⟩) := hf 4 (by kernel_rfl)
            have h21 : slot t 21 = .bool true := hp 21 (by kernel_rfl)
            clear hf hp
            refine stepAt_on 21 true (by kernel_rfl) h21 ?_
            exact stepOK_pure (.pointer (some ⟨w.heap.size + 1, 1, none⟩)) (execFieldL (w.heap.size + 1) 1 (by omega) w1 rfl h4) rfl
          refine ⟨fun t w1 hf hk hp => ?_, ?_⟩
          · have h25 : slot t 25 = .pointer (some ⟨w.heap.size + 1, 1, none⟩) := hp 25 (by kernel_rfl)
            have h21 : slot t 21 = .bool true := hp 21 (by kernel_rfl)
            clear hf hp
            refine stepAt_on 21 true (by kernel_rfl) h21 ?_
            have hq0 := run_loadLO (R4.out.kept hk)
            exact stepOK_sem (.agg #[.int .i64 I, .int .i64 N, .slice p m c]) (by simp only [execOp, evS, h25]) hq0 rfl
          refine ⟨fun t w1 hf hk hp => ?_, ?_⟩
          · have h22 : slot t 22 = .agg (bC 32 r) := hp 22 (by kernel_rfl)
            have h24 : slot t 24 = .string s := hp 24 (by kernel_rfl)
            have h26 : slot t 26 = .agg #[.int .i64 I, .int .i64 N, .slice p m c] := hp 26 (by kernel_rfl)
            have h21 : slot t 21 = .bool true := hp 21 (by kernel_rfl)
            clear hf hp
            refine stepAt_on 21 true (by kernel_rfl) h21 ?_
            refine stepOK_call #[.agg (bC 32 r), .string s, .agg #[.int .i64 I, .int .i64 N, .slice p m c]] rfl (by simp only [List.map_toArray, List.map_cons, List.map_nil, evS, h22, h24, h26]) (by go_simp) ((HA.out w1 (HSl.kept _ _ _ _ _ (K1.out.trans hk) HV.out) (HT.out.kept (K1.out.trans hk))).mono fun e w' ⟨he, hk'⟩ => ⟨_, he, hk', rfl⟩)
          refine ⟨fun t w1 hf hk hp => ?_, ?_⟩
          · have h21 : slot t 21 = .bool true := hp 21 (by kernel_rfl)
            have h27 : slot t 27 = .bool false := hp 27 (by kernel_rfl)
            clear hf hp
            refine stepAt_plain rfl ?_
            refine stepOK_pure (.bool false) ?_ rfl
            simp only [execOp, evS, h21, h27]
            go_simp
          refine ⟨fun t w1 hf hk hp => ?_, ?_⟩
          · have h28 : slot t 28 = .bool false := hp 28 (by kernel_rfl)
            clear hf hp
            refine stepAt_plain rfl ?_
            exact stepOK_move _ (.inl rfl) h28
          refine ⟨fun t w1 hf hk hp => ?_, ?_⟩
          · have h29 : slot t 29 = .bool false := hp 29 (by kernel_rfl)
            clear hf hp
            exact stepAt_off 29 true (by kernel_rfl) h29 rfl
          refine ⟨fun t w1 hf hk hp => ?_, ?_⟩
          · have h29 : slot t 29 = .bool false := hp 29 (by kernel_rfl)
            clear hf hp
            exact stepAt_off 29 true (by kernel_rfl) h29 rfl
          refine ⟨fun t w1 hf hk hp => ?_, ?_⟩
          · have h29 : slot t 29 = .bool false := hp 29 (by kernel_rfl)
            clear hf hp
            exact stepAt_off 29 true (by kernel_rfl) h29 rfl
          refine ⟨fun t w1 hf hk hp => ?_, ?_⟩
          · have h29 : slot t 29 = .bool false := hp 29 (by kernel_rfl)
            clear hf hp
            exact stepAt_off 29 true (by kernel_rfl) h29 rfl
          refine ⟨fun t w1 hf hk hp => ?_, ?_⟩
          · have h29 : slot t 29 = .bool false := hp 29 (by kernel_rfl)
            clear hf hp
            exact stepAt_off 29 true (by kernel_rfl) h29 rfl
          refine ⟨fun t w1 hf hk hp => ?_, ?_⟩
          · have h29 : slot t 29 = .bool false := hp 29 (by kernel_rfl)
            clear hf hp
            exact stepAt_off 29 true (by kernel_rfl) h29 rfl
          refine ⟨fun t w1 hf hk hp => ?_, ?_⟩
          · have h29 : slot t 29 = .bool false := hp 29 (by kernel_rfl)
            have h35 : slot t 35 = undef := hp 35 (by kernel_rfl)
            clear hf hp
            refine stepAt_plain rfl ?_
            refine stepOK_pure (.bool false) ?_ rfl
            simp only [execOp, evS, h29, h35]
            go_simp
          refine ⟨fun t w1 hf hk hp => ?_, ?_⟩
          · have h36 : slot t 36 = .bool false := hp 36 (by kernel_rfl)
            clear hf hp
            refine stepAt_plain rfl ?_
            exact stepOK_move _ (.inr rfl) h36
          exact trivial
        · intro t w1 hsz hf hk hfacts
          have h36 : slot t 36 = .bool false := hfacts 36 (by kernel_rfl)
          have h6 : slot t 6 = .bool false := hfacts 6 (by kernel_rfl)
          have h3 : slot t 3 = .pointer (some ⟨w.heap.size, 0, none⟩) := hf 3 (by kernel_rfl)
          have h4 : slot t 4 = .pointer (some ⟨w.heap.size + 1, 0, none⟩) := hf 4 (by kernel_rfl)
          have h5 : slot t 5 = .pointer (some ⟨w.heap.size + 2, 0, none⟩) := hf 5 (by kernel_rfl)
          have harr : t = #[slot t 0, slot t 1, slot t 2, slot t 3, slot t 4, slot t 5, slot t 6, slot t 7, slot t 8, slot t 9, slot t 10, slot t 11, slot t 12, slot t 13, slot t 14, slot t 15, slot t 16, slot t 17, slot t 18, slot t 19, slot t 20, slot t 21, slot t 22, slot t 23, slot t 24, slot t 25, slot t 26, slot t 27, slot t 28, slot t 29, slot t 30, slot t 31, slot t 32, slot t 33, slot t 34, slot t 35, slot t 36] := arr_eq t 37 hsz
          rw [harr, h36, h6, h3, h4, h5]
          clear harr hfacts hf h36 h6 h3 h4 h5
          generalize slot t 0 = x0; generalize slot t 1 = x1; generalize slot t 2 = x2; generalize slot t 7 = x7; generalize slot t 8 = x8; generalize slot t 9 = x9; generalize slot t 10 = x10; generalize slot t 11 = x11; generalize slot t 12 = x12; generalize slot t 13 = x13; generalize slot t 14 = x14; generalize slot t 15 = x15
          generalize slot t 16 = x16; generalize slot t 17 = x17; generalize slot t 18 = x18; generalize slot t 19 = x19; generalize slot t 20 = x20; generalize slot t 21 = x21; generalize slot t 22 = x22; generalize slot t 23 = x23; generalize slot t 24 = x24; generalize slot t 25 = x25; generalize slot t 26 = x26; generalize slot t 27 = x27
          generalize slot t 28 = x28; generalize slot t 29 = x29; generalize slot t 30 = x30; generalize slot t 31 = x31; generalize slot t 32 = x32; generalize slot t 33 = x33; generalize slot t 34 = x34; generalize slot t 35 = x35
          clear hsz t
          simp only [List.drop_succ_cons, List.drop_zero]
          have K := Lib.hid (K1.out.trans hk)
          clear hk
          go_wp2_with fail
          go_ret
          exact ⟨rfl, K.out⟩
      | true =>
        refine unpark ?_
        refine wpList_table 31 [(7, .is (.pointer (some ⟨w.heap.size + 1, 0, none⟩))), (8, .is (.string s)), (9, .is (.pointer (some ⟨w.heap.size + 2, 0, none⟩))), (10, .is (.string u)), (11, .is (.bool true)), (12, .is (.bool true)), (13, .is (.pointer (some ⟨w.heap.size + 1, 1, none⟩))), (14, .is (.pointer (some ⟨w.heap.size + 1, 1, none⟩))), (15, .is (.int .i64 I)), (16, .is (.pointer (some ⟨w.heap.size + 2, 1, none⟩))), (17, .is (.pointer (some ⟨w.heap.size + 2, 1, none⟩))), (18, .is (.int .i64 I')), (19, .is (.bool true)), (20, .is (.bool true)), (21, .is (.bool true)), (22, .is (.agg (bC 32 r))), (23, .is (.pointer (some ⟨w.heap.size + 1, 0, none⟩))), (24, .is (.string s)), (25, .is (.pointer (some ⟨w.heap.size + 1, 1, none⟩))), (26, .is (.agg #[.int .i64 I, .int .i64 N, .slice p m c])), (27, .is (.bool true)), (28, .is (.bool true)), (29, .is (.bool true)), (30, .is (.agg (bC 32 r))), (31, .is (.pointer (some ⟨w.heap.size + 2, 0, none⟩))), (32, .is (.string u)), (33, .is (.pointer (some ⟨w.heap.size + 2, 1, none⟩))), (34, .is (.agg #[.int .i64 I', .int .i64 N', .slice p' m' c'])), (35, .is (.bool C2)), (36, .is (.bool C2)), (6, .is (.bool C2))] (by kernel_rfl) ?_ ?_
        · refine ⟨fun t w1 hf hk hp => ?_, ?_⟩
          · have h4 : slot t 4 = .pointer (some ⟨w.heap.size + 1, 0, none⟩) := hf 4 (by kernel_rfl)
            clear hf hp
            refine stepAt_plain rfl ?_
            exact stepOK_pure (.pointer (some ⟨w.heap.size + 1, 0, none⟩)) (execFieldL (w.heap.size + 1) 0 (by omega) w1 rfl h4) rfl
          refine ⟨fun t w1 hf hk hp => ?_, ?_⟩
          · have h7 : slot t 7 = .pointer (some ⟨w.heap.size + 1, 0, none⟩) := hp 7 (by kernel_rfl)
            clear hf hp
            refine stepAt_plain rfl ?_
            have hq0 := run_loadLS (R4.out.kept hk)
            exact stepOK_sem (.string s) (by simp only [execOp, evS, h7]) hq0 rfl
          refine ⟨fun t w1 hf hk hp => ?_, ?_⟩
          · have h5 : slot t 5 = .pointer (some ⟨w.heap.size + 2, 0, none⟩) := hf 5 (by kernel_rfl)
            clear hf hp
            refine stepAt_plain rfl ?_
            exact stepOK_pure (.pointer (some ⟨w.heap.size + 2, 0, none⟩)) (execFieldL (w.heap.size + 2) 0 (by omega) w1 rfl h5) rfl
          refine ⟨fun t w1 hf hk hp => ?_, ?_⟩
          · have h9 : slot t 9 = .pointer (some ⟨w.heap.size + 2, 0, none⟩) := hp 9 (by kernel_rfl)
            clear hf hp
            refine stepAt_plain rfl ?_
            have hq0 := run_loadLS (R5.out.kept hk)
            exact stepOK_sem (.string u) (by simp only [execOp, evS, h9]) hq0 rfl
          refine ⟨fun t w1 hf hk hp => ?_, ?_⟩
          · have h8 : slot t 8 = .string s := hp 8 (by kernel_rfl)
            have h10 : slot t 10 = .string u := hp 10 (by kernel_rfl)
            clear hf hp
            refine stepAt_plain rfl ?_
            exact stepOK_pure (.bool true) (by rw [hD1.out]; exact execNeS s u w1 rfl h8 h10) rfl
          refine ⟨fun t w1 hf hk hp => ?_, ?_⟩
          · have h11 : slot t 11 = .bool true := hp 11 (by kernel_rfl)
            clear hf hp
            refine stepAt_plain rfl ?_
            exact stepOK_move _ (.inl rfl) h11
          refine ⟨fun t w1 hf hk hp => ?_, ?_⟩
          · have h4 : slot t 4 = .pointer (some ⟨w.heap.size + 1, 0, none⟩) := hf 4 (by kernel_rfl)
            have h12 : slot t 12 = .bool true := hp 12 (by kernel_rfl)
            clear hf hp
            refine stepAt_on 12 true (by kernel_rfl) h12 ?_
            exact stepOK_pure (.pointer (some ⟨w.heap.size + 1, 1, none⟩)) (execFieldL (w.heap.size + 1) 1 (by omega) w1 rfl h4) rfl
          refine ⟨fun t w1 hf hk hp => ?_, ?_⟩
          · have h13 : slot t 13 = .pointer (some ⟨w.heap.size + 1, 1, none⟩) := hp 13 (by kernel_rfl)
            have h12 : slot t 12 = .bool true := hp 12 (by kernel_rfl)
            clear hf hp
            refine stepAt_on 12 true (by kernel_rfl) h12 ?_
            exact stepOK_pure (.pointer (some ⟨w.heap.size + 1, 1, none⟩)) (execFieldO1 (w.heap.size + 1) 0 1 (by omega) rfl w1 rfl h13) rfl
          refine ⟨fun t w1 hf hk hp => ?_, ?_⟩
          · have h14 : slot t 14 = .pointer (some ⟨w.heap.size + 1, 1, none⟩) := hp 14 (by kernel_rfl)
            have h12 : slot t 12 = .bool true := hp 12 (by kernel_rfl)
            clear hf hp
            refine stepAt_on 12 true (by kernel_rfl) h12 ?_
            have hq0 := run_loadI ((R4.out.kept hk).cell 1)
            exact stepOK_sem (.int .i64 I) (by simp only [execOp, evS, h14]) hq0 rfl
          refine ⟨fun t w1 hf hk hp => ?_, ?_⟩
          · have h5 : slot t 5 = .pointer (some ⟨w.heap.size + 2, 0, none⟩) := hf 5 (by kernel_rfl)
            have h12 : slot t 12 = .bool true := hp 12 (by kernel_rfl)
            clear hf hp
            refine stepAt_on 12 true (by kernel_rfl) h12 ?_
            exact stepOK_pure (.pointer (some ⟨w.heap.size + 2, 1, none⟩)) (execFieldL (w.heap.size + 2) 1 (by omega) w1 rfl h5) rfl
          refine ⟨fun t w1 hf hk hp => ?_, ?_⟩
          · have h16 : slot t 16 = .pointer (some ⟨w.heap.size + 2, 1, none⟩) := hp 16 (by kernel_rfl)
            have h12 : slot t 12 = .bool true := hp 12 (by kernel_rfl)
            clear hf hp
            refine stepAt_on 12 true (by kernel_rfl) h12 ?_
            exact stepOK_pure (.pointer (some ⟨w.heap.size + 2, 1, none⟩)) (execFieldO1 (w.heap.size + 2) 0 1 (by omega) rfl w1 rfl h16) rfl
          refine ⟨fun t w1 hf hk hp => ?_, ?_⟩
          · have h17 : slot t 17 = .pointer (some ⟨w.heap.size + 2, 1, none⟩) := hp 17 (by kernel_rfl)
            have h12 : slot t 12 = .bool true := hp 12 (by kernel_rfl)
            clear hf hp
            refine stepAt_on 12 true (by kernel_rfl) h12 ?_
            have hq0 := run_loadI ((R5.out.kept hk).cell 1)
            exact stepOK_sem (.int .i64 I') (by simp only [execOp, evS, h17]) hq0 rfl
          refine ⟨fun t w1 hf hk hp => ?_, ?_⟩
          · have h15 : slot t 15 = .int .i64 I := hp 15 (by kernel_rfl)
            have h18 : slot t 18 = .int .i64 I' := hp 18 (by kernel_rfl)
            have h12 : slot t 12 = .bool true := hp 12 (by kernel_rfl)
            clear hf hp
            refine stepAt_on 12 true (by kernel_rfl) h12 ?_
            exact stepOK_pure (.bool true) (by rw [hD2.out]; exact execEqI I I' w1 rfl h15 h18) rfl
          refine ⟨fun t w1 hf hk hp => ?_, ?_⟩
          · have h12 : slot t 12 = .bool true := hp 12 (by kernel_rfl)
            have h19 : slot t 19 = .bool true := hp 19 (by kernel_rfl)
            clear hf hp
            refine stepAt_plain rfl ?_
            refine stepOK_pure (.bool true) ?_ rfl
            simp only [execOp, evS, h12, h19]
            go_simp
          refine ⟨fun t w1 hf hk hp => ?_, ?_⟩
          · have h20 : slot t 20 = .bool true := hp 20 (by kernel_rfl)
            clear hf hp
            refine stepAt_plain rfl ?_
            exact stepOK_move _ (.inl rfl) h20
          refine ⟨fun t w1 hf hk hp => ?_, ?_⟩
          · have h3 : slot t 3 = .pointer (some ⟨w.heap.size, 0, none⟩) := hf 3 (by kernel_rfl)
            have h21 : slot t 21 = .bool true := hp 21 (by kernel_rfl)
            clear hf hp
            refine stepAt_on 21 true (by kernel_rfl) h21 ?_
            exact stepOK_pure (.agg (bC 32 r)) (loadHr rfl h3 (R3.out.kept hk)) rfl
          refine ⟨fun t w1 hf hk hp => ?_, ?_⟩
          · have h4 : slot t 4 = .pointer (some ⟨w.heap.size + 1, 0, none⟩) := hf 4 (by kernel_rfl)
            have h21 : slot t 21 = .bool true := hp 21 (by kernel_rfl)
            clear hf hp
            refine stepAt_on 21 true (by kernel_rfl) h21 ?_
            exact stepOK_pure (.pointer (some ⟨w.heap.size + 1, 0, none⟩)) (execFieldL (w.heap.size + 1) 0 (by omega) w1 rfl h4) rfl
          refine ⟨fun t w1 hf hk hp => ?_, ?_⟩
          · have h23 : slot t 23 = .pointer (some ⟨w.heap.size + 1, 0, none⟩) := hp 23 (by kernel_rfl)
            have h21 : slot t 21 = .bool true := hp 21 (by kernel_rfl)
            clear hf hp
            refine stepAt_on 21 true (by kernel_rfl) h21 ?_
            have hq0 := run_loadLS (R4.out.kept hk)
            exact stepOK_sem (.string s) (by simp only [execOp, evS, h23]) hq0 rfl
          refine ⟨fun t w1 hf hk hp => ?_, ?_⟩
          · have h4 : slot t 4 = .pointer (some ⟨w.heap.size + 1, 0, none⟩) := hf 4 (by kernel_rfl)
            have h21 : slot t 21 = .bool true := hp 21 (by kernel_rfl)
            clear hf hp
            refine stepAt_on 21 true (by kernel_rfl) h21 ?_
            exact stepOK_pure (.pointer (some ⟨w.heap.size + 1, 1, none⟩)) (execFieldL (w.heap.size + 1) 1 (by omega) w1 rfl h4) rfl
          refine ⟨fun t w1 hf hk hp => ?_, ?_⟩
          · have h25 : slot t 25 = .pointer (some ⟨w.heap.size + 1, 1, none⟩) := hp 25 (by kernel_rfl)
            have h21 : slot t 21 = .bool true := hp 21 (by kernel_rfl)
            clear hf hp
            refine stepAt_on 21 true (by kernel_rfl) h21 ?_
            have hq0 := run_loadLO (R4.out.kept hk)
            exact stepOK_sem (.agg #[.int .i64 I, .int .i64 N, .slice p m c]) (by simp only [execOp, evS, h25]) hq0 rfl
          refine ⟨fun t w1 hf hk hp => ?_, ?_⟩
          · have h22 : slot t 22 = .agg (bC 32 r) := hp 22 (by kernel_rfl)
            have h24 : slot t 24 = .string s := hp 24 (by kernel_rfl)
            have h26 : slot t 26 = .agg #[.int .i64 I, .int .i64 N, .slice p m c] := hp 26 (by kernel_rfl)
            have h21 : slot t 21 = .bool true := hp 21 (by kernel_rfl)
            clear hf hp
            refine stepAt_on 21 true (by kernel_rfl) h21 ?_
            refine stepOK_call #[.agg (bC 32 r), .string s, .agg #[.int .i64 I, .int .i64 N, .slice p m c]] rfl (by simp only [List.map_toArray, List.map_cons, List.map_nil, evS, h22, h24, h26]) (by go_simp) ((HA.out w1 (HSl.kept _ _ _ _ _ (K1.out.trans hk) HV.out) (HT.out.kept (K1.out.trans hk))).mono fun e w' ⟨he, hk'⟩ => ⟨_, he, hk', rfl⟩)
          refine ⟨fun t w1 hf hk hp => ?_, ?_⟩
          · have h21 : slot t 21 = .bool true := hp 21 (by kernel_rfl)
            have h27 : slot t 27 = .bool true := hp 27 (by kernel_rfl)
            clear hf hp
            refine stepAt_plain rfl ?_
            refine stepOK_pure (.bool true) ?_ rfl
            simp only [execOp, evS, h21, h27]
            go_simp
          refine ⟨fun t w1 hf hk hp => ?_, ?_⟩
          · have h28 : slot t 28 = .bool true := hp 28 (by kernel_rfl)
            clear hf hp
            refine stepAt_plain rfl ?_
            exact stepOK_move _ (.inl rfl) h28
          refine ⟨fun t w1 hf hk hp => ?_, ?_⟩
          · have h3 : slot t 3 = .pointer (some ⟨w.heap.size, 0, none⟩) := hf 3 (by kernel_rfl)
            have h29 : slot t 29 = .bool true := hp 29 (by kernel_rfl)
            clear hf hp
            refine stepAt_on 29 true (by kernel_rfl) h29 ?_
            exact stepOK_pure (.agg (bC 32 r)) (loadHr rfl h3 (R3.out.kept hk)) rfl
          refine ⟨fun t w1 hf hk hp => ?_, ?_⟩
          · have h5 : slot t 5 = .pointer (some ⟨w.heap.size + 2, 0, none⟩) := hf 5 (by kernel_rfl)
            have h29 : slot t 29 = .bool true := hp 29 (by kernel_rfl)
            clear hf hp
            refine stepAt_on 29 true (by kernel_rfl) h29 ?_
            exact stepOK_pure (.pointer (some ⟨w.heap.size + 2, 0, none⟩)) (execFieldL (w.heap.size + 2) 0 (by omega) w1 rfl h5) rfl
          refine ⟨fun t w1 hf hk hp => ?_, ?_⟩
          · have h31 : slot t 31 = .pointer (some ⟨w.heap.size + 2, 0, none⟩) := hp 31 (by kernel_rfl)
            have h29 : slot t 29 = .bool true := hp 29 (by kernel_rfl)
            clear hf hp
            refine stepAt_on 29 true (by kernel_rfl) h29 ?_
            have hq0 := run_loadLS (R5.out.kept hk)
            exact stepOK_sem (.string u) (by simp only [execOp, evS, h31]) hq0 rfl
          refine ⟨fun t w1 hf hk hp => ?_, ?_⟩
          · have h5 : slot t 5 = .pointer (some ⟨w.heap.size + 2, 0, none⟩) := hf 5 (by kernel_rfl)
            have h29 : slot t 29 = .bool true := hp 29 (by kernel_rfl)
            clear hf hp
            refine stepAt_on 29 true (by kernel_rfl) h29 ?_
            exact stepOK_pure (.pointer (some ⟨w.heap.size + 2, 1, none⟩)) (execFieldL (w.heap.size + 2) 1 (by omega) w1 rfl h5) rfl
          refine ⟨fun t w1 hf hk hp => ?_, ?_⟩
          · have h33 : slot t 33 = .pointer (some ⟨w.heap.size + 2, 1, none⟩) := hp 33 (by kernel_rfl)
            have h29 : slot t 29 = .bool true := hp 29 (by kernel_rfl)
            clear hf hp
            refine stepAt_on 29 true (by kernel_rfl) h29 ?_
            have hq0 := run_loadLO (R5.out.kept hk)
            exact stepOK_sem (.agg #[.int .i64 I', .int .i64 N', .slice p' m' c']) (by simp only [execOp, evS, h33]) hq0 rfl
          refine ⟨fun t w1 hf hk hp => ?_, ?_⟩
          · have h30 : slot t 30 = .agg (bC 32 r) := hp 30 (by kernel_rfl)
            have h32 : slot t 32 = .string u := hp 32 (by kernel_rfl)
            have h34 : slot t 34 = .agg #[.int .i64 I', .int .i64 N', .slice p' m' c'] := hp 34 (by kernel_rfl)
            have h29 : slot t 29 = .bool true := hp 29 (by kernel_rfl)
            clear hf hp
            refine stepAt_on 29 true (by kernel_rfl) h29 ?_
            refine stepOK_call #[.agg (bC 32 r), .string u, .agg #[.int .i64 I', .int .i64 N', .slice p' m' c']] rfl (by simp only [List.map_toArray, List.map_cons, List.map_nil, evS, h30, h32, h34]) (by go_simp) ((HB.out w1 (HSl.kept _ _ _ _ _ (K1.out.trans hk) HV'.out) (HT.out.kept (K1.out.trans hk))).mono fun e w' ⟨he, hk'⟩ => ⟨_, he, hk', rfl⟩)
          refine ⟨fun t w1 hf hk hp => ?_, ?_⟩
          · have h29 : slot t 29 = .bool true := hp 29 (by kernel_rfl)
            have h35 : slot t 35 = .bool C2 := hp 35 (by kernel_rfl)
            clear hf hp
            refine stepAt_plain rfl ?_
            refine stepOK_pure (.bool C2) ?_ rfl
            simp only [execOp, evS, h29, h35]
            go_simp
          refine ⟨fun t w1 hf hk hp => ?_, ?_⟩
          · have h36 : slot t 36 = .bool C2 := hp 36 (by kernel_rfl)
            clear hf hp
            refine stepAt_plain rfl ?_
            exact stepOK_move _ (.inr rfl) h36
          exact trivial
        · intro t w1 hsz hf hk hfacts
          have h36 : slot t 36 = .bool C2 := hfacts 36 (by kernel_rfl)
          have h6 : slot t 6 = .bool C2 := hfacts 6 (by kernel_rfl)
          have h3 : slot t 3 = .pointer (some ⟨w.heap.size, 0, none⟩) := hf 3 (by kernel_rfl)
          have h4 : slot t 4 = .pointer (some ⟨w.heap.size + 1, 0, none⟩) := hf 4 (by kernel_rfl)
          have h5 : slot t 5 = .pointer (some ⟨w.heap.size + 2, 0, none⟩) := hf 5 (by kernel_rfl)
          have harr : t = #[slot t 0, slot t 1, slot t 2, slot t 3, slot t 4, slot t 5, slot t 6, slot t 7, slot t 8, slot t 9, slot t 10, slot t 11, slot t 12, slot t 13, slot t 14, slot t 15, slot t 16, slot t 17, slot t 18, slot t 19, slot t 20, slot t 21, slot t 22, slot t 23, slot t 24, slot t 25, slot t 26, slot t 27, slot t 28, slot t 29, slot t 30, slot t 31, slot t 32, slot t 33, slot t 34, slot t 35, slot t 36] := arr_eq t 37 hsz
          rw [harr, h36, h6, h3, h4, h5]
          clear harr hfacts hf h36 h6 h3 h4 h5
          generalize slot t 0 = x0; generalize slot t 1 = x1; generalize slot t 2 = x2; generalize slot t 7 = x7; generalize slot t 8 = x8; generalize slot t 9 = x9; generalize slot t 10 = x10; generalize slot t 11 = x11; generalize slot t 12 = x12; generalize slot t 13 = x13; generalize slot t 14 = x14; generalize slot t 15 = x15
          generalize slot t 16 = x16; generalize slot t 17 = x17; generalize slot t 18 = x18; generalize slot t 19 = x19; generalize slot t 20 = x20; generalize slot t 21 = x21; generalize slot t 22 = x22; generalize slot t 23 = x23; generalize slot t 24 = x24; generalize slot t 25 = x25; generalize slot t 26 = x26; generalize slot t 27 = x27
          generalize slot t 28 = x28; generalize slot t 29 = x29; generalize slot t 30 = x30; generalize slot t 31 = x31; generalize slot t 32 = x32; generalize slot t 33 = x33; generalize slot t 34 = x34; generalize slot t 35 = x35
          clear hsz t
          simp only [List.drop_succ_cons, List.drop_zero]
          have K := Lib.hid (K1.out.trans hk)
          clear hk
          go_wp2_with fail
          go_ret
          exact ⟨rfl, K.out⟩
/-! ### clash.unlike -/
set_option maxRecDepth 100000 in
set_option maxHeartbeats 2000000 in
theorem clashUnlike_any (q q' : Addr) (n n' c c' j : Nat) (X Y : Nat → ByteArray) (w : World) (hX : SAt w (some q) n X) (hY : SAt w (some q') n' Y) (hn : n ≤ 1000) (hj : j < n) (hj' : j < n') (heq : ∀ k, k < j → X k = Y k) (hne : X j ≠ Y j) :
    Calls Tryd.prog 21 #[.slice (some q) n c, .slice (some q') n' c'] w fun e w' => e = .returned (.tuple #[.string (X j), .string (Y j), .bool true]) ∧ Kept w w' := by
  obtain ⟨M, hM⟩ : ∃ M, M = min n n' := ⟨_, rfl⟩
  have hMi : min (n : Int) (n' : Int) = (M : Int) := by omega
  have hjM : j < M := by omega
  have HX := Lib.hid hX
  have HY := Lib.hid hY
  have HE := Lib.hid heq
  have HN := Lib.hid hne
  have hM' := Lib.hid hM
  clear hX hY heq hne hM
  go_enter Tryd.func21, Tryd.ntmps21
  go_wp2
  go_loopw [13] (fun i wr => ∃ k : Nat, k ≤ j ∧ i = .int .i64 k ∧ Hid (Kept w wr)) (fun i _ => j + 1 - (intOf i).toNat)
  case atStart => exact ⟨0, by omega, rfl, Lib.hid (Kept.refl w)⟩
  case round =>
    obtain ⟨k, hk, rfl, HK⟩ := hrel
    have hkM : k < M := by omega
    have hkn : k < n := by omega
    have hkn' : k < n' := by omega
    have hd1 : decide ((k : Int) < (M : Int)) = true := decide_eq_true (by omega)
    have hd1' : decide (k < M) = true := decide_eq_true hkM
    obtain ⟨G, hG⟩ : ∃ G, G = !decide (X k = Y k) := ⟨_, rfl⟩
    replace hG := Lib.hid hG
    go_wp2_with fail
    refine wp_region_table [(16, .is (.slice (some q) n c)), (17, .is (.int .i64 (k : Int))), (18, .is (.pointer (some (q.add k)))), (19, .is (.string (X k))), (20, .is (.slice (some q') n' c')), (21, .is (.int .i64 (k : Int))), (22, .is (.pointer (some (q'.add k)))), (23, .is (.string (Y k))), (24, .is (.bool G))] (by kernel_rfl) (by kernel_rfl) ?_ ?_
    · refine ⟨fun t w1 hf hk hp => ?_, ?_⟩
      · have h0 : slot t 0 = .slice (some q) n c := hf 0 (by kernel_rfl)
        clear hf hp
        refine stepAt_plain rfl ?_
        exact stepOK_move _ (.inl rfl) h0
      refine ⟨fun t w1 hf hk hp => ?_, ?_⟩
      · have h7 : slot t 7 = .int .i64 (k : Int) := hf 7 (by kernel_rfl)
        clear hf hp
        refine stepAt_plain rfl ?_
        exact stepOK_move _ (.inl rfl) h7
      refine ⟨fun t w1 hf hk hp => ?_, ?_⟩
      · have h16 : slot t 16 = .slice (some q) n c := hp 16 (by kernel_rfl)
        have h17 : slot t 17 = .int .i64 (k : Int) := hp 17 (by kernel_rfl)
        clear hf hp
        refine stepAt_plain rfl ?_
        exact stepOK_pure (.pointer (some (q.add k))) (execIndexS q n c k hkn w1 rfl h16 h17) rfl
      refine ⟨fun t w1 hf hk hp => ?_, ?_⟩
      · have h18 : slot t 18 = .pointer (some (q.add k)) := hp 18 (by kernel_rfl)
        clear hf hp
        refine stepAt_plain rfl ?_
        have hq0 := (HX.out.kept (HK.out.trans hk)).load k hkn
        exact stepOK_sem (.string (X k)) (by simp only [execOp, evS, h18]) hq0 rfl
      refine ⟨fun t w1 hf hk hp => ?_, ?_⟩
      · have h1 : slot t 1 = .slice (some q') n' c' := hf 1 (by kernel_rfl)
        clear hf hp
        refine stepAt_plain rfl ?_
        exact stepOK_move _ (.inl rfl) h1
      refine ⟨fun t w1 hf hk hp => ?_, ?_⟩
      · have h7 : slot t 7 = .int .i64 (k : Int) := hf 7 (by kernel_rfl)
        clear hf hp
        refine stepAt_plain rfl ?_
        exact stepOK_move _ (.inl rfl) h7
      refine ⟨fun t w1 hf hk hp => ?_, ?_⟩
      · have h20 : slot t 20 = .slice (some q') n' c' := hp 20 (by kernel_rfl)
        have h21 : slot t 21 = .int .i64 (k : Int) := hp 21 (by kernel_rfl)
        clear hf hp
        refine stepAt_plain rfl ?_
        exact stepOK_pure (.pointer (some (q'.add k))) (execIndexS q' n' c' k hkn' w1 rfl h20 h21) rfl
      refine ⟨fun t w1 hf hk hp => ?_, ?_⟩
      · have h22 : slot t 22 = .pointer (some (q'.add k)) := hp 22 (by kernel_rfl)
        clear hf hp
        refine stepAt_plain rfl ?_
        have hq0 := (HY.out.kept (HK.out.trans hk)).load k hkn'
        exact stepOK_sem (.string (Y k)) (by simp only [execOp, evS, h22]) hq0 rfl
      refine ⟨fun t w1 hf hk hp => ?_, ?_⟩
      · have h19 : slot t 19 = .string (X k) := hp 19 (by kernel_rfl)
        have h23 : slot t 23 = .string (Y k) := hp 23 (by kernel_rfl)
        clear hf hp
        refine stepAt_plain rfl ?_
        exact stepOK_pure (.bool G) (by rw [hG.out]; exact execNeS (X k) (Y k) w1 rfl h19 h23) rfl
      exact trivial
    · intro t w1 hsz hf hk hfacts
      have h24 : slot t 24 = .bool G := hfacts 8 _ rfl 24 rfl
      have h0 : slot t 0 = .slice (some q) n c := hf 0 (by kernel_rfl)
      have h1 : slot t 1 = .slice (some q') n' c' := hf 1 (by kernel_rfl)
      have h7 : slot t 7 = .int .i64 (k : Int) := hf 7 (by kernel_rfl)
      have h2 := hf 2 (by kernel_rfl)
      conv at h2 => rhs; whnf
      try change slot t 2 = undef at h2
      have h3 := hf 3 (by kernel_rfl)
      conv at h3 => rhs; whnf
      try change slot t 3 = undef at h3
      have h4 := hf 4 (by kernel_rfl)
      conv at h4 => rhs; whnf
      try change slot t 4 = undef at h4
      have h5 := hf 5 (by kernel_rfl)
      conv at h5 => rhs; whnf
      try change slot t 5 = undef at h5
      have h6 := hf 6 (by kernel_rfl)
      conv at h6 => rhs; whnf
      try change slot t 6 = undef at h6
      have h8 := hf 8 (by kernel_rfl)
      conv at h8 => rhs; whnf
      try change slot t 8 = undef at h8
      have h9 := hf 9 (by kernel_rfl)
      conv at h9 => rhs; whnf
      try change slot t 9 = undef at h9
      have h10 := hf 10 (by kernel_rfl)
      conv at h10 => rhs; whnf
      try change slot t 10 = undef at h10
      have h11 := hf 11 (by kernel_rfl)
      conv at h11 => rhs; whnf
      try change slot t 11 = undef at h11
      have h12 := hf 12 (by kernel_rfl)
      conv at h12 => rhs; whnf
      try change slot t 12 = undef at h12
      have h13 := hf 13 (by kernel_rfl)
      conv at h13 => rhs; whnf
      try change slot t 13 = undef at h13
      have h14 := hf 14 (by kernel_rfl)
      conv at h14 => rhs; whnf
      try change slot t 14 = undef at h14
      have h15 := hf 15 (by kernel_rfl)
      conv at h15 => rhs; whnf
      try change slot t 15 = undef at h15
      have h25 := hf 25 (by kernel_rfl)
      conv at h25 => rhs; whnf
      try change slot t 25 = undef at h25
      have h26 := hf 26 (by kernel_rfl)
      conv at h26 => rhs; whnf
      try change slot t 26 = undef at h26
      have h27 := hf 27 (by kernel_rfl)
      conv at h27 => rhs; whnf
      try change slot t 27 = undef at h27
      have h28 := hf 28 (by kernel_rfl)
      conv at h28 => rhs; whnf
      try change slot t 28 = undef at h28
      have h29 := hf 29 (by kernel_rfl)
      conv at h29 => rhs; whnf
      try change slot t 29 = undef at h29
      have h30 := hf 30 (by kernel_rfl)
      conv at h30 => rhs; whnf
      try change slot t 30 = undef at h30
      have h31 := hf 31 (by kernel_rfl)
      conv at h31 => rhs; whnf
      try change slot t 31 = undef at h31
      have h32 := hf 32 (by kernel_rfl)
      conv at h32 => rhs; whnf
      try change slot t 32 = undef at h32
      have h33 := hf 33 (by kernel_rfl)
      conv at h33 => rhs; whnf
      try change slot t 33 = undef at h33
      have harr : t = #[slot t 0, slot t 1, slot t 2, slot t 3, slot t 4, slot t 5, slot t 6, slot t 7, slot t 8, slot t 9, slot t 10, slot t 11, slot t 12, slot t 13, slot t 14, slot t 15, slot t 16, slot t 17, slot t 18, slot t 19, slot t 20, slot t 21, slot t 22, slot t 23, slot t 24, slot t 25, slot t 26, slot t 27, slot t 28, slot t 29, slot t 30, slot t 31, slot t 32, slot t 33] := arr_eq t 34 hsz
      rw [harr, h24, h0, h1, h7, h2, h3, h4, h5, h6, h8, h9, h10, h11, h12, h13, h14, h15, h25, h26, h27, h28, h29, h30, h31, h32, h33]
      clear harr hfacts hf h24 h0 h1 h7 h2 h3 h4 h5 h6 h8 h9 h10 h11 h12 h13 h14 h15 h25 h26 h27 h28 h29 h30 h31 h32 h33
      generalize slot t 16 = x16; generalize slot t 17 = x17; generalize slot t 18 = x18; generalize slot t 19 = x19; generalize slot t 20 = x20; generalize slot t 21 = x21; generalize slot t 22 = x22; generalize slot t 23 = x23
      clear hsz t
      have HK1 := Lib.hid (HK.out.trans hk)
      clear hk HK
      cases G with
      | true =>
        obtain rfl : k = j := by
          rcases Nat.lt_or_eq_of_le hk with h | h
          · have h1 := hG.out
            rw [HE.out k h] at h1
            simp at h1
          · exact h
        clear hG
        go_wp2_with fail
        have cX := (HX.out.kept HK1.out).cell k hkn
        have cY := (HY.out.kept HK1.out).cell k hkn'
        have hdn : decide ((k : Int) < (n : Int)) = true := decide_eq_true (by omega)
        have hdn' : decide ((k : Int) < (n' : Int)) = true := decide_eq_true (by omega)
        clear hd1 hd1'
        go_quiet (fail)
        replace HK1 : Hid (Kept w (w1.drewN nq)) := HK1
        clear cX cY
        generalize w1.drewN nq = w2 at HK1 ⊢
        go_wp2_with fail
        exact bodyPost_ret (results_tmp3 Tryd.results21 _ _ _) rfl ⟨rfl, HK1.out⟩
      | false =>
        have hlt : k < j := by
          rcases Nat.lt_or_eq_of_le hk with h | h
          · exact h
          · exfalso
            have h1 := hG.out
            rw [h] at h1
            simp at h1
            exact HN.out h1
        clear hG
        go_wp2
        go_roundw
        case rel => exact ⟨k + 1, by omega, by go_num, HK1⟩
        case measure => simp [intOf]; omega
end Go.Proofs.YthafohijocidlaaDoor
