/-
  Contracts of the closure that makes an inner node's text, and of clash.texts. Conditions: a valid opening, a leaf of at most a million bytes; sha's table of round constants stands.
-/
import Derived.Test.YthafohijocidlaaDoorClashWalkA
namespace Go.Proofs.YthafohijocidlaaDoor
set_option maxRecDepth 4000
open Go.RowKit

set_option maxRecDepth 100000 in
set_option maxHeartbeats 2000000 in
theorem clashInner_any (gs gl gu : Nat) (s : ByteArray) (I N : Int) (p : Option Addr) (m c : Nat) (F : Nat → List UInt8) (zp : Option Addr) (zc : Nat) (Z : List Bool) (q : Addr) (n1 cc : Nat) (U : Nat → List UInt8) (k : Nat) (w : World)
    (Rs : Rowz w gs #[.slice zp m zc] 69) (Rl : Rowz w gl #[.string s, .int .i64 I, .int .i64 N, .slice p m c] 31) (Ru : Rowz w gu #[.slice (some q) n1 cc] 27)
    (hZ : Z.length = m) (hB : BRow w (.slice zp m zc) Z) (hF : HAt w p m F) (hU : HAt w (some q) n1 U) (hkm : k < m) (hkn : k < n1) (hFl : (F k).length = 32) (hUl : (U k).length = 32) :
    Calls Tryd.prog 38 #[.int .i64 (k : Int), .pointer (some ⟨gs, 0, none⟩), .pointer (some ⟨gl, 0, none⟩), .pointer (some ⟨gu, 0, none⟩)] w fun e w' => e = .returned (.string (bif Z.getD k false then nodeS (F k) (U k) else nodeS (U k) (F k))) ∧ Kept w w' := by
  obtain ⟨zp', zc', hzz, hzr⟩ := hB
  obtain ⟨gz, cz, hzp, rz, ez⟩ := hzr (by omega)
  have hzp2 : zp = some ⟨gz, 0, none⟩ := by
    injection hzz with h1 h2 h3
    rw [h1, hzp]
  have cB : w.cell? ⟨gz, k, none⟩ = some (.bool (Z.getD k false)) := by rw [rz.cell, ez k (by omega)]
  clear hzr hzp hzz rz ez hZ
  subst hzp2
  generalize Z.getD k false = r at cB ⊢
  obtain ⟨q0, rfl, _⟩ := hF.some (by omega)
  have HN1 : Hid (∀ w, _) := Lib.hid fun w => tagNode_any (F k) (U k) hFl hUl w
  have HN2 : Hid (∀ w, _) := Lib.hid fun w => tagNode_any (U k) (F k) hUl hFl w
  have c0 : w.cell? ⟨gs, 0, none⟩ = some (.slice (some ⟨gz, 0, none⟩) m zc) := Rs.cell 0
  have RL := Lib.hid Rl
  have RU := Lib.hid Ru
  have HF := Lib.hid hF
  have HU := Lib.hid hU
  clear Rs Rl Ru hF hU hFl hUl
  have hd : decide ((k : Int) < (m : Int)) = true := decide_eq_true (by omega)
  cases r with
  | true =>
    simp only [cond_true]
    generalize nodeS (F k) (U k) = A at HN1 ⊢
    clear HN2
    go_enter Tryd.func38, Tryd.ntmps38
    go_wp2_with fail
    clear c0 cB
    refine wp_region_table [(10, .is (.pointer (some ⟨gl, 1, none⟩))), (11, .is (.pointer (some ⟨gl, 3, none⟩))), (12, .is (.slice (some q0) m c)), (13, .is (.int .i64 (k : Int))), (14, .is (.pointer (some (q0.add (k * 32))))), (15, .is (.agg (bC 32 (F k)))), (16, .is (.slice (some q) n1 cc)), (17, .is (.int .i64 (k : Int))), (18, .is (.pointer (some (q.add (k * 32))))), (19, .is (.agg (bC 32 (U k)))), (20, .is (.string A)), (5, .is (.string A))] (by kernel_rfl) (by kernel_rfl) ?_ ?_
    · refine ⟨fun t w1 hf hk hp => ?_, ?_⟩
      · have h2 : slot t 2 = .pointer (some ⟨gl, 0, none⟩) := hf 2 (by kernel_rfl)
        clear hf hp
        refine stepAt_plain rfl ?_
        exact stepOK_pure (.pointer (some ⟨gl, 1, none⟩)) (execFieldL gl 1 (by omega) w1 rfl h2) rfl
      refine ⟨fun t w1 hf hk hp => ?_, ?_⟩
      · have h10 : slot t 10 = .pointer (some ⟨gl, 1, none⟩) := hp 10 (by kernel_rfl)
        clear hf hp
        refine stepAt_plain rfl ?_
        exact stepOK_pure (.pointer (some ⟨gl, 3, none⟩)) (execFieldO1 gl 2 3 (by omega) rfl w1 rfl h10) rfl
      refine ⟨fun t w1 hf hk hp => ?_, ?_⟩
      · have h11 : slot t 11 = .pointer (some ⟨gl, 3, none⟩) := hp 11 (by kernel_rfl)
        clear hf hp
        refine stepAt_plain rfl ?_
        have hq0 := run_loadHs ((RL.out.kept hk).cell 3)
        exact stepOK_sem (.slice (some q0) m c) (by simp only [execOp, evS, h11]) hq0 rfl
      refine ⟨fun t w1 hf hk hp => ?_, ?_⟩
      · have h0 : slot t 0 = .int .i64 (k : Int) := hf 0 (by kernel_rfl)
        clear hf hp
        refine stepAt_plain rfl ?_
        exact stepOK_move _ (.inl rfl) h0
      refine ⟨fun t w1 hf hk hp => ?_, ?_⟩
      · have h12 : slot t 12 = .slice (some q0) m c := hp 12 (by kernel_rfl)
        have h13 : slot t 13 = .int .i64 (k : Int) := hp 13 (by kernel_rfl)
        clear hf hp
        refine stepAt_plain rfl ?_
        exact stepOK_pure (.pointer (some (q0.add (k * 32)))) (execIndexH q0 m c k hkm w1 rfl h12 h13) rfl
      refine ⟨fun t w1 hf hk hp => ?_, ?_⟩
      · have h14 : slot t 14 = .pointer (some (q0.add (k * 32))) := hp 14 (by kernel_rfl)
        clear hf hp
        refine stepAt_plain rfl ?_
        have hq0 := (HF.out.kept hk).load k hkm
        exact stepOK_sem (.agg (bC 32 (F k))) (by simp only [execOp, evS, h14]) hq0 rfl
      refine ⟨fun t w1 hf hk hp => ?_, ?_⟩
      · have h3 : slot t 3 = .pointer (some ⟨gu, 0, none⟩) := hf 3 (by kernel_rfl)
        clear hf hp
        refine stepAt_plain rfl ?_
        have hq0 := run_loadHs ((RU.out.kept hk).cell 0)
        exact stepOK_sem (.slice (some q) n1 cc) (by simp only [execOp, evS, h3]) hq0 rfl
      refine ⟨fun t w1 hf hk hp => ?_, ?_⟩
      · have h0 : slot t 0 = .int .i64 (k : Int) := hf 0 (by kernel_rfl)
        clear hf hp
        refine stepAt_plain rfl ?_
        exact stepOK_move _ (.inl rfl) h0
      refine ⟨fun t w1 hf hk hp => ?_, ?_⟩
      · have h16 : slot t 16 = .slice (some q) n1 cc := hp 16 (by kernel_rfl)
        have h17 : slot t 17 = .int .i64 (k : Int) := hp 17 (by kernel_rfl)
        clear hf hp
        refine stepAt_plain rfl ?_
        exact stepOK_pure (.pointer (some (q.add (k * 32)))) (execIndexH q n1 cc k hkn w1 rfl h16 h17) rfl
      refine ⟨fun t w1 hf hk hp => ?_, ?_⟩
      · have h18 : slot t 18 = .pointer (some (q.add (k * 32))) := hp 18 (by kernel_rfl)
        clear hf hp
        refine stepAt_plain rfl ?_
        have hq0 := (HU.out.kept hk).load k hkn
        exact stepOK_sem (.agg (bC 32 (U k))) (by simp only [execOp, evS, h18]) hq0 rfl
      refine ⟨fun t w1 hf hk hp => ?_, ?_⟩
      · have h15 : slot t 15 = .agg (bC 32 (F k)) := hp 15 (by kernel_rfl)
        have h19 : slot t 19 = .agg (bC 32 (U k)) := hp 19 (by kernel_rfl)
        clear hf hp
        refine stepAt_plain rfl ?_
        refine stepOK_call #[.agg (bC 32 (F k)), .agg (bC 32 (U k))] rfl (by simp only [List.map_toArray, List.map_cons, List.map_nil, evS, h15, h19]) (by go_simp) ((HN1.out w1).mono fun e w' ⟨he, hk'⟩ => ⟨_, he, hk', rfl⟩)
      refine ⟨fun t w1 hf hk hp => ?_, ?_⟩
      · have h20 : slot t 20 = .string A := hp 20 (by kernel_rfl)
        clear hf hp
        refine stepAt_plain rfl ?_
        exact stepOK_move _ (.inr rfl) h20
      exact trivial
    · intro t w1 hsz hf hk hfacts
      have h5 : slot t 5 = .string A := hfacts 11 _ rfl 5 rfl
      have h0 : slot t 0 = .int .i64 (k : Int) := hf 0 (by kernel_rfl)
      have h1 : slot t 1 = .pointer (some ⟨gs, 0, none⟩) := hf 1 (by kernel_rfl)
      have h2 : slot t 2 = .pointer (some ⟨gl, 0, none⟩) := hf 2 (by kernel_rfl)
      have h3 : slot t 3 = .pointer (some ⟨gu, 0, none⟩) := hf 3 (by kernel_rfl)
      have harr : t = #[slot t 0, slot t 1, slot t 2, slot t 3, slot t 4, slot t 5, slot t 6, slot t 7, slot t 8, slot t 9, slot t 10, slot t 11, slot t 12, slot t 13, slot t 14, slot t 15, slot t 16, slot t 17, slot t 18, slot t 19, slot t 20, slot t 21, slot t 22, slot t 23, slot t 24, slot t 25, slot t 26, slot t 27, slot t 28, slot t 29, slot t 30, slot t 31] := arr_eq t 32 hsz
      rw [harr, h5, h0, h1, h2, h3]
      clear harr hfacts hf h5 h0 h1 h2 h3
      generalize slot t 4 = x4; generalize slot t 6 = x6; generalize slot t 7 = x7; generalize slot t 8 = x8; generalize slot t 9 = x9; generalize slot t 10 = x10; generalize slot t 11 = x11; generalize slot t 12 = x12; generalize slot t 13 = x13; generalize slot t 14 = x14; generalize slot t 15 = x15; generalize slot t 16 = x16
      generalize slot t 17 = x17; generalize slot t 18 = x18; generalize slot t 19 = x19; generalize slot t 20 = x20; generalize slot t 21 = x21; generalize slot t 22 = x22; generalize slot t 23 = x23; generalize slot t 24 = x24; generalize slot t 25 = x25; generalize slot t 26 = x26; generalize slot t 27 = x27; generalize slot t 28 = x28
      generalize slot t 29 = x29; generalize slot t 30 = x30; generalize slot t 31 = x31
      clear hsz t
      have K := Lib.hid hk
      clear hk
      go_wp2_with fail
      go_ret
      exact ⟨rfl, K.out⟩
  | false =>
    simp only [cond_false]
    generalize nodeS (U k) (F k) = A at HN2 ⊢
    clear HN1
    go_enter Tryd.func38, Tryd.ntmps38
    go_wp2_with fail
    clear c0 cB
    refine wp_region_table [(21, .is (.slice (some q) n1 cc)), (22, .is (.int .i64 (k : Int))), (23, .is (.pointer (some (q.add (k * 32))))), (24, .is (.agg (bC 32 (U k)))), (25, .is (.pointer (some ⟨gl, 1, none⟩))), (26, .is (.pointer (some ⟨gl, 3, none⟩))), (27, .is (.slice (some q0) m c)), (28, .is (.int .i64 (k : Int))), (29, .is (.pointer (some (q0.add (k * 32))))), (30, .is (.agg (bC 32 (F k)))), (31, .is (.string A)), (5, .is (.string A))] (by kernel_rfl) (by kernel_rfl) ?_ ?_
    · refine ⟨fun t w1 hf hk hp => ?_, ?_⟩
      · have h3 : slot t 3 = .pointer (some ⟨gu, 0, none⟩) := hf 3 (by kernel_rfl)
        clear hf hp
        refine stepAt_plain rfl ?_
        have hq0 := run_loadHs ((RU.out.kept hk).cell 0)
        exact stepOK_sem (.slice (some q) n1 cc) (by simp only [execOp, evS, h3]) hq0 rfl
      refine ⟨fun t w1 hf hk hp => ?_, ?_⟩
      · have h0 : slot t 0 = .int .i64 (k : Int) := hf 0 (by kernel_rfl)
        clear hf hp
        refine stepAt_plain rfl ?_
        exact stepOK_move _ (.inl rfl) h0
      refine ⟨fun t w1 hf hk hp => ?_, ?_⟩
      · have h21 : slot t 21 = .slice (some q) n1 cc := hp 21 (by kernel_rfl)
        have h22 : slot t 22 = .int .i64 (k : Int) := hp 22 (by kernel_rfl)
        clear hf hp
        refine stepAt_plain rfl ?_
        exact stepOK_pure (.pointer (some (q.add (k * 32)))) (execIndexH q n1 cc k hkn w1 rfl h21 h22) rfl
      refine ⟨fun t w1 hf hk hp => ?_, ?_⟩
      · have h23 : slot t 23 = .pointer (some (q.add (k * 32))) := hp 23 (by kernel_rfl)
        clear hf hp
        refine stepAt_plain rfl ?_
        have hq0 := (HU.out.kept hk).load k hkn
        exact stepOK_sem (.agg (bC 32 (U k))) (by simp only [execOp, evS, h23]) hq0 rfl
      refine ⟨fun t w1 hf hk hp => ?_, ?_⟩
      · have h2 : slot t 2 = .pointer (some ⟨gl, 0, none⟩) := hf 2 (by kernel_rfl)
        clear hf hp
        refine stepAt_plain rfl ?_
        exact stepOK_pure (.pointer (some ⟨gl, 1, none⟩)) (execFieldL gl 1 (by omega) w1 rfl h2) rfl
      refine ⟨fun t w1 hf hk hp => ?_, ?_⟩
      · have h25 : slot t 25 = .pointer (some ⟨gl, 1, none⟩) := hp 25 (by kernel_rfl)
        clear hf hp
        refine stepAt_plain rfl ?_
        exact stepOK_pure (.pointer (some ⟨gl, 3, none⟩)) (execFieldO1 gl 2 3 (by omega) rfl w1 rfl h25) rfl
      refine ⟨fun t w1 hf hk hp => ?_, ?_⟩
      · have h26 : slot t 26 = .pointer (some ⟨gl, 3, none⟩) := hp 26 (by kernel_rfl)
        clear hf hp
        refine stepAt_plain rfl ?_
        have hq0 := run_loadHs ((RL.out.kept hk).cell 3)
        exact stepOK_sem (.slice (some q0) m c) (by simp only [execOp, evS, h26]) hq0 rfl
      refine ⟨fun t w1 hf hk hp => ?_, ?_⟩
      · have h0 : slot t 0 = .int .i64 (k : Int) := hf 0 (by kernel_rfl)
        clear hf hp
        refine stepAt_plain rfl ?_
        exact stepOK_move _ (.inl rfl) h0
      refine ⟨fun t w1 hf hk hp => ?_, ?_⟩
      · have h27 : slot t 27 = .slice (some q0) m c := hp 27 (by kernel_rfl)
        have h28 : slot t 28 = .int .i64 (k : Int) := hp 28 (by kernel_rfl)
        clear hf hp
        refine stepAt_plain rfl ?_
        exact stepOK_pure (.pointer (some (q0.add (k * 32)))) (execIndexH q0 m c k hkm w1 rfl h27 h28) rfl
      refine ⟨fun t w1 hf hk hp => ?_, ?_⟩
      · have h29 : slot t 29 = .pointer (some (q0.add (k * 32))) := hp 29 (by kernel_rfl)
        clear hf hp
        refine stepAt_plain rfl ?_
        have hq0 := (HF.out.kept hk).load k hkm
        exact stepOK_sem (.agg (bC 32 (F k))) (by simp only [execOp, evS, h29]) hq0 rfl
      refine ⟨fun t w1 hf hk hp => ?_, ?_⟩
      · have h24 : slot t 24 = .agg (bC 32 (U k)) := hp 24 (by kernel_rfl)
        have h30 : slot t 30 = .agg (bC 32 (F k)) := hp 30 (by kernel_rfl)
        clear hf hp
        refine stepAt_plain rfl ?_
        refine stepOK_call #[.agg (bC 32 (U k)), .agg (bC 32 (F k))] rfl (by simp only [List.map_toArray, List.map_cons, List.map_nil, evS, h24, h30]) (by go_simp) ((HN2.out w1).mono fun e w' ⟨he, hk'⟩ => ⟨_, he, hk', rfl⟩)
      refine ⟨fun t w1 hf hk hp => ?_, ?_⟩
      · have h31 : slot t 31 = .string A := hp 31 (by kernel_rfl)
        clear hf hp
        refine stepAt_plain rfl ?_
        exact stepOK_move _ (.inr rfl) h31
      exact trivial
    · intro t w1 hsz hf hk hfacts
      have h5 : slot t 5 = .string A := hfacts 11 _ rfl 5 rfl
      have h0 : slot t 0 = .int .i64 (k : Int) := hf 0 (by kernel_rfl)
      have h1 : slot t 1 = .pointer (some ⟨gs, 0, none⟩) := hf 1 (by kernel_rfl)
      have h2 : slot t 2 = .pointer (some ⟨gl, 0, none⟩) := hf 2 (by kernel_rfl)
      have h3 : slot t 3 = .pointer (some ⟨gu, 0, none⟩) := hf 3 (by kernel_rfl)
      have harr : t = #[slot t 0, slot t 1, slot t 2, slot t 3, slot t 4, slot t 5, slot t 6, slot t 7, slot t 8, slot t 9, slot t 10, slot t 11, slot t 12, slot t 13, slot t 14, slot t 15, slot t 16, slot t 17, slot t 18, slot t 19, slot t 20, slot t 21, slot t 22, slot t 23, slot t 24, slot t 25, slot t 26, slot t 27, slot t 28, slot t 29, slot t 30, slot t 31] := arr_eq t 32 hsz
      rw [harr, h5, h0, h1, h2, h3]
      clear harr hfacts hf h5 h0 h1 h2 h3
      generalize slot t 4 = x4; generalize slot t 6 = x6; generalize slot t 7 = x7; generalize slot t 8 = x8; generalize slot t 9 = x9; generalize slot t 10 = x10; generalize slot t 11 = x11; generalize slot t 12 = x12; generalize slot t 13 = x13; generalize slot t 14 = x14; generalize slot t 15 = x15; generalize slot t 16 = x16
      generalize slot t 17 = x17; generalize slot t 18 = x18; generalize slot t 19 = x19; generalize slot t 20 = x20; generalize slot t 21 = x21; generalize slot t 22 = x22; generalize slot t 23 = x23; generalize slot t 24 = x24; generalize slot t 25 = x25; generalize slot t 26 = x26; generalize slot t 27 = x27; generalize slot t 28 = x28
      generalize slot t 29 = x29; generalize slot t 30 = x30; generalize slot t 31 = x31
      clear hsz t
      have K := Lib.hid hk
      clear hk
      go_wp2_with fail
      go_ret
      exact ⟨rfl, K.out⟩

theorem run_loadBs {w : World} {a : Addr} {p : Option Addr} {n c : Nat} (h : w.cell? a = some (.slice p n c)) : (Instr.loadAt 69 (.pointer (some a))).run Tryd.prog w = .ok (.slice p n c) w := by
  go_simp
theorem execLenBs {o : Oper} {t : Array Value} {x : Operand} {p : Option Addr} {n c : Nat} (w : World) (ho : o.op = .call { callee := .builtin .len, args := #[x], argTypes := #[69] }) (hx : evS t x = .slice p n c) :
    (execOp (evS t) o).run Tryd.prog w = .ok (.value (.int .i64 (n : Int))) w := by
  unfold execOp
  rw [ho]
  go_simp
/-- '[]string{s}': a slice of the call's own. -/
theorem execOne {o : Oper} {t : Array Value} {x : Operand} {w : World} (b : Nat) (s : ByteArray) (ho : o.op = .buildSlice 36 1 #[(0, x)]) (hx : evS t x = .string s) (hb : b ≤ w.heap.size) :
    ∃ v' w', (execOp (evS t) o).run Tryd.prog w = .ok (.value v') w' ∧ Kept w w' ∧ TxS b [s] v' w' :=
  ⟨_, _, execBuild1 ho hx (run_build1s s w), (Kept.refl w).alloc _, TxS.one (Rowz.new w _ _) hb⟩

set_option maxRecDepth 100000 in
set_option maxHeartbeats 4000000 in
theorem clashTexts_any (s : ByteArray) (hs : s.size ≤ 1000000) (i n : Nat) (p : Option Addr) (m c : Nat) (F : Nat → List UInt8) (w : World) (hi : i < n) (hn : n ≤ 1048576) (hml : m = (sidesN n i).length) (hm63 : m ≤ 63) (h0 : mayE (i : Int) (n : Int) m = 0)
    (hv : HSl m F (.slice p m c) w) (ht : Tab w) :
    Calls Tryd.prog 22 #[.agg #[.string s, .int .i64 (i : Int), .int .i64 (n : Int), .slice p m c]] w fun e w' => ∃ x, e = .returned x ∧ TxS w.heap.size (txL s i n m F (m + 2)) x w' ∧ Kept w w' := by
  have HT := Lib.hid ht
  have HV := Lib.hid hv
  have HUp : Hid (∀ w, HSl m F (.slice p m c) w → Tab w → Calls Tryd.prog 36 #[.string s, .agg #[.int .i64 (i : Int), .int .i64 (n : Int), .slice p m c]] w fun e w' => ∃ q cc, e = .returned (.slice (some q) (m + 1) cc) ∧ HAt w' (some q) (m + 1) (uH s i n m F) ∧ Kept w w') := Lib.hid fun w hv ht => by
    refine (holdUp_any s hs (i : Int) (n : Int) m F _ w hv ht).mono ?_
    rintro e w' ⟨x, rfl, hx, hk⟩
    have hu : upO s (i : Int) (n : Int) m F = upsL s i n m F m := by rw [upO, if_pos h0]; rfl
    rw [hu] at hx
    have hx' := hx.hsl (upsL_32 s i n m F hml)
    rw [upsL_length] at hx'
    obtain ⟨q0, cc, rfl, _, _, hH⟩ := hx'
    obtain ⟨q, rfl, _⟩ := hH.some (by omega)
    refine ⟨q, cc, rfl, ?_, hk⟩
    intro a ha
    have := hH a ha
    rwa [upsL_get s i n m F m a (by omega)] at this
  have HS : Hid (∀ w, Calls Tryd.prog 37 #[.int .i64 (n : Int), .int .i64 (i : Int)] w fun e w' => ∃ zp zc, e = .returned (.slice zp m zc) ∧ BRow w' (.slice zp m zc) (sidesN n i) ∧ Kept w w') := Lib.hid fun w => by
    have h := shapeSides_any (n : Int) (i : Int) w (by omega)
    rw [sidesI_yes hi] at h
    refine h.mono ?_
    rintro e w' ⟨v, rfl, hb, hk⟩
    have hb' := hb
    obtain ⟨zp, zc, rfl, _⟩ := hb
    rw [← hml] at hb' ⊢
    exact ⟨zp, zc, rfl, hb', hk⟩
  have hUl : Hid (∀ k, k ≤ m → (uH s i n m F k).length = 32) := Lib.hid fun k hk => uH_length s i n m F k hml hk
  have hFl : Hid (∀ k, k < m → (F k).length = 32) := Lib.hid fun k hk => by
    obtain ⟨_, _, _, _, _, hF⟩ := hv
    exact hF.length k hk
  have hT0 : Hid (txA s i n m F 0 = rootS n (uH s i n m F m)) := Lib.hid (txA_zero s i n m F)
  have hTk : Hid (∀ k, k < m → txA s i n m F (m - k) = bif (sidesN n i).getD k false then nodeS (F k) (uH s i n m F k) else nodeS (uH s i n m F k) (F k)) := Lib.hid fun k hk => by
    rw [txA_node s i n m F (m - k) (by omega) (by omega), show m - (m - k) = k by omega]; rfl
  have hTl : Hid (txA s i n m F (m + 1) = leafS s) := Lib.hid (txA_leaf s i n m F)
  have hL1 : Hid (txL s i n m F 1 = [txA s i n m F 0]) := Lib.hid (txL_one s i n m F)
  have hLs : Hid (∀ k, txL s i n m F (k + 1) = txL s i n m F k ++ [txA s i n m F k]) := Lib.hid fun k => txL_succ s i n m F k
  have hLl : Hid (∀ k, (txL s i n m F k).length = k) := Lib.hid fun k => txL_length s i n m F k
  have hZ : Hid ((sidesN n i).length = m) := Lib.hid hml.symm
  have HRt : Hid (∀ w, Calls Tryd.prog 40 #[.int .u64 (n : Int), .agg (bC 32 (uH s i n m F m))] w fun e w' => e = .returned (.string (txA s i n m F 0)) ∧ Kept w w') := Lib.hid fun w => by
    rw [hT0.out]; exact tagRoot_any n (by omega) (uH s i n m F m) (hUl.out m (Nat.le_refl _)) w
  have HLf : Hid (∀ w, Calls Tryd.prog 41 #[.string s] w fun e w' => e = .returned (.string (txA s i n m F (m + 1))) ∧ Kept w w') := Lib.hid fun w => by
    rw [hTl.out]; exact tagLeaf_any s w (by omega)
  clear h0 hml hv ht hT0 hTl hs
  generalize txL s i n m F = LL at hL1 hLs hLl ⊢
  generalize txA s i n m F = TT at hTk hL1 hLs HRt HLf
  generalize uH s i n m F = U at HUp hUl hTk HRt
  generalize sidesN n i = Z at HS hTk hZ
  have hw : IntKind.u64.wrap (n : Int) = (n : Int) := wrap_u64 n hn
  have hsub : IntKind.i64.wrap ((m : Int) - 1) = (m : Int) - 1 := by simp only [IntKind.wrap, IntKind.signed, IntKind.bits]; simp; omega
  have R1 := Lib.hid (Rowz.new w #[.string s, .int .i64 (i : Int), .int .i64 (n : Int), .slice p m c] 31)
  have K1 := Lib.hid ((Kept.refl w).alloc (.cells #[.string s, .int .i64 (i : Int), .int .i64 (n : Int), .slice p m c] 31))
  go_enter Tryd.func22, Tryd.ntmps22
  go_wp2_with fail
  change Calls _ _ _ (w.alloc (.cells #[.string s, .int .i64 (i : Int), .int .i64 (n : Int), .slice p m c] 31)) _
  generalize w.alloc (.cells #[.string s, .int .i64 (i : Int), .int .i64 (n : Int), .slice p m c] 31) = w1 at R1 K1 ⊢
  refine (HUp.out w1 (HSl.kept _ _ _ _ _ K1.out HV.out) (HT.out.kept K1.out)).mono ?_
  rintro e w2 ⟨q, cc, rfl, hU2, k2⟩
  have U2 := Lib.hid hU2
  have R2 := Lib.hid (R1.out.kept k2)
  have K2 := Lib.hid (K1.out.trans k2)
  have R3 := Lib.hid (R2.out.alloc (.cells #[.slice (some q) (m + 1) cc] 27))
  have S3 := Lib.hid (Rowz.new w2 #[.slice (some q) (m + 1) cc] 27)
  have U3 := Lib.hid (U2.out.kept ((Kept.refl w2).alloc (.cells #[.slice (some q) (m + 1) cc] 27)))
  have K3 := Lib.hid (K2.out.alloc (.cells #[.slice (some q) (m + 1) cc] 27))
  clear hU2 R1 K1 k2 HUp R2 U2 K2
  have c1 := R3.out.cell 1
  have c2 := R3.out.cell 2
  go_wp2_with fail
  clear c1 c2
  change Calls _ _ _ (w2.alloc (.cells #[.slice (some q) (m + 1) cc] 27)) _
  generalize w2.alloc (.cells #[.slice (some q) (m + 1) cc] 27) = w3 at R3 S3 U3 K3 ⊢
  obtain ⟨gu, hgu⟩ : ∃ g, g = w2.heap.size := ⟨_, rfl⟩
  rw [← hgu] at S3 ⊢
  clear hgu
  refine (HS.out w3).mono ?_
  rintro e w4 ⟨zp, zc, rfl, hb4, k4⟩
  have B4 := Lib.hid hb4
  have R4 := Lib.hid (R3.out.kept k4)
  have S4 := Lib.hid (S3.out.kept k4)
  have U4 := Lib.hid (U3.out.kept k4)
  have K4 := Lib.hid (K3.out.trans k4)
  clear hb4 R3 S3 U3 K3 k4 HS
  have R5 := Lib.hid (R4.out.alloc (.cells #[.slice zp m zc] 69))
  have S5 := Lib.hid (S4.out.alloc (.cells #[.slice zp m zc] 69))
  have T5 := Lib.hid (Rowz.new w4 #[.slice zp m zc] 69)
  have B5 := Lib.hid (B4.out.kept ((Kept.refl w4).alloc (.cells #[.slice zp m zc] 69)))
  have U5 := Lib.hid (U4.out.kept ((Kept.refl w4).alloc (.cells #[.slice zp m zc] 69)))
  have K5 := Lib.hid (K4.out.alloc (.cells #[.slice zp m zc] 69))
  clear R4 S4 U4 K4 B4
  go_wp2_with fail
  generalize w4.alloc (.cells #[.slice zp m zc] 69) = w5 at R5 S5 T5 B5 U5 K5 ⊢
  obtain ⟨gs, hgs⟩ : ∃ g, g = w4.heap.size := ⟨_, rfl⟩
  rw [← hgs] at T5 ⊢
  clear hgs
  refine wp_region_table [(21, .is (.pointer (some ⟨w.heap.size, 1, none⟩))), (22, .is (.pointer (some ⟨w.heap.size, 2, none⟩))), (23, .is (.int .i64 (n : Int))), (24, .is (.int .u64 (n : Int))), (25, .is (.slice (some q) (m + 1) cc)), (26, .is (.slice zp m zc)), (27, .is (.int .i64 (m : Int))), (28, .is (.pointer (some (q.add (m * 32))))), (29, .is (.agg (bC 32 (U m)))), (30, .is (.string (TT 0))), (31, .such (TxS w5.heap.size [TT 0]) (TxS.kept w5.heap.size [TT 0])), (6, .such (TxS w5.heap.size [TT 0]) (TxS.kept w5.heap.size [TT 0]))] (by kernel_rfl) (by kernel_rfl) ?_ ?_
  · refine ⟨fun t w1 hf hk hp => ?_, ?_⟩
    · have h1 : slot t 1 = .pointer (some ⟨w.heap.size, 0, none⟩) := hf 1 (by kernel_rfl)
      clear hf hp
      refine stepAt_plain rfl ?_
      exact stepOK_pure (.pointer (some ⟨w.heap.size, 1, none⟩)) (execFieldL w.heap.size 1 (by omega) w1 rfl h1) rfl
    refine ⟨fun t w1 hf hk hp => ?_, ?_⟩
    · have h21 : slot t 21 = .pointer (some ⟨w.heap.size, 1, none⟩) := hp 21 (by kernel_rfl)
      clear hf hp
      refine stepAt_plain rfl ?_
      exact stepOK_pure (.pointer (some ⟨w.heap.size, 2, none⟩)) (execFieldO1 w.heap.size 1 2 (by omega) rfl w1 rfl h21) rfl
    refine ⟨fun t w1 hf hk hp => ?_, ?_⟩
    · have h22 : slot t 22 = .pointer (some ⟨w.heap.size, 2, none⟩) := hp 22 (by kernel_rfl)
      clear hf hp
      refine stepAt_plain rfl ?_
      have hq0 := run_loadI ((R5.out.kept hk).cell 2)
      exact stepOK_sem (.int .i64 (n : Int)) (by simp only [execOp, evS, h22]) hq0 rfl
    refine ⟨fun t w1 hf hk hp => ?_, ?_⟩
    · have h23 : slot t 23 = .int .i64 (n : Int) := hp 23 (by kernel_rfl)
      clear hf hp
      refine stepAt_plain rfl ?_
      have hq0 := hw
      refine stepOK_pure (.int .u64 (n : Int)) ?_ rfl
      simp only [execOp, evS, h23]
      go_simp
    refine ⟨fun t w1 hf hk hp => ?_, ?_⟩
    · have h3 : slot t 3 = .pointer (some ⟨gu, 0, none⟩) := hf 3 (by kernel_rfl)
      clear hf hp
      refine stepAt_plain rfl ?_
      have hq0 := run_loadHs ((S5.out.kept hk).cell 0)
      exact stepOK_sem (.slice (some q) (m + 1) cc) (by simp only [execOp, evS, h3]) hq0 rfl
    refine ⟨fun t w1 hf hk hp => ?_, ?_⟩
    · have h4 : slot t 4 = .pointer (some ⟨gs, 0, none⟩) := hf 4 (by kernel_rfl)
      clear hf hp
      refine stepAt_plain rfl ?_
      have hq0 := run_loadBs ((T5.out.kept hk).cell 0)
      exact stepOK_sem (.slice zp m zc) (by simp only [execOp, evS, h4]) hq0 rfl
    refine ⟨fun t w1 hf hk hp => ?_, ?_⟩
    · have h26 : slot t 26 = .slice zp m zc := hp 26 (by kernel_rfl)
      clear hf hp
      refine stepAt_plain rfl ?_
      exact stepOK_pure (.int .i64 (m : Int)) (execLenBs w1 rfl h26) rfl
    refine ⟨fun t w1 hf hk hp => ?_, ?_⟩
    · have h25 : slot t 25 = .slice (some q) (m + 1) cc := hp 25 (by kernel_rfl)
      have h27 : slot t 27 = .int .i64 (m : Int) := hp 27 (by kernel_rfl)
      clear hf hp
      refine stepAt_plain rfl ?_
      exact stepOK_pure (.pointer (some (q.add (m * 32)))) (execIndexH q (m + 1) cc m (by omega) w1 rfl h25 h27) rfl
    refine ⟨fun t w1 hf hk hp => ?_, ?_⟩
    · have h28 : slot t 28 = .pointer (some (q.add (m * 32))) := hp 28 (by kernel_rfl)
      clear hf hp
      refine stepAt_plain rfl ?_
      have hq0 := (U5.out.kept hk).load m (by omega)
      exact stepOK_sem (.agg (bC 32 (U m))) (by simp only [execOp, evS, h28]) hq0 rfl
    refine ⟨fun t w1 hf hk hp => ?_, ?_⟩
    · have h24 : slot t 24 = .int .u64 (n : Int) := hp 24 (by kernel_rfl)
      have h29 : slot t 29 = .agg (bC 32 (U m)) := hp 29 (by kernel_rfl)
      clear hf hp
      refine stepAt_plain rfl ?_
      refine stepOK_call #[.int .u64 (n : Int), .agg (bC 32 (U m))] rfl (by simp only [List.map_toArray, List.map_cons, List.map_nil, evS, h24, h29]) (by go_simp) ((HRt.out w1).mono fun e w' ⟨he, hk'⟩ => ⟨_, he, hk', rfl⟩)
    refine ⟨fun t w1 hf hk hp => ?_, ?_⟩
    · have h30 : slot t 30 = .string (TT 0) := hp 30 (by kernel_rfl)
      clear hf hp
      refine stepAt_plain rfl ?_
      exact stepOK_val (execOne w5.heap.size (TT 0) rfl h30 hk.size)
    refine ⟨fun t w1 hf hk hp => ?_, ?_⟩
    · obtain ⟨v31, h31, p31⟩ : ∃ v, slot t 31 = v ∧ (TxS w5.heap.size [TT 0]) v w1 := ⟨_, rfl, hp 31 (by kernel_rfl)⟩
      clear hf hp
      refine stepAt_plain rfl ?_
      exact stepOK_move _ (.inr rfl) (by simp only [evS, h31]; exact p31)
    exact trivial
  · intro t w1 hsz hf hk hfacts
    obtain ⟨v6, h6, p6⟩ : ∃ v, slot t 6 = v ∧ (TxS w5.heap.size [TT 0]) v w1 := ⟨_, rfl, hfacts 11 _ rfl 6 rfl⟩
    have h1 : slot t 1 = .pointer (some ⟨w.heap.size, 0, none⟩) := hf 1 (by kernel_rfl)
    have h3 : slot t 3 = .pointer (some ⟨gu, 0, none⟩) := hf 3 (by kernel_rfl)
    have h4 : slot t 4 = .pointer (some ⟨gs, 0, none⟩) := hf 4 (by kernel_rfl)
    have h5 : slot t 5 = .func (.func 38) #[] #[.pointer (some ⟨gs, 0, none⟩), .pointer (some ⟨w.heap.size, 0, none⟩), .pointer (some ⟨gu, 0, none⟩)] := hf 5 (by kernel_rfl)
    have harr : t = #[slot t 0, slot t 1, slot t 2, slot t 3, slot t 4, slot t 5, slot t 6, slot t 7, slot t 8, slot t 9, slot t 10, slot t 11, slot t 12, slot t 13, slot t 14, slot t 15, slot t 16, slot t 17, slot t 18, slot t 19, slot t 20, slot t 21, slot t 22, slot t 23, slot t 24, slot t 25, slot t 26, slot t 27, slot t 28, slot t 29, slot t 30, slot t 31, slot t 32, slot t 33, slot t 34, slot t 35, slot t 36, slot t 37, slot t 38, slot t 39, slot t 40, slot t 41, slot t 42, slot t 43, slot t 44, slot t 45, slot t 46, slot t 47, slot t 48, slot t 49, slot t 50] := arr_eq t 51 hsz
    rw [harr, h6, h1, h3, h4, h5]
    clear harr hfacts hf h6 h1 h3 h4 h5
    generalize slot t 0 = x0; generalize slot t 2 = x2; generalize slot t 7 = x7; generalize slot t 8 = x8; generalize slot t 9 = x9; generalize slot t 10 = x10; generalize slot t 11 = x11; generalize slot t 12 = x12; generalize slot t 13 = x13; generalize slot t 14 = x14; generalize slot t 15 = x15; generalize slot t 16 = x16
    generalize slot t 17 = x17; generalize slot t 18 = x18; generalize slot t 19 = x19; generalize slot t 20 = x20; generalize slot t 21 = x21; generalize slot t 22 = x22; generalize slot t 23 = x23; generalize slot t 24 = x24; generalize slot t 25 = x25; generalize slot t 26 = x26; generalize slot t 27 = x27; generalize slot t 28 = x28
    generalize slot t 29 = x29; generalize slot t 30 = x30; generalize slot t 31 = x31; generalize slot t 32 = x32; generalize slot t 33 = x33; generalize slot t 34 = x34; generalize slot t 35 = x35; generalize slot t 36 = x36; generalize slot t 37 = x37; generalize slot t 38 = x38; generalize slot t 39 = x39; generalize slot t 40 = x40
    generalize slot t 41 = x41; generalize slot t 42 = x42; generalize slot t 43 = x43; generalize slot t 44 = x44; generalize slot t 45 = x45; generalize slot t 46 = x46; generalize slot t 47 = x47; generalize slot t 48 = x48; generalize slot t 49 = x49; generalize slot t 50 = x50
    clear hsz t
    rw [← hL1.out] at p6
    have X6 := Lib.hid p6
    have K6 := Lib.hid hk
    clear p6 hk hL1 HRt hw
    have c0 := (T5.out.kept K6.out).cell 0
    go_wp2_with fail
    clear c0
    have HC : Hid (∀ (k : Nat), k < m → ∀ wr, Kept w5 wr → Calls Tryd.prog 38 #[.int .i64 (k : Int), .pointer (some ⟨gs, 0, none⟩), .pointer (some ⟨w.heap.size, 0, none⟩), .pointer (some ⟨gu, 0, none⟩)] wr fun e w' => e = .returned (.string (TT (m - k))) ∧ Kept wr w') := Lib.hid fun k hk wr K => by
      rw [hTk.out k hk]
      obtain ⟨p', c', hpc, _, _, hF⟩ := HV.out
      obtain ⟨rfl, rfl⟩ : p' = p ∧ c' = c := by
        injection hpc with h1 h2 h3
        exact ⟨h1.symm, h3.symm⟩
      exact clashInner_any gs w.heap.size gu s i n p' m c' F zp zc Z q (m + 1) cc U k wr (T5.out.kept K) (R5.out.kept K) (S5.out.kept K) hZ.out (B5.out.kept K) (hF.kept (K5.out.trans K)) (U5.out.kept K) hk (by omega) (hFl.out k hk) (hUl.out k (by omega))
    clear hTk hFl hUl hZ
    go_loopw [6, 7] (fun x j wr => ∃ (k : Nat) (J : Int), k ≤ m ∧ Hid (J = (k : Int) - 1) ∧ j = .int .i64 J ∧ Hid (TxS w5.heap.size (LL (m + 1 - k)) x wr) ∧ Hid (Kept w5 wr)) (fun _ j _ => (intOf j + 1).toNat)
    case atStart => exact ⟨m, (m : Int) - 1, Nat.le_refl _, Lib.hid rfl, rfl, by rw [show m + 1 - m = 1 by omega]; exact X6, K6⟩
    case round =>
      clear X6 K6
      obtain ⟨k, J, hk, hJ, rfl, X6, K6⟩ := hrel
      cases k with
      | zero =>
        have hJ' : J = -1 := by have := hJ.out; omega
        subst hJ'
        clear hJ HC
        have X7 : Hid (TxS w5.heap.size (LL (m + 1)) u6 wr) := X6
        have c0 := (R5.out.kept K6.out).cell 0
        go_wp2_with fail
        clear c0 X6
        refine (HLf.out wr).mono ?_
        rintro e w7 ⟨rfl, k7⟩
        have X8 := Lib.hid (TxS.kept _ _ _ _ _ k7 X7.out)
        have K7 := Lib.hid (K6.out.trans k7)
        have hll : (LL (m + 1)).length + 1 ≤ 1000000 := by rw [hLl.out]; omega
        clear k7 X7 K6 hLl
        go_wp2_with (at_builtin; refine wpList_append_strs rfl _ _ rfl w5 0 _ _ (LL (m + 1)) [TT (m + 1)] rfl rfl (Lib.hid (TxS.kept _ _ _ _ _ ((Kept.refl w7).alloc _) X8.out)) (Lib.hid (TxS.one (Rowz.new _ _ _) (Nat.zero_le _))) (by simp) hll (Lib.hid (K7.out.alloc _)) ?_; rw [← hLs.out]; intro x8 w8 X9 K8)
        go_ret
        exact ⟨_, rfl, X9.out.base K5.out.size, K5.out.trans K8.out⟩
      | succ k =>
        have hJ' : J = (k : Int) := by have := hJ.out; omega
        subst hJ'
        clear hJ
        have hd : decide ((k : Int) ≥ 0) = true := decide_eq_true (by omega)
        have hd' : decide (0 ≤ (k : Int)) = true := decide_eq_true (by omega)
        rw [show m + 1 - (k + 1) = m - k by omega] at X6
        have hll : (LL (m - k)).length + 1 ≤ 1000000 := by rw [hLl.out]; omega
        go_wp2_with fail
        refine (HC.out k (by omega) wr K6.out).mono ?_
        rintro e w7 ⟨rfl, k7⟩
        have X7 := Lib.hid (TxS.kept _ _ _ _ _ k7 X6.out)
        have K7 := Lib.hid (K6.out.trans k7)
        clear k7 X6 K6
        go_wp2_with (at_builtin; refine wpList_append_strs rfl _ _ rfl w5 0 _ _ (LL (m - k)) [TT (m - k)] rfl rfl (Lib.hid (TxS.kept _ _ _ _ _ ((Kept.refl w7).alloc _) X7.out)) (Lib.hid (TxS.one (Rowz.new _ _ _) (Nat.zero_le _))) (by simp) hll (Lib.hid (K7.out.alloc _)) ?_; rw [← hLs.out, show m - k + 1 = m + 1 - k by omega]; intro x8 w8 X9 K8)
        have hw2 : IntKind.i64.wrap ((k : Int) - 1) = (k : Int) - 1 := by simp only [IntKind.wrap, IntKind.signed, IntKind.bits]; simp; omega
        go_roundw
        case rel => exact ⟨k, (k : Int) - 1, by omega, Lib.hid rfl, by first | rfl | go_num, X9, K8⟩
        case measure => simp [intOf]
end Go.Proofs.YthafohijocidlaaDoor
