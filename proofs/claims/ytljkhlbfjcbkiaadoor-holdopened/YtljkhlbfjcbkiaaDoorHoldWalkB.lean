/-
  Contracts of hold.Up, Root and Check. Conditions: a leaf of at most a million bytes; a slice's length and capacity fit; sha's table of round constants stands.
-/
import Derived.Test.YtljkhlbfjcbkiaaDoorHoldWalkA
namespace Go.Proofs.YtljkhlbfjcbkiaaDoor
set_option maxRecDepth 4000
open Go.RowKit

theorem PaS.one {base g : Nat} {h : List UInt8} {w : World} (hr : Rowz w g (bC 32 h) 23) (hb : base ≤ g) : PaS base [h] (.slice (some ⟨g, 0, none⟩) 1 1) w := by
  have e : (bC 32 h).toList = (hC 1 (lh [h])).toList := by
    have := hC_snoc 0 (lh [h])
    rw [← this, show lh [h] 0 = h from rfl]
    simp [hC]
  refine ⟨by simp [hC_size], .inr ⟨g, 1, bC 32 h, rfl, hb, hr, Nat.le_refl _, by unfold maxLen; omega, by rw [bC_size], ?_⟩⟩
  rw [show ([h] : List (List UInt8)).length = 1 from rfl, ← e, List.take_of_length_le (by rw [Array.length_toList, bC_size]; omega)]
theorem BRow.setRow {w : World} {v : Value} {l : List Bool} {g : Nat} {C : Array Value} (h : BRow w v l) (hr : Rowz w g C 23) (D : Array Value) : BRow (w.setRow g D) v l := by
  obtain ⟨p, cap, hv, h⟩ := h
  refine ⟨p, cap, hv, fun hl => ?_⟩
  obtain ⟨k, cur, hp, hk, hc⟩ := h hl
  refine ⟨k, cur, hp, hk.rowOther ?_, hc⟩
  rintro rfl
  have := hk.symm.trans hr
  simp at this
/-- What an append onto a slice of hashes of the call's own, in a block from b on, leaves. -/
def Past (b : Nat) (w w' : World) : Prop := (∀ W : World, W.heap.size ≤ b → Kept W w → Kept W w') ∧ (∀ g C T, Rowz w g C T → g < b ∨ T ≠ 23 → Rowz w' g C T) ∧ w.heap.size ≤ w'.heap.size
theorem BRow.past {b : Nat} {w w' : World} {v : Value} {l : List Bool} (h : BRow w v l) (k : Past b w w') : BRow w' v l := by
  obtain ⟨p, cap, hv, h⟩ := h
  refine ⟨p, cap, hv, fun hl => ?_⟩
  obtain ⟨g, cur, hp, hr, hc⟩ := h hl
  exact ⟨g, cur, hp, k.2.1 g cur _ hr (.inr (by decide)), hc⟩
/-- 'append(l, h)' on such a slice, in a block from b on. -/
theorem wpList_append_pathB {w : World} {T : TypeId} {h0 : List UInt8} {ops : Array Oper} {rest : List Oper} {o : Oper} {a : Act} {Q : Exit → Act → World → Prop} (hgd : o.guard = none) (s x : Operand)
    (ho : o.op = .call { callee := .builtin .append, args := #[s, x], argTypes := #[24, 24] }) (b : Nat) (hbw : b ≤ w.heap.size)
    (v : Value) (L : List (List UInt8)) (g : Nat) (hs : a.eval s = v) (hown : Hid (PaS b L v w)) (hx : a.eval x = .slice (some ⟨g, 0, none⟩) 1 1) (hr : Hid (Rowz w g (bC 32 h0) T))
    (hn : L.length ≤ 1000)
    (h : ∀ v' w', Hid (PaS b (L ++ [h0]) v' w') → Hid (Past b w w') → wpList Tryd.prog ops Q rest (a.put o.dst v') w') :
    wpList Tryd.prog ops Q (o :: rest) a w := by
  obtain ⟨i, hi⟩ : ∃ i, Tryd.prog.info? 23 = some i := Option.isSome_iff_exists.1 (by kernel_rfl)
  have h32 := info_hash32
  rw [hi] at h32
  have h0' := zero_hash
  rw [hi] at h0'
  obtain ⟨z, hz⟩ : ∃ z, i.zero = some z := by cases e : i.zero with | none => simp [e] at h0' | some z => exact ⟨z, rfl⟩
  have hz' : z.cells = bC 32 [] := by simpa [hz] using h0'
  have hs32 : i.size = 32 := by simpa using congrArg (Option.map (·.1)) h32
  have hb32 : i.bytes = 32 := by simpa using congrArg (Option.map (·.2)) h32
  refine wpList_append_own w hgd s x 24 ho b 23 i z 32 32 Tryd.underlying24 hi hz hs32 hb32 (by rw [hz', bC_size]) (by decide) v L.length (hC L.length (lh L)).toList hs hown.out ⟨g, 0, none⟩ 1 1 (bC 32 h0).toList hx (by rw [Array.length_toList, bC_size]) ?_ ?_ (by unfold maxLen; omega) (by omega) hbw ?_
  · intro j y hj
    rw [Addr.add_mid, hr.out.cell, ← hj, Array.getElem?_toList]
    simp
  · intro y hy
    exact Array.all_eq_true_iff_forall_mem.1 (bC_one 32 h0) y (by simpa using hy)
  · intro v' w' ho' hg _
    have hlt := fun k hk' => (hown.out.lt k hk').1
    refine h v' w' (Lib.hid ?_) (Lib.hid ⟨fun W hW K => K.grownBy hg fun k hk' => Nat.le_trans hW (hlt k hk'), fun k C T' hR hk => ?_, ?_⟩)
    · have e1 : hC L.length (lh L) = hC L.length (lh (L ++ [h0])) := hC_congr _ _ _ fun i hi => (lh_snoc L h0 i hi).symm
      have e2 : bC 32 h0 = bC 32 (lh (L ++ [h0]) L.length) := by rw [lh_last]
      rw [e1, e2, hC_snoc] at ho'
      unfold PaS
      rw [List.length_append]
      exact ho'
    · refine (hg.block k hR.lt fun e => ?_).trans hR
      rcases hk with hk | hk
      · have := hlt k e.symm; omega
      · rcases hown.out.2 with ⟨rfl, _⟩ | ⟨g', cap, cur, rfl, _, hg', _⟩
        · cases e
        · obtain rfl : k = g' := by simpa [Value.ownBlock] using e
          have e3 := hg'.symm.trans hR
          simp at e3
          exact hk e3.2.symm
    · exact hg.size
set_option maxRecDepth 100000 in
set_option maxHeartbeats 2000000 in
theorem holdUp_any (s : ByteArray) (hs : s.size ≤ 1000000) (I N : Int) (m : Nat) (F : Nat → List UInt8) (v : Value) (w : World) (hv : HSl m F v w) (ht : Tab w) :
    Calls Tryd.prog 8 #[.string s, .agg #[.int .i64 I, .int .i64 N, v]] w fun e w' => ∃ x, e = .returned x ∧ PaS w.heap.size (upO s I N m F) x w' ∧ Kept w w' := by
  obtain ⟨p, c, rfl, hc, hcm, hF⟩ := hv
  have HM : Hid (∀ w, _) := Lib.hid fun w => holdMay_any I N p m c w
  have K1 := Lib.hid ((Kept.refl w).alloc (.cells #[.int .i64 I, .int .i64 N, .slice p m c] 26))
  have R1 := Lib.hid (Rowz.new w #[.int .i64 I, .int .i64 N, .slice p m c] 26)
  by_cases h0 : mayE I N m = 0
  · rw [upO, if_pos h0]
    rw [h0] at HM
    obtain ⟨i, n, rfl, rfl, hi, hn, hml, hm63⟩ := mayE_nat h0
    simp only [Int.toNat_natCast]
    have HL : Hid (∀ w, Tab w → _) := Lib.hid fun w ht => tagLeafSum_any s hs w ht
    have HS : Hid (∀ w, Calls Tryd.prog 25 #[.int .i64 (n : Int), .int .i64 (i : Int)] w fun e w' => ∃ zp zc, e = .returned (.slice zp m zc) ∧ BRow w' (.slice zp m zc) (sidesN n i) ∧ Kept w w') := Lib.hid fun w => by
      have h := shapeSides_any (n : Int) (i : Int) w (by omega)
      rw [sidesI_yes hi] at h
      refine h.mono ?_
      rintro e w' ⟨v, rfl, hb, hk⟩
      have hb' := hb
      obtain ⟨zp, zc, rfl, _⟩ := hb
      rw [← hml] at hb' ⊢
      exact ⟨zp, zc, rfl, hb', hk⟩
    have hU0 : Hid (shaL (leafS s) = uH s i n m F 0) := Lib.hid (uH_zero s i n m F).symm
    have hUs : Hid (∀ k, k < m → uH s i n m F (k + 1) = stepU (uH s i n m F k) ((sidesN n i).getD k false, F k)) := Lib.hid fun k hk => uH_succ s i n m F k hml hk
    have hUl : Hid (∀ k, k ≤ m → (uH s i n m F k).length = 32) := Lib.hid fun k hk => uH_length s i n m F k hml hk
    have hL0 : Hid (upsL s i n m F 0 = [uH s i n m F 0]) := Lib.hid rfl
    have hLs : Hid (∀ k, upsL s i n m F (k + 1) = upsL s i n m F k ++ [uH s i n m F (k + 1)]) := Lib.hid fun k => upsL_succ s i n m F k
    have hLl : Hid (∀ k, (upsL s i n m F k).length = k + 1) := Lib.hid fun k => upsL_length s i n m F k
    have hZ : Hid ((sidesN n i).length = m) := Lib.hid hml.symm
    clear h0 hml
    generalize upsL s i n m F = LL at hL0 hLs hLl ⊢
    generalize uH s i n m F = U at hU0 hUs hUl hL0 hLs
    generalize sidesN n i = Z at HS hUs hZ
    rw [hU0.out] at HL
    clear hU0
    have HF := Lib.hid hF
    have HT := Lib.hid ht
    clear hF ht
    go_enter Tryd.func8, Tryd.ntmps8
    go_wp2_with fail
    change Calls _ _ _ (w.alloc (.cells #[.int .i64 (i : Int), .int .i64 (n : Int), .slice p m c] 26)) _
    generalize w.alloc (.cells #[.int .i64 (i : Int), .int .i64 (n : Int), .slice p m c] 26) = w1 at K1 R1 ⊢
    refine (HM.out w1).mono ?_
    rintro e w2 ⟨rfl, k2⟩
    have R2 := Lib.hid (R1.out.kept k2)
    have K2 := Lib.hid (K1.out.trans k2)
    clear R1 K1 k2 HM
    go_wp2_with fail
    refine (HL.out w2 (HT.out.kept K2.out)).mono ?_
    rintro e w3 ⟨rfl, k3⟩
    have R3 := Lib.hid (R2.out.kept k3)
    have K3 := Lib.hid (K2.out.trans k3)
    clear R2 K2 k3 HL
    go_wp2_with (first
      | (refine wpList_store_made rfl 23 _ _ rfl _ _ (bC 32 (U 0)) rfl rfl 23 _ rfl (info_hash _) (by simp [bC_size]) (bC_one _ _) ?_; intro w4 R4 k4)
      | (refine park_at 14 rfl ?_))
    obtain ⟨g5, hg5⟩ : ∃ g, g = w3.heap.size := ⟨_, rfl⟩
    have HG : Hid (w.heap.size < g5) := Lib.hid (by rw [hg5]; exact R3.out.lt)
    rw [← hg5] at R4 ⊢
    clear hg5
    have RO := Lib.hid (R3.out.kept k4.out)
    have K4 := Lib.hid (K3.out.trans k4.out)
    clear R3 K3 k4
    refine unpark ?_
    refine wpList_exec 14 rfl (by rfl) (.agg (bC 32 (U 0))) _ (loadHr rfl rfl R4.out) ?_
    refine wpList_exec 15 rfl (by rfl) (.slice (some ⟨w4.heap.size, 0, none⟩) 1 1) (w4.alloc (.cells (bC 32 (U 0)) 23)) (execBuild1 rfl rfl (run_build1h _ _)) ?_
    have O5 := Lib.hid (PaS.one (Rowz.new w4 (bC 32 (U 0)) 23) (Nat.le_refl _))
    rw [← hL0.out] at O5
    have HB : Hid (g5 < w4.heap.size) := Lib.hid R4.out.lt
    have HB2 : Hid (w4.heap.size ≤ (w4.alloc (.cells (bC 32 (U 0)) 23)).heap.size) := Lib.hid (by simp)
    replace R4 := Lib.hid (R4.out.alloc (.cells (bC 32 (U 0)) 23))
    replace RO := Lib.hid (RO.out.alloc (.cells (bC 32 (U 0)) 23))
    replace K4 := Lib.hid (K4.out.alloc (.cells (bC 32 (U 0)) 23))
    generalize w4.alloc (.cells (bC 32 (U 0)) 23) = w5 at O5 HB2 R4 RO K4 ⊢
    generalize w4.heap.size = b at O5 HB HB2 ⊢
    have c0 := RO.out.cell 0
    have c1 := RO.out.cell 1
    go_wp2_with fail
    clear c0 c1
    refine (HS.out _).mono ?_
    rintro e w6 ⟨zp, zc, rfl, hb6, k6⟩
    have B6 := Lib.hid hb6
    have O6 := Lib.hid (PaS.kept _ _ _ _ _ k6 O5.out)
    have R6 := Lib.hid (R4.out.kept k6)
    have RO6 := Lib.hid (RO.out.kept k6)
    have K6 := Lib.hid (K4.out.trans k6)
    have HB6 : Hid (b ≤ w6.heap.size) := Lib.hid (Nat.le_trans HB2.out k6.size)
    clear hb6 k6 O5 R4 RO K4 HS HB2
    go_wp2_with fail
    go_loopw [6, 22] (fun x j wr => ∃ k : Nat, k ≤ m ∧ j = .int .i64 (k : Int) ∧ Hid (PaS b (LL k) x wr) ∧ Hid (Rowz wr g5 (bC 32 (U k)) 23) ∧ Hid (BRow wr (.slice zp m zc) Z) ∧ Hid (Rowz wr w.heap.size #[.int .i64 (i : Int), .int .i64 (n : Int), .slice p m c] 26) ∧ Hid (b ≤ wr.heap.size) ∧ Hid (Kept w wr)) (fun _ j _ => m - (intOf j).toNat)
    case atStart => exact ⟨0, by omega, rfl, O6, R6, B6, RO6, HB6, K6⟩
    case round =>
      clear O6 R6 B6 RO6 HB6 K6
      rename_i x _
      obtain ⟨k, hk, rfl, OX, RU, BX, RO, HBX, HK⟩ := hrel
      by_cases hlt : k < m
      · have hd1 : decide ((k : Int) < (m : Int)) = true := decide_eq_true (by omega)
        have hd1' : decide (k < m) = true := decide_eq_true hlt
        obtain ⟨q, rfl, _⟩ := HF.out.some (by omega)
        have hkF := HF.out.length k hlt
        have hUk := hUl.out k (by omega)
        have HZk : Hid (0 < Z.length) := Lib.hid (by rw [hZ.out]; omega)
        have BX' := BX.out
        obtain ⟨zp', zc', hzz, hzr⟩ := BX'
        obtain ⟨gz, cz, hzp, rz, ez⟩ := hzr HZk.out
        have hzp2 : zp = some ⟨gz, 0, none⟩ := by
          injection hzz with h1 h2 h3
          rw [h1, hzp]
        have cB : wr.cell? ⟨gz, k, none⟩ = some (.bool (Z.getD k false)) := by rw [rz.cell, ez k (by rw [hZ.out]; exact hlt)]
        clear hzr hzp hzz rz ez
        subst hzp2
        have hU1 := hUs.out k hlt
        generalize Z.getD k false = r at cB hU1
        have HJ : Hid (∀ w, Tab w → Calls Tryd.prog 26 #[.agg (bC 32 (U k)), .agg (bC 32 (F k)), .bool r] w fun e w' => e = .returned (.agg (bC 32 (U (k + 1)))) ∧ Kept w w') := Lib.hid fun w ht => by
          rw [hU1]; exact holdJoined_any (U k) (F k) r hUk hkF w ht
        clear hU1
        go_wp2_with fail
        refine wp_region_tail 8 [(27, .is (.agg (bC 32 (U k)))), (28, .is (.pointer (some ⟨w.heap.size, 2, none⟩))), (29, .is (.slice (some q) m c)), (30, .is (.int .i64 (k : Int))), (31, .is (.pointer (some (q.add (k * 32))))), (32, .is (.agg (bC 32 (F k)))), (33, .is (.bool r)), (34, .is (.agg (bC 32 (U (k + 1)))))] (by kernel_rfl) (by kernel_rfl) ?_ ?_
        · refine ⟨fun t w1 hf hk hp => ?_, ?_⟩
          · have h5 : slot t 5 = .pointer (some ⟨g5, 0, none⟩) := hf 5 (by kernel_rfl)
            clear hf hp
            refine stepM_at (by kernel_rfl) ?_
            refine stepAt_plain rfl ?_
            exact stepOK_pure (.agg (bC 32 (U k))) (loadHr rfl h5 (RU.out.kept hk)) rfl
          refine ⟨fun t w1 hf hk hp => ?_, ?_⟩
          · have h3 : slot t 3 = .pointer (some ⟨w.heap.size, 0, none⟩) := hf 3 (by kernel_rfl)
            clear hf hp
            refine stepM_at (by kernel_rfl) ?_
            refine stepAt_plain rfl ?_
            exact stepOK_pure (.pointer (some ⟨w.heap.size, 2, none⟩)) (execFieldO w.heap.size 2 (by omega) w1 rfl h3) rfl
          refine ⟨fun t w1 hf hk hp => ?_, ?_⟩
          · have h28 : slot t 28 = .pointer (some ⟨w.heap.size, 2, none⟩) := hp 28 (by kernel_rfl)
            clear hf hp
            refine stepM_at (by kernel_rfl) ?_
            refine stepAt_plain rfl ?_
            have hq0 := run_loadHs ((RO.out.kept hk).cell 2)
            exact stepOK_sem (.slice (some q) m c) (by simp only [execOp, evS, h28]) hq0 rfl
          refine ⟨fun t w1 hf hk hp => ?_, ?_⟩
          · have h7 : slot t 7 = .int .i64 (k : Int) := hf 7 (by kernel_rfl)
            clear hf hp
            refine stepM_at (by kernel_rfl) ?_
            refine stepAt_plain rfl ?_
            exact stepOK_move _ (.inl rfl) h7
          refine ⟨fun t w1 hf hk hp => ?_, ?_⟩
          · have h29 : slot t 29 = .slice (some q) m c := hp 29 (by kernel_rfl)
            have h30 : slot t 30 = .int .i64 (k : Int) := hp 30 (by kernel_rfl)
            clear hf hp
            refine stepM_at (by kernel_rfl) ?_
            refine stepAt_plain rfl ?_
            exact stepOK_pure (.pointer (some (q.add (k * 32)))) (execIndexH q m c k hlt w1 rfl h29 h30) rfl
          refine ⟨fun t w1 hf hk hp => ?_, ?_⟩
          · have h31 : slot t 31 = .pointer (some (q.add (k * 32))) := hp 31 (by kernel_rfl)
            clear hf hp
            refine stepM_at (by kernel_rfl) ?_
            refine stepAt_plain rfl ?_
            have hq0 := (HF.out.kept (HK.out.trans hk)).load k hlt
            exact stepOK_sem (.agg (bC 32 (F k))) (by simp only [execOp, evS, h31]) hq0 rfl
          refine ⟨fun t w1 hf hk hp => ?_, ?_⟩
          · have h8 : slot t 8 = .bool r := hf 8 (by kernel_rfl)
            clear hf hp
            refine stepM_at (by kernel_rfl) ?_
            refine stepAt_plain rfl ?_
            exact stepOK_move _ (.inl rfl) h8
          refine ⟨fun t w1 hf hk hp => ?_, ?_⟩
          · have h27 : slot t 27 = .agg (bC 32 (U k)) := hp 27 (by kernel_rfl)
            have h32 : slot t 32 = .agg (bC 32 (F k)) := hp 32 (by kernel_rfl)
            have h33 : slot t 33 = .bool r := hp 33 (by kernel_rfl)
            clear hf hp
            refine stepM_at (by kernel_rfl) ?_
            refine stepAt_plain rfl ?_
            refine stepOK_call #[.agg (bC 32 (U k)), .agg (bC 32 (F k)), .bool r] rfl (by simp only [List.map_toArray, List.map_cons, List.map_nil, evS, h27, h32, h33]) (by go_simp) ((HJ.out w1 (HT.out.kept (HK.out.trans hk))).mono fun e w' ⟨he, hk'⟩ => ⟨_, he, hk', rfl⟩)
          exact trivial
        · intro t w1 hsz hf hk hfacts
          have h34 : slot t 34 = .agg (bC 32 (U (k + 1))) := hfacts 7 _ (by decide) rfl 34 rfl
          have h3 : slot t 3 = .pointer (some ⟨w.heap.size, 0, none⟩) := hf 3 (by kernel_rfl)
          have h5 : slot t 5 = .pointer (some ⟨g5, 0, none⟩) := hf 5 (by kernel_rfl)
          have h7 : slot t 7 = .int .i64 (k : Int) := hf 7 (by kernel_rfl)
          have h8 : slot t 8 = .bool r := hf 8 (by kernel_rfl)
          have h0 := hf 0 (by kernel_rfl)
          conv at h0 => rhs; whnf
          try change slot t 0 = undef at h0
          have h1 := hf 1 (by kernel_rfl)
          conv at h1 => rhs; whnf
          try change slot t 1 = undef at h1
          have h2 := hf 2 (by kernel_rfl)
          conv at h2 => rhs; whnf
          try change slot t 2 = undef at h2
          have h4 := hf 4 (by kernel_rfl)
          conv at h4 => rhs; whnf
          try change slot t 4 = undef at h4
          have h6 := hf 6 (by kernel_rfl)
          conv at h6 => rhs; whnf
          try change slot t 6 = undef at h6
          have h9 := hf 9 (by kernel_rfl)
          conv at h9 => rhs; whnf
          try change slot t 9 = undef at h9
          have h10 := hf 10 (by kernel_rfl)
          conv at h10 => rhs; whnf
          try change slot t 10 = undef at h10
          have h11 := hf 11 (by kernel_rfl)
          conv at h11 => rhs; whnf
          try change slot t 11 = undef at h11
          have h12 := hf 12 (by kernel_rfl)
          conv at h12 => rhs; whnf
          try change slot t 12 = undef at h12
          have h13 := hf 13 (by kernel_rfl)
          conv at h13 => rhs; whnf
          try change slot t 13 = undef at h13
          have h14 := hf 14 (by kernel_rfl)
          conv at h14 => rhs; whnf
          try change slot t 14 = undef at h14
          have h15 := hf 15 (by kernel_rfl)
          conv at h15 => rhs; whnf
          try change slot t 15 = undef at h15
          have h16 := hf 16 (by kernel_rfl)
          conv at h16 => rhs; whnf
          try change slot t 16 = undef at h16
          have h17 := hf 17 (by kernel_rfl)
          conv at h17 => rhs; whnf
          try change slot t 17 = undef at h17
          have h18 := hf 18 (by kernel_rfl)
          conv at h18 => rhs; whnf
          try change slot t 18 = undef at h18
          have h19 := hf 19 (by kernel_rfl)
          conv at h19 => rhs; whnf
          try change slot t 19 = undef at h19
          have h20 := hf 20 (by kernel_rfl)
          conv at h20 => rhs; whnf
          try change slot t 20 = undef at h20
          have h21 := hf 21 (by kernel_rfl)
          conv at h21 => rhs; whnf
          try change slot t 21 = undef at h21
          have h22 := hf 22 (by kernel_rfl)
          conv at h22 => rhs; whnf
          try change slot t 22 = undef at h22
          have h23 := hf 23 (by kernel_rfl)
          conv at h23 => rhs; whnf
          try change slot t 23 = undef at h23
          have h24 := hf 24 (by kernel_rfl)
          conv at h24 => rhs; whnf
          try change slot t 24 = undef at h24
          have h25 := hf 25 (by kernel_rfl)
          conv at h25 => rhs; whnf
          try change slot t 25 = undef at h25
          have h26 := hf 26 (by kernel_rfl)
          conv at h26 => rhs; whnf
          try change slot t 26 = undef at h26
          have h35 := hf 35 (by kernel_rfl)
          conv at h35 => rhs; whnf
          try change slot t 35 = undef at h35
          have h36 := hf 36 (by kernel_rfl)
          conv at h36 => rhs; whnf
          try change slot t 36 = undef at h36
          have h37 := hf 37 (by kernel_rfl)
          conv at h37 => rhs; whnf
          try change slot t 37 = undef at h37
          have h38 := hf 38 (by kernel_rfl)
          conv at h38 => rhs; whnf
          try change slot t 38 = undef at h38
          have h39 := hf 39 (by kernel_rfl)
          conv at h39 => rhs; whnf
          try change slot t 39 = undef at h39
          have h40 := hf 40 (by kernel_rfl)
          conv at h40 => rhs; whnf
          try change slot t 40 = undef at h40
          have harr : t = #[slot t 0, slot t 1, slot t 2, slot t 3, slot t 4, slot t 5, slot t 6, slot t 7, slot t 8, slot t 9, slot t 10, slot t 11, slot t 12, slot t 13, slot t 14, slot t 15, slot t 16, slot t 17, slot t 18, slot t 19, slot t 20, slot t 21, slot t 22, slot t 23, slot t 24, slot t 25, slot t 26, slot t 27, slot t 28, slot t 29, slot t 30, slot t 31, slot t 32, slot t 33, slot t 34, slot t 35, slot t 36, slot t 37, slot t 38, slot t 39, slot t 40] := arr_eq t 41 hsz
          rw [harr, h34, h3, h5, h7, h8, h0, h1, h2, h4, h6, h9, h10, h11, h12, h13, h14, h15, h16, h17, h18, h19, h20, h21, h22, h23, h24, h25, h26, h35, h36, h37, h38, h39, h40]
          clear harr hfacts hf h34 h3 h5 h7 h8 h0 h1 h2 h4 h6 h9 h10 h11 h12 h13 h14 h15 h16 h17 h18 h19 h20 h21 h22 h23 h24 h25 h26 h35 h36 h37 h38 h39 h40
          generalize slot t 27 = x27; generalize slot t 28 = x28; generalize slot t 29 = x29; generalize slot t 30 = x30; generalize slot t 31 = x31; generalize slot t 32 = x32; generalize slot t 33 = x33
          clear hsz t
          simp only [List.drop_succ_cons, List.drop_zero]
          have RU1 := Lib.hid (RU.out.kept hk)
          have OX1 := Lib.hid (PaS.setRow (PaS.kept _ _ _ _ _ hk OX.out) HB.out (bC 32 (U (k + 1))))
          have BX1 := Lib.hid ((BX.out.kept hk).setRow RU1.out (bC 32 (U (k + 1))))
          have RO1 := Lib.hid ((RO.out.kept hk).rowOther (D := bC 32 (U (k + 1))) (k := g5) (by have := HG.out; omega))
          have HK1 := Lib.hid ((HK.out.trans hk).setRow (g := g5) (Nat.le_of_lt HG.out) (bC 32 (U (k + 1))))
          have HB1 : Hid (b ≤ w1.heap.size) := Lib.hid (Nat.le_trans HBX.out hk.size)
          have RU2 := Lib.hid (RU1.out.row (D := bC 32 (U (k + 1))))
          clear hk RU OX BX RO HK HBX cB HJ
          go_wp2_with (first
            | (refine wpList_store_row rfl 23 _ _ rfl g5 (bC 32 (U (k + 1))) rfl rfl 23 (bC 32 (U k)) RU1.out (info_hash _) (by simp [bC_size]) (bC_one _ _) ?_)
            | (refine park_at 36 rfl ?_))
          have HB2 : Hid (b ≤ (w1.setRow g5 (bC 32 (U (k + 1)))).heap.size) := Lib.hid (by simpa using HB1.out)
          generalize w1.setRow g5 (bC 32 (U (k + 1))) = w2 at OX1 BX1 RO1 HK1 HB2 RU2 ⊢
          refine unpark ?_
          refine wpList_exec 36 rfl (by rfl) (.agg (bC 32 (U (k + 1)))) _ (loadHr rfl rfl RU2.out) ?_
          refine wpList_exec 37 rfl (by rfl) (.slice (some ⟨w2.heap.size, 0, none⟩) 1 1) (w2.alloc (.cells (bC 32 (U (k + 1))) 23)) (execBuild1 rfl rfl (run_build1h _ _)) ?_
          have RN := Lib.hid (Rowz.new w2 (bC 32 (U (k + 1))) 23)
          replace OX1 := Lib.hid (PaS.kept _ _ _ _ _ ((Kept.refl w2).alloc (.cells (bC 32 (U (k + 1))) 23)) OX1.out)
          replace BX1 := Lib.hid (BX1.out.kept ((Kept.refl w2).alloc (.cells (bC 32 (U (k + 1))) 23)))
          replace RO1 := Lib.hid (RO1.out.alloc (.cells (bC 32 (U (k + 1))) 23))
          replace RU2 := Lib.hid (RU2.out.alloc (.cells (bC 32 (U (k + 1))) 23))
          replace HK1 := Lib.hid (HK1.out.alloc (.cells (bC 32 (U (k + 1))) 23))
          have hB3 : b ≤ (w2.alloc (.cells (bC 32 (U (k + 1))) 23)).heap.size := by have := HB2.out; simp; omega
          have hLk : (LL k).length ≤ 1000 := by rw [hLl.out]; omega
          generalize w2.alloc (.cells (bC 32 (U (k + 1))) 23) = w3 at OX1 BX1 RO1 HK1 RU2 RN hB3 ⊢
          go_wp2_with (at_builtin; refine wpList_append_pathB rfl _ _ rfl b hB3 _ (LL k) _ rfl OX1 rfl RN hLk ?_; rw [← hLs.out]; intro v' w' O4 Q4)
          have R9 := Lib.hid (Q4.out.2.1 _ _ _ RU2.out (.inl HB.out))
          have B9 := Lib.hid (BX1.out.past Q4.out)
          have RO9 := Lib.hid (Q4.out.2.1 _ _ _ RO1.out (.inl (by have := HG.out; have := HB.out; omega)))
          have K9 := Lib.hid (Q4.out.1 w (by have := HG.out; have := HB.out; omega) HK1.out)
          go_roundw
          case rel => exact ⟨k + 1, by omega, by first | rfl | go_num, O4, R9, B9, RO9, Lib.hid (Nat.le_trans hB3 Q4.out.2.2), K9⟩
          case measure => simp [intOf]; omega
      · have hd1 : decide ((k : Int) < (m : Int)) = false := decide_eq_false (by omega)
        have hd1' : decide (k < m) = false := decide_eq_false hlt
        obtain rfl : k = m := by omega
        go_wp2_with fail
        go_ret
        exact ⟨_, rfl, OX.out.base (by have := HG.out; have := HB.out; omega), HK.out⟩
  · rw [upO, if_neg h0]
    generalize mayE I N m = E at HM h0
    have hd0 : (E != 0) = true := by simpa using h0
    have HE := Lib.hid h0
    clear h0 hF ht R1
    go_enter Tryd.func8, Tryd.ntmps8
    go_wp2_with fail
    change Calls _ _ _ (w.alloc (.cells #[.int .i64 I, .int .i64 N, .slice p m c] 26)) _
    generalize w.alloc (.cells #[.int .i64 I, .int .i64 N, .slice p m c] 26) = w1 at K1 ⊢
    refine (HM.out w1).mono ?_
    rintro e w2 ⟨rfl, k2⟩
    have K2 := Lib.hid (K1.out.trans k2)
    clear K1 k2 HM
    go_wp2_with fail
    go_ret
    exact ⟨_, rfl, PaS.nil _ _, K2.out⟩
end Go.Proofs.YtljkhlbfjcbkiaaDoor
