/-
  large.Text: the decimal digits.
-/
import Derived.Test.YtcjieaijcjinnaaLargeWalkE
namespace Go.Proofs.Ytcjieaijcjinnaa
open Go.RowKit

/-! ### Appending beside other rows -/
theorem wpList_append1k {P : Program} {w : World} {u : Value} {T : TypeId} {ops : Array Oper} {rest : List Oper} {o : Oper} {a : Act} {Q : Exit → Act → World → Prop} (hgd : o.guard = none) (s x : Operand) (t : TypeId)
    (ho : o.op = .call { callee := .builtin .append, args := #[s, x], argTypes := #[t, t] }) (base : Nat) (e : TypeId) (z : Value) (bytes : Nat) (ht : P.underlying t = some (.slice e))
    (hinfo : (P.info? e).map (fun i => (i.zero, i.size, i.bytes)) = some (some z, 1, bytes)) (hz : z.cells.size = 1)
    (v : Value) (n : Nat) (l : List Value) (hs : a.eval s = v) (hown : Hid (w.ownsRow base e 1 v n l)) (h1 : u.oneCell' = true) (hx : a.eval x = .slice (some ⟨w.heap.size, 0, none⟩) 1 1)
    (h63 : n + 1 ≤ maxLen) (hbytes : (n + 1) * bytes ≤ 140737488355328) (hb : base ≤ w.heap.size)
    (h : ∀ v' w', Hid (w'.ownsRow base e 1 v' (n + 1) (l ++ [u])) → Hid (∀ W, Kept W w → W.heap.size ≤ base → Kept W w') → Hid (∀ g C T', Rowz w g C T' → v.ownBlock ≠ some g → Rowz w' g C T') → wpList P ops Q rest (a.put o.dst v') w') : wpList P ops Q (o :: rest) a (w.alloc (.cells #[u] T)) := by
  obtain ⟨i, hi, hz0, hz1, hz2⟩ := info_parts hinfo
  refine wpList_append_own (w.alloc (.cells #[u] T)) hgd s x t ho base e i z 1 bytes ht hi hz0 hz1 hz2 hz (by decide) v n l hs (hown.out.alloc _) ⟨w.heap.size, 0, none⟩ 1 1 [u] hx rfl ?_ ?_ h63 hbytes (Nat.le_trans hb (by simp)) ?_
  · intro j y hj
    match j, hj with
    | 0, hj => simp at hj; subst hj; simp [Addr.add]
  · intro y hy; simp at hy; subst hy; exact h1
  · intro v' w' ho' hg _
    refine h v' w' (Lib.hid ho') (Lib.hid (fun W hk hbW => (hk.alloc _).grownBy hg ?_)) (Lib.hid ?_)
    · intro k hk'
      exact Nat.le_trans hbW (hown.out.lt k hk').1
    · intro g C T' hr hne
      have hr1 := hr.alloc (.cells #[u] T)
      exact (hg.block g hr1.lt (fun e => hne e.symm)).trans hr1
theorem owns_ne {w : World} {base : Nat} {e : TypeId} {v : Value} {n : Nat} {l : List Value} {g : Nat} {C : Array Value} {T : TypeId} (h : w.ownsRow base e 1 v n l) (hr : Rowz w g C T) (hT : T ≠ e) : v.ownBlock ≠ some g := by
  rcases h.2 with ⟨rfl, _⟩ | ⟨g', cap, cur, rfl, hb, hg, _⟩
  · simp [Value.ownBlock]
  · intro he
    simp only [Value.ownBlock, Option.some.injEq] at he
    subst he
    have : w.heap[g']? = some (.cells C T (0, 0)) := hr
    rw [this] at hg
    injection hg with hg
    injection hg with _ h2 _
    exact hT h2
theorem owns_setRow {w : World} {base : Nat} {e : TypeId} {v : Value} {n : Nat} {l : List Value} {g : Nat} {D : Array Value} (h : w.ownsRow base e 1 v n l) (hne : v.ownBlock ≠ some g) : (w.setRow g D).ownsRow base e 1 v n l := by
  refine ⟨h.1, ?_⟩
  rcases h.2 with h | ⟨g', cap, cur, hv, hb, hg, h1⟩
  · exact .inl h
  · refine .inr ⟨g', cap, cur, hv, hb, ?_, h1⟩
    rw [setRow_other w g g' D (fun e => hne (by rw [hv]; simp [Value.ownBlock, e]))]
    exact hg

/-! ### Digits -/
def txV (N k : Nat) : List Value := (List.range k).map fun i => .int .u8 (((dig N i).toNat : Nat) : Int)
theorem txV_succ (N n : Nat) : txV N (n + 1) = txV N n ++ [.int .u8 (((dig N n).toNat : Nat) : Int)] := by simp [txV, List.range_succ]
theorem txV_get (N n i : Nat) (h : i < n) : (txV N n)[i]? = some (.int .u8 (((dig N i).toNat : Nat) : Int)) := by simp [txV, h]
theorem dig_top (N k : Nat) (hN : N < 2 ^ 320) (h : N / 10 ^ k ≠ 0) : k < 97 := by
  rcases Nat.lt_or_ge k 97 with h1 | h1
  · exact h1
  · exfalso
    apply h
    apply Nat.div_eq_of_lt
    have h2 : 2 ^ 320 ≤ 10 ^ 97 := by decide +kernel
    have h3 : 10 ^ 97 ≤ 10 ^ k := Nat.pow_le_pow_right (by decide) h1
    omega
theorem pow10_split (X j : Nat) (hj : j ≤ 9) : X / 10 ^ j = X / 1000000000 * 10 ^ (9 - j) + X % 1000000000 / 10 ^ j := by
  have e : 1000000000 = 10 ^ j * 10 ^ (9 - j) := by rw [← Nat.pow_add, show j + (9 - j) = 9 by omega]
  have h := Nat.div_add_mod X 1000000000
  generalize X / 1000000000 = a at *
  generalize X % 1000000000 = b at *
  rw [← h, e, Nat.mul_assoc, Nat.mul_add_div (Nat.pow_pos (by decide)), Nat.mul_comm]
theorem dig_in (X j : Nat) (hj : j < 9) : X % 1000000000 / 10 ^ j % 10 = X / 10 ^ j % 10 := by
  rw [pow10_split X j (by omega), show 9 - j = (8 - j) + 1 by omega, Nat.pow_succ, ← Nat.mul_assoc]
  omega
theorem end_in (X j : Nat) (hj : j ≤ 9) : X / 10 ^ j = 0 ↔ X / 1000000000 = 0 ∧ X % 1000000000 / 10 ^ j = 0 := by
  rw [pow10_split X j hj]
  have hp : 0 < 10 ^ (9 - j) := Nat.pow_pos (by decide)
  constructor
  · intro h
    obtain ⟨h1, h2⟩ := Nat.add_eq_zero_iff.1 h
    refine ⟨?_, h2⟩
    rcases Nat.mul_eq_zero.1 h1 with h3 | h3
    · exact h3
    · omega
  · rintro ⟨h1, h2⟩
    rw [h1, h2]; simp
theorem div_pow10 (N a b : Nat) : N / 10 ^ a / 10 ^ b = N / 10 ^ (a + b) := by rw [Nat.div_div_eq_div_mul, ← Nat.pow_add]
theorem infoU8b : (Try.prog.info? 5).map (fun i => (i.zero, i.size, i.bytes)) = some (some (.int .u8 0), 1, 1) := by kernel_rfl

theorem rev_str (N k g cap : Nat) (w : World) (h : ∀ j, j < k → w.cell? ⟨g, j, none⟩ = some (.int .u8 (bt (digL N k) (k - 1 - j)))) :
    (convert 74 9 (.slice (some ⟨g, 0, none⟩) k cap)).run Try.prog w = .ok (.string ⟨(digL N k).reverse.toArray⟩) w := by
  have h1 := run_strB w g 0 cap (digL N k).reverse (fun j hj => by
    have hj' : j < k := by simpa [digL_len] using hj
    rw [Nat.zero_add, h j hj']
    have e : (digL N k).getD (k - 1 - j) 0 = (digL N k).reverse[j] := by
      rw [List.getElem_reverse, List.getD_eq_getElem?_getD, List.getElem?_eq_getElem (by rw [digL_len]; omega)]
      simp [digL_len]
    unfold bt
    rw [e])
  rw [List.length_reverse, digL_len] at h1
  exact h1
set_option maxRecDepth 100000 in
set_option maxHeartbeats 2000000 in
theorem largeText_any (N : Nat) (w : World) (hN : N < 2 ^ 320) :
    Calls Try.prog 28 #[.agg (lC N 5)] w fun e w' => e = .returned (.string (txt N)) ∧ Kept w w' := by
  have HN := Lib.hid hN
  clear hN
  go_enter Try.func28, Try.ntmps28
  go_wp2
  go_step3
  go_wp2
  go_step3
  go_wp2
  go_loopg [3] N (fun g v wx => ∃ m, g = N / 10 ^ (9 * m) ∧ (m = 0 ∨ g ≠ 0) ∧ Hid (wx.ownsRow w.heap.size 5 1 v (9 * m) (txV N (9 * m))) ∧ Hid (Rowz wx w.heap.size (lC (N / 10 ^ (9 * m)) 5) 24) ∧ Hid (Kept w wx))
  case atStart => exact ⟨0, by simp, .inl rfl, Lib.hid (World.ownsRow_nil _ _ _ _), Lib.hid (by simpa using Rowz.new w (lC N 5) 24), Lib.hid ((Kept.refl w).alloc _)⟩
  case round =>
    obtain ⟨m, hg, hm0, HO, HR, HK⟩ := hrel
    have hm : 9 * m < 97 := by
      rcases hm0 with h | h
      · omega
      · exact dig_top N _ HN.out (by rw [← hg]; exact h)
    have HX : Hid (N / 10 ^ (9 * m) < 2 ^ 320) := Lib.hid (Nat.lt_of_le_of_lt (Nat.div_le_self _ _) HN.out)
    have HG := Lib.hid hg
    have HM0 := Lib.hid hm0
    clear hg hm0
    have HDG : Hid (∀ j, N / 10 ^ (9 * m + j) = N / 10 ^ (9 * m) / 10 ^ j) := Lib.hid (fun j => (div_pow10 _ _ _).symm)
    obtain ⟨X, hX⟩ : ∃ X, X = N / 10 ^ (9 * m) := ⟨_, rfl⟩
    rw [← hX] at HR HX HDG HG
    have HXE := Lib.hid hX
    clear hX
    have HD : Hid (∀ w, Calls Try.prog 45 #[.agg (lC X 5), .int .u32 1000000000] w fun e w' => e = .returned (.tuple #[.agg (lC (X / 1000000000) 5), .int .u32 ((X % 1000000000 : Nat) : Int)]) ∧ Kept w w') := Lib.hid fun w => largeDiv_any X 1000000000 w HX.out (by decide) (by decide)
    have hne := Lib.hid (owns_ne HO.out HR.out (by decide))
    have hr9 : X % 1000000000 < 1000000000 := Nat.mod_lt _ (by decide)
    go_wp2_with (first
      | (refine wpList_load_row rfl 24 (.tmp 1) rfl w.heap.size rfl 24 (lC X 5) (0, 0) _ HR.out Try.underlying24 rfl (infoL _ _) ?_)
      | (go_at_call 45; refine (HD.out _).mono ?_; rintro e w1 ⟨rfl, k1⟩)
      | (refine wpList_store_row rfl 24 _ _ rfl w.heap.size (lC (X / 1000000000) 5) rfl rfl 24 (lC X 5) (HR.out.kept k1) (infoL _ _) (by simp [lC_size]) (lC_one _ _) ?_))
    have HO1 : Hid ((w1.setRow w.heap.size (lC (X / 1000000000) 5)).ownsRow w.heap.size 5 1 u3 (9 * m) (txV N (9 * m))) := Lib.hid (owns_setRow (ownsRow_kept HO.out k1) hne.out)
    have HR1 : Hid (Rowz (w1.setRow w.heap.size (lC (X / 1000000000) 5)) w.heap.size (lC (X / 1000000000) 5) 24) := Lib.hid (Rowz.row (HR.out.kept k1))
    have HK1 : Hid (Kept w (w1.setRow w.heap.size (lC (X / 1000000000) 5))) := Lib.hid ((HK.out.trans k1).setRow (Nat.le_refl _) _)
    clear HO HR HK k1 hne HD
    generalize w1.setRow w.heap.size (lC (X / 1000000000) 5) = w2 at HO1 HR1 HK1 ⊢
    go_loopg [3, 4, 10] 9 (fun g v r i wx => ∃ j, j + g = 9 ∧ i = .int .i64 (j : Int) ∧ r = .int .u32 ((X % 1000000000 / 10 ^ j : Nat) : Int) ∧ Hid (0 < j → X / 10 ^ j ≠ 0) ∧ Hid (wx.ownsRow w.heap.size 5 1 v (9 * m + j) (txV N (9 * m + j))) ∧ Hid (Rowz wx w.heap.size (lC (X / 1000000000) 5) 24) ∧ Hid (Kept w wx))
    case atStart => exact ⟨0, by omega, rfl, by simp, Lib.hid (by omega), HO1, HR1, HK1⟩
    case round =>
      clear HO1 HR1 HK1
      obtain ⟨j, hj, rfl, rfl, HNZ, HO, HR, HK⟩ := hrel
      by_cases hj9 : j < 9
      · have hdj : decide ((j : Int) < 9) = true := by simp; omega
        have hrl : X % 1000000000 / 10 ^ j < 1000000000 := Nat.lt_of_le_of_lt (Nat.div_le_self _ _) hr9
        have hdg : (48 + ((X % 1000000000 / 10 ^ j : Nat) : Int) % 10) = (((dig N (9 * m + j)).toNat : Nat) : Int) := by
          have h1 := dig_in X j hj9
          rw [dig_nat, HDG.out j, ← h1]
          omega
        have hdl : (dig N (9 * m + j)).toNat < 256 := UInt8.toNat_lt _
        have HSN := Lib.hid (txV_succ N (9 * m + j))
        have hq : ((X % 1000000000 / 10 ^ j : Nat) : Int) / 10 = ((X % 1000000000 / 10 ^ (j + 1) : Nat) : Int) := by
          rw [Nat.pow_succ, ← Nat.div_div_eq_div_mul]; omega
        have HEND := Lib.hid (end_in X (j + 1) (by omega))
        have hne := Lib.hid (owns_ne HO.out HR.out (by decide))
        have hb : w.heap.size ≤ wr.heap.size := HK.out.size
        have hml : 9 * m + j + 1 ≤ maxLen := by unfold maxLen; omega
        obtain ⟨r, hr⟩ : ∃ r, r = X % 1000000000 / 10 ^ j := ⟨_, rfl⟩
        obtain ⟨r1, hr1⟩ : ∃ r1, r1 = X % 1000000000 / 10 ^ (j + 1) := ⟨_, rfl⟩
        rw [← hr] at hrl hdg hq ⊢
        rw [← hr1] at hq HEND
        have HR1E := Lib.hid hr1
        clear hr hr1
        have hw15 : IntKind.u32.wrap (48 + (r : Int) % 10) = (((dig N (9 * m + j)).toNat : Nat) : Int) := by rw [hdg, IntKind.wrap_u32]; omega
        have hw16 : IntKind.u8.wrap ((((dig N (9 * m + j)).toNat : Nat) : Int)) = (((dig N (9 * m + j)).toNat : Nat) : Int) := by rw [IntKind.wrap_u8]; omega
        have hw20 : IntKind.u32.wrap ((r : Int) / 10) = (r1 : Int) := by rw [hq, IntKind.wrap_u32]; omega
        clear hq
        generalize hD : ((dig N (9 * m + j)).toNat) = D at *
        clear hD
        by_cases hz0 : r1 = 0
        · have hz : ((r1 : Int) == 0) = true := by rw [hz0]; rfl
          have HZ := Lib.hid hz0
          clear hz0
          go_wp2_with (first
            | (at_builtin; refine wpList_append1k rfl _ _ 74 rfl w.heap.size 5 (.int .u8 0) 1 Try.underlying74 infoU8b rfl _ _ _ rfl HO rfl rfl hml (by omega) hb ?_; intro v' w' HO2 HKK HRR)
            | (refine park_at 24 rfl ?_))
          have HR2 := Lib.hid (HRR.out _ _ _ HR.out hne.out)
          have HK2 := Lib.hid (HKK.out _ HK.out (Nat.le_refl _))
          rw [← HSN.out] at HO2
          clear HO HR HK HKK HRR hne hb HSN hdg hw15 hw16 hw20 hml
          by_cases hx0 : X / 1000000000 = 0
          · have hs0 : ∀ w, (Op.equalIn 10000 24 (.agg (lC (X / 1000000000) 5)) (.agg (lC 0 5))).run Try.prog w = .ok true w := fun w => by rw [sameL _ 0 (Nat.lt_of_le_of_lt (Nat.div_le_self _ _) HX.out) pos320 w, decide_eq_true hx0]
            have hgd := guardL
            have HX0 := Lib.hid hx0
            clear hx0
            refine unpark ?_
            refine wpList_table 4 [(24, .is (.agg (lC (X / 1000000000) 5))), (25, .is (.agg (lC 0 5))), (26, .is (.bool true)), (27, .is (.bool true))] (by kernel_rfl) ?_ ?_
            · refine ⟨fun t w1 hf hk hp => ?_, ?_⟩
              · have h1 : slot t 1 = .pointer (some ⟨w.heap.size, 0, none⟩) := hf 1 (by kernel_rfl)
                have h23 : slot t 23 = .bool true := hf 23 (by kernel_rfl)
                clear hf hp
                refine stepAt_on 23 true (by kernel_rfl) h23 ?_
                have hq0 := Rowz.load (HR2.out.kept hk) 5 22 Try.underlying24 (infoL _ _)
                exact stepOK_sem (.agg (lC (X / 1000000000) 5)) (by simp only [execOp, evS, h1]) hq0 rfl
              refine ⟨fun t w1 hf hk hp => ?_, ?_⟩
              · have h23 : slot t 23 = .bool true := hf 23 (by kernel_rfl)
                clear hf hp
                refine stepAt_on 23 true (by kernel_rfl) h23 ?_
                refine stepOK_pure (.agg (lC 0 5)) ?_ rfl
                simp only [execOp, evS]
                go_simp
                kernel_rfl
              refine ⟨fun t w1 hf hk hp => ?_, ?_⟩
              · have h24 : slot t 24 = .agg (lC (X / 1000000000) 5) := hp 24 (by kernel_rfl)
                have h25 : slot t 25 = .agg (lC 0 5) := hp 25 (by kernel_rfl)
                have h23 : slot t 23 = .bool true := hf 23 (by kernel_rfl)
                clear hf hp
                refine stepAt_on 23 true (by kernel_rfl) h23 ?_
                have hq0 := hs0 w1
                have hq1 := hgd
                refine stepOK_pure (.bool true) ?_ rfl
                simp only [execOp, evS, h24, h25]
                go_simp
              refine ⟨fun t w1 hf hk hp => ?_, ?_⟩
              · have h23 : slot t 23 = .bool true := hf 23 (by kernel_rfl)
                have h26 : slot t 26 = .bool true := hp 26 (by kernel_rfl)
                clear hf hp
                refine stepAt_plain rfl ?_
                refine stepOK_pure (.bool true) ?_ rfl
                simp only [execOp, evS, h23, h26]
                go_simp
              exact trivial
            · intro t w1 hsz hf hk hfacts
              have h27 : slot t 27 = .bool true := hfacts 27 (by kernel_rfl)
              have h1 : slot t 1 = .pointer (some ⟨w.heap.size, 0, none⟩) := hf 1 (by kernel_rfl)
              have h23 : slot t 23 = .bool true := hf 23 (by kernel_rfl)
              have h0 := hf 0 (by kernel_rfl)
              conv at h0 => rhs; whnf
              try change slot t 0 = undef at h0
              have h2 := hf 2 (by kernel_rfl)
              conv at h2 => rhs; whnf
              try change slot t 2 = undef at h2
              have h3 := hf 3 (by kernel_rfl)
              conv at h3 => rhs; whnf
              try change slot t 3 = undef at h3
              have h4 := hf 4 (by kernel_rfl)
              conv at h4 => rhs; whnf
              try change slot t 4 = undef at h4
              have h5 := hf 5 (by kernel_rfl)
              conv at h5 => rhs; whnf
              try change slot t 5 = undef at h5
              have h6 := hf 6 (by kernel_rfl)
              conv at h6 => rhs; whnf
              try change slot t 6 = undef at h6
              have h7 := hf 7 (by kernel_rfl)
              conv at h7 => rhs; whnf
              try change slot t 7 = undef at h7
              have h8 := hf 8 (by kernel_rfl)
              conv at h8 => rhs; whnf
              try change slot t 8 = undef at h8
              have h9 := hf 9 (by kernel_rfl)
              conv at h9 => rhs; whnf
              try change slot t 9 = undef at h9
              have h10 := hf 10 (by kernel_rfl)
              conv at h10 => rhs; whnf
              try change slot t 10 = undef at h10
              have h11 := hf 11 (by kernel_rfl)
              conv at h11 => rhs; whnf
              try change slot t 11 = undef at h11
              have h12 := hf 12 (by kernel_rfl)
              conv at h12 => rhs; whnf
              try change slot t 12 = undef at h12
              have h13 := hf 13 (by kernel_rfl)
              conv at h13 => rhs; whnf
              try change slot t 13 = undef at h13
              have h14 := hf 14 (by kernel_rfl)
              conv at h14 => rhs; whnf
              try change slot t 14 = undef at h14
              have h15 := hf 15 (by kernel_rfl)
              conv at h15 => rhs; whnf
              try change slot t 15 = undef at h15
              have h16 := hf 16 (by kernel_rfl)
              conv at h16 => rhs; whnf
              try change slot t 16 = undef at h16
              have h17 := hf 17 (by kernel_rfl)
              conv at h17 => rhs; whnf
              try change slot t 17 = undef at h17
              have h18 := hf 18 (by kernel_rfl)
              conv at h18 => rhs; whnf
              try change slot t 18 = undef at h18
              have h19 := hf 19 (by kernel_rfl)
              conv at h19 => rhs; whnf
              try change slot t 19 = undef at h19
              have h20 := hf 20 (by kernel_rfl)
              conv at h20 => rhs; whnf
              try change slot t 20 = undef at h20
              have h21 := hf 21 (by kernel_rfl)
              conv at h21 => rhs; whnf
              try change slot t 21 = undef at h21
              have h22 := hf 22 (by kernel_rfl)
              conv at h22 => rhs; whnf
              try change slot t 22 = undef at h22
              have h28 := hf 28 (by kernel_rfl)
              conv at h28 => rhs; whnf
              try change slot t 28 = undef at h28
              have h29 := hf 29 (by kernel_rfl)
              conv at h29 => rhs; whnf
              try change slot t 29 = undef at h29
              have h30 := hf 30 (by kernel_rfl)
              conv at h30 => rhs; whnf
              try change slot t 30 = undef at h30
              have h31 := hf 31 (by kernel_rfl)
              conv at h31 => rhs; whnf
              try change slot t 31 = undef at h31
              have h32 := hf 32 (by kernel_rfl)
              conv at h32 => rhs; whnf
              try change slot t 32 = undef at h32
              have harr : t = #[slot t 0, slot t 1, slot t 2, slot t 3, slot t 4, slot t 5, slot t 6, slot t 7, slot t 8, slot t 9, slot t 10, slot t 11, slot t 12, slot t 13, slot t 14, slot t 15, slot t 16, slot t 17, slot t 18, slot t 19, slot t 20, slot t 21, slot t 22, slot t 23, slot t 24, slot t 25, slot t 26, slot t 27, slot t 28, slot t 29, slot t 30, slot t 31, slot t 32] := arr_eq t 33 hsz
              rw [harr, h27, h1, h23, h0, h2, h3, h4, h5, h6, h7, h8, h9, h10, h11, h12, h13, h14, h15, h16, h17, h18, h19, h20, h21, h22, h28, h29, h30, h31, h32]
              clear harr hfacts hf h27 h1 h23 h0 h2 h3 h4 h5 h6 h7 h8 h9 h10 h11 h12 h13 h14 h15 h16 h17 h18 h19 h20 h21 h22 h28 h29 h30 h31 h32
              generalize slot t 24 = x24; generalize slot t 25 = x25; generalize slot t 26 = x26
              clear hsz t
              simp only [List.drop_succ_cons, List.drop_zero]
              obtain ⟨g, cap, cur, rfl, hbg, hcap, hrow, hcells⟩ := owns_row (ownsRow_kept HO2.out hk) (by omega)
              have HDN : Hid (dn N = 9 * m + j + 1) := Lib.hid (dn_of (9 * m + j) N (by rw [show 9 * m + j + 1 = 9 * m + (j + 1) by omega, HDG.out (j + 1)]; exact HEND.out.2 ⟨HX0.out, HZ.out⟩) (by
                rcases Nat.eq_zero_or_pos j with h | h
                · subst h
                  rcases HM0.out with h | h
                  · left; omega
                  · right; rw [Nat.add_zero, ← HXE.out, ← HG.out]; exact h
                · right; rw [HDG.out j]; exact HNZ.out h))
              have HRV := Lib.hid (reverse_any g (9 * m + j + 1) cap (digL N (9 * m + j + 1)) cur 5 w1 (by omega) hrow (fun i hi => by rw [hcells i hi, txV_get N _ i hi]; simp [bt, List.getD_eq_getElem?_getD, digL_get N _ i hi]))
              have HKP := Lib.hid (HK2.out.trans hk)
              clear hrow hcells hcap HO2 HR2 HK2 hk hs0 hgd
              have HTX : Hid (txt N = ⟨(digL N (9 * m + j + 1)).reverse.toArray⟩) := Lib.hid (by unfold txt; rw [HDN.out])
              go_wp2_with (go_at_call 46; refine HRV.out.mono ?_; rintro e w3 ⟨rfl, ⟨cur2, hr2, hc2⟩, hkk⟩; have HKF := Lib.hid (hkk _ HKP.out hbg); have hcv := rev_str N (9 * m + j + 1) g cap w3 (fun i hi => (hr2.cell i).trans (hc2 i hi)); clear hr2 hc2 hkk)
              rw [Exit.noGoto_ret]
              go_ret
              refine ⟨?_, HKF.out⟩
              rw [HTX.out]
              rfl
          · have hs0 : ∀ w, (Op.equalIn 10000 24 (.agg (lC (X / 1000000000) 5)) (.agg (lC 0 5))).run Try.prog w = .ok false w := fun w => by rw [sameL _ 0 (Nat.lt_of_le_of_lt (Nat.div_le_self _ _) HX.out) pos320 w, decide_eq_false hx0]
            have hgd := guardL
            have HX0 := Lib.hid hx0
            clear hx0
            refine unpark ?_
            refine wpList_table 4 [(24, .is (.agg (lC (X / 1000000000) 5))), (25, .is (.agg (lC 0 5))), (26, .is (.bool false)), (27, .is (.bool false))] (by kernel_rfl) ?_ ?_
            · refine ⟨fun t w1 hf hk hp => ?_, ?_⟩
              · have h1 : slot t 1 = .pointer (some ⟨w.heap.size, 0, none⟩) := hf 1 (by kernel_rfl)
                have h23 : slot t 23 = .bool true := hf 23 (by kernel_rfl)
                clear hf hp
                refine stepAt_on 23 true (by kernel_rfl) h23 ?_
                have hq0 := Rowz.load (HR2.out.kept hk) 5 22 Try.underlying24 (infoL _ _)
                exact stepOK_sem (.agg (lC (X / 1000000000) 5)) (by simp only [execOp, evS, h1]) hq0 rfl
              refine ⟨fun t w1 hf hk hp => ?_, ?_⟩
              · have h23 : slot t 23 = .bool true := hf 23 (by kernel_rfl)
                clear hf hp
                refine stepAt_on 23 true (by kernel_rfl) h23 ?_
                refine stepOK_pure (.agg (lC 0 5)) ?_ rfl
                simp only [execOp, evS]
                go_simp
                kernel_rfl
              refine ⟨fun t w1 hf hk hp => ?_, ?_⟩
              · have h24 : slot t 24 = .agg (lC (X / 1000000000) 5) := hp 24 (by kernel_rfl)
                have h25 : slot t 25 = .agg (lC 0 5) := hp 25 (by kernel_rfl)
                have h23 : slot t 23 = .bool true := hf 23 (by kernel_rfl)
                clear hf hp
                refine stepAt_on 23 true (by kernel_rfl) h23 ?_
                have hq0 := hs0 w1
                have hq1 := hgd
                refine stepOK_pure (.bool false) ?_ rfl
                simp only [execOp, evS, h24, h25]
                go_simp
              refine ⟨fun t w1 hf hk hp => ?_, ?_⟩
              · have h23 : slot t 23 = .bool true := hf 23 (by kernel_rfl)
                have h26 : slot t 26 = .bool false := hp 26 (by kernel_rfl)
                clear hf hp
                refine stepAt_plain rfl ?_
                refine stepOK_pure (.bool false) ?_ rfl
                simp only [execOp, evS, h23, h26]
                go_simp
              exact trivial
            · intro t w1 hsz hf hk hfacts
              have h27 : slot t 27 = .bool false := hfacts 27 (by kernel_rfl)
              have h1 : slot t 1 = .pointer (some ⟨w.heap.size, 0, none⟩) := hf 1 (by kernel_rfl)
              have h23 : slot t 23 = .bool true := hf 23 (by kernel_rfl)
              have h0 := hf 0 (by kernel_rfl)
              conv at h0 => rhs; whnf
              try change slot t 0 = undef at h0
              have h2 := hf 2 (by kernel_rfl)
              conv at h2 => rhs; whnf
              try change slot t 2 = undef at h2
              have h3 := hf 3 (by kernel_rfl)
              conv at h3 => rhs; whnf
              try change slot t 3 = undef at h3
              have h4 := hf 4 (by kernel_rfl)
              conv at h4 => rhs; whnf
              try change slot t 4 = undef at h4
              have h5 := hf 5 (by kernel_rfl)
              conv at h5 => rhs; whnf
              try change slot t 5 = undef at h5
              have h6 := hf 6 (by kernel_rfl)
              conv at h6 => rhs; whnf
              try change slot t 6 = undef at h6
              have h7 := hf 7 (by kernel_rfl)
              conv at h7 => rhs; whnf
              try change slot t 7 = undef at h7
              have h8 := hf 8 (by kernel_rfl)
              conv at h8 => rhs; whnf
              try change slot t 8 = undef at h8
              have h9 := hf 9 (by kernel_rfl)
              conv at h9 => rhs; whnf
              try change slot t 9 = undef at h9
              have h10 := hf 10 (by kernel_rfl)
              conv at h10 => rhs; whnf
              try change slot t 10 = undef at h10
              have h11 := hf 11 (by kernel_rfl)
              conv at h11 => rhs; whnf
              try change slot t 11 = undef at h11
              have h12 := hf 12 (by kernel_rfl)
              conv at h12 => rhs; whnf
              try change slot t 12 = undef at h12
              have h13 := hf 13 (by kernel_rfl)
              conv at h13 => rhs; whnf
              try change slot t 13 = undef at h13
              have h14 := hf 14 (by kernel_rfl)
              conv at h14 => rhs; whnf
              try change slot t 14 = undef at h14
              have h15 := hf 15 (by kernel_rfl)
              conv at h15 => rhs; whnf
              try change slot t 15 = undef at h15
              have h16 := hf 16 (by kernel_rfl)
              conv at h16 => rhs; whnf
              try change slot t 16 = undef at h16
              have h17 := hf 17 (by kernel_rfl)
              conv at h17 => rhs; whnf
              try change slot t 17 = undef at h17
              have h18 := hf 18 (by kernel_rfl)
              conv at h18 => rhs; whnf
              try change slot t 18 = undef at h18
              have h19 := hf 19 (by kernel_rfl)
              conv at h19 => rhs; whnf
              try change slot t 19 = undef at h19
              have h20 := hf 20 (by kernel_rfl)
              conv at h20 => rhs; whnf
              try change slot t 20 = undef at h20
              have h21 := hf 21 (by kernel_rfl)
              conv at h21 => rhs; whnf
              try change slot t 21 = undef at h21
              have h22 := hf 22 (by kernel_rfl)
              conv at h22 => rhs; whnf
              try change slot t 22 = undef at h22
              have h28 := hf 28 (by kernel_rfl)
              conv at h28 => rhs; whnf
              try change slot t 28 = undef at h28
              have h29 := hf 29 (by kernel_rfl)
              conv at h29 => rhs; whnf
              try change slot t 29 = undef at h29
              have h30 := hf 30 (by kernel_rfl)
              conv at h30 => rhs; whnf
              try change slot t 30 = undef at h30
              have h31 := hf 31 (by kernel_rfl)
              conv at h31 => rhs; whnf
              try change slot t 31 = undef at h31
              have h32 := hf 32 (by kernel_rfl)
              conv at h32 => rhs; whnf
              try change slot t 32 = undef at h32
              have harr : t = #[slot t 0, slot t 1, slot t 2, slot t 3, slot t 4, slot t 5, slot t 6, slot t 7, slot t 8, slot t 9, slot t 10, slot t 11, slot t 12, slot t 13, slot t 14, slot t 15, slot t 16, slot t 17, slot t 18, slot t 19, slot t 20, slot t 21, slot t 22, slot t 23, slot t 24, slot t 25, slot t 26, slot t 27, slot t 28, slot t 29, slot t 30, slot t 31, slot t 32] := arr_eq t 33 hsz
              rw [harr, h27, h1, h23, h0, h2, h3, h4, h5, h6, h7, h8, h9, h10, h11, h12, h13, h14, h15, h16, h17, h18, h19, h20, h21, h22, h28, h29, h30, h31, h32]
              clear harr hfacts hf h27 h1 h23 h0 h2 h3 h4 h5 h6 h7 h8 h9 h10 h11 h12 h13 h14 h15 h16 h17 h18 h19 h20 h21 h22 h28 h29 h30 h31 h32
              generalize slot t 24 = x24; generalize slot t 25 = x25; generalize slot t 26 = x26
              clear hsz t
              simp only [List.drop_succ_cons, List.drop_zero]
              have HO3 := Lib.hid (ownsRow_kept HO2.out hk)
              have HR3 := Lib.hid (HR2.out.kept hk)
              have HK3 := Lib.hid (HK2.out.trans hk)
              clear HO2 HR2 HK2 hk hs0 hgd
              go_wp2
              go_roundg (8 - j)
              case measure => omega
              case rel => exact ⟨j + 1, by omega, by go_num, by rw [HR1E.out], Lib.hid (fun _ h => HX0.out (HEND.out.1 h).1), HO3, HR3, HK3⟩
        · have hz : ((r1 : Int) == 0) = false := by simp; omega
          have HZ := Lib.hid hz0
          clear hz0
          go_wp2_with (at_builtin; refine wpList_append1k rfl _ _ 74 rfl w.heap.size 5 (.int .u8 0) 1 Try.underlying74 infoU8b rfl _ _ _ rfl HO rfl rfl hml (by omega) hb ?_; intro v' w' HO2 HKK HRR)
          have HR2 := Lib.hid (HRR.out _ _ _ HR.out hne.out)
          have HK2 := Lib.hid (HKK.out _ HK.out (Nat.le_refl _))
          rw [← HSN.out] at HO2
          go_roundg (8 - j)
          case measure => omega
          case rel => exact ⟨j + 1, by omega, by go_num, by rw [HR1E.out], Lib.hid (fun _ h => HZ.out (HEND.out.1 h).2), HO2, HR2, HK2⟩
      · have hdj : decide ((j : Int) < 9) = false := by simp; omega
        have ej : j = 9 := by omega
        rw [ej] at HO HNZ
        have HG2 : Hid (X / 1000000000 ≠ 0) := Lib.hid (HNZ.out (by omega))
        have HE2 : Hid (X / 1000000000 = N / 10 ^ (9 * (m + 1))) := Lib.hid (by rw [show 9 * (m + 1) = 9 * m + 9 by omega, HDG.out 9])
        clear ej
        go_wp2
        go_roundg (X / 1000000000)
        case measure =>
          have h1 := HG.out
          have h2 := HG2.out
          omega
        case rel => exact ⟨m + 1, HE2.out, .inr HG2.out, HO, by rw [← HE2.out]; exact HR, HK⟩
end Go.Proofs.Ytcjieaijcjinnaa
