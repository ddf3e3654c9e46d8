/-
  Contract of milepostref05's Text: the decimal digits, by taking quotients by 10 of the digits of 16 bits.
-/
import Derived.Test.YtcjieaijcjinnaaLargeRefA
import Derived.Test.YtcjieaijcjinnaaLargeMathB
import Derived.Test.YtcjieaijcjinnaaLargeRefB
import Derived.Test.YtcjieaijcjinnaaLargeWalkF
import Derived.Laws.AppendOwnNone
import Derived.Laws.OwnMore
namespace Go.Proofs.Ytcjieaijcjinnaa
open Go.RowKit

/-! ### 'append(N{u}, out...)' -/
theorem owns_base {w : World} {base b2 : Nat} {e : TypeId} {v : Value} {n : Nat} {l : List Value} (h : w.ownsRow base e 1 v n l) (hb : b2 ≤ base) : w.ownsRow b2 e 1 v n l := by
  refine ⟨h.1, ?_⟩
  rcases h.2 with h | ⟨g, cap, cur, hv, hg, r⟩
  · exact .inl h
  · exact .inr ⟨g, cap, cur, hv, Nat.le_trans hb hg, r⟩
theorem wpList_prepend {P : Program} {w : World} {u : Value} {ops : Array Oper} {rest : List Oper} {o : Oper} {a : Act} {Q : Exit → Act → World → Prop} {e : TypeId} (hgd : o.guard = none) (s x : Operand) (t : TypeId)
    (ho : o.op = .call { callee := .builtin .append, args := #[s, x], argTypes := #[t, t] }) (z : Value) (bytes : Nat) (ht : P.underlying t = some (.slice e))
    (hinfo : (P.info? e).map (fun i => (i.zero, i.size, i.bytes)) = some (some z, 1, bytes)) (hz : z.cells.size = 1)
    (v : Value) (n : Nat) (l : List Value) (hx : a.eval x = v) (hown : Hid (w.ownsRow 0 e 1 v n l)) (hl : ∀ y ∈ l, y.oneCell' = true) (hs : a.eval s = .slice (some ⟨w.heap.size, 0, none⟩) 1 1)
    (h63 : 1 + n ≤ maxLen) (hbytes : (1 + n) * bytes ≤ 140737488355328)
    (h : ∀ v' w', Hid (w'.ownsRow 0 e 1 v' (1 + n) (u :: l)) → Hid (Kept w w') → wpList P ops Q rest (a.put o.dst v') w') : wpList P ops Q (o :: rest) a (w.alloc (.cells #[u] e)) := by
  obtain ⟨i, hi, hz0, hz1, hz2⟩ := info_parts hinfo
  have hs0 : (w.alloc (.cells #[u] e)).ownsRow w.heap.size e 1 (.slice (some ⟨w.heap.size, 0, none⟩) 1 1) 1 [u] :=
    ⟨rfl, .inr ⟨w.heap.size, 1, #[u], rfl, Nat.le_refl _, Rowz.new w _ _, Nat.le_refl _, by decide, rfl, rfl⟩⟩
  have hk0 : Kept w (w.alloc (.cells #[u] e)) := (Kept.refl w).alloc _
  have ho2 := hown.out.2
  have hlen : l.length = n := by have := hown.out.1; omega
  rcases ho2 with ⟨rfl, hn⟩ | ⟨g, cap, cur, rfl, _, hg, hc, _, hcs, htk⟩
  · refine wpList_append_own_none hgd s x t ho w.heap.size e i 1 ht hi _ 1 [u] hs hs0 hx ?_
    have hl0 : l = [] := List.length_eq_zero_iff.1 (by omega)
    subst hl0
    subst hn
    exact h _ _ (Lib.hid (owns_base hs0 (Nat.zero_le _))) (Lib.hid hk0)
  · refine wpList_append_own (w.alloc (.cells #[u] e)) hgd s x t ho w.heap.size e i z 1 bytes ht hi hz0 hz1 hz2 hz (by decide) _ 1 [u] hs hs0 ⟨g, 0, none⟩ n cap l hx (by omega) ?_ hl h63 hbytes (by simp) ?_
    · intro j y hj
      exact ((hown.out.alloc (.cells #[u] e)).cells rfl) j y hj
    · intro v' w' ho' hgr _
      refine h v' w' (Lib.hid (owns_base ho' (Nat.zero_le _))) (Lib.hid (hk0.grownBy hgr ?_))
      intro k hk'
      simp only [Value.ownBlock, Option.some.injEq] at hk'
      omega

/-! ### Quotients by 10, digit by digit -/
theorem div_step (X k : Nat) : X / 65536 ^ k = X / 65536 ^ (k + 1) * 65536 + dgt X k := by
  rw [Nat.pow_succ, ← Nat.div_div_eq_div_mul]
  unfold dgt
  omega
theorem ten_dgt (X k : Nat) : ((X / 65536 ^ (k + 1)) % 10 * 65536 + dgt X k) / 10 = dgt (X / 10) k := by
  have h := div_step X k
  have hl := dgt_lt X k
  have e : dgt (X / 10) k = X / 65536 ^ k / 10 % 65536 := by
    unfold dgt
    rw [Nat.div_div_eq_div_mul, Nat.mul_comm, ← Nat.div_div_eq_div_mul]
  rw [e, h]
  generalize X / 65536 ^ (k + 1) = D
  omega
theorem ten_rest (X k : Nat) : ((X / 65536 ^ (k + 1)) % 10 * 65536 + dgt X k) % 10 = X / 65536 ^ k % 10 := by
  rw [div_step X k]
  omega
/-- The digits of Y from k on, below m. -/
def dgS (Y k m : Nat) : List Value := (List.range (m - k)).map fun j => .int .i64 ((dgt Y (k + j) : Nat) : Int)
theorem dgS_none (Y m : Nat) : dgS Y m m = [] := by simp [dgS]
theorem dgS_all (Y m : Nat) : dgS Y 0 m = dgL Y m := by simp [dgS, dgL]
theorem dgS_cons (Y k m : Nat) (h : k < m) : (.int .i64 ((dgt Y k : Nat) : Int)) :: dgS Y (k + 1) m = dgS Y k m := by
  unfold dgS
  rw [show m - k = (m - (k + 1)) + 1 by omega, List.range_succ_eq_map, List.map_cons, List.map_map]
  congr 1
  apply List.map_congr_left
  intro j _
  simp only [Function.comp]
  rw [show k + 1 + j = k + (j + 1) by omega]
theorem dgS_one (Y k m : Nat) : ∀ y ∈ dgS Y k m, y.oneCell' = true := by
  intro y hy
  simp only [dgS, List.mem_map] at hy
  obtain ⟨j, _, rfl⟩ := hy
  rfl
def txS (N t : Nat) : ByteArray := ⟨(digL N t).reverse.toArray⟩
theorem txS_size (N t : Nat) : (txS N t).size = t := by simp [txS, ByteArray.size, digL_len]
theorem txS_cons (N t : Nat) : (⟨#[UInt8.ofNat (48 + N / 10 ^ t % 10)]⟩ : ByteArray) ++ txS N t = txS N (t + 1) := by
  apply ByteArray.ext
  simp [txS, digL_succ, dig]

set_option maxRecDepth 100000 in
set_option maxHeartbeats 4000000 in
theorem refText5_any (N : Nat) (v : Value) (w : World) (hv : Dig N v w) (hN : N < 2 ^ 320) :
    Calls Try.prog 29 #[v] w fun e w' => e = .returned (.string (txt N)) ∧ Kept w w' := by
  have HN := Lib.hid hN
  have HV := Lib.hid hv
  clear hN hv
  go_enter Try.func29, Try.ntmps29
  go_wp2
  go_loopg [0, 3] N (fun gh x s wx => ∃ t, gh = N / 10 ^ t ∧ (t = 0 ∨ gh ≠ 0) ∧ s = .string (txS N t) ∧ Hid (Dig (N / 10 ^ t) x wx) ∧ Hid (Kept w wx))
  case atStart => exact ⟨0, by simp, .inl rfl, rfl, Lib.hid (by simpa using HV.out), Lib.hid (Kept.refl w)⟩
  case round =>
    obtain ⟨t, hg, ht0, rfl, HX, HK⟩ := hrel
    have ht : t < 97 := by
      rcases ht0 with h | h
      · omega
      · exact dig_top N _ HN.out (by rw [← hg]; exact h)
    have HG := Lib.hid hg
    have HT0 := Lib.hid ht0
    clear hg ht0 HV
    have HXL : Hid (N / 10 ^ t < 2 ^ 320) := Lib.hid (Nat.lt_of_le_of_lt (Nat.div_le_self _ _) HN.out)
    have HT1 : Hid (N / 10 ^ (t + 1) = N / 10 ^ t / 10) := Lib.hid (by rw [Nat.pow_succ, Nat.div_div_eq_div_mul])
    have HTC := Lib.hid (txS_cons N t)
    have hts : (txS N t).size ≤ 97 := by rw [txS_size]; omega
    obtain ⟨X, hX⟩ : ∃ X, X = N / 10 ^ t := ⟨_, rfl⟩
    rw [← hX] at HX HXL HT1 HTC HG
    have HXE := Lib.hid hX
    clear hX
    obtain ⟨p, cap, rfl, hc, hp⟩ := HX.out
    have HP := Lib.hid hp
    have hm := dl20 X HXL.out
    have HM := Lib.hid (dl_lt X)
    clear hp HX
    generalize dl X = m at HP hm HM hc ⊢
    generalize txS N t = ts at HTC hts ⊢
    obtain ⟨wo, hwo⟩ : ∃ wo, wo = wr := ⟨_, rfl⟩
    subst hwo
    go_wp2
    go_loopw [4, 5, 6] (fun o l i wq => ∃ (k : Nat), k ≤ m ∧ i = .int .i64 ((k : Int) - 1) ∧ l = .int .i64 ((X / 65536 ^ k % 10 : Nat) : Int) ∧ Hid (wq.ownsRow 0 3 1 o (m - k) (dgS (X / 10) k m)) ∧ Hid (Kept wo wq)) (fun _ _ i _ => (intOf i + 1).toNat)
    case atStart =>
      refine ⟨m, Nat.le_refl _, rfl, by rw [Nat.div_eq_of_lt HM.out]; rfl, Lib.hid ?_, Lib.hid (Kept.refl _)⟩
      rw [dgS_none, Nat.sub_self]
      exact World.ownsRow_nil _ _ _ _
    case round =>
      obtain ⟨k, hk, rfl, rfl, HO, HQ⟩ := hrel
      cases k with
      | zero =>
        have HD : Hid (DigM (X / 10) m u4 wr) := Lib.hid (digM_owns (N := X / 10) (base := 0) (by have h := HO.out; rw [dgS_all, Nat.sub_zero] at h; exact h))
        have HLT : Hid (X / 10 < 65536 ^ m) := Lib.hid (Nat.lt_of_le_of_lt (Nat.div_le_self _ _) HM.out)
        have hd : X % 10 < 10 := Nat.mod_lt _ (by decide)
        have HKK := Lib.hid (HK.out.trans HQ.out)
        rw [Nat.pow_zero, Nat.div_one]
        clear HO HQ HK HP
        generalize X % 10 = d at hd HTC ⊢
        have CB : Hid (∀ w, Calls Try.prog 47 #[.int .i64 (48 + (d : Int))] w fun e w' => e = .returned (.string ⟨#[UInt8.ofNat (48 + d)]⟩) ∧ Grown w w') := Lib.hid fun w => by
          have h := byte_any (48 + d) w (by omega)
          rw [show ((48 + d : Nat) : Int) = 48 + (d : Int) by omega] at h
          exact h
        have hbs : (⟨#[UInt8.ofNat (48 + d)]⟩ : ByteArray).size ≤ 1 := Nat.le_refl _
        generalize (⟨#[UInt8.ofNat (48 + d)]⟩ : ByteArray) = bs at CB hbs HTC
        by_cases hz : X / 10 = 0
        · have hl0 : (((dl (X / 10) : Nat) : Int) == 0) = true := by rw [hz]; rfl
          have HZ := Lib.hid hz
          clear hz
          go_wp2_with (first
            | (go_at_call 47; refine (CB.out _).mono ?_; rintro e wb ⟨rfl, kb⟩; have HD2 := Lib.hid (digM_kept _ _ _ (Grown.kept kb) HD.out))
            | (go_at_call 37; refine (trim_any (X / 10) m _ _ HD2.out HLT.out (by omega)).mono ?_; rintro e w2 ⟨v2, rfl, hd2, hk2⟩; have HD3 := Lib.hid hd2; clear hd2; obtain ⟨p3, cap3, rfl, hc3, _⟩ := HD3.out))
          go_ret
          have hdn : dn N = t + 1 := dn_of t N (by rw [HT1.out]; exact HZ.out) (by
            rcases HT0.out with h | h
            · exact .inl h
            · right; rw [← HXE.out, ← HG.out]; exact h)
          refine ⟨?_, (HKK.out.trans (Grown.kept kb)).trans hk2⟩
          rw [show txt N = txS N (t + 1) by unfold txt txS; rw [hdn], ← HTC.out]
          rfl
        · have hl0 : (((dl (X / 10) : Nat) : Int) == 0) = false := by
            have h := dl_lt (X / 10)
            rcases Nat.eq_zero_or_pos (dl (X / 10)) with h0 | h0
            · rw [h0] at h; omega
            · simp; omega
          have HZ := Lib.hid hz
          clear hz
          go_wp2_with (first
            | (go_at_call 47; refine (CB.out _).mono ?_; rintro e wb ⟨rfl, kb⟩; have HD2 := Lib.hid (digM_kept _ _ _ (Grown.kept kb) HD.out))
            | (go_at_call 37; refine (trim_any (X / 10) m _ _ HD2.out HLT.out (by omega)).mono ?_; rintro e w2 ⟨v2, rfl, hd2, hk2⟩; have HD3 := Lib.hid hd2; clear hd2; obtain ⟨p3, cap3, rfl, hc3, _⟩ := HD3.out))
          go_roundg (X / 10)
          case measure =>
            have h1 := HG.out
            have h2 := HZ.out
            omega
          case rel =>
            refine ⟨t + 1, HT1.out.symm, .inr HZ.out, by rw [← HTC.out], Lib.hid ?_, Lib.hid ((HKK.out.trans (Grown.kept kb)).trans hk2)⟩
            rw [HT1.out]
            exact HD3.out
      | succ k =>
        obtain ⟨g, cur, rfl, hr, hb⟩ := HP.out (by omega)
        have c1 : wr.cell? ⟨g, k, none⟩ = some (.int .i64 ((dgt X k : Nat) : Int)) := by rw [(hr.kept HQ.out).cell, hb k (by omega)]
        have e1 : (((k + 1 : Nat) : Int) - 1) = (k : Int) := by omega
        rw [e1]
        have hdk : decide ((0 : Int) ≤ (k : Int)) = true := by simp
        have hki : (k : Int) < (m : Int) := by omega
        have h10 : X / 65536 ^ (k + 1) % 10 < 10 := Nat.mod_lt _ (by decide)
        have hdl := dgt_lt X k
        have HA1 := ten_dgt X k
        have HA2 := ten_rest X k
        have HCONS := Lib.hid (dgS_cons (X / 10) k m (by omega))
        generalize X / 65536 ^ (k + 1) % 10 = l at h10 HA1 HA2 ⊢
        generalize dgt X k = d at c1 hdl HA1 HA2
        generalize dgt (X / 10) k = q at HA1 HCONS
        have HB1 : Hid (((l : Int) * 65536 + (d : Int)) / 10 = (q : Int)) := Lib.hid (by omega)
        have HB2 : Hid (((l : Int) * 65536 + (d : Int)) % 10 = ((X / 65536 ^ k % 10 : Nat) : Int)) := Lib.hid (by omega)
        clear HA1 HA2 e1 hr hb
        go_wp2_with (at_builtin; refine wpList_prepend rfl _ _ 26 rfl (.int .i64 0) 8 Try.underlying26 infoInt rfl _ _ _ rfl HO (dgS_one _ _ _) rfl (by unfold maxLen; omega) (by omega) ?_; intro v' w' HO' HK')
        go_roundw
        case rel =>
          refine ⟨k, by omega, by go_num, by rw [← HB2.out], Lib.hid ?_, Lib.hid (HQ.out.trans HK'.out)⟩
          have h := HO'.out
          rw [HB1.out, HCONS.out, show 1 + (m - (k + 1)) = m - k by omega] at h
          exact h
        case measure => simp [intOf]
end Go.Proofs.Ytcjieaijcjinnaa
