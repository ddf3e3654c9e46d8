/-
  Contracts of milepostref05: trim, Limbs, Of, Len, Cmp. A number is its digits of 16 bits, without digits 0 behind: Dig N.
-/
import Derived.Test.YtcjieaijcjinnaaLargeWalkA
import Derived.Test.YtcjieaijcjinnaaAppLib
import Derived.Deep.QuietTactic
namespace Go.Proofs.Ytcjieaijcjinnaa
open Go.RowKit

/-- A slice of the first m digits of N. -/
def DigM (N m : Nat) (v : Value) (w : World) : Prop :=
  ∃ p cap, v = .slice p m cap ∧ m ≤ cap ∧ (0 < m → ∃ g cur, p = some ⟨g, 0, none⟩ ∧ Rowz w g cur 3 ∧ ∀ i, i < m → cur[i]? = some (.int .i64 ((dgt N i : Nat) : Int)))
def Dig (N : Nat) (v : Value) (w : World) : Prop := DigM N (dl N) v w
theorem digM_kept {N m : Nat} : ∀ v w w', Kept w w' → DigM N m v w → DigM N m v w' := fun _ _ _ hk ⟨p, cap, hv, hc, h⟩ =>
  ⟨p, cap, hv, hc, fun h0 => by obtain ⟨g, cur, hp, hr, hb⟩ := h h0; exact ⟨g, cur, hp, hr.kept hk, hb⟩⟩
theorem dig_kept {N : Nat} : ∀ v w w', Kept w w' → Dig N v w → Dig N v w' := digM_kept
theorem digM_owns {N m : Nat} {v : Value} {w : World} {base : Nat} (h : w.ownsRow base 3 1 v m (dgL N m)) : DigM N m v w := by
  rcases Nat.eq_zero_or_pos m with h0 | h0
  · subst h0
    rcases h.2 with ⟨hv, _⟩ | ⟨g, cap, cur, hv, _⟩
    · exact ⟨none, 0, hv, Nat.le_refl _, fun h => by omega⟩
    · exact ⟨_, cap, hv, Nat.zero_le _, fun h => by omega⟩
  · obtain ⟨g, cap, cur, hv, _, hc, hr, hb⟩ := owns_row h h0
    exact ⟨_, cap, hv, hc, fun _ => ⟨g, cur, rfl, hr, fun i hi => by rw [hb i hi, dgL_get N m i hi]⟩⟩
theorem infoInt : (Try.prog.info? 3).map (fun i => (i.zero, i.size, i.bytes)) = some (some (.int .i64 0), 1, 8) := by kernel_rfl
def slen : Value → Nat
  | .slice _ n _ => n
  | _ => 0
theorem run_cut (p : Option Addr) (n k cap : Nat) (w : World) (hk : k ≤ cap) (hp : p = none → k = 0) (hp2 : ∃ g, p = some ⟨g, 0, none⟩) :
    (Instr.sliceAt 26 (.slice p n cap) none (some (.int .i64 (k : Int))) none).run Try.prog w = .ok (.slice p k cap) w := by
  obtain ⟨g, rfl⟩ := hp2
  have h : (k : Int) ≤ (cap : Int) := by omega
  go_simp

set_option maxRecDepth 100000 in
set_option maxHeartbeats 800000 in
theorem trim_any (N m : Nat) (v : Value) (w : World) (hv : DigM N m v w) (hN : N < 65536 ^ m) (hm : m ≤ 1000000) :
    Calls Try.prog 37 #[v] w fun e w' => ∃ v', e = .returned v' ∧ Dig N v' w' ∧ Kept w w' := by
  obtain ⟨p, cap, rfl, hc, hp⟩ := hv
  have HN := Lib.hid hN
  have HP := Lib.hid hp
  clear hN hp
  go_enter Try.func37, Try.ntmps37
  go_wp2
  go_loop [0] (fun x => ∃ k : Nat, k ≤ m ∧ x = .slice p k cap ∧ Hid (N < 65536 ^ k)) (fun x => slen x)
  case atStart => exact ⟨m, Nat.le_refl _, rfl, HN⟩
  case round =>
    clear HN
    obtain ⟨k, hk, rfl, HN⟩ := hrel
    cases k with
    | zero =>
      go_wp2
      go_ret
      have h0 : dl N = 0 := Nat.le_zero.1 (dl_le N 0 HN.out)
      exact ⟨_, rfl, ⟨p, cap, by rw [h0]; rfl, by omega, fun h => by omega⟩, Kept.refl _⟩
    | succ k =>
      obtain ⟨g, cur, rfl, hr, hb⟩ := HP.out (by omega)
      have c1 : w.cell? ⟨g, k, none⟩ = some (.int .i64 ((dgt N k : Nat) : Int)) := (hr.cell k).trans (hb k (by omega))
      have hd : decide ((((k + 1 : Nat) : Int)) > 0) = true := by simp
      have hcut := fun w => run_cut (some ⟨g, 0, none⟩) (k + 1) k cap w (by omega) (by simp) ⟨g, rfl⟩
      have e1 : (((k + 1 : Nat) : Int) - 1) = (k : Int) := by omega
      have HR := Lib.hid hr
      have HB := Lib.hid hb
      clear hr hb
      by_cases hz : dgt N k = 0
      · have HN2 := Lib.hid (trim_next N k HN.out hz)
        rw [hz] at c1
        clear hz
        go_wp2
        go_round
        case rel => exact ⟨k, by omega, rfl, HN2⟩
        case measure => simp [slen]
      · have HE := Lib.hid (trim_end N k HN.out hz)
        have hne : (((dgt N k : Nat) : Int) == 0) = false := by simp; omega
        have hdl := dgt_lt N k
        clear hz
        go_wp2
        go_ret
        refine ⟨_, rfl, ⟨_, cap, by rw [HE.out]; rfl, by rw [HE.out]; omega, fun _ => ⟨g, cur, rfl, HR.out, fun i hi => HB.out i ?_⟩⟩, Kept.refl _⟩
        rw [HE.out] at hi
        omega

set_option maxRecDepth 100000 in
set_option maxHeartbeats 2000000 in
theorem limbs_any (N n g : Nat) (T : TypeId) (cur : Array Value) (w : World) (hr : Rowz w g cur T) (hb : ∀ i, i < n → cur[i]? = some (.int .u64 ((lmb N i : Nat) : Int))) (hn : n ≤ 5) (hN : N < 2 ^ (64 * n)) :
    Calls Try.prog 10 #[.slice (some ⟨g, 0, none⟩) n n] w fun e w' => ∃ v, e = .returned v ∧ Dig N v w' ∧ Kept w w' := by
  have HN : Hid (N < 65536 ^ (4 * n)) := Lib.hid (by rw [pow16, show 16 * (4 * n) = 64 * n by omega]; exact hN)
  have HR := Lib.hid hr
  have HB := Lib.hid hb
  clear hr hb hN
  go_enter Try.func10, Try.ntmps10
  go_wp2
  go_loopw [3, 4] (fun v i wr => ∃ (k : Nat), k ≤ n ∧ i = .int .i64 (k : Int) ∧ Hid (wr.ownsRow w.heap.size 3 1 v (4 * k) (dgL N (4 * k))) ∧ Hid (Kept w wr)) (fun _ i _ => n - (intOf i).toNat)
  case atStart => exact ⟨0, by omega, rfl, Lib.hid (World.ownsRow_nil _ _ _ _), Lib.hid (Kept.refl w)⟩
  case round =>
    obtain ⟨k, hk, rfl, HO, HK⟩ := hrel
    by_cases hlt : k < n
    · have hdk : decide ((k : Int) < (n : Int)) = true := by simp; omega
      have hkn : (k : Int) < (n : Int) := by omega
      have hcell : wr.cell? ⟨g, k, none⟩ = some (.int .u64 ((lmb N k : Nat) : Int)) := ((HR.out.kept HK.out).cell k).trans (HB.out k hlt)
      have hx := lmb_lt N k
      have HL := Lib.hid (limb_dgt N k)
      generalize lmb N k = x at hcell hx HL
      go_wp2
      go_loopw [3, 5, 6] (fun v c q wq => ∃ (p : Nat), p ≤ 4 ∧ q = .int .i64 (p : Int) ∧ c = .int .u64 ((x / 65536 ^ p : Nat) : Int) ∧ Hid (wq.ownsRow w.heap.size 3 1 v (4 * k + p) (dgL N (4 * k + p))) ∧ Hid (Kept w wq)) (fun _ _ q _ => 4 - (intOf q).toNat)
      case atStart => exact ⟨0, by omega, rfl, by simp, HO, HK⟩
      case round =>
        clear HO HK hcell
        obtain ⟨p, hp, rfl, rfl, HO, HK⟩ := hrel
        by_cases hp4 : p < 4
        · have hdp : decide ((p : Int) < 4) = true := by simp; omega
          have hmod : ((x / 65536 ^ p : Nat) : Int) % 65536 = ((dgt N (4 * k + p) : Nat) : Int) := by
            rw [← HL.out p hp4]; omega
          have hdl := dgt_lt N (4 * k + p)
          have HC2 : Hid (((x / 65536 ^ p : Nat) : Int) / 65536 = ((x / 65536 ^ (p + 1) : Nat) : Int)) := Lib.hid (by rw [Nat.pow_succ, ← Nat.div_div_eq_div_mul]; omega)
          have HS := Lib.hid (dgL_succ N (4 * k + p))
          have hcb : x / 65536 ^ p < 18446744073709551616 := Nat.lt_of_le_of_lt (Nat.div_le_self _ _) hx
          generalize x / 65536 ^ p = c at hmod HC2 hcb ⊢
          generalize dgt N (4 * k + p) = d at hmod HS hdl
          have hw1 : IntKind.u64.wrap ((c : Int) % 65536) = (d : Int) := by rw [hmod, IntKind.wrap_u64]; omega
          have hw2 : IntKind.i64.wrap (d : Int) = (d : Int) := by rw [IntKind.wrap_i64]; omega
          go_wp2_with (at_builtin; refine wpList_append1 rfl _ _ 26 rfl w 3 (.int .i64 0) 8 Try.underlying26 infoInt rfl _ _ _ rfl HO rfl rfl (by unfold maxLen; omega) (by omega) HK ?_; intro v' w' HO' HK')
          go_roundw
          case rel => exact ⟨p + 1, by omega, by go_num, by rw [← HC2.out], Lib.hid (by rw [show 4 * k + (p + 1) = 4 * k + p + 1 by omega, HS.out]; exact HO'.out), HK'⟩
          case measure => simp [intOf]; omega
        · have hdp : decide ((p : Int) < 4) = false := by simp; omega
          have HO4 : Hid (wr.ownsRow w.heap.size 3 1 u3 (4 * (k + 1)) (dgL N (4 * (k + 1)))) := by
            rw [show 4 * k + p = 4 * (k + 1) by omega] at HO; exact HO
          go_wp2
          go_roundw
          case rel => exact ⟨k + 1, by omega, by go_num, HO4, HK⟩
          case measure => simp [intOf]; omega
    · have hdk : decide ((k : Int) < (n : Int)) = false := by simp; omega
      have ek : k = n := by omega
      have HD : Hid (DigM N (4 * n) u3 wr) := Lib.hid (by rw [ek] at HO; exact digM_owns HO.out)
      clear HO ek
      go_wp2_with (go_at_call 37; refine (trim_any N (4 * n) _ _ HD.out HN.out (by omega)).mono ?_; rintro e w2 ⟨v2, rfl, hd2, hk2⟩)
      go_ret
      exact ⟨_, rfl, hd2, HK.out.trans hk2⟩

theorem refOf5_any (x : Nat) (w : World) (hx : x < 18446744073709551616) :
    Calls Try.prog 21 #[.int .u64 (x : Int)] w fun e w' => ∃ v, e = .returned v ∧ Dig x v w' ∧ Kept w w' := by
  have h0 : lmb x 0 = x := by simp only [lmb]; omega
  have HC := Lib.hid (limbs_any x 1 w.heap.size 22 #[.int .u64 (x : Int)] (w.alloc (.cells #[.int .u64 (x : Int)] 22)) (Rowz.new w _ _) (fun i hi => by
    have : i = 0 := by omega
    subst this; rw [h0]; rfl) (by omega) (by omega))
  have HK := Lib.hid ((Kept.refl w).alloc (.cells #[.int .u64 (x : Int)] 22))
  clear h0 hx
  go_enter Try.func21, Try.ntmps21
  go_wp2_with (go_at_call 10; refine HC.out.mono ?_; rintro e w2 ⟨v2, rfl, hd2, hk2⟩)
  go_ret
  exact ⟨_, rfl, hd2, HK.out.trans hk2⟩

set_option maxHeartbeats 800000 in
theorem refLen5_any (N : Nat) (v : Value) (w : World) (hv : Dig N v w) (hm : dl N ≤ 1000000) :
    Calls Try.prog 17 #[v] w fun e w' => e = .returned (.int .i64 ((bl N : Nat) : Int)) ∧ w = w' := by
  obtain ⟨p, cap, rfl, hc, hp⟩ := hv
  rcases Nat.eq_zero_or_pos (dl N) with h0 | h0
  · have hb : bl N = 0 := by
      have := dl_lt N
      rw [h0] at this
      rw [show N = 0 by omega]; rfl
    rw [h0, hb]
    clear hp h0 hm hc hb
    go_enter Try.func17, Try.ntmps17
    go_wp2
    go_ret
    exact ⟨rfl, rfl⟩
  · obtain ⟨g, cur, rfl, hr, hb⟩ := hp h0
    have HL := Lib.hid (len_dgt N h0)
    obtain ⟨k, hk⟩ : ∃ k, dl N = k + 1 := ⟨dl N - 1, by omega⟩
    rw [hk] at HL hb hm hc ⊢
    rw [Nat.add_sub_cancel] at HL
    have c1 : w.cell? ⟨g, k, none⟩ = some (.int .i64 ((dgt N k : Nat) : Int)) := (hr.cell k).trans (hb k (by omega))
    have hdl := dgt_lt N k
    have hb16 : bl (dgt N k) ≤ 16 := bl_le _ 16 hdl
    generalize dgt N k = x at c1 hdl HL hb16
    have hz : (((k + 1 : Nat) : Int) == 0) = false := by simp; omega
    have hC := fun w => refLead_any x w (by omega)
    have HC := Lib.hid hC
    clear hr hb h0 hk hp hC
    go_enter Try.func17, Try.ntmps17
    go_wp2_with (go_at_call 40; refine (HC.out _).mono ?_; rintro e w' ⟨rfl, rfl⟩)
    go_ret
    refine ⟨ret_int ?_, rfl⟩
    rw [HL.out]
    omega

set_option maxRecDepth 100000 in
set_option maxHeartbeats 2000000 in
theorem refCmp5_any (A B : Nat) (v u : Value) (w : World) (hv : Dig A v w) (hu : Dig B u w) (hm : dl A ≤ 1000000) :
    Calls Try.prog 15 #[v, u] w fun e w' => e = .returned (.int .i64 (cmpN A B)) ∧ Kept w w' := by
  obtain ⟨p, cap, rfl, hc, hp⟩ := hv
  obtain ⟨p2, cap2, rfl, hc2, hp2⟩ := hu
  by_cases hE : dl A = dl B
  · have HS : Hid (A / 65536 ^ dl A = B / 65536 ^ dl A) := Lib.hid (by rw [Nat.div_eq_of_lt (dl_lt A), hE, Nat.div_eq_of_lt (dl_lt B)])
    rw [← hE] at hp2 hc2 ⊢
    have HP := Lib.hid hp
    have HP2 := Lib.hid hp2
    clear hp hp2 hE
    generalize dl A = m at HS HP HP2 hm hc hc2 ⊢
    have hne : ((m : Int) != (m : Int)) = false := by simp
    go_enter Try.func15, Try.ntmps15
    go_wp2
    go_loopw [5] (fun i wr => ∃ (k : Nat), k ≤ m ∧ i = .int .i64 ((k : Int) - 1) ∧ Hid (A / 65536 ^ k = B / 65536 ^ k) ∧ Hid (Kept w wr)) (fun i _ => (intOf i + 1).toNat)
    case atStart => exact ⟨m, Nat.le_refl _, rfl, HS, Lib.hid (Kept.refl w)⟩
    case round =>
      clear HS
      obtain ⟨k, hk4, rfl, HS, G0⟩ := hrel
      cases k with
      | zero =>
        have hE : A = B := by have := HS.out; simpa using this
        have hcm := cmpN_eq hE
        clear hE
        go_wp2
        go_ret
        rw [hcm]
        exact ⟨rfl, G0.out⟩
      | succ k =>
        obtain ⟨g, cur, rfl, hr, hb⟩ := HP.out (by omega)
        obtain ⟨g2, cur2, rfl, hr2, hb2⟩ := HP2.out (by omega)
        have hki : (k : Int) < (m : Int) := by omega
        have hdk : decide ((0 : Int) ≤ (k : Int)) = true := by simp
        have e1 : (((k + 1 : Nat) : Int) - 1) = (k : Int) := by omega
        rw [e1]
        have c1 : wr.cell? ⟨g, k, none⟩ = some (.int .i64 ((dgt A k : Nat) : Int)) := by rw [(hr.kept G0.out).cell, hb k (by omega)]
        have c2 : wr.cell? ⟨g2, k, none⟩ = some (.int .i64 ((dgt B k : Nat) : Int)) := by rw [(hr2.kept G0.out).cell, hb2 k (by omega)]
        have HL := Lib.hid (dgt_less A B k HS.out)
        have HG := Lib.hid (dgt_less B A k HS.out.symm)
        have HE := Lib.hid (dgt_same A B k HS.out)
        clear e1 hr hb hr2 hb2 HP HP2
        generalize dgt A k = x at c1 HL HG HE
        generalize dgt B k = y at c2 HL HG HE
        by_cases hxy : y < x
        · have hL : Hid (cmpN A B = 1) := Lib.hid (cmpN_gt (HG.out hxy))
          have hdx : decide (y < x) = true := decide_eq_true hxy
          clear HL HG HE hxy
          go_wp2
          go_quiet (fail)
          replace G0 : Hid (Kept w (wr.drewN nq)) := G0
          generalize wr.drewN nq = w2 at G0 ⊢
          go_wp2
          go_ret
          rw [hL.out]
          exact ⟨rfl, G0.out⟩
        · have hdx : decide (y < x) = false := decide_eq_false hxy
          by_cases hyx : x < y
          · have hL : Hid (cmpN A B = -1) := Lib.hid (cmpN_lt (HL.out hyx))
            have hdy : decide (x < y) = true := decide_eq_true hyx
            clear HL HG HE hxy hyx
            go_wp2
            go_quiet (fail)
            replace c1 : (wr.drewN nq).cell? ⟨g, k, none⟩ = some (.int .i64 (x : Int)) := c1
            replace c2 : (wr.drewN nq).cell? ⟨g2, k, none⟩ = some (.int .i64 (y : Int)) := c2
            replace G0 : Hid (Kept w (wr.drewN nq)) := G0
            generalize wr.drewN nq = w2 at c1 c2 G0 ⊢
            go_wp2
            go_quiet (fail)
            replace G0 : Hid (Kept w (w2.drewN nq)) := G0
            generalize w2.drewN nq = w3 at G0 ⊢
            go_wp2
            go_ret
            rw [hL.out]
            exact ⟨rfl, G0.out⟩
          · have hS : Hid (A / 65536 ^ k = B / 65536 ^ k) := Lib.hid (HE.out (by omega))
            have hdy : decide (x < y) = false := decide_eq_false hyx
            clear HL HG HE hxy hyx
            go_wp2
            go_quiet (fail)
            replace c1 : (wr.drewN nq).cell? ⟨g, k, none⟩ = some (.int .i64 (x : Int)) := c1
            replace c2 : (wr.drewN nq).cell? ⟨g2, k, none⟩ = some (.int .i64 (y : Int)) := c2
            replace G0 : Hid (Kept w (wr.drewN nq)) := G0
            generalize wr.drewN nq = w2 at c1 c2 G0 ⊢
            go_wp2
            go_quiet (fail)
            replace G0 : Hid (Kept w (w2.drewN nq)) := G0
            generalize w2.drewN nq = w3 at G0 ⊢
            go_wp2
            go_roundw
            case rel => exact ⟨k, by omega, by go_num, hS, G0⟩
            case measure => simp [intOf]
  · have hne : (((dl A : Nat) : Int) != ((dl B : Nat) : Int)) = true := by simp; omega
    by_cases hlt : dl A < dl B
    · have hL : Hid (cmpN A B = -1) := Lib.hid (cmpN_lt (dl_less A B hlt))
      have hd : decide (dl B < dl A) = false := decide_eq_false (by omega)
      clear hp hp2 hE hlt
      generalize dl A = m at *
      generalize dl B = m2 at *
      go_enter Try.func15, Try.ntmps15
      go_wp2
      go_ret
      rw [hL.out]
      exact ⟨rfl, Kept.refl _⟩
    · have hL : Hid (cmpN A B = 1) := Lib.hid (cmpN_gt (dl_less B A (by omega)))
      have hd : decide (dl B < dl A) = true := decide_eq_true (by omega)
      clear hp hp2 hE hlt
      generalize dl A = m at *
      generalize dl B = m2 at *
      go_enter Try.func15, Try.ntmps15
      go_wp2
      go_ret
      rw [hL.out]
      exact ⟨rfl, Kept.refl _⟩
end Go.Proofs.Ytcjieaijcjinnaa
