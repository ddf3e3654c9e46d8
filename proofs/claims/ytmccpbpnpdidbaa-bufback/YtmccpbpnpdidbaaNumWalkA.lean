/-
  Contracts of num: Put, Size, Take, last.
-/
import Derived.Test.YtmccpbpnpdidbaaGotoLib
import Derived.Test.YtmccpbpnpdidbaaNumMath
import Derived.Test.YtmccpbpnpdidbaaWalkA
import Derived.Test.YtmccpbpnpdidbaaWalkB
import Derived.Test.YtmccpbpnpdidbaaDrawLib
namespace Go.Proofs.Ytmccpbpnpdidbaa
open Go.RowKit

theorem infoU8n : (Try.prog.info? 5).map (fun i => (i.zero, i.size, i.bytes)) = some (some (.int .u8 0), 1, 1) := by kernel_rfl
def bvL (l : List UInt8) : List Value := l.map fun u => .int .u8 (u.toNat : Int)
theorem bvL_snoc (l : List UInt8) (c : Nat) (h : c < 256) : bvL l ++ [.int .u8 (c : Int)] = bvL (l ++ [UInt8.ofNat c]) := by
  simp only [bvL, List.map_append, List.map_cons, List.map_nil]
  rw [show (UInt8.ofNat c).toNat = c by simp; omega]
theorem run_owned {w : World} {base : Nat} {v : Value} {n : Nat} (l : List UInt8) (h : w.ownsRow base 5 1 v n (bvL l)) (hn : 0 < n) :
    (convert 27 9 v).run Try.prog w = .ok (.string ⟨l.toArray⟩) w := by
  have hl : l.length = n := by have := h.1; simpa [bvL] using this
  obtain ⟨g, cap, cur, rfl, _, _, hr, hb⟩ := owns_row h hn
  have h1 := run_strB w g 0 cap l (fun j hj => by
    rw [Nat.zero_add, hr.cell, hb j (by omega), bvL, List.getElem?_map, List.getElem?_eq_getElem hj]
    rfl)
  rw [hl] at h1
  exact h1
theorem run_make10 (w : World) : (Instr.makeSlice 27 (.int .i64 0) (.int .i64 10)).run Try.prog w = .ok (.slice (some ⟨w.heap.size, 0, none⟩) 0 10) (w.alloc (.cells (bC 10 []) 5)) := by kernel_rfl

theorem or128 (y : Nat) : bits .or .u8 ((y : Int) % 256) 128 = ((y % 128 + 128 : Nat) : Int) := by
  have h : ∀ n : Nat, n < 256 → bits .or .u8 (n : Int) 128 = ((n % 128 + 128 : Nat) : Int) := by decide +kernel
  have h1 := h (y % 256) (by omega)
  rw [show y % 256 % 128 = y % 128 by omega] at h1
  exact h1
theorem and127 (c : Nat) (hc : c < 256) : bits .and .u8 (c : Int) 127 = ((c % 128 : Nat) : Int) := by
  have h : ∀ n : Nat, n < 256 → bits .and .u8 (n : Int) 127 = ((n % 128 : Nat) : Int) := by decide +kernel
  exact h c hc
def gotoM (a : Act) (_ : World) : Nat := (intOf (a.tmps.getD 0 undef)).toNat
def PutJ (x : Nat) (w : World) (a : Act) (w' : World) : Prop :=
  ∃ (y : Nat) (l : List UInt8) (v u4 u5 u6 u7 u8 u9 u10 u11 u12 u13 u14 : Value),
    a = { tmps := #[.int .u64 (y : Int), undef, .string ⟨#[]⟩, v, u4, u5, u6, u7, u8, u9, u10, u11, u12, u13, u14, undef, undef, undef, undef, undef, undef], defers := [] } ∧
    y < 18446744073709551616 ∧ Hid (l ++ vs y = vs x) ∧ Hid (w'.ownsRow w.heap.size 5 1 v l.length (bvL l)) ∧ Hid (Kept w w')
set_option maxRecDepth 100000 in
set_option maxHeartbeats 1000000 in
theorem numPut_any (x : Nat) (w : World) (hx : x < 18446744073709551616) :
    Calls Try.prog 29 #[.int .u64 (x : Int)] w fun e w' => e = .returned (.string (vS x)) ∧ Kept w w' := by
  have hmk := run_make10
  have HX := Lib.hid (vs_len10 x hx)
  go_enter Try.func29, Try.ntmps29
  go_wp2
  refine wp_goto1 0 (PutJ x w) gotoM rfl ?_ ?_
  · go_wp2
    refine ⟨x, [], _, _, _, _, _, _, _, _, _, _, _, _, rfl, hx, Lib.hid rfl, Lib.hid ?_, Lib.hid ((Kept.refl w).alloc _)⟩
    exact World.ownsRow_made w (bC 10 []) 10 (Nat.le_refl _) (by decide) rfl
  · rintro a' wr ⟨y, l, v, u4, u5, u6, u7, u8, u9, u10, u11, u12, u13, u14, rfl, hy, HV, HO, HK⟩
    clear hmk
    have hll : l.length ≤ 9 := by
      have h1 := HX.out
      rw [← HV.out, List.length_append] at h1
      have := vs_pos y
      omega
    by_cases hlt : y < 128
    · have hd : decide ((y : Int) ≥ 128) = false := by simp; omega
      have hw : IntKind.u8.wrap (y : Int) = (y : Int) := by rw [IntKind.wrap_u8]; omega
      have HE : Hid (l ++ [UInt8.ofNat y] = vs x) := Lib.hid (by rw [← HV.out, vs_one y hlt])
      have HS := Lib.hid (bvL_snoc l y (by omega))
      go_wp2_with (at_builtin; refine wpList_append1 rfl _ _ 27 rfl w 5 (.int .u8 0) 1 Try.underlying27 infoU8n rfl _ _ _ rfl HO rfl rfl (by unfold maxLen; omega) (by omega) HK ?_; intro v' w' HO' HK'; have hcv := run_owned (l ++ [UInt8.ofNat y]) (by rw [← HS.out]; exact HO'.out) (by omega); rw [HE.out] at hcv)
      simp only [Exit.jump]
      go_ret
      exact ⟨rfl, HK'.out⟩
    · have hd : decide ((y : Int) ≥ 128) = true := by simp; omega
      have hor := or128 y
      have HE : Hid ((l ++ [UInt8.ofNat (y % 128 + 128)]) ++ vs (y / 128) = vs x) := Lib.hid (by rw [← HV.out, vs_more y (by omega)]; simp)
      have HS := Lib.hid (bvL_snoc l (y % 128 + 128) (by omega))
      go_wp2_with (at_builtin; refine wpList_append1 rfl _ _ 27 rfl w 5 (.int .u8 0) 1 Try.underlying27 infoU8n rfl _ _ _ rfl HO rfl rfl (by unfold maxLen; omega) (by omega) HK ?_; intro v' w' HO' HK')
      go_step3
      refine ⟨rfl, ⟨y / 128, l ++ [UInt8.ofNat (y % 128 + 128)], _, _, _, _, _, _, _, _, _, _, _, _, rfl, by omega, HE, Lib.hid ?_, HK'⟩, ?_⟩
      · have h : w'.ownsRow w.heap.size 5 1 v' (l.length + 1) (bvL l ++ [.int .u8 ((y % 128 + 128 : Nat) : Int)]) := HO'.out
        rw [HS.out] at h
        rw [List.length_append]
        exact h
      · show (intOf (.int .u64 _)).toNat < (intOf (.int .u64 _)).toNat
        simp only [intOf]
        omega

def lastE (c n : Nat) : Int := if 1 < n ∧ c = 0 then 2 else if n = 10 ∧ 1 < c then 3 else 0
theorem numLast_any (c n : Nat) (w : World) (hc : c < 256) (hn : n ≤ 10) :
    Calls Try.prog 38 #[.int .u8 (c : Int), .int .i64 (n : Int)] w fun e w' => e = .returned (.int .i64 (lastE c n)) ∧ w = w' := by
  go_enter Try.func38, Try.ntmps38
  by_cases h1 : 1 < n
  · by_cases h2 : c = 0
    · subst h2
      have hd : decide ((n : Int) > 1) = true := by simp; omega
      go_wp2
      go_ret
      exact ⟨ret_int (by rw [lastE, if_pos ⟨h1, rfl⟩]), rfl⟩
    · have hd : decide ((n : Int) > 1) = true := by simp; omega
      have he : ((c : Int) == 0) = false := by simp; omega
      by_cases h3 : n = 10 ∧ 1 < c
      · have hd2 : ((n : Int) == 10) = true := by simp; omega
        have he2 : decide ((c : Int) > 1) = true := by simp; omega
        go_wp2
        go_ret
        exact ⟨ret_int (by rw [lastE, if_neg (by omega), if_pos h3]), rfl⟩
      · have HE : Hid (lastE c n = 0) := Lib.hid (by rw [lastE, if_neg (by omega), if_neg h3])
        by_cases h4 : n = 10
        · have hd2 : ((n : Int) == 10) = true := by simp; omega
          have he2 : decide ((c : Int) > 1) = false := by simp; omega
          clear h3 h4
          go_wp2
          go_ret
          exact ⟨ret_int HE.out.symm, rfl⟩
        · have hd2 : ((n : Int) == 10) = false := by simp; omega
          clear h3 h4
          go_wp2
          go_ret
          exact ⟨ret_int HE.out.symm, rfl⟩
  · have hd : decide ((n : Int) > 1) = false := by simp; omega
    have hd2 : ((n : Int) == 10) = false := by simp; omega
    have HE : Hid (lastE c n = 0) := Lib.hid (by rw [lastE, if_neg (by omega), if_neg (by omega)])
    clear h1
    go_wp2
    go_ret
    exact ⟨ret_int HE.out.symm, rfl⟩
end Go.Proofs.Ytmccpbpnpdidbaa
