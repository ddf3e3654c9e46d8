/-
  head.Take and head.Get of any bytes answer the reference's header, error and rest; the law's examples hold: 'HeadTakes' returns true for every input.
  Conditions: none.
-/
import Derived.Test.YtdidgenenlefiaaRows
import Derived.Test.YtdidgenenlefiaaHeadLaw
import Derived.Test.YtdidgenenlefiaaLawLibJ
import Derived.WalkKit
import Derived.ProofKit
import Derived.OpenShut
import Derived.ShutString
import Derived.SizedLaws
import Derived.Test.YtdidgenenlefiaaBas
namespace Go.Proofs.Ytdidgenenlefiaa.headTakes
open Go.ChangeShapes Go.WideShapes Go.ChangeAt Go.RowKit
open Go.ChangeMaps (open_string shut_string)
set_option linter.unusedVariables false

theorem own : ownKnob Try.prog.godebug = none := by kernel_rfl
theorem laidOut : laidOutB Try.prog = true := by kernel_rfl

set_option maxRecDepth 100000 in
set_option maxHeartbeats 4000000 in
theorem walk (a0 : ByteArray) (w0 : a0.size ≤ maxLen) (r0 : a0.size ≤ 140737488351232) (w : World)  :
    Calls Try.prog 4 #[.string a0] w fun e w' => e = .returned (.bool true) ∧ Kept w w' := by
  have hX := hT_ok a0
  have hTE := hT_done a0
  have hED := hE_done a0
  have hrp : rawP ⟨a0, 0⟩ 76 = rawR ⟨a0, 0⟩ 76 := rawP_eq _ _ (fun h => absurd rfl h)
  have HC : Hid (∀ w, Calls Try.prog 9 #[.string a0] w fun e w' => e = .returned (.tuple #[.agg (hdC (hT a0)), .int .i64 (hE a0)]) ∧ Kept w w') := Lib.hid fun w => headTake_any a0 w w0
  have HG : Hid (∀ w, Calls Try.prog 10 #[.agg #[.string a0, .int .i64 0]] w fun e w' => e = .returned (.tuple #[.agg (hdC (gH ⟨a0, 0⟩)), .agg #[.string (rawR ⟨a0, 0⟩ 76).2.b, .int .i64 (rawR ⟨a0, 0⟩ 76).2.e]]) ∧ Kept w w') := Lib.hid fun w => refGet17_any ⟨a0, 0⟩ w
  have HP : Hid (∀ g w, CurAt w g ⟨a0, 0⟩ → Calls Try.prog 13 #[.pointer (some ⟨g, 0, none⟩)] w fun e w' => e = .returned (.agg (hdC (gH ⟨a0, 0⟩))) ∧ CurAt w' g (rawR ⟨a0, 0⟩ 76).2 ∧ OnlyC g w w') := Lib.hid fun g w h => by
    have := headGet_any g ⟨a0, 0⟩ w (fun h => absurd rfl h) w0 h
    rwa [hrp] at this
  have HY := gH_ok ⟨a0, 0⟩
  clear hrp w0 r0
  generalize (rawR ⟨a0, 0⟩ 76).2 = d at HG HP hED
  generalize gH ⟨a0, 0⟩ = G at HG HP hTE HY
  generalize hT a0 = X at HC hTE hX
  generalize hE a0 = E at HC hTE hED
  have HD : Hid (∀ w, Calls Try.prog 11 #[.agg #[.string d.b, .int .i64 d.e]] w fun e w' => e = .returned (.int .i64 E) ∧ Grown w w') := Lib.hid fun w => hED ▸ refDone8_any d w
  clear hED
  replace hTE := Lib.hid hTE
  replace hX := Lib.hid hX
  replace HY := Lib.hid HY
  have HIX := Lib.hid (info_hdr X)
  have HNX := Lib.hid (hdC_one X)
  have HIG := Lib.hid (info_hdr G)
  have HNG := Lib.hid (hdC_one G)
  go_enter Try.func4, Try.ntmps4
  go_wp2_with fail
  refine (HC.out _).mono ?_
  rintro e v1 ⟨rfl, k1⟩
  replace k1 := Lib.hid k1
  clear HC
  go_wp2_with (first
    | (refine wpList_exec 3 rfl (by rfl) _ _ (execAllocHd _ rfl) ?_)
    | (refine wpList_store_made rfl 27 _ _ rfl _ _ (hdC X) rfl rfl 27 _ rfl HIX.out (by rw [hdC_size, hdC_size]) HNX.out ?_; intro v2 R3 k2))
  obtain ⟨g3, hg3⟩ : ∃ g, g = v1.heap.size := ⟨_, rfl⟩
  rw [← hg3] at R3 ⊢
  clear hg3
  have K := Lib.hid (k1.out.trans k2.out)
  clear k1 k2
  refine (HG.out _).mono ?_
  rintro e v3 ⟨rfl, k3⟩
  replace K := Lib.hid (K.out.trans k3)
  replace R3 := Lib.hid (R3.out.kept k3)
  clear k3
  go_wp2_with (first
    | (refine wpList_exec 5 rfl (by rfl) _ _ (execAllocHd _ rfl) ?_)
    | (refine park_none rfl ?_))
  change Parked (wpList _ _ _ _ _ ((v3.alloc (.cells (hdC hdZ) 27)).alloc (.cells #[.string noB, .int .i64 0] 35)))
  obtain ⟨g5, hg5⟩ : ∃ g, g = v3.heap.size := ⟨_, rfl⟩
  have hW5 : Hid (w.heap.size ≤ g5) := Lib.hid (by rw [hg5]; exact K.out.size)
  have R5 : Hid (Rowz ((v3.alloc (.cells (hdC hdZ) 27)).alloc (.cells #[.string noB, .int .i64 0] 35)) g5 (hdC hdZ) 27) := Lib.hid (by rw [hg5]; exact Rowz.alloc (Rowz.new v3 (hdC hdZ) 27) _)
  obtain ⟨g6, hg6⟩ : ∃ g, g = v3.heap.size + 1 := ⟨_, rfl⟩
  have hN5 : Hid (g5 < g6) := Lib.hid (by omega)
  have R6 : Hid (Rowz ((v3.alloc (.cells (hdC hdZ) 27)).alloc (.cells #[.string noB, .int .i64 0] 35)) g6 #[.string noB, .int .i64 0] 35) := Lib.hid (by rw [hg6]; exact Rowz.newEq1 v3 _ _ _ _ rfl)
  have hL3 : Hid (g3 < g5) := Lib.hid (by rw [hg5]; exact R3.out.lt)
  have Kk := Lib.hid (((Kept.refl v3).alloc (.cells (hdC hdZ) 27)).alloc (.cells #[.string noB, .int .i64 0] 35))
  replace R3 := Lib.hid (R3.out.kept Kk.out)
  replace K := Lib.hid (K.out.trans Kk.out)
  clear Kk
  rw [← hg6, ← hg5]
  generalize (v3.alloc (.cells (hdC hdZ) 27)).alloc (.cells #[.string noB, .int .i64 0] 35) = v4 at *
  clear hg5 hg6
  refine unpark ?_
  refine wpList_store_rowN rfl 27 _ _ rfl g5 (hdC G) rfl rfl 27 (hdC hdZ) R5.out HIG.out (by rw [hdC_size, hdC_size]) HNG.out ?_
  intro v5 hv
  replace R5 : Hid (Rowz v5 g5 (hdC G) 27) := Lib.hid (hv.out ▸ R5.out.row)
  replace R6 : Hid (Rowz v5 g6 _ _) := Lib.hid (hv.out ▸ R6.out.rowOther (by have := hN5.out; omega))
  replace R3 : Hid (Rowz v5 g3 (hdC X) 27) := Lib.hid (hv.out ▸ Rowz.rowOther R3.out (by have := hL3.out; omega))
  replace K : Hid (Kept w v5) := Lib.hid (hv.out ▸ K.out.setRow hW5.out _)
  clear hv
  refine wpList_store_rowN rfl 35 _ _ rfl g6 #[.string d.b, .int .i64 d.e] rfl rfl 35 #[.string noB, .int .i64 0] R6.out (infoC _ _) rfl (by simp [Value.oneCell']) ?_
  intro v6 hv
  replace R5 : Hid (Rowz v6 g5 _ _) := Lib.hid (hv.out ▸ R5.out.rowOther (by have := hN5.out; omega))
  replace R6 : Hid (Rowz v6 g6 #[.string d.b, .int .i64 d.e] 35) := Lib.hid (hv.out ▸ R6.out.row)
  replace R3 : Hid (Rowz v6 g3 (hdC X) 27) := Lib.hid (hv.out ▸ Rowz.rowOther R3.out (by have := hL3.out; have := hN5.out; omega))
  replace K : Hid (Kept w v6) := Lib.hid (hv.out ▸ K.out.setRow (by have := hN5.out; have := hW5.out; omega) _)
  clear hv
  go_wp2_with (refine wpList_exec 23 rfl (by rfl) (.agg #[.string d.b, .int .i64 d.e]) _ (execLoadRow 35 rfl g6 rfl _ 35 _ R6.out Try.underlying35 rfl (infoC _ _)) ?_)
  refine (HD.out _).mono ?_
  rintro e v8 ⟨rfl, k8⟩
  replace k8 := Grown.kept k8
  replace K := Lib.hid (K.out.trans k8)
  replace R3 := Lib.hid (R3.out.kept k8)
  replace R5 := Lib.hid (R5.out.kept k8)
  replace R6 := Lib.hid (R6.out.kept k8)
  clear k8 HD
  by_cases hE0 : E = 0
  · obtain rfl : X = G := by rw [hTE.out, if_pos hE0]
    subst hE0
    clear hTE
    clear hL3 hN5 hW5
    go_wp2_with fail
    refine (curRead_any a0 _).mono ?_
    rintro e u1 ⟨rfl, C1, k1⟩
    obtain ⟨g8, hg8⟩ : ∃ g, g = v8.heap.size := ⟨_, rfl⟩
    have hL3 : Hid (g3 < g8) := Lib.hid (by rw [hg8]; exact R3.out.lt)
    have hL5 : Hid (g5 < g8) := Lib.hid (by rw [hg8]; exact R5.out.lt)
    have hL6 : Hid (g6 < g8) := Lib.hid (by rw [hg8]; exact R6.out.lt)
    have hW8 : Hid (w.heap.size ≤ g8) := Lib.hid (by rw [hg8]; exact K.out.size)
    rw [← hg8] at C1 ⊢
    clear hg8
    replace k1 := Grown.kept k1
    replace K := Lib.hid (K.out.trans k1)
    replace R3 := Lib.hid (R3.out.kept k1)
    replace R5 := Lib.hid (R5.out.kept k1)
    replace R6 := Lib.hid (R6.out.kept k1)
    clear k1
    have HP1 := Lib.hid (HP.out g8 u1 C1)
    clear C1 HP
    go_wp2_with fail
    refine HP1.out.mono ?_
    rintro e u2 ⟨rfl, C2, o2⟩
    have R8 : Hid (Rowz u2 g8 #[.string d.b, .int .i64 d.e] 59) := Lib.hid C2
    replace K := Lib.hid (o2.kept w K.out hW8.out)
    replace R3 := Lib.hid (R3.out.onlyC o2 (by have := hL3.out; omega))
    replace R5 := Lib.hid (R5.out.onlyC o2 (by have := hL5.out; omega))
    replace R6 := Lib.hid (R6.out.onlyC o2 (by have := hL6.out; omega))
    clear o2 C2 HP1 hL3 hL5 hL6 hW8
    go_wp2_with (first
      | (refine wpList_exec 9 rfl (by rfl) _ _ (execAllocHd _ rfl) ?_)
      | (refine wpList_store_made rfl 27 _ _ rfl _ _ (hdC X) rfl rfl 27 _ rfl HIX.out (by rw [hdC_size, hdC_size]) HNX.out ?_; intro u3 R9 k3))
    obtain ⟨g9, hg9⟩ : ∃ g, g = u2.heap.size := ⟨_, rfl⟩
    rw [← hg9] at R9 ⊢
    clear hg9
    replace K := Lib.hid (K.out.trans k3.out)
    replace R3 := Lib.hid (R3.out.kept k3.out)
    replace R5 := Lib.hid (R5.out.kept k3.out)
    replace R6 := Lib.hid (R6.out.kept k3.out)
    replace R8 := Lib.hid (R8.out.kept k3.out)
    clear k3
    refine (HG.out _).mono ?_
    rintro e u4 ⟨rfl, k4⟩
    replace K := Lib.hid (K.out.trans k4)
    replace R3 := Lib.hid (R3.out.kept k4)
    replace R5 := Lib.hid (R5.out.kept k4)
    replace R6 := Lib.hid (R6.out.kept k4)
    replace R8 := Lib.hid (R8.out.kept k4)
    replace R9 := Lib.hid (R9.out.kept k4)
    clear k4 HG
    go_wp2_with (first
      | (refine wpList_exec 10 rfl (by rfl) _ _ (execAllocHd _ rfl) ?_)
      | (refine park_none rfl ?_))
    change Parked (wpList _ _ _ _ _ ((u4.alloc (.cells (hdC hdZ) 27)).alloc (.cells #[.string noB, .int .i64 0] 35)))
    obtain ⟨g10, hg10⟩ : ∃ g, g = u4.heap.size := ⟨_, rfl⟩
    have hW10 : Hid (w.heap.size ≤ g10) := Lib.hid (by rw [hg10]; exact K.out.size)
    have R10 : Hid (Rowz ((u4.alloc (.cells (hdC hdZ) 27)).alloc (.cells #[.string noB, .int .i64 0] 35)) g10 (hdC hdZ) 27) := Lib.hid (by rw [hg10]; exact Rowz.alloc (Rowz.new u4 (hdC hdZ) 27) _)
    obtain ⟨g11, hg11⟩ : ∃ g, g = u4.heap.size + 1 := ⟨_, rfl⟩
    have hN10 : Hid (g10 < g11) := Lib.hid (by omega)
    have R11 : Hid (Rowz ((u4.alloc (.cells (hdC hdZ) 27)).alloc (.cells #[.string noB, .int .i64 0] 35)) g11 #[.string noB, .int .i64 0] 35) := Lib.hid (by rw [hg11]; exact Rowz.newEq1 u4 _ _ _ _ rfl)
    have hL3 : Hid (g3 < g10) := Lib.hid (by rw [hg10]; exact R3.out.lt)
    have hL5 : Hid (g5 < g10) := Lib.hid (by rw [hg10]; exact R5.out.lt)
    have hL6 : Hid (g6 < g10) := Lib.hid (by rw [hg10]; exact R6.out.lt)
    have hL8 : Hid (g8 < g10) := Lib.hid (by rw [hg10]; exact R8.out.lt)
    have hL9 : Hid (g9 < g10) := Lib.hid (by rw [hg10]; exact R9.out.lt)
    have Kk := Lib.hid (((Kept.refl u4).alloc (.cells (hdC hdZ) 27)).alloc (.cells #[.string noB, .int .i64 0] 35))
    replace R3 := Lib.hid (R3.out.kept Kk.out)
    replace R5 := Lib.hid (R5.out.kept Kk.out)
    replace R6 := Lib.hid (R6.out.kept Kk.out)
    replace R8 := Lib.hid (R8.out.kept Kk.out)
    replace R9 := Lib.hid (R9.out.kept Kk.out)
    replace K := Lib.hid (K.out.trans Kk.out)
    clear Kk
    rw [← hg11, ← hg10]
    generalize (u4.alloc (.cells (hdC hdZ) 27)).alloc (.cells #[.string noB, .int .i64 0] 35) = u5 at *
    clear hg10 hg11
    refine unpark ?_
    refine wpList_store_rowN rfl 27 _ _ rfl g10 (hdC X) rfl rfl 27 (hdC hdZ) R10.out HIX.out (by rw [hdC_size, hdC_size]) HNX.out ?_
    intro u6 hv
    replace R10 : Hid (Rowz u6 g10 (hdC X) 27) := Lib.hid (hv.out ▸ R10.out.row)
    replace R11 : Hid (Rowz u6 g11 _ _) := Lib.hid (hv.out ▸ R11.out.rowOther (by have := hN10.out; omega))
    replace R3 : Hid (Rowz u6 g3 (hdC X) 27) := Lib.hid (hv.out ▸ Rowz.rowOther R3.out (by have := hL3.out; omega))
    replace R5 : Hid (Rowz u6 g5 (hdC X) 27) := Lib.hid (hv.out ▸ Rowz.rowOther R5.out (by have := hL5.out; omega))
    replace R6 : Hid (Rowz u6 g6 #[.string d.b, .int .i64 d.e] 35) := Lib.hid (hv.out ▸ Rowz.rowOther R6.out (by have := hL6.out; omega))
    replace R8 : Hid (Rowz u6 g8 #[.string d.b, .int .i64 d.e] 59) := Lib.hid (hv.out ▸ Rowz.rowOther R8.out (by have := hL8.out; omega))
    replace R9 : Hid (Rowz u6 g9 (hdC X) 27) := Lib.hid (hv.out ▸ Rowz.rowOther R9.out (by have := hL9.out; omega))
    replace K : Hid (Kept w u6) := Lib.hid (hv.out ▸ K.out.setRow hW10.out _)
    clear hv
    refine wpList_store_rowN rfl 35 _ _ rfl g11 #[.string d.b, .int .i64 d.e] rfl rfl 35 #[.string noB, .int .i64 0] R11.out (infoC _ _) rfl (by simp [Value.oneCell']) ?_
    intro u7 hv
    replace R10 : Hid (Rowz u7 g10 _ _) := Lib.hid (hv.out ▸ R10.out.rowOther (by have := hN10.out; omega))
    replace R11 : Hid (Rowz u7 g11 #[.string d.b, .int .i64 d.e] 35) := Lib.hid (hv.out ▸ R11.out.row)
    replace R3 : Hid (Rowz u7 g3 (hdC X) 27) := Lib.hid (hv.out ▸ Rowz.rowOther R3.out (by have := hL3.out; have := hN10.out; omega))
    replace R5 : Hid (Rowz u7 g5 (hdC X) 27) := Lib.hid (hv.out ▸ Rowz.rowOther R5.out (by have := hL5.out; have := hN10.out; omega))
    replace R6 : Hid (Rowz u7 g6 #[.string d.b, .int .i64 d.e] 35) := Lib.hid (hv.out ▸ Rowz.rowOther R6.out (by have := hL6.out; have := hN10.out; omega))
    replace R8 : Hid (Rowz u7 g8 #[.string d.b, .int .i64 d.e] 59) := Lib.hid (hv.out ▸ Rowz.rowOther R8.out (by have := hL8.out; have := hN10.out; omega))
    replace R9 : Hid (Rowz u7 g9 (hdC X) 27) := Lib.hid (hv.out ▸ Rowz.rowOther R9.out (by have := hL9.out; have := hN10.out; omega))
    replace K : Hid (Kept w u7) := Lib.hid (hv.out ▸ K.out.setRow (by have := hN10.out; have := hW10.out; omega) _)
    clear hv
    go_wp2_with fail
    clear hW10 hN10 hL3 hL5 hL6 hL8 hL9
    refine wp_region_table [(38, .is (.agg (hdC X))), (39, .is (.agg (hdC X))), (40, .is (.bool true)), (41, .is (.bool true)), (42, .is (.int .i64 0)), (43, .is (.int .i64 0)), (44, .is (.bool true)), (45, .is (.bool true)), (46, .is (.bool true)), (47, .is (.agg (hdC X))), (48, .is (.agg (hdC X))), (49, .is (.bool true)), (50, .is (.bool true)), (51, .is (.bool true)), (52, .is (.pointer (some ⟨g8, 0, none⟩))), (53, .is (.int .i64 (d.b.size : Int))), (54, .is (.pointer (some ⟨g6, 0, none⟩))), (55, .is (.string d.b)), (56, .is (.int .i64 (d.b.size : Int))), (57, .is (.bool true)), (58, .is (.bool true)), (59, .is (.bool true)), (60, .is (.pointer (some ⟨g8, 0, none⟩))), (61, .is (.int .i64 d.e)), (62, .is (.pointer (some ⟨g6, 1, none⟩))), (63, .is (.int .i64 d.e)), (64, .is (.bool true)), (65, .is (.bool true)), (66, .is (.bool true)), (67, .is (.bool true)), (68, .is (.bool true)), (2, .is (.bool true))] (by kernel_rfl) (by kernel_rfl) ?_ ?_
    · refine ⟨fun t w1 hf hk hp => ?_, ?_⟩
      · have h3 : slot t 3 = .pointer (some ⟨g3, 0, none⟩) := hf 3 (by kernel_rfl)
        clear hf hp
        refine stepAt_plain rfl ?_
        exact stepOK_pure (.agg (hdC X)) (loadHd rfl h3 (R3.out.kept hk)) rfl
      refine ⟨fun t w1 hf hk hp => ?_, ?_⟩
      · have h5 : slot t 5 = .pointer (some ⟨g5, 0, none⟩) := hf 5 (by kernel_rfl)
        clear hf hp
        refine stepAt_plain rfl ?_
        exact stepOK_pure (.agg (hdC X)) (loadHd rfl h5 (R5.out.kept hk)) rfl
      refine ⟨fun t w1 hf hk hp => ?_, ?_⟩
      · have h38 : slot t 38 = .agg (hdC X) := hp 38 (by kernel_rfl)
        have h39 : slot t 39 = .agg (hdC X) := hp 39 (by kernel_rfl)
        clear hf hp
        refine stepAt_plain rfl ?_
        exact stepOK_pure (.bool true) (execEqHd_self X hX.out w1 rfl h38 h39) rfl
      refine ⟨fun t w1 hf hk hp => ?_, ?_⟩
      · have h40 : slot t 40 = .bool true := hp 40 (by kernel_rfl)
        clear hf hp
        refine stepAt_plain rfl ?_
        exact stepOK_move _ (.inl rfl) h40
      refine ⟨fun t w1 hf hk hp => ?_, ?_⟩
      · have h4 : slot t 4 = .int .i64 0 := hf 4 (by kernel_rfl)
        have h41 : slot t 41 = .bool true := hp 41 (by kernel_rfl)
        clear hf hp
        refine stepAt_on 41 true (by kernel_rfl) h41 ?_
        exact stepOK_move _ (.inl rfl) h4
      refine ⟨fun t w1 hf hk hp => ?_, ?_⟩
      · have h7 : slot t 7 = .int .i64 0 := hf 7 (by kernel_rfl)
        have h41 : slot t 41 = .bool true := hp 41 (by kernel_rfl)
        clear hf hp
        refine stepAt_on 41 true (by kernel_rfl) h41 ?_
        exact stepOK_move _ (.inl rfl) h7
      refine ⟨fun t w1 hf hk hp => ?_, ?_⟩
      · have h42 : slot t 42 = .int .i64 0 := hp 42 (by kernel_rfl)
        have h43 : slot t 43 = .int .i64 0 := hp 43 (by kernel_rfl)
        have h41 : slot t 41 = .bool true := hp 41 (by kernel_rfl)
        clear hf hp
        refine stepAt_on 41 true (by kernel_rfl) h41 ?_
        refine stepOK_pure (.bool true) ?_ rfl
        simp only [execOp, evS, h42, h43]
        go_simp
      refine ⟨fun t w1 hf hk hp => ?_, ?_⟩
      · have h41 : slot t 41 = .bool true := hp 41 (by kernel_rfl)
        have h44 : slot t 44 = .bool true := hp 44 (by kernel_rfl)
        clear hf hp
        refine stepAt_plain rfl ?_
        refine stepOK_pure (.bool true) ?_ rfl
        simp only [execOp, evS, h41, h44]
        go_simp
      refine ⟨fun t w1 hf hk hp => ?_, ?_⟩
      · have h45 : slot t 45 = .bool true := hp 45 (by kernel_rfl)
        clear hf hp
        refine stepAt_plain rfl ?_
        exact stepOK_move _ (.inl rfl) h45
      refine ⟨fun t w1 hf hk hp => ?_, ?_⟩
      · have h9 : slot t 9 = .pointer (some ⟨g9, 0, none⟩) := hf 9 (by kernel_rfl)
        have h46 : slot t 46 = .bool true := hp 46 (by kernel_rfl)
        clear hf hp
        refine stepAt_on 46 true (by kernel_rfl) h46 ?_
        exact stepOK_pure (.agg (hdC X)) (loadHd rfl h9 (R9.out.kept hk)) rfl
      refine ⟨fun t w1 hf hk hp => ?_, ?_⟩
      · have h10 : slot t 10 = .pointer (some ⟨g10, 0, none⟩) := hf 10 (by kernel_rfl)
        have h46 : slot t 46 = .bool true := hp 46 (by kernel_rfl)
        clear hf hp
        refine stepAt_on 46 true (by kernel_rfl) h46 ?_
        exact stepOK_pure (.agg (hdC X)) (loadHd rfl h10 (R10.out.kept hk)) rfl
      refine ⟨fun t w1 hf hk hp => ?_, ?_⟩
      · have h47 : slot t 47 = .agg (hdC X) := hp 47 (by kernel_rfl)
        have h48 : slot t 48 = .agg (hdC X) := hp 48 (by kernel_rfl)
        have h46 : slot t 46 = .bool true := hp 46 (by kernel_rfl)
        clear hf hp
        refine stepAt_on 46 true (by kernel_rfl) h46 ?_
        exact stepOK_pure (.bool true) (execEqHd_self X HY.out w1 rfl h47 h48) rfl
      refine ⟨fun t w1 hf hk hp => ?_, ?_⟩
      · have h46 : slot t 46 = .bool true := hp 46 (by kernel_rfl)
        have h49 : slot t 49 = .bool true := hp 49 (by kernel_rfl)
        clear hf hp
        refine stepAt_plain rfl ?_
        refine stepOK_pure (.bool true) ?_ rfl
        simp only [execOp, evS, h46, h49]
        go_simp
      refine ⟨fun t w1 hf hk hp => ?_, ?_⟩
      · have h50 : slot t 50 = .bool true := hp 50 (by kernel_rfl)
        clear hf hp
        refine stepAt_plain rfl ?_
        exact stepOK_move _ (.inl rfl) h50
      refine ⟨fun t w1 hf hk hp => ?_, ?_⟩
      · have h8 : slot t 8 = .pointer (some ⟨g8, 0, none⟩) := hf 8 (by kernel_rfl)
        have h51 : slot t 51 = .bool true := hp 51 (by kernel_rfl)
        clear hf hp
        refine stepAt_on 51 true (by kernel_rfl) h51 ?_
        exact stepOK_move _ (.inl rfl) h8
      refine ⟨fun t w1 hf hk hp => ?_, ?_⟩
      · have h52 : slot t 52 = .pointer (some ⟨g8, 0, none⟩) := hp 52 (by kernel_rfl)
        have h51 : slot t 51 = .bool true := hp 51 (by kernel_rfl)
        clear hf hp
        refine stepAt_on 51 true (by kernel_rfl) h51 ?_
        refine stepOK_call #[.pointer (some ⟨g8, 0, none⟩)] rfl (by simp only [List.map_toArray, List.map_cons, List.map_nil, evS, h52]) (by go_simp) ((curLeft_any g8 d w1 (R8.out.kept hk)).mono fun e w' ⟨he, hk'⟩ => ⟨_, he, Kept.same hk', rfl⟩)
      refine ⟨fun t w1 hf hk hp => ?_, ?_⟩
      · have h6 : slot t 6 = .pointer (some ⟨g6, 0, none⟩) := hf 6 (by kernel_rfl)
        have h51 : slot t 51 = .bool true := hp 51 (by kernel_rfl)
        clear hf hp
        refine stepAt_on 51 true (by kernel_rfl) h51 ?_
        exact stepOK_pure (.pointer (some ⟨g6, 0, none⟩)) (execFieldC g6 0 (by omega) w1 rfl h6) rfl
      refine ⟨fun t w1 hf hk hp => ?_, ?_⟩
      · have h54 : slot t 54 = .pointer (some ⟨g6, 0, none⟩) := hp 54 (by kernel_rfl)
        have h51 : slot t 51 = .bool true := hp 51 (by kernel_rfl)
        clear hf hp
        refine stepAt_on 51 true (by kernel_rfl) h51 ?_
        have hq0 := run_loadS17 ((R6.out.kept hk).cell 0)
        exact stepOK_sem (.string d.b) (by simp only [execOp, evS, h54]) hq0 rfl
      refine ⟨fun t w1 hf hk hp => ?_, ?_⟩
      · have h55 : slot t 55 = .string d.b := hp 55 (by kernel_rfl)
        have h51 : slot t 51 = .bool true := hp 51 (by kernel_rfl)
        clear hf hp
        refine stepAt_on 51 true (by kernel_rfl) h51 ?_
        exact stepOK_pure (.int .i64 (d.b.size : Int)) (execLenS17 w1 rfl rfl h55) rfl
      refine ⟨fun t w1 hf hk hp => ?_, ?_⟩
      · have h53 : slot t 53 = .int .i64 (d.b.size : Int) := hp 53 (by kernel_rfl)
        have h56 : slot t 56 = .int .i64 (d.b.size : Int) := hp 56 (by kernel_rfl)
        have h51 : slot t 51 = .bool true := hp 51 (by kernel_rfl)
        clear hf hp
        refine stepAt_on 51 true (by kernel_rfl) h51 ?_
        refine stepOK_pure (.bool true) ?_ rfl
        simp only [execOp, evS, h53, h56]
        go_simp
      refine ⟨fun t w1 hf hk hp => ?_, ?_⟩
      · have h51 : slot t 51 = .bool true := hp 51 (by kernel_rfl)
        have h57 : slot t 57 = .bool true := hp 57 (by kernel_rfl)
        clear hf hp
        refine stepAt_plain rfl ?_
        refine stepOK_pure (.bool true) ?_ rfl
        simp only [execOp, evS, h51, h57]
        go_simp
      refine ⟨fun t w1 hf hk hp => ?_, ?_⟩
      · have h58 : slot t 58 = .bool true := hp 58 (by kernel_rfl)
        clear hf hp
        refine stepAt_plain rfl ?_
        exact stepOK_move _ (.inl rfl) h58
      refine ⟨fun t w1 hf hk hp => ?_, ?_⟩
      · have h8 : slot t 8 = .pointer (some ⟨g8, 0, none⟩) := hf 8 (by kernel_rfl)
        have h59 : slot t 59 = .bool true := hp 59 (by kernel_rfl)
        clear hf hp
        refine stepAt_on 59 true (by kernel_rfl) h59 ?_
        exact stepOK_move _ (.inl rfl) h8
      refine ⟨fun t w1 hf hk hp => ?_, ?_⟩
      · have h60 : slot t 60 = .pointer (some ⟨g8, 0, none⟩) := hp 60 (by kernel_rfl)
        have h59 : slot t 59 = .bool true := hp 59 (by kernel_rfl)
        clear hf hp
        refine stepAt_on 59 true (by kernel_rfl) h59 ?_
        refine stepOK_call #[.pointer (some ⟨g8, 0, none⟩)] rfl (by simp only [List.map_toArray, List.map_cons, List.map_nil, evS, h60]) (by go_simp) ((curErr_any g8 d w1 (R8.out.kept hk)).mono fun e w' ⟨he, hk'⟩ => ⟨_, he, Kept.same hk', rfl⟩)
      refine ⟨fun t w1 hf hk hp => ?_, ?_⟩
      · have h6 : slot t 6 = .pointer (some ⟨g6, 0, none⟩) := hf 6 (by kernel_rfl)
        have h59 : slot t 59 = .bool true := hp 59 (by kernel_rfl)
        clear hf hp
        refine stepAt_on 59 true (by kernel_rfl) h59 ?_
        exact stepOK_pure (.pointer (some ⟨g6, 1, none⟩)) (execFieldC g6 1 (by omega) w1 rfl h6) rfl
      refine ⟨fun t w1 hf hk hp => ?_, ?_⟩
      · have h62 : slot t 62 = .pointer (some ⟨g6, 1, none⟩) := hp 62 (by kernel_rfl)
        have h59 : slot t 59 = .bool true := hp 59 (by kernel_rfl)
        clear hf hp
        refine stepAt_on 59 true (by kernel_rfl) h59 ?_
        have hq0 := run_loadE17 ((R6.out.kept hk).cell 1)
        exact stepOK_sem (.int .i64 d.e) (by simp only [execOp, evS, h62]) hq0 rfl
      refine ⟨fun t w1 hf hk hp => ?_, ?_⟩
      · have h61 : slot t 61 = .int .i64 d.e := hp 61 (by kernel_rfl)
        have h63 : slot t 63 = .int .i64 d.e := hp 63 (by kernel_rfl)
        have h59 : slot t 59 = .bool true := hp 59 (by kernel_rfl)
        clear hf hp
        refine stepAt_on 59 true (by kernel_rfl) h59 ?_
        refine stepOK_pure (.bool true) ?_ rfl
        simp only [execOp, evS, h61, h63]
        go_simp
      refine ⟨fun t w1 hf hk hp => ?_, ?_⟩
      · have h59 : slot t 59 = .bool true := hp 59 (by kernel_rfl)
        have h64 : slot t 64 = .bool true := hp 64 (by kernel_rfl)
        clear hf hp
        refine stepAt_plain rfl ?_
        refine stepOK_pure (.bool true) ?_ rfl
        simp only [execOp, evS, h59, h64]
        go_simp
      refine ⟨fun t w1 hf hk hp => ?_, ?_⟩
      · have h65 : slot t 65 = .bool true := hp 65 (by kernel_rfl)
        clear hf hp
        refine stepAt_plain rfl ?_
        exact stepOK_move _ (.inl rfl) h65
      refine ⟨fun t w1 hf hk hp => ?_, ?_⟩
      · have h66 : slot t 66 = .bool true := hp 66 (by kernel_rfl)
        clear hf hp
        refine stepAt_on 66 true (by kernel_rfl) h66 ?_
        refine stepOK_call #[] rfl (by simp only [List.map_toArray, List.map_nil]) (by go_simp) ((awake17_any w1).mono fun e w' ⟨he, hk'⟩ => ⟨_, he, hk', rfl⟩)
      refine ⟨fun t w1 hf hk hp => ?_, ?_⟩
      · have h66 : slot t 66 = .bool true := hp 66 (by kernel_rfl)
        have h67 : slot t 67 = .bool true := hp 67 (by kernel_rfl)
        clear hf hp
        refine stepAt_plain rfl ?_
        refine stepOK_pure (.bool true) ?_ rfl
        simp only [execOp, evS, h66, h67]
        go_simp
      refine ⟨fun t w1 hf hk hp => ?_, ?_⟩
      · have h68 : slot t 68 = .bool true := hp 68 (by kernel_rfl)
        clear hf hp
        refine stepAt_plain rfl ?_
        exact stepOK_move _ (.inr rfl) h68
      exact trivial
    · intro t w1 hsz hf hk hfacts
      have h2 : slot t 2 = .bool true := hfacts 31 _ rfl 2 rfl
      have h0 : slot t 0 = .string a0 := hf 0 (by kernel_rfl)
      have h3 : slot t 3 = .pointer (some ⟨g3, 0, none⟩) := hf 3 (by kernel_rfl)
      have h4 : slot t 4 = .int .i64 0 := hf 4 (by kernel_rfl)
      have h5 : slot t 5 = .pointer (some ⟨g5, 0, none⟩) := hf 5 (by kernel_rfl)
      have h6 : slot t 6 = .pointer (some ⟨g6, 0, none⟩) := hf 6 (by kernel_rfl)
      have h7 : slot t 7 = .int .i64 0 := hf 7 (by kernel_rfl)
      have h8 : slot t 8 = .pointer (some ⟨g8, 0, none⟩) := hf 8 (by kernel_rfl)
      have h9 : slot t 9 = .pointer (some ⟨g9, 0, none⟩) := hf 9 (by kernel_rfl)
      have h10 : slot t 10 = .pointer (some ⟨g10, 0, none⟩) := hf 10 (by kernel_rfl)
      have harr : t = #[slot t 0, slot t 1, slot t 2, slot t 3, slot t 4, slot t 5, slot t 6, slot t 7, slot t 8, slot t 9, slot t 10, slot t 11, slot t 12, slot t 13, slot t 14, slot t 15, slot t 16, slot t 17, slot t 18, slot t 19, slot t 20, slot t 21, slot t 22, slot t 23, slot t 24, slot t 25, slot t 26, slot t 27, slot t 28, slot t 29, slot t 30, slot t 31, slot t 32, slot t 33, slot t 34, slot t 35, slot t 36, slot t 37, slot t 38, slot t 39, slot t 40, slot t 41, slot t 42, slot t 43, slot t 44, slot t 45, slot t 46, slot t 47, slot t 48, slot t 49, slot t 50, slot t 51, slot t 52, slot t 53, slot t 54, slot t 55, slot t 56, slot t 57, slot t 58, slot t 59, slot t 60, slot t 61, slot t 62, slot t 63, slot t 64, slot t 65, slot t 66, slot t 67, slot t 68] := arr_eq t 69 hsz
      rw [harr, h2, h0, h3, h4, h5, h6, h7, h8, h9, h10]
      clear harr hfacts hf h2 h0 h3 h4 h5 h6 h7 h8 h9 h10
      generalize slot t 1 = x1; generalize slot t 11 = x11; generalize slot t 12 = x12; generalize slot t 13 = x13; generalize slot t 14 = x14; generalize slot t 15 = x15; generalize slot t 16 = x16; generalize slot t 17 = x17; generalize slot t 18 = x18; generalize slot t 19 = x19; generalize slot t 20 = x20; generalize slot t 21 = x21
      generalize slot t 22 = x22; generalize slot t 23 = x23; generalize slot t 24 = x24; generalize slot t 25 = x25; generalize slot t 26 = x26; generalize slot t 27 = x27; generalize slot t 28 = x28; generalize slot t 29 = x29; generalize slot t 30 = x30; generalize slot t 31 = x31; generalize slot t 32 = x32; generalize slot t 33 = x33
      generalize slot t 34 = x34; generalize slot t 35 = x35; generalize slot t 36 = x36; generalize slot t 37 = x37; generalize slot t 38 = x38; generalize slot t 39 = x39; generalize slot t 40 = x40; generalize slot t 41 = x41; generalize slot t 42 = x42; generalize slot t 43 = x43; generalize slot t 44 = x44; generalize slot t 45 = x45
      generalize slot t 46 = x46; generalize slot t 47 = x47; generalize slot t 48 = x48; generalize slot t 49 = x49; generalize slot t 50 = x50; generalize slot t 51 = x51; generalize slot t 52 = x52; generalize slot t 53 = x53; generalize slot t 54 = x54; generalize slot t 55 = x55; generalize slot t 56 = x56; generalize slot t 57 = x57
      generalize slot t 58 = x58; generalize slot t 59 = x59; generalize slot t 60 = x60; generalize slot t 61 = x61; generalize slot t 62 = x62; generalize slot t 63 = x63; generalize slot t 64 = x64; generalize slot t 65 = x65; generalize slot t 66 = x66; generalize slot t 67 = x67; generalize slot t 68 = x68
      clear hsz t
      have K2 := Lib.hid (K.out.trans hk)
      clear hk
      go_wp2_with fail
      go_ret
      exact ⟨rfl, K2.out⟩

  · obtain rfl : X = hdZ := by rw [hTE.out, if_neg hE0]
    clear hTE
    have hE1 : (E != 0) = true := by simpa using hE0
    go_wp2_with (first
      | (refine wpList_exec 27 rfl (by rfl) _ _ (execBuildH0 _ rfl) ?_)
      | (refine wpList_store_rowN rfl 27 _ _ rfl g5 (hdC hdZ) rfl rfl 27 (hdC G) R5.out HIX.out (by rw [hdC_size, hdC_size]) HNX.out ?_; intro v9 hv; replace R5 : Hid (Rowz v9 g5 (hdC hdZ) 27) := Lib.hid (hv.out ▸ R5.out.row); replace R6 : Hid (Rowz v9 g6 #[.string d.b, .int .i64 d.e] 35) := Lib.hid (hv.out ▸ R6.out.rowOther (by have := hN5.out; omega)); replace R3 : Hid (Rowz v9 g3 (hdC hdZ) 27) := Lib.hid (hv.out ▸ R3.out.rowOther (by have := hL3.out; omega)); replace K : Hid (Kept w v9) := Lib.hid (hv.out ▸ K.out.setRow hW5.out _); clear hv))
    clear hL3 hN5 hW5
    refine (curRead_any a0 _).mono ?_
    rintro e u1 ⟨rfl, C1, k1⟩
    obtain ⟨g8, hg8⟩ : ∃ g, g = v9.heap.size := ⟨_, rfl⟩
    have hL3 : Hid (g3 < g8) := Lib.hid (by rw [hg8]; exact R3.out.lt)
    have hL5 : Hid (g5 < g8) := Lib.hid (by rw [hg8]; exact R5.out.lt)
    have hL6 : Hid (g6 < g8) := Lib.hid (by rw [hg8]; exact R6.out.lt)
    have hW8 : Hid (w.heap.size ≤ g8) := Lib.hid (by rw [hg8]; exact K.out.size)
    rw [← hg8] at C1 ⊢
    clear hg8
    replace k1 := Grown.kept k1
    replace K := Lib.hid (K.out.trans k1)
    replace R3 := Lib.hid (R3.out.kept k1)
    replace R5 := Lib.hid (R5.out.kept k1)
    replace R6 := Lib.hid (R6.out.kept k1)
    clear k1
    have HP1 := Lib.hid (HP.out g8 u1 C1)
    clear C1 HP
    go_wp2_with fail
    refine HP1.out.mono ?_
    rintro e u2 ⟨rfl, C2, o2⟩
    have R8 : Hid (Rowz u2 g8 #[.string d.b, .int .i64 d.e] 59) := Lib.hid C2
    replace K := Lib.hid (o2.kept w K.out hW8.out)
    replace R3 := Lib.hid (R3.out.onlyC o2 (by have := hL3.out; omega))
    replace R5 := Lib.hid (R5.out.onlyC o2 (by have := hL5.out; omega))
    replace R6 := Lib.hid (R6.out.onlyC o2 (by have := hL6.out; omega))
    clear o2 C2 HP1 hL3 hL5 hL6 hW8
    go_wp2_with (first
      | (refine wpList_exec 9 rfl (by rfl) _ _ (execAllocHd _ rfl) ?_)
      | (refine wpList_store_made rfl 27 _ _ rfl _ _ (hdC G) rfl rfl 27 _ rfl HIG.out (by rw [hdC_size, hdC_size]) HNG.out ?_; intro u3 R9 k3))
    obtain ⟨g9, hg9⟩ : ∃ g, g = u2.heap.size := ⟨_, rfl⟩
    rw [← hg9] at R9 ⊢
    clear hg9
    replace K := Lib.hid (K.out.trans k3.out)
    replace R3 := Lib.hid (R3.out.kept k3.out)
    replace R5 := Lib.hid (R5.out.kept k3.out)
    replace R6 := Lib.hid (R6.out.kept k3.out)
    replace R8 := Lib.hid (R8.out.kept k3.out)
    clear k3
    refine (HG.out _).mono ?_
    rintro e u4 ⟨rfl, k4⟩
    replace K := Lib.hid (K.out.trans k4)
    replace R3 := Lib.hid (R3.out.kept k4)
    replace R5 := Lib.hid (R5.out.kept k4)
    replace R6 := Lib.hid (R6.out.kept k4)
    replace R8 := Lib.hid (R8.out.kept k4)
    replace R9 := Lib.hid (R9.out.kept k4)
    clear k4 HG
    go_wp2_with (first
      | (refine wpList_exec 10 rfl (by rfl) _ _ (execAllocHd _ rfl) ?_)
      | (refine park_none rfl ?_))
    change Parked (wpList _ _ _ _ _ ((u4.alloc (.cells (hdC hdZ) 27)).alloc (.cells #[.string noB, .int .i64 0] 35)))
    obtain ⟨g10, hg10⟩ : ∃ g, g = u4.heap.size := ⟨_, rfl⟩
    have hW10 : Hid (w.heap.size ≤ g10) := Lib.hid (by rw [hg10]; exact K.out.size)
    have R10 : Hid (Rowz ((u4.alloc (.cells (hdC hdZ) 27)).alloc (.cells #[.string noB, .int .i64 0] 35)) g10 (hdC hdZ) 27) := Lib.hid (by rw [hg10]; exact Rowz.alloc (Rowz.new u4 (hdC hdZ) 27) _)
    obtain ⟨g11, hg11⟩ : ∃ g, g = u4.heap.size + 1 := ⟨_, rfl⟩
    have hN10 : Hid (g10 < g11) := Lib.hid (by omega)
    have R11 : Hid (Rowz ((u4.alloc (.cells (hdC hdZ) 27)).alloc (.cells #[.string noB, .int .i64 0] 35)) g11 #[.string noB, .int .i64 0] 35) := Lib.hid (by rw [hg11]; exact Rowz.newEq1 u4 _ _ _ _ rfl)
    have hL3 : Hid (g3 < g10) := Lib.hid (by rw [hg10]; exact R3.out.lt)
    have hL5 : Hid (g5 < g10) := Lib.hid (by rw [hg10]; exact R5.out.lt)
    have hL6 : Hid (g6 < g10) := Lib.hid (by rw [hg10]; exact R6.out.lt)
    have hL8 : Hid (g8 < g10) := Lib.hid (by rw [hg10]; exact R8.out.lt)
    have hL9 : Hid (g9 < g10) := Lib.hid (by rw [hg10]; exact R9.out.lt)
    have Kk := Lib.hid (((Kept.refl u4).alloc (.cells (hdC hdZ) 27)).alloc (.cells #[.string noB, .int .i64 0] 35))
    replace R3 := Lib.hid (R3.out.kept Kk.out)
    replace R5 := Lib.hid (R5.out.kept Kk.out)
    replace R6 := Lib.hid (R6.out.kept Kk.out)
    replace R8 := Lib.hid (R8.out.kept Kk.out)
    replace R9 := Lib.hid (R9.out.kept Kk.out)
    replace K := Lib.hid (K.out.trans Kk.out)
    clear Kk
    rw [← hg11, ← hg10]
    generalize (u4.alloc (.cells (hdC hdZ) 27)).alloc (.cells #[.string noB, .int .i64 0] 35) = u5 at *
    clear hg10 hg11
    refine unpark ?_
    refine wpList_store_rowN rfl 27 _ _ rfl g10 (hdC G) rfl rfl 27 (hdC hdZ) R10.out HIG.out (by rw [hdC_size, hdC_size]) HNG.out ?_
    intro u6 hv
    replace R10 : Hid (Rowz u6 g10 (hdC G) 27) := Lib.hid (hv.out ▸ R10.out.row)
    replace R11 : Hid (Rowz u6 g11 _ _) := Lib.hid (hv.out ▸ R11.out.rowOther (by have := hN10.out; omega))
    replace R3 : Hid (Rowz u6 g3 (hdC hdZ) 27) := Lib.hid (hv.out ▸ Rowz.rowOther R3.out (by have := hL3.out; omega))
    replace R5 : Hid (Rowz u6 g5 (hdC hdZ) 27) := Lib.hid (hv.out ▸ Rowz.rowOther R5.out (by have := hL5.out; omega))
    replace R6 : Hid (Rowz u6 g6 #[.string d.b, .int .i64 d.e] 35) := Lib.hid (hv.out ▸ Rowz.rowOther R6.out (by have := hL6.out; omega))
    replace R8 : Hid (Rowz u6 g8 #[.string d.b, .int .i64 d.e] 59) := Lib.hid (hv.out ▸ Rowz.rowOther R8.out (by have := hL8.out; omega))
    replace R9 : Hid (Rowz u6 g9 (hdC G) 27) := Lib.hid (hv.out ▸ Rowz.rowOther R9.out (by have := hL9.out; omega))
    replace K : Hid (Kept w u6) := Lib.hid (hv.out ▸ K.out.setRow hW10.out _)
    clear hv
    refine wpList_store_rowN rfl 35 _ _ rfl g11 #[.string d.b, .int .i64 d.e] rfl rfl 35 #[.string noB, .int .i64 0] R11.out (infoC _ _) rfl (by simp [Value.oneCell']) ?_
    intro u7 hv
    replace R10 : Hid (Rowz u7 g10 _ _) := Lib.hid (hv.out ▸ R10.out.rowOther (by have := hN10.out; omega))
    replace R11 : Hid (Rowz u7 g11 #[.string d.b, .int .i64 d.e] 35) := Lib.hid (hv.out ▸ R11.out.row)
    replace R3 : Hid (Rowz u7 g3 (hdC hdZ) 27) := Lib.hid (hv.out ▸ Rowz.rowOther R3.out (by have := hL3.out; have := hN10.out; omega))
    replace R5 : Hid (Rowz u7 g5 (hdC hdZ) 27) := Lib.hid (hv.out ▸ Rowz.rowOther R5.out (by have := hL5.out; have := hN10.out; omega))
    replace R6 : Hid (Rowz u7 g6 #[.string d.b, .int .i64 d.e] 35) := Lib.hid (hv.out ▸ Rowz.rowOther R6.out (by have := hL6.out; have := hN10.out; omega))
    replace R8 : Hid (Rowz u7 g8 #[.string d.b, .int .i64 d.e] 59) := Lib.hid (hv.out ▸ Rowz.rowOther R8.out (by have := hL8.out; have := hN10.out; omega))
    replace R9 : Hid (Rowz u7 g9 (hdC G) 27) := Lib.hid (hv.out ▸ Rowz.rowOther R9.out (by have := hL9.out; have := hN10.out; omega))
    replace K : Hid (Kept w u7) := Lib.hid (hv.out ▸ K.out.setRow (by have := hN10.out; have := hW10.out; omega) _)
    clear hv
    go_wp2_with fail
    clear hW10 hN10 hL3 hL5 hL6 hL8 hL9
    refine wp_region_table [(38, .is (.agg (hdC hdZ))), (39, .is (.agg (hdC hdZ))), (40, .is (.bool true)), (41, .is (.bool true)), (42, .is (.int .i64 E)), (43, .is (.int .i64 E)), (44, .is (.bool true)), (45, .is (.bool true)), (46, .is (.bool true)), (47, .is (.agg (hdC G))), (48, .is (.agg (hdC G))), (49, .is (.bool true)), (50, .is (.bool true)), (51, .is (.bool true)), (52, .is (.pointer (some ⟨g8, 0, none⟩))), (53, .is (.int .i64 (d.b.size : Int))), (54, .is (.pointer (some ⟨g6, 0, none⟩))), (55, .is (.string d.b)), (56, .is (.int .i64 (d.b.size : Int))), (57, .is (.bool true)), (58, .is (.bool true)), (59, .is (.bool true)), (60, .is (.pointer (some ⟨g8, 0, none⟩))), (61, .is (.int .i64 d.e)), (62, .is (.pointer (some ⟨g6, 1, none⟩))), (63, .is (.int .i64 d.e)), (64, .is (.bool true)), (65, .is (.bool true)), (66, .is (.bool true)), (67, .is (.bool true)), (68, .is (.bool true)), (2, .is (.bool true))] (by kernel_rfl) (by kernel_rfl) ?_ ?_
    · refine ⟨fun t w1 hf hk hp => ?_, ?_⟩
      · have h3 : slot t 3 = .pointer (some ⟨g3, 0, none⟩) := hf 3 (by kernel_rfl)
        clear hf hp
        refine stepAt_plain rfl ?_
        exact stepOK_pure (.agg (hdC hdZ)) (loadHd rfl h3 (R3.out.kept hk)) rfl
      refine ⟨fun t w1 hf hk hp => ?_, ?_⟩
      · have h5 : slot t 5 = .pointer (some ⟨g5, 0, none⟩) := hf 5 (by kernel_rfl)
        clear hf hp
        refine stepAt_plain rfl ?_
        exact stepOK_pure (.agg (hdC hdZ)) (loadHd rfl h5 (R5.out.kept hk)) rfl
      refine ⟨fun t w1 hf hk hp => ?_, ?_⟩
      · have h38 : slot t 38 = .agg (hdC hdZ) := hp 38 (by kernel_rfl)
        have h39 : slot t 39 = .agg (hdC hdZ) := hp 39 (by kernel_rfl)
        clear hf hp
        refine stepAt_plain rfl ?_
        exact stepOK_pure (.bool true) (execEqHd_self hdZ hX.out w1 rfl h38 h39) rfl
      refine ⟨fun t w1 hf hk hp => ?_, ?_⟩
      · have h40 : slot t 40 = .bool true := hp 40 (by kernel_rfl)
        clear hf hp
        refine stepAt_plain rfl ?_
        exact stepOK_move _ (.inl rfl) h40
      refine ⟨fun t w1 hf hk hp => ?_, ?_⟩
      · have h4 : slot t 4 = .int .i64 E := hf 4 (by kernel_rfl)
        have h41 : slot t 41 = .bool true := hp 41 (by kernel_rfl)
        clear hf hp
        refine stepAt_on 41 true (by kernel_rfl) h41 ?_
        exact stepOK_move _ (.inl rfl) h4
      refine ⟨fun t w1 hf hk hp => ?_, ?_⟩
      · have h7 : slot t 7 = .int .i64 E := hf 7 (by kernel_rfl)
        have h41 : slot t 41 = .bool true := hp 41 (by kernel_rfl)
        clear hf hp
        refine stepAt_on 41 true (by kernel_rfl) h41 ?_
        exact stepOK_move _ (.inl rfl) h7
      refine ⟨fun t w1 hf hk hp => ?_, ?_⟩
      · have h42 : slot t 42 = .int .i64 E := hp 42 (by kernel_rfl)
        have h43 : slot t 43 = .int .i64 E := hp 43 (by kernel_rfl)
        have h41 : slot t 41 = .bool true := hp 41 (by kernel_rfl)
        clear hf hp
        refine stepAt_on 41 true (by kernel_rfl) h41 ?_
        refine stepOK_pure (.bool true) ?_ rfl
        simp only [execOp, evS, h42, h43]
        go_simp
      refine ⟨fun t w1 hf hk hp => ?_, ?_⟩
      · have h41 : slot t 41 = .bool true := hp 41 (by kernel_rfl)
        have h44 : slot t 44 = .bool true := hp 44 (by kernel_rfl)
        clear hf hp
        refine stepAt_plain rfl ?_
        refine stepOK_pure (.bool true) ?_ rfl
        simp only [execOp, evS, h41, h44]
        go_simp
      refine ⟨fun t w1 hf hk hp => ?_, ?_⟩
      · have h45 : slot t 45 = .bool true := hp 45 (by kernel_rfl)
        clear hf hp
        refine stepAt_plain rfl ?_
        exact stepOK_move _ (.inl rfl) h45
      refine ⟨fun t w1 hf hk hp => ?_, ?_⟩
      · have h9 : slot t 9 = .pointer (some ⟨g9, 0, none⟩) := hf 9 (by kernel_rfl)
        have h46 : slot t 46 = .bool true := hp 46 (by kernel_rfl)
        clear hf hp
        refine stepAt_on 46 true (by kernel_rfl) h46 ?_
        exact stepOK_pure (.agg (hdC G)) (loadHd rfl h9 (R9.out.kept hk)) rfl
      refine ⟨fun t w1 hf hk hp => ?_, ?_⟩
      · have h10 : slot t 10 = .pointer (some ⟨g10, 0, none⟩) := hf 10 (by kernel_rfl)
        have h46 : slot t 46 = .bool true := hp 46 (by kernel_rfl)
        clear hf hp
        refine stepAt_on 46 true (by kernel_rfl) h46 ?_
        exact stepOK_pure (.agg (hdC G)) (loadHd rfl h10 (R10.out.kept hk)) rfl
      refine ⟨fun t w1 hf hk hp => ?_, ?_⟩
      · have h47 : slot t 47 = .agg (hdC G) := hp 47 (by kernel_rfl)
        have h48 : slot t 48 = .agg (hdC G) := hp 48 (by kernel_rfl)
        have h46 : slot t 46 = .bool true := hp 46 (by kernel_rfl)
        clear hf hp
        refine stepAt_on 46 true (by kernel_rfl) h46 ?_
        exact stepOK_pure (.bool true) (execEqHd_self G HY.out w1 rfl h47 h48) rfl
      refine ⟨fun t w1 hf hk hp => ?_, ?_⟩
      · have h46 : slot t 46 = .bool true := hp 46 (by kernel_rfl)
        have h49 : slot t 49 = .bool true := hp 49 (by kernel_rfl)
        clear hf hp
        refine stepAt_plain rfl ?_
        refine stepOK_pure (.bool true) ?_ rfl
        simp only [execOp, evS, h46, h49]
        go_simp
      refine ⟨fun t w1 hf hk hp => ?_, ?_⟩
      · have h50 : slot t 50 = .bool true := hp 50 (by kernel_rfl)
        clear hf hp
        refine stepAt_plain rfl ?_
        exact stepOK_move _ (.inl rfl) h50
      refine ⟨fun t w1 hf hk hp => ?_, ?_⟩
      · have h8 : slot t 8 = .pointer (some ⟨g8, 0, none⟩) := hf 8 (by kernel_rfl)
        have h51 : slot t 51 = .bool true := hp 51 (by kernel_rfl)
        clear hf hp
        refine stepAt_on 51 true (by kernel_rfl) h51 ?_
        exact stepOK_move _ (.inl rfl) h8
      refine ⟨fun t w1 hf hk hp => ?_, ?_⟩
      · have h52 : slot t 52 = .pointer (some ⟨g8, 0, none⟩) := hp 52 (by kernel_rfl)
        have h51 : slot t 51 = .bool true := hp 51 (by kernel_rfl)
        clear hf hp
        refine stepAt_on 51 true (by kernel_rfl) h51 ?_
        refine stepOK_call #[.pointer (some ⟨g8, 0, none⟩)] rfl (by simp only [List.map_toArray, List.map_cons, List.map_nil, evS, h52]) (by go_simp) ((curLeft_any g8 d w1 (R8.out.kept hk)).mono fun e w' ⟨he, hk'⟩ => ⟨_, he, Kept.same hk', rfl⟩)
      refine ⟨fun t w1 hf hk hp => ?_, ?_⟩
      · have h6 : slot t 6 = .pointer (some ⟨g6, 0, none⟩) := hf 6 (by kernel_rfl)
        have h51 : slot t 51 = .bool true := hp 51 (by kernel_rfl)
        clear hf hp
        refine stepAt_on 51 true (by kernel_rfl) h51 ?_
        exact stepOK_pure (.pointer (some ⟨g6, 0, none⟩)) (execFieldC g6 0 (by omega) w1 rfl h6) rfl
      refine ⟨fun t w1 hf hk hp => ?_, ?_⟩
      · have h54 : slot t 54 = .pointer (some ⟨g6, 0, none⟩) := hp 54 (by kernel_rfl)
        have h51 : slot t 51 = .bool true := hp 51 (by kernel_rfl)
        clear hf hp
        refine stepAt_on 51 true (by kernel_rfl) h51 ?_
        have hq0 := run_loadS17 ((R6.out.kept hk).cell 0)
        exact stepOK_sem (.string d.b) (by simp only [execOp, evS, h54]) hq0 rfl
      refine ⟨fun t w1 hf hk hp => ?_, ?_⟩
      · have h55 : slot t 55 = .string d.b := hp 55 (by kernel_rfl)
        have h51 : slot t 51 = .bool true := hp 51 (by kernel_rfl)
        clear hf hp
        refine stepAt_on 51 true (by kernel_rfl) h51 ?_
        exact stepOK_pure (.int .i64 (d.b.size : Int)) (execLenS17 w1 rfl rfl h55) rfl
      refine ⟨fun t w1 hf hk hp => ?_, ?_⟩
      · have h53 : slot t 53 = .int .i64 (d.b.size : Int) := hp 53 (by kernel_rfl)
        have h56 : slot t 56 = .int .i64 (d.b.size : Int) := hp 56 (by kernel_rfl)
        have h51 : slot t 51 = .bool true := hp 51 (by kernel_rfl)
        clear hf hp
        refine stepAt_on 51 true (by kernel_rfl) h51 ?_
        refine stepOK_pure (.bool true) ?_ rfl
        simp only [execOp, evS, h53, h56]
        go_simp
      refine ⟨fun t w1 hf hk hp => ?_, ?_⟩
      · have h51 : slot t 51 = .bool true := hp 51 (by kernel_rfl)
        have h57 : slot t 57 = .bool true := hp 57 (by kernel_rfl)
        clear hf hp
        refine stepAt_plain rfl ?_
        refine stepOK_pure (.bool true) ?_ rfl
        simp only [execOp, evS, h51, h57]
        go_simp
      refine ⟨fun t w1 hf hk hp => ?_, ?_⟩
      · have h58 : slot t 58 = .bool true := hp 58 (by kernel_rfl)
        clear hf hp
        refine stepAt_plain rfl ?_
        exact stepOK_move _ (.inl rfl) h58
      refine ⟨fun t w1 hf hk hp => ?_, ?_⟩
      · have h8 : slot t 8 = .pointer (some ⟨g8, 0, none⟩) := hf 8 (by kernel_rfl)
        have h59 : slot t 59 = .bool true := hp 59 (by kernel_rfl)
        clear hf hp
        refine stepAt_on 59 true (by kernel_rfl) h59 ?_
        exact stepOK_move _ (.inl rfl) h8
      refine ⟨fun t w1 hf hk hp => ?_, ?_⟩
      · have h60 : slot t 60 = .pointer (some ⟨g8, 0, none⟩) := hp 60 (by kernel_rfl)
        have h59 : slot t 59 = .bool true := hp 59 (by kernel_rfl)
        clear hf hp
        refine stepAt_on 59 true (by kernel_rfl) h59 ?_
        refine stepOK_call #[.pointer (some ⟨g8, 0, none⟩)] rfl (by simp only [List.map_toArray, List.map_cons, List.map_nil, evS, h60]) (by go_simp) ((curErr_any g8 d w1 (R8.out.kept hk)).mono fun e w' ⟨he, hk'⟩ => ⟨_, he, Kept.same hk', rfl⟩)
      refine ⟨fun t w1 hf hk hp => ?_, ?_⟩
      · have h6 : slot t 6 = .pointer (some ⟨g6, 0, none⟩) := hf 6 (by kernel_rfl)
        have h59 : slot t 59 = .bool true := hp 59 (by kernel_rfl)
        clear hf hp
        refine stepAt_on 59 true (by kernel_rfl) h59 ?_
        exact stepOK_pure (.pointer (some ⟨g6, 1, none⟩)) (execFieldC g6 1 (by omega) w1 rfl h6) rfl
      refine ⟨fun t w1 hf hk hp => ?_, ?_⟩
      · have h62 : slot t 62 = .pointer (some ⟨g6, 1, none⟩) := hp 62 (by kernel_rfl)
        have h59 : slot t 59 = .bool true := hp 59 (by kernel_rfl)
        clear hf hp
        refine stepAt_on 59 true (by kernel_rfl) h59 ?_
        have hq0 := run_loadE17 ((R6.out.kept hk).cell 1)
        exact stepOK_sem (.int .i64 d.e) (by simp only [execOp, evS, h62]) hq0 rfl
      refine ⟨fun t w1 hf hk hp => ?_, ?_⟩
      · have h61 : slot t 61 = .int .i64 d.e := hp 61 (by kernel_rfl)
        have h63 : slot t 63 = .int .i64 d.e := hp 63 (by kernel_rfl)
        have h59 : slot t 59 = .bool true := hp 59 (by kernel_rfl)
        clear hf hp
        refine stepAt_on 59 true (by kernel_rfl) h59 ?_
        refine stepOK_pure (.bool true) ?_ rfl
        simp only [execOp, evS, h61, h63]
        go_simp
      refine ⟨fun t w1 hf hk hp => ?_, ?_⟩
      · have h59 : slot t 59 = .bool true := hp 59 (by kernel_rfl)
        have h64 : slot t 64 = .bool true := hp 64 (by kernel_rfl)
        clear hf hp
        refine stepAt_plain rfl ?_
        refine stepOK_pure (.bool true) ?_ rfl
        simp only [execOp, evS, h59, h64]
        go_simp
      refine ⟨fun t w1 hf hk hp => ?_, ?_⟩
      · have h65 : slot t 65 = .bool true := hp 65 (by kernel_rfl)
        clear hf hp
        refine stepAt_plain rfl ?_
        exact stepOK_move _ (.inl rfl) h65
      refine ⟨fun t w1 hf hk hp => ?_, ?_⟩
      · have h66 : slot t 66 = .bool true := hp 66 (by kernel_rfl)
        clear hf hp
        refine stepAt_on 66 true (by kernel_rfl) h66 ?_
        refine stepOK_call #[] rfl (by simp only [List.map_toArray, List.map_nil]) (by go_simp) ((awake17_any w1).mono fun e w' ⟨he, hk'⟩ => ⟨_, he, hk', rfl⟩)
      refine ⟨fun t w1 hf hk hp => ?_, ?_⟩
      · have h66 : slot t 66 = .bool true := hp 66 (by kernel_rfl)
        have h67 : slot t 67 = .bool true := hp 67 (by kernel_rfl)
        clear hf hp
        refine stepAt_plain rfl ?_
        refine stepOK_pure (.bool true) ?_ rfl
        simp only [execOp, evS, h66, h67]
        go_simp
      refine ⟨fun t w1 hf hk hp => ?_, ?_⟩
      · have h68 : slot t 68 = .bool true := hp 68 (by kernel_rfl)
        clear hf hp
        refine stepAt_plain rfl ?_
        exact stepOK_move _ (.inr rfl) h68
      exact trivial
    · intro t w1 hsz hf hk hfacts
      have h2 : slot t 2 = .bool true := hfacts 31 _ rfl 2 rfl
      have h0 : slot t 0 = .string a0 := hf 0 (by kernel_rfl)
      have h3 : slot t 3 = .pointer (some ⟨g3, 0, none⟩) := hf 3 (by kernel_rfl)
      have h4 : slot t 4 = .int .i64 E := hf 4 (by kernel_rfl)
      have h5 : slot t 5 = .pointer (some ⟨g5, 0, none⟩) := hf 5 (by kernel_rfl)
      have h6 : slot t 6 = .pointer (some ⟨g6, 0, none⟩) := hf 6 (by kernel_rfl)
      have h7 : slot t 7 = .int .i64 E := hf 7 (by kernel_rfl)
      have h8 : slot t 8 = .pointer (some ⟨g8, 0, none⟩) := hf 8 (by kernel_rfl)
      have h9 : slot t 9 = .pointer (some ⟨g9, 0, none⟩) := hf 9 (by kernel_rfl)
      have h10 : slot t 10 = .pointer (some ⟨g10, 0, none⟩) := hf 10 (by kernel_rfl)
      have harr : t = #[slot t 0, slot t 1, slot t 2, slot t 3, slot t 4, slot t 5, slot t 6, slot t 7, slot t 8, slot t 9, slot t 10, slot t 11, slot t 12, slot t 13, slot t 14, slot t 15, slot t 16, slot t 17, slot t 18, slot t 19, slot t 20, slot t 21, slot t 22, slot t 23, slot t 24, slot t 25, slot t 26, slot t 27, slot t 28, slot t 29, slot t 30, slot t 31, slot t 32, slot t 33, slot t 34, slot t 35, slot t 36, slot t 37, slot t 38, slot t 39, slot t 40, slot t 41, slot t 42, slot t 43, slot t 44, slot t 45, slot t 46, slot t 47, slot t 48, slot t 49, slot t 50, slot t 51, slot t 52, slot t 53, slot t 54, slot t 55, slot t 56, slot t 57, slot t 58, slot t 59, slot t 60, slot t 61, slot t 62, slot t 63, slot t 64, slot t 65, slot t 66, slot t 67, slot t 68] := arr_eq t 69 hsz
      rw [harr, h2, h0, h3, h4, h5, h6, h7, h8, h9, h10]
      clear harr hfacts hf h2 h0 h3 h4 h5 h6 h7 h8 h9 h10
      generalize slot t 1 = x1; generalize slot t 11 = x11; generalize slot t 12 = x12; generalize slot t 13 = x13; generalize slot t 14 = x14; generalize slot t 15 = x15; generalize slot t 16 = x16; generalize slot t 17 = x17; generalize slot t 18 = x18; generalize slot t 19 = x19; generalize slot t 20 = x20; generalize slot t 21 = x21
      generalize slot t 22 = x22; generalize slot t 23 = x23; generalize slot t 24 = x24; generalize slot t 25 = x25; generalize slot t 26 = x26; generalize slot t 27 = x27; generalize slot t 28 = x28; generalize slot t 29 = x29; generalize slot t 30 = x30; generalize slot t 31 = x31; generalize slot t 32 = x32; generalize slot t 33 = x33
      generalize slot t 34 = x34; generalize slot t 35 = x35; generalize slot t 36 = x36; generalize slot t 37 = x37; generalize slot t 38 = x38; generalize slot t 39 = x39; generalize slot t 40 = x40; generalize slot t 41 = x41; generalize slot t 42 = x42; generalize slot t 43 = x43; generalize slot t 44 = x44; generalize slot t 45 = x45
      generalize slot t 46 = x46; generalize slot t 47 = x47; generalize slot t 48 = x48; generalize slot t 49 = x49; generalize slot t 50 = x50; generalize slot t 51 = x51; generalize slot t 52 = x52; generalize slot t 53 = x53; generalize slot t 54 = x54; generalize slot t 55 = x55; generalize slot t 56 = x56; generalize slot t 57 = x57
      generalize slot t 58 = x58; generalize slot t 59 = x59; generalize slot t 60 = x60; generalize slot t 61 = x61; generalize slot t 62 = x62; generalize slot t 63 = x63; generalize slot t 64 = x64; generalize slot t 65 = x65; generalize slot t 66 = x66; generalize slot t 67 = x67; generalize slot t 68 = x68
      clear hsz t
      have K2 := Lib.hid (K.out.trans hk)
      clear hk
      go_wp2_with fail
      go_ret
      exact ⟨rfl, K2.out⟩

set_option maxRecDepth 100000 in
set_option maxHeartbeats 1000000 in
theorem lifted (os : Os) (started : os.Started) (H : Type) (enc : TypeId × Value → H) :
    ReturnsInHanded {} Try.checked os 4 .any (Rows.headTakesSpec.pre6 enc Try.prog Try.f4 Rows.headTakesRow.domain false) (Rows.headTakesSpec.post enc Try.prog Try.f4 false true false false) := by
  refine returnsInHanded_of_change_sized (C := Try.checked) own started (by kernel_rfl) Try.func4
    (ChangeSpec.witness6 (enc := enc) (C := Try.checked) false ⟨#[], #[.string ByteArray.empty], []⟩ 8 (by kernel_rfl) (by kernel_rfl) (by kernel_rfl) (by kernel_rfl)) ?_
  intro W base args ds gs before hval0 hW hcnd hsz0 _
  have hval : ∀ (j : Nat) t v, Try.f4.params[j]? = some t → args[j]? = some v → Value.okWide Try.prog W .any base t v := hval0
  have hsz : (DataW.weightsEach Try.prog (Try.f4.params.toList ++ Rows.headTakesSpec.plain.varTypes Try.prog) (ds ++ gs)).all (· ≤ reachBytes) = true := hsz0
  have hW' := hW
  obtain ⟨p, q, hA0, hV, rfl, hfz, hnd⟩ := hW
  have hA : DataW.TrodAll enc Try.prog W 0 (fun _ => true) true Try.f4.params.toList args.toList ds p := hA0
  have hAk := hA
  rw [Try.params4] at hA hval hsz
  obtain ⟨v0, vs0, d0, ds0, p0_, q0_, hargs, rfl, rfl, h0, r0_⟩ := trodAll_cons hA
  obtain ⟨rfl, rfl, rfl⟩ := trodAll_nil r0_
  obtain rfl : args = #[v0] := by cases args; simp_all
  obtain ⟨rfl, rfl⟩ := trodVars_none hV
  have hlt : ∀ x ∈ (p0_ ++ ([])), x.block < W.heap.size := fun x hx => by simpa using hW'.lt x (by simpa using hx)
  obtain ⟨a0, rfl, rfl, rfl, w0⟩ := open_string Try.underlying9 (hval 0 9 v0 rfl rfl) h0
  have r0 : a0.size ≤ 140737488351232 := by have := sized_string hsz (j := 0) (t := 9) rfl rfl; simpa [reachBytes] using this
  clear hA0 hval0
  refine (walk a0 w0 r0 W ).mono fun e W' ⟨he, hg⟩ => ?_
  subst he
  exact ⟨_, rfl, ⟨_, _, _, [], _, [], hW', trodAll_cons_mk (shut_bool Try.underlying4 _) trodAll_mk0, trodAll_stays laidOut hg (by kernel_rfl) hAk hlt (fun x hx => by simpa using hlt x hx), rfl, Kept.frame hg _, fun h => by cases h⟩⟩

theorem over : Rows.headTakesRow.holds Try.pinned (OpenSpec.ofChange Rows.headTakesSpec) :=
  OpenClaim.holds_of_wide 4 Try.f4 rfl rfl rfl rfl rfl rfl rfl ⟨rfl, rfl, rfl, rfl, rfl⟩ rfl rfl rfl rfl rfl (by kernel_rfl) Try.func4 (by kernel_rfl)
    (of_decide_eq_true (by kernel_rfl)) (by unfold Func.isWrapper; first | (rw [if_pos (by decide +kernel)]; kernel_rfl) | (rw [if_neg (by decide +kernel)]; exact ⟨rfl, rfl⟩))
    (fun os started H enc _ => lifted os started H enc)
end Go.Proofs.Ytdidgenenlefiaa.headTakes
namespace Go.Proofs.Ytdidgenenlefiaa
theorem headTakes_holds : Rows.HeadTakesSaid := headTakes.over
#print axioms headTakes_holds
end Go.Proofs.Ytdidgenenlefiaa
