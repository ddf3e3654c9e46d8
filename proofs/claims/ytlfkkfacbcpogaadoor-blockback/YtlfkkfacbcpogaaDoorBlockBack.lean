/-
  What is made is checked, if its transactions may be, and not with another height; chapter 23's example holds: 'BlockBack' returns true for every input.
  Conditions: those of the given card (sha's table of round constants as the program's text lays it).
-/
import Derived.Test.YtlfkkfacbcpogaaDoorRows
import Derived.Test.YtlfkkfacbcpogaaDoorBlkLaw
import Derived.WalkKit
import Derived.ProofKit
import Derived.OpenShut
import Derived.ShutString
import Derived.SizedLaws
import Derived.Test.YtlfkkfacbcpogaaDoorBas
import Derived.LaidMore
import Derived.SevenTiedAt
import Derived.Test.YtlfkkfacbcpogaaDoorCards
import Derived.Test.YtlfkkfacbcpogaaDoorTie
import Derived.Test.YtlfkkfacbcpogaaDoorShb
namespace Go.Proofs.YtlfkkfacbcpogaaDoor.blockBack
open Go.ChangeShapes Go.WideShapes Go.ChangeAt Go.RowKit
open Go.ChangeMaps (open_string shut_string)
set_option linter.unusedVariables false

theorem own : ownKnob Tryd.prog.godebug = none := by kernel_rfl
theorem laidOut : laidOutB Tryd.prog = true := by kernel_rfl

set_option maxRecDepth 100000 in
set_option maxHeartbeats 4000000 in
theorem walk (a0 b0 : Nat) (p0 : Option Addr) (n0 c0 : Nat) (F0 : Nat → List UInt8) (q0 : Option Addr) (m0 d0 : Nat) (S0 : Nat → ByteArray) (w0 : a0 < 4294967296 ∧ b0 < 18446744073709551616) (z0 : n0 ≤ c0 ∧ c0 ≤ maxLen) (y0 : m0 ≤ d0 ∧ d0 ≤ maxLen) (r0 : ∀ i, i < m0 → (S0 i).size ≤ 140737488351232) (a1 : Int) (w1 : (Lit.int .u32 a1).wf = true) (w : World) (e0 : HAt w p0 n0 F0) (f0 : SAt w q0 m0 S0) (hT : Tab w) :
    Calls Tryd.prog 5 #[.agg #[.int .u32 (a0 : Int), .slice p0 n0 c0, .slice q0 m0 d0, .int .u64 (b0 : Int)], .int .u32 a1] w fun e w' => e = .returned (.bool true) ∧ Kept w w' := by
  have HT := Lib.hid hT
  have HA : Hid (∀ w, Tab w → _) := Lib.hid fun w ht => awake23_any w ht
  obtain ⟨h, rfl, hh⟩ : ∃ h : Nat, a1 = (h : Int) ∧ h < 4294967296 := by
    have := bounds_u32 w1
    exact ⟨a1.toNat, by omega, by omega⟩
  have R2 := Lib.hid (Rowz.new w #[.int .u32 (a0 : Int), .slice p0 n0 c0, .slice q0 m0 d0, .int .u64 (b0 : Int)] 27)
  have K1 := Lib.hid ((Kept.refl w).alloc (.cells #[.int .u32 (a0 : Int), .slice p0 n0 c0, .slice q0 m0 d0, .int .u64 (b0 : Int)] 27))
  have HMw : Hid (∀ v, Kept w v → Calls Tryd.prog 6 #[.slice q0 m0 d0] v fun e w' => ∃ B : Bool, e = .returned (.bool B) ∧ v = w' ∧ (B = false → (m0 ≤ 60 ∨ (1024 < m0 ∧ m0 ≤ 1050)) ∧ ∀ i, i < m0 → (S0 i).size ≤ 6000)) := Lib.hid fun v k => much22_any q0 m0 d0 S0 v (f0.kept k) r0 (by have := y0; unfold maxLen at this; omega)
  have X1 := Lib.hid (show HSl n0 F0 (.slice p0 n0 c0) w from ⟨p0, c0, rfl, z0.1, z0.2, e0⟩)
  have X2 := Lib.hid (show SSl m0 S0 (.slice q0 m0 d0) w from ⟨q0, d0, rfl, y0.1, y0.2, f0⟩)
  have XS := Lib.hid f0
  have w0a := Lib.hid w0
  clear e0 f0 hT z0 y0 w0 r0 w1
  go_enter Tryd.func5, Tryd.ntmps5
  go_wp2_with fail
  generalize w.heap.size = g at R2 ⊢
  generalize w.alloc (.cells #[.int .u32 (a0 : Int), .slice p0 n0 c0, .slice q0 m0 d0, .int .u64 (b0 : Int)] 27) = v1 at R2 K1 ⊢
  have KK : Kept v1 v1.drew := Kept.refl v1
  refine wp_region_held_drew (S := fun w' => Kept v1 w') (by kernel_rfl) KK (fun _ => ?_)
  generalize v1.drew = u1 at KK ⊢
  refine takeW 0 12 (.pointer (some ⟨g, 0, none⟩)) rfl rfl (by kernel_rfl) (by kernel_rfl) (by kernel_rfl) (by rfl) (fun _ _ _ h => h) KK (fun w' hw' => execFieldOf g 0 (by omega) w' rfl rfl) ?_
  simp only [List.setIfInBounds_toArray, List.set_cons_zero, List.set_cons_succ]
  refine takeW 1 13 (.int .u32 (a0 : Int)) rfl rfl (by kernel_rfl) (by kernel_rfl) (by kernel_rfl) (by rfl) (fun _ _ _ h => h) KK (fun w' hw' => loadU32A rfl rfl ((R2.out.kept hw').cell 0)) ?_
  simp only [List.setIfInBounds_toArray, List.set_cons_zero, List.set_cons_succ]
  refine takeW 2 14 (.int .u32 (h : Int)) rfl rfl (by kernel_rfl) (by kernel_rfl) (by kernel_rfl) (by rfl) (fun _ _ _ h => h) KK (fun w' hw' => execMoveW w' (Or.inl rfl) rfl) ?_
  simp only [List.setIfInBounds_toArray, List.set_cons_zero, List.set_cons_succ]
  refine takeW 3 15 (.agg #[.int .u32 (a0 : Int), .int .u32 (h : Int)]) rfl rfl (by kernel_rfl) (by kernel_rfl) (by kernel_rfl) (by rfl) (fun _ _ _ h => h) KK (fun w' hw' => execBuildU2 (a0 : Int) (h : Int) w' rfl rfl rfl) ?_
  simp only [List.setIfInBounds_toArray, List.set_cons_zero, List.set_cons_succ]
  refine takeW 4 16 (.pointer (some ⟨g, 1, none⟩)) rfl rfl (by kernel_rfl) (by kernel_rfl) (by kernel_rfl) (by rfl) (fun _ _ _ h => h) KK (fun w' hw' => execFieldOf g 1 (by omega) w' rfl rfl) ?_
  simp only [List.setIfInBounds_toArray, List.set_cons_zero, List.set_cons_succ]
  refine takeW 5 17 (.slice p0 n0 c0) rfl rfl (by kernel_rfl) (by kernel_rfl) (by kernel_rfl) (by rfl) (fun _ _ _ h => h) KK (fun w' hw' => loadHashesA rfl rfl ((R2.out.kept hw').cell 1)) ?_
  simp only [List.setIfInBounds_toArray, List.set_cons_zero, List.set_cons_succ]
  refine takeW 6 18 (.pointer (some ⟨g, 2, none⟩)) rfl rfl (by kernel_rfl) (by kernel_rfl) (by kernel_rfl) (by rfl) (fun _ _ _ h => h) KK (fun w' hw' => execFieldOf g 2 (by omega) w' rfl rfl) ?_
  simp only [List.setIfInBounds_toArray, List.set_cons_zero, List.set_cons_succ]
  refine takeW 7 19 (.slice q0 m0 d0) rfl rfl (by kernel_rfl) (by kernel_rfl) (by kernel_rfl) (by rfl) (fun _ _ _ h => h) KK (fun w' hw' => loadStrsA rfl rfl ((R2.out.kept hw').cell 2)) ?_
  simp only [List.setIfInBounds_toArray, List.set_cons_zero, List.set_cons_succ]
  refine takeW 8 20 (.pointer (some ⟨g, 3, none⟩)) rfl rfl (by kernel_rfl) (by kernel_rfl) (by kernel_rfl) (by rfl) (fun _ _ _ h => h) KK (fun w' hw' => execFieldOf g 3 (by omega) w' rfl rfl) ?_
  simp only [List.setIfInBounds_toArray, List.set_cons_zero, List.set_cons_succ]
  refine takeW 9 21 (.int .u64 (b0 : Int)) rfl rfl (by kernel_rfl) (by kernel_rfl) (by kernel_rfl) (by rfl) (fun _ _ _ h => h) KK (fun w' hw' => loadU64A rfl rfl ((R2.out.kept hw').cell 3)) ?_
  simp only [List.setIfInBounds_toArray, List.set_cons_zero, List.set_cons_succ]
  refine wpAnyH_ready (rs := [10]) (by kernel_rfl) (by simp) (AllReadyH.cons rfl (allocH rfl rfl rfl (allocU2R rfl) KK ?_) AllReadyH.nil)
  simp only [List.setIfInBounds_toArray, List.set_cons_zero, List.set_cons_succ]
  have q5 := Rowz.new u1 #[.int .u32 0, .int .u32 0] 44
  have K2 := KK.alloc (.cells #[.int .u32 0, .int .u32 0] 44)
  obtain ⟨g5, hg5⟩ : ∃ g, g = u1.heap.size := ⟨_, rfl⟩
  have b5 : v1.heap.size ≤ g5 := by rw [hg5]; exact KK.size
  rw [← hg5] at q5 ⊢
  generalize u1.alloc (.cells #[.int .u32 0, .int .u32 0] 44) = u2 at q5 K2 ⊢
  clear hg5 KK
  refine wpAnyH_ready (rs := [11]) (by kernel_rfl) (by simp) (AllReadyH.cons rfl (storeH rfl rfl rfl 44 _ _ rfl g5 #[.int .u32 (a0 : Int), .int .u32 (h : Int)] #[.int .u32 0, .int .u32 0] 44 rfl rfl q5 (by kernel_rfl) rfl (by simp [Value.oneCell']) K2 b5 ?_) AllReadyH.nil)
  have p5 := q5.row (D := #[.int .u32 (a0 : Int), .int .u32 (h : Int)])
  have K3 := K2.setRow b5 #[.int .u32 (a0 : Int), .int .u32 (h : Int)]
  generalize u2.setRow g5 #[.int .u32 (a0 : Int), .int .u32 (h : Int)] = u3 at p5 K3 ⊢
  clear q5 K2 b5
  refine takeW 12 6 (.slice p0 n0 c0) rfl rfl (by kernel_rfl) (by kernel_rfl) (by kernel_rfl) (by rfl) (fun _ _ _ h => h) K3 (fun w' hw' => execMoveW w' (Or.inr rfl) rfl) ?_
  simp only [List.setIfInBounds_toArray, List.set_cons_zero, List.set_cons_succ]
  refine takeW 13 7 (.slice q0 m0 d0) rfl rfl (by kernel_rfl) (by kernel_rfl) (by kernel_rfl) (by rfl) (fun _ _ _ h => h) K3 (fun w' hw' => execMoveW w' (Or.inr rfl) rfl) ?_
  simp only [List.setIfInBounds_toArray, List.set_cons_zero, List.set_cons_succ]
  refine takeW 14 8 (.int .u64 (b0 : Int)) rfl rfl (by kernel_rfl) (by kernel_rfl) (by kernel_rfl) (by rfl) (fun _ _ _ h => h) K3 (fun w' hw' => execMoveW w' (Or.inr rfl) rfl) ?_
  simp only [List.setIfInBounds_toArray, List.set_cons_zero, List.set_cons_succ]
  refine wpAnyH_done (by kernel_rfl) ?_ _
  have R5 := Lib.hid p5
  replace K1 := Lib.hid (K1.out.trans K3)
  clear p5 K3 R2
  by_cases hn : 60 < n0
  · have hd1 : decide ((n0 : Int) > 60) = true := decide_eq_true (by omega)
    have hd1' : decide ((60 : Int) < (n0 : Int)) = true := decide_eq_true (by omega)
    clear hn X1 X2 HMw R5
    go_wp2_with fail
    refine (HA.out _ (HT.out.kept K1.out)).mono ?_
    rintro e v2 ⟨rfl, k2⟩
    replace K1 := Lib.hid (K1.out.trans k2)
    clear k2
    go_wp2_with fail
    go_ret
    exact ⟨rfl, K1.out⟩
  · have hd1 : decide ((n0 : Int) > 60) = false := decide_eq_false (by omega)
    have hd1' : decide ((60 : Int) < (n0 : Int)) = false := decide_eq_false (by omega)
    have hn60 : n0 ≤ 60 := by omega
    by_cases hm : 60 < m0
    · have hd2 : decide ((m0 : Int) > 60) = true := decide_eq_true (by omega)
      have hd2' : decide ((60 : Int) < (m0 : Int)) = true := decide_eq_true (by omega)
      clear hn hm X1 X2 HMw R5
      go_wp2_with fail
      refine (HA.out _ (HT.out.kept K1.out)).mono ?_
      rintro e v2 ⟨rfl, k2⟩
      replace K1 := Lib.hid (K1.out.trans k2)
      clear k2
      go_wp2_with fail
      go_ret
      exact ⟨rfl, K1.out⟩
    · have hd2 : decide ((m0 : Int) > 60) = false := decide_eq_false (by omega)
      have hd2' : decide ((60 : Int) < (m0 : Int)) = false := decide_eq_false (by omega)
      have hm60 : m0 ≤ 60 := by omega
      clear hn hm
      go_wp2_with fail
      refine (HMw.out _ K1.out).mono ?_
      rintro e _ ⟨B, rfl, rfl, hB⟩
      cases B
      · obtain ⟨_, hz6⟩ := hB rfl
        have hz : ∀ i, i < m0 → (S0 i).size ≤ 10000 := fun i hi => Nat.le_trans (hz6 i hi) (by omega)
        have hY := mkB_ok a0 n0 F0 m0 S0 b0 w0a.out.1 w0a.out.2
        have C1 : Hid (∀ w, HSl n0 F0 (.slice p0 n0 c0) w → SSl m0 S0 (.slice q0 m0 d0) w → Tab w → _) := Lib.hid fun w hv hu ht => blockMake_any a0 n0 F0 (.slice p0 n0 c0) m0 S0 (.slice q0 m0 d0) b0 w w0a.out.1 w0a.out.2 hv (by omega) hu (by omega) hz ht
        have hw0 := w0a.out.1
        have C2 : Hid (¬ a0 = h → ∀ u w, SSl m0 S0 u w → HSl n0 F0 (.slice p0 n0 c0) w → Tab w → Calls Tryd.prog 11 #[.agg (bkC (mkB a0 n0 F0 m0 S0 b0) u), .int .u32 (h : Int), .slice p0 n0 c0] w fun e w' => e = .returned (.int .i64 8) ∧ Kept w w') := Lib.hid fun hne u w hu hv ht => by
          have := blockCheck_any (mkB a0 n0 F0 m0 S0 b0) m0 S0 u h n0 F0 (.slice p0 n0 c0) w hY hu (by omega) hz hh hv (by omega) ht
          rwa [ckB_other _ _ _ _ _ _ _ hne] at this
        have C3 : Hid (∀ u w, SSl m0 S0 u w → HSl n0 F0 (.slice p0 n0 c0) w → Tab w → Calls Tryd.prog 11 #[.agg (bkC (mkB a0 n0 F0 m0 S0 b0) u), .int .u32 (a0 : Int), .slice p0 n0 c0] w fun e w' => e = .returned (.int .i64 (mayT S0 m0)) ∧ Kept w w') := Lib.hid fun u w hu hv ht => by
          have := blockCheck_any (mkB a0 n0 F0 m0 S0 b0) m0 S0 u a0 n0 F0 (.slice p0 n0 c0) w hY hu (by omega) hz hw0 hv (by omega) ht
          rwa [ckB_mk] at this
        have HE : Hid (mayT S0 m0 = bif bigT S0 m0 then 4 else 0) := Lib.hid (by rw [mayT_few hm60]; cases bigT S0 m0 <;> rfl)
        generalize mayT S0 m0 = E at C3 HE
        generalize mkB a0 n0 F0 m0 S0 b0 = Y at C1 C2 C3
        clear hB hz6 hz hY HMw w0a hw0 hh
        go_wp2_with (first
          | (refine wpList_exec 35 rfl (by rfl) _ _ (execIndexU2 g5 0 (by omega) _ rfl rfl rfl) ?_; try simp only [List.setIfInBounds_toArray, List.set_cons_succ, List.set_cons_zero])
          | (refine wpList_exec 36 rfl (by rfl) _ _ (loadU32A rfl rfl (R5.out.cell 0)) ?_; try simp only [List.setIfInBounds_toArray, List.set_cons_succ, List.set_cons_zero]))
        refine (C1.out _ (HSl.kept _ _ _ _ _ K1.out X1.out) (SSl.kept _ _ _ _ _ K1.out X2.out) (HT.out.kept K1.out)).mono ?_
        rintro e v2 ⟨p, c, rfl, hu, k2⟩
        have XU := Lib.hid hu
        replace K1 := Lib.hid (K1.out.trans k2)
        replace R5 := Lib.hid (R5.out.kept k2)
        clear hu k2 C1
        go_wp2_with (first
          | (refine wpList_exec 9 rfl (by rfl) _ _ (execAllocBk _ rfl) ?_; try simp only [List.setIfInBounds_toArray, List.set_cons_succ, List.set_cons_zero])
          | (refine wpList_store_made rfl 35 _ _ rfl _ _ (bkC Y (.slice p m0 c)) rfl rfl 35 _ rfl (info_blk _ _) (by rw [bkC_size, bkC_size]) (bkC_one _ _ _ _) ?_; intro v3 R9 k3)
          | (refine park_at 41 rfl ?_))
        obtain ⟨g9, hg9⟩ : ∃ g, g = v2.heap.size := ⟨_, rfl⟩
        rw [← hg9] at R9 ⊢
        clear hg9
        replace XU := Lib.hid (SSl.kept _ _ _ _ _ k3.out XU.out)
        replace R5 := Lib.hid (R5.out.kept k3.out)
        replace K1 := Lib.hid (K1.out.trans k3.out)
        clear k3
        refine unpark ?_
        by_cases hah : a0 = h
        · subst hah
          have hd3 : ((a0 : Int) != (a0 : Int)) = false := by simp
          clear C2
          go_wp2_with (first
            | (refine wpList_exec 41 rfl (by rfl) _ _ (execIndexU2 g5 0 (by omega) _ rfl rfl rfl) ?_; try simp only [List.setIfInBounds_toArray, List.set_cons_succ, List.set_cons_zero])
            | (refine wpList_exec 42 rfl (by rfl) _ _ (loadU32A rfl rfl (R5.out.cell 0)) ?_; try simp only [List.setIfInBounds_toArray, List.set_cons_succ, List.set_cons_zero])
            | (refine wpList_exec 43 rfl (by rfl) _ _ (execIndexU2 g5 1 (by omega) _ rfl rfl rfl) ?_; try simp only [List.setIfInBounds_toArray, List.set_cons_succ, List.set_cons_zero])
            | (refine wpList_exec 44 rfl (by rfl) _ _ (loadU32A rfl rfl (R5.out.cell 1)) ?_; try simp only [List.setIfInBounds_toArray, List.set_cons_succ, List.set_cons_zero]))
          go_loopw [10, 11] (fun x i wr => ∃ k : Nat, k ≤ m0 ∧ i = .int .i64 (k : Int) ∧ x = .int .i64 (bif bigT S0 k then 4 else 0) ∧ Hid (Kept v3 wr)) (fun _ i _ => m0 - (intOf i).toNat)
          case atStart => exact ⟨0, by omega, rfl, rfl, Lib.hid (Kept.refl _)⟩
          case round =>
            obtain ⟨k, hk, rfl, rfl, KW⟩ := hrel
            have R9w := Lib.hid (R9.out.kept KW.out)
            have R5w := Lib.hid (R5.out.kept KW.out)
            have KE := Lib.hid (K1.out.trans KW.out)
            by_cases hlt : k < m0
            · have hd : decide ((k : Int) < (m0 : Int)) = true := decide_eq_true (by omega)
              have hd' : decide (k < m0) = true := decide_eq_true hlt
              obtain ⟨q, rfl, _⟩ := XS.out.some (by omega)
              have HSw := Lib.hid (XS.out.kept KE.out)
              by_cases hs : 4096 < (S0 k).size
              · have HM : Hid (bigT S0 (k + 1) = true) := Lib.hid (bigT_more hs)
                obtain ⟨x, hx⟩ : ∃ x, x = S0 k := ⟨_, rfl⟩
                have hl : Hid (∀ {o : Oper} {t : Array Value} {y : Operand}, o.op = .load 9 y → evS t y = .pointer (some (q.add k)) → (execOp (evS t) o).run Tryd.prog wr = .ok (.value (.string x)) wr) := Lib.hid fun ho hy => by rw [hx]; exact load_sat k ho hy HSw.out hlt
                rw [← hx] at hs
                have hd2 : decide ((x.size : Int) > 4096) = true := decide_eq_true (by omega)
                have hd2' : decide ((4096 : Int) < (x.size : Int)) = true := decide_eq_true (by omega)
                clear hx
                generalize (bif bigT S0 k then (4 : Int) else 0) = z
                go_wp2_with (first
                  | (refine wpList_exec 62 rfl (by rfl) _ _ (execIndexS q m0 d0 k hlt _ rfl rfl rfl) ?_; try simp only [List.setIfInBounds_toArray, List.set_cons_succ, List.set_cons_zero])
                  | (refine wpList_exec 63 rfl (by rfl) _ _ (hl.out rfl rfl) ?_; try simp only [List.setIfInBounds_toArray, List.set_cons_succ, List.set_cons_zero]))
                go_roundw
                case rel => exact ⟨k + 1, by omega, by go_num, by rw [HM.out]; rfl, KW⟩
                case measure => simp [intOf]; omega
              · have HM : Hid (bigT S0 (k + 1) = bigT S0 k) := Lib.hid (bigT_same hs)
                obtain ⟨x, hx⟩ : ∃ x, x = S0 k := ⟨_, rfl⟩
                have hl : Hid (∀ {o : Oper} {t : Array Value} {y : Operand}, o.op = .load 9 y → evS t y = .pointer (some (q.add k)) → (execOp (evS t) o).run Tryd.prog wr = .ok (.value (.string x)) wr) := Lib.hid fun ho hy => by rw [hx]; exact load_sat k ho hy HSw.out hlt
                rw [← hx] at hs
                have hd2 : decide ((x.size : Int) > 4096) = false := decide_eq_false (by omega)
                have hd2' : decide ((4096 : Int) < (x.size : Int)) = false := decide_eq_false (by omega)
                clear hx
                obtain ⟨z, hz⟩ : ∃ z, z = (bif bigT S0 k then (4 : Int) else 0) := ⟨_, rfl⟩
                have HZ := Lib.hid hz
                rw [← hz]
                clear hz
                go_wp2_with (first
                  | (refine wpList_exec 62 rfl (by rfl) _ _ (execIndexS q m0 d0 k hlt _ rfl rfl rfl) ?_; try simp only [List.setIfInBounds_toArray, List.set_cons_succ, List.set_cons_zero])
                  | (refine wpList_exec 63 rfl (by rfl) _ _ (hl.out rfl rfl) ?_; try simp only [List.setIfInBounds_toArray, List.set_cons_succ, List.set_cons_zero]))
                go_roundw
                case rel => exact ⟨k + 1, by omega, by go_num, by rw [HM.out, HZ.out], KW⟩
                case measure => simp [intOf]; omega
            · have hd : decide ((k : Int) < (m0 : Int)) = false := decide_eq_false (by omega)
              have hd' : decide (k < m0) = false := decide_eq_false hlt
              obtain rfl : k = m0 := by omega
              rw [← HE.out]
              have hEE : (E == E) = true := by simp
              go_wp2_with (first
                | (refine wpList_exec 66 rfl (by rfl) _ _ (loadBk rfl rfl R9w.out) ?_; try simp only [List.setIfInBounds_toArray, List.set_cons_succ, List.set_cons_zero])
                | (refine wpList_exec 67 rfl (by rfl) _ _ (execIndexU2 g5 0 (by omega) _ rfl rfl rfl) ?_; try simp only [List.setIfInBounds_toArray, List.set_cons_succ, List.set_cons_zero])
                | (refine wpList_exec 68 rfl (by rfl) _ _ (loadU32A rfl rfl (R5w.out.cell 0)) ?_; try simp only [List.setIfInBounds_toArray, List.set_cons_succ, List.set_cons_zero]))
              refine (C3.out _ _ (SSl.kept _ _ _ _ _ KW.out XU.out) (HSl.kept _ _ _ _ _ KE.out X1.out) (HT.out.kept KE.out)).mono ?_
              rintro e v6 ⟨rfl, k6⟩
              replace KE := Lib.hid (KE.out.trans k6)
              clear k6 C3
              go_wp2_with fail
              refine (HA.out _ (HT.out.kept KE.out)).mono ?_
              rintro e v7 ⟨rfl, k7⟩
              replace KE := Lib.hid (KE.out.trans k7)
              clear k7
              go_wp2_with fail
              go_ret
              exact ⟨rfl, KE.out⟩
        · have hd3 : ((a0 : Int) != (h : Int)) = true := by simp; omega
          have hd4 : ((8 : Int) != 8) = false := by simp
          replace C2 := Lib.hid (C2.out hah)
          clear hah
          go_wp2_with (first
            | (refine wpList_exec 41 rfl (by rfl) _ _ (execIndexU2 g5 0 (by omega) _ rfl rfl rfl) ?_; try simp only [List.setIfInBounds_toArray, List.set_cons_succ, List.set_cons_zero])
            | (refine wpList_exec 42 rfl (by rfl) _ _ (loadU32A rfl rfl (R5.out.cell 0)) ?_; try simp only [List.setIfInBounds_toArray, List.set_cons_succ, List.set_cons_zero])
            | (refine wpList_exec 43 rfl (by rfl) _ _ (execIndexU2 g5 1 (by omega) _ rfl rfl rfl) ?_; try simp only [List.setIfInBounds_toArray, List.set_cons_succ, List.set_cons_zero])
            | (refine wpList_exec 44 rfl (by rfl) _ _ (loadU32A rfl rfl (R5.out.cell 1)) ?_; try simp only [List.setIfInBounds_toArray, List.set_cons_succ, List.set_cons_zero])
            | (refine wpList_exec 47 rfl (by rfl) _ _ (loadBk rfl rfl R9.out) ?_; try simp only [List.setIfInBounds_toArray, List.set_cons_succ, List.set_cons_zero])
            | (refine wpList_exec 48 rfl (by rfl) _ _ (execIndexU2 g5 1 (by omega) _ rfl rfl rfl) ?_; try simp only [List.setIfInBounds_toArray, List.set_cons_succ, List.set_cons_zero])
            | (refine wpList_exec 49 rfl (by rfl) _ _ (loadU32A rfl rfl (R5.out.cell 1)) ?_; try simp only [List.setIfInBounds_toArray, List.set_cons_succ, List.set_cons_zero]))
          refine (C2.out _ _ XU.out (HSl.kept _ _ _ _ _ K1.out X1.out) (HT.out.kept K1.out)).mono ?_
          rintro e v4 ⟨rfl, k4⟩
          replace K1 := Lib.hid (K1.out.trans k4)
          replace XU := Lib.hid (SSl.kept _ _ _ _ _ k4 XU.out)
          replace R5 := Lib.hid (R5.out.kept k4)
          replace R9 := Lib.hid (R9.out.kept k4)
          clear k4 C2
          go_wp2_with fail
          go_loopw [10, 11] (fun x i wr => ∃ k : Nat, k ≤ m0 ∧ i = .int .i64 (k : Int) ∧ x = .int .i64 (bif bigT S0 k then 4 else 0) ∧ Hid (Kept v4 wr)) (fun _ i _ => m0 - (intOf i).toNat)
          case atStart => exact ⟨0, by omega, rfl, rfl, Lib.hid (Kept.refl _)⟩
          case round =>
            obtain ⟨k, hk, rfl, rfl, KW⟩ := hrel
            have R9w := Lib.hid (R9.out.kept KW.out)
            have R5w := Lib.hid (R5.out.kept KW.out)
            have KE := Lib.hid (K1.out.trans KW.out)
            by_cases hlt : k < m0
            · have hd : decide ((k : Int) < (m0 : Int)) = true := decide_eq_true (by omega)
              have hd' : decide (k < m0) = true := decide_eq_true hlt
              obtain ⟨q, rfl, _⟩ := XS.out.some (by omega)
              have HSw := Lib.hid (XS.out.kept KE.out)
              by_cases hs : 4096 < (S0 k).size
              · have HM : Hid (bigT S0 (k + 1) = true) := Lib.hid (bigT_more hs)
                obtain ⟨x, hx⟩ : ∃ x, x = S0 k := ⟨_, rfl⟩
                have hl : Hid (∀ {o : Oper} {t : Array Value} {y : Operand}, o.op = .load 9 y → evS t y = .pointer (some (q.add k)) → (execOp (evS t) o).run Tryd.prog wr = .ok (.value (.string x)) wr) := Lib.hid fun ho hy => by rw [hx]; exact load_sat k ho hy HSw.out hlt
                rw [← hx] at hs
                have hd2 : decide ((x.size : Int) > 4096) = true := decide_eq_true (by omega)
                have hd2' : decide ((4096 : Int) < (x.size : Int)) = true := decide_eq_true (by omega)
                clear hx
                generalize (bif bigT S0 k then (4 : Int) else 0) = z
                go_wp2_with (first
                  | (refine wpList_exec 62 rfl (by rfl) _ _ (execIndexS q m0 d0 k hlt _ rfl rfl rfl) ?_; try simp only [List.setIfInBounds_toArray, List.set_cons_succ, List.set_cons_zero])
                  | (refine wpList_exec 63 rfl (by rfl) _ _ (hl.out rfl rfl) ?_; try simp only [List.setIfInBounds_toArray, List.set_cons_succ, List.set_cons_zero]))
                go_roundw
                case rel => exact ⟨k + 1, by omega, by go_num, by rw [HM.out]; rfl, KW⟩
                case measure => simp [intOf]; omega
              · have HM : Hid (bigT S0 (k + 1) = bigT S0 k) := Lib.hid (bigT_same hs)
                obtain ⟨x, hx⟩ : ∃ x, x = S0 k := ⟨_, rfl⟩
                have hl : Hid (∀ {o : Oper} {t : Array Value} {y : Operand}, o.op = .load 9 y → evS t y = .pointer (some (q.add k)) → (execOp (evS t) o).run Tryd.prog wr = .ok (.value (.string x)) wr) := Lib.hid fun ho hy => by rw [hx]; exact load_sat k ho hy HSw.out hlt
                rw [← hx] at hs
                have hd2 : decide ((x.size : Int) > 4096) = false := decide_eq_false (by omega)
                have hd2' : decide ((4096 : Int) < (x.size : Int)) = false := decide_eq_false (by omega)
                clear hx
                obtain ⟨z, hz⟩ : ∃ z, z = (bif bigT S0 k then (4 : Int) else 0) := ⟨_, rfl⟩
                have HZ := Lib.hid hz
                rw [← hz]
                clear hz
                go_wp2_with (first
                  | (refine wpList_exec 62 rfl (by rfl) _ _ (execIndexS q m0 d0 k hlt _ rfl rfl rfl) ?_; try simp only [List.setIfInBounds_toArray, List.set_cons_succ, List.set_cons_zero])
                  | (refine wpList_exec 63 rfl (by rfl) _ _ (hl.out rfl rfl) ?_; try simp only [List.setIfInBounds_toArray, List.set_cons_succ, List.set_cons_zero]))
                go_roundw
                case rel => exact ⟨k + 1, by omega, by go_num, by rw [HM.out, HZ.out], KW⟩
                case measure => simp [intOf]; omega
            · have hd : decide ((k : Int) < (m0 : Int)) = false := decide_eq_false (by omega)
              have hd' : decide (k < m0) = false := decide_eq_false hlt
              obtain rfl : k = m0 := by omega
              rw [← HE.out]
              have hEE : (E == E) = true := by simp
              go_wp2_with (first
                | (refine wpList_exec 66 rfl (by rfl) _ _ (loadBk rfl rfl R9w.out) ?_; try simp only [List.setIfInBounds_toArray, List.set_cons_succ, List.set_cons_zero])
                | (refine wpList_exec 67 rfl (by rfl) _ _ (execIndexU2 g5 0 (by omega) _ rfl rfl rfl) ?_; try simp only [List.setIfInBounds_toArray, List.set_cons_succ, List.set_cons_zero])
                | (refine wpList_exec 68 rfl (by rfl) _ _ (loadU32A rfl rfl (R5w.out.cell 0)) ?_; try simp only [List.setIfInBounds_toArray, List.set_cons_succ, List.set_cons_zero]))
              refine (C3.out _ _ (SSl.kept _ _ _ _ _ KW.out XU.out) (HSl.kept _ _ _ _ _ KE.out X1.out) (HT.out.kept KE.out)).mono ?_
              rintro e v6 ⟨rfl, k6⟩
              replace KE := Lib.hid (KE.out.trans k6)
              clear k6 C3
              go_wp2_with fail
              refine (HA.out _ (HT.out.kept KE.out)).mono ?_
              rintro e v7 ⟨rfl, k7⟩
              replace KE := Lib.hid (KE.out.trans k7)
              clear k7
              go_wp2_with fail
              go_ret
              exact ⟨rfl, KE.out⟩
      · clear hB HMw X1 X2 R5
        go_wp2_with fail
        refine (HA.out _ (HT.out.kept K1.out)).mono ?_
        rintro e v2 ⟨rfl, k2⟩
        replace K1 := Lib.hid (K1.out.trans k2)
        clear k2
        go_wp2_with fail
        go_ret
        exact ⟨rfl, K1.out⟩

set_option maxRecDepth 100000 in
set_option maxHeartbeats 1000000 in
theorem lifted (os : Os) (started : os.Started) (H : Type) (enc : TypeId × Value → H) :
    ReturnsInHanded {} Tryd.checked os 5 .any (fun w args => (Rows.blockBackSpec.pre enc Tryd.prog Tryd.f5 [] false w args ∧ laidMetH Tryd.prog Rows.blockBackRow.laid w) ∧ sizedMet enc Tryd.prog Tryd.f5 (OpenSpec.ofChange Rows.blockBackSpec) false w args)
      (Rows.blockBackSpec.post enc Tryd.prog Tryd.f5 false true false false) := by
  refine returnsInHanded_of_change_and (C := Tryd.checked) (X := fun w _ => laidMetH Tryd.prog Rows.blockBackRow.laid w) (fun _ _ _ hh h => h.of_heap hh) own started (by kernel_rfl) Tryd.func5
    (ChangeSpec.witness_shaped (enc := enc) (C := Tryd.checked) (os := os) (X := fun w _ => laidMetH Tryd.prog Rows.blockBackRow.laid w) false (World.doorLaid Tryd.prog 400 os) #[.agg #[.int .u32 0, .slice none 0 0, .slice none 0 0, .int .u64 0], .int .u32 0] 8 rfl (World.shaped_of_RefB (by kernel_rfl) (by kernel_rfl)) (by kernel_rfl) (by kernel_rfl) (by kernel_rfl) (door_met os _)) ?_
  intro W base args ds gs before hval0 hW _ hsz0 hL _
  have hval : ∀ (j : Nat) t v, Tryd.f5.params[j]? = some t → args[j]? = some v → Value.okWide Tryd.prog W .any base t v := hval0
  have hsz : (DataW.weightsEach Tryd.prog (Tryd.f5.params.toList ++ Rows.blockBackSpec.plain.varTypes Tryd.prog) (ds ++ gs)).all (· ≤ reachBytes) = true := hsz0
  have hW' := hW
  obtain ⟨p, q, hA0, hV, rfl, hfz, hnd⟩ := hW
  have hA : DataW.TrodAll enc Tryd.prog W 0 (fun _ => true) true Tryd.f5.params.toList args.toList ds p := hA0
  have hAk := hA
  rw [Tryd.params5] at hA hval hsz
  obtain ⟨v0, vs0, d0, ds0, p0_, q0_, hargs, rfl, rfl, h0, r0_⟩ := trodAll_cons hA
  obtain ⟨v1, vs1, d1, ds1, p1_, q1_, rfl, rfl, rfl, h1, r1_⟩ := trodAll_cons r0_
  obtain ⟨rfl, rfl, rfl⟩ := trodAll_nil r1_
  obtain rfl : args = #[v0, v1] := by cases args; simp_all
  obtain ⟨rfl, rfl⟩ := trodVars_none hV
  have hlt : ∀ x ∈ (p0_ ++ (p1_ ++ ([]))), x.block < W.heap.size := fun x hx => by simpa using hW'.lt x (by simpa using hx)
  obtain ⟨cs0, rfl, _⟩ := okWide_struct Tryd.underlying27 (hval 0 27 v0 rfl rfl)
  obtain ⟨a0, b0, p0, n0, c0, F0, q0, m0, dd0, S0, w0, z0, y0, rfl, e0, f0, r0⟩ := open_of h0 (Fit.ofArg hsz (J := 0) rfl rfl)
  obtain ⟨a1, rfl, rfl, rfl, w1⟩ := open_int Tryd.underlying22 (hval 1 22 v1 rfl rfl) h1
  clear hA0 hval0
  refine (walk a0 b0 p0 n0 c0 F0 q0 m0 dd0 S0 w0 z0 y0 r0 a1 w1 W e0 f0 (tab_of_laid hL)).mono fun e W' ⟨he, hg⟩ => ?_
  subst he
  exact ⟨_, rfl, ⟨_, _, _, [], _, [], hW', trodAll_cons_mk (shut_bool Tryd.underlying4 _) trodAll_mk0, trodAll_stays laidOut hg (by kernel_rfl) hAk hlt (fun x hx => by simpa using hlt x hx), rfl, Kept.frame hg _, fun h => by cases h⟩⟩

theorem over : Rows.blockBackRow.holds Tryd.pinned (OpenSpec.ofChange Rows.blockBackSpec) :=
  OpenClaim.holds_of_wide 5 Tryd.f5 rfl rfl rfl rfl rfl rfl rfl ⟨rfl, rfl, rfl, rfl, rfl⟩ rfl rfl rfl rfl rfl (by kernel_rfl) Tryd.func5 (by kernel_rfl)
    (of_decide_eq_true (by kernel_rfl)) (by unfold Func.isWrapper; first | (rw [if_pos (by decide +kernel)]; kernel_rfl) | (rw [if_neg (by decide +kernel)]; exact ⟨rfl, rfl⟩))
    (fun os started H enc _ => lifted os started H enc)
end Go.Proofs.YtlfkkfacbcpogaaDoor.blockBack
namespace Go.Proofs.YtlfkkfacbcpogaaDoor
theorem blockBack_holds : Rows.BlockBackSaid := blockBack.over
theorem blockBack_card : Rows.BlockBackCardSaid :=
  Claim7.holds_tied_plain_at .later [] [.data] true (true, "3ed5a905e7e9934bda8124e3251505957a3fa2d0cb568af786e0aacafbf8dcb2") false
    blockBack_holds (fun _ h => by cases h) (by kernel_rfl) (fun _ h => by cases h) blockBack_row_tie rfl ⟨rfl, rfl⟩ (by kernel_rfl) rfl
    (fun f fn hf hfn => by
      obtain rfl : f = 5 := Option.some.inj ((show Tryd.prog.funcNamed "milepost/milepostlaw23.BlockBack" = some 5 by kernel_rfl).symm.trans hf) |>.symm
      obtain rfl : fn = Tryd.f5 := (Option.some.inj (Tryd.func5.symm.trans hfn)).symm
      refine ⟨by kernel_rfl, fun j t ht => ?_⟩
      have hm : t ∈ Tryd.f5.params.toList := by simpa using Array.mem_of_getElem? ht
      have hall : (Tryd.f5.params.toList.all fun u => !Tryd.prog.wantsStandIn u) = true := by kernel_rfl
      exact (show Tryd.prog.wantsStandIn t = false by simpa using List.all_eq_true.1 hall t hm))
    (by kernel_rfl)
#print axioms blockBack_card
end Go.Proofs.YtlfkkfacbcpogaaDoor
