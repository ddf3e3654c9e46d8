/-
  Each leaf of an opening of several leaves that Open creates can be opened alone by One, for the same root, as the reference opens it; the law's example holds: 'MultiOnes' returns true for every input.
  Conditions: those of the given card (sha's table of round constants as the program's text lays it).
-/
import Derived.Test.YtggpjhldmaflaaaDoorRows
import Derived.Test.YtggpjhldmaflaaaDoorMultiWalkE
import Derived.Test.YtggpjhldmaflaaaDoorMultiAwake
import Derived.Test.YtggpjhldmaflaaaDoorMultiLaw
import Derived.Test.YtggpjhldmaflaaaDoorLawLibH
import Derived.Test.YtggpjhldmaflaaaDoorLateLib
import Derived.WalkKit
import Derived.ProofKit
import Derived.OpenShut
import Derived.ShutString
import Derived.SizedLaws
import Derived.Test.YtggpjhldmaflaaaDoorBas
import Derived.LaidMore
import Derived.SevenTiedAt
import Derived.Test.YtggpjhldmaflaaaDoorCards
import Derived.Test.YtggpjhldmaflaaaDoorTie
import Derived.Test.YtggpjhldmaflaaaDoorShb
namespace Go.Proofs.YtggpjhldmaflaaaDoor.multiOnes
open Go.ChangeShapes Go.WideShapes Go.ChangeAt Go.RowKit
open Go.ChangeMaps (open_string shut_string)
set_option linter.unusedVariables false

theorem own : ownKnob Tryd.prog.godebug = none := by kernel_rfl
theorem laidOut : laidOutB Tryd.prog = true := by kernel_rfl

set_option maxRecDepth 100000 in
set_option maxHeartbeats 4000000 in
theorem walk (p0 : Option Addr) (n0 c0 : Nat) (S0 : Nat → ByteArray) (z0 : n0 ≤ c0 ∧ c0 ≤ maxLen) (r0 : ∀ i, i < n0 → (S0 i).size ≤ 140737488351232) (p1 : Option Addr) (n1 c1 : Nat) (I1 : Nat → Int) (z1 : n1 ≤ c1 ∧ c1 ≤ maxLen) (y1 : ∀ i, i < n1 → (Lit.int .i64 (I1 i)).wf = true) (a2 : Int) (w2 : (Lit.int .i64 a2).wf = true) (w : World) (e0 : SAt w p0 n0 S0) (e1 : IAt w p1 n1 I1) (hT : Tab w) :
    Calls Tryd.prog 5 #[.slice p0 n0 c0, .slice p1 n1 c1, .int .i64 a2] w fun e w' => e = .returned (.bool true) ∧ Kept w w' := by
  have HM0 := Lib.hid (much12_any p0 n0 c0 S0 w e0 r0 (by unfold maxLen at z0; omega))
  have HT := Lib.hid hT
  have HS := Lib.hid e0
  have HI := Lib.hid e1
  have HA : Hid (∀ w, _) := Lib.hid fun w => awake16_any w
  clear e0 e1 r0 hT y1 w2
  go_enter Tryd.func5, Tryd.ntmps5
  go_wp2_with fail
  refine HM0.out.mono ?_
  rintro e u0 ⟨B, rfl, rfl, hB⟩
  cases B with
  | true =>
    go_wp2_with fail
    refine (HA.out w).mono ?_
    rintro e u1 ⟨rfl, k1⟩
    have K1 := Lib.hid k1
    clear k1
    go_wp2_with fail
    go_ret
    exact ⟨rfl, K1.out⟩
  | false =>
    obtain ⟨hn0, hz0⟩ := hB rfl
    clear hB HM0
    by_cases hn1 : 200 < n1
    · have hd1 : decide ((n1 : Int) > 200) = true := decide_eq_true (by omega)
      have hd1' : decide ((200 : Int) < (n1 : Int)) = true := decide_eq_true (by omega)
      go_wp2_with fail
      refine (HA.out w).mono ?_
      rintro e u1 ⟨rfl, k1⟩
      have K1 := Lib.hid k1
      clear k1
      go_wp2_with fail
      go_ret
      exact ⟨rfl, K1.out⟩
    · have hd1 : decide ((n1 : Int) > 200) = false := decide_eq_false (by omega)
      have hd1' : decide ((200 : Int) < (n1 : Int)) = false := decide_eq_false (by omega)
      have hz0' : ∀ i, i < n0 → (S0 i).size ≤ 1000000 := fun i hi => Nat.le_trans (hz0 i hi) (by omega)
      have HO := Lib.hid (multiOpen_any p0 n0 c0 S0 p1 n1 c1 I1 w HS.out z0.1 z0.2 hz0' (by omega) HI.out z1.1 z1.2 (by omega) HT.out)
      have HR : Hid (∀ w, IAt w p1 n1 I1 → _) := Lib.hid fun w h => refRising_any (n0 : Int) p1 n1 c1 I1 w h (by omega)
      by_cases hr : risP (n0 : Int) n1 I1
      · have hK : mkK n0 n1 I1 = n1 := if_pos hr
        have e4 : mkE n0 n1 I1 = 0 := if_pos hr
        have hpos := hr.1
        have hsS : ∀ i, i < n1 → (S0 (I1 i).toNat).size ≤ 1000000 := fun i hi => by
          obtain ⟨x, hx, hxn, _⟩ := risP_at hr hi
          rw [hx]; exact hz0' x hxn
        have HPx : Hid (∀ i, i < n1 → ∃ x : Nat, I1 i = (x : Int) ∧ x < n0) := Lib.hid fun i hi => by
          obtain ⟨x, hx, hxn, _⟩ := risP_at hr hi
          exact ⟨x, hx, hxn⟩
        have la : (rootL S0 n0).length = 32 := shaL_length _
        have hck : ckM (rootL S0 n0) n1 (fun k => S0 (I1 k).toNat) (mkC n0 n1 I1) (mkK n0 n1 I1) I1 (mkL S0 n0 n1 I1).length (lh (mkL S0 n0 n1 I1)) = true := decide_eq_true ⟨may_mk hr (by omega) S0, rt_mk hr (by omega) S0⟩
        have HCk : Hid (∀ (pv : Option Addr) (cv : Nat) (pp : Option Addr) (pc : Nat) (q : Option Addr) (qc : Nat) (w : World), n1 ≤ cv → cv ≤ maxLen → SAt w pv n1 (fun k => S0 (I1 k).toNat) → n1 ≤ pc → pc ≤ maxLen → IAt w pp n1 I1 → HSl (mkL S0 n0 n1 I1).length (lh (mkL S0 n0 n1 I1)) (.slice q (mkL S0 n0 n1 I1).length qc) w → Tab w →
            Calls Tryd.prog 17 #[.agg (bC 32 (rootL S0 n0)), .slice pv n1 cv, .agg #[.int .i64 (mkC n0 n1 I1), .slice pp n1 pc, .slice q (mkL S0 n0 n1 I1).length qc]] w fun e w' => e = .returned (.bool true) ∧ Kept w w') := Lib.hid fun pv cv pp pc q qc w h1 h2 h3 h4 h5 h6 h7 h8 => by
          have := multiCheck_any (rootL S0 n0) pv n1 cv (fun k => S0 (I1 k).toNat) (mkC n0 n1 I1) pp (mkK n0 n1 I1) pc I1 q (mkL S0 n0 n1 I1).length qc (lh (mkL S0 n0 n1 I1)) w la h3 h1 h2 hsS (by rw [hK]; exact h6) (by rw [hK]; exact h4) h5 (by rw [hK]; omega) h7 h8
          rwa [hck, hK] at this
        obtain ⟨OI, OC, L, OB, hin, hout, HOne⟩ : ∃ (OI OC : Int) (L : List (List UInt8)) (OB : Bool), (∀ k : Nat, a2 = (k : Int) → k < n1 → OB = true ∧ L = opL S0 n0 (I1 k) ∧ OI = opI n0 (I1 k) ∧ OC = opC n0 (I1 k)) ∧ (¬ (0 ≤ a2 ∧ a2 < (n1 : Int)) → OB = false ∧ L = [] ∧ OI = 0 ∧ OC = 0) ∧
            ∀ (pv : Option Addr) (cv : Nat) (pp : Option Addr) (pc : Nat) (q : Option Addr) (qc : Nat) (w : World), n1 ≤ cv → cv ≤ maxLen → SAt w pv n1 (fun k => S0 (I1 k).toNat) → n1 ≤ pc → pc ≤ maxLen → IAt w pp n1 I1 → HSl (mkL S0 n0 n1 I1).length (lh (mkL S0 n0 n1 I1)) (.slice q (mkL S0 n0 n1 I1).length qc) w → Tab w →
            Calls Tryd.prog 21 #[.slice pv n1 cv, .agg #[.int .i64 (mkC n0 n1 I1), .slice pp n1 pc, .slice q (mkL S0 n0 n1 I1).length qc], .int .i64 a2] w fun e w' => ∃ q' c', e = .returned (.tuple #[.agg #[.int .i64 OI, .int .i64 OC, .slice q' L.length c'], .bool OB]) ∧ HSl L.length (lh L) (.slice q' L.length c') w' ∧ Kept w w' := by
          refine ⟨onI n1 (mkC n0 n1 I1) (mkK n0 n1 I1) I1 (mkL S0 n0 n1 I1).length a2, onC n1 (mkC n0 n1 I1) (mkK n0 n1 I1) I1 (mkL S0 n0 n1 I1).length a2, onL n1 (fun k => S0 (I1 k).toNat) (mkC n0 n1 I1) (mkK n0 n1 I1) I1 (mkL S0 n0 n1 I1).length (lh (mkL S0 n0 n1 I1)) a2, onB n1 (mkC n0 n1 I1) (mkK n0 n1 I1) I1 (mkL S0 n0 n1 I1).length a2, ?_, ?_, ?_⟩
          · rintro k rfl hk
            obtain ⟨h1, h2, h3⟩ := onL_mk hr (by omega) S0 hk
            exact ⟨by rw [onB_mk hr (by omega)]; exact decide_eq_true ⟨by omega, by omega⟩, h1, h2, h3⟩
          · intro hno
            have hb : onB n1 (mkC n0 n1 I1) (mkK n0 n1 I1) I1 (mkL S0 n0 n1 I1).length a2 = false := by rw [onB_mk hr (by omega)]; exact decide_eq_false hno
            refine ⟨hb, ?_, ?_, ?_⟩
            · rw [onL, hb]; rfl
            · rw [onI, hb]; rfl
            · rw [onC, hb]; rfl
          · intro pv cv pp pc q qc w h1 h2 h3 h4 h5 h6 h7 h8
            have := multiOne_any pv n1 cv (fun k => S0 (I1 k).toNat) (mkC n0 n1 I1) pp (mkK n0 n1 I1) pc I1 q (mkL S0 n0 n1 I1).length qc (lh (mkL S0 n0 n1 I1)) a2 w h3 h1 h2 hsS (by rw [hK]; exact h6) (by rw [hK]; exact h4) h5 (by rw [hK]; omega) h7 h8
            rwa [hK] at this ⊢
        replace HOne := Lib.hid HOne
        replace hin := Lib.hid hin
        replace hout := Lib.hid hout
        have HRt : Hid (∀ w, SAt w p0 n0 S0 → _) := Lib.hid fun w h => refRoot11_any p0 n0 c0 S0 w h hz0' (by omega)
        have HOp : Hid (∀ k : Nat, k < n1 → ∀ w, SAt w p0 n0 S0 → Calls Tryd.prog 23 #[.slice p0 n0 c0, .int .i64 (I1 k)] w fun e w' => ∃ q cc, e = .returned (.tuple #[.agg #[.int .i64 (opI n0 (I1 k)), .int .i64 (opC n0 (I1 k)), .slice q (opL S0 n0 (I1 k)).length cc], .int .i64 0]) ∧ HSl (opL S0 n0 (I1 k)).length (lh (opL S0 n0 (I1 k))) (.slice q (opL S0 n0 (I1 k)).length cc) w' ∧ Kept w w') := Lib.hid fun k hk w hS => by
          have h1 := refOpen_at p0 n0 c0 S0 (I1 k) w hS hz0' (by omega)
          obtain ⟨x, hx, hxn, _⟩ := risP_at hr hk
          have h2 : opE n0 (I1 k) = 0 := if_pos ⟨by omega, by omega⟩
          rwa [h2] at h1
        have HHC : Hid (∀ k x : Nat, k < n1 → I1 k = (x : Int) → ∀ v w, HSl (opL S0 n0 (I1 k)).length (lh (opL S0 n0 (I1 k))) v w → Tab w → Calls Tryd.prog 24 #[.agg (bC 32 (rootL S0 n0)), .string (S0 x), .agg #[.int .i64 (opI n0 (I1 k)), .int .i64 (opC n0 (I1 k)), v]] w fun e w' => e = .returned (.bool true) ∧ Kept w w') := Lib.hid fun k x hk hx v w hv ht => by
          obtain ⟨x', hx', hxn, _⟩ := risP_at hr hk
          obtain rfl : x = x' := by omega
          have h1 := holdCheck_any (rootL S0 n0) la (S0 x) (hz0' x hxn) (opI n0 (I1 k)) (opC n0 (I1 k)) _ _ v w hv ht
          have h2 := may_opL S0 n0 (I1 k) ⟨by omega, by omega⟩ (by omega)
          have h3 := rt_opL S0 n0 (I1 k) ⟨by omega, by omega⟩ (by omega)
          rw [show (I1 k).toNat = x by omega] at h3
          have h4 : ckO (rootL S0 n0) (S0 x) (opI n0 (I1 k)) (opC n0 (I1 k)) (opL S0 n0 (I1 k)).length (lh (opL S0 n0 (I1 k))) = true := decide_eq_true ⟨h2, h3⟩
          rwa [h4] at h1
        rw [hK, e4] at HO
        rw [decide_eq_true hr] at HR
        clear hr hK e4 hz0 hz0' hck hsS
        generalize mkL S0 n0 n1 I1 = M at HO HCk HOne
        generalize mkC n0 n1 I1 = NC at HO HCk HOne
        generalize rootL S0 n0 = A at HCk HRt HHC la
        obtain ⟨X, hX⟩ : ∃ X : Nat → ByteArray, X = fun k => S0 (I1 k).toNat := ⟨_, rfl⟩
        rw [← hX] at HCk HOne
        have HXx : Hid (∀ k x : Nat, I1 k = (x : Int) → S0 x = X k) := Lib.hid fun k x h => by rw [hX]; show S0 x = S0 (I1 k).toNat; rw [h]; rfl
        clear hX
        go_wp2_with fail
        refine HO.out.mono ?_
        rintro e u1 ⟨pp, pc, q, qc, rfl, ⟨hpc, hpm⟩, hI, hH, k1⟩
        have J1 := Lib.hid hI
        have Y1 := Lib.hid hH
        have K1 := Lib.hid k1
        clear hI hH k1 HO
        go_wp2_with (refine wpList_store_made rfl 28 _ _ rfl _ _ #[.int .i64 NC, .slice pp n1 pc, .slice q M.length qc] rfl rfl 28 _ rfl (manyR_size _ _ _) rfl (manyR_one _ _ _ _ _ _ _) ?_; intro u2 R7 k2)
        obtain ⟨g7, hg7⟩ : ∃ g, g = u1.heap.size := ⟨_, rfl⟩
        rw [← hg7] at R7 ⊢
        clear hg7
        have J2 := Lib.hid (J1.out.kept k2.out)
        have Y2 := Lib.hid (HSl.kept _ _ _ _ _ k2.out Y1.out)
        have K2 := Lib.hid (K1.out.trans k2.out)
        clear k2 J1 Y1 K1
        refine (HR.out u2 (HI.out.kept K2.out)).mono ?_
        rintro e u3 ⟨rfl, k3⟩
        have J3 := Lib.hid (J2.out.kept k3)
        have Y3 := Lib.hid (HSl.kept _ _ _ _ _ k3 Y2.out)
        have R7a := Lib.hid (R7.out.kept k3)
        have K3 := Lib.hid (K2.out.trans k3)
        clear k3 J2 Y2 K2 R7 HR
        go_wp2_with fail
        go_loopw [9, 10] (fun v i wr => ∃ k : Nat, k ≤ n1 ∧ i = .int .i64 k ∧ Hid (TxS u3.heap.size ((List.range k).map X) v wr) ∧ Hid (Kept u3 wr)) (fun _ i _ => n1 - (intOf i).toNat)
        case atStart => exact ⟨0, by omega, rfl, Lib.hid (TxS.nil _ _), Lib.hid (Kept.refl _)⟩
        case round =>
          obtain ⟨k, hk, rfl, TK, HK⟩ := hrel
          by_cases hlt : k < n1
          · have hd2 : decide ((k : Int) < (n1 : Int)) = true := decide_eq_true (by omega)
            have hd2' : decide (k < n1) = true := decide_eq_true hlt
            obtain ⟨x, hx, hxn⟩ := HPx.out k hlt
            have hsx := HXx.out k x hx
            obtain ⟨qi, rfl, _⟩ := HI.out.some (by omega)
            obtain ⟨q0, rfl, _⟩ := HS.out.some (by omega)
            have cI := (HI.out.kept (K3.out.trans HK.out)).cell k hlt
            rw [hx] at cI
            have cS := (HS.out.kept (K3.out.trans HK.out)).cell x hxn
            rw [hsx] at cS
            have hd3 : decide ((x : Int) < (n0 : Int)) = true := decide_eq_true (by omega)
            have hd3' : decide (x < n0) = true := decide_eq_true hxn
            have hll : ((List.range k).map X).length + 1 ≤ 1000000 := by simp; omega
            have hsn : Hid ((List.range k).map X ++ [X k] = (List.range (k + 1)).map X) := Lib.hid (by rw [List.range_succ, List.map_append]; rfl)
            replace hx := Lib.hid hx
            replace hsx := Lib.hid hsx
            go_wp2_with (at_builtin; refine wpList_append_strs rfl _ _ rfl u3 0 _ _ ((List.range k).map X) [X k] rfl rfl (Lib.hid (TxS.kept _ _ _ _ _ ((Kept.refl wr).alloc _) TK.out)) (Lib.hid (TxS.one (Rowz.new _ _ _) (Nat.zero_le _))) (by simp) hll (Lib.hid (HK.out.alloc _)) ?_; rw [hsn.out]; intro x8 w8 T8 K8)
            go_roundw
            case rel => exact ⟨k + 1, by omega, by go_num, T8, K8⟩
            case measure => simp [intOf]; omega
          · have hd2 : decide ((k : Int) < (n1 : Int)) = false := decide_eq_false (by omega)
            have hd2' : decide (k < n1) = false := decide_eq_false hlt
            obtain rfl : k = n1 := by omega
            obtain ⟨qv, cv, hqv, hvc, hvm, hv⟩ := TK.out.sat (by simp; omega)
            have hlen : ((List.range k).map X).length = k := by simp
            rw [hlen] at hqv hvc hv
            have TV : Hid (SAt wr (some qv) k X) := Lib.hid fun i hi => by
              obtain ⟨a, h1, h2, h3⟩ := hv i hi
              refine ⟨a, h1, h2, ?_⟩
              rw [h3]
              simp [List.getD_eq_getElem?_getD, hi]
            subst hqv
            clear hv hlen TK
            go_wp2_with fail
            refine (HRt.out wr (HS.out.kept (K3.out.trans HK.out))).mono ?_
            rintro e u4 ⟨rfl, k4⟩
            have K4 := Lib.hid ((K3.out.trans HK.out).trans k4)
            have R7b := Lib.hid (R7a.out.kept (HK.out.trans k4))
            have J4 := Lib.hid (J3.out.kept (HK.out.trans k4))
            have Y4 := Lib.hid (HSl.kept _ _ _ _ _ (HK.out.trans k4) Y3.out)
            replace TV := Lib.hid (TV.out.kept k4)
            clear k4 HRt R7a J3 Y3 HK K3
            go_wp2_with (first
              | (refine wpList_store_made rfl 38 _ _ rfl _ _ (bC 32 A) rfl rfl 38 _ rfl (info_hash _) (by simp [bC_size]) (bC_one _ _) ?_; intro u5 R11 k5)
              | (refine park_at 60 rfl ?_))
            obtain ⟨g11, hg11⟩ : ∃ g, g = u4.heap.size := ⟨_, rfl⟩
            rw [← hg11] at R11 ⊢
            clear hg11
            have K5 := Lib.hid (K4.out.trans k5.out)
            replace R7b := Lib.hid (R7b.out.kept k5.out)
            replace J4 := Lib.hid (J4.out.kept k5.out)
            replace Y4 := Lib.hid (HSl.kept _ _ _ _ _ k5.out Y4.out)
            replace TV := Lib.hid (TV.out.kept k5.out)
            clear k5 K4
            refine unpark ?_
            refine wpList_exec 60 rfl (by rfl) (.agg (bC 32 A)) _ (loadHr rfl rfl R11.out) ?_
            go_wp2_with (refine park_at 62 rfl ?_)
            refine unpark ?_
            refine wpList_exec 62 rfl (by rfl) (.agg #[.int .i64 NC, .slice pp k pc, .slice q M.length qc]) _ (loadMany rfl rfl R7b.out rfl) ?_
            go_wp2_with fail
            refine (HCk.out (some qv) cv pp pc q qc u5 hvc hvm TV.out hpc hpm J4.out Y4.out (HT.out.kept K5.out)).mono ?_
            rintro e u6 ⟨rfl, k6⟩
            have K6 := Lib.hid (K5.out.trans k6)
            replace R7b := Lib.hid (R7b.out.kept k6)
            replace R11 := Lib.hid (R11.out.kept k6)
            replace J4 := Lib.hid (J4.out.kept k6)
            replace Y4 := Lib.hid (HSl.kept _ _ _ _ _ k6 Y4.out)
            replace TV := Lib.hid (TV.out.kept k6)
            clear k6 K5 HCk
            go_wp2_with (refine park_at 67 rfl ?_)
            refine unpark ?_
            refine wpList_exec 67 rfl (by rfl) (.agg #[.int .i64 NC, .slice pp k pc, .slice q M.length qc]) _ (loadMany rfl rfl R7b.out rfl) ?_
            go_wp2_with fail
            refine (HOne.out (some qv) cv pp pc q qc u6 hvc hvm TV.out hpc hpm J4.out Y4.out (HT.out.kept K6.out)).mono ?_
            rintro e u7 ⟨q', c', rfl, hx7, k7⟩
            have X7 := Lib.hid hx7
            have K7 := Lib.hid (K6.out.trans k7)
            replace R11 := Lib.hid (R11.out.kept k7)
            clear hx7 k7 K6 HOne R7b J4 Y4 TV
            go_wp2_with (first
              | (refine wpList_store_made rfl 50 _ _ rfl _ _ #[.int .i64 OI, .int .i64 OC, .slice q' L.length c'] rfl rfl 50 _ rfl (opR_size OI OC (.slice q' L.length c')) rfl (opR_one OI OC q' L.length c') ?_; intro u8 R12 k8)
              | (refine park_at 73 rfl ?_))
            obtain ⟨g12, hg12⟩ : ∃ g, g = u7.heap.size := ⟨_, rfl⟩
            rw [← hg12] at R12 ⊢
            clear hg12
            have K8 := Lib.hid (K7.out.trans k8.out)
            have X8 := Lib.hid (HSl.kept _ _ _ _ _ k8.out X7.out)
            replace R11 := Lib.hid (R11.out.kept k8.out)
            clear k8 K7 X7
            refine unpark ?_
            by_cases hii : 0 ≤ a2 ∧ a2 < (k : Int)
            · obtain ⟨j, rfl⟩ := Int.eq_ofNat_of_zero_le hii.1
              have hj : j < k := by omega
              obtain ⟨h1, h2, h3, h4⟩ := hin.out j rfl hj
              have hOpj : Hid (∀ w, SAt w p0 n0 S0 → _) := Lib.hid fun w h => HOp.out j hj w h
              obtain ⟨x, hx, hxn⟩ := HPx.out j hj
              have hHCj : Hid (∀ v w, _) := Lib.hid fun v w => HHC.out j x hj hx v w
              rw [← h2, ← h3, ← h4] at hOpj hHCj
              have hSm : Hid (∀ v u w, HSl L.length (lh L) v w → HSl L.length (lh L) u w → Calls Tryd.prog 22 #[.agg #[.int .i64 OI, .int .i64 OC, v], .agg #[.int .i64 OI, .int .i64 OC, u]] w fun e w' => e = .returned (.bool true) ∧ Kept w w') := Lib.hid fun v u w hv hu => by
                have := refSame_any OI OC OI OC L.length L.length (lh L) (lh L) v u w hv hu
                rwa [sameO_self] at this
              subst h1
              rw [hx] at hOpj
              have hd3 : decide ((j : Int) < 0) = false := decide_eq_false (by omega)
              have hd4 : decide ((j : Int) ≥ (k : Int)) = false := decide_eq_false (by omega)
              have hd4' : decide (k ≤ j) = false := decide_eq_false (by omega)
              have hd5 : decide (j < k) = true := decide_eq_true hj
              have hHI : Hid (IAt w p1 k I1) := HI
              clear h2 h3 h4 hin hout HOp HHC hii hlt hd2 hd2'
              obtain ⟨qi, rfl, _⟩ := HI.out.some (by omega)
              obtain ⟨q0, rfl, _⟩ := HS.out.some (by omega)
              have cI := (HI.out.kept K8.out).cell j hj
              rw [hx] at cI
              replace hx := Lib.hid hx
              go_wp2_with fail
              clear cI
              refine (hOpj.out u8 (HS.out.kept K8.out)).mono ?_
              rintro e u9 ⟨q9, c9, rfl, hx9, k9⟩
              have Z9 := Lib.hid hx9
              have K9 := Lib.hid (K8.out.trans k9)
              have X9 := Lib.hid (HSl.kept _ _ _ _ _ k9 X8.out)
              replace R11 := Lib.hid (R11.out.kept k9)
              replace R12 := Lib.hid (R12.out.kept k9)
              clear hx9 k9 K8 X8 hOpj
              go_wp2_with (refine wpList_store_made rfl 50 _ _ rfl _ _ #[.int .i64 OI, .int .i64 OC, .slice q9 L.length c9] rfl rfl 50 _ rfl (opR_size OI OC (.slice q9 L.length c9)) rfl (opR_one OI OC q9 L.length c9) ?_; intro u10 R14 k10)
              obtain ⟨g14, hg14⟩ : ∃ g, g = u9.heap.size := ⟨_, rfl⟩
              rw [← hg14] at R14 ⊢
              clear hg14
              have K10 := Lib.hid (K9.out.trans k10.out)
              have X10 := Lib.hid (HSl.kept _ _ _ _ _ k10.out X9.out)
              have Z10 := Lib.hid (HSl.kept _ _ _ _ _ k10.out Z9.out)
              replace R11 := Lib.hid (R11.out.kept k10.out)
              replace R12 := Lib.hid (R12.out.kept k10.out)
              clear k10 K9 X9 Z9
              refine wp_region_table [(99, .is (.bool true)), (100, .is (.bool true)), (101, .is (.agg #[.int .i64 OI, .int .i64 OC, .slice q' L.length c'])), (102, .is (.agg #[.int .i64 OI, .int .i64 OC, .slice q9 L.length c9])), (103, .is (.bool true)), (104, .is (.bool true)), (105, .is (.bool true)), (106, .is (.agg (bC 32 A))), (107, .is (.slice (some q0) n0 c0)), (108, .is (.slice (some qi) k c1)), (109, .is (.int .i64 (j : Int))), (110, .is (.pointer (some (qi.add j)))), (111, .is (.int .i64 (x : Int))), (112, .is (.pointer (some (q0.add x)))), (113, .is (.string (S0 x))), (114, .is (.agg #[.int .i64 OI, .int .i64 OC, .slice q' L.length c'])), (115, .is (.bool true)), (116, .is (.bool true)), (117, .is (.bool true)), (118, .is (.bool true)), (119, .is (.bool true)), (6, .is (.bool true))] (by kernel_rfl) (by kernel_rfl) ?_ ?_
              · refine ⟨fun t w1 hf hk hp => ?_, ?_⟩
                · have h13 : slot t 13 = .bool true := hf 13 (by kernel_rfl)
                  clear hf hp
                  refine stepAt_plain rfl ?_
                  exact stepOK_move _ (.inl rfl) h13
                refine ⟨fun t w1 hf hk hp => ?_, ?_⟩
                · have h99 : slot t 99 = .bool true := hp 99 (by kernel_rfl)
                  clear hf hp
                  refine stepAt_plain rfl ?_
                  exact stepOK_move _ (.inl rfl) h99
                refine ⟨fun t w1 hf hk hp => ?_, ?_⟩
                · have h12 : slot t 12 = .pointer (some ⟨g12, 0, none⟩) := hf 12 (by kernel_rfl)
                  have h100 : slot t 100 = .bool true := hp 100 (by kernel_rfl)
                  clear hf hp
                  refine stepAt_on 100 true (by kernel_rfl) h100 ?_
                  exact stepOK_pure (.agg #[.int .i64 OI, .int .i64 OC, .slice q' L.length c']) (loadO rfl h12 (R12.out.kept hk) rfl) rfl
                refine ⟨fun t w1 hf hk hp => ?_, ?_⟩
                · have h14 : slot t 14 = .pointer (some ⟨g14, 0, none⟩) := hf 14 (by kernel_rfl)
                  have h100 : slot t 100 = .bool true := hp 100 (by kernel_rfl)
                  clear hf hp
                  refine stepAt_on 100 true (by kernel_rfl) h100 ?_
                  exact stepOK_pure (.agg #[.int .i64 OI, .int .i64 OC, .slice q9 L.length c9]) (loadO rfl h14 (R14.out.kept hk) rfl) rfl
                refine ⟨fun t w1 hf hk hp => ?_, ?_⟩
                · have h101 : slot t 101 = .agg #[.int .i64 OI, .int .i64 OC, .slice q' L.length c'] := hp 101 (by kernel_rfl)
                  have h102 : slot t 102 = .agg #[.int .i64 OI, .int .i64 OC, .slice q9 L.length c9] := hp 102 (by kernel_rfl)
                  have h100 : slot t 100 = .bool true := hp 100 (by kernel_rfl)
                  clear hf hp
                  refine stepAt_on 100 true (by kernel_rfl) h100 ?_
                  refine stepOK_call #[.agg #[.int .i64 OI, .int .i64 OC, .slice q' L.length c'], .agg #[.int .i64 OI, .int .i64 OC, .slice q9 L.length c9]] rfl (by simp only [List.map_toArray, List.map_cons, List.map_nil, evS, h101, h102]) (by go_simp) ((hSm.out _ _ w1 (HSl.kept _ _ _ _ _ hk X10.out) (HSl.kept _ _ _ _ _ hk Z10.out)).mono fun e w' ⟨he, hk'⟩ => ⟨_, he, hk', rfl⟩)
                refine ⟨fun t w1 hf hk hp => ?_, ?_⟩
                · have h100 : slot t 100 = .bool true := hp 100 (by kernel_rfl)
                  have h103 : slot t 103 = .bool true := hp 103 (by kernel_rfl)
                  clear hf hp
                  refine stepAt_plain rfl ?_
                  refine stepOK_pure (.bool true) ?_ rfl
                  simp only [execOp, evS, h100, h103]
                  go_simp
                refine ⟨fun t w1 hf hk hp => ?_, ?_⟩
                · have h104 : slot t 104 = .bool true := hp 104 (by kernel_rfl)
                  clear hf hp
                  refine stepAt_plain rfl ?_
                  exact stepOK_move _ (.inl rfl) h104
                refine ⟨fun t w1 hf hk hp => ?_, ?_⟩
                · have h11 : slot t 11 = .pointer (some ⟨g11, 0, none⟩) := hf 11 (by kernel_rfl)
                  have h105 : slot t 105 = .bool true := hp 105 (by kernel_rfl)
                  clear hf hp
                  refine stepAt_on 105 true (by kernel_rfl) h105 ?_
                  exact stepOK_pure (.agg (bC 32 A)) (loadHr rfl h11 (R11.out.kept hk)) rfl
                refine ⟨fun t w1 hf hk hp => ?_, ?_⟩
                · have h0 : slot t 0 = .slice (some q0) n0 c0 := hf 0 (by kernel_rfl)
                  have h105 : slot t 105 = .bool true := hp 105 (by kernel_rfl)
                  clear hf hp
                  refine stepAt_on 105 true (by kernel_rfl) h105 ?_
                  exact stepOK_move _ (.inl rfl) h0
                refine ⟨fun t w1 hf hk hp => ?_, ?_⟩
                · have h1 : slot t 1 = .slice (some qi) k c1 := hf 1 (by kernel_rfl)
                  have h105 : slot t 105 = .bool true := hp 105 (by kernel_rfl)
                  clear hf hp
                  refine stepAt_on 105 true (by kernel_rfl) h105 ?_
                  exact stepOK_move _ (.inl rfl) h1
                refine ⟨fun t w1 hf hk hp => ?_, ?_⟩
                · have h2 : slot t 2 = .int .i64 (j : Int) := hf 2 (by kernel_rfl)
                  have h105 : slot t 105 = .bool true := hp 105 (by kernel_rfl)
                  clear hf hp
                  refine stepAt_on 105 true (by kernel_rfl) h105 ?_
                  exact stepOK_move _ (.inl rfl) h2
                refine ⟨fun t w1 hf hk hp => ?_, ?_⟩
                · have h108 : slot t 108 = .slice (some qi) k c1 := hp 108 (by kernel_rfl)
                  have h109 : slot t 109 = .int .i64 (j : Int) := hp 109 (by kernel_rfl)
                  have h105 : slot t 105 = .bool true := hp 105 (by kernel_rfl)
                  clear hf hp
                  refine stepAt_on 105 true (by kernel_rfl) h105 ?_
                  exact stepOK_pure (.pointer (some (qi.add j))) (execIndexI qi k c1 j hj w1 rfl h108 h109) rfl
                refine ⟨fun t w1 hf hk hp => ?_, ?_⟩
                · have h110 : slot t 110 = .pointer (some (qi.add j)) := hp 110 (by kernel_rfl)
                  have h105 : slot t 105 = .bool true := hp 105 (by kernel_rfl)
                  clear hf hp
                  refine stepAt_on 105 true (by kernel_rfl) h105 ?_
                  have hq0 := run_loadI (by have := (HI.out.kept (K10.out.trans hk)).cell j hj; rwa [hx.out] at this)
                  exact stepOK_sem (.int .i64 (x : Int)) (by simp only [execOp, evS, h110]) hq0 rfl
                refine ⟨fun t w1 hf hk hp => ?_, ?_⟩
                · have h107 : slot t 107 = .slice (some q0) n0 c0 := hp 107 (by kernel_rfl)
                  have h111 : slot t 111 = .int .i64 (x : Int) := hp 111 (by kernel_rfl)
                  have h105 : slot t 105 = .bool true := hp 105 (by kernel_rfl)
                  clear hf hp
                  refine stepAt_on 105 true (by kernel_rfl) h105 ?_
                  exact stepOK_pure (.pointer (some (q0.add x))) (execIndexS q0 n0 c0 x hxn w1 rfl h107 h111) rfl
                refine ⟨fun t w1 hf hk hp => ?_, ?_⟩
                · have h112 : slot t 112 = .pointer (some (q0.add x)) := hp 112 (by kernel_rfl)
                  have h105 : slot t 105 = .bool true := hp 105 (by kernel_rfl)
                  clear hf hp
                  refine stepAt_on 105 true (by kernel_rfl) h105 ?_
                  have hq0 := (HS.out.kept (K10.out.trans hk)).load x hxn
                  exact stepOK_sem (.string (S0 x)) (by simp only [execOp, evS, h112]) hq0 rfl
                refine ⟨fun t w1 hf hk hp => ?_, ?_⟩
                · have h12 : slot t 12 = .pointer (some ⟨g12, 0, none⟩) := hf 12 (by kernel_rfl)
                  have h105 : slot t 105 = .bool true := hp 105 (by kernel_rfl)
                  clear hf hp
                  refine stepAt_on 105 true (by kernel_rfl) h105 ?_
                  exact stepOK_pure (.agg #[.int .i64 OI, .int .i64 OC, .slice q' L.length c']) (loadO rfl h12 (R12.out.kept hk) rfl) rfl
                refine ⟨fun t w1 hf hk hp => ?_, ?_⟩
                · have h106 : slot t 106 = .agg (bC 32 A) := hp 106 (by kernel_rfl)
                  have h113 : slot t 113 = .string (S0 x) := hp 113 (by kernel_rfl)
                  have h114 : slot t 114 = .agg #[.int .i64 OI, .int .i64 OC, .slice q' L.length c'] := hp 114 (by kernel_rfl)
                  have h105 : slot t 105 = .bool true := hp 105 (by kernel_rfl)
                  clear hf hp
                  refine stepAt_on 105 true (by kernel_rfl) h105 ?_
                  refine stepOK_call #[.agg (bC 32 A), .string (S0 x), .agg #[.int .i64 OI, .int .i64 OC, .slice q' L.length c']] rfl (by simp only [List.map_toArray, List.map_cons, List.map_nil, evS, h106, h113, h114]) (by go_simp) ((hHCj.out _ w1 (HSl.kept _ _ _ _ _ hk X10.out) (HT.out.kept (K10.out.trans hk))).mono fun e w' ⟨he, hk'⟩ => ⟨_, he, hk', rfl⟩)
                refine ⟨fun t w1 hf hk hp => ?_, ?_⟩
                · have h105 : slot t 105 = .bool true := hp 105 (by kernel_rfl)
                  have h115 : slot t 115 = .bool true := hp 115 (by kernel_rfl)
                  clear hf hp
                  refine stepAt_plain rfl ?_
                  refine stepOK_pure (.bool true) ?_ rfl
                  simp only [execOp, evS, h105, h115]
                  go_simp
                refine ⟨fun t w1 hf hk hp => ?_, ?_⟩
                · have h116 : slot t 116 = .bool true := hp 116 (by kernel_rfl)
                  clear hf hp
                  refine stepAt_plain rfl ?_
                  exact stepOK_move _ (.inl rfl) h116
                refine ⟨fun t w1 hf hk hp => ?_, ?_⟩
                · have h117 : slot t 117 = .bool true := hp 117 (by kernel_rfl)
                  clear hf hp
                  refine stepAt_on 117 true (by kernel_rfl) h117 ?_
                  refine stepOK_call #[] rfl (by simp only [List.map_toArray, List.map_nil]) (by go_simp) ((HA.out w1).mono fun e w' ⟨he, hk'⟩ => ⟨_, he, hk', rfl⟩)
                refine ⟨fun t w1 hf hk hp => ?_, ?_⟩
                · have h117 : slot t 117 = .bool true := hp 117 (by kernel_rfl)
                  have h118 : slot t 118 = .bool true := hp 118 (by kernel_rfl)
                  clear hf hp
                  refine stepAt_plain rfl ?_
                  refine stepOK_pure (.bool true) ?_ rfl
                  simp only [execOp, evS, h117, h118]
                  go_simp
                refine ⟨fun t w1 hf hk hp => ?_, ?_⟩
                · have h119 : slot t 119 = .bool true := hp 119 (by kernel_rfl)
                  clear hf hp
                  refine stepAt_plain rfl ?_
                  exact stepOK_move _ (.inr rfl) h119
                exact trivial
              · intro t w1 hsz hf hk hfacts
                have h6 : slot t 6 = .bool true := hfacts 21 _ rfl 6 rfl
                have h0 : slot t 0 = .slice (some q0) n0 c0 := hf 0 (by kernel_rfl)
                have h1 : slot t 1 = .slice (some qi) k c1 := hf 1 (by kernel_rfl)
                have h2 : slot t 2 = .int .i64 (j : Int) := hf 2 (by kernel_rfl)
                have h11 : slot t 11 = .pointer (some ⟨g11, 0, none⟩) := hf 11 (by kernel_rfl)
                have h12 : slot t 12 = .pointer (some ⟨g12, 0, none⟩) := hf 12 (by kernel_rfl)
                have h13 : slot t 13 = .bool true := hf 13 (by kernel_rfl)
                have h14 : slot t 14 = .pointer (some ⟨g14, 0, none⟩) := hf 14 (by kernel_rfl)
                have harr : t = #[slot t 0, slot t 1, slot t 2, slot t 3, slot t 4, slot t 5, slot t 6, slot t 7, slot t 8, slot t 9, slot t 10, slot t 11, slot t 12, slot t 13, slot t 14, slot t 15, slot t 16, slot t 17, slot t 18, slot t 19, slot t 20, slot t 21, slot t 22, slot t 23, slot t 24, slot t 25, slot t 26, slot t 27, slot t 28, slot t 29, slot t 30, slot t 31, slot t 32, slot t 33, slot t 34, slot t 35, slot t 36, slot t 37, slot t 38, slot t 39, slot t 40, slot t 41, slot t 42, slot t 43, slot t 44, slot t 45, slot t 46, slot t 47, slot t 48, slot t 49, slot t 50, slot t 51, slot t 52, slot t 53, slot t 54, slot t 55, slot t 56, slot t 57, slot t 58, slot t 59, slot t 60, slot t 61, slot t 62, slot t 63, slot t 64, slot t 65, slot t 66, slot t 67, slot t 68, slot t 69, slot t 70, slot t 71, slot t 72, slot t 73, slot t 74, slot t 75, slot t 76, slot t 77, slot t 78, slot t 79, slot t 80, slot t 81, slot t 82, slot t 83, slot t 84, slot t 85, slot t 86, slot t 87, slot t 88, slot t 89, slot t 90, slot t 91, slot t 92, slot t 93, slot t 94, slot t 95, slot t 96, slot t 97, slot t 98, slot t 99, slot t 100, slot t 101, slot t 102, slot t 103, slot t 104, slot t 105, slot t 106, slot t 107, slot t 108, slot t 109, slot t 110, slot t 111, slot t 112, slot t 113, slot t 114, slot t 115, slot t 116, slot t 117, slot t 118, slot t 119] := arr_eq t 120 hsz
                rw [harr, h6, h0, h1, h2, h11, h12, h13, h14]
                clear harr hfacts hf h6 h0 h1 h2 h11 h12 h13 h14
                generalize slot t 3 = x3; generalize slot t 4 = x4; generalize slot t 5 = x5; generalize slot t 7 = x7; generalize slot t 8 = x8; generalize slot t 9 = x9; generalize slot t 10 = x10; generalize slot t 15 = x15; generalize slot t 16 = x16; generalize slot t 17 = x17; generalize slot t 18 = x18; generalize slot t 19 = x19
                generalize slot t 20 = x20; generalize slot t 21 = x21; generalize slot t 22 = x22; generalize slot t 23 = x23; generalize slot t 24 = x24; generalize slot t 25 = x25; generalize slot t 26 = x26; generalize slot t 27 = x27; generalize slot t 28 = x28; generalize slot t 29 = x29; generalize slot t 30 = x30; generalize slot t 31 = x31
                generalize slot t 32 = x32; generalize slot t 33 = x33; generalize slot t 34 = x34; generalize slot t 35 = x35; generalize slot t 36 = x36; generalize slot t 37 = x37; generalize slot t 38 = x38; generalize slot t 39 = x39; generalize slot t 40 = x40; generalize slot t 41 = x41; generalize slot t 42 = x42; generalize slot t 43 = x43
                generalize slot t 44 = x44; generalize slot t 45 = x45; generalize slot t 46 = x46; generalize slot t 47 = x47; generalize slot t 48 = x48; generalize slot t 49 = x49; generalize slot t 50 = x50; generalize slot t 51 = x51; generalize slot t 52 = x52; generalize slot t 53 = x53; generalize slot t 54 = x54; generalize slot t 55 = x55
                generalize slot t 56 = x56; generalize slot t 57 = x57; generalize slot t 58 = x58; generalize slot t 59 = x59; generalize slot t 60 = x60; generalize slot t 61 = x61; generalize slot t 62 = x62; generalize slot t 63 = x63; generalize slot t 64 = x64; generalize slot t 65 = x65; generalize slot t 66 = x66; generalize slot t 67 = x67
                generalize slot t 68 = x68; generalize slot t 69 = x69; generalize slot t 70 = x70; generalize slot t 71 = x71; generalize slot t 72 = x72; generalize slot t 73 = x73; generalize slot t 74 = x74; generalize slot t 75 = x75; generalize slot t 76 = x76; generalize slot t 77 = x77; generalize slot t 78 = x78; generalize slot t 79 = x79
                generalize slot t 80 = x80; generalize slot t 81 = x81; generalize slot t 82 = x82; generalize slot t 83 = x83; generalize slot t 84 = x84; generalize slot t 85 = x85; generalize slot t 86 = x86; generalize slot t 87 = x87; generalize slot t 88 = x88; generalize slot t 89 = x89; generalize slot t 90 = x90; generalize slot t 91 = x91
                generalize slot t 92 = x92; generalize slot t 93 = x93; generalize slot t 94 = x94; generalize slot t 95 = x95; generalize slot t 96 = x96; generalize slot t 97 = x97; generalize slot t 98 = x98; generalize slot t 99 = x99; generalize slot t 100 = x100; generalize slot t 101 = x101; generalize slot t 102 = x102; generalize slot t 103 = x103
                generalize slot t 104 = x104; generalize slot t 105 = x105; generalize slot t 106 = x106; generalize slot t 107 = x107; generalize slot t 108 = x108; generalize slot t 109 = x109; generalize slot t 110 = x110; generalize slot t 111 = x111; generalize slot t 112 = x112; generalize slot t 113 = x113; generalize slot t 114 = x114; generalize slot t 115 = x115
                generalize slot t 116 = x116; generalize slot t 117 = x117; generalize slot t 118 = x118; generalize slot t 119 = x119
                clear hsz t
                have KF := Lib.hid (K10.out.trans hk)
                clear hk
                go_wp2_with fail
                go_ret
                exact ⟨rfl, KF.out⟩
            · obtain ⟨h1, h2, h3, h4⟩ := hout.out hii
              subst h1
              subst h2
              subst h3
              subst h4
              have hSm : Hid (∀ w, HSl 0 (lh []) (.slice q' 0 c') w → Calls Tryd.prog 22 #[.agg #[.int .i64 0, .int .i64 0, .slice q' 0 c'], .agg #[.int .i64 0, .int .i64 0, .slice none 0 0]] w fun e w' => e = .returned (.bool true) ∧ Kept w w') := Lib.hid fun w hv => by
                have := refSame_any 0 0 0 0 0 0 (lh []) (fun _ => []) (.slice q' 0 c') (.slice none 0 0) w hv ⟨none, 0, rfl, Nat.le_refl _, Nat.zero_le _, HAt.zero _ _ _⟩
                rwa [sameO_nil] at this
              have hXX : Hid (HSl 0 (lh []) (.slice q' 0 c') u8) := X8
              obtain ⟨E, hE⟩ : ∃ E, E = decide (a2 < 0) := ⟨_, rfl⟩
              have hd3 : decide (a2 < 0) = E := hE.symm
              have hd4 : E = false → decide (a2 ≥ (k : Int)) = true := fun h => decide_eq_true (by have := of_decide_eq_false (hE.symm.trans h); omega)
              have hd4' : E = false → decide ((k : Int) ≤ a2) = true := fun h => decide_eq_true (by have := of_decide_eq_false (hE.symm.trans h); omega)
              clear hE hin hout HOp HHC hii X8 hlt hd2 hd2'
              cases E with
              | true =>
                clear hd4 hd4'
                go_wp2_with (refine park_at 83 rfl ?_)
                refine unpark ?_
                refine wpList_table 8 [(83, .is (.agg #[.int .i64 0, .int .i64 0, .slice q' 0 c'])), (84, .is (.agg #[.int .i64 0, .int .i64 0, .slice none 0 0])), (85, .is (.bool true)), (86, .is (.bool true)), (87, .is (.bool true)), (88, .is (.bool true)), (89, .is (.bool true)), (6, .is (.bool true))] (by kernel_rfl) ?_ ?_
                · refine ⟨fun t w1 hf hk hp => ?_, ?_⟩
                  · have h12 : slot t 12 = .pointer (some ⟨g12, 0, none⟩) := hf 12 (by kernel_rfl)
                    have h82 : slot t 82 = .bool true := hf 82 (by kernel_rfl)
                    clear hf hp
                    refine stepAt_on 82 true (by kernel_rfl) h82 ?_
                    exact stepOK_pure (.agg #[.int .i64 0, .int .i64 0, .slice q' 0 c']) (loadO rfl h12 (R12.out.kept hk) rfl) rfl
                  refine ⟨fun t w1 hf hk hp => ?_, ?_⟩
                  · have h82 : slot t 82 = .bool true := hf 82 (by kernel_rfl)
                    clear hf hp
                    refine stepAt_on 82 true (by kernel_rfl) h82 ?_
                    exact stepOK_pure (.agg #[.int .i64 0, .int .i64 0, .slice none 0 0]) (execBuild0 rfl (run_buildO w1)) rfl
                  refine ⟨fun t w1 hf hk hp => ?_, ?_⟩
                  · have h83 : slot t 83 = .agg #[.int .i64 0, .int .i64 0, .slice q' 0 c'] := hp 83 (by kernel_rfl)
                    have h84 : slot t 84 = .agg #[.int .i64 0, .int .i64 0, .slice none 0 0] := hp 84 (by kernel_rfl)
                    have h82 : slot t 82 = .bool true := hf 82 (by kernel_rfl)
                    clear hf hp
                    refine stepAt_on 82 true (by kernel_rfl) h82 ?_
                    refine stepOK_call #[.agg #[.int .i64 0, .int .i64 0, .slice q' 0 c'], .agg #[.int .i64 0, .int .i64 0, .slice none 0 0]] rfl (by simp only [List.map_toArray, List.map_cons, List.map_nil, evS, h83, h84]) (by go_simp) ((hSm.out w1 (HSl.kept _ _ _ _ _ hk hXX.out)).mono fun e w' ⟨he, hk'⟩ => ⟨_, he, hk', rfl⟩)
                  refine ⟨fun t w1 hf hk hp => ?_, ?_⟩
                  · have h82 : slot t 82 = .bool true := hf 82 (by kernel_rfl)
                    have h85 : slot t 85 = .bool true := hp 85 (by kernel_rfl)
                    clear hf hp
                    refine stepAt_plain rfl ?_
                    refine stepOK_pure (.bool true) ?_ rfl
                    simp only [execOp, evS, h82, h85]
                    go_simp
                  refine ⟨fun t w1 hf hk hp => ?_, ?_⟩
                  · have h86 : slot t 86 = .bool true := hp 86 (by kernel_rfl)
                    clear hf hp
                    refine stepAt_plain rfl ?_
                    exact stepOK_move _ (.inl rfl) h86
                  refine ⟨fun t w1 hf hk hp => ?_, ?_⟩
                  · have h87 : slot t 87 = .bool true := hp 87 (by kernel_rfl)
                    clear hf hp
                    refine stepAt_on 87 true (by kernel_rfl) h87 ?_
                    refine stepOK_call #[] rfl (by simp only [List.map_toArray, List.map_nil]) (by go_simp) ((HA.out w1).mono fun e w' ⟨he, hk'⟩ => ⟨_, he, hk', rfl⟩)
                  refine ⟨fun t w1 hf hk hp => ?_, ?_⟩
                  · have h87 : slot t 87 = .bool true := hp 87 (by kernel_rfl)
                    have h88 : slot t 88 = .bool true := hp 88 (by kernel_rfl)
                    clear hf hp
                    refine stepAt_plain rfl ?_
                    refine stepOK_pure (.bool true) ?_ rfl
                    simp only [execOp, evS, h87, h88]
                    go_simp
                  refine ⟨fun t w1 hf hk hp => ?_, ?_⟩
                  · have h89 : slot t 89 = .bool true := hp 89 (by kernel_rfl)
                    clear hf hp
                    refine stepAt_plain rfl ?_
                    exact stepOK_move _ (.inr rfl) h89
                  exact trivial
                · intro t w1 hsz hf hk hfacts
                  have h6 : slot t 6 = .bool true := hfacts 6 (by kernel_rfl)
                  have h12 : slot t 12 = .pointer (some ⟨g12, 0, none⟩) := hf 12 (by kernel_rfl)
                  have h82 : slot t 82 = .bool true := hf 82 (by kernel_rfl)
                  have harr : t = #[slot t 0, slot t 1, slot t 2, slot t 3, slot t 4, slot t 5, slot t 6, slot t 7, slot t 8, slot t 9, slot t 10, slot t 11, slot t 12, slot t 13, slot t 14, slot t 15, slot t 16, slot t 17, slot t 18, slot t 19, slot t 20, slot t 21, slot t 22, slot t 23, slot t 24, slot t 25, slot t 26, slot t 27, slot t 28, slot t 29, slot t 30, slot t 31, slot t 32, slot t 33, slot t 34, slot t 35, slot t 36, slot t 37, slot t 38, slot t 39, slot t 40, slot t 41, slot t 42, slot t 43, slot t 44, slot t 45, slot t 46, slot t 47, slot t 48, slot t 49, slot t 50, slot t 51, slot t 52, slot t 53, slot t 54, slot t 55, slot t 56, slot t 57, slot t 58, slot t 59, slot t 60, slot t 61, slot t 62, slot t 63, slot t 64, slot t 65, slot t 66, slot t 67, slot t 68, slot t 69, slot t 70, slot t 71, slot t 72, slot t 73, slot t 74, slot t 75, slot t 76, slot t 77, slot t 78, slot t 79, slot t 80, slot t 81, slot t 82, slot t 83, slot t 84, slot t 85, slot t 86, slot t 87, slot t 88, slot t 89, slot t 90, slot t 91, slot t 92, slot t 93, slot t 94, slot t 95, slot t 96, slot t 97, slot t 98, slot t 99, slot t 100, slot t 101, slot t 102, slot t 103, slot t 104, slot t 105, slot t 106, slot t 107, slot t 108, slot t 109, slot t 110, slot t 111, slot t 112, slot t 113, slot t 114, slot t 115, slot t 116, slot t 117, slot t 118, slot t 119] := arr_eq t 120 hsz
                  rw [harr, h6, h12, h82]
                  clear harr hfacts hf h6 h12 h82
                  generalize slot t 0 = x0; generalize slot t 1 = x1; generalize slot t 2 = x2; generalize slot t 3 = x3; generalize slot t 4 = x4; generalize slot t 5 = x5; generalize slot t 7 = x7; generalize slot t 8 = x8; generalize slot t 9 = x9; generalize slot t 10 = x10; generalize slot t 11 = x11; generalize slot t 13 = x13
                  generalize slot t 14 = x14; generalize slot t 15 = x15; generalize slot t 16 = x16; generalize slot t 17 = x17; generalize slot t 18 = x18; generalize slot t 19 = x19; generalize slot t 20 = x20; generalize slot t 21 = x21; generalize slot t 22 = x22; generalize slot t 23 = x23; generalize slot t 24 = x24; generalize slot t 25 = x25
                  generalize slot t 26 = x26; generalize slot t 27 = x27; generalize slot t 28 = x28; generalize slot t 29 = x29; generalize slot t 30 = x30; generalize slot t 31 = x31; generalize slot t 32 = x32; generalize slot t 33 = x33; generalize slot t 34 = x34; generalize slot t 35 = x35; generalize slot t 36 = x36; generalize slot t 37 = x37
                  generalize slot t 38 = x38; generalize slot t 39 = x39; generalize slot t 40 = x40; generalize slot t 41 = x41; generalize slot t 42 = x42; generalize slot t 43 = x43; generalize slot t 44 = x44; generalize slot t 45 = x45; generalize slot t 46 = x46; generalize slot t 47 = x47; generalize slot t 48 = x48; generalize slot t 49 = x49
                  generalize slot t 50 = x50; generalize slot t 51 = x51; generalize slot t 52 = x52; generalize slot t 53 = x53; generalize slot t 54 = x54; generalize slot t 55 = x55; generalize slot t 56 = x56; generalize slot t 57 = x57; generalize slot t 58 = x58; generalize slot t 59 = x59; generalize slot t 60 = x60; generalize slot t 61 = x61
                  generalize slot t 62 = x62; generalize slot t 63 = x63; generalize slot t 64 = x64; generalize slot t 65 = x65; generalize slot t 66 = x66; generalize slot t 67 = x67; generalize slot t 68 = x68; generalize slot t 69 = x69; generalize slot t 70 = x70; generalize slot t 71 = x71; generalize slot t 72 = x72; generalize slot t 73 = x73
                  generalize slot t 74 = x74; generalize slot t 75 = x75; generalize slot t 76 = x76; generalize slot t 77 = x77; generalize slot t 78 = x78; generalize slot t 79 = x79; generalize slot t 80 = x80; generalize slot t 81 = x81; generalize slot t 83 = x83; generalize slot t 84 = x84; generalize slot t 85 = x85; generalize slot t 86 = x86
                  generalize slot t 87 = x87; generalize slot t 88 = x88; generalize slot t 89 = x89; generalize slot t 90 = x90; generalize slot t 91 = x91; generalize slot t 92 = x92; generalize slot t 93 = x93; generalize slot t 94 = x94; generalize slot t 95 = x95; generalize slot t 96 = x96; generalize slot t 97 = x97; generalize slot t 98 = x98
                  generalize slot t 99 = x99; generalize slot t 100 = x100; generalize slot t 101 = x101; generalize slot t 102 = x102; generalize slot t 103 = x103; generalize slot t 104 = x104; generalize slot t 105 = x105; generalize slot t 106 = x106; generalize slot t 107 = x107; generalize slot t 108 = x108; generalize slot t 109 = x109; generalize slot t 110 = x110
                  generalize slot t 111 = x111; generalize slot t 112 = x112; generalize slot t 113 = x113; generalize slot t 114 = x114; generalize slot t 115 = x115; generalize slot t 116 = x116; generalize slot t 117 = x117; generalize slot t 118 = x118; generalize slot t 119 = x119
                  clear hsz t
                  simp only [List.drop_succ_cons, List.drop_zero]
                  have KF := Lib.hid (K8.out.trans hk)
                  clear hk
                  go_wp2_with fail
                  go_ret
                  exact ⟨rfl, KF.out⟩
              | false =>
                replace hd4 := hd4 rfl
                replace hd4' := hd4' rfl
                go_wp2_with (refine park_at 83 rfl ?_)
                refine unpark ?_
                refine wpList_table 8 [(83, .is (.agg #[.int .i64 0, .int .i64 0, .slice q' 0 c'])), (84, .is (.agg #[.int .i64 0, .int .i64 0, .slice none 0 0])), (85, .is (.bool true)), (86, .is (.bool true)), (87, .is (.bool true)), (88, .is (.bool true)), (89, .is (.bool true)), (6, .is (.bool true))] (by kernel_rfl) ?_ ?_
                · refine ⟨fun t w1 hf hk hp => ?_, ?_⟩
                  · have h12 : slot t 12 = .pointer (some ⟨g12, 0, none⟩) := hf 12 (by kernel_rfl)
                    have h82 : slot t 82 = .bool true := hf 82 (by kernel_rfl)
                    clear hf hp
                    refine stepAt_on 82 true (by kernel_rfl) h82 ?_
                    exact stepOK_pure (.agg #[.int .i64 0, .int .i64 0, .slice q' 0 c']) (loadO rfl h12 (R12.out.kept hk) rfl) rfl
                  refine ⟨fun t w1 hf hk hp => ?_, ?_⟩
                  · have h82 : slot t 82 = .bool true := hf 82 (by kernel_rfl)
                    clear hf hp
                    refine stepAt_on 82 true (by kernel_rfl) h82 ?_
                    exact stepOK_pure (.agg #[.int .i64 0, .int .i64 0, .slice none 0 0]) (execBuild0 rfl (run_buildO w1)) rfl
                  refine ⟨fun t w1 hf hk hp => ?_, ?_⟩
                  · have h83 : slot t 83 = .agg #[.int .i64 0, .int .i64 0, .slice q' 0 c'] := hp 83 (by kernel_rfl)
                    have h84 : slot t 84 = .agg #[.int .i64 0, .int .i64 0, .slice none 0 0] := hp 84 (by kernel_rfl)
                    have h82 : slot t 82 = .bool true := hf 82 (by kernel_rfl)
                    clear hf hp
                    refine stepAt_on 82 true (by kernel_rfl) h82 ?_
                    refine stepOK_call #[.agg #[.int .i64 0, .int .i64 0, .slice q' 0 c'], .agg #[.int .i64 0, .int .i64 0, .slice none 0 0]] rfl (by simp only [List.map_toArray, List.map_cons, List.map_nil, evS, h83, h84]) (by go_simp) ((hSm.out w1 (HSl.kept _ _ _ _ _ hk hXX.out)).mono fun e w' ⟨he, hk'⟩ => ⟨_, he, hk', rfl⟩)
                  refine ⟨fun t w1 hf hk hp => ?_, ?_⟩
                  · have h82 : slot t 82 = .bool true := hf 82 (by kernel_rfl)
                    have h85 : slot t 85 = .bool true := hp 85 (by kernel_rfl)
                    clear hf hp
                    refine stepAt_plain rfl ?_
                    refine stepOK_pure (.bool true) ?_ rfl
                    simp only [execOp, evS, h82, h85]
                    go_simp
                  refine ⟨fun t w1 hf hk hp => ?_, ?_⟩
                  · have h86 : slot t 86 = .bool true := hp 86 (by kernel_rfl)
                    clear hf hp
                    refine stepAt_plain rfl ?_
                    exact stepOK_move _ (.inl rfl) h86
                  refine ⟨fun t w1 hf hk hp => ?_, ?_⟩
                  · have h87 : slot t 87 = .bool true := hp 87 (by kernel_rfl)
                    clear hf hp
                    refine stepAt_on 87 true (by kernel_rfl) h87 ?_
                    refine stepOK_call #[] rfl (by simp only [List.map_toArray, List.map_nil]) (by go_simp) ((HA.out w1).mono fun e w' ⟨he, hk'⟩ => ⟨_, he, hk', rfl⟩)
                  refine ⟨fun t w1 hf hk hp => ?_, ?_⟩
                  · have h87 : slot t 87 = .bool true := hp 87 (by kernel_rfl)
                    have h88 : slot t 88 = .bool true := hp 88 (by kernel_rfl)
                    clear hf hp
                    refine stepAt_plain rfl ?_
                    refine stepOK_pure (.bool true) ?_ rfl
                    simp only [execOp, evS, h87, h88]
                    go_simp
                  refine ⟨fun t w1 hf hk hp => ?_, ?_⟩
                  · have h89 : slot t 89 = .bool true := hp 89 (by kernel_rfl)
                    clear hf hp
                    refine stepAt_plain rfl ?_
                    exact stepOK_move _ (.inr rfl) h89
                  exact trivial
                · intro t w1 hsz hf hk hfacts
                  have h6 : slot t 6 = .bool true := hfacts 6 (by kernel_rfl)
                  have h12 : slot t 12 = .pointer (some ⟨g12, 0, none⟩) := hf 12 (by kernel_rfl)
                  have h82 : slot t 82 = .bool true := hf 82 (by kernel_rfl)
                  have harr : t = #[slot t 0, slot t 1, slot t 2, slot t 3, slot t 4, slot t 5, slot t 6, slot t 7, slot t 8, slot t 9, slot t 10, slot t 11, slot t 12, slot t 13, slot t 14, slot t 15, slot t 16, slot t 17, slot t 18, slot t 19, slot t 20, slot t 21, slot t 22, slot t 23, slot t 24, slot t 25, slot t 26, slot t 27, slot t 28, slot t 29, slot t 30, slot t 31, slot t 32, slot t 33, slot t 34, slot t 35, slot t 36, slot t 37, slot t 38, slot t 39, slot t 40, slot t 41, slot t 42, slot t 43, slot t 44, slot t 45, slot t 46, slot t 47, slot t 48, slot t 49, slot t 50, slot t 51, slot t 52, slot t 53, slot t 54, slot t 55, slot t 56, slot t 57, slot t 58, slot t 59, slot t 60, slot t 61, slot t 62, slot t 63, slot t 64, slot t 65, slot t 66, slot t 67, slot t 68, slot t 69, slot t 70, slot t 71, slot t 72, slot t 73, slot t 74, slot t 75, slot t 76, slot t 77, slot t 78, slot t 79, slot t 80, slot t 81, slot t 82, slot t 83, slot t 84, slot t 85, slot t 86, slot t 87, slot t 88, slot t 89, slot t 90, slot t 91, slot t 92, slot t 93, slot t 94, slot t 95, slot t 96, slot t 97, slot t 98, slot t 99, slot t 100, slot t 101, slot t 102, slot t 103, slot t 104, slot t 105, slot t 106, slot t 107, slot t 108, slot t 109, slot t 110, slot t 111, slot t 112, slot t 113, slot t 114, slot t 115, slot t 116, slot t 117, slot t 118, slot t 119] := arr_eq t 120 hsz
                  rw [harr, h6, h12, h82]
                  clear harr hfacts hf h6 h12 h82
                  generalize slot t 0 = x0; generalize slot t 1 = x1; generalize slot t 2 = x2; generalize slot t 3 = x3; generalize slot t 4 = x4; generalize slot t 5 = x5; generalize slot t 7 = x7; generalize slot t 8 = x8; generalize slot t 9 = x9; generalize slot t 10 = x10; generalize slot t 11 = x11; generalize slot t 13 = x13
                  generalize slot t 14 = x14; generalize slot t 15 = x15; generalize slot t 16 = x16; generalize slot t 17 = x17; generalize slot t 18 = x18; generalize slot t 19 = x19; generalize slot t 20 = x20; generalize slot t 21 = x21; generalize slot t 22 = x22; generalize slot t 23 = x23; generalize slot t 24 = x24; generalize slot t 25 = x25
                  generalize slot t 26 = x26; generalize slot t 27 = x27; generalize slot t 28 = x28; generalize slot t 29 = x29; generalize slot t 30 = x30; generalize slot t 31 = x31; generalize slot t 32 = x32; generalize slot t 33 = x33; generalize slot t 34 = x34; generalize slot t 35 = x35; generalize slot t 36 = x36; generalize slot t 37 = x37
                  generalize slot t 38 = x38; generalize slot t 39 = x39; generalize slot t 40 = x40; generalize slot t 41 = x41; generalize slot t 42 = x42; generalize slot t 43 = x43; generalize slot t 44 = x44; generalize slot t 45 = x45; generalize slot t 46 = x46; generalize slot t 47 = x47; generalize slot t 48 = x48; generalize slot t 49 = x49
                  generalize slot t 50 = x50; generalize slot t 51 = x51; generalize slot t 52 = x52; generalize slot t 53 = x53; generalize slot t 54 = x54; generalize slot t 55 = x55; generalize slot t 56 = x56; generalize slot t 57 = x57; generalize slot t 58 = x58; generalize slot t 59 = x59; generalize slot t 60 = x60; generalize slot t 61 = x61
                  generalize slot t 62 = x62; generalize slot t 63 = x63; generalize slot t 64 = x64; generalize slot t 65 = x65; generalize slot t 66 = x66; generalize slot t 67 = x67; generalize slot t 68 = x68; generalize slot t 69 = x69; generalize slot t 70 = x70; generalize slot t 71 = x71; generalize slot t 72 = x72; generalize slot t 73 = x73
                  generalize slot t 74 = x74; generalize slot t 75 = x75; generalize slot t 76 = x76; generalize slot t 77 = x77; generalize slot t 78 = x78; generalize slot t 79 = x79; generalize slot t 80 = x80; generalize slot t 81 = x81; generalize slot t 83 = x83; generalize slot t 84 = x84; generalize slot t 85 = x85; generalize slot t 86 = x86
                  generalize slot t 87 = x87; generalize slot t 88 = x88; generalize slot t 89 = x89; generalize slot t 90 = x90; generalize slot t 91 = x91; generalize slot t 92 = x92; generalize slot t 93 = x93; generalize slot t 94 = x94; generalize slot t 95 = x95; generalize slot t 96 = x96; generalize slot t 97 = x97; generalize slot t 98 = x98
                  generalize slot t 99 = x99; generalize slot t 100 = x100; generalize slot t 101 = x101; generalize slot t 102 = x102; generalize slot t 103 = x103; generalize slot t 104 = x104; generalize slot t 105 = x105; generalize slot t 106 = x106; generalize slot t 107 = x107; generalize slot t 108 = x108; generalize slot t 109 = x109; generalize slot t 110 = x110
                  generalize slot t 111 = x111; generalize slot t 112 = x112; generalize slot t 113 = x113; generalize slot t 114 = x114; generalize slot t 115 = x115; generalize slot t 116 = x116; generalize slot t 117 = x117; generalize slot t 118 = x118; generalize slot t 119 = x119
                  clear hsz t
                  simp only [List.drop_succ_cons, List.drop_zero]
                  have KF := Lib.hid (K8.out.trans hk)
                  clear hk
                  go_wp2_with fail
                  go_ret
                  exact ⟨rfl, KF.out⟩
      · have e4 : mkE n0 n1 I1 = 3 := if_neg hr
        rw [e4] at HO
        rw [decide_eq_false hr] at HR
        clear hr e4 hz0 hz0' hn0 hn1
        generalize mkC n0 n1 I1 = NC at HO
        generalize mkK n0 n1 I1 = NK at HO
        generalize (mkL S0 n0 n1 I1).length = ML at HO
        go_wp2_with fail
        refine HO.out.mono ?_
        rintro e u1 ⟨pp, pc, q, qc, rfl, _, _, _, k1⟩
        have K1 := Lib.hid k1
        clear k1 HO
        go_wp2_with (refine wpList_store_made rfl 28 _ _ rfl _ _ #[.int .i64 NC, .slice pp NK pc, .slice q ML qc] rfl rfl 28 _ rfl (manyR_size _ _ _) rfl (manyR_one _ _ _ _ _ _ _) ?_; intro u2 R7 k2)
        have K2 := Lib.hid (K1.out.trans k2.out)
        clear k2 K1
        refine (HR.out u2 (HI.out.kept K2.out)).mono ?_
        rintro e u3 ⟨rfl, k3⟩
        have K3 := Lib.hid (K2.out.trans k3)
        clear k3 K2 R7 HR
        go_wp2_with fail
        refine (HA.out u3).mono ?_
        rintro e u4 ⟨rfl, k4⟩
        have K4 := Lib.hid (K3.out.trans k4)
        clear k4 K3
        go_wp2_with fail
        go_ret
        exact ⟨rfl, K4.out⟩

set_option maxRecDepth 100000 in
set_option maxHeartbeats 1000000 in
theorem lifted (os : Os) (started : os.Started) (H : Type) (enc : TypeId × Value → H) :
    ReturnsInHanded {} Tryd.checked os 5 .any (fun w args => (Rows.multiOnesSpec.pre enc Tryd.prog Tryd.f5 [] false w args ∧ laidMetH Tryd.prog Rows.multiOnesRow.laid w) ∧ sizedMet enc Tryd.prog Tryd.f5 (OpenSpec.ofChange Rows.multiOnesSpec) false w args)
      (Rows.multiOnesSpec.post enc Tryd.prog Tryd.f5 false true false false) := by
  refine returnsInHanded_of_change_and (C := Tryd.checked) (X := fun w _ => laidMetH Tryd.prog Rows.multiOnesRow.laid w) (fun _ _ _ hh h => h.of_heap hh) own started (by kernel_rfl) Tryd.func5
    (ChangeSpec.witness_shaped (enc := enc) (C := Tryd.checked) (os := os) (X := fun w _ => laidMetH Tryd.prog Rows.multiOnesRow.laid w) false (World.doorLaid Tryd.prog 400 os) #[.slice none 0 0, .slice none 0 0, .int .i64 0] 8 rfl (World.shaped_of_RefB (by kernel_rfl) (by kernel_rfl)) (by kernel_rfl) (by kernel_rfl) (by kernel_rfl) (door_met os _)) ?_
  intro W base args ds gs before hval0 hW _ hsz0 hL _
  have hval : ∀ (j : Nat) t v, Tryd.f5.params[j]? = some t → args[j]? = some v → Value.okWide Tryd.prog W .any base t v := hval0
  have hsz : (DataW.weightsEach Tryd.prog (Tryd.f5.params.toList ++ Rows.multiOnesSpec.plain.varTypes Tryd.prog) (ds ++ gs)).all (· ≤ reachBytes) = true := hsz0
  have hW' := hW
  obtain ⟨p, q, hA0, hV, rfl, hfz, hnd⟩ := hW
  have hA : DataW.TrodAll enc Tryd.prog W 0 (fun _ => true) true Tryd.f5.params.toList args.toList ds p := hA0
  have hAk := hA
  rw [Tryd.params5] at hA hval hsz
  obtain ⟨v0, vs0, d0, ds0, p0_, q0_, hargs, rfl, rfl, h0, r0_⟩ := trodAll_cons hA
  obtain ⟨v1, vs1, d1, ds1, p1_, q1_, rfl, rfl, rfl, h1, r1_⟩ := trodAll_cons r0_
  obtain ⟨v2, vs2, d2, ds2, p2_, q2_, rfl, rfl, rfl, h2, r2_⟩ := trodAll_cons r1_
  obtain ⟨rfl, rfl, rfl⟩ := trodAll_nil r2_
  obtain rfl : args = #[v0, v1, v2] := by cases args; simp_all
  obtain ⟨rfl, rfl⟩ := trodVars_none hV
  have hlt : ∀ x ∈ (p0_ ++ (p1_ ++ (p2_ ++ ([])))), x.block < W.heap.size := fun x hx => by simpa using hW'.lt x (by simpa using hx)
  obtain ⟨p0, n0, c0, S0, z0, rfl, e0, rr0⟩ := open_sslice Tryd.underlying22 Tryd.underlying9 (by kernel_rfl) (hval 0 22 v0 rfl rfl) h0
  obtain ⟨p1, n1, c1, I1, z1, rfl, e1, y1⟩ := open_islice Tryd.underlying23 Tryd.underlying3 (by kernel_rfl) (hval 1 23 v1 rfl rfl) h1
  obtain ⟨a2, rfl, rfl, rfl, w2⟩ := open_int Tryd.underlying3 (hval 2 3 v2 rfl rfl) h2
  have r0 := (rr0 hsz (J := 0) rfl rfl).2
  clear hA0 hval0
  refine (walk p0 n0 c0 S0 z0 r0 p1 n1 c1 I1 z1 y1 a2 w2 W e0 e1 (tab_of_laid hL)).mono fun e W' ⟨he, hg⟩ => ?_
  subst he
  exact ⟨_, rfl, ⟨_, _, _, [], _, [], hW', trodAll_cons_mk (shut_bool Tryd.underlying4 _) trodAll_mk0, trodAll_stays laidOut hg (by kernel_rfl) hAk hlt (fun x hx => by simpa using hlt x hx), rfl, Kept.frame hg _, fun h => by cases h⟩⟩

theorem over : Rows.multiOnesRow.holds Tryd.pinned (OpenSpec.ofChange Rows.multiOnesSpec) :=
  OpenClaim.holds_of_wide 5 Tryd.f5 rfl rfl rfl rfl rfl rfl rfl ⟨rfl, rfl, rfl, rfl, rfl⟩ rfl rfl rfl rfl rfl (by kernel_rfl) Tryd.func5 (by kernel_rfl)
    (of_decide_eq_true (by kernel_rfl)) (by unfold Func.isWrapper; first | (rw [if_pos (by decide +kernel)]; kernel_rfl) | (rw [if_neg (by decide +kernel)]; exact ⟨rfl, rfl⟩))
    (fun os started H enc _ => lifted os started H enc)
end Go.Proofs.YtggpjhldmaflaaaDoor.multiOnes
namespace Go.Proofs.YtggpjhldmaflaaaDoor
theorem multiOnes_holds : Rows.MultiOnesSaid := multiOnes.over
theorem multiOnes_card : Rows.MultiOnesCardSaid :=
  Claim7.holds_tied_plain_at .later [] [.data] true (true, "d35ee8a81d3cf5a6351c78eb7c8ada333cc817468752d51f115c50cb0b0845aa") false
    multiOnes_holds (fun _ h => by cases h) (by kernel_rfl) (fun _ h => by cases h) multiOnes_row_tie rfl ⟨rfl, rfl⟩ (by kernel_rfl) rfl
    (fun f fn hf hfn => by
      obtain rfl : f = 5 := Option.some.inj ((show Tryd.prog.funcNamed "milepost/milepostlaw16.MultiOnes" = some 5 by kernel_rfl).symm.trans hf) |>.symm
      obtain rfl : fn = Tryd.f5 := (Option.some.inj (Tryd.func5.symm.trans hfn)).symm
      refine ⟨by kernel_rfl, fun j t ht => ?_⟩
      have hm : t ∈ Tryd.f5.params.toList := by simpa using Array.mem_of_getElem? ht
      have hall : (Tryd.f5.params.toList.all fun u => !Tryd.prog.wantsStandIn u) = true := by kernel_rfl
      exact (show Tryd.prog.wantsStandIn t = false by simpa using List.all_eq_true.1 hall t hm))
    (by kernel_rfl)
#print axioms multiOnes_card
end Go.Proofs.YtggpjhldmaflaaaDoor
