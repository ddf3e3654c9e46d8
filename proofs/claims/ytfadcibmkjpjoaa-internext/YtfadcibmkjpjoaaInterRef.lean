/-
  Contract of the reference's Next of vectors (milepostref17). Conditions: at most a thousand entries.
-/
import Derived.Test.YtfadcibmkjpjoaaInterForm
import Derived.Deep.CutRange
namespace Go.Proofs.Ytfadcibmkjpjoaa
set_option maxRecDepth 4000
open Go.RowKit

theorem HSl.zero (F : Nat → List UInt8) (w : World) : HSl 0 F (.slice none 0 0) w := ⟨none, 0, rfl, Nat.le_refl _, Nat.zero_le _, HAt.zero _ _ _⟩
theorem execPred {o : Oper} {t : Array Value} {x : Operand} (n : Nat) (hn : 0 < n) (hn2 : n ≤ 1000000) (w : World) (ho : o.op = .binOp .sub 3 x (.const (.int .i64 1)) 3) (hx : evS t x = .int .i64 (n : Int)) :
    (execOp (evS t) o).run Try.prog w = .ok (.value (.int .i64 ((n - 1 : Nat) : Int))) w := by
  have e : ((n - 1 : Nat) : Int) = (n : Int) - 1 := by omega
  have hw : IntKind.i64.wrap ((n : Int) - 1) = (n : Int) - 1 := by simp only [IntKind.wrap, IntKind.signed, IntKind.bits]; simp; omega
  have hy : evS t (.const (.int .i64 1)) = .int .i64 1 := rfl
  rw [e]
  unfold execOp
  rw [ho]
  simp only [hx, hy]
  go_simp
set_option maxRecDepth 100000 in
set_option maxHeartbeats 2000000 in
theorem refNext17_any : InterNextC 10 := by
  intro n F v w h a hv hn hh ha1 ha2
  obtain ⟨p, c, rfl, hc, hcm, hF⟩ := hv
  by_cases h0 : n = 0
  · subst h0
    have HN : Hid (nxN 0 (lvlC a) = 0) := Lib.hid rfl
    have HK := Lib.hid ((Kept.refl w).alloc (.cells (bC 32 h) 24))
    clear hF hc hcm hn
    go_enter Try.func10, Try.ntmps10
    go_wp2
    go_ret
    exact ⟨_, rfl, by rw [HN.out]; exact HSl.zero _ _, HK.out⟩
  · have hd0 : ((n : Int) == 0) = false := by simp; omega
    have HL := Lib.hid (lvlC_le a)
    have HC : Hid (∀ l : Int, l = (if a < 0 then 0 else a) → (if l > 255 then 255 else l) = ((lvlC a : Nat) : Int)) := Lib.hid fun l hl => by
      subst hl; unfold lvlC; split <;> split <;> omega
    have HN := Lib.hid (nxN_pos n (lvlC a) (by omega))
    have HG := Lib.hid (nxF_length F n h (lvlC a) hF.length hh (by omega))
    have HQ : Hid (∀ i, nxF F n h (lvlC a) i = if i ≤ lvlC a ∧ i + 1 < nxN n (lvlC a) then h else if i < n then F i else F (n - 1)) := Lib.hid fun i => rfl
    generalize nxF F n h (lvlC a) = G at HG HQ ⊢
    generalize nxN n (lvlC a) = M at HN HQ ⊢
    generalize lvlC a = L at HL HC HN HQ
    obtain ⟨q, rfl, _⟩ := hF.some (show 0 < n by omega)
    have HF := Lib.hid hF
    have H0 := Lib.hid (show 0 < n by omega)
    have R4 := Lib.hid (Rowz.new w (bC 32 h) 24)
    have K4 := Lib.hid ((Kept.refl w).alloc (.cells (bC 32 h) 24))
    clear hF hc hcm h0 hh
    go_enter Try.func10, Try.ntmps10
    obtain ⟨b1, hb1⟩ : ∃ b, decide (a < 0) = b := ⟨_, rfl⟩
    go_upto_if 14 with fail
    replace hb1 := Lib.hid hb1
    generalize w.alloc (.cells (bC 32 h) 24) = v0 at R4 K4 ⊢
    go_cut [2] from 15 to 16 (fun s2 wx => ∃ l : Int, s2 = .int .i64 l ∧ Hid (l = if a < 0 then 0 else a) ∧ v0 = wx)
    case first =>
      cases b1
      · have HX : Hid (a = if a < 0 then 0 else a) := Lib.hid (by rw [if_neg (of_decide_eq_false hb1.out)])
        go_wp2_with fail
        go_meet
        case rel => exact ⟨a, rfl, HX, rfl⟩
      · have HX : Hid (0 = if a < 0 then 0 else a) := Lib.hid (by rw [if_pos (of_decide_eq_true hb1.out)])
        go_wp2_with fail
        go_meet
        case rel => exact ⟨0, rfl, HX, rfl⟩
    case rest =>
      obtain ⟨l, rfl, HL0, rfl⟩ := hcut
      have HC1 := Lib.hid (HC.out l HL0.out)
      clear HL0 HC
      obtain ⟨b2, hb2⟩ : ∃ b, decide (l > 255) = b := ⟨_, rfl⟩
      have hb2' : decide (255 < l) = b2 := hb2
      go_upto_if 16 with fail
      replace hb2 := Lib.hid hb2
      clear hb2'
      go_cut [2] from 17 to 18 (fun s2 wx => s2 = .int .i64 (L : Int) ∧ v0 = wx)
      case first =>
        cases b2
        · have HX : Hid (l = (L : Int)) := Lib.hid (by have := HC1.out; rwa [if_neg (of_decide_eq_false hb2.out)] at this)
          go_wp2_with fail
          go_meet
          case rel => exact ⟨by rw [HX.out], rfl⟩
        · have HX : Hid ((255 : Int) = (L : Int)) := Lib.hid (by have := HC1.out; rwa [if_pos (of_decide_eq_true hb2.out)] at this)
          go_wp2_with fail
          go_meet
          case rel => exact ⟨by rw [HX.out], rfl⟩
      case rest =>
        obtain ⟨rfl, rfl⟩ := hcut
        have hL255 : L ≤ 255 := HL.out
        obtain ⟨b3, hb3⟩ : ∃ b, decide ((L : Int) + 2 < (n : Int)) = b := ⟨_, rfl⟩
        go_upto_if 22 with fail
        replace hb3 := Lib.hid hb3
        go_cut [7] from 23 to 24 (fun s7 wx => s7 = .int .i64 (M : Int) ∧ v0 = wx)
        case first =>
          cases b3
          · have HX : Hid ((L : Int) + 2 = (M : Int)) := Lib.hid (by have := HN.out; have := of_decide_eq_false hb3.out; omega)
            go_wp2_with fail
            go_meet
            case rel => exact ⟨by rw [HX.out], rfl⟩
          · have HX : Hid ((n : Int) = (M : Int)) := Lib.hid (by have := HN.out; have := of_decide_eq_true hb3.out; omega)
            go_wp2_with fail
            go_meet
            case rel => exact ⟨by rw [HX.out], rfl⟩
        case rest =>
          obtain ⟨rfl, rfl⟩ := hcut
          have hM : M ≤ 1000 ∧ n ≤ M ∧ 2 ≤ M := by have := HN.out; have := H0.out; omega
          obtain ⟨hM1, hM2, hM3⟩ := hM
          clear HN HC1 hb1 hb2 hb3
          go_wp2_with fail
          go_loopw [8, 9] (fun v i wr => ∃ k : Nat, k ≤ M ∧ i = .int .i64 (k : Int) ∧ Hid (wr.ownsRow v0.heap.size 24 32 v k (hC k G).toList) ∧ Hid (Kept v0 wr)) (fun _ i _ => M - (intOf i).toNat)
          case atStart => exact ⟨0, by omega, rfl, Lib.hid (World.ownsRow_nil _ _ _ _), Lib.hid (Kept.refl v0)⟩
          case round =>
            rename_i v _
            obtain ⟨k, hk, rfl, O1, K1⟩ := hrel
            by_cases hlt : k < M
            · have hd : decide ((k : Int) < (M : Int)) = true := decide_eq_true (by omega)
              have hd' : decide (k < M) = true := decide_eq_true hlt
              by_cases c1 : k ≤ L ∧ k + 1 < M
              · have hE : Hid (h = G k) := Lib.hid (by rw [HQ.out k, if_pos c1])
                have g1 : decide ((k : Int) ≤ (L : Int)) = true := decide_eq_true (by omega)
                have g1' : decide (k ≤ L) = true := decide_eq_true (by omega)
                have g2 : decide ((k : Int) < (M : Int) - 1) = true := decide_eq_true (by omega)
                clear c1
                go_wp2_with (first
                  | (refine wpList_exec 40 rfl (by rfl) _ _ (load_h rfl rfl (R4.out.kept K1.out)) ?_)
                  | (refine park_at 41 rfl ?_))
                refine unpark ?_
                refine wpList_exec 41 rfl (by rfl) (.slice (some ⟨wr.heap.size, 0, none⟩) 1 1) (wr.alloc (.cells (bC 32 (h)) 24)) (execBuild1 rfl rfl (run_build1h _ _)) ?_
                go_wp2_with (at_builtin; refine wpList_append_hash rfl _ _ rfl v0 _ k G rfl O1 rfl (by omega) K1 hE.out ?_; intro v' w' O3 K3)
                go_roundw
                case measure => simp [intOf]; omega
                case rel => exact ⟨k + 1, by omega, rfl, O3, K3⟩
              · have g0 : Hid (decide ((k : Int) ≤ (L : Int)) = false ∨ (decide ((k : Int) ≤ (L : Int)) = true ∧ decide ((k : Int) < (M : Int) - 1) = false)) := Lib.hid (by
                  by_cases c2 : k ≤ L
                  · exact .inr ⟨decide_eq_true (by omega), decide_eq_false (by omega)⟩
                  · exact .inl (decide_eq_false (by omega)))
                have hG : Hid (G k = if k < n then F k else F (n - 1)) := Lib.hid (by rw [HQ.out k, if_neg c1])
                clear c1
                by_cases c3 : k < n
                · have hE : Hid (F k = G k) := Lib.hid (by rw [hG.out, if_pos c3])
                  have g3 : decide ((k : Int) < (n : Int)) = true := decide_eq_true (by omega)
                  have g3' : decide (k < n) = true := decide_eq_true c3
                  have HFk := Lib.hid (HF.out.kept (K4.out.trans K1.out))
                  rcases g0.out with g1 | ⟨g1, g2⟩
                  all_goals
                    have g1' := g1
                    simp only [Int.ofNat_le] at g1'
                    go_wp2_with (first
                      | (refine wpList_exec 50 rfl (by rfl) _ _ (execIndexH q n c k c3 _ rfl rfl rfl) ?_)
                      | (refine wpList_exec 51 rfl (by rfl) _ _ (load_at k rfl rfl HFk.out c3) ?_)
                      | (refine park_at 52 rfl ?_))
                    refine unpark ?_
                    refine wpList_exec 52 rfl (by rfl) (.slice (some ⟨wr.heap.size, 0, none⟩) 1 1) (wr.alloc (.cells (bC 32 (F k)) 24)) (execBuild1 rfl rfl (run_build1h _ _)) ?_
                    go_wp2_with (at_builtin; refine wpList_append_hash rfl _ _ rfl v0 _ k G rfl O1 rfl (by omega) K1 hE.out ?_; intro v' w' O3 K3)
                    go_roundw
                    case measure => simp [intOf]; omega
                    case rel => exact ⟨k + 1, by omega, rfl, O3, K3⟩
                · have hE : Hid (F (n - 1) = G k) := Lib.hid (by rw [hG.out, if_neg c3])
                  have g3 : decide ((k : Int) < (n : Int)) = false := decide_eq_false (by omega)
                  have g3' : decide (k < n) = false := decide_eq_false c3
                  have HFk := Lib.hid (HF.out.kept (K4.out.trans K1.out))
                  have hn1 : n - 1 < n := by have := H0.out; omega
                  obtain ⟨m, hm⟩ : ∃ m, m = n - 1 := ⟨_, rfl⟩
                  have HP : Hid (∀ {o : Oper} {t : Array Value} {x : Operand} (w : World), o.op = .binOp .sub 3 x (.const (.int .i64 1)) 3 → evS t x = .int .i64 (n : Int) → (execOp (evS t) o).run Try.prog w = .ok (.value (.int .i64 (m : Int))) w) := Lib.hid fun w ho hx => by rw [hm]; exact execPred n H0.out (by omega) w ho hx
                  rw [← hm] at hE hn1
                  clear hm
                  rcases g0.out with g1 | ⟨g1, g2⟩
                  all_goals
                    have g1' := g1
                    simp only [Int.ofNat_le] at g1'
                    go_wp2_with (first
                      | (refine wpList_exec 58 rfl (by rfl) _ _ (HP.out _ rfl rfl) ?_)
                      | (refine wpList_exec 59 rfl (by rfl) _ _ (execIndexH q n c m hn1 _ rfl rfl rfl) ?_)
                      | (refine wpList_exec 60 rfl (by rfl) _ _ (load_at m rfl rfl HFk.out hn1) ?_)
                      | (refine park_at 61 rfl ?_))
                    refine unpark ?_
                    refine wpList_exec 61 rfl (by rfl) (.slice (some ⟨wr.heap.size, 0, none⟩) 1 1) (wr.alloc (.cells (bC 32 (F m)) 24)) (execBuild1 rfl rfl (run_build1h _ _)) ?_
                    go_wp2_with (at_builtin; refine wpList_append_hash rfl _ _ rfl v0 _ k G rfl O1 rfl (by omega) K1 hE.out ?_; intro v' w' O3 K3)
                    go_roundw
                    case measure => simp [intOf]; omega
                    case rel => exact ⟨k + 1, by omega, rfl, O3, K3⟩
            · have hd : decide ((k : Int) < (M : Int)) = false := decide_eq_false (by omega)
              have hd' : decide (k < M) = false := decide_eq_false hlt
              obtain rfl : k = M := by omega
              go_wp2_with fail
              go_ret
              exact ⟨_, rfl, HAt.ofOwns O1.out (fun i _ => HG.out i), K4.out.trans K1.out⟩
end Go.Proofs.Ytfadcibmkjpjoaa
