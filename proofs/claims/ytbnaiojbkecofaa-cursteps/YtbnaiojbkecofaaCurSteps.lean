/-
  Whatever is taken from any bytes, in at most 100 steps, is what the reference takes, and so are what is left, the error and Done after each step; the law's example holds: 'CurSteps' returns true for every input.
  Conditions: none.
-/
import Derived.Test.YtbnaiojbkecofaaRows
import Derived.Test.YtbnaiojbkecofaaCurLawB
import Derived.Test.YtbnaiojbkecofaaLawLibC
import Derived.WalkKit
import Derived.ProofKit
import Derived.OpenShut
import Derived.ShutString
import Derived.SizedLaws
import Derived.Test.YtbnaiojbkecofaaLawLib
namespace Go.Proofs.Ytbnaiojbkecofaa.curSteps
open Go.ChangeShapes Go.WideShapes Go.ChangeAt Go.RowKit
open Go.ChangeMaps (open_string shut_string)
set_option linter.unusedVariables false

theorem own : ownKnob Try.prog.godebug = none := by kernel_rfl
theorem laidOut : laidOutB Try.prog = true := by kernel_rfl

set_option maxRecDepth 100000 in
set_option maxHeartbeats 4000000 in
theorem walk (a0 : ByteArray) (w0 : a0.size ≤ maxLen) (r0 : a0.size ≤ 140737488351232) (p1 : Option Addr) (n1 c1 : Nat) (F1 : Nat → Int × Int × Int × Int) (z1 : n1 ≤ maxLen) (w : World) (e1 : ∀ i, i < n1 → ((Lit.int .i64 (F1 i).1).wf = true ∧ (Lit.int .i64 (F1 i).2.1).wf = true ∧ (Lit.int .u64 (F1 i).2.2.1).wf = true ∧ (Lit.int .i64 (F1 i).2.2.2).wf = true) ∧ ∃ a : Addr, p1 = some a ∧ a.block < w.heap.size ∧ w.cell? (a.add (i * 4)) = some (.int .i64 (F1 i).1) ∧ w.cell? (a.add (i * 4 + 1)) = some (.int .i64 (F1 i).2.1) ∧ w.cell? (a.add (i * 4 + 2)) = some (.int .u64 (F1 i).2.2.1) ∧ w.cell? (a.add (i * 4 + 3)) = some (.int .i64 (F1 i).2.2.2)) :
    Calls Try.prog 3 #[.string a0, .slice p1 n1 c1] w fun e w' => e = .returned (.bool true) ∧ Kept w w' := by
  have hz1 : n1 ≤ 9223372036854775807 := z1
  have HS : Hid (∀ i, i < n1 → ∃ (a b : Int) (m : Nat) (x : Int), b < 9223372036854775808 ∧ StepAt4 w p1 i a b m x) := Lib.hid fun i hi => by
    obtain ⟨⟨_, wb, wm, _⟩, q, hq, hb, h0, h1, h2, h3⟩ := e1 i hi
    have bb := bounds_i64 wb
    have bm := bounds_u64 wm
    refine ⟨(F1 i).1, (F1 i).2.1, (F1 i).2.2.1.toNat, (F1 i).2.2.2, by omega, q, hq, hb, h0, h1, ?_, h3⟩
    rw [h2]
    congr 2
    omega
  clear e1 z1
  have HR := Lib.hid (curRead_any a0 w)
  go_enter Try.func3, Try.ntmps3
  go_wp2_with fail
  refine HR.out.mono ?_
  rintro e v1 ⟨rfl, C1, G1⟩
  obtain ⟨g, hg⟩ : ∃ g, g = w.heap.size := ⟨_, rfl⟩
  have hgw : w.heap.size ≤ g := by omega
  rw [← hg] at C1 ⊢
  have hgl : g < v1.heap.size := Rowz.lt C1
  replace C1 := Lib.hid C1
  replace G1 := Lib.hid G1
  have hsz1 : w.heap.size ≤ v1.heap.size := G1.out.2.2
  clear HR hg
  go_wp2_with fail
  go_loopw [7] (fun i wr => ∃ (k : Nat) (c : Cu), i = .int .i64 (k : Int) ∧ k ≤ n1 ∧ k ≤ 100 ∧ Hid (CurAt wr g c) ∧ Hid (RC wr v1.heap.size c) ∧ Hid c.ok ∧ c.b.size ≤ maxLen ∧ Hid (Kept w wr)) (fun i _ => 100 - (intOf i).toNat)
  case atStart =>
    refine ⟨0, ⟨a0, 0⟩, rfl, by omega, by omega, Lib.hid (Rowz.alloc C1.out _), Lib.hid (Rowz.new v1 _ _), Lib.hid fun h => absurd rfl h, w0, Lib.hid ((Grown.kept G1.out).alloc _)⟩
  case round =>
    clear C1 G1
    obtain ⟨k, c, rfl, hkn, hk100, C1, R6, HO, hcs, G1⟩ := hrel
    by_cases hgo : k < n1 ∧ k < 100
    · obtain ⟨hk1, hk2⟩ := hgo
      have hd1 : decide ((k : Int) < (n1 : Int)) = true := decide_eq_true (by omega)
      have hd2 : decide ((k : Int) < 100) = true := decide_eq_true (by omega)
      obtain ⟨a, b, m, x, hb, HA⟩ := HS.out k hk1
      obtain ⟨q, rfl⟩ : ∃ q, p1 = some q := by obtain ⟨q, h, _⟩ := HA; exact ⟨q, h⟩
      replace HA := Lib.hid HA
      go_wp2_with fail
      go_cut [8, 9] from 14 to 58 (fun s8 s9 wx => ∃ g8, s8 = .pointer (some ⟨g8, 0, none⟩) ∧ s9 = .bool true ∧ Hid (RC wx g8 (stepR c a b m x)) ∧ Hid (CurAt wx g (stepP c a b m x)) ∧ Hid (RC wx v1.heap.size c) ∧ Hid (Kept w wx))
      case first =>
        have cu : CurAt wr.drew g c := C1.out
        have r6 : RC wr.drew v1.heap.size c := R6.out
        have gg : Kept w wr.drew := G1.out
        have sa : StepAt4 wr.drew (some q) k a b m x := HA.out.kept gg
        refine wp_region_held_drew (S := fun w' => RC w' v1.heap.size c ∧ StepAt4 w' (some q) k a b m x) (by kernel_rfl) ⟨r6, sa⟩ (fun _ => ?_)
        clear C1 R6 G1
        generalize wr.drew = u at cu r6 gg sa ⊢
        have hlu : v1.heap.size < u.heap.size := Rowz.lt r6
        refine wpAnyH_take1 0 25 (.pointer (some ⟨g, 0, none⟩)) rfl rfl (by kernel_rfl) (by kernel_rfl) (by kernel_rfl) (fun _ _ _ h => h) ⟨r6, sa⟩ (Or.inl ⟨by rfl, fun _ _ => by rfl⟩) ?_
        simp only [List.setIfInBounds_toArray, List.set_cons_zero, List.set_cons_succ]
        refine wpAnyH_take1 1 26 (.agg #[.string c.b, .int .i64 c.e]) rfl rfl (by kernel_rfl) (by kernel_rfl) (by kernel_rfl) (fun _ _ _ h => h) ⟨r6, sa⟩ (yieldsIf_load_row rfl 27 _ rfl v1.heap.size rfl _ 27 _ (fun _ h => h.1) Try.underlying27 rfl (infoC _ _)) ?_
        simp only [List.setIfInBounds_toArray, List.set_cons_zero, List.set_cons_succ]
        refine wpAnyH_take1 2 27 (.slice (some q) n1 c1) rfl rfl (by kernel_rfl) (by kernel_rfl) (by kernel_rfl) (fun _ _ _ h => h) ⟨r6, sa⟩ (Or.inl ⟨by rfl, fun _ _ => by rfl⟩) ?_
        simp only [List.setIfInBounds_toArray, List.set_cons_zero, List.set_cons_succ]
        refine wpAnyH_take1 3 28 (.int .i64 (k : Int)) rfl rfl (by kernel_rfl) (by kernel_rfl) (by kernel_rfl) (fun _ _ _ h => h) ⟨r6, sa⟩ (Or.inl ⟨by rfl, fun _ _ => by rfl⟩) ?_
        simp only [List.setIfInBounds_toArray, List.set_cons_zero, List.set_cons_succ]
        refine wpAnyH_take1 4 29 (.pointer (some (q.add (k * 4)))) rfl rfl (by kernel_rfl) (by kernel_rfl) (by kernel_rfl) (fun _ _ _ h => h) ⟨r6, sa⟩ (yieldsIf_exec (by rfl) fun w' _ => execIndexAddr w' q n1 c1 k hk1 rfl rfl rfl) ?_
        simp only [List.setIfInBounds_toArray, List.set_cons_zero, List.set_cons_succ]
        refine wpAnyH_take1 5 30 (.agg #[.int .i64 a, .int .i64 b, .int .u64 (m : Int), .int .i64 x]) rfl rfl (by kernel_rfl) (by kernel_rfl) (by kernel_rfl) (fun _ _ _ h => h) ⟨r6, sa⟩ (yieldsIf_exec (by rfl) fun w' hw' => execLoad4 rfl rfl hw'.2.load) ?_
        simp only [List.setIfInBounds_toArray, List.set_cons_zero, List.set_cons_succ]
        refine wpAnyH_ready (rs := [6, 10]) (by kernel_rfl) (by simp) (AllReadyH.cons rfl (fun K hK => ?_) (AllReadyH.cons rfl (fun K hK => ?_) AllReadyH.nil))
        · rw [if_pos (by rfl)]
          go_simp
          refine (do_any g c c a b m x u cu hcs hb).mono ?_
          rintro e u1 ⟨B, rfl, hB, C2, O2⟩
          obtain rfl := hB rfl HO.out
          have k6 := Rowz.onlyC r6 O2 (show v1.heap.size ≠ g by omega)
          have kg := O2.kept w gg hgw
          have ks := HA.out.kept kg
          refine hK.out _ _ ⟨k6, ks⟩ (fun _ => ?_)
          clear hK K r6 sa gg cu
          refine wpAnyH_take1 7 24 (.tuple #[.agg #[.string (stepR c a b m x).b, .int .i64 (stepR c a b m x).e], .bool true]) rfl rfl (by kernel_rfl) (by kernel_rfl) (by kernel_rfl) (fun _ _ _ h => h) ⟨k6, ks⟩ (Or.inl ⟨by rfl, fun _ _ => by rfl⟩) ?_
          simp only [List.setIfInBounds_toArray, List.set_cons_zero, List.set_cons_succ]
          refine wpAnyH_take1 8 32 (.agg #[.string (stepR c a b m x).b, .int .i64 (stepR c a b m x).e]) rfl rfl (by kernel_rfl) (by kernel_rfl) (by kernel_rfl) (fun _ _ _ h => h) ⟨k6, ks⟩ (Or.inl ⟨by rfl, fun _ _ => by rfl⟩) ?_
          simp only [List.setIfInBounds_toArray, List.set_cons_zero, List.set_cons_succ]
          refine wpAnyH_take1 9 33 (.bool true) rfl rfl (by kernel_rfl) (by kernel_rfl) (by kernel_rfl) (fun _ _ _ h => h) ⟨k6, ks⟩ (Or.inl ⟨by rfl, fun _ _ => by rfl⟩) ?_
          simp only [List.setIfInBounds_toArray, List.set_cons_zero, List.set_cons_succ]
          have hlu1 : v1.heap.size < u1.heap.size := Rowz.lt k6
          refine wpAnyH_ready (rs := [10]) (by kernel_rfl) (by simp) (AllReadyH.cons rfl (fun K hK => ?_) AllReadyH.nil)
          rw [if_pos (by rfl)]
          go_simp
          have l8 : Rowz (u1.alloc (.cells #[.string ⟨#[]⟩, .int .i64 0] 27)) u1.heap.size #[.string ⟨#[]⟩, .int .i64 0] 27 := Rowz.new u1 _ _
          have l6 := Rowz.alloc k6 (.cells #[.string ⟨#[]⟩, .int .i64 0] 27)
          have lg := kg.alloc (.cells #[.string ⟨#[]⟩, .int .i64 0] 27)
          have ls := HA.out.kept lg
          have lc : CurAt (u1.alloc (.cells #[.string ⟨#[]⟩, .int .i64 0] 27)) g (stepP c a b m x) := Rowz.alloc C2 _
          have hgg : g ≠ (u1.heap.size) := by have := Rowz.lt C2; omega
          have h68 : v1.heap.size ≠ (u1.heap.size) := by omega
          have hw8 : w.heap.size ≤ (u1.heap.size) := by omega
          refine hK.out _ _ ⟨l6, ls⟩ (fun _ => ?_)
          clear hK K k6 ks kg C2 O2
          generalize u1.alloc (.cells #[.string ⟨#[]⟩, .int .i64 0] 27) = u2 at l8 l6 lg ls lc ⊢
          refine wpAnyH_ready (rs := [11]) (by kernel_rfl) (by simp) (AllReadyH.cons rfl (fun K hK => ?_) AllReadyH.nil)
          rw [if_pos (by rfl)]
          refine wp_store_row 27 _ _ rfl (u1.heap.size) #[.string (stepR c a b m x).b, .int .i64 (stepR c a b m x).e] rfl rfl 27 #[.string ⟨#[]⟩, .int .i64 0] l8 (infoC _ _) rfl (by simp [Value.oneCell']) ?_
          have m8 : Rowz (u2.setRow (u1.heap.size) #[.string (stepR c a b m x).b, .int .i64 (stepR c a b m x).e]) (u1.heap.size) #[.string (stepR c a b m x).b, .int .i64 (stepR c a b m x).e] 27 := l8.row
          have m6 := Rowz.rowOther (k := (u1.heap.size)) (D := #[.string (stepR c a b m x).b, .int .i64 (stepR c a b m x).e]) l6 h68
          have mc : CurAt (u2.setRow (u1.heap.size) #[.string (stepR c a b m x).b, .int .i64 (stepR c a b m x).e]) g (stepP c a b m x) := Rowz.rowOther lc hgg
          have mg := Kept.setRow lg hw8 #[.string (stepR c a b m x).b, .int .i64 (stepR c a b m x).e]
          have ms := HA.out.kept mg
          refine hK.out _ _ ⟨m6, ms⟩ (fun _ => ?_)
          clear hK K l8 l6 lg ls lc
          generalize u2.setRow (u1.heap.size) #[.string (stepR c a b m x).b, .int .i64 (stepR c a b m x).e] = u3 at m8 m6 mc mg ms ⊢
          refine wpAnyH_take1 12 9 (.bool true) rfl rfl (by kernel_rfl) (by kernel_rfl) (by kernel_rfl) (fun _ _ _ h => h) ⟨m6, ms⟩ (Or.inl ⟨by rfl, fun _ _ => by rfl⟩) ?_
          simp only [List.setIfInBounds_toArray, List.set_cons_zero, List.set_cons_succ]
          refine wpAnyH_done (by kernel_rfl) ?_ _
          replace m8 := Lib.hid m8
          replace m6 := Lib.hid m6
          replace mc := Lib.hid mc
          replace mg := Lib.hid mg
          clear ms
          go_wp2_with fail
          go_meet
          case rel => exact ⟨_, rfl, rfl, m8, mc, m6, mg⟩
        · rw [if_pos (by rfl)]
          go_simp
          have l8 : Rowz (u.alloc (.cells #[.string ⟨#[]⟩, .int .i64 0] 27)) u.heap.size #[.string ⟨#[]⟩, .int .i64 0] 27 := Rowz.new u _ _
          have l6 : RC (u.alloc (.cells #[.string ⟨#[]⟩, .int .i64 0] 27)) v1.heap.size c := Rowz.alloc r6 _
          have lg := gg.alloc (.cells #[.string ⟨#[]⟩, .int .i64 0] 27)
          have ls := HA.out.kept lg
          have lc : CurAt (u.alloc (.cells #[.string ⟨#[]⟩, .int .i64 0] 27)) g c := Rowz.alloc cu _
          have hgg : g ≠ (u.heap.size) := by omega
          have h68 : v1.heap.size ≠ (u.heap.size) := by omega
          have hw8 : w.heap.size ≤ (u.heap.size) := by omega
          refine hK.out _ _ ⟨l6, ls⟩ (fun _ => ?_)
          clear hK K r6 sa gg cu
          generalize u.alloc (.cells #[.string ⟨#[]⟩, .int .i64 0] 27) = u0 at l8 l6 lg ls lc ⊢
          refine wpAnyH_ready (rs := [6]) (by kernel_rfl) (by simp) (AllReadyH.cons rfl (fun K hK => ?_) AllReadyH.nil)
          rw [if_pos (by rfl)]
          go_simp
          refine (do_any g c c a b m x u0 lc hcs hb).mono ?_
          rintro e u2 ⟨B, rfl, hB, C2, O2⟩
          obtain rfl := hB rfl HO.out
          have k6 := Rowz.onlyC l6 O2 (show v1.heap.size ≠ g by omega)
          have kg := O2.kept w lg hgw
          have ks := HA.out.kept kg
          replace l8 := Rowz.onlyC l8 O2 (show (u.heap.size) ≠ g by omega)
          refine hK.out _ _ ⟨k6, ks⟩ (fun _ => ?_)
          clear hK K l6 ls lg lc O2
          refine wpAnyH_take1 7 24 (.tuple #[.agg #[.string (stepR c a b m x).b, .int .i64 (stepR c a b m x).e], .bool true]) rfl rfl (by kernel_rfl) (by kernel_rfl) (by kernel_rfl) (fun _ _ _ h => h) ⟨k6, ks⟩ (Or.inl ⟨by rfl, fun _ _ => by rfl⟩) ?_
          simp only [List.setIfInBounds_toArray, List.set_cons_zero, List.set_cons_succ]
          refine wpAnyH_take1 8 32 (.agg #[.string (stepR c a b m x).b, .int .i64 (stepR c a b m x).e]) rfl rfl (by kernel_rfl) (by kernel_rfl) (by kernel_rfl) (fun _ _ _ h => h) ⟨k6, ks⟩ (Or.inl ⟨by rfl, fun _ _ => by rfl⟩) ?_
          simp only [List.setIfInBounds_toArray, List.set_cons_zero, List.set_cons_succ]
          refine wpAnyH_take1 9 33 (.bool true) rfl rfl (by kernel_rfl) (by kernel_rfl) (by kernel_rfl) (fun _ _ _ h => h) ⟨k6, ks⟩ (Or.inl ⟨by rfl, fun _ _ => by rfl⟩) ?_
          simp only [List.setIfInBounds_toArray, List.set_cons_zero, List.set_cons_succ]
          have l6 := k6
          have lg := kg
          have ls := ks
          have lc := C2
          clear k6 kg ks C2
          refine wpAnyH_ready (rs := [11]) (by kernel_rfl) (by simp) (AllReadyH.cons rfl (fun K hK => ?_) AllReadyH.nil)
          rw [if_pos (by rfl)]
          refine wp_store_row 27 _ _ rfl (u.heap.size) #[.string (stepR c a b m x).b, .int .i64 (stepR c a b m x).e] rfl rfl 27 #[.string ⟨#[]⟩, .int .i64 0] l8 (infoC _ _) rfl (by simp [Value.oneCell']) ?_
          have m8 : Rowz (u2.setRow (u.heap.size) #[.string (stepR c a b m x).b, .int .i64 (stepR c a b m x).e]) (u.heap.size) #[.string (stepR c a b m x).b, .int .i64 (stepR c a b m x).e] 27 := l8.row
          have m6 := Rowz.rowOther (k := (u.heap.size)) (D := #[.string (stepR c a b m x).b, .int .i64 (stepR c a b m x).e]) l6 h68
          have mc : CurAt (u2.setRow (u.heap.size) #[.string (stepR c a b m x).b, .int .i64 (stepR c a b m x).e]) g (stepP c a b m x) := Rowz.rowOther lc hgg
          have mg := Kept.setRow lg hw8 #[.string (stepR c a b m x).b, .int .i64 (stepR c a b m x).e]
          have ms := HA.out.kept mg
          refine hK.out _ _ ⟨m6, ms⟩ (fun _ => ?_)
          clear hK K l8 l6 lg ls lc
          generalize u2.setRow (u.heap.size) #[.string (stepR c a b m x).b, .int .i64 (stepR c a b m x).e] = u3 at m8 m6 mc mg ms ⊢
          refine wpAnyH_take1 12 9 (.bool true) rfl rfl (by kernel_rfl) (by kernel_rfl) (by kernel_rfl) (fun _ _ _ h => h) ⟨m6, ms⟩ (Or.inl ⟨by rfl, fun _ _ => by rfl⟩) ?_
          simp only [List.setIfInBounds_toArray, List.set_cons_zero, List.set_cons_succ]
          refine wpAnyH_done (by kernel_rfl) ?_ _
          replace m8 := Lib.hid m8
          replace m6 := Lib.hid m6
          replace mc := Lib.hid mc
          replace mg := Lib.hid mg
          clear ms
          go_wp2_with fail
          go_meet
          case rel => exact ⟨_, rfl, rfl, m8, mc, m6, mg⟩
      case rest =>
        obtain ⟨g8, rfl, rfl, R8, C2, R6', G2⟩ := hcut
        clear C1 R6 G1 HA
        have hok : (stepR c a b m x).ok := by rw [← stepP_eq c a b m x HO.out]; exact stepP_ok c a b m x HO.out
        have hs2 : (stepR c a b m x).b.size ≤ maxLen := by rw [← stepP_eq c a b m x HO.out]; exact Nat.le_trans (stepP_ends c a b m x).size hcs
        replace C2 : Hid (CurAt wc g (stepR c a b m x)) := Lib.hid (stepP_eq c a b m x HO.out ▸ C2.out)
        have HOK := Lib.hid hok
        clear hok
        generalize stepR c a b m x = c2 at C2 R8 HOK hs2
        have d0 := R8.out.c0
        have d1 := R8.out.c1
        have c0 := R6'.out.c0
        have c1' := R6'.out.c1
        have f0 := R6'.out.f 0
        have f1 := R6'.out.f 1
        go_wp2_with fail
        have R6 : Hid (RC ((wc.setCell ⟨v1.heap.size, 0, none⟩ (.string c2.b)).setCell ⟨v1.heap.size, 1, none⟩ (.int .i64 c2.e)) v1.heap.size c2) := Lib.hid (R6'.out.set _ _)
        have C1 : Hid (CurAt ((wc.setCell ⟨v1.heap.size, 0, none⟩ (.string c2.b)).setCell ⟨v1.heap.size, 1, none⟩ (.int .i64 c2.e)) g c2) := Lib.hid (Rowz.other (Rowz.other C2.out _ _ (by simp; omega)) _ _ (by simp; omega))
        have G1 : Hid (Kept w ((wc.setCell ⟨v1.heap.size, 0, none⟩ (.string c2.b)).setCell ⟨v1.heap.size, 1, none⟩ (.int .i64 c2.e))) := Lib.hid (Kept.setCell (Kept.setCell G2.out (by simp; omega) _) (by simp; omega) _)
        generalize (wc.setCell ⟨v1.heap.size, 0, none⟩ (.string c2.b)).setCell ⟨v1.heap.size, 1, none⟩ (.int .i64 c2.e) = wd at R6 C1 G1 ⊢
        clear R8 C2 R6' G2 d0 d1 c0 c1' f0 f1
        refine wp_region_table [(35, .is (.bool true)), (36, .is (.bool false)), (37, .is (.bool false)), (38, .is (.pointer (some ⟨g, 0, none⟩))), (39, .is (.int .i64 (c2.b.size : Int))), (40, .is (.pointer (some ⟨v1.heap.size, 0, none⟩))), (41, .is (.string c2.b)), (42, .is (.int .i64 (c2.b.size : Int))), (43, .is (.bool false)), (44, .is (.bool false)), (45, .is (.bool false)), (46, .is (.pointer (some ⟨g, 0, none⟩))), (47, .is (.int .i64 c2.e)), (48, .is (.pointer (some ⟨v1.heap.size, 1, none⟩))), (49, .is (.int .i64 c2.e)), (50, .is (.bool false)), (51, .is (.bool false)), (52, .is (.bool false)), (53, .is (.pointer (some ⟨g, 0, none⟩))), (54, .is (.int .i64 (doneC c2))), (55, .is (.agg #[.string c2.b, .int .i64 c2.e])), (56, .is (.int .i64 (doneC c2))), (57, .is (.bool false)), (58, .is (.bool false))] (by kernel_rfl) (by kernel_rfl) ?_ ?_
        · refine ⟨fun t w1 hf hk hp => ?_, ?_⟩
          · have h9 : slot t 9 = .bool true := hf 9 (by kernel_rfl)
            clear hf hp
            refine stepAt_plain rfl ?_
            exact stepOK_move _ (.inl rfl) h9
          refine ⟨fun t w1 hf hk hp => ?_, ?_⟩
          · have h35 : slot t 35 = .bool true := hp 35 (by kernel_rfl)
            clear hf hp
            refine stepAt_plain rfl ?_
            refine stepOK_pure (.bool false) ?_ rfl
            simp only [execOp, evS, h35]
            go_simp
          refine ⟨fun t w1 hf hk hp => ?_, ?_⟩
          · have h36 : slot t 36 = .bool false := hp 36 (by kernel_rfl)
            clear hf hp
            refine stepAt_plain rfl ?_
            exact stepOK_move _ (.inl rfl) h36
          refine ⟨fun t w1 hf hk hp => ?_, ?_⟩
          · have h5 : slot t 5 = .pointer (some ⟨g, 0, none⟩) := hf 5 (by kernel_rfl)
            have h37 : slot t 37 = .bool false := hp 37 (by kernel_rfl)
            clear hf hp
            refine stepAt_on 37 false (by kernel_rfl) h37 ?_
            exact stepOK_move _ (.inl rfl) h5
          refine ⟨fun t w1 hf hk hp => ?_, ?_⟩
          · have h38 : slot t 38 = .pointer (some ⟨g, 0, none⟩) := hp 38 (by kernel_rfl)
            have h37 : slot t 37 = .bool false := hp 37 (by kernel_rfl)
            clear hf hp
            refine stepAt_on 37 false (by kernel_rfl) h37 ?_
            refine stepOK_call #[.pointer (some ⟨g, 0, none⟩)] rfl (by simp only [List.map_toArray, List.map_cons, List.map_nil, evS, h38]) (by go_simp) ((curLeft_any g c2 w1 (C1.out.kept hk)).mono fun e w' ⟨he, hk'⟩ => ⟨_, he, Kept.same hk', rfl⟩)
          refine ⟨fun t w1 hf hk hp => ?_, ?_⟩
          · have h6 : slot t 6 = .pointer (some ⟨v1.heap.size, 0, none⟩) := hf 6 (by kernel_rfl)
            have h37 : slot t 37 = .bool false := hp 37 (by kernel_rfl)
            clear hf hp
            refine stepAt_on 37 false (by kernel_rfl) h37 ?_
            refine stepOK_pure (.pointer (some ⟨v1.heap.size, 0, none⟩)) ?_ rfl
            simp only [execOp, evS, h6]
            go_simp
          refine ⟨fun t w1 hf hk hp => ?_, ?_⟩
          · have h40 : slot t 40 = .pointer (some ⟨v1.heap.size, 0, none⟩) := hp 40 (by kernel_rfl)
            have h37 : slot t 37 = .bool false := hp 37 (by kernel_rfl)
            clear hf hp
            refine stepAt_on 37 false (by kernel_rfl) h37 ?_
            have hq0 := (R6.out.kept hk).c0
            refine stepOK_pure (.string c2.b) ?_ rfl
            simp only [execOp, evS, h40]
            go_simp
          refine ⟨fun t w1 hf hk hp => ?_, ?_⟩
          · have h41 : slot t 41 = .string c2.b := hp 41 (by kernel_rfl)
            have h37 : slot t 37 = .bool false := hp 37 (by kernel_rfl)
            clear hf hp
            refine stepAt_on 37 false (by kernel_rfl) h37 ?_
            exact stepOK_pure (.int .i64 (c2.b.size : Int)) (execLenS w1 rfl rfl h41) rfl
          refine ⟨fun t w1 hf hk hp => ?_, ?_⟩
          · have h39 : slot t 39 = .int .i64 (c2.b.size : Int) := hp 39 (by kernel_rfl)
            have h42 : slot t 42 = .int .i64 (c2.b.size : Int) := hp 42 (by kernel_rfl)
            have h37 : slot t 37 = .bool false := hp 37 (by kernel_rfl)
            clear hf hp
            refine stepAt_on 37 false (by kernel_rfl) h37 ?_
            refine stepOK_pure (.bool false) ?_ rfl
            simp only [execOp, evS, h39, h42]
            go_simp
          refine ⟨fun t w1 hf hk hp => ?_, ?_⟩
          · have h37 : slot t 37 = .bool false := hp 37 (by kernel_rfl)
            have h43 : slot t 43 = .bool false := hp 43 (by kernel_rfl)
            clear hf hp
            refine stepAt_plain rfl ?_
            refine stepOK_pure (.bool false) ?_ rfl
            simp only [execOp, evS, h37, h43]
            go_simp
          refine ⟨fun t w1 hf hk hp => ?_, ?_⟩
          · have h44 : slot t 44 = .bool false := hp 44 (by kernel_rfl)
            clear hf hp
            refine stepAt_plain rfl ?_
            exact stepOK_move _ (.inl rfl) h44
          refine ⟨fun t w1 hf hk hp => ?_, ?_⟩
          · have h5 : slot t 5 = .pointer (some ⟨g, 0, none⟩) := hf 5 (by kernel_rfl)
            have h45 : slot t 45 = .bool false := hp 45 (by kernel_rfl)
            clear hf hp
            refine stepAt_on 45 false (by kernel_rfl) h45 ?_
            exact stepOK_move _ (.inl rfl) h5
          refine ⟨fun t w1 hf hk hp => ?_, ?_⟩
          · have h46 : slot t 46 = .pointer (some ⟨g, 0, none⟩) := hp 46 (by kernel_rfl)
            have h45 : slot t 45 = .bool false := hp 45 (by kernel_rfl)
            clear hf hp
            refine stepAt_on 45 false (by kernel_rfl) h45 ?_
            refine stepOK_call #[.pointer (some ⟨g, 0, none⟩)] rfl (by simp only [List.map_toArray, List.map_cons, List.map_nil, evS, h46]) (by go_simp) ((curErr_any g c2 w1 (C1.out.kept hk)).mono fun e w' ⟨he, hk'⟩ => ⟨_, he, Kept.same hk', rfl⟩)
          refine ⟨fun t w1 hf hk hp => ?_, ?_⟩
          · have h6 : slot t 6 = .pointer (some ⟨v1.heap.size, 0, none⟩) := hf 6 (by kernel_rfl)
            have h45 : slot t 45 = .bool false := hp 45 (by kernel_rfl)
            clear hf hp
            refine stepAt_on 45 false (by kernel_rfl) h45 ?_
            refine stepOK_pure (.pointer (some ⟨v1.heap.size, 1, none⟩)) ?_ rfl
            simp only [execOp, evS, h6]
            go_simp
          refine ⟨fun t w1 hf hk hp => ?_, ?_⟩
          · have h48 : slot t 48 = .pointer (some ⟨v1.heap.size, 1, none⟩) := hp 48 (by kernel_rfl)
            have h45 : slot t 45 = .bool false := hp 45 (by kernel_rfl)
            clear hf hp
            refine stepAt_on 45 false (by kernel_rfl) h45 ?_
            have hq0 := (R6.out.kept hk).c1
            refine stepOK_pure (.int .i64 c2.e) ?_ rfl
            simp only [execOp, evS, h48]
            go_simp
          refine ⟨fun t w1 hf hk hp => ?_, ?_⟩
          · have h47 : slot t 47 = .int .i64 c2.e := hp 47 (by kernel_rfl)
            have h49 : slot t 49 = .int .i64 c2.e := hp 49 (by kernel_rfl)
            have h45 : slot t 45 = .bool false := hp 45 (by kernel_rfl)
            clear hf hp
            refine stepAt_on 45 false (by kernel_rfl) h45 ?_
            refine stepOK_pure (.bool false) ?_ rfl
            simp only [execOp, evS, h47, h49]
            go_simp
          refine ⟨fun t w1 hf hk hp => ?_, ?_⟩
          · have h45 : slot t 45 = .bool false := hp 45 (by kernel_rfl)
            have h50 : slot t 50 = .bool false := hp 50 (by kernel_rfl)
            clear hf hp
            refine stepAt_plain rfl ?_
            refine stepOK_pure (.bool false) ?_ rfl
            simp only [execOp, evS, h45, h50]
            go_simp
          refine ⟨fun t w1 hf hk hp => ?_, ?_⟩
          · have h51 : slot t 51 = .bool false := hp 51 (by kernel_rfl)
            clear hf hp
            refine stepAt_plain rfl ?_
            exact stepOK_move _ (.inl rfl) h51
          refine ⟨fun t w1 hf hk hp => ?_, ?_⟩
          · have h5 : slot t 5 = .pointer (some ⟨g, 0, none⟩) := hf 5 (by kernel_rfl)
            have h52 : slot t 52 = .bool false := hp 52 (by kernel_rfl)
            clear hf hp
            refine stepAt_on 52 false (by kernel_rfl) h52 ?_
            exact stepOK_move _ (.inl rfl) h5
          refine ⟨fun t w1 hf hk hp => ?_, ?_⟩
          · have h53 : slot t 53 = .pointer (some ⟨g, 0, none⟩) := hp 53 (by kernel_rfl)
            have h52 : slot t 52 = .bool false := hp 52 (by kernel_rfl)
            clear hf hp
            refine stepAt_on 52 false (by kernel_rfl) h52 ?_
            refine stepOK_call #[.pointer (some ⟨g, 0, none⟩)] rfl (by simp only [List.map_toArray, List.map_cons, List.map_nil, evS, h53]) (by go_simp) ((curDone_any g c2 w1 (C1.out.kept hk)).mono fun e w' ⟨he, hk'⟩ => ⟨_, he, Kept.same hk', rfl⟩)
          refine ⟨fun t w1 hf hk hp => ?_, ?_⟩
          · have h6 : slot t 6 = .pointer (some ⟨v1.heap.size, 0, none⟩) := hf 6 (by kernel_rfl)
            have h52 : slot t 52 = .bool false := hp 52 (by kernel_rfl)
            clear hf hp
            refine stepAt_on 52 false (by kernel_rfl) h52 ?_
            have hq0 := (R6.out.kept hk).load
            exact stepOK_sem (.agg #[.string c2.b, .int .i64 c2.e]) (by simp only [execOp, evS, h6]) hq0 rfl
          refine ⟨fun t w1 hf hk hp => ?_, ?_⟩
          · have h55 : slot t 55 = .agg #[.string c2.b, .int .i64 c2.e] := hp 55 (by kernel_rfl)
            have h52 : slot t 52 = .bool false := hp 52 (by kernel_rfl)
            clear hf hp
            refine stepAt_on 52 false (by kernel_rfl) h52 ?_
            refine stepOK_call #[.agg #[.string c2.b, .int .i64 c2.e]] rfl (by simp only [List.map_toArray, List.map_cons, List.map_nil, evS, h55]) (by go_simp) ((refDone8_any c2 w1).mono fun e w' ⟨he, hk'⟩ => ⟨_, he, Grown.kept hk', rfl⟩)
          refine ⟨fun t w1 hf hk hp => ?_, ?_⟩
          · have h54 : slot t 54 = .int .i64 (doneC c2) := hp 54 (by kernel_rfl)
            have h56 : slot t 56 = .int .i64 (doneC c2) := hp 56 (by kernel_rfl)
            have h52 : slot t 52 = .bool false := hp 52 (by kernel_rfl)
            clear hf hp
            refine stepAt_on 52 false (by kernel_rfl) h52 ?_
            refine stepOK_pure (.bool false) ?_ rfl
            simp only [execOp, evS, h54, h56]
            go_simp
          refine ⟨fun t w1 hf hk hp => ?_, ?_⟩
          · have h52 : slot t 52 = .bool false := hp 52 (by kernel_rfl)
            have h57 : slot t 57 = .bool false := hp 57 (by kernel_rfl)
            clear hf hp
            refine stepAt_plain rfl ?_
            refine stepOK_pure (.bool false) ?_ rfl
            simp only [execOp, evS, h52, h57]
            go_simp
          exact trivial
        · intro t w1 hsz hf hk hfacts
          have h58 : slot t 58 = .bool false := hfacts 23 _ rfl 58 rfl
          have h5 : slot t 5 = .pointer (some ⟨g, 0, none⟩) := hf 5 (by kernel_rfl)
          have h6 : slot t 6 = .pointer (some ⟨v1.heap.size, 0, none⟩) := hf 6 (by kernel_rfl)
          have h9 : slot t 9 = .bool true := hf 9 (by kernel_rfl)
          have h0 := hf 0 (by kernel_rfl)
          conv at h0 => rhs; whnf
          try change slot t 0 = undef at h0
          have h1 := hf 1 (by kernel_rfl)
          conv at h1 => rhs; whnf
          try change slot t 1 = undef at h1
          have h2 := hf 2 (by kernel_rfl)
          conv at h2 => rhs; whnf
          try change slot t 2 = undef at h2
          have h3 := hf 3 (by kernel_rfl)
          conv at h3 => rhs; whnf
          try change slot t 3 = undef at h3
          have h4 := hf 4 (by kernel_rfl)
          conv at h4 => rhs; whnf
          try change slot t 4 = undef at h4
          have h7 := hf 7 (by kernel_rfl)
          conv at h7 => rhs; whnf
          try change slot t 7 = undef at h7
          have h8 := hf 8 (by kernel_rfl)
          conv at h8 => rhs; whnf
          try change slot t 8 = undef at h8
          have h10 := hf 10 (by kernel_rfl)
          conv at h10 => rhs; whnf
          try change slot t 10 = undef at h10
          have h11 := hf 11 (by kernel_rfl)
          conv at h11 => rhs; whnf
          try change slot t 11 = undef at h11
          have h12 := hf 12 (by kernel_rfl)
          conv at h12 => rhs; whnf
          try change slot t 12 = undef at h12
          have h13 := hf 13 (by kernel_rfl)
          conv at h13 => rhs; whnf
          try change slot t 13 = undef at h13
          have h14 := hf 14 (by kernel_rfl)
          conv at h14 => rhs; whnf
          try change slot t 14 = undef at h14
          have h15 := hf 15 (by kernel_rfl)
          conv at h15 => rhs; whnf
          try change slot t 15 = undef at h15
          have h16 := hf 16 (by kernel_rfl)
          conv at h16 => rhs; whnf
          try change slot t 16 = undef at h16
          have h17 := hf 17 (by kernel_rfl)
          conv at h17 => rhs; whnf
          try change slot t 17 = undef at h17
          have h18 := hf 18 (by kernel_rfl)
          conv at h18 => rhs; whnf
          try change slot t 18 = undef at h18
          have h19 := hf 19 (by kernel_rfl)
          conv at h19 => rhs; whnf
          try change slot t 19 = undef at h19
          have h20 := hf 20 (by kernel_rfl)
          conv at h20 => rhs; whnf
          try change slot t 20 = undef at h20
          have h21 := hf 21 (by kernel_rfl)
          conv at h21 => rhs; whnf
          try change slot t 21 = undef at h21
          have h22 := hf 22 (by kernel_rfl)
          conv at h22 => rhs; whnf
          try change slot t 22 = undef at h22
          have h23 := hf 23 (by kernel_rfl)
          conv at h23 => rhs; whnf
          try change slot t 23 = undef at h23
          have h24 := hf 24 (by kernel_rfl)
          conv at h24 => rhs; whnf
          try change slot t 24 = undef at h24
          have h25 := hf 25 (by kernel_rfl)
          conv at h25 => rhs; whnf
          try change slot t 25 = undef at h25
          have h26 := hf 26 (by kernel_rfl)
          conv at h26 => rhs; whnf
          try change slot t 26 = undef at h26
          have h27 := hf 27 (by kernel_rfl)
          conv at h27 => rhs; whnf
          try change slot t 27 = undef at h27
          have h28 := hf 28 (by kernel_rfl)
          conv at h28 => rhs; whnf
          try change slot t 28 = undef at h28
          have h29 := hf 29 (by kernel_rfl)
          conv at h29 => rhs; whnf
          try change slot t 29 = undef at h29
          have h30 := hf 30 (by kernel_rfl)
          conv at h30 => rhs; whnf
          try change slot t 30 = undef at h30
          have h31 := hf 31 (by kernel_rfl)
          conv at h31 => rhs; whnf
          try change slot t 31 = undef at h31
          have h32 := hf 32 (by kernel_rfl)
          conv at h32 => rhs; whnf
          try change slot t 32 = undef at h32
          have h33 := hf 33 (by kernel_rfl)
          conv at h33 => rhs; whnf
          try change slot t 33 = undef at h33
          have h34 := hf 34 (by kernel_rfl)
          conv at h34 => rhs; whnf
          try change slot t 34 = undef at h34
          have h59 := hf 59 (by kernel_rfl)
          conv at h59 => rhs; whnf
          try change slot t 59 = undef at h59
          have h60 := hf 60 (by kernel_rfl)
          conv at h60 => rhs; whnf
          try change slot t 60 = undef at h60
          have h61 := hf 61 (by kernel_rfl)
          conv at h61 => rhs; whnf
          try change slot t 61 = undef at h61
          have h62 := hf 62 (by kernel_rfl)
          conv at h62 => rhs; whnf
          try change slot t 62 = undef at h62
          have h63 := hf 63 (by kernel_rfl)
          conv at h63 => rhs; whnf
          try change slot t 63 = undef at h63
          have h64 := hf 64 (by kernel_rfl)
          conv at h64 => rhs; whnf
          try change slot t 64 = undef at h64
          have h65 := hf 65 (by kernel_rfl)
          conv at h65 => rhs; whnf
          try change slot t 65 = undef at h65
          have h66 := hf 66 (by kernel_rfl)
          conv at h66 => rhs; whnf
          try change slot t 66 = undef at h66
          have h67 := hf 67 (by kernel_rfl)
          conv at h67 => rhs; whnf
          try change slot t 67 = undef at h67
          have harr : t = #[slot t 0, slot t 1, slot t 2, slot t 3, slot t 4, slot t 5, slot t 6, slot t 7, slot t 8, slot t 9, slot t 10, slot t 11, slot t 12, slot t 13, slot t 14, slot t 15, slot t 16, slot t 17, slot t 18, slot t 19, slot t 20, slot t 21, slot t 22, slot t 23, slot t 24, slot t 25, slot t 26, slot t 27, slot t 28, slot t 29, slot t 30, slot t 31, slot t 32, slot t 33, slot t 34, slot t 35, slot t 36, slot t 37, slot t 38, slot t 39, slot t 40, slot t 41, slot t 42, slot t 43, slot t 44, slot t 45, slot t 46, slot t 47, slot t 48, slot t 49, slot t 50, slot t 51, slot t 52, slot t 53, slot t 54, slot t 55, slot t 56, slot t 57, slot t 58, slot t 59, slot t 60, slot t 61, slot t 62, slot t 63, slot t 64, slot t 65, slot t 66, slot t 67] := arr_eq t 68 hsz
          rw [harr, h58, h5, h6, h9, h0, h1, h2, h3, h4, h7, h8, h10, h11, h12, h13, h14, h15, h16, h17, h18, h19, h20, h21, h22, h23, h24, h25, h26, h27, h28, h29, h30, h31, h32, h33, h34, h59, h60, h61, h62, h63, h64, h65, h66, h67]
          clear harr hfacts hf h58 h5 h6 h9 h0 h1 h2 h3 h4 h7 h8 h10 h11 h12 h13 h14 h15 h16 h17 h18 h19 h20 h21 h22 h23 h24 h25 h26 h27 h28 h29 h30 h31 h32 h33 h34 h59 h60 h61 h62 h63 h64 h65 h66 h67
          generalize slot t 35 = x35; generalize slot t 36 = x36; generalize slot t 37 = x37; generalize slot t 38 = x38; generalize slot t 39 = x39; generalize slot t 40 = x40; generalize slot t 41 = x41; generalize slot t 42 = x42; generalize slot t 43 = x43; generalize slot t 44 = x44; generalize slot t 45 = x45; generalize slot t 46 = x46
          generalize slot t 47 = x47; generalize slot t 48 = x48; generalize slot t 49 = x49; generalize slot t 50 = x50; generalize slot t 51 = x51; generalize slot t 52 = x52; generalize slot t 53 = x53; generalize slot t 54 = x54; generalize slot t 55 = x55; generalize slot t 56 = x56; generalize slot t 57 = x57
          clear hsz t
          replace R6 := Lib.hid (R6.out.kept hk)
          replace C1 := Lib.hid (C1.out.kept hk)
          replace G1 := Lib.hid (G1.out.trans hk)
          clear hk
          go_wp2_with fail
          go_roundw
          case rel => exact ⟨k + 1, c2, by go_num, by omega, by omega, C1, R6, HOK, hs2, G1⟩
          case measure => simp [intOf]; omega
    · by_cases hk1 : k < n1
      · have hd1 : decide ((k : Int) < (n1 : Int)) = true := decide_eq_true (by omega)
        have hd2 : decide ((k : Int) < 100) = false := decide_eq_false (by omega)
        clear hgo
        go_wp2_with fail
        refine wp_region_table [(59, .is (.pointer (some ⟨g, 0, none⟩))), (60, .is (.int .i64 (c.b.size : Int))), (61, .is (.pointer (some ⟨v1.heap.size, 0, none⟩))), (62, .is (.string c.b)), (63, .is (.int .i64 (c.b.size : Int))), (64, .is (.bool true)), (65, .is (.bool true)), (66, .is (.bool true)), (67, .is (.bool true)), (4, .is (.bool true))] (by kernel_rfl) (by kernel_rfl) ?_ ?_
        · refine ⟨fun t w1 hf hk hp => ?_, ?_⟩
          · have h5 : slot t 5 = .pointer (some ⟨g, 0, none⟩) := hf 5 (by kernel_rfl)
            clear hf hp
            refine stepAt_plain rfl ?_
            exact stepOK_move _ (.inl rfl) h5
          refine ⟨fun t w1 hf hk hp => ?_, ?_⟩
          · have h59 : slot t 59 = .pointer (some ⟨g, 0, none⟩) := hp 59 (by kernel_rfl)
            clear hf hp
            refine stepAt_plain rfl ?_
            refine stepOK_call #[.pointer (some ⟨g, 0, none⟩)] rfl (by simp only [List.map_toArray, List.map_cons, List.map_nil, evS, h59]) (by go_simp) ((curLeft_any g c w1 (C1.out.kept hk)).mono fun e w' ⟨he, hk'⟩ => ⟨_, he, Kept.same hk', rfl⟩)
          refine ⟨fun t w1 hf hk hp => ?_, ?_⟩
          · have h6 : slot t 6 = .pointer (some ⟨v1.heap.size, 0, none⟩) := hf 6 (by kernel_rfl)
            clear hf hp
            refine stepAt_plain rfl ?_
            refine stepOK_pure (.pointer (some ⟨v1.heap.size, 0, none⟩)) ?_ rfl
            simp only [execOp, evS, h6]
            go_simp
          refine ⟨fun t w1 hf hk hp => ?_, ?_⟩
          · have h61 : slot t 61 = .pointer (some ⟨v1.heap.size, 0, none⟩) := hp 61 (by kernel_rfl)
            clear hf hp
            refine stepAt_plain rfl ?_
            have hq0 := (R6.out.kept hk).c0
            refine stepOK_pure (.string c.b) ?_ rfl
            simp only [execOp, evS, h61]
            go_simp
          refine ⟨fun t w1 hf hk hp => ?_, ?_⟩
          · have h62 : slot t 62 = .string c.b := hp 62 (by kernel_rfl)
            clear hf hp
            refine stepAt_plain rfl ?_
            exact stepOK_pure (.int .i64 (c.b.size : Int)) (execLenS w1 rfl rfl h62) rfl
          refine ⟨fun t w1 hf hk hp => ?_, ?_⟩
          · have h60 : slot t 60 = .int .i64 (c.b.size : Int) := hp 60 (by kernel_rfl)
            have h63 : slot t 63 = .int .i64 (c.b.size : Int) := hp 63 (by kernel_rfl)
            clear hf hp
            refine stepAt_plain rfl ?_
            refine stepOK_pure (.bool true) ?_ rfl
            simp only [execOp, evS, h60, h63]
            go_simp
          refine ⟨fun t w1 hf hk hp => ?_, ?_⟩
          · have h64 : slot t 64 = .bool true := hp 64 (by kernel_rfl)
            clear hf hp
            refine stepAt_plain rfl ?_
            exact stepOK_move _ (.inl rfl) h64
          refine ⟨fun t w1 hf hk hp => ?_, ?_⟩
          · have h65 : slot t 65 = .bool true := hp 65 (by kernel_rfl)
            clear hf hp
            refine stepAt_on 65 true (by kernel_rfl) h65 ?_
            refine stepOK_call #[] rfl (by simp only [List.map_toArray, List.map_nil]) (by go_simp) ((awake8_any w1).mono fun e w' ⟨he, hk'⟩ => ⟨_, he, Grown.kept hk', rfl⟩)
          refine ⟨fun t w1 hf hk hp => ?_, ?_⟩
          · have h65 : slot t 65 = .bool true := hp 65 (by kernel_rfl)
            have h66 : slot t 66 = .bool true := hp 66 (by kernel_rfl)
            clear hf hp
            refine stepAt_plain rfl ?_
            refine stepOK_pure (.bool true) ?_ rfl
            simp only [execOp, evS, h65, h66]
            go_simp
          refine ⟨fun t w1 hf hk hp => ?_, ?_⟩
          · have h67 : slot t 67 = .bool true := hp 67 (by kernel_rfl)
            clear hf hp
            refine stepAt_plain rfl ?_
            exact stepOK_move _ (.inr rfl) h67
          exact trivial
        · intro t w1 hsz hf hk hfacts
          have h4 : slot t 4 = .bool true := hfacts 9 _ rfl 4 rfl
          have h5 : slot t 5 = .pointer (some ⟨g, 0, none⟩) := hf 5 (by kernel_rfl)
          have h6 : slot t 6 = .pointer (some ⟨v1.heap.size, 0, none⟩) := hf 6 (by kernel_rfl)
          have harr : t = #[slot t 0, slot t 1, slot t 2, slot t 3, slot t 4, slot t 5, slot t 6, slot t 7, slot t 8, slot t 9, slot t 10, slot t 11, slot t 12, slot t 13, slot t 14, slot t 15, slot t 16, slot t 17, slot t 18, slot t 19, slot t 20, slot t 21, slot t 22, slot t 23, slot t 24, slot t 25, slot t 26, slot t 27, slot t 28, slot t 29, slot t 30, slot t 31, slot t 32, slot t 33, slot t 34, slot t 35, slot t 36, slot t 37, slot t 38, slot t 39, slot t 40, slot t 41, slot t 42, slot t 43, slot t 44, slot t 45, slot t 46, slot t 47, slot t 48, slot t 49, slot t 50, slot t 51, slot t 52, slot t 53, slot t 54, slot t 55, slot t 56, slot t 57, slot t 58, slot t 59, slot t 60, slot t 61, slot t 62, slot t 63, slot t 64, slot t 65, slot t 66, slot t 67] := arr_eq t 68 hsz
          rw [harr, h4, h5, h6]
          clear harr hfacts hf h4 h5 h6
          generalize slot t 0 = x0; generalize slot t 1 = x1; generalize slot t 2 = x2; generalize slot t 3 = x3; generalize slot t 7 = x7; generalize slot t 8 = x8; generalize slot t 9 = x9; generalize slot t 10 = x10; generalize slot t 11 = x11; generalize slot t 12 = x12; generalize slot t 13 = x13; generalize slot t 14 = x14
          generalize slot t 15 = x15; generalize slot t 16 = x16; generalize slot t 17 = x17; generalize slot t 18 = x18; generalize slot t 19 = x19; generalize slot t 20 = x20; generalize slot t 21 = x21; generalize slot t 22 = x22; generalize slot t 23 = x23; generalize slot t 24 = x24; generalize slot t 25 = x25; generalize slot t 26 = x26
          generalize slot t 27 = x27; generalize slot t 28 = x28; generalize slot t 29 = x29; generalize slot t 30 = x30; generalize slot t 31 = x31; generalize slot t 32 = x32; generalize slot t 33 = x33; generalize slot t 34 = x34; generalize slot t 35 = x35; generalize slot t 36 = x36; generalize slot t 37 = x37; generalize slot t 38 = x38
          generalize slot t 39 = x39; generalize slot t 40 = x40; generalize slot t 41 = x41; generalize slot t 42 = x42; generalize slot t 43 = x43; generalize slot t 44 = x44; generalize slot t 45 = x45; generalize slot t 46 = x46; generalize slot t 47 = x47; generalize slot t 48 = x48; generalize slot t 49 = x49; generalize slot t 50 = x50
          generalize slot t 51 = x51; generalize slot t 52 = x52; generalize slot t 53 = x53; generalize slot t 54 = x54; generalize slot t 55 = x55; generalize slot t 56 = x56; generalize slot t 57 = x57; generalize slot t 58 = x58; generalize slot t 59 = x59; generalize slot t 60 = x60; generalize slot t 61 = x61; generalize slot t 62 = x62
          generalize slot t 63 = x63; generalize slot t 64 = x64; generalize slot t 65 = x65; generalize slot t 66 = x66; generalize slot t 67 = x67
          clear hsz t
          have HK := Lib.hid (G1.out.trans hk)
          clear hk
          go_wp2_with fail
          go_ret
          exact ⟨rfl, HK.out⟩
      · have hd1 : decide ((k : Int) < (n1 : Int)) = false := decide_eq_false (by omega)
        have hd1' : decide (k < n1) = false := decide_eq_false (by omega)
        clear hgo
        go_wp2_with fail
        refine wp_region_table [(59, .is (.pointer (some ⟨g, 0, none⟩))), (60, .is (.int .i64 (c.b.size : Int))), (61, .is (.pointer (some ⟨v1.heap.size, 0, none⟩))), (62, .is (.string c.b)), (63, .is (.int .i64 (c.b.size : Int))), (64, .is (.bool true)), (65, .is (.bool true)), (66, .is (.bool true)), (67, .is (.bool true)), (4, .is (.bool true))] (by kernel_rfl) (by kernel_rfl) ?_ ?_
        · refine ⟨fun t w1 hf hk hp => ?_, ?_⟩
          · have h5 : slot t 5 = .pointer (some ⟨g, 0, none⟩) := hf 5 (by kernel_rfl)
            clear hf hp
            refine stepAt_plain rfl ?_
            exact stepOK_move _ (.inl rfl) h5
          refine ⟨fun t w1 hf hk hp => ?_, ?_⟩
          · have h59 : slot t 59 = .pointer (some ⟨g, 0, none⟩) := hp 59 (by kernel_rfl)
            clear hf hp
            refine stepAt_plain rfl ?_
            refine stepOK_call #[.pointer (some ⟨g, 0, none⟩)] rfl (by simp only [List.map_toArray, List.map_cons, List.map_nil, evS, h59]) (by go_simp) ((curLeft_any g c w1 (C1.out.kept hk)).mono fun e w' ⟨he, hk'⟩ => ⟨_, he, Kept.same hk', rfl⟩)
          refine ⟨fun t w1 hf hk hp => ?_, ?_⟩
          · have h6 : slot t 6 = .pointer (some ⟨v1.heap.size, 0, none⟩) := hf 6 (by kernel_rfl)
            clear hf hp
            refine stepAt_plain rfl ?_
            refine stepOK_pure (.pointer (some ⟨v1.heap.size, 0, none⟩)) ?_ rfl
            simp only [execOp, evS, h6]
            go_simp
          refine ⟨fun t w1 hf hk hp => ?_, ?_⟩
          · have h61 : slot t 61 = .pointer (some ⟨v1.heap.size, 0, none⟩) := hp 61 (by kernel_rfl)
            clear hf hp
            refine stepAt_plain rfl ?_
            have hq0 := (R6.out.kept hk).c0
            refine stepOK_pure (.string c.b) ?_ rfl
            simp only [execOp, evS, h61]
            go_simp
          refine ⟨fun t w1 hf hk hp => ?_, ?_⟩
          · have h62 : slot t 62 = .string c.b := hp 62 (by kernel_rfl)
            clear hf hp
            refine stepAt_plain rfl ?_
            exact stepOK_pure (.int .i64 (c.b.size : Int)) (execLenS w1 rfl rfl h62) rfl
          refine ⟨fun t w1 hf hk hp => ?_, ?_⟩
          · have h60 : slot t 60 = .int .i64 (c.b.size : Int) := hp 60 (by kernel_rfl)
            have h63 : slot t 63 = .int .i64 (c.b.size : Int) := hp 63 (by kernel_rfl)
            clear hf hp
            refine stepAt_plain rfl ?_
            refine stepOK_pure (.bool true) ?_ rfl
            simp only [execOp, evS, h60, h63]
            go_simp
          refine ⟨fun t w1 hf hk hp => ?_, ?_⟩
          · have h64 : slot t 64 = .bool true := hp 64 (by kernel_rfl)
            clear hf hp
            refine stepAt_plain rfl ?_
            exact stepOK_move _ (.inl rfl) h64
          refine ⟨fun t w1 hf hk hp => ?_, ?_⟩
          · have h65 : slot t 65 = .bool true := hp 65 (by kernel_rfl)
            clear hf hp
            refine stepAt_on 65 true (by kernel_rfl) h65 ?_
            refine stepOK_call #[] rfl (by simp only [List.map_toArray, List.map_nil]) (by go_simp) ((awake8_any w1).mono fun e w' ⟨he, hk'⟩ => ⟨_, he, Grown.kept hk', rfl⟩)
          refine ⟨fun t w1 hf hk hp => ?_, ?_⟩
          · have h65 : slot t 65 = .bool true := hp 65 (by kernel_rfl)
            have h66 : slot t 66 = .bool true := hp 66 (by kernel_rfl)
            clear hf hp
            refine stepAt_plain rfl ?_
            refine stepOK_pure (.bool true) ?_ rfl
            simp only [execOp, evS, h65, h66]
            go_simp
          refine ⟨fun t w1 hf hk hp => ?_, ?_⟩
          · have h67 : slot t 67 = .bool true := hp 67 (by kernel_rfl)
            clear hf hp
            refine stepAt_plain rfl ?_
            exact stepOK_move _ (.inr rfl) h67
          exact trivial
        · intro t w1 hsz hf hk hfacts
          have h4 : slot t 4 = .bool true := hfacts 9 _ rfl 4 rfl
          have h5 : slot t 5 = .pointer (some ⟨g, 0, none⟩) := hf 5 (by kernel_rfl)
          have h6 : slot t 6 = .pointer (some ⟨v1.heap.size, 0, none⟩) := hf 6 (by kernel_rfl)
          have harr : t = #[slot t 0, slot t 1, slot t 2, slot t 3, slot t 4, slot t 5, slot t 6, slot t 7, slot t 8, slot t 9, slot t 10, slot t 11, slot t 12, slot t 13, slot t 14, slot t 15, slot t 16, slot t 17, slot t 18, slot t 19, slot t 20, slot t 21, slot t 22, slot t 23, slot t 24, slot t 25, slot t 26, slot t 27, slot t 28, slot t 29, slot t 30, slot t 31, slot t 32, slot t 33, slot t 34, slot t 35, slot t 36, slot t 37, slot t 38, slot t 39, slot t 40, slot t 41, slot t 42, slot t 43, slot t 44, slot t 45, slot t 46, slot t 47, slot t 48, slot t 49, slot t 50, slot t 51, slot t 52, slot t 53, slot t 54, slot t 55, slot t 56, slot t 57, slot t 58, slot t 59, slot t 60, slot t 61, slot t 62, slot t 63, slot t 64, slot t 65, slot t 66, slot t 67] := arr_eq t 68 hsz
          rw [harr, h4, h5, h6]
          clear harr hfacts hf h4 h5 h6
          generalize slot t 0 = x0; generalize slot t 1 = x1; generalize slot t 2 = x2; generalize slot t 3 = x3; generalize slot t 7 = x7; generalize slot t 8 = x8; generalize slot t 9 = x9; generalize slot t 10 = x10; generalize slot t 11 = x11; generalize slot t 12 = x12; generalize slot t 13 = x13; generalize slot t 14 = x14
          generalize slot t 15 = x15; generalize slot t 16 = x16; generalize slot t 17 = x17; generalize slot t 18 = x18; generalize slot t 19 = x19; generalize slot t 20 = x20; generalize slot t 21 = x21; generalize slot t 22 = x22; generalize slot t 23 = x23; generalize slot t 24 = x24; generalize slot t 25 = x25; generalize slot t 26 = x26
          generalize slot t 27 = x27; generalize slot t 28 = x28; generalize slot t 29 = x29; generalize slot t 30 = x30; generalize slot t 31 = x31; generalize slot t 32 = x32; generalize slot t 33 = x33; generalize slot t 34 = x34; generalize slot t 35 = x35; generalize slot t 36 = x36; generalize slot t 37 = x37; generalize slot t 38 = x38
          generalize slot t 39 = x39; generalize slot t 40 = x40; generalize slot t 41 = x41; generalize slot t 42 = x42; generalize slot t 43 = x43; generalize slot t 44 = x44; generalize slot t 45 = x45; generalize slot t 46 = x46; generalize slot t 47 = x47; generalize slot t 48 = x48; generalize slot t 49 = x49; generalize slot t 50 = x50
          generalize slot t 51 = x51; generalize slot t 52 = x52; generalize slot t 53 = x53; generalize slot t 54 = x54; generalize slot t 55 = x55; generalize slot t 56 = x56; generalize slot t 57 = x57; generalize slot t 58 = x58; generalize slot t 59 = x59; generalize slot t 60 = x60; generalize slot t 61 = x61; generalize slot t 62 = x62
          generalize slot t 63 = x63; generalize slot t 64 = x64; generalize slot t 65 = x65; generalize slot t 66 = x66; generalize slot t 67 = x67
          clear hsz t
          have HK := Lib.hid (G1.out.trans hk)
          clear hk
          go_wp2_with fail
          go_ret
          exact ⟨rfl, HK.out⟩

set_option maxRecDepth 100000 in
set_option maxHeartbeats 1000000 in
theorem lifted (os : Os) (started : os.Started) (H : Type) (enc : TypeId × Value → H) :
    ReturnsInHanded {} Try.checked os 3 .any (Rows.curStepsSpec.pre6 enc Try.prog Try.f3 Rows.curStepsRow.domain false) (Rows.curStepsSpec.post enc Try.prog Try.f3 false true false false) := by
  refine returnsInHanded_of_change_sized (C := Try.checked) own started (by kernel_rfl) Try.func3
    (ChangeSpec.witness6 (enc := enc) (C := Try.checked) false ⟨#[], #[.string ByteArray.empty, .slice none 0 0], []⟩ 8 (by kernel_rfl) (by kernel_rfl) (by kernel_rfl) (by kernel_rfl)) ?_
  intro W base args ds gs before hval0 hW hcnd hsz0 _
  have hval : ∀ (j : Nat) t v, Try.f3.params[j]? = some t → args[j]? = some v → Value.okWide Try.prog W .any base t v := hval0
  have hsz : (DataW.weightsEach Try.prog (Try.f3.params.toList ++ Rows.curStepsSpec.plain.varTypes Try.prog) (ds ++ gs)).all (· ≤ reachBytes) = true := hsz0
  have hW' := hW
  obtain ⟨p, q, hA0, hV, rfl, hfz, hnd⟩ := hW
  have hA : DataW.TrodAll enc Try.prog W 0 (fun _ => true) true Try.f3.params.toList args.toList ds p := hA0
  have hAk := hA
  rw [Try.params3] at hA hval hsz
  obtain ⟨v0, vs0, d0, ds0, p0_, q0_, hargs, rfl, rfl, h0, r0_⟩ := trodAll_cons hA
  obtain ⟨v1, vs1, d1, ds1, p1_, q1_, rfl, rfl, rfl, h1, r1_⟩ := trodAll_cons r0_
  obtain ⟨rfl, rfl, rfl⟩ := trodAll_nil r1_
  obtain rfl : args = #[v0, v1] := by cases args; simp_all
  obtain ⟨rfl, rfl⟩ := trodVars_none hV
  have hlt : ∀ x ∈ (p0_ ++ (p1_ ++ ([]))), x.block < W.heap.size := fun x hx => by simpa using hW'.lt x (by simpa using hx)
  obtain ⟨a0, rfl, rfl, rfl, w0⟩ := open_string Try.underlying9 (hval 0 9 v0 rfl rfl) h0
  obtain ⟨p1, n1, c1, F1, z1, rfl, e1⟩ := open_quadsArg Try.underlying22 Try.underlying32 (by kernel_rfl) ⟨rfl, rfl, rfl, rfl⟩ ⟨by kernel_rfl, by kernel_rfl, by kernel_rfl, by kernel_rfl⟩ Try.underlying3 Try.underlying3 Try.underlying30 Try.underlying3 (hval 1 22 v1 rfl rfl) h1
  have r0 : a0.size ≤ 140737488351232 := by have := sized_string hsz (j := 0) (t := 9) rfl rfl; simpa [reachBytes] using this
  clear hA0 hval0
  refine (walk a0 w0 r0 p1 n1 c1 F1 z1 W e1).mono fun e W' ⟨he, hg⟩ => ?_
  subst he
  exact ⟨_, rfl, ⟨_, _, _, [], _, [], hW', trodAll_cons_mk (shut_bool Try.underlying4 _) trodAll_mk0, trodAll_stays laidOut hg (by kernel_rfl) hAk hlt (fun x hx => by simpa using hlt x hx), rfl, Kept.frame hg _, fun h => by cases h⟩⟩

theorem over : Rows.curStepsRow.holds Try.pinned (OpenSpec.ofChange Rows.curStepsSpec) :=
  OpenClaim.holds_of_wide 3 Try.f3 rfl rfl rfl rfl rfl rfl rfl ⟨rfl, rfl, rfl, rfl, rfl⟩ rfl rfl rfl rfl rfl (by kernel_rfl) Try.func3 (by kernel_rfl)
    (of_decide_eq_true (by kernel_rfl)) (by unfold Func.isWrapper; first | (rw [if_pos (by decide +kernel)]; kernel_rfl) | (rw [if_neg (by decide +kernel)]; exact ⟨rfl, rfl⟩))
    (fun os started H enc _ => lifted os started H enc)
end Go.Proofs.Ytbnaiojbkecofaa.curSteps
namespace Go.Proofs.Ytbnaiojbkecofaa
theorem curSteps_holds : Rows.CurStepsSaid := curSteps.over
#print axioms curSteps_holds
end Go.Proofs.Ytbnaiojbkecofaa
