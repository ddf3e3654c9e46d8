/-
  For layer 20's laws: awake of milepostlaw20. No condition.
-/
import Derived.Test.YtfadcibmkjpjoaaInterWalk
import Derived.Test.YtfadcibmkjpjoaaInterRef
import Derived.Test.YtfadcibmkjpjoaaHashEx
import Derived.Test.YtfadcibmkjpjoaaLawLibI
namespace Go.Proofs.Ytfadcibmkjpjoaa
set_option maxRecDepth 4000
open Go.RowKit

theorem run_build_z (w : World) : (Instr.build 24 #[]).run Try.prog w = .ok (.agg (bC 32 zH)) w := by rw [← bC_zH]; kernel_rfl
theorem execBuild_z {o : Oper} {t : Array Value} (w : World) (ho : o.op = .build 24 #[]) : (execOp (evS t) o).run Try.prog w = .ok (.value (.agg (bC 32 zH))) w := by
  have hr := run_build_z w
  unfold execOp
  simp [ho, hr, Result.andThen_ok]
theorem execIndexI20 {o : Oper} {t : Array Value} {x y : Operand} (q : Addr) (n c k : Nat) (hk : k < n) (w : World) (ho : o.op = .indexAddr 33 x y) (hx : evS t x = .slice (some q) n c) (hy : evS t y = .int .i64 (k : Int)) :
    (execOp (evS t) o).run Try.prog w = .ok (.value (.pointer (some (q.add k)))) w := by
  have h1 : ((k : Int) < (n : Int)) := by omega
  have hs : (Go.sizeOf 3).run Try.prog w = .ok 1 w := by kernel_rfl
  unfold execOp
  rw [ho]
  simp only [hx, hy]
  go_simp
theorem run_loadI20 {w : World} {a : Addr} {n : Int} (h : w.cell? a = some (.int .i64 n)) : (Instr.loadAt 3 (.pointer (some a))).run Try.prog w = .ok (.int .i64 n) w := by
  go_simp
theorem execMax0 {o : Oper} {t : Array Value} {x : Operand} (l mx : Int) (h : mx = max l 0) (w : World) (ho : o.op = .call { callee := .builtin .max, args := #[x, .const (.int .i64 0)], argTypes := #[3, 3] }) (hx : evS t x = .int .i64 l) :
    (execOp (evS t) o).run Try.prog w = .ok (.value (.int .i64 mx)) w := by
  have hy : evS t (.const (.int .i64 0)) = .int .i64 0 := rfl
  unfold execOp
  rw [ho]
  go_simp
  split <;> omega
set_option maxRecDepth 100000 in
set_option maxHeartbeats 1000000 in
theorem awake20_any (w : World) : Calls Try.prog 6 #[] w fun e w' => e = .returned (.bool true) ∧ Kept w w' := by
  have hl1 : h1L.length = 32 := rfl
  have hl2 : h2L.length = 32 := rfl
  have HF : Hid (∀ w, _) := Lib.hid fun w => interFirst_any h1L w hl1
  have HA : Hid (∀ v w, HSl 1 (fun _ => h1L) v w → Calls Try.prog 9 #[v, .agg (bC 32 h2L), .int .i64 0] w fun e w' => ∃ u, e = .returned u ∧ HSl 2 (fun i => if i = 0 then h2L else h1L) u w' ∧ Kept w w') := Lib.hid fun v w hv => (interNext_any 1 (fun _ => h1L) v w h2L 0 hv (by omega) hl2 (by omega) (by omega)).mono fun e w' ⟨u, he, hu, hk⟩ => by
    refine ⟨u, he, ?_, hk⟩
    obtain ⟨p, c, hp, h1, h2, h3⟩ := hu
    refine ⟨p, c, hp, h1, h2, fun i hi => ?_⟩
    have hN : nxN 1 (lvlC 0) = 2 := by decide
    have := h3 i (by rw [hN]; exact hi)
    have e : nxF (fun _ => h1L) 1 h2L (lvlC 0) i = if i = 0 then h2L else h1L := by
      have : i = 0 ∨ i = 1 := by omega
      rcases this with rfl | rfl <;> rfl
    rwa [e] at this
  have HB : Hid (∀ v w, HSl 1 (fun _ => h1L) v w → Calls Try.prog 9 #[v, .agg (bC 32 h2L), .int .i64 2] w fun e w' => ∃ u, e = .returned u ∧ HSl 4 (fun i => if i < 3 then h2L else h1L) u w' ∧ Kept w w') := Lib.hid fun v w hv => (interNext_any 1 (fun _ => h1L) v w h2L 2 hv (by omega) hl2 (by omega) (by omega)).mono fun e w' ⟨u, he, hu, hk⟩ => by
    refine ⟨u, he, ?_, hk⟩
    obtain ⟨p, c, hp, h1, h2, h3⟩ := hu
    refine ⟨p, c, hp, h1, h2, fun i hi => ?_⟩
    have hN : nxN 1 (lvlC 2) = 4 := by decide
    have := h3 i (by rw [hN]; exact hi)
    have e : nxF (fun _ => h1L) 1 h2L (lvlC 2) i = if i < 3 then h2L else h1L := by
      have : i = 0 ∨ i = 1 ∨ i = 2 ∨ i = 3 := by omega
      rcases this with rfl | rfl | rfl | rfl <;> rfl
    rwa [e] at this
  have H1 : Hid (∀ {o : Oper} {t : Array Value} (w : World), o.op = .build 24 #[(0, .const (.int .u8 1))] → (execOp (evS t) o).run Try.prog w = .ok (.value (.agg (bC 32 h1L))) w) := Lib.hid fun w ho => execBuild_h1 w ho
  have H2 : Hid (∀ {o : Oper} {t : Array Value} (w : World), o.op = .build 24 #[(0, .const (.int .u8 2))] → (execOp (evS t) o).run Try.prog w = .ok (.value (.agg (bC 32 h2L))) w) := Lib.hid fun w ho => execBuild_h2 w ho
  generalize h1L = A at *
  generalize h2L = B at *
  have R1 := Lib.hid ((Rowz.new w (bC 32 []) 24).alloc (.cells (bC 32 []) 24))
  have R2 := Lib.hid (Rowz.newEq1 w (.cells (bC 32 []) 24) _ (bC 32 []) 24 rfl)
  have K1 := Lib.hid (((Kept.refl w).alloc (.cells (bC 32 []) 24)).alloc (.cells (bC 32 []) 24))
  go_enter Try.func6, Try.ntmps6
  go_wp2_with (first
    | (refine wpList_exec 5 rfl (by rfl) _ _ (H1.out _ rfl) ?_)
    | (refine wpList_exec 6 rfl (by rfl) _ _ (H2.out _ rfl) ?_)
    | (refine park_none rfl ?_))
  change Parked (wpList _ _ _ _ _ ((w.alloc (.cells (bC 32 []) 24)).alloc (.cells (bC 32 []) 24)))
  generalize (w.alloc (.cells (bC 32 []) 24)).alloc (.cells (bC 32 []) 24) = v1 at R1 R2 K1 ⊢
  refine unpark ?_
  refine wpList_store_row rfl 24 _ _ rfl w.heap.size (bC 32 A) rfl rfl 24 (bC 32 []) R1.out (info_hash _) (by simp [bC_size]) (bC_one _ _) ?_
  refine wpList_store_row rfl 24 _ _ rfl (w.heap.size + 1) (bC 32 B) rfl rfl 24 (bC 32 []) (R2.out.rowOther (by omega)) (info_hash _) (by simp [bC_size]) (bC_one _ _) ?_
  have S1 := Lib.hid ((R1.out.row (D := bC 32 A)).rowOther (k := w.heap.size + 1) (D := bC 32 B) (by omega))
  have S2 := Lib.hid ((R2.out.rowOther (k := w.heap.size) (D := bC 32 A) (by omega)).row (D := bC 32 B))
  have K2 := Lib.hid ((K1.out.setRow (g := w.heap.size) (by omega) (bC 32 A)).setRow (g := w.heap.size + 1) (by omega) (bC 32 B))
  generalize (v1.setRow w.heap.size (bC 32 A)).setRow (w.heap.size + 1) (bC 32 B) = v2 at S1 S2 K2 ⊢
  clear R1 R2 K1
  go_wp2_with fail
  refine wp_region_table [(7, .is (.agg (bC 32 A))), (8, .such (HSl 1 (fun _ => A)) (HSl.kept 1 (fun _ => A))), (9, .is (.agg (bC 32 B))), (10, .such (HSl 2 (fun i => if i = 0 then B else A)) (HSl.kept 2 (fun i => if i = 0 then B else A))), (11, .is (.agg (bC 32 A))), (12, .such (HSl 1 (fun _ => A)) (HSl.kept 1 (fun _ => A))), (13, .is (.agg (bC 32 B))), (14, .such (HSl 4 (fun i => if i < 3 then B else A)) (HSl.kept 4 (fun i => if i < 3 then B else A))), (3, .such (HSl 2 (fun i => if i = 0 then B else A)) (HSl.kept 2 (fun i => if i = 0 then B else A))), (4, .such (HSl 4 (fun i => if i < 3 then B else A)) (HSl.kept 4 (fun i => if i < 3 then B else A)))] (by kernel_rfl) (by kernel_rfl) ?_ ?_
  · refine ⟨fun t w1 hf hk hp => ?_, ?_⟩
    · have h1 : slot t 1 = .pointer (some ⟨w.heap.size, 0, none⟩) := hf 1 (by kernel_rfl)
      clear hf hp
      refine stepAt_plain rfl ?_
      exact stepOK_pure (.agg (bC 32 A)) (load_h rfl h1 (S1.out.kept hk)) rfl
    refine ⟨fun t w1 hf hk hp => ?_, ?_⟩
    · have h7 : slot t 7 = .agg (bC 32 A) := hp 7 (by kernel_rfl)
      clear hf hp
      refine stepAt_plain rfl ?_
      refine stepOK_call #[.agg (bC 32 A)] rfl (by simp only [List.map_toArray, List.map_cons, List.map_nil, evS, h7]) (by go_simp) ((HF.out w1).mono fun e w' ⟨v, he, hpv, hk'⟩ => ⟨v, he, hk', hpv⟩)
    refine ⟨fun t w1 hf hk hp => ?_, ?_⟩
    · have h2 : slot t 2 = .pointer (some ⟨w.heap.size + 1, 0, none⟩) := hf 2 (by kernel_rfl)
      clear hf hp
      refine stepAt_plain rfl ?_
      exact stepOK_pure (.agg (bC 32 B)) (load_h rfl h2 (S2.out.kept hk)) rfl
    refine ⟨fun t w1 hf hk hp => ?_, ?_⟩
    · obtain ⟨v8, h8, p8⟩ : ∃ v, slot t 8 = v ∧ (HSl 1 (fun _ => A)) v w1 := ⟨_, rfl, hp 8 (by kernel_rfl)⟩
      have h9 : slot t 9 = .agg (bC 32 B) := hp 9 (by kernel_rfl)
      clear hf hp
      refine stepAt_plain rfl ?_
      refine stepOK_call #[v8, .agg (bC 32 B), .int .i64 0] rfl (by simp only [List.map_toArray, List.map_cons, List.map_nil, evS, h8, h9]) (by go_simp) ((HA.out _ w1 p8).mono fun e w' ⟨v, he, hpv, hk'⟩ => ⟨v, he, hk', hpv⟩)
    refine ⟨fun t w1 hf hk hp => ?_, ?_⟩
    · have h1 : slot t 1 = .pointer (some ⟨w.heap.size, 0, none⟩) := hf 1 (by kernel_rfl)
      clear hf hp
      refine stepAt_plain rfl ?_
      exact stepOK_pure (.agg (bC 32 A)) (load_h rfl h1 (S1.out.kept hk)) rfl
    refine ⟨fun t w1 hf hk hp => ?_, ?_⟩
    · have h11 : slot t 11 = .agg (bC 32 A) := hp 11 (by kernel_rfl)
      clear hf hp
      refine stepAt_plain rfl ?_
      refine stepOK_call #[.agg (bC 32 A)] rfl (by simp only [List.map_toArray, List.map_cons, List.map_nil, evS, h11]) (by go_simp) ((HF.out w1).mono fun e w' ⟨v, he, hpv, hk'⟩ => ⟨v, he, hk', hpv⟩)
    refine ⟨fun t w1 hf hk hp => ?_, ?_⟩
    · have h2 : slot t 2 = .pointer (some ⟨w.heap.size + 1, 0, none⟩) := hf 2 (by kernel_rfl)
      clear hf hp
      refine stepAt_plain rfl ?_
      exact stepOK_pure (.agg (bC 32 B)) (load_h rfl h2 (S2.out.kept hk)) rfl
    refine ⟨fun t w1 hf hk hp => ?_, ?_⟩
    · obtain ⟨v12, h12, p12⟩ : ∃ v, slot t 12 = v ∧ (HSl 1 (fun _ => A)) v w1 := ⟨_, rfl, hp 12 (by kernel_rfl)⟩
      have h13 : slot t 13 = .agg (bC 32 B) := hp 13 (by kernel_rfl)
      clear hf hp
      refine stepAt_plain rfl ?_
      refine stepOK_call #[v12, .agg (bC 32 B), .int .i64 2] rfl (by simp only [List.map_toArray, List.map_cons, List.map_nil, evS, h12, h13]) (by go_simp) ((HB.out _ w1 p12).mono fun e w' ⟨v, he, hpv, hk'⟩ => ⟨v, he, hk', hpv⟩)
    refine ⟨fun t w1 hf hk hp => ?_, ?_⟩
    · obtain ⟨v10, h10, p10⟩ : ∃ v, slot t 10 = v ∧ (HSl 2 (fun i => if i = 0 then B else A)) v w1 := ⟨_, rfl, hp 10 (by kernel_rfl)⟩
      clear hf hp
      refine stepAt_plain rfl ?_
      exact stepOK_move _ (.inr rfl) (by simp only [evS, h10]; exact p10)
    refine ⟨fun t w1 hf hk hp => ?_, ?_⟩
    · obtain ⟨v14, h14, p14⟩ : ∃ v, slot t 14 = v ∧ (HSl 4 (fun i => if i < 3 then B else A)) v w1 := ⟨_, rfl, hp 14 (by kernel_rfl)⟩
      clear hf hp
      refine stepAt_plain rfl ?_
      exact stepOK_move _ (.inr rfl) (by simp only [evS, h14]; exact p14)
    exact trivial
  · intro t w1 hsz hf hk hfacts
    obtain ⟨v3, h3, p3⟩ : ∃ v, slot t 3 = v ∧ (HSl 2 (fun i => if i = 0 then B else A)) v w1 := ⟨_, rfl, hfacts 8 _ rfl 3 rfl⟩
    obtain ⟨v4, h4, p4⟩ : ∃ v, slot t 4 = v ∧ (HSl 4 (fun i => if i < 3 then B else A)) v w1 := ⟨_, rfl, hfacts 9 _ rfl 4 rfl⟩
    have h1 : slot t 1 = .pointer (some ⟨w.heap.size, 0, none⟩) := hf 1 (by kernel_rfl)
    have h2 : slot t 2 = .pointer (some ⟨w.heap.size + 1, 0, none⟩) := hf 2 (by kernel_rfl)
    have harr : t = #[slot t 0, slot t 1, slot t 2, slot t 3, slot t 4, slot t 5, slot t 6, slot t 7, slot t 8, slot t 9, slot t 10, slot t 11, slot t 12, slot t 13, slot t 14, slot t 15, slot t 16, slot t 17, slot t 18, slot t 19, slot t 20, slot t 21, slot t 22, slot t 23, slot t 24, slot t 25, slot t 26, slot t 27, slot t 28, slot t 29, slot t 30, slot t 31, slot t 32, slot t 33, slot t 34, slot t 35, slot t 36, slot t 37, slot t 38, slot t 39, slot t 40, slot t 41, slot t 42, slot t 43, slot t 44, slot t 45, slot t 46, slot t 47, slot t 48, slot t 49, slot t 50] := arr_eq t 51 hsz
    rw [harr, h3, h4, h1, h2]
    clear harr hfacts hf h3 h4 h1 h2
    generalize slot t 0 = x0; generalize slot t 5 = x5; generalize slot t 6 = x6; generalize slot t 7 = x7; generalize slot t 8 = x8; generalize slot t 9 = x9; generalize slot t 10 = x10; generalize slot t 11 = x11; generalize slot t 12 = x12; generalize slot t 13 = x13; generalize slot t 14 = x14; generalize slot t 15 = x15
    generalize slot t 16 = x16; generalize slot t 17 = x17; generalize slot t 18 = x18; generalize slot t 19 = x19; generalize slot t 20 = x20; generalize slot t 21 = x21; generalize slot t 22 = x22; generalize slot t 23 = x23; generalize slot t 24 = x24; generalize slot t 25 = x25; generalize slot t 26 = x26; generalize slot t 27 = x27
    generalize slot t 28 = x28; generalize slot t 29 = x29; generalize slot t 30 = x30; generalize slot t 31 = x31; generalize slot t 32 = x32; generalize slot t 33 = x33; generalize slot t 34 = x34; generalize slot t 35 = x35; generalize slot t 36 = x36; generalize slot t 37 = x37; generalize slot t 38 = x38; generalize slot t 39 = x39
    generalize slot t 40 = x40; generalize slot t 41 = x41; generalize slot t 42 = x42; generalize slot t 43 = x43; generalize slot t 44 = x44; generalize slot t 45 = x45; generalize slot t 46 = x46; generalize slot t 47 = x47; generalize slot t 48 = x48; generalize slot t 49 = x49; generalize slot t 50 = x50
    clear hsz t
    obtain ⟨p, c, rfl, _, _, HP⟩ := p3
    obtain ⟨p', c', rfl, _, _, HP'⟩ := p4
    obtain ⟨q, rfl, _⟩ := HP.some (by omega)
    obtain ⟨q', rfl, _⟩ := HP'.some (by omega)
    have T1 := Lib.hid HP
    have T2 := Lib.hid HP'
    have S1' := Lib.hid (S1.out.kept hk)
    have S2' := Lib.hid (S2.out.kept hk)
    have K3 := Lib.hid (K2.out.trans hk)
    clear HP HP' hk S1 S2 K2
    go_wp2_with fail
    refine wp_region_table [(15, .is (.slice (some q) 2 c)), (16, .is (.int .i64 2)), (17, .is (.bool true)), (18, .is (.bool true)), (19, .is (.slice (some q) 2 c)), (20, .is (.pointer (some (q.add (0 * 32))))), (21, .is (.agg (bC 32 B))), (22, .is (.agg (bC 32 B))), (23, .is (.bool true)), (24, .is (.bool true)), (25, .is (.bool true)), (26, .is (.slice (some q) 2 c)), (27, .is (.pointer (some (q.add (1 * 32))))), (28, .is (.agg (bC 32 A))), (29, .is (.agg (bC 32 A))), (30, .is (.bool true)), (31, .is (.bool true)), (32, .is (.bool true)), (33, .is (.slice (some q') 4 c')), (34, .is (.int .i64 4)), (35, .is (.bool true)), (36, .is (.bool true)), (37, .is (.bool true)), (38, .is (.slice (some q') 4 c')), (39, .is (.pointer (some (q'.add (2 * 32))))), (40, .is (.agg (bC 32 B))), (41, .is (.agg (bC 32 B))), (42, .is (.bool true)), (43, .is (.bool true)), (44, .is (.bool true)), (45, .is (.slice (some q') 4 c')), (46, .is (.pointer (some (q'.add (3 * 32))))), (47, .is (.agg (bC 32 A))), (48, .is (.agg (bC 32 A))), (49, .is (.bool true)), (50, .is (.bool true)), (0, .is (.bool true))] (by kernel_rfl) (by kernel_rfl) ?_ ?_
    · refine ⟨fun t w1 hf hk hp => ?_, ?_⟩
      · have h3 : slot t 3 = .slice (some q) 2 c := hf 3 (by kernel_rfl)
        clear hf hp
        refine stepAt_plain rfl ?_
        exact stepOK_move _ (.inl rfl) h3
      refine ⟨fun t w1 hf hk hp => ?_, ?_⟩
      · have h15 : slot t 15 = .slice (some q) 2 c := hp 15 (by kernel_rfl)
        clear hf hp
        refine stepAt_plain rfl ?_
        exact stepOK_pure (.int .i64 2) (execLenHs (n := 2) w1 rfl h15) rfl
      refine ⟨fun t w1 hf hk hp => ?_, ?_⟩
      · have h16 : slot t 16 = .int .i64 2 := hp 16 (by kernel_rfl)
        clear hf hp
        refine stepAt_plain rfl ?_
        refine stepOK_pure (.bool true) ?_ rfl
        simp only [execOp, evS, h16]
        go_simp
      refine ⟨fun t w1 hf hk hp => ?_, ?_⟩
      · have h17 : slot t 17 = .bool true := hp 17 (by kernel_rfl)
        clear hf hp
        refine stepAt_plain rfl ?_
        exact stepOK_move _ (.inl rfl) h17
      refine ⟨fun t w1 hf hk hp => ?_, ?_⟩
      · have h3 : slot t 3 = .slice (some q) 2 c := hf 3 (by kernel_rfl)
        have h18 : slot t 18 = .bool true := hp 18 (by kernel_rfl)
        clear hf hp
        refine stepAt_on 18 true (by kernel_rfl) h18 ?_
        exact stepOK_move _ (.inl rfl) h3
      refine ⟨fun t w1 hf hk hp => ?_, ?_⟩
      · have h19 : slot t 19 = .slice (some q) 2 c := hp 19 (by kernel_rfl)
        have h18 : slot t 18 = .bool true := hp 18 (by kernel_rfl)
        clear hf hp
        refine stepAt_on 18 true (by kernel_rfl) h18 ?_
        exact stepOK_pure (.pointer (some (q.add (0 * 32)))) (execIndex0 q 2 c 0 (by omega) w1 rfl h19) rfl
      refine ⟨fun t w1 hf hk hp => ?_, ?_⟩
      · have h20 : slot t 20 = .pointer (some (q.add (0 * 32))) := hp 20 (by kernel_rfl)
        have h18 : slot t 18 = .bool true := hp 18 (by kernel_rfl)
        clear hf hp
        refine stepAt_on 18 true (by kernel_rfl) h18 ?_
        have hq0 := (T1.out.kept hk).load 0 (by omega)
        exact stepOK_sem (.agg (bC 32 B)) (by simp only [execOp, evS, h20]) hq0 rfl
      refine ⟨fun t w1 hf hk hp => ?_, ?_⟩
      · have h2 : slot t 2 = .pointer (some ⟨w.heap.size + 1, 0, none⟩) := hf 2 (by kernel_rfl)
        have h18 : slot t 18 = .bool true := hp 18 (by kernel_rfl)
        clear hf hp
        refine stepAt_on 18 true (by kernel_rfl) h18 ?_
        exact stepOK_pure (.agg (bC 32 B)) (load_h rfl h2 (S2'.out.kept hk)) rfl
      refine ⟨fun t w1 hf hk hp => ?_, ?_⟩
      · have h21 : slot t 21 = .agg (bC 32 B) := hp 21 (by kernel_rfl)
        have h22 : slot t 22 = .agg (bC 32 B) := hp 22 (by kernel_rfl)
        have h18 : slot t 18 = .bool true := hp 18 (by kernel_rfl)
        clear hf hp
        refine stepAt_on 18 true (by kernel_rfl) h18 ?_
        exact stepOK_pure (.bool true) (execEqH1 B hl2 w1 rfl h21 h22) rfl
      refine ⟨fun t w1 hf hk hp => ?_, ?_⟩
      · have h18 : slot t 18 = .bool true := hp 18 (by kernel_rfl)
        have h23 : slot t 23 = .bool true := hp 23 (by kernel_rfl)
        clear hf hp
        refine stepAt_plain rfl ?_
        refine stepOK_pure (.bool true) ?_ rfl
        simp only [execOp, evS, h18, h23]
        go_simp
      refine ⟨fun t w1 hf hk hp => ?_, ?_⟩
      · have h24 : slot t 24 = .bool true := hp 24 (by kernel_rfl)
        clear hf hp
        refine stepAt_plain rfl ?_
        exact stepOK_move _ (.inl rfl) h24
      refine ⟨fun t w1 hf hk hp => ?_, ?_⟩
      · have h3 : slot t 3 = .slice (some q) 2 c := hf 3 (by kernel_rfl)
        have h25 : slot t 25 = .bool true := hp 25 (by kernel_rfl)
        clear hf hp
        refine stepAt_on 25 true (by kernel_rfl) h25 ?_
        exact stepOK_move _ (.inl rfl) h3
      refine ⟨fun t w1 hf hk hp => ?_, ?_⟩
      · have h26 : slot t 26 = .slice (some q) 2 c := hp 26 (by kernel_rfl)
        have h25 : slot t 25 = .bool true := hp 25 (by kernel_rfl)
        clear hf hp
        refine stepAt_on 25 true (by kernel_rfl) h25 ?_
        exact stepOK_pure (.pointer (some (q.add (1 * 32)))) (execIndex0 q 2 c 1 (by omega) w1 rfl h26) rfl
      refine ⟨fun t w1 hf hk hp => ?_, ?_⟩
      · have h27 : slot t 27 = .pointer (some (q.add (1 * 32))) := hp 27 (by kernel_rfl)
        have h25 : slot t 25 = .bool true := hp 25 (by kernel_rfl)
        clear hf hp
        refine stepAt_on 25 true (by kernel_rfl) h25 ?_
        have hq0 := (T1.out.kept hk).load 1 (by omega)
        exact stepOK_sem (.agg (bC 32 A)) (by simp only [execOp, evS, h27]) hq0 rfl
      refine ⟨fun t w1 hf hk hp => ?_, ?_⟩
      · have h1 : slot t 1 = .pointer (some ⟨w.heap.size, 0, none⟩) := hf 1 (by kernel_rfl)
        have h25 : slot t 25 = .bool true := hp 25 (by kernel_rfl)
        clear hf hp
        refine stepAt_on 25 true (by kernel_rfl) h25 ?_
        exact stepOK_pure (.agg (bC 32 A)) (load_h rfl h1 (S1'.out.kept hk)) rfl
      refine ⟨fun t w1 hf hk hp => ?_, ?_⟩
      · have h28 : slot t 28 = .agg (bC 32 A) := hp 28 (by kernel_rfl)
        have h29 : slot t 29 = .agg (bC 32 A) := hp 29 (by kernel_rfl)
        have h25 : slot t 25 = .bool true := hp 25 (by kernel_rfl)
        clear hf hp
        refine stepAt_on 25 true (by kernel_rfl) h25 ?_
        exact stepOK_pure (.bool true) (execEqH1 A hl1 w1 rfl h28 h29) rfl
      refine ⟨fun t w1 hf hk hp => ?_, ?_⟩
      · have h25 : slot t 25 = .bool true := hp 25 (by kernel_rfl)
        have h30 : slot t 30 = .bool true := hp 30 (by kernel_rfl)
        clear hf hp
        refine stepAt_plain rfl ?_
        refine stepOK_pure (.bool true) ?_ rfl
        simp only [execOp, evS, h25, h30]
        go_simp
      refine ⟨fun t w1 hf hk hp => ?_, ?_⟩
      · have h31 : slot t 31 = .bool true := hp 31 (by kernel_rfl)
        clear hf hp
        refine stepAt_plain rfl ?_
        exact stepOK_move _ (.inl rfl) h31
      refine ⟨fun t w1 hf hk hp => ?_, ?_⟩
      · have h4 : slot t 4 = .slice (some q') 4 c' := hf 4 (by kernel_rfl)
        have h32 : slot t 32 = .bool true := hp 32 (by kernel_rfl)
        clear hf hp
        refine stepAt_on 32 true (by kernel_rfl) h32 ?_
        exact stepOK_move _ (.inl rfl) h4
      refine ⟨fun t w1 hf hk hp => ?_, ?_⟩
      · have h33 : slot t 33 = .slice (some q') 4 c' := hp 33 (by kernel_rfl)
        have h32 : slot t 32 = .bool true := hp 32 (by kernel_rfl)
        clear hf hp
        refine stepAt_on 32 true (by kernel_rfl) h32 ?_
        exact stepOK_pure (.int .i64 4) (execLenHs (n := 4) w1 rfl h33) rfl
      refine ⟨fun t w1 hf hk hp => ?_, ?_⟩
      · have h34 : slot t 34 = .int .i64 4 := hp 34 (by kernel_rfl)
        have h32 : slot t 32 = .bool true := hp 32 (by kernel_rfl)
        clear hf hp
        refine stepAt_on 32 true (by kernel_rfl) h32 ?_
        refine stepOK_pure (.bool true) ?_ rfl
        simp only [execOp, evS, h34]
        go_simp
      refine ⟨fun t w1 hf hk hp => ?_, ?_⟩
      · have h32 : slot t 32 = .bool true := hp 32 (by kernel_rfl)
        have h35 : slot t 35 = .bool true := hp 35 (by kernel_rfl)
        clear hf hp
        refine stepAt_plain rfl ?_
        refine stepOK_pure (.bool true) ?_ rfl
        simp only [execOp, evS, h32, h35]
        go_simp
      refine ⟨fun t w1 hf hk hp => ?_, ?_⟩
      · have h36 : slot t 36 = .bool true := hp 36 (by kernel_rfl)
        clear hf hp
        refine stepAt_plain rfl ?_
        exact stepOK_move _ (.inl rfl) h36
      refine ⟨fun t w1 hf hk hp => ?_, ?_⟩
      · have h4 : slot t 4 = .slice (some q') 4 c' := hf 4 (by kernel_rfl)
        have h37 : slot t 37 = .bool true := hp 37 (by kernel_rfl)
        clear hf hp
        refine stepAt_on 37 true (by kernel_rfl) h37 ?_
        exact stepOK_move _ (.inl rfl) h4
      refine ⟨fun t w1 hf hk hp => ?_, ?_⟩
      · have h38 : slot t 38 = .slice (some q') 4 c' := hp 38 (by kernel_rfl)
        have h37 : slot t 37 = .bool true := hp 37 (by kernel_rfl)
        clear hf hp
        refine stepAt_on 37 true (by kernel_rfl) h37 ?_
        exact stepOK_pure (.pointer (some (q'.add (2 * 32)))) (execIndex0 q' 4 c' 2 (by omega) w1 rfl h38) rfl
      refine ⟨fun t w1 hf hk hp => ?_, ?_⟩
      · have h39 : slot t 39 = .pointer (some (q'.add (2 * 32))) := hp 39 (by kernel_rfl)
        have h37 : slot t 37 = .bool true := hp 37 (by kernel_rfl)
        clear hf hp
        refine stepAt_on 37 true (by kernel_rfl) h37 ?_
        have hq0 := (T2.out.kept hk).load 2 (by omega)
        exact stepOK_sem (.agg (bC 32 B)) (by simp only [execOp, evS, h39]) hq0 rfl
      refine ⟨fun t w1 hf hk hp => ?_, ?_⟩
      · have h2 : slot t 2 = .pointer (some ⟨w.heap.size + 1, 0, none⟩) := hf 2 (by kernel_rfl)
        have h37 : slot t 37 = .bool true := hp 37 (by kernel_rfl)
        clear hf hp
        refine stepAt_on 37 true (by kernel_rfl) h37 ?_
        exact stepOK_pure (.agg (bC 32 B)) (load_h rfl h2 (S2'.out.kept hk)) rfl
      refine ⟨fun t w1 hf hk hp => ?_, ?_⟩
      · have h40 : slot t 40 = .agg (bC 32 B) := hp 40 (by kernel_rfl)
        have h41 : slot t 41 = .agg (bC 32 B) := hp 41 (by kernel_rfl)
        have h37 : slot t 37 = .bool true := hp 37 (by kernel_rfl)
        clear hf hp
        refine stepAt_on 37 true (by kernel_rfl) h37 ?_
        exact stepOK_pure (.bool true) (execEqH1 B hl2 w1 rfl h40 h41) rfl
      refine ⟨fun t w1 hf hk hp => ?_, ?_⟩
      · have h37 : slot t 37 = .bool true := hp 37 (by kernel_rfl)
        have h42 : slot t 42 = .bool true := hp 42 (by kernel_rfl)
        clear hf hp
        refine stepAt_plain rfl ?_
        refine stepOK_pure (.bool true) ?_ rfl
        simp only [execOp, evS, h37, h42]
        go_simp
      refine ⟨fun t w1 hf hk hp => ?_, ?_⟩
      · have h43 : slot t 43 = .bool true := hp 43 (by kernel_rfl)
        clear hf hp
        refine stepAt_plain rfl ?_
        exact stepOK_move _ (.inl rfl) h43
      refine ⟨fun t w1 hf hk hp => ?_, ?_⟩
      · have h4 : slot t 4 = .slice (some q') 4 c' := hf 4 (by kernel_rfl)
        have h44 : slot t 44 = .bool true := hp 44 (by kernel_rfl)
        clear hf hp
        refine stepAt_on 44 true (by kernel_rfl) h44 ?_
        exact stepOK_move _ (.inl rfl) h4
      refine ⟨fun t w1 hf hk hp => ?_, ?_⟩
      · have h45 : slot t 45 = .slice (some q') 4 c' := hp 45 (by kernel_rfl)
        have h44 : slot t 44 = .bool true := hp 44 (by kernel_rfl)
        clear hf hp
        refine stepAt_on 44 true (by kernel_rfl) h44 ?_
        exact stepOK_pure (.pointer (some (q'.add (3 * 32)))) (execIndex0 q' 4 c' 3 (by omega) w1 rfl h45) rfl
      refine ⟨fun t w1 hf hk hp => ?_, ?_⟩
      · have h46 : slot t 46 = .pointer (some (q'.add (3 * 32))) := hp 46 (by kernel_rfl)
        have h44 : slot t 44 = .bool true := hp 44 (by kernel_rfl)
        clear hf hp
        refine stepAt_on 44 true (by kernel_rfl) h44 ?_
        have hq0 := (T2.out.kept hk).load 3 (by omega)
        exact stepOK_sem (.agg (bC 32 A)) (by simp only [execOp, evS, h46]) hq0 rfl
      refine ⟨fun t w1 hf hk hp => ?_, ?_⟩
      · have h1 : slot t 1 = .pointer (some ⟨w.heap.size, 0, none⟩) := hf 1 (by kernel_rfl)
        have h44 : slot t 44 = .bool true := hp 44 (by kernel_rfl)
        clear hf hp
        refine stepAt_on 44 true (by kernel_rfl) h44 ?_
        exact stepOK_pure (.agg (bC 32 A)) (load_h rfl h1 (S1'.out.kept hk)) rfl
      refine ⟨fun t w1 hf hk hp => ?_, ?_⟩
      · have h47 : slot t 47 = .agg (bC 32 A) := hp 47 (by kernel_rfl)
        have h48 : slot t 48 = .agg (bC 32 A) := hp 48 (by kernel_rfl)
        have h44 : slot t 44 = .bool true := hp 44 (by kernel_rfl)
        clear hf hp
        refine stepAt_on 44 true (by kernel_rfl) h44 ?_
        exact stepOK_pure (.bool true) (execEqH1 A hl1 w1 rfl h47 h48) rfl
      refine ⟨fun t w1 hf hk hp => ?_, ?_⟩
      · have h44 : slot t 44 = .bool true := hp 44 (by kernel_rfl)
        have h49 : slot t 49 = .bool true := hp 49 (by kernel_rfl)
        clear hf hp
        refine stepAt_plain rfl ?_
        refine stepOK_pure (.bool true) ?_ rfl
        simp only [execOp, evS, h44, h49]
        go_simp
      refine ⟨fun t w1 hf hk hp => ?_, ?_⟩
      · have h50 : slot t 50 = .bool true := hp 50 (by kernel_rfl)
        clear hf hp
        refine stepAt_plain rfl ?_
        exact stepOK_move _ (.inr rfl) h50
      exact trivial
    · intro t w1 hsz hf hk hfacts
      have h0 : slot t 0 = .bool true := hfacts 36 _ rfl 0 rfl
      have h1 : slot t 1 = .pointer (some ⟨w.heap.size, 0, none⟩) := hf 1 (by kernel_rfl)
      have h2 : slot t 2 = .pointer (some ⟨w.heap.size + 1, 0, none⟩) := hf 2 (by kernel_rfl)
      have h3 : slot t 3 = .slice (some q) 2 c := hf 3 (by kernel_rfl)
      have h4 : slot t 4 = .slice (some q') 4 c' := hf 4 (by kernel_rfl)
      have harr : t = #[slot t 0, slot t 1, slot t 2, slot t 3, slot t 4, slot t 5, slot t 6, slot t 7, slot t 8, slot t 9, slot t 10, slot t 11, slot t 12, slot t 13, slot t 14, slot t 15, slot t 16, slot t 17, slot t 18, slot t 19, slot t 20, slot t 21, slot t 22, slot t 23, slot t 24, slot t 25, slot t 26, slot t 27, slot t 28, slot t 29, slot t 30, slot t 31, slot t 32, slot t 33, slot t 34, slot t 35, slot t 36, slot t 37, slot t 38, slot t 39, slot t 40, slot t 41, slot t 42, slot t 43, slot t 44, slot t 45, slot t 46, slot t 47, slot t 48, slot t 49, slot t 50] := arr_eq t 51 hsz
      rw [harr, h0, h1, h2, h3, h4]
      clear harr hfacts hf h0 h1 h2 h3 h4
      generalize slot t 5 = x5; generalize slot t 6 = x6; generalize slot t 7 = x7; generalize slot t 8 = x8; generalize slot t 9 = x9; generalize slot t 10 = x10; generalize slot t 11 = x11; generalize slot t 12 = x12; generalize slot t 13 = x13; generalize slot t 14 = x14; generalize slot t 15 = x15; generalize slot t 16 = x16
      generalize slot t 17 = x17; generalize slot t 18 = x18; generalize slot t 19 = x19; generalize slot t 20 = x20; generalize slot t 21 = x21; generalize slot t 22 = x22; generalize slot t 23 = x23; generalize slot t 24 = x24; generalize slot t 25 = x25; generalize slot t 26 = x26; generalize slot t 27 = x27; generalize slot t 28 = x28
      generalize slot t 29 = x29; generalize slot t 30 = x30; generalize slot t 31 = x31; generalize slot t 32 = x32; generalize slot t 33 = x33; generalize slot t 34 = x34; generalize slot t 35 = x35; generalize slot t 36 = x36; generalize slot t 37 = x37; generalize slot t 38 = x38; generalize slot t 39 = x39; generalize slot t 40 = x40
      generalize slot t 41 = x41; generalize slot t 42 = x42; generalize slot t 43 = x43; generalize slot t 44 = x44; generalize slot t 45 = x45; generalize slot t 46 = x46; generalize slot t 47 = x47; generalize slot t 48 = x48; generalize slot t 49 = x49; generalize slot t 50 = x50
      clear hsz t
      have K4 := Lib.hid (K3.out.trans hk)
      clear hk
      go_wp2_with fail
      go_ret
      exact ⟨rfl, K4.out⟩
end Go.Proofs.Ytfadcibmkjpjoaa
