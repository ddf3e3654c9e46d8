/-
  Contract of the law's own step 'do': what it takes from the cursor and from the reference.
-/
import Derived.Test.YtbnaiojbkecofaaCurLaw
namespace Go.Proofs.Ytbnaiojbkecofaa
open Go.RowKit

def stepP (c : Cu) (k n : Int) (m : Nat) (x : Int) : Cu :=
  if k = 1 then (rawP c 1).2 else if k = 2 then (numP c m).2 else if k = 3 then (rawP c n).2 else if k = 4 then (rawP c 32).2 else if k = 5 then (textP c n).2 else failC c x
def stepR (c : Cu) (k n : Int) (m : Nat) (x : Int) : Cu :=
  if k = 1 then (rawR c 1).2 else if k = 2 then (numR c m).2 else if k = 3 then (rawR c n).2 else if k = 4 then (rawR c 32).2 else if k = 5 then (textR c n).2 else failC c x
/-- What holds where 'do' has laid its variables. -/
structure DoAt (w0 w : World) (b g : Nat) (c d : Cu) (k n : Int) (m : Nat) (x : Int) : Prop where
  r4 : RC w b d
  r5 : Rowz w (b + 1) #[.int .i64 k, .int .i64 n, .int .u64 (m : Int), .int .i64 x] 32
  r6 : RC w (b + 1 + 1) ⟨noB, 0⟩
  cu : CurAt w g c
  on : OnlyC g w0 w
theorem DoAt.grown {w0 w w' : World} {b g : Nat} {c d : Cu} {k n : Int} {m : Nat} {x : Int} (h : DoAt w0 w b g c d k n m x) (G : Grown w w') : DoAt w0 w' b g c d k n m x :=
  ⟨h.r4.grown G, h.r5.grown G, h.r6.grown G, h.cu.grown G, h.on.trans (OnlyC.ofGrown g G)⟩
theorem doAt_start (w : World) (g : Nat) (c d : Cu) (k n : Int) (m : Nat) (x : Int) (h : CurAt w g c) :
    DoAt w (((w.alloc (.cells #[.string d.b, .int .i64 d.e] 27)).alloc (.cells #[.int .i64 k, .int .i64 n, .int .u64 (m : Int), .int .i64 x] 32)).alloc (.cells #[.string noB, .int .i64 0] 27)) w.heap.size g c d k n m x := by
  have e : (w.alloc (.cells #[.string d.b, .int .i64 d.e] 27)).heap.size = w.heap.size + 1 := by simp
  refine ⟨((Rowz.new w _ _).alloc _).alloc _, (Rowz.newEq1 w _ _ _ _ rfl).alloc _, ?_, Rowz.alloc (Rowz.alloc (Rowz.alloc h _) _) _, OnlyC.ofGrown g ((((Grown.refl w).alloc _ _).alloc _ _).alloc _ _)⟩
  have h := Rowz.newEq1 (w.alloc (.cells #[.string d.b, .int .i64 d.e] 27)) (.cells #[.int .i64 k, .int .i64 n, .int .u64 (m : Int), .int .i64 x] 32) (.cells #[.string noB, .int .i64 0] 27) _ _ rfl
  rw [e] at h
  exact h
def DoPost (w : World) (g : Nat) (c d c' d' : Cu) (e : Ending) (w' : World) : Prop :=
  ∃ B, e = .returned (.tuple #[.agg #[.string d'.b, .int .i64 d'.e], .bool B]) ∧ (c = d → c.ok → B = true) ∧ CurAt w' g c' ∧ OnlyC g w w'

set_option maxRecDepth 100000 in
set_option maxHeartbeats 2000000 in
theorem do3 (g : Nat) (c d : Cu) (n : Int) (m : Nat) (x : Int) (w : World) (h : CurAt w g c) :
    Calls Try.prog 7 #[.pointer (some ⟨g, 0, none⟩), .agg #[.string d.b, .int .i64 d.e], .agg #[.int .i64 3, .int .i64 n, .int .u64 (m : Int), .int .i64 x]] w (DoPost w g c d (rawP c n).2 (rawR d n).2) := by
  have hgl : g < w.heap.size := Rowz.lt h
  have D0 := doAt_start w g c d 3 n m x h
  clear h
  obtain ⟨v0, hv⟩ : ∃ v, v = ((w.alloc (.cells #[.string d.b, .int .i64 d.e] 27)).alloc (.cells #[.int .i64 3, .int .i64 n, .int .u64 (m : Int), .int .i64 x] 32)).alloc (.cells #[.string noB, .int .i64 0] 27) := ⟨_, rfl⟩
  rw [← hv] at D0
  have HR := refRaw8_any d n v0
  rw [hv] at HR
  replace HR := Lib.hid HR
  have HE : Hid (c = d → c.ok → (rawP c n).1 = (rawR d n).1) := Lib.hid fun h1 h2 => by rw [rawP_eq c n h2, h1]
  generalize rawR d n = q at HR HE ⊢
  obtain ⟨s, d'⟩ := q
  replace D0 := Lib.hid D0
  go_enter Try.func7, Try.ntmps7
  go_wp2_with fail
  refine HR.out.mono ?_
  rintro e w1 ⟨rfl, G1⟩
  rw [← hv] at G1
  replace D0 := Lib.hid (D0.out.grown G1)
  clear hv HR G1
  have hsz : w.heap.size + 1 + 1 < w1.heap.size := Rowz.lt D0.out.r6
  go_wp2_with fail
  have D1 : DoAt w (w1.alloc (.cells #[.string d'.b, .int .i64 d'.e] 27)).drew w.heap.size g c d 3 n m x := D0.out.grown ((Grown.refl w1).alloc _ _)
  have r9 : Rowz (w1.alloc (.cells #[.string d'.b, .int .i64 d'.e] 27)).drew w1.heap.size #[.string d'.b, .int .i64 d'.e] 27 := Rowz.new w1 _ _
  clear D0
  refine wp_region_held_drew (S := fun w' => Rowz w' w1.heap.size #[.string d'.b, .int .i64 d'.e] 27 ∧ Rowz w' (w.heap.size + 1) #[.int .i64 3, .int .i64 n, .int .u64 (m : Int), .int .i64 x] 32) (by kernel_rfl) ⟨r9, D1.r5⟩ (fun _ => ?_)
  generalize (w1.alloc (.cells #[.string d'.b, .int .i64 d'.e] 27)).drew = u at D1 r9 ⊢
  refine wpAnyH_take1 0 62 (.agg #[.string d'.b, .int .i64 d'.e]) rfl rfl (by kernel_rfl) (by kernel_rfl) (by kernel_rfl) (fun _ _ _ h => h) ⟨r9, D1.r5⟩ (yieldsIf_load_row rfl 27 _ rfl w1.heap.size rfl _ 27 _ (fun _ h => h.1) Try.underlying27 rfl (infoC _ _)) ?_
  simp only [List.setIfInBounds_toArray, List.set_cons_zero, List.set_cons_succ]
  refine wpAnyH_take1 1 63 (.pointer (some ⟨g, 0, none⟩)) rfl rfl (by kernel_rfl) (by kernel_rfl) (by kernel_rfl) (fun _ _ _ h => h) ⟨r9, D1.r5⟩ (Or.inl ⟨by rfl, fun _ _ => by rfl⟩) ?_
  simp only [List.setIfInBounds_toArray, List.set_cons_zero, List.set_cons_succ]
  refine wpAnyH_take1 2 64 (.pointer (some ⟨w.heap.size + 1, 1, none⟩)) rfl rfl (by kernel_rfl) (by kernel_rfl) (by kernel_rfl) (fun _ _ _ h => h) ⟨r9, D1.r5⟩ (Or.inl ⟨by rfl, fun _ _ => by go_simp⟩) ?_
  simp only [List.setIfInBounds_toArray, List.set_cons_zero, List.set_cons_succ]
  refine wpAnyH_take1 3 65 (.int .i64 n) rfl rfl (by kernel_rfl) (by kernel_rfl) (by kernel_rfl) (fun _ _ _ h => h) ⟨r9, D1.r5⟩ (Or.inl ⟨by rfl, fun w' hw' => by have cl : w'.cell? ⟨w.heap.size + 1, 1, none⟩ = some (.int .i64 n) := Rowz.cell hw'.2 1; go_simp⟩) ?_
  simp only [List.setIfInBounds_toArray, List.set_cons_zero, List.set_cons_succ]
  refine wpAnyH_take1 5 67 (.string s) rfl rfl (by kernel_rfl) (by kernel_rfl) (by kernel_rfl) (fun _ _ _ h => h) ⟨r9, D1.r5⟩ (Or.inl ⟨by rfl, fun _ _ => by rfl⟩) ?_
  simp only [List.setIfInBounds_toArray, List.set_cons_zero, List.set_cons_succ]
  refine wpAnyH_ready (rs := [4]) (by kernel_rfl) (by simp) (AllReadyH.cons rfl (fun K hK => ?_) AllReadyH.nil)
  rw [if_pos (by rfl)]
  go_simp
  refine (curRaw_any g c n u D1.cu).mono ?_
  rintro e u1 ⟨rfl, C1, O1⟩
  have q9 := Rowz.onlyC r9 O1 (show w1.heap.size ≠ g by omega)
  have q5 := Rowz.onlyC D1.r5 O1 (show w.heap.size + 1 ≠ g by omega)
  have q6 := Rowz.onlyC D1.r6 O1 (show w.heap.size + 1 + 1 ≠ g by omega)
  have qo := D1.on.trans O1
  refine hK.out _ _ ⟨q9, q5⟩ (fun _ => ?_)
  clear hK K D1 r9 O1
  refine wpAnyH_take1 6 68 (.bool ((rawP c n).1.toList == s.toList)) rfl rfl (by kernel_rfl) (by kernel_rfl) (by kernel_rfl) (fun _ _ _ h => h) ⟨q9, q5⟩ (yieldsIf_exec (by rfl) fun w' _ => execEqS (rawP c n).1 s w' rfl rfl rfl) ?_
  simp only [List.setIfInBounds_toArray, List.set_cons_zero, List.set_cons_succ]
  obtain ⟨B, hB⟩ : ∃ B, B = ((rawP c n).1.toList == s.toList) := ⟨_, rfl⟩
  rw [← hB]
  have HB : Hid (c = d → c.ok → B = true) := Lib.hid fun h1 h2 => by rw [hB, HE.out h1 h2]; simp
  clear hB
  refine wpAnyH_ready (rs := [7]) (by kernel_rfl) (by simp) (AllReadyH.cons rfl (fun K hK => ?_) AllReadyH.nil)
  rw [if_pos (by rfl)]
  refine wp_store_row 27 _ _ rfl (w.heap.size + 1 + 1) #[.string d'.b, .int .i64 d'.e] rfl rfl 27 #[.string noB, .int .i64 0] q6 (infoC _ _) rfl (by simp [Value.oneCell']) ?_
  have p9 := q9.rowOther (k := w.heap.size + 1 + 1) (D := #[.string d'.b, .int .i64 d'.e]) (by omega)
  have p5 := q5.rowOther (k := w.heap.size + 1 + 1) (D := #[.string d'.b, .int .i64 d'.e]) (by omega)
  have p6 := q6.row (D := #[.string d'.b, .int .i64 d'.e])
  have pc := Rowz.rowOther (k := w.heap.size + 1 + 1) (D := #[.string d'.b, .int .i64 d'.e]) C1 (by omega)
  have po := OnlyC.newRow qo q6 (by omega) #[.string d'.b, .int .i64 d'.e]
  refine hK.out _ _ ⟨p9, p5⟩ (fun _ => ?_)
  clear hK K q9 q5 q6 qo C1
  generalize u1.setRow (w.heap.size + 1 + 1) #[.string d'.b, .int .i64 d'.e] = u2 at p9 p5 p6 pc po ⊢
  refine wpAnyH_take1 8 7 (.bool B) rfl rfl (by kernel_rfl) (by kernel_rfl) (by kernel_rfl) (fun _ _ _ h => h) ⟨p9, p5⟩ (Or.inl ⟨by rfl, fun _ _ => by rfl⟩) ?_
  simp only [List.setIfInBounds_toArray, List.set_cons_zero, List.set_cons_succ]
  refine wpAnyH_done (by kernel_rfl) ?_ _
  replace p6 := Lib.hid p6
  replace pc := Lib.hid pc
  replace po := Lib.hid po
  clear p9 p5
  go_wp2_with fail
  refine bodyPost_ret (results_row_tmp Try.results7 _ _ (w.heap.size + 1 + 1) 27 _ _ _ rfl rfl p6.out Try.underlying27 rfl (infoC _ _)) rfl ⟨B, rfl, HB.out, pc.out, po.out⟩
set_option maxRecDepth 100000 in
set_option maxHeartbeats 2000000 in
theorem do5 (g : Nat) (c d : Cu) (n : Int) (m : Nat) (x : Int) (w : World) (h : CurAt w g c) (hd : d.b.size ≤ maxLen) (hn : n < 9223372036854775808) :
    Calls Try.prog 7 #[.pointer (some ⟨g, 0, none⟩), .agg #[.string d.b, .int .i64 d.e], .agg #[.int .i64 5, .int .i64 n, .int .u64 (m : Int), .int .i64 x]] w (DoPost w g c d (textP c n).2 (textR d n).2) := by
  have hgl : g < w.heap.size := Rowz.lt h
  have D0 := doAt_start w g c d 5 n m x h
  clear h
  obtain ⟨v0, hv⟩ : ∃ v, v = ((w.alloc (.cells #[.string d.b, .int .i64 d.e] 27)).alloc (.cells #[.int .i64 5, .int .i64 n, .int .u64 (m : Int), .int .i64 x] 32)).alloc (.cells #[.string noB, .int .i64 0] 27) := ⟨_, rfl⟩
  rw [← hv] at D0
  have HR := refText8_any d n v0 hd hn
  rw [hv] at HR
  replace HR := Lib.hid HR
  have HE : Hid (c = d → c.ok → (textP c n).1 = (textR d n).1) := Lib.hid fun h1 h2 => by rw [textP_eq c n h2, h1]
  generalize textR d n = q at HR HE ⊢
  obtain ⟨s, d'⟩ := q
  replace D0 := Lib.hid D0
  go_enter Try.func7, Try.ntmps7
  go_wp2_with fail
  refine HR.out.mono ?_
  rintro e w1 ⟨rfl, G1⟩
  rw [← hv] at G1
  replace D0 := Lib.hid (D0.out.grown G1)
  clear hv HR G1
  have hsz : w.heap.size + 1 + 1 < w1.heap.size := Rowz.lt D0.out.r6
  go_wp2_with fail
  have D1 : DoAt w (w1.alloc (.cells #[.string d'.b, .int .i64 d'.e] 27)).drew w.heap.size g c d 5 n m x := D0.out.grown ((Grown.refl w1).alloc _ _)
  have r9 : Rowz (w1.alloc (.cells #[.string d'.b, .int .i64 d'.e] 27)).drew w1.heap.size #[.string d'.b, .int .i64 d'.e] 27 := Rowz.new w1 _ _
  clear D0
  refine wp_region_held_drew (S := fun w' => Rowz w' w1.heap.size #[.string d'.b, .int .i64 d'.e] 27 ∧ Rowz w' (w.heap.size + 1) #[.int .i64 5, .int .i64 n, .int .u64 (m : Int), .int .i64 x] 32) (by kernel_rfl) ⟨r9, D1.r5⟩ (fun _ => ?_)
  generalize (w1.alloc (.cells #[.string d'.b, .int .i64 d'.e] 27)).drew = u at D1 r9 ⊢
  refine wpAnyH_take1 0 90 (.agg #[.string d'.b, .int .i64 d'.e]) rfl rfl (by kernel_rfl) (by kernel_rfl) (by kernel_rfl) (fun _ _ _ h => h) ⟨r9, D1.r5⟩ (yieldsIf_load_row rfl 27 _ rfl w1.heap.size rfl _ 27 _ (fun _ h => h.1) Try.underlying27 rfl (infoC _ _)) ?_
  simp only [List.setIfInBounds_toArray, List.set_cons_zero, List.set_cons_succ]
  refine wpAnyH_take1 1 91 (.pointer (some ⟨g, 0, none⟩)) rfl rfl (by kernel_rfl) (by kernel_rfl) (by kernel_rfl) (fun _ _ _ h => h) ⟨r9, D1.r5⟩ (Or.inl ⟨by rfl, fun _ _ => by rfl⟩) ?_
  simp only [List.setIfInBounds_toArray, List.set_cons_zero, List.set_cons_succ]
  refine wpAnyH_take1 2 92 (.pointer (some ⟨w.heap.size + 1, 1, none⟩)) rfl rfl (by kernel_rfl) (by kernel_rfl) (by kernel_rfl) (fun _ _ _ h => h) ⟨r9, D1.r5⟩ (Or.inl ⟨by rfl, fun _ _ => by go_simp⟩) ?_
  simp only [List.setIfInBounds_toArray, List.set_cons_zero, List.set_cons_succ]
  refine wpAnyH_take1 3 93 (.int .i64 n) rfl rfl (by kernel_rfl) (by kernel_rfl) (by kernel_rfl) (fun _ _ _ h => h) ⟨r9, D1.r5⟩ (Or.inl ⟨by rfl, fun w' hw' => by have cl : w'.cell? ⟨w.heap.size + 1, 1, none⟩ = some (.int .i64 n) := Rowz.cell hw'.2 1; go_simp⟩) ?_
  simp only [List.setIfInBounds_toArray, List.set_cons_zero, List.set_cons_succ]
  refine wpAnyH_take1 5 95 (.string s) rfl rfl (by kernel_rfl) (by kernel_rfl) (by kernel_rfl) (fun _ _ _ h => h) ⟨r9, D1.r5⟩ (Or.inl ⟨by rfl, fun _ _ => by rfl⟩) ?_
  simp only [List.setIfInBounds_toArray, List.set_cons_zero, List.set_cons_succ]
  refine wpAnyH_ready (rs := [4]) (by kernel_rfl) (by simp) (AllReadyH.cons rfl (fun K hK => ?_) AllReadyH.nil)
  rw [if_pos (by rfl)]
  go_simp
  refine (curText_any g c n u D1.cu hn).mono ?_
  rintro e u1 ⟨rfl, C1, O1⟩
  have q9 := Rowz.onlyC r9 O1 (show w1.heap.size ≠ g by omega)
  have q5 := Rowz.onlyC D1.r5 O1 (show w.heap.size + 1 ≠ g by omega)
  have q6 := Rowz.onlyC D1.r6 O1 (show w.heap.size + 1 + 1 ≠ g by omega)
  have qo := D1.on.trans O1
  refine hK.out _ _ ⟨q9, q5⟩ (fun _ => ?_)
  clear hK K D1 r9 O1
  refine wpAnyH_take1 6 96 (.bool ((textP c n).1.toList == s.toList)) rfl rfl (by kernel_rfl) (by kernel_rfl) (by kernel_rfl) (fun _ _ _ h => h) ⟨q9, q5⟩ (yieldsIf_exec (by rfl) fun w' _ => execEqS (textP c n).1 s w' rfl rfl rfl) ?_
  simp only [List.setIfInBounds_toArray, List.set_cons_zero, List.set_cons_succ]
  obtain ⟨B, hB⟩ : ∃ B, B = ((textP c n).1.toList == s.toList) := ⟨_, rfl⟩
  rw [← hB]
  have HB : Hid (c = d → c.ok → B = true) := Lib.hid fun h1 h2 => by rw [hB, HE.out h1 h2]; simp
  clear hB
  refine wpAnyH_ready (rs := [7]) (by kernel_rfl) (by simp) (AllReadyH.cons rfl (fun K hK => ?_) AllReadyH.nil)
  rw [if_pos (by rfl)]
  refine wp_store_row 27 _ _ rfl (w.heap.size + 1 + 1) #[.string d'.b, .int .i64 d'.e] rfl rfl 27 #[.string noB, .int .i64 0] q6 (infoC _ _) rfl (by simp [Value.oneCell']) ?_
  have p9 := q9.rowOther (k := w.heap.size + 1 + 1) (D := #[.string d'.b, .int .i64 d'.e]) (by omega)
  have p5 := q5.rowOther (k := w.heap.size + 1 + 1) (D := #[.string d'.b, .int .i64 d'.e]) (by omega)
  have p6 := q6.row (D := #[.string d'.b, .int .i64 d'.e])
  have pc := Rowz.rowOther (k := w.heap.size + 1 + 1) (D := #[.string d'.b, .int .i64 d'.e]) C1 (by omega)
  have po := OnlyC.newRow qo q6 (by omega) #[.string d'.b, .int .i64 d'.e]
  refine hK.out _ _ ⟨p9, p5⟩ (fun _ => ?_)
  clear hK K q9 q5 q6 qo C1
  generalize u1.setRow (w.heap.size + 1 + 1) #[.string d'.b, .int .i64 d'.e] = u2 at p9 p5 p6 pc po ⊢
  refine wpAnyH_take1 8 7 (.bool B) rfl rfl (by kernel_rfl) (by kernel_rfl) (by kernel_rfl) (fun _ _ _ h => h) ⟨p9, p5⟩ (Or.inl ⟨by rfl, fun _ _ => by rfl⟩) ?_
  simp only [List.setIfInBounds_toArray, List.set_cons_zero, List.set_cons_succ]
  refine wpAnyH_done (by kernel_rfl) ?_ _
  replace p6 := Lib.hid p6
  replace pc := Lib.hid pc
  replace po := Lib.hid po
  clear p9 p5
  go_wp2_with fail
  refine bodyPost_ret (results_row_tmp Try.results7 _ _ (w.heap.size + 1 + 1) 27 _ _ _ rfl rfl p6.out Try.underlying27 rfl (infoC _ _)) rfl ⟨B, rfl, HB.out, pc.out, po.out⟩
set_option maxRecDepth 100000 in
set_option maxHeartbeats 2000000 in
theorem do2 (g : Nat) (c d : Cu) (n : Int) (m : Nat) (x : Int) (w : World) (h : CurAt w g c) (hd : d.b.size ≤ maxLen) :
    Calls Try.prog 7 #[.pointer (some ⟨g, 0, none⟩), .agg #[.string d.b, .int .i64 d.e], .agg #[.int .i64 2, .int .i64 n, .int .u64 (m : Int), .int .i64 x]] w (DoPost w g c d (numP c m).2 (numR d m).2) := by
  have hgl : g < w.heap.size := Rowz.lt h
  have D0 := doAt_start w g c d 2 n m x h
  clear h
  obtain ⟨v0, hv⟩ : ∃ v, v = ((w.alloc (.cells #[.string d.b, .int .i64 d.e] 27)).alloc (.cells #[.int .i64 2, .int .i64 n, .int .u64 (m : Int), .int .i64 x] 32)).alloc (.cells #[.string noB, .int .i64 0] 27) := ⟨_, rfl⟩
  rw [← hv] at D0
  have HR := refNum8_any d m v0 hd
  rw [hv] at HR
  replace HR := Lib.hid HR
  have HE : Hid (c = d → c.ok → (numP c m).1 = (numR d m).1) := Lib.hid fun h1 h2 => by rw [numP_eq c m h2, h1]
  generalize numR d m = q at HR HE ⊢
  obtain ⟨X, d'⟩ := q
  replace D0 := Lib.hid D0
  go_enter Try.func7, Try.ntmps7
  go_wp2_with fail
  refine HR.out.mono ?_
  rintro e w1 ⟨rfl, G1⟩
  rw [← hv] at G1
  replace D0 := Lib.hid (D0.out.grown G1)
  clear hv HR G1
  have hsz : w.heap.size + 1 + 1 < w1.heap.size := Rowz.lt D0.out.r6
  go_wp2_with fail
  have D1 : DoAt w (w1.alloc (.cells #[.string d'.b, .int .i64 d'.e] 27)).drew w.heap.size g c d 2 n m x := D0.out.grown ((Grown.refl w1).alloc _ _)
  have r9 : Rowz (w1.alloc (.cells #[.string d'.b, .int .i64 d'.e] 27)).drew w1.heap.size #[.string d'.b, .int .i64 d'.e] 27 := Rowz.new w1 _ _
  clear D0
  refine wp_region_held_drew (S := fun w' => Rowz w' w1.heap.size #[.string d'.b, .int .i64 d'.e] 27 ∧ Rowz w' (w.heap.size + 1) #[.int .i64 2, .int .i64 n, .int .u64 (m : Int), .int .i64 x] 32) (by kernel_rfl) ⟨r9, D1.r5⟩ (fun _ => ?_)
  generalize (w1.alloc (.cells #[.string d'.b, .int .i64 d'.e] 27)).drew = u at D1 r9 ⊢
  refine wpAnyH_take1 0 46 (.agg #[.string d'.b, .int .i64 d'.e]) rfl rfl (by kernel_rfl) (by kernel_rfl) (by kernel_rfl) (fun _ _ _ h => h) ⟨r9, D1.r5⟩ (yieldsIf_load_row rfl 27 _ rfl w1.heap.size rfl _ 27 _ (fun _ h => h.1) Try.underlying27 rfl (infoC _ _)) ?_
  simp only [List.setIfInBounds_toArray, List.set_cons_zero, List.set_cons_succ]
  refine wpAnyH_take1 1 47 (.pointer (some ⟨g, 0, none⟩)) rfl rfl (by kernel_rfl) (by kernel_rfl) (by kernel_rfl) (fun _ _ _ h => h) ⟨r9, D1.r5⟩ (Or.inl ⟨by rfl, fun _ _ => by rfl⟩) ?_
  simp only [List.setIfInBounds_toArray, List.set_cons_zero, List.set_cons_succ]
  refine wpAnyH_take1 2 48 (.pointer (some ⟨w.heap.size + 1, 2, none⟩)) rfl rfl (by kernel_rfl) (by kernel_rfl) (by kernel_rfl) (fun _ _ _ h => h) ⟨r9, D1.r5⟩ (Or.inl ⟨by rfl, fun _ _ => by go_simp⟩) ?_
  simp only [List.setIfInBounds_toArray, List.set_cons_zero, List.set_cons_succ]
  refine wpAnyH_take1 3 49 (.int .u64 (m : Int)) rfl rfl (by kernel_rfl) (by kernel_rfl) (by kernel_rfl) (fun _ _ _ h => h) ⟨r9, D1.r5⟩ (Or.inl ⟨by rfl, fun w' hw' => by have cl : w'.cell? ⟨w.heap.size + 1, 2, none⟩ = some (.int .u64 (m : Int)) := Rowz.cell hw'.2 2; go_simp⟩) ?_
  simp only [List.setIfInBounds_toArray, List.set_cons_zero, List.set_cons_succ]
  refine wpAnyH_take1 5 51 (.int .u64 (X : Int)) rfl rfl (by kernel_rfl) (by kernel_rfl) (by kernel_rfl) (fun _ _ _ h => h) ⟨r9, D1.r5⟩ (Or.inl ⟨by rfl, fun _ _ => by rfl⟩) ?_
  simp only [List.setIfInBounds_toArray, List.set_cons_zero, List.set_cons_succ]
  refine wpAnyH_ready (rs := [4]) (by kernel_rfl) (by simp) (AllReadyH.cons rfl (fun K hK => ?_) AllReadyH.nil)
  rw [if_pos (by rfl)]
  go_simp
  refine (curNum_any g c m u D1.cu).mono ?_
  rintro e u1 ⟨rfl, C1, O1⟩
  have q9 := Rowz.onlyC r9 O1 (show w1.heap.size ≠ g by omega)
  have q5 := Rowz.onlyC D1.r5 O1 (show w.heap.size + 1 ≠ g by omega)
  have q6 := Rowz.onlyC D1.r6 O1 (show w.heap.size + 1 + 1 ≠ g by omega)
  have qo := D1.on.trans O1
  refine hK.out _ _ ⟨q9, q5⟩ (fun _ => ?_)
  clear hK K D1 r9 O1
  refine wpAnyH_take1 6 52 (.bool (((numP c m).1 : Int) == (X : Int))) rfl rfl (by kernel_rfl) (by kernel_rfl) (by kernel_rfl) (fun _ _ _ h => h) ⟨q9, q5⟩ (yieldsIf_exec (by rfl) fun w' _ => execEq64 (numP c m).1 X w' rfl rfl rfl) ?_
  simp only [List.setIfInBounds_toArray, List.set_cons_zero, List.set_cons_succ]
  obtain ⟨B, hB⟩ : ∃ B, B = (((numP c m).1 : Int) == (X : Int)) := ⟨_, rfl⟩
  rw [← hB]
  have HB : Hid (c = d → c.ok → B = true) := Lib.hid fun h1 h2 => by rw [hB, HE.out h1 h2]; simp
  clear hB
  refine wpAnyH_ready (rs := [7]) (by kernel_rfl) (by simp) (AllReadyH.cons rfl (fun K hK => ?_) AllReadyH.nil)
  rw [if_pos (by rfl)]
  refine wp_store_row 27 _ _ rfl (w.heap.size + 1 + 1) #[.string d'.b, .int .i64 d'.e] rfl rfl 27 #[.string noB, .int .i64 0] q6 (infoC _ _) rfl (by simp [Value.oneCell']) ?_
  have p9 := q9.rowOther (k := w.heap.size + 1 + 1) (D := #[.string d'.b, .int .i64 d'.e]) (by omega)
  have p5 := q5.rowOther (k := w.heap.size + 1 + 1) (D := #[.string d'.b, .int .i64 d'.e]) (by omega)
  have p6 := q6.row (D := #[.string d'.b, .int .i64 d'.e])
  have pc := Rowz.rowOther (k := w.heap.size + 1 + 1) (D := #[.string d'.b, .int .i64 d'.e]) C1 (by omega)
  have po := OnlyC.newRow qo q6 (by omega) #[.string d'.b, .int .i64 d'.e]
  refine hK.out _ _ ⟨p9, p5⟩ (fun _ => ?_)
  clear hK K q9 q5 q6 qo C1
  generalize u1.setRow (w.heap.size + 1 + 1) #[.string d'.b, .int .i64 d'.e] = u2 at p9 p5 p6 pc po ⊢
  refine wpAnyH_take1 8 7 (.bool B) rfl rfl (by kernel_rfl) (by kernel_rfl) (by kernel_rfl) (fun _ _ _ h => h) ⟨p9, p5⟩ (Or.inl ⟨by rfl, fun _ _ => by rfl⟩) ?_
  simp only [List.setIfInBounds_toArray, List.set_cons_zero, List.set_cons_succ]
  refine wpAnyH_done (by kernel_rfl) ?_ _
  replace p6 := Lib.hid p6
  replace pc := Lib.hid pc
  replace po := Lib.hid po
  clear p9 p5
  go_wp2_with fail
  refine bodyPost_ret (results_row_tmp Try.results7 _ _ (w.heap.size + 1 + 1) 27 _ _ _ rfl rfl p6.out Try.underlying27 rfl (infoC _ _)) rfl ⟨B, rfl, HB.out, pc.out, po.out⟩
set_option maxRecDepth 100000 in
set_option maxHeartbeats 2000000 in
theorem do1a (g : Nat) (c d : Cu) (n : Int) (m : Nat) (x : Int) (w : World) (h : CurAt w g c) (hs : (rawR d 1).1.size = 0) :
    Calls Try.prog 7 #[.pointer (some ⟨g, 0, none⟩), .agg #[.string d.b, .int .i64 d.e], .agg #[.int .i64 1, .int .i64 n, .int .u64 (m : Int), .int .i64 x]] w (DoPost w g c d (rawP c 1).2 (rawR d 1).2) := by
  have hgl : g < w.heap.size := Rowz.lt h
  have D0 := doAt_start w g c d 1 n m x h
  clear h
  obtain ⟨v0, hv⟩ : ∃ v, v = ((w.alloc (.cells #[.string d.b, .int .i64 d.e] 27)).alloc (.cells #[.int .i64 1, .int .i64 n, .int .u64 (m : Int), .int .i64 x] 32)).alloc (.cells #[.string noB, .int .i64 0] 27) := ⟨_, rfl⟩
  rw [← hv] at D0
  have HR := refRaw8_any d 1 v0
  rw [hv] at HR
  replace HR := Lib.hid HR
  have HE : Hid (c = d → c.ok → (rawP c 1).1 = (rawR d 1).1) := Lib.hid fun h1 h2 => by rw [rawP_eq c 1 h2, h1]
  generalize rawR d 1 = q at HR HE hs ⊢
  obtain ⟨s, d'⟩ := q
  obtain rfl : s = noB := size0 hs
  have hb : noB.toList.isEmpty = true := isE_yes
  clear hs
  replace D0 := Lib.hid D0
  go_enter Try.func7, Try.ntmps7
  go_wp2_with fail
  refine HR.out.mono ?_
  rintro e w1 ⟨rfl, G1⟩
  rw [← hv] at G1
  replace D0 := Lib.hid (D0.out.grown G1)
  clear hv HR G1
  have hsz : w.heap.size + 1 + 1 < w1.heap.size := Rowz.lt D0.out.r6
  go_wp2_with fail
  have D1 : DoAt w (w1.alloc (.cells #[.string d'.b, .int .i64 d'.e] 27)).drew w.heap.size g c d 1 n m x := D0.out.grown ((Grown.refl w1).alloc _ _)
  have r9 : Rowz (w1.alloc (.cells #[.string d'.b, .int .i64 d'.e] 27)).drew w1.heap.size #[.string d'.b, .int .i64 d'.e] 27 := Rowz.new w1 _ _
  clear D0
  refine wp_region_held_drew (S := fun w' => Rowz w' w1.heap.size #[.string d'.b, .int .i64 d'.e] 27 ∧ Rowz w' (w.heap.size + 1) #[.int .i64 1, .int .i64 n, .int .u64 (m : Int), .int .i64 x] 32) (by kernel_rfl) ⟨r9, D1.r5⟩ (fun _ => ?_)
  generalize (w1.alloc (.cells #[.string d'.b, .int .i64 d'.e] 27)).drew = u at D1 r9 ⊢
  refine wpAnyH_take1 0 32 (.agg #[.string d'.b, .int .i64 d'.e]) rfl rfl (by kernel_rfl) (by kernel_rfl) (by kernel_rfl) (fun _ _ _ h => h) ⟨r9, D1.r5⟩ (yieldsIf_load_row rfl 27 _ rfl w1.heap.size rfl _ 27 _ (fun _ h => h.1) Try.underlying27 rfl (infoC _ _)) ?_
  simp only [List.setIfInBounds_toArray, List.set_cons_zero, List.set_cons_succ]
  refine wpAnyH_take1 1 33 (.pointer (some ⟨g, 0, none⟩)) rfl rfl (by kernel_rfl) (by kernel_rfl) (by kernel_rfl) (fun _ _ _ h => h) ⟨r9, D1.r5⟩ (Or.inl ⟨by rfl, fun _ _ => by rfl⟩) ?_
  simp only [List.setIfInBounds_toArray, List.set_cons_zero, List.set_cons_succ]
  refine wpAnyH_take1 3 35 (.int .u8 0) rfl rfl (by kernel_rfl) (by kernel_rfl) (by kernel_rfl) (fun _ _ _ h => h) ⟨r9, D1.r5⟩ (Or.inl ⟨by rfl, fun _ _ => by rfl⟩) ?_
  simp only [List.setIfInBounds_toArray, List.set_cons_zero, List.set_cons_succ]
  refine wpAnyH_ready (rs := [2]) (by kernel_rfl) (by simp) (AllReadyH.cons rfl (fun K hK => ?_) AllReadyH.nil)
  rw [if_pos (by rfl)]
  go_simp
  refine (curByte_any g c u D1.cu).mono ?_
  rintro e u1 ⟨rfl, C1, O1⟩
  have q9 := Rowz.onlyC r9 O1 (show w1.heap.size ≠ g by omega)
  have q5 := Rowz.onlyC D1.r5 O1 (show w.heap.size + 1 ≠ g by omega)
  have q6 := Rowz.onlyC D1.r6 O1 (show w.heap.size + 1 + 1 ≠ g by omega)
  have qo := D1.on.trans O1
  refine hK.out _ _ ⟨q9, q5⟩ (fun _ => ?_)
  clear hK K D1 r9 O1
  refine wpAnyH_take1 4 36 (.bool (((firstB (rawP c 1).1 : Nat) : Int) == ((0 : Nat) : Int))) rfl rfl (by kernel_rfl) (by kernel_rfl) (by kernel_rfl) (fun _ _ _ h => h) ⟨q9, q5⟩ (yieldsIf_exec (by rfl) fun w' _ => execEq8 (firstB (rawP c 1).1) 0 w' rfl rfl rfl) ?_
  simp only [List.setIfInBounds_toArray, List.set_cons_zero, List.set_cons_succ]
  obtain ⟨B, hB⟩ : ∃ B, B = (((firstB (rawP c 1).1 : Nat) : Int) == ((0 : Nat) : Int)) := ⟨_, rfl⟩
  rw [← hB]
  have HB : Hid (c = d → c.ok → B = true) := Lib.hid fun h1 h2 => by rw [hB, HE.out h1 h2]; rfl
  clear hB
  refine wpAnyH_ready (rs := [5]) (by kernel_rfl) (by simp) (AllReadyH.cons rfl (fun K hK => ?_) AllReadyH.nil)
  rw [if_pos (by rfl)]
  refine wp_store_row 27 _ _ rfl (w.heap.size + 1 + 1) #[.string d'.b, .int .i64 d'.e] rfl rfl 27 #[.string noB, .int .i64 0] q6 (infoC _ _) rfl (by simp [Value.oneCell']) ?_
  have p9 := q9.rowOther (k := w.heap.size + 1 + 1) (D := #[.string d'.b, .int .i64 d'.e]) (by omega)
  have p5 := q5.rowOther (k := w.heap.size + 1 + 1) (D := #[.string d'.b, .int .i64 d'.e]) (by omega)
  have p6 := q6.row (D := #[.string d'.b, .int .i64 d'.e])
  have pc := Rowz.rowOther (k := w.heap.size + 1 + 1) (D := #[.string d'.b, .int .i64 d'.e]) C1 (by omega)
  have po := OnlyC.newRow qo q6 (by omega) #[.string d'.b, .int .i64 d'.e]
  refine hK.out _ _ ⟨p9, p5⟩ (fun _ => ?_)
  clear hK K q9 q5 q6 qo C1
  generalize u1.setRow (w.heap.size + 1 + 1) #[.string d'.b, .int .i64 d'.e] = u2 at p9 p5 p6 pc po ⊢
  refine wpAnyH_take1 6 7 (.bool B) rfl rfl (by kernel_rfl) (by kernel_rfl) (by kernel_rfl) (fun _ _ _ h => h) ⟨p9, p5⟩ (Or.inl ⟨by rfl, fun _ _ => by rfl⟩) ?_
  simp only [List.setIfInBounds_toArray, List.set_cons_zero, List.set_cons_succ]
  refine wpAnyH_done (by kernel_rfl) ?_ _
  replace p6 := Lib.hid p6
  replace pc := Lib.hid pc
  replace po := Lib.hid po
  clear p9 p5
  go_wp2_with fail
  refine bodyPost_ret (results_row_tmp Try.results7 _ _ (w.heap.size + 1 + 1) 27 _ _ _ rfl rfl p6.out Try.underlying27 rfl (infoC _ _)) rfl ⟨B, rfl, HB.out, pc.out, po.out⟩
set_option maxRecDepth 100000 in
set_option maxHeartbeats 2000000 in
theorem do1b (g : Nat) (c d : Cu) (n : Int) (m : Nat) (x : Int) (w : World) (h : CurAt w g c) (hs : ¬ (rawR d 1).1.size = 0) :
    Calls Try.prog 7 #[.pointer (some ⟨g, 0, none⟩), .agg #[.string d.b, .int .i64 d.e], .agg #[.int .i64 1, .int .i64 n, .int .u64 (m : Int), .int .i64 x]] w (DoPost w g c d (rawP c 1).2 (rawR d 1).2) := by
  have hgl : g < w.heap.size := Rowz.lt h
  have D0 := doAt_start w g c d 1 n m x h
  clear h
  obtain ⟨v0, hv⟩ : ∃ v, v = ((w.alloc (.cells #[.string d.b, .int .i64 d.e] 27)).alloc (.cells #[.int .i64 1, .int .i64 n, .int .u64 (m : Int), .int .i64 x] 32)).alloc (.cells #[.string noB, .int .i64 0] 27) := ⟨_, rfl⟩
  rw [← hv] at D0
  have HR := refRaw8_any d 1 v0
  rw [hv] at HR
  replace HR := Lib.hid HR
  have HE : Hid (c = d → c.ok → (rawP c 1).1 = (rawR d 1).1) := Lib.hid fun h1 h2 => by rw [rawP_eq c 1 h2, h1]
  generalize rawR d 1 = q at HR HE hs ⊢
  obtain ⟨s, d'⟩ := q
  have hs' : ¬ s.size = 0 := hs
  have hb : s.toList.isEmpty = false := isE_no hs'
  have hl : 0 < s.size := by omega
  have hli : (0 : Int) < (s.size : Int) := by omega
  have HV : Hid (s[0].toNat = firstB s) := Lib.hid (sl_get s 0 hl)
  clear hs hs'
  replace D0 := Lib.hid D0
  go_enter Try.func7, Try.ntmps7
  go_wp2_with fail
  refine HR.out.mono ?_
  rintro e w1 ⟨rfl, G1⟩
  rw [← hv] at G1
  replace D0 := Lib.hid (D0.out.grown G1)
  clear hv HR G1
  have hsz : w.heap.size + 1 + 1 < w1.heap.size := Rowz.lt D0.out.r6
  go_wp2_with fail
  have D1 : DoAt w (w1.alloc (.cells #[.string d'.b, .int .i64 d'.e] 27)).drew w.heap.size g c d 1 n m x := D0.out.grown ((Grown.refl w1).alloc _ _)
  have r9 : Rowz (w1.alloc (.cells #[.string d'.b, .int .i64 d'.e] 27)).drew w1.heap.size #[.string d'.b, .int .i64 d'.e] 27 := Rowz.new w1 _ _
  clear D0
  refine wp_region_held_drew (S := fun w' => Rowz w' w1.heap.size #[.string d'.b, .int .i64 d'.e] 27 ∧ Rowz w' (w.heap.size + 1) #[.int .i64 1, .int .i64 n, .int .u64 (m : Int), .int .i64 x] 32) (by kernel_rfl) ⟨r9, D1.r5⟩ (fun _ => ?_)
  generalize (w1.alloc (.cells #[.string d'.b, .int .i64 d'.e] 27)).drew = u at D1 r9 ⊢
  refine wpAnyH_take1 0 32 (.agg #[.string d'.b, .int .i64 d'.e]) rfl rfl (by kernel_rfl) (by kernel_rfl) (by kernel_rfl) (fun _ _ _ h => h) ⟨r9, D1.r5⟩ (yieldsIf_load_row rfl 27 _ rfl w1.heap.size rfl _ 27 _ (fun _ h => h.1) Try.underlying27 rfl (infoC _ _)) ?_
  simp only [List.setIfInBounds_toArray, List.set_cons_zero, List.set_cons_succ]
  refine wpAnyH_take1 1 33 (.pointer (some ⟨g, 0, none⟩)) rfl rfl (by kernel_rfl) (by kernel_rfl) (by kernel_rfl) (fun _ _ _ h => h) ⟨r9, D1.r5⟩ (Or.inl ⟨by rfl, fun _ _ => by rfl⟩) ?_
  simp only [List.setIfInBounds_toArray, List.set_cons_zero, List.set_cons_succ]
  refine wpAnyH_take1 3 35 (.int .u8 ((s[0].toNat : Nat) : Int)) rfl rfl (by kernel_rfl) (by kernel_rfl) (by kernel_rfl) (fun _ _ _ h => h) ⟨r9, D1.r5⟩ (Or.inl ⟨by rfl, fun _ _ => by rfl⟩) ?_
  simp only [List.setIfInBounds_toArray, List.set_cons_zero, List.set_cons_succ]
  refine wpAnyH_ready (rs := [2]) (by kernel_rfl) (by simp) (AllReadyH.cons rfl (fun K hK => ?_) AllReadyH.nil)
  rw [if_pos (by rfl)]
  go_simp
  refine (curByte_any g c u D1.cu).mono ?_
  rintro e u1 ⟨rfl, C1, O1⟩
  have q9 := Rowz.onlyC r9 O1 (show w1.heap.size ≠ g by omega)
  have q5 := Rowz.onlyC D1.r5 O1 (show w.heap.size + 1 ≠ g by omega)
  have q6 := Rowz.onlyC D1.r6 O1 (show w.heap.size + 1 + 1 ≠ g by omega)
  have qo := D1.on.trans O1
  refine hK.out _ _ ⟨q9, q5⟩ (fun _ => ?_)
  clear hK K D1 r9 O1
  refine wpAnyH_take1 4 36 (.bool (((firstB (rawP c 1).1 : Nat) : Int) == ((s[0].toNat : Nat) : Int))) rfl rfl (by kernel_rfl) (by kernel_rfl) (by kernel_rfl) (fun _ _ _ h => h) ⟨q9, q5⟩ (yieldsIf_exec (by rfl) fun w' _ => execEq8 (firstB (rawP c 1).1) s[0].toNat w' rfl rfl rfl) ?_
  simp only [List.setIfInBounds_toArray, List.set_cons_zero, List.set_cons_succ]
  obtain ⟨B, hB⟩ : ∃ B, B = (((firstB (rawP c 1).1 : Nat) : Int) == ((s[0].toNat : Nat) : Int)) := ⟨_, rfl⟩
  rw [← hB]
  have HB : Hid (c = d → c.ok → B = true) := Lib.hid fun h1 h2 => by rw [hB, HE.out h1 h2, HV.out]; simp
  clear hB
  refine wpAnyH_ready (rs := [5]) (by kernel_rfl) (by simp) (AllReadyH.cons rfl (fun K hK => ?_) AllReadyH.nil)
  rw [if_pos (by rfl)]
  refine wp_store_row 27 _ _ rfl (w.heap.size + 1 + 1) #[.string d'.b, .int .i64 d'.e] rfl rfl 27 #[.string noB, .int .i64 0] q6 (infoC _ _) rfl (by simp [Value.oneCell']) ?_
  have p9 := q9.rowOther (k := w.heap.size + 1 + 1) (D := #[.string d'.b, .int .i64 d'.e]) (by omega)
  have p5 := q5.rowOther (k := w.heap.size + 1 + 1) (D := #[.string d'.b, .int .i64 d'.e]) (by omega)
  have p6 := q6.row (D := #[.string d'.b, .int .i64 d'.e])
  have pc := Rowz.rowOther (k := w.heap.size + 1 + 1) (D := #[.string d'.b, .int .i64 d'.e]) C1 (by omega)
  have po := OnlyC.newRow qo q6 (by omega) #[.string d'.b, .int .i64 d'.e]
  refine hK.out _ _ ⟨p9, p5⟩ (fun _ => ?_)
  clear hK K q9 q5 q6 qo C1
  generalize u1.setRow (w.heap.size + 1 + 1) #[.string d'.b, .int .i64 d'.e] = u2 at p9 p5 p6 pc po ⊢
  refine wpAnyH_take1 6 7 (.bool B) rfl rfl (by kernel_rfl) (by kernel_rfl) (by kernel_rfl) (fun _ _ _ h => h) ⟨p9, p5⟩ (Or.inl ⟨by rfl, fun _ _ => by rfl⟩) ?_
  simp only [List.setIfInBounds_toArray, List.set_cons_zero, List.set_cons_succ]
  refine wpAnyH_done (by kernel_rfl) ?_ _
  replace p6 := Lib.hid p6
  replace pc := Lib.hid pc
  replace po := Lib.hid po
  clear p9 p5
  go_wp2_with fail
  refine bodyPost_ret (results_row_tmp Try.results7 _ _ (w.heap.size + 1 + 1) 27 _ _ _ rfl rfl p6.out Try.underlying27 rfl (infoC _ _)) rfl ⟨B, rfl, HB.out, pc.out, po.out⟩
set_option maxRecDepth 100000 in
set_option maxHeartbeats 2000000 in
theorem do6 (g : Nat) (c d : Cu) (k n : Int) (m : Nat) (x : Int) (w : World) (h : CurAt w g c) (k1 : k ≠ 1) (k2 : k ≠ 2) (k3 : k ≠ 3) (k4 : k ≠ 4) (k5 : k ≠ 5) :
    Calls Try.prog 7 #[.pointer (some ⟨g, 0, none⟩), .agg #[.string d.b, .int .i64 d.e], .agg #[.int .i64 k, .int .i64 n, .int .u64 (m : Int), .int .i64 x]] w (DoPost w g c d (failC c x) (failC d x)) := by
  have hgl : g < w.heap.size := Rowz.lt h
  have D0 := doAt_start w g c d k n m x h
  clear h
  obtain ⟨v0, hv⟩ : ∃ v, v = ((w.alloc (.cells #[.string d.b, .int .i64 d.e] 27)).alloc (.cells #[.int .i64 k, .int .i64 n, .int .u64 (m : Int), .int .i64 x] 32)).alloc (.cells #[.string noB, .int .i64 0] 27) := ⟨_, rfl⟩
  rw [← hv] at D0
  have HR := curFail_any g c x v0 D0.cu
  rw [hv] at HR
  replace HR := Lib.hid HR
  have HF := Lib.hid (refFail8_any d x)
  generalize failC d x = d' at HF ⊢
  have e1 : (k == 1) = false := by simp [k1]
  have e2 : (k == 2) = false := by simp [k2]
  have e3 : (k == 3) = false := by simp [k3]
  have e4 : (k == 4) = false := by simp [k4]
  have e5 : (k == 5) = false := by simp [k5]
  replace D0 := Lib.hid D0
  clear k1 k2 k3 k4 k5
  go_enter Try.func7, Try.ntmps7
  go_wp2_with fail
  refine HR.out.mono ?_
  rintro e u1 ⟨rfl, C1, O1⟩
  rw [← hv] at O1
  have q4 := Rowz.onlyC D0.out.r4 O1 (by omega)
  have q5 := Rowz.onlyC D0.out.r5 O1 (by omega)
  have q6 := Lib.hid (Rowz.onlyC D0.out.r6 O1 (by omega))
  have qo := Lib.hid (D0.out.on.trans O1)
  replace C1 := Lib.hid C1
  have a0 := q4.cell 0
  have a1 := q4.cell 1
  have a3 := q5.cell 3
  simp only [List.getElem?_toArray, List.getElem?_cons_succ, List.getElem?_cons_zero] at a0 a1 a3
  clear hv HR O1 D0 q4 q5
  go_wp2_with fail
  refine (HF.out _).mono ?_
  rintro e u2 ⟨rfl, G2⟩
  have p6 : Hid (RC u2 (w.heap.size + 1 + 1) ⟨noB, 0⟩) := Lib.hid (Rowz.grown q6.out G2)
  have pc := Lib.hid (CurAt.grown C1.out G2)
  have po := Lib.hid (qo.out.trans (OnlyC.ofGrown g G2))
  have c0 := p6.out.c0
  have c1 := p6.out.c1
  have f0 := p6.out.f 0
  have f1 := p6.out.f 1
  clear G2 q6 C1 qo a0 a1 a3
  go_wp2_with fail
  refine bodyPost_ret (results_row_tmp Try.results7 _ _ (w.heap.size + 1 + 1) 27 _ _ _ rfl rfl (p6.out.set _ _) Try.underlying27 rfl (infoC _ _)) rfl ⟨true, rfl, fun _ _ => rfl, ?_, ?_⟩
  · exact Rowz.other (Rowz.other pc.out _ _ (by simp; omega)) _ _ (by simp; omega)
  · exact OnlyC.newCell (OnlyC.newCell po.out (by omega) 0 _) (by omega) 1 _
end Go.Proofs.Ytbnaiojbkecofaa
