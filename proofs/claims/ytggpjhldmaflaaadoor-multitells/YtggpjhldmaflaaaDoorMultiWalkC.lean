/-
  Contract of multi.reader's top. Conditions: the reader has leaves and hashes enough for the part; a leaf of at most a million bytes; sizes fit; sha's table of round constants stands.
-/
import Derived.Test.YtggpjhldmaflaaaDoorMultiWalkB
namespace Go.Proofs.YtggpjhldmaflaaaDoor
set_option maxRecDepth 4000
open Go.RowKit

/-! ### A row beside a reader -/
def KeepRow (g i : Nat) (C : Array Value) (T : TypeId) (w : World) : Prop := Rowz w i C T ∧ FreeOf g i w
section
variable {g i : Nat} {C : Array Value} {T : TypeId} {w w' : World}
theorem KeepRow.turn (h : KeepRow g i C T w) (t : Turn g w w') : KeepRow g i C T w' := ⟨t.row h.1 h.2, (t.free h.1.lt h.2).1⟩
theorem KeepRow.kept (h : KeepRow g i C T w) (k : Kept w w') : KeepRow g i C T w' := h.turn (Turn.ofKept k)
theorem FreeOf.setRow {j : Nat} {D : Array Value} (h : FreeOf g i w) (hj : j ≠ g) : FreeOf g i (w.setRow j D) :=
  ⟨by simpa using h.1, h.2.1, by rw [upOf_congr (setRow_other w j g D (by omega))]; exact h.2.2⟩
theorem KeepRow.put {D : Array Value} (h : KeepRow g i C T w) : KeepRow g i D T (w.setRow i D) := ⟨h.1.row, h.2.setRow h.2.2.1⟩
theorem KeepRow.beside {j : Nat} {D : Array Value} (h : KeepRow g i C T w) (hj : j ≠ g) (hn : i ≠ j) : KeepRow g i C T (w.setRow j D) := ⟨h.1.rowOther hn, h.2.setRow hj⟩
end
/-- The phases of a reader: where it stands (A), and what stays beside it (B). -/
def PhR (A : Nat → World → Prop) (B : World → Prop) (k : Nat) (w : World) : Prop := A k w ∧ B w
theorem relFr_turn {g : Nat} {A : Nat → World → Prop} {B : World → Prop} (hA : ∀ k w, A k w → g < w.heap.size ∧ ∀ i, upOf w g = some i → i < w.heap.size) (hK : ∀ k a b, A k a → Kept a b → A k b) (hB : ∀ a b, B a → Kept a b → B b) : RelFr (Turn g) (PhR A B) (FreeOf g) where
  trans := Turn.trans
  kept := Turn.ofKept
  size := Turn.size
  ph h k := ⟨hK _ _ _ h.1 k, hB _ _ h.2 k⟩
  free h hi hf := h.free hi hf
  new {k a b i} h hk hi := by
    obtain ⟨h1, h2⟩ := hA _ _ h.1
    refine ⟨Nat.lt_of_lt_of_le h1 hk.size, by omega, fun e => ?_⟩
    rw [upOf_congr (hk.block g h1)] at e
    have := h2 _ e
    omega
/-! ### Operations -/
theorem execFieldRd {o : Oper} {t : Array Value} {x : Operand} (b k : Nat) (hk : k = 2 ∨ k = 3) (w : World) (ho : o.op = .fieldAddr 71 x k) (hx : evS t x = .pointer (some ⟨b, 0, none⟩)) :
    (execOp (evS t) o).run Tryd.prog w = .ok (.value (.pointer (some ⟨b, k, none⟩))) w := by
  rcases hk with rfl | rfl
  all_goals
    unfold execOp
    rw [ho]
    simp only [hx]
    go_simp
theorem run_loadHsR {w : World} {a : Addr} {p : Option Addr} {n c : Nat} (h : w.cell? a = some (.slice p n c)) : (Instr.loadAt 26 (.pointer (some a))).run Tryd.prog w = .ok (.slice p n c) w := by
  go_simp
theorem execNilR {P : Program} {o : Oper} {t : Array Value} {x : Operand} (a : Addr) (w : World) (ho : o.op = .nilCheck x) (hx : evS t x = .pointer (some a)) : (execOp (evS t) o).run P w = .ok (.value (.pointer (some a))) w := by
  unfold execOp
  rw [ho]
  simp only [hx]
  go_simp
theorem execAppendH {o : Oper} {t : Array Value} {s x : Operand} {v v' u : Value} {w w' : World} (ho : o.op = .call { callee := .builtin .append, args := #[s, x], argTypes := #[26, 26] }) (hs : evS t s = v) (hx : evS t x = u)
    (h : (Builtin.append_ #[26, 26] o.type #[v, u]).run Tryd.prog w = .ok v' w') : (execOp (evS t) o).run Tryd.prog w = .ok (.value v') w' := by
  unfold execOp
  simp only [ho, resolve, invoke, builtin, Sem.run_bind, Sem.run_pure, Result.andThen_ok, List.map_toArray, List.map_cons, List.map_nil, hs, hx, h]

/-! ### What is recorded -/
noncomputable def upsM (Q : Nat → Bool) (H F : Nat → List UInt8) (f n o : Nat) (pl : Int) : List (List UInt8) := if (f : Int) ≤ pl ∧ pl < ((f + n : Nat) : Int) then onM Q H F f n o pl.toNat else []
section
variable {Q : Nat → Bool} {H F : Nat → List UInt8} {f n o : Nat} {pl : Int}
theorem upsM_out (h : ¬ ((f : Int) ≤ pl ∧ pl < ((f + n : Nat) : Int))) : upsM Q H F f n o pl = [] := if_neg h
theorem upsM_small (h : n < 2) : upsM Q H F f n o pl = [] := by
  unfold upsM
  split
  · exact onM_one _ _ _ _ _ _ h
  · rfl
theorem upsM_no (h : hasQ Q f n = false) (hq : ∀ x : Nat, pl = x → Q x = true) : upsM Q H F f n o pl = [] := by
  refine upsM_out fun ⟨h1, h2⟩ => ?_
  have := hasQ_not.1 h pl.toNat (by omega) (by omega)
  rw [hq pl.toNat (by omega)] at this
  cases this
theorem upsM_len (hn : n ≤ 1000000000) : (upsM Q H F f n o pl).length ≤ 63 := by
  unfold upsM
  split
  · rename_i h
    rw [onM_length _ _ _ _ _ _ _ (by omega), sidesN_length]
    exact dn_len63 _ (by omega)
  · simp
theorem upsM_left (h2 : 2 ≤ n) (h : (f : Int) ≤ pl ∧ pl < ((f + leftN n : Nat) : Int)) : upsM Q H F f n o pl = upsM Q H F f (leftN n) o pl ++ upsM Q H F (f + leftN n) (n - leftN n) (o + needN Q f (leftN n)) pl ++ [tpM Q H F (f + leftN n) (n - leftN n) (o + needN Q f (leftN n))] := by
  have hl := leftN_lt (n := n) h2
  rw [upsM_out (f := f + leftN n) (by omega), List.append_nil, upsM, if_pos (by omega), upsM, if_pos h, onM_left _ _ _ _ h2 (by omega)]
theorem upsM_right (h2 : 2 ≤ n) (h : ((f + leftN n : Nat) : Int) ≤ pl ∧ pl < ((f + n : Nat) : Int)) : upsM Q H F f n o pl = upsM Q H F f (leftN n) o pl ++ upsM Q H F (f + leftN n) (n - leftN n) (o + needN Q f (leftN n)) pl ++ [tpM Q H F f (leftN n) o] := by
  have hl := leftN_lt (n := n) h2
  rw [upsM_out (f := f) (n := leftN n) (by omega), List.nil_append, upsM, if_pos (by omega), upsM, if_pos (by omega), onM_right _ _ _ _ h2 (by omega)]
theorem upsM_none (h2 : 2 ≤ n) (h : ¬ ((f : Int) ≤ pl ∧ pl < ((f + leftN n : Nat) : Int))) (h' : ¬ (((f + leftN n : Nat) : Int) ≤ pl ∧ pl < ((f + n : Nat) : Int))) : upsM Q H F f n o pl = upsM Q H F f (leftN n) o pl ++ upsM Q H F (f + leftN n) (n - leftN n) (o + needN Q f (leftN n)) pl := by
  have hl := leftN_lt (n := n) h2
  rw [upsM_out (f := f) (n := leftN n) h, upsM_out (f := f + leftN n) (by omega), upsM_out (f := f) (n := n) (by omega)]
  rfl
end
def TopMOk (fn : FuncId) (n : Nat) : Prop := ∀ (Q : Nat → Bool) (H : Nat → List UInt8) (W w : World) (g k : Nat) (S : Nat → ByteArray) (m : Nat) (F : Nat → List UInt8) (o : Nat) (pl : Int) (L : List (List UInt8)) (f K : Nat) (Pl : Nat → Int) (p : Option Addr) (c : Nat),
    RdAt W w g k S m (fun i => F (o + i)) pl L → PartQ Q f n K Pl → IAt W p K Pl → K ≤ c → K ≤ 1000000 → 0 < n → f + n ≤ 1000000000 → K ≤ k → needN Q f n ≤ m → (∀ i, i < K → (S i).size ≤ 1000000) → (∀ i, i < K → ∀ x : Nat, Pl i = (x : Int) → H x = lf S i) → (∀ x, (H x).length = 32) →
    (∀ x : Nat, pl = (x : Int) → Q x = true) → -1 ≤ pl → pl ≤ 1000000000 → ((f : Int) ≤ pl → pl < ((f + n : Nat) : Int) → L.length ≤ 500) → Tab W →
    Calls Tryd.prog fn #[.pointer (some ⟨g, 0, none⟩), .agg (paC f n p K c)] w fun e w' => e = .returned (.agg (bC 32 (tpM Q H F f n o))) ∧ RdAt W w' g (k - K) (fun i => S (K + i)) (m - needN Q f n) (fun i => F (o + needN Q f n + i)) pl (L ++ upsM Q H F f n o pl) ∧ Turn g w w'
set_option maxRecDepth 100000 in
set_option maxHeartbeats 8000000 in
theorem readerTop_any (n : Nat) : TopMOk 36 n := by
  induction n using Nat.strongRecOn with
  | _ n ih =>
    intro Q H W w g k S m F o pl L f K Pl p c hrd hP hI hK hK6 hn hf hKk hnm hz hH hH32 hq hpl0 hpl9 hL ht
    have HC : Hid (∀ w, _) := Lib.hid fun w => partClosed_any f n p K c w
    have R1 := Lib.hid (Rowz.new w (paC f n p K c) 62)
    have K1 := Lib.hid ((Kept.refl w).alloc (.cells (paC f n p K c) 62))
    have Z1 : Hid (w.heap.size < (w.alloc (.cells (paC f n p K c) 62)).heap.size) := Lib.hid (by simp)
    have hh := hP.has
    have HRD := Lib.hid hrd
    have HT := Lib.hid ht
    by_cases h0 : K = 0
    · subst h0
      rw [decide_eq_false (by omega)] at hh
      rw [decide_eq_true rfl] at HC
      rw [needN_none hh] at hnm ⊢
      rw [tpM_none H F o hh, upsM_no hh hq, List.append_nil]
      have HHs : Hid (∀ w', RdAt W w' g k S m (fun i => F (o + i)) pl L → Calls Tryd.prog 53 #[.pointer (some ⟨g, 0, none⟩)] w' fun e w2 => e = .returned (.agg (bC 32 (F o))) ∧ RdAt W w2 g (k - 0) (fun i => S (0 + i)) (m - 1) (fun i => F (o + 1 + i)) pl L ∧ Turn g w' w2) := Lib.hid fun w' h => by
        have := readerHash_any W w' g k S m (fun i => F (o + i)) pl L h (by omega)
        simpa only [Nat.add_assoc, Nat.zero_add, Nat.sub_zero, Nat.add_zero] using this
      clear ih hP hI hh hz hH hH32 hq hL hnm
      generalize F o = A at HHs ⊢
      go_enter Tryd.func36, Tryd.ntmps36
      go_wp2_with (refine park_at 10 rfl ?_)
      have G1 := Lib.hid (Rowz.new (w.alloc (.cells (paC f n p 0 c) 62)) (bC 32 []) 38)
      have K2 := Lib.hid (K1.out.alloc (.cells (bC 32 []) 38))
      replace R1 := Lib.hid (R1.out.alloc (.cells (bC 32 []) 38))
      have e1 : (w.alloc (.cells (paC f n p 0 c) 62)).heap.size = w.heap.size + 1 := by simp
      rw [e1] at G1
      change Parked (wpList _ _ _ _ _ ((w.alloc (.cells (paC f n p 0 c) 62)).alloc (.cells (bC 32 []) 38)))
      generalize (w.alloc (.cells (paC f n p 0 c) 62)).alloc (.cells (bC 32 []) 38) = w2 at R1 G1 K2 ⊢
      clear e1 Z1 K1
      have RD2 := Lib.hid (HRD.out.keptTo K2.out)
      have G2 : Hid (KeepRow g (w.heap.size + 1) (bC 32 []) 38 w2) := Lib.hid ⟨G1.out, HRD.out.new K2.out (Nat.le_succ _)⟩
      refine unpark ?_
      refine wpList_execP 10 rfl (by rfl) (.agg (paC f n p 0 c)) _ (execLoadP rfl rfl R1.out) ?_
      go_wp2_with fail
      refine (HC.out w2).mono ?_
      rintro e w4 ⟨rfl, k3⟩
      have RD3 := Lib.hid (RD2.out.keptTo k3)
      have G3 := Lib.hid (G2.out.kept k3)
      have T3 := Lib.hid (Turn.ofKept (g := g) (K2.out.trans k3))
      replace R1 := Lib.hid (R1.out.kept k3)
      have c1 : w4.cell? ⟨w.heap.size, 1, none⟩ = some (.int .i64 n) := R1.out.cell 1
      clear k3 HC G1 G2 RD2 K2
      go_wp2_with fail
      clear c1 R1
      refine (HHs.out w4 RD3.out).mono ?_
      rintro e w5 ⟨rfl, hrd5, t5⟩
      have G5 := Lib.hid (G3.out.turn t5)
      have RD5 := Lib.hid hrd5
      have T5 := Lib.hid (T3.out.trans t5)
      clear HHs RD3 G3 T3 t5 hrd5
      go_wp2_with (refine wpList_store_row rfl 38 _ _ rfl (w.heap.size + 1) (bC 32 A) rfl rfl 38 (bC 32 []) G5.out.1 (info_hash _) (by simp [bC_size]) (bC_one _ _) ?_)
      refine bodyPost_ret (v := .agg (bC 32 A)) (results_rowP Tryd.results36 _ _ (w.heap.size + 1) 38 _ _ rfl G5.out.1.row Tryd.underlying38 rfl (info_hash _)) rfl ?_
      exact ⟨rfl, RD5.out.setRow G5.out.2 (Nat.le_trans HRD.out.kept.size (Nat.le_succ _)) _, T5.out.setRow (Nat.le_succ _) _⟩
    · rw [decide_eq_true (by omega)] at hh
      rw [decide_eq_false h0] at HC
      by_cases h2 : n < 2
      · obtain rfl : n = 1 := by omega
        obtain ⟨rfl, hPl0⟩ := hP.one (by omega)
        have hHf : H f = lf S 0 := hH 0 (by omega) f hPl0
        rw [needN_one hh h2, tpM_one H F o hh h2, upsM_small h2, List.append_nil, hHf]
        have HHs : Hid (∀ w', RdAt W w' g k S m (fun i => F (o + i)) pl L → Calls Tryd.prog 54 #[.pointer (some ⟨g, 0, none⟩)] w' fun e w2 => e = .returned (.agg (bC 32 (lf S 0))) ∧ RdAt W w2 g (k - 1) (fun i => S (1 + i)) (m - 0) (fun i => F (o + 0 + i)) pl L ∧ Turn g w' w2) := Lib.hid fun w' h =>
          readerLeaf_any W w' g k S m (fun i => F (o + i)) pl L h (by omega) (hz 0 (by omega)) ht
        clear ih hP hI hh hz hH hH32 hq hL hnm hHf hPl0
        generalize lf S 0 = A at HHs ⊢
        go_enter Tryd.func36, Tryd.ntmps36
        go_wp2_with (refine park_at 10 rfl ?_)
        have G1 := Lib.hid (Rowz.new (w.alloc (.cells (paC f (1 : Nat) p 1 c) 62)) (bC 32 []) 38)
        have K2 := Lib.hid (K1.out.alloc (.cells (bC 32 []) 38))
        replace R1 := Lib.hid (R1.out.alloc (.cells (bC 32 []) 38))
        have e1 : (w.alloc (.cells (paC f (1 : Nat) p 1 c) 62)).heap.size = w.heap.size + 1 := by simp
        rw [e1] at G1
        change Parked (wpList _ _ _ _ _ ((w.alloc (.cells (paC f (1 : Nat) p 1 c) 62)).alloc (.cells (bC 32 []) 38)))
        generalize (w.alloc (.cells (paC f (1 : Nat) p 1 c) 62)).alloc (.cells (bC 32 []) 38) = w2 at R1 G1 K2 ⊢
        clear e1 Z1 K1
        have RD2 := Lib.hid (HRD.out.keptTo K2.out)
        have G2 : Hid (KeepRow g (w.heap.size + 1) (bC 32 []) 38 w2) := Lib.hid ⟨G1.out, HRD.out.new K2.out (Nat.le_succ _)⟩
        refine unpark ?_
        refine wpList_execP 10 rfl (by rfl) (.agg (paC f (1 : Nat) p 1 c)) _ (execLoadP rfl rfl R1.out) ?_
        go_wp2_with fail
        refine (HC.out w2).mono ?_
        rintro e w4 ⟨rfl, k3⟩
        have RD3 := Lib.hid (RD2.out.keptTo k3)
        have G3 := Lib.hid (G2.out.kept k3)
        have T3 := Lib.hid (Turn.ofKept (g := g) (K2.out.trans k3))
        replace R1 := Lib.hid (R1.out.kept k3)
        have c1 : w4.cell? ⟨w.heap.size, 1, none⟩ = some (.int .i64 (1 : Nat)) := R1.out.cell 1
        clear k3 HC G1 G2 RD2 K2
        go_wp2_with fail
        clear c1 R1
        refine (HHs.out w4 RD3.out).mono ?_
        rintro e w5 ⟨rfl, hrd5, t5⟩
        have G5 := Lib.hid (G3.out.turn t5)
        have RD5 := Lib.hid hrd5
        have T5 := Lib.hid (T3.out.trans t5)
        clear HHs RD3 G3 T3 t5 hrd5
        go_wp2_with (refine wpList_store_row rfl 38 _ _ rfl (w.heap.size + 1) (bC 32 A) rfl rfl 38 (bC 32 []) G5.out.1 (info_hash _) (by simp [bC_size]) (bC_one _ _) ?_)
        refine bodyPost_ret (v := .agg (bC 32 A)) (results_rowP Tryd.results36 _ _ (w.heap.size + 1) 38 _ _ rfl G5.out.1.row Tryd.underlying38 rfl (info_hash _)) rfl ?_
        exact ⟨rfl, RD5.out.setRow G5.out.2 (Nat.le_trans HRD.out.kept.size (Nat.le_succ _)) _, T5.out.setRow (Nat.le_succ _) _⟩
      · have h0' : 0 < K := by omega
        have hp := leftN_pos (n := n) (by omega)
        have hl := leftN_lt (n := n) (by omega)
        have HS : Hid (∀ w, Kept W w → _) := Lib.hid fun w hk => partSides_any Q f n K Pl p c w hP (by omega) h0' (hI.kept hk) hK hK6 hf
        have hab := needN_two hh (by omega : 2 ≤ n)
        have hF32 : ∀ j, j < m → (F (o + j)).length = 32 := by
          obtain ⟨_, _, _, _, _, _, _, _, hF, _⟩ := hrd.ex
          obtain ⟨_, _, _, _, _, hF⟩ := hF
          exact hF.length
        have t1 : (tpM Q H F f (leftN n) o).length = 32 := tpM_length _ _ _ _ _ _ (hH32 _) fun h1 => hF32 0 (by omega)
        have t2 : (tpM Q H F (f + leftN n) (n - leftN n) (o + needN Q f (leftN n))).length = 32 := tpM_length _ _ _ _ _ _ (hH32 _) fun h1 => hF32 _ (by omega)
        have HN : Hid (∀ w, Kept W w → _) := Lib.hid fun w hk => tagNodeSum_any _ _ t1 t2 w (ht.kept hk)
        have hU1 := upsM_len (Q := Q) (H := H) (F := F) (f := f) (n := leftN n) (o := o) (pl := pl) (by omega)
        have hU2 := upsM_len (Q := Q) (H := H) (F := F) (f := f + leftN n) (n := n - leftN n) (o := o + needN Q f (leftN n)) (pl := pl) (by omega)
        have HUL : Hid (((f : Int) ≤ pl ∧ pl < ((f + leftN n : Nat) : Int)) → _ ∧ (L ++ upsM Q H F f (leftN n) o pl ++ upsM Q H F (f + leftN n) (n - leftN n) (o + needN Q f (leftN n)) pl).length ≤ 1000000000) := Lib.hid fun h => ⟨upsM_left (H := H) (F := F) (o := o) (Q := Q) (by omega : 2 ≤ n) h, by
          have := hL h.1 (by omega); simp only [List.length_append]; omega⟩
        have HUR : Hid ((((f + leftN n : Nat) : Int) ≤ pl ∧ pl < ((f + leftN n + (n - leftN n) : Nat) : Int)) → _ ∧ (L ++ upsM Q H F f (leftN n) o pl ++ upsM Q H F (f + leftN n) (n - leftN n) (o + needN Q f (leftN n)) pl).length ≤ 1000000000) := Lib.hid fun h => ⟨upsM_right (H := H) (F := F) (o := o) (Q := Q) (by omega : 2 ≤ n) ⟨h.1, by omega⟩, by
          have := hL (by omega) (by omega); simp only [List.length_append]; omega⟩
        have HUN : Hid (¬ ((f : Int) ≤ pl ∧ pl < ((f + leftN n : Nat) : Int)) → ¬ (((f + leftN n : Nat) : Int) ≤ pl ∧ pl < ((f + leftN n + (n - leftN n) : Nat) : Int)) → _) := Lib.hid fun h h' => upsM_none (H := H) (F := F) (o := o) (Q := Q) (by omega : 2 ≤ n) h (by rwa [show f + leftN n + (n - leftN n) = f + n by omega] at h')
        have HhL : Hid (∀ k1 w, _) := Lib.hid fun k1 w => partHas_any f (leftN n) p k1 c pl w hpl9 hpl0
        have HhR : Hid (∀ k1 p' w, _) := Lib.hid fun k1 p' w => partHas_any (f + leftN n) (n - leftN n) p' (K - k1) (c - k1) pl w hpl9 hpl0
        have HI1 : Hid (∀ k1, k1 ≤ K → PartQ Q f (leftN n) k1 Pl → ∀ w, RdAt W w g k S m (fun i => F (o + i)) pl L → _) := Lib.hid fun k1 hk1 h w hrd => ih (leftN n) hl Q H W w g k S m F o pl L f k1 Pl p c hrd h (hI.left k1 hk1) (by omega) (by omega) hp (by omega) (by omega) (by omega) (fun i hi => hz i (by omega)) (fun i hi => hH i (by omega)) hH32 hq hpl0 hpl9 (fun h1 h2 => hL h1 (by omega)) ht
        have HI2 : Hid (∀ k1 p', k1 ≤ K → PartQ Q (f + leftN n) (n - leftN n) (K - k1) (fun i => Pl (k1 + i)) → IAt W p' (K - k1) (fun i => Pl (k1 + i)) → ∀ w, RdAt W w g (k - k1) (fun i => S (k1 + i)) (m - needN Q f (leftN n)) (fun i => F (o + needN Q f (leftN n) + i)) pl (L ++ upsM Q H F f (leftN n) o pl) → _) := Lib.hid fun k1 p' hk1 h hI' w hrd => ih (n - leftN n) (by omega) Q H W w g (k - k1) (fun i => S (k1 + i)) (m - needN Q f (leftN n)) F (o + needN Q f (leftN n)) pl (L ++ upsM Q H F f (leftN n) o pl) (f + leftN n) (K - k1) (fun i => Pl (k1 + i)) p' (c - k1) hrd h hI' (by omega) (by omega) (by omega) (by omega) (by omega) (by omega) (fun i hi => hz _ (by omega)) (fun i hi => hH _ (by omega)) hH32 hq hpl0 hpl9 (fun h1 h2 => by
          have := hL (by omega) (by omega)
          rw [upsM_out (f := f) (n := leftN n) (by omega), List.append_nil]; exact this) ht
        have HFin : Hid (∀ k1, k1 ≤ K → k - k1 - (K - k1) = k - K ∧ (fun i => S (k1 + (K - k1 + i))) = fun i => S (K + i)) := Lib.hid fun k1 hk1 => ⟨by omega, by funext i; rw [show k1 + (K - k1 + i) = K + i by omega]⟩
        rw [hab, tpM_two H F o hh (by omega), ← Nat.sub_sub, ← Nat.add_assoc]
        have hne : ((n : Int) == 1) = false := by simp; omega
        have HI := Lib.hid hI
        have RN : Hid (∀ v : World, Rowz (v.alloc (.cells (paC 0 0 none 0 0) 62)) v.heap.size (paC 0 0 none 0 0) 62) := Lib.hid fun v => Rowz.new v _ _
        clear ih hP hI hh h0 hz hH hH32 hq hL hnm hab hF32 t1 t2 hU1 hU2
        generalize upsM Q H F (f + leftN n) (n - leftN n) (o + needN Q f (leftN n)) pl = U2 at HUL HUR HUN HI2
        generalize upsM Q H F f (leftN n) o pl = U1 at HUL HUR HUN HI1 HI2
        generalize upsM Q H F f n o pl = UU at HUL HUR HUN ⊢
        generalize tpM Q H F (f + leftN n) (n - leftN n) (o + needN Q f (leftN n)) = B at HN HI2 HUL HUR ⊢
        generalize tpM Q H F f (leftN n) o = A at HN HI1 HUL HUR ⊢
        generalize needN Q (f + leftN n) (n - leftN n) = b at HI2 ⊢
        generalize needN Q f (leftN n) = a at HI1 HI2 ⊢
        generalize shaL (nodeS A B) = AB at HN ⊢
        generalize leftN n = l at hl hp HS HI1 HI2 HUL HUR HUN HhL HhR
        go_enter Tryd.func36, Tryd.ntmps36
        go_wp2_with (refine park_at 10 rfl ?_)
        have G1 := Lib.hid (Rowz.new (w.alloc (.cells (paC f n p K c) 62)) (bC 32 []) 38)
        have K2 := Lib.hid (K1.out.alloc (.cells (bC 32 []) 38))
        replace R1 := Lib.hid (R1.out.alloc (.cells (bC 32 []) 38))
        have e1 : (w.alloc (.cells (paC f n p K c) 62)).heap.size = w.heap.size + 1 := by simp
        rw [e1] at G1
        change Parked (wpList _ _ _ _ _ ((w.alloc (.cells (paC f n p K c) 62)).alloc (.cells (bC 32 []) 38)))
        generalize (w.alloc (.cells (paC f n p K c) 62)).alloc (.cells (bC 32 []) 38) = w2 at R1 G1 K2 ⊢
        clear e1 Z1 K1
        have RD2 := Lib.hid (HRD.out.keptTo K2.out)
        have G2 : Hid (KeepRow g (w.heap.size + 1) (bC 32 []) 38 w2) := Lib.hid ⟨G1.out, HRD.out.new K2.out (Nat.le_succ _)⟩
        refine unpark ?_
        refine wpList_execP 10 rfl (by rfl) (.agg (paC f n p K c)) _ (execLoadP rfl rfl R1.out) ?_
        go_wp2_with fail
        refine (HC.out w2).mono ?_
        rintro e w4 ⟨rfl, k3⟩
        have RD3 := Lib.hid (RD2.out.keptTo k3)
        have G3 := Lib.hid (G2.out.kept k3)
        have K3 := Lib.hid (K2.out.trans k3)
        replace R1 := Lib.hid (R1.out.kept k3)
        have c1 : w4.cell? ⟨w.heap.size, 1, none⟩ = some (.int .i64 n) := R1.out.cell 1
        clear k3 HC G1 G2 RD2 K2
        go_wp2_with (refine park_at 21 rfl ?_)
        clear c1
        refine unpark ?_
        refine wpList_execP 21 rfl (by rfl) (.agg (paC f n p K c)) _ (execLoadP rfl rfl R1.out) ?_
        go_wp2_with fail
        refine (HS.out w4 RD3.out.kept).mono ?_
        rintro e v2 ⟨k1, p', rfl, ⟨hk1, hp1, hp2, hi2⟩, k2⟩
        have HK1 := Lib.hid hk1
        have HI1 : Hid (∀ w, RdAt W w g k S m (fun i => F (o + i)) pl L → _) := Lib.hid (HI1.out k1 hk1 hp1)
        have HI2 : Hid (∀ w, RdAt W w g (k - k1) (fun i => S (k1 + i)) (m - a) (fun i => F (o + a + i)) pl (L ++ U1) → _) := Lib.hid (HI2.out k1 p' hk1 hp2 (hi2 W HI.out))
        have HhL : Hid (∀ w, _) := Lib.hid fun w => HhL.out k1 w
        have HhR : Hid (∀ w, _) := Lib.hid fun w => HhR.out k1 p' w
        obtain ⟨hfk, hfS⟩ := HFin.out k1 hk1
        have hfk := Lib.hid hfk
        have hfS := Lib.hid hfS
        have RD4 := Lib.hid (RD3.out.keptTo k2)
        have G4 := Lib.hid (G3.out.kept k2)
        have K4 := Lib.hid (K3.out.trans k2)
        clear R1 RD3 G3 K3 k2 HI hi2 hp1 hp2 hk1 HS HFin
        go_wp2_with (refine park_noneP rfl ?_)
        have T1 := Lib.hid ((RN.out v2).alloc (.cells (paC 0 0 none 0 0) 62))
        have T2 := Lib.hid (RN.out (v2.alloc (.cells (paC 0 0 none 0 0) 62)))
        have e2 : (v2.alloc (.cells (paC 0 0 none 0 0) 62)).heap.size = v2.heap.size + 1 := by simp
        rw [e2] at T2
        have K5 := Lib.hid (((Kept.refl v2).alloc (.cells (paC 0 0 none 0 0) 62)).alloc (.cells (paC 0 0 none 0 0) 62))
        change Parked (wpList _ _ _ _ _ ((v2.alloc (.cells (paC 0 0 none 0 0) 62)).alloc (.cells (paC 0 0 none 0 0) 62)))
        generalize (v2.alloc (.cells (paC 0 0 none 0 0) 62)).alloc (.cells (paC 0 0 none 0 0) 62) = v3 at T1 T2 K5 ⊢
        clear e2 RN
        refine unpark ?_
        refine wpList_store_row rfl 62 _ _ rfl v2.heap.size (paC f l p k1 c) rfl rfl 62 (paC 0 0 none 0 0) T1.out (info_part _ _ _ _ _) rfl (paC_one _ _ _ _ _) ?_
        have U1' := Lib.hid (T1.out.row (D := paC f l p k1 c))
        have U2' := Lib.hid (T2.out.rowOther (D := paC f l p k1 c) (k := v2.heap.size) (by omega))
        have K6 := Lib.hid (K5.out.setRow (g := v2.heap.size) (Nat.le_refl _) (paC f l p k1 c))
        generalize v3.setRow v2.heap.size (paC f l p k1 c) = v4 at U1' U2' K6 ⊢
        refine wpList_store_row rfl 62 _ _ rfl (v2.heap.size + 1) (paC ((f + l : Nat) : Int) ((n - l : Nat) : Int) p' (K - k1) (c - k1)) rfl rfl 62 (paC 0 0 none 0 0) U2'.out (info_part _ _ _ _ _) rfl (paC_one _ _ _ _ _) ?_
        have V2 := Lib.hid (U2'.out.row (D := paC ((f + l : Nat) : Int) ((n - l : Nat) : Int) p' (K - k1) (c - k1)))
        have V1 := Lib.hid (U1'.out.rowOther (D := paC ((f + l : Nat) : Int) ((n - l : Nat) : Int) p' (K - k1) (c - k1)) (k := v2.heap.size + 1) (by omega))
        have K7 := Lib.hid (K6.out.setRow (g := v2.heap.size + 1) (by omega) (paC ((f + l : Nat) : Int) ((n - l : Nat) : Int) p' (K - k1) (c - k1)))
        generalize v4.setRow (v2.heap.size + 1) (paC ((f + l : Nat) : Int) ((n - l : Nat) : Int) p' (K - k1) (c - k1)) = v5 at V1 V2 K7 ⊢
        have RD5 := Lib.hid (RD4.out.keptTo K7.out)
        have G5 : Hid (KeepRow g v2.heap.size (paC f l p k1 c) 62 v5) := Lib.hid ⟨V1.out, RD4.out.new K7.out (Nat.le_refl _)⟩
        have G6 : Hid (KeepRow g (v2.heap.size + 1) (paC ((f + l : Nat) : Int) ((n - l : Nat) : Int) p' (K - k1) (c - k1)) 62 v5) := Lib.hid ⟨V2.out, RD4.out.new K7.out (Nat.le_succ _)⟩
        replace G4 := Lib.hid (G4.out.kept K7.out)
        have TN5 := Lib.hid (Turn.ofKept (g := g) (K4.out.trans K7.out))
        have g4l : Hid (w.heap.size ≤ v2.heap.size) := Lib.hid K4.out.size
        generalize v2.heap.size = g5 at G5 G6 g4l ⊢
        generalize hg4 : w.heap.size + 1 = g4 at G4 ⊢
        have HG4 := Lib.hid hg4
        clear T1 T2 K5 U1' U2' K6 V1 V2 K7 K4 RD4 hg4
        go_wp2_with fail
        obtain ⟨AA, hAA⟩ : ∃ AA : Nat → World → Prop, AA = fun j w => match j with
          | 0 => RdAt W w g k S m (fun i => F (o + i)) pl L
          | 1 => RdAt W w g (k - k1) (fun i => S (k1 + i)) (m - a) (fun i => F (o + a + i)) pl (L ++ U1)
          | _ => RdAt W w g (k - k1 - (K - k1)) (fun i => S (k1 + (K - k1 + i))) (m - a - b) (fun i => F (o + a + b + i)) pl (L ++ U1 ++ U2) := ⟨_, rfl⟩
        obtain ⟨BB, hBB⟩ : ∃ BB : World → Prop, BB = fun w => KeepRow g g5 (paC f l p k1 c) 62 w ∧ KeepRow g (g5 + 1) (paC ((f + l : Nat) : Int) ((n - l : Nat) : Int) p' (K - k1) (c - k1)) 62 w := ⟨_, rfl⟩
        have hREL : RelFr (Turn g) (PhR AA BB) (FreeOf g) := by
          subst hAA hBB
          refine relFr_turn (fun j w h => ?_) (fun j x y h hk => ?_) (fun x y h hk => ⟨h.1.kept hk, h.2.kept hk⟩)
          · match j, h with
            | 0, h => exact ⟨RdAt.lt h, fun i hi => (RdAt.up h i hi).2⟩
            | 1, h => exact ⟨RdAt.lt h, fun i hi => (RdAt.up h i hi).2⟩
            | _ + 2, h => exact ⟨RdAt.lt h, fun i hi => (RdAt.up h i hi).2⟩
          · match j, h with
            | 0, h => exact RdAt.keptTo h hk
            | 1, h => exact RdAt.keptTo h hk
            | _ + 2, h => exact RdAt.keptTo h hk
        have HP0 : PhR AA BB 0 v5.drew := by
          subst hAA hBB
          exact ⟨RD5.out.keptTo (Kept.drew (Kept.refl _)), G5.out.kept (Kept.drew (Kept.refl _)), G6.out.kept (Kept.drew (Kept.refl _))⟩
        have HAB : Hid (∀ j w, PhR AA BB j w → KeepRow g g5 (paC f l p k1 c) 62 w ∧ KeepRow g (g5 + 1) (paC ((f + l : Nat) : Int) ((n - l : Nat) : Int) p' (K - k1) (c - k1)) 62 w) := Lib.hid fun j w h => by subst hBB; exact h.2
        have HE0 : Hid (∀ w, PhR AA BB 0 w → Calls Tryd.prog 36 #[.pointer (some ⟨g, 0, none⟩), .agg (paC f l p k1 c)] w fun e w' => e = .returned (.agg (bC 32 A)) ∧ Turn g w w' ∧ PhR AA BB 1 w') := Lib.hid fun w h => by
          subst hAA hBB
          refine (HI1.out w h.1).mono ?_
          rintro e w' ⟨he, h1, h2⟩
          exact ⟨he, h2, h1, h.2.1.turn h2, h.2.2.turn h2⟩
        have HE1 : Hid (∀ w, PhR AA BB 1 w → Calls Tryd.prog 36 #[.pointer (some ⟨g, 0, none⟩), .agg (paC ((f + l : Nat) : Int) ((n - l : Nat) : Int) p' (K - k1) (c - k1))] w fun e w' => e = .returned (.agg (bC 32 B)) ∧ Turn g w w' ∧ PhR AA BB 2 w') := Lib.hid fun w h => by
          subst hAA hBB
          refine (HI2.out w h.1).mono ?_
          rintro e w' ⟨he, h1, h2⟩
          exact ⟨he, h2, h1, h.2.1.turn h2, h.2.2.turn h2⟩
        have HF2 : Hid (∀ w, PhR AA BB 2 w → RdAt W w g (k - K) (fun i => S (K + i)) (m - a - b) (fun i => F (o + a + b + i)) pl (L ++ U1 ++ U2)) := Lib.hid fun w h => by
          subst hAA
          have := h.1
          rw [← hfk.out, ← hfS.out]
          exact this
        clear hAA hBB HI1 HI2 hfk hfS
        refine wp_region_phase hREL HP0 8 [7, 8] [2, 5] [] [(25, .is (.pointer (some ⟨g, 0, none⟩))), (26, .is (.agg (paC f l p k1 c))), (27, .is (.agg (bC 32 A))), (28, .is (.pointer (some ⟨g, 0, none⟩))), (29, .is (.agg (paC ((f + l : Nat) : Int) ((n - l : Nat) : Int) p' (K - k1) (c - k1)))), (30, .is (.agg (bC 32 B))), (7, .row ptrAt0 (bC 32 []) 38), (8, .row ptrAt0 (bC 32 []) 38)] (by kernel_rfl) (by kernel_rfl) (by kernel_rfl) (by kernel_rfl) (by kernel_rfl) (by kernel_rfl) ?_ ?_
        · refine ⟨fun t w1 ph hf hk hph hp => ?_, ?_⟩
          · have h0 : slot t 0 = .pointer (some ⟨g, 0, none⟩) := hf 0 (by kernel_rfl)
            clear hf hp
            refine stepPh_no (by kernel_rfl) ?_
            refine stepM_at (by kernel_rfl) ?_
            refine stepAt_plain rfl ?_
            exact stepOK_move _ (.inl rfl) h0
          refine ⟨fun t w1 ph hf hk hph hp => ?_, ?_⟩
          · have h5 : slot t 5 = .pointer (some ⟨g5, 0, none⟩) := hf 5 (by kernel_rfl)
            clear hf hp
            refine stepPh_no (by kernel_rfl) ?_
            refine stepM_at (by kernel_rfl) ?_
            refine stepAt_plain rfl ?_
            exact stepOK_pure (.agg (paC f l p k1 c)) (execLoadP rfl h5 (HAB.out _ _ hph).1.1) rfl
          refine ⟨fun t w1 ph hf hk hph hp => ?_, ?_⟩
          · have h25 : slot t 25 = .pointer (some ⟨g, 0, none⟩) := hp 25 (by kernel_rfl)
            have h26 : slot t 26 = .agg (paC f l p k1 c) := hp 26 (by kernel_rfl)
            clear hf hp
            refine stepPh_eff 0 (by kernel_rfl) (fun hj => ?_)
            subst hj
            refine stepEff_call rfl #[.pointer (some ⟨g, 0, none⟩), .agg (paC f l p k1 c)] rfl (by simp only [List.map_toArray, List.map_cons, List.map_nil, evS, h25, h26]) (by go_simp) ((HE0.out w1 hph).mono fun e w' ⟨he, hr', hp'⟩ => ⟨_, he, hr', rfl, hp'⟩)
          refine ⟨fun t w1 ph hf hk hph hp => ?_, ?_⟩
          · have h0 : slot t 0 = .pointer (some ⟨g, 0, none⟩) := hf 0 (by kernel_rfl)
            clear hf hp
            refine stepPh_no (by kernel_rfl) ?_
            refine stepM_at (by kernel_rfl) ?_
            refine stepAt_plain rfl ?_
            exact stepOK_move _ (.inl rfl) h0
          refine ⟨fun t w1 ph hf hk hph hp => ?_, ?_⟩
          · have h6 : slot t 6 = .pointer (some ⟨g5 + 1, 0, none⟩) := hf 6 (by kernel_rfl)
            clear hf hp
            refine stepPh_no (by kernel_rfl) ?_
            refine stepM_at (by kernel_rfl) ?_
            refine stepAt_plain rfl ?_
            exact stepOK_pure (.agg (paC ((f + l : Nat) : Int) ((n - l : Nat) : Int) p' (K - k1) (c - k1))) (execLoadP rfl h6 (HAB.out _ _ hph).2.1) rfl
          refine ⟨fun t w1 ph hf hk hph hp => ?_, ?_⟩
          · have h28 : slot t 28 = .pointer (some ⟨g, 0, none⟩) := hp 28 (by kernel_rfl)
            have h29 : slot t 29 = .agg (paC ((f + l : Nat) : Int) ((n - l : Nat) : Int) p' (K - k1) (c - k1)) := hp 29 (by kernel_rfl)
            clear hf hp
            refine stepPh_eff 1 (by kernel_rfl) (fun hj => ?_)
            subst hj
            refine stepEff_call rfl #[.pointer (some ⟨g, 0, none⟩), .agg (paC ((f + l : Nat) : Int) ((n - l : Nat) : Int) p' (K - k1) (c - k1))] rfl (by simp only [List.map_toArray, List.map_cons, List.map_nil, evS, h28, h29]) (by go_simp) ((HE1.out w1 hph).mono fun e w' ⟨he, hr', hp'⟩ => ⟨_, he, hr', rfl, hp'⟩)
          refine ⟨fun t w1 ph hf hk hph hp => ?_, ?_⟩
          · clear hf hp
            refine stepPh_no (by kernel_rfl) ?_
            refine stepM_made (by kernel_rfl) ?_
            refine stepMade_new ((bC 32 [])) 38 rfl ?_ ⟨_, rfl, Rowz.new w1 _ _, hREL.new hph ((Kept.refl w1).alloc _) (Nat.le_refl _)⟩
            simp only [execOp, ptrAt0]
            go_simp
            rfl
          refine ⟨fun t w1 ph hf hk hph hp => ?_, ?_⟩
          · clear hf hp
            refine stepPh_no (by kernel_rfl) ?_
            refine stepM_made (by kernel_rfl) ?_
            refine stepMade_new ((bC 32 [])) 38 rfl ?_ ⟨_, rfl, Rowz.new w1 _ _, hREL.new hph ((Kept.refl w1).alloc _) (Nat.le_refl _)⟩
            simp only [execOp, ptrAt0]
            go_simp
            rfl
          exact trivial
        · intro t w1 hsz hf hk hph hfacts hmd hap
          have h27 : slot t 27 = .agg (bC 32 A) := hfacts 2 _ (by decide) rfl 27 rfl
          have h30 : slot t 30 = .agg (bC 32 B) := hfacts 5 _ (by decide) rfl 30 rfl
          obtain ⟨g7, h7, r7, f7⟩ : ∃ gx, slot t 7 = ptrAt0 gx ∧ Rowz w1 gx (bC 32 []) 38 ∧ (FreeOf g) gx w1 := hfacts 6 _ (by decide) rfl 7 rfl
          simp only [ptrAt0] at h7
          obtain ⟨g8, h8, r8, f8⟩ : ∃ gx, slot t 8 = ptrAt0 gx ∧ Rowz w1 gx (bC 32 []) 38 ∧ (FreeOf g) gx w1 := hfacts 7 _ (by decide) rfl 8 rfl
          simp only [ptrAt0] at h8
          have h0 : slot t 0 = .pointer (some ⟨g, 0, none⟩) := hf 0 (by kernel_rfl)
          have h4 : slot t 4 = .pointer (some ⟨g4, 0, none⟩) := hf 4 (by kernel_rfl)
          have h5 : slot t 5 = .pointer (some ⟨g5, 0, none⟩) := hf 5 (by kernel_rfl)
          have h6 : slot t 6 = .pointer (some ⟨g5 + 1, 0, none⟩) := hf 6 (by kernel_rfl)
          have l7 := made_ge (hmd 7 (by kernel_rfl)) h7
          have l8 := made_ge (hmd 8 (by kernel_rfl)) h8
          have d7_8 := made_ne (hap 7 8 (by kernel_rfl) (by kernel_rfl) (by decide)) h7 h8
          have harr : t = #[slot t 0, slot t 1, slot t 2, slot t 3, slot t 4, slot t 5, slot t 6, slot t 7, slot t 8, slot t 9, slot t 10, slot t 11, slot t 12, slot t 13, slot t 14, slot t 15, slot t 16, slot t 17, slot t 18, slot t 19, slot t 20, slot t 21, slot t 22, slot t 23, slot t 24, slot t 25, slot t 26, slot t 27, slot t 28, slot t 29, slot t 30, slot t 31, slot t 32, slot t 33, slot t 34, slot t 35, slot t 36, slot t 37, slot t 38, slot t 39, slot t 40, slot t 41, slot t 42, slot t 43, slot t 44, slot t 45, slot t 46, slot t 47, slot t 48, slot t 49, slot t 50, slot t 51, slot t 52, slot t 53, slot t 54, slot t 55, slot t 56, slot t 57, slot t 58, slot t 59, slot t 60, slot t 61, slot t 62, slot t 63, slot t 64, slot t 65, slot t 66, slot t 67] := arr_eq t 68 hsz
          rw [harr, h27, h30, h7, h8, h0, h4, h5, h6]
          clear harr hfacts hf hmd hap h27 h30 h7 h8 h0 h4 h5 h6
          generalize slot t 1 = x1; generalize slot t 2 = x2; generalize slot t 3 = x3; generalize slot t 9 = x9; generalize slot t 10 = x10; generalize slot t 11 = x11; generalize slot t 12 = x12; generalize slot t 13 = x13; generalize slot t 14 = x14; generalize slot t 15 = x15; generalize slot t 16 = x16; generalize slot t 17 = x17
          generalize slot t 18 = x18; generalize slot t 19 = x19; generalize slot t 20 = x20; generalize slot t 21 = x21; generalize slot t 22 = x22; generalize slot t 23 = x23; generalize slot t 24 = x24; generalize slot t 25 = x25; generalize slot t 26 = x26; generalize slot t 28 = x28; generalize slot t 29 = x29; generalize slot t 31 = x31
          generalize slot t 32 = x32; generalize slot t 33 = x33; generalize slot t 34 = x34; generalize slot t 35 = x35; generalize slot t 36 = x36; generalize slot t 37 = x37; generalize slot t 38 = x38; generalize slot t 39 = x39; generalize slot t 40 = x40; generalize slot t 41 = x41; generalize slot t 42 = x42; generalize slot t 43 = x43
          generalize slot t 44 = x44; generalize slot t 45 = x45; generalize slot t 46 = x46; generalize slot t 47 = x47; generalize slot t 48 = x48; generalize slot t 49 = x49; generalize slot t 50 = x50; generalize slot t 51 = x51; generalize slot t 52 = x52; generalize slot t 53 = x53; generalize slot t 54 = x54; generalize slot t 55 = x55
          generalize slot t 56 = x56; generalize slot t 57 = x57; generalize slot t 58 = x58; generalize slot t 59 = x59; generalize slot t 60 = x60; generalize slot t 61 = x61; generalize slot t 62 = x62; generalize slot t 63 = x63; generalize slot t 64 = x64; generalize slot t 65 = x65; generalize slot t 66 = x66; generalize slot t 67 = x67
          clear hsz t
          simp only [List.drop_succ_cons, List.drop_zero]
          have RD6 := Lib.hid (HF2.out w1 hph)
          obtain ⟨m5, m6⟩ := HAB.out _ _ hph
          have x4 := G4.out.1.lt
          have x5 := G5.out.1.lt
          have x6 := G6.out.1.lt
          have M4 := Lib.hid (G4.out.turn hk)
          have TN6 := Lib.hid (TN5.out.trans hk)
          have xW : W.heap.size ≤ v5.heap.size := RD5.out.kept.size
          have xw : w.heap.size ≤ v5.heap.size := TN5.out.size
          have xg : g < v5.heap.size := RD5.out.lt
          clear hph hk hREL HP0 HAB HE0 HE1 HF2 G4 G5 G6 TN5 RD5
          refine wpList_store_row rfl 38 _ _ rfl g7 (bC 32 A) rfl rfl 38 (bC 32 []) r7 (info_hash _) (by simp [bC_size]) (bC_one _ _) ?_
          have RD7 := Lib.hid (RD6.out.setRow f7 (Nat.le_trans xW l7) (bC 32 A))
          have TN7 := Lib.hid (TN6.out.setRow (Nat.le_trans xw l7) (bC 32 A))
          have N4 := Lib.hid (M4.out.beside (j := g7) (D := bC 32 A) (by omega) (by omega))
          have N5 := Lib.hid (m5.beside (j := g7) (D := bC 32 A) (by omega) (by omega))
          have N6 := Lib.hid (m6.beside (j := g7) (D := bC 32 A) (by omega) (by omega))
          have N7 := Lib.hid (KeepRow.put (D := bC 32 A) ⟨r7, f7⟩)
          have N8 := Lib.hid (KeepRow.beside (j := g7) (D := bC 32 A) ⟨r8, f8⟩ (by omega) (by omega))
          generalize w1.setRow g7 (bC 32 A) = y1 at RD7 TN7 N4 N5 N6 N7 N8 ⊢
          clear m5 m6 M4 RD6 TN6 r7 f7 r8 f8
          refine wpList_store_row rfl 38 _ _ rfl g8 (bC 32 B) rfl rfl 38 (bC 32 []) N8.out.1 (info_hash _) (by simp [bC_size]) (bC_one _ _) ?_
          have RD8 := Lib.hid (RD7.out.setRow N8.out.2 (Nat.le_trans xW l8) (bC 32 B))
          have TN8 := Lib.hid (TN7.out.setRow (Nat.le_trans xw l8) (bC 32 B))
          have M4 := Lib.hid (N4.out.beside (j := g8) (D := bC 32 B) (by omega) (by omega))
          have M5 := Lib.hid (N5.out.beside (j := g8) (D := bC 32 B) (by omega) (by omega))
          have M6 := Lib.hid (N6.out.beside (j := g8) (D := bC 32 B) (by omega) (by omega))
          have M7 := Lib.hid (N7.out.beside (j := g8) (D := bC 32 B) (by omega) (by omega))
          have M8 := Lib.hid (KeepRow.put (D := bC 32 B) N8.out)
          generalize y1.setRow g8 (bC 32 B) = y2 at RD8 TN8 M4 M5 M6 M7 M8 ⊢
          clear RD7 TN7 N4 N5 N6 N7 N8 x4 x5 x6 xW xw xg l7 l8 d7_8
          have HB0 := Lib.hid HRD.out.base
          go_wp2_with fail
          by_cases hinL : (f : Int) ≤ pl ∧ pl < ((f + l : Nat) : Int)
          · obtain ⟨hU, hlen⟩ := HUL.out hinL
            have HUU : Hid (L ++ U1 ++ U2 ++ [B] = L ++ UU) := Lib.hid (by rw [hU]; simp only [List.append_assoc])
            have HLen := Lib.hid hlen
            have HhL : Hid (∀ w, Calls Tryd.prog 55 #[.agg (paC f l p k1 c), .int .i64 pl] w fun e w' => e = .returned (.bool true) ∧ Kept w w') := Lib.hid fun w => by
              have := HhL.out w
              rwa [decide_eq_true hinL] at this
            clear HUL HUR HUN HhR hU hlen hinL
            obtain ⟨p1x, c1x, qx, dx, vx, hrx, _⟩ := RD8.out.ex
            have HRX := Lib.hid hrx
            clear hrx
            refine wp_region_table [(32, .is (.agg (paC f l p k1 c))), (33, .is (.pointer (some ⟨g, 0, none⟩))), (34, .is (.pointer (some ⟨g, 0, none⟩))), (35, .is (.pointer (some ⟨g, 2, none⟩))), (36, .is (.int .i64 pl)), (37, .is (.bool true)), (31, .is (.bool true))] (by kernel_rfl) (by kernel_rfl) ?_ ?_
            · refine ⟨fun t w1 hf hk hp => ?_, ?_⟩
              · have h5 : slot t 5 = .pointer (some ⟨g5, 0, none⟩) := hf 5 (by kernel_rfl)
                clear hf hp
                refine stepAt_plain rfl ?_
                exact stepOK_pure (.agg (paC f l p k1 c)) (execLoadP rfl h5 (M5.out.1.kept hk)) rfl
              refine ⟨fun t w1 hf hk hp => ?_, ?_⟩
              · have h0 : slot t 0 = .pointer (some ⟨g, 0, none⟩) := hf 0 (by kernel_rfl)
                clear hf hp
                refine stepAt_plain rfl ?_
                exact stepOK_move _ (.inl rfl) h0
              refine ⟨fun t w1 hf hk hp => ?_, ?_⟩
              · have h33 : slot t 33 = .pointer (some ⟨g, 0, none⟩) := hp 33 (by kernel_rfl)
                clear hf hp
                refine stepAt_plain rfl ?_
                exact stepOK_pure (.pointer (some ⟨g, 0, none⟩)) (execNilR ⟨g, 0, none⟩ w1 rfl h33) rfl
              refine ⟨fun t w1 hf hk hp => ?_, ?_⟩
              · have h34 : slot t 34 = .pointer (some ⟨g, 0, none⟩) := hp 34 (by kernel_rfl)
                clear hf hp
                refine stepAt_plain rfl ?_
                exact stepOK_pure (.pointer (some ⟨g, 2, none⟩)) (execFieldRd g 2 (by omega) w1 rfl h34) rfl
              refine ⟨fun t w1 hf hk hp => ?_, ?_⟩
              · have h35 : slot t 35 = .pointer (some ⟨g, 2, none⟩) := hp 35 (by kernel_rfl)
                clear hf hp
                refine stepAt_plain rfl ?_
                exact stepOK_pure (.int .i64 pl) (execLoadR _ _ rfl h35 (run_loadIP ((HRX.out.kept hk).cell 2))) rfl
              refine ⟨fun t w1 hf hk hp => ?_, ?_⟩
              · have h32 : slot t 32 = .agg (paC f l p k1 c) := hp 32 (by kernel_rfl)
                have h36 : slot t 36 = .int .i64 pl := hp 36 (by kernel_rfl)
                clear hf hp
                refine stepAt_plain rfl ?_
                refine stepOK_call #[.agg (paC f l p k1 c), .int .i64 pl] rfl (by simp only [List.map_toArray, List.map_cons, List.map_nil, evS, h32, h36]) (by go_simp) ((HhL.out w1).mono fun e w' ⟨he, hk'⟩ => ⟨_, he, hk', rfl⟩)
              refine ⟨fun t w1 hf hk hp => ?_, ?_⟩
              · have h37 : slot t 37 = .bool true := hp 37 (by kernel_rfl)
                clear hf hp
                refine stepAt_plain rfl ?_
                exact stepOK_move _ (.inr rfl) h37
              exact trivial
            · intro t w1 hsz hf hk hfacts
              have h31 : slot t 31 = .bool true := hfacts 6 _ rfl 31 rfl
              have h0 : slot t 0 = .pointer (some ⟨g, 0, none⟩) := hf 0 (by kernel_rfl)
              have h4 : slot t 4 = .pointer (some ⟨g4, 0, none⟩) := hf 4 (by kernel_rfl)
              have h5 : slot t 5 = .pointer (some ⟨g5, 0, none⟩) := hf 5 (by kernel_rfl)
              have h6 : slot t 6 = .pointer (some ⟨g5 + 1, 0, none⟩) := hf 6 (by kernel_rfl)
              have h7 : slot t 7 = .pointer (some ⟨g7, 0, none⟩) := hf 7 (by kernel_rfl)
              have h8 : slot t 8 = .pointer (some ⟨g8, 0, none⟩) := hf 8 (by kernel_rfl)
              have harr : t = #[slot t 0, slot t 1, slot t 2, slot t 3, slot t 4, slot t 5, slot t 6, slot t 7, slot t 8, slot t 9, slot t 10, slot t 11, slot t 12, slot t 13, slot t 14, slot t 15, slot t 16, slot t 17, slot t 18, slot t 19, slot t 20, slot t 21, slot t 22, slot t 23, slot t 24, slot t 25, slot t 26, slot t 27, slot t 28, slot t 29, slot t 30, slot t 31, slot t 32, slot t 33, slot t 34, slot t 35, slot t 36, slot t 37, slot t 38, slot t 39, slot t 40, slot t 41, slot t 42, slot t 43, slot t 44, slot t 45, slot t 46, slot t 47, slot t 48, slot t 49, slot t 50, slot t 51, slot t 52, slot t 53, slot t 54, slot t 55, slot t 56, slot t 57, slot t 58, slot t 59, slot t 60, slot t 61, slot t 62, slot t 63, slot t 64, slot t 65, slot t 66, slot t 67] := arr_eq t 68 hsz
              rw [harr, h31, h0, h4, h5, h6, h7, h8]
              clear harr hfacts hf h31 h0 h4 h5 h6 h7 h8
              generalize slot t 1 = x1; generalize slot t 2 = x2; generalize slot t 3 = x3; generalize slot t 9 = x9; generalize slot t 10 = x10; generalize slot t 11 = x11; generalize slot t 12 = x12; generalize slot t 13 = x13; generalize slot t 14 = x14; generalize slot t 15 = x15; generalize slot t 16 = x16; generalize slot t 17 = x17
              generalize slot t 18 = x18; generalize slot t 19 = x19; generalize slot t 20 = x20; generalize slot t 21 = x21; generalize slot t 22 = x22; generalize slot t 23 = x23; generalize slot t 24 = x24; generalize slot t 25 = x25; generalize slot t 26 = x26; generalize slot t 27 = x27; generalize slot t 28 = x28; generalize slot t 29 = x29
              generalize slot t 30 = x30; generalize slot t 32 = x32; generalize slot t 33 = x33; generalize slot t 34 = x34; generalize slot t 35 = x35; generalize slot t 36 = x36; generalize slot t 37 = x37; generalize slot t 38 = x38; generalize slot t 39 = x39; generalize slot t 40 = x40; generalize slot t 41 = x41; generalize slot t 42 = x42
              generalize slot t 43 = x43; generalize slot t 44 = x44; generalize slot t 45 = x45; generalize slot t 46 = x46; generalize slot t 47 = x47; generalize slot t 48 = x48; generalize slot t 49 = x49; generalize slot t 50 = x50; generalize slot t 51 = x51; generalize slot t 52 = x52; generalize slot t 53 = x53; generalize slot t 54 = x54
              generalize slot t 55 = x55; generalize slot t 56 = x56; generalize slot t 57 = x57; generalize slot t 58 = x58; generalize slot t 59 = x59; generalize slot t 60 = x60; generalize slot t 61 = x61; generalize slot t 62 = x62; generalize slot t 63 = x63; generalize slot t 64 = x64; generalize slot t 65 = x65; generalize slot t 66 = x66
              generalize slot t 67 = x67
              clear hsz t
              replace RD8 := Lib.hid (RD8.out.keptTo hk)
              replace TN8 := Lib.hid (TN8.out.trans (Turn.ofKept hk))
              replace M4 := Lib.hid (M4.out.kept hk)
              replace M5 := Lib.hid (M5.out.kept hk)
              replace M6 := Lib.hid (M6.out.kept hk)
              replace M7 := Lib.hid (M7.out.kept hk)
              replace M8 := Lib.hid (M8.out.kept hk)
              clear hk HRX HhL
              obtain ⟨y3, hy3⟩ : ∃ y, y = w1 := ⟨_, rfl⟩
              subst hy3
              go_wp2_with fail
              obtain ⟨p1x, c1x, qx, dx, vx, hrx, hcx, hSx, hFx, hpx, hvx⟩ := RD8.out.ex
              have hbx := RD8.out.base
              have hkx := RD8.out.kept
              obtain ⟨A8, hA8⟩ : ∃ A8 : Nat → World → Prop, A8 = fun j w => Rowz w g (rdC p1x (k - K) c1x qx (m - a - b) dx pl vx) 71 ∧ Kept W w ∧ (∀ i, vx.ownBlock = some i → i < w.heap.size) ∧ (j = 0 → PaS W.heap.size (L ++ U1 ++ U2) vx w) := ⟨_, rfl⟩
              obtain ⟨B8, hB8⟩ : ∃ B8 : World → Prop, B8 = fun w => KeepRow g g8 (bC 32 B) 38 w := ⟨_, rfl⟩
              obtain ⟨P8, hP8⟩ : ∃ P8 : Value → World → Prop, P8 = fun x w => PaS W.heap.size (L ++ U1 ++ U2 ++ [B]) x w ∧ x.ownBlock ≠ some g ∧ ∀ i, x.ownBlock = some i → vx.ownBlock = some i ∨ y3.heap.size ≤ i := ⟨_, rfl⟩
              have S8 : ∀ v w w', Kept w w' → P8 v w → P8 v w' := by
                subst hP8
                exact fun v w w' hk h => ⟨PaS.kept _ _ _ _ _ hk h.1, h.2⟩
              have hREL : RelFr (Turn g) (PhR A8 B8) (FreeOf g) := by
                subst hA8 hB8
                refine relFr_turn (fun j w h => ⟨h.1.lt, fun i hi => ?_⟩) (fun j x z h hk => ⟨h.1.kept hk, h.2.1.trans hk, fun i hi => Nat.lt_of_lt_of_le (h.2.2.1 i hi) hk.size, fun hj => PaS.kept _ _ _ _ _ hk (h.2.2.2 hj)⟩) (fun x z h hk => h.kept hk)
                rw [upOf_row h.1] at hi
                exact h.2.2.1 i hi
              have HP0 : PhR A8 B8 0 y3.drew := by
                subst hA8 hB8
                exact ⟨⟨hrx, hkx, fun i hi => (World.ownsRow.lt hpx i hi).2, fun _ => hpx⟩, M8.out⟩
              have HApp : Hid (∀ (w1 : World) (gb : Nat), PhR A8 B8 0 w1 → Turn g y3 w1 → Rowz w1 gb (bC 32 B) 38 → ∀ ty, ∃ v' w', (Builtin.append_ #[26, 26] ty #[vx, .slice (some ⟨gb, 0, none⟩) 1 1]).run Tryd.prog w1 = .ok v' w' ∧ Turn g w1 w' ∧ P8 v' w' ∧ PhR A8 B8 1 w') := Lib.hid fun w1 gb h t hr ty => by
                subst hA8 hB8 hP8
                obtain ⟨⟨h1, h2, h3, h4⟩, h5⟩ := h
                obtain ⟨v', w', e1, e2, e3, e4⟩ := run_append_pathU w1 ty W.heap.size h2.size vx (L ++ U1 ++ U2) (h4 rfl) B gb _ hr HLen.out
                have hg' : Rowz w' g (rdC p1x (k - K) c1x qx (m - a - b) dx pl vx) 71 := (e3.block g h1.lt (fun e => hvx e.symm)).trans h1
                have tw : Turn g w1 w' := ⟨e3.os, e3.output, e3.size, fun _ => ⟨fun i hi hn hu => e3.block i hi (fun e => hu (by rw [upOf_row h1]; exact e.symm)), fun i hi => .inl (by rw [upOf_row hg'] at hi; rw [upOf_row h1]; exact hi)⟩⟩
                refine ⟨v', w', e1, tw, ⟨e2, fun e => ?_, fun i hi => ?_⟩, ⟨hg', tw.keptOf h2 hbx h1.lt (fun i hi => by rw [upOf_row h1] at hi; exact (World.ownsRow.lt (h4 rfl) i hi).1), fun i hi => Nat.lt_of_lt_of_le (h3 i hi) e3.size, fun hj => absurd hj (by decide)⟩, h5.turn tw⟩
                · rcases e4 g e with h | h
                  · exact hvx h
                  · have := h1.lt; omega
                · rcases e4 i hi with h | h
                  · exact .inl h
                  · exact .inr (Nat.le_trans t.size h)
              have HAr : Hid (∀ j w, PhR A8 B8 j w → Rowz w g (rdC p1x (k - K) c1x qx (m - a - b) dx pl vx) 71 ∧ KeepRow g g8 (bC 32 B) 38 w ∧ Kept W w) := Lib.hid fun j w h => by
                subst hA8 hB8
                exact ⟨h.1.1, h.2, h.1.2.1⟩
              have HPr : Hid (∀ v w, P8 v w → PaS W.heap.size (L ++ U1 ++ U2 ++ [B]) v w ∧ v.ownBlock ≠ some g ∧ ∀ i, v.ownBlock = some i → vx.ownBlock = some i ∨ y3.heap.size ≤ i) := Lib.hid fun v w h => by
                subst hP8
                exact h
              have HRest : Hid (∀ w1 x, Turn g y3 w1 → PhR A8 B8 1 w1 → P8 x w1 → RdAt W (w1.setCell ⟨g, 3, none⟩ x) g (k - K) (fun i => S (K + i)) (m - a - b) (fun i => F (o + a + b + i)) pl (L ++ U1 ++ U2 ++ [B]) ∧ Turn g y3 (w1.setCell ⟨g, 3, none⟩ x)) := Lib.hid fun w1 x t h hp => by
                obtain ⟨h1, _, h3⟩ := HAr.out _ _ h
                obtain ⟨q1, q2, q3⟩ := HPr.out _ _ hp
                have hr' : Rowz (w1.setCell ⟨g, 3, none⟩ x) g (rdC p1x (k - K) c1x qx (m - a - b) dx pl x) 71 := h1.set 3 x
                exact ⟨⟨⟨p1x, c1x, qx, dx, x, hr', hcx, hSx, hFx, q1.setCellNe _ q2 _, q2⟩, hbx, h3.setCell hbx _⟩, Turn.store3 t (upOf_row hrx) q3 hr'⟩
              obtain ⟨qv, nv, cv, hvv⟩ : ∃ q n c, vx = .slice q n c := ⟨_, _, _, (hpx.slice).choose_spec.choose_spec⟩
              have HLd : Hid (∀ w1, Rowz w1 g (rdC p1x (k - K) c1x qx (m - a - b) dx pl vx) 71 → (Instr.loadAt 26 (.pointer (some ⟨g, 3, none⟩))).run Tryd.prog w1 = .ok vx w1) := Lib.hid fun w1 h => by
                have c3 := h.cell 3
                subst hvv
                exact run_loadHsR c3
              clear hvv hA8 hB8 hP8 hrx hcx hSx hFx hpx hvx hbx hkx
              refine wp_region_phase hREL HP0 8 [] [7] [45] [(38, .is (.pointer (some ⟨g, 0, none⟩))), (39, .is (.pointer (some ⟨g, 0, none⟩))), (40, .is (.pointer (some ⟨g, 0, none⟩))), (41, .is (.pointer (some ⟨g, 3, none⟩))), (42, .is (vx)), (43, .is (.agg (bC 32 B))), (44, .row (sliceAt0 1) (bC 32 B) 38), (45, .own P8 S8)] (by kernel_rfl) (by kernel_rfl) (by kernel_rfl) (by kernel_rfl) (by kernel_rfl) (by kernel_rfl) ?_ ?_
              · refine ⟨fun t w1 ph hf hk hph hp => ?_, ?_⟩
                · have h0 : slot t 0 = .pointer (some ⟨g, 0, none⟩) := hf 0 (by kernel_rfl)
                  clear hf hp
                  refine stepPh_no (by kernel_rfl) ?_
                  refine stepM_at (by kernel_rfl) ?_
                  refine stepAt_plain rfl ?_
                  exact stepOK_move _ (.inl rfl) h0
                refine ⟨fun t w1 ph hf hk hph hp => ?_, ?_⟩
                · have h0 : slot t 0 = .pointer (some ⟨g, 0, none⟩) := hf 0 (by kernel_rfl)
                  clear hf hp
                  refine stepPh_no (by kernel_rfl) ?_
                  refine stepM_at (by kernel_rfl) ?_
                  refine stepAt_plain rfl ?_
                  exact stepOK_move _ (.inl rfl) h0
                refine ⟨fun t w1 ph hf hk hph hp => ?_, ?_⟩
                · have h39 : slot t 39 = .pointer (some ⟨g, 0, none⟩) := hp 39 (by kernel_rfl)
                  clear hf hp
                  refine stepPh_no (by kernel_rfl) ?_
                  refine stepM_at (by kernel_rfl) ?_
                  refine stepAt_plain rfl ?_
                  exact stepOK_pure (.pointer (some ⟨g, 0, none⟩)) (execNilR ⟨g, 0, none⟩ w1 rfl h39) rfl
                refine ⟨fun t w1 ph hf hk hph hp => ?_, ?_⟩
                · have h40 : slot t 40 = .pointer (some ⟨g, 0, none⟩) := hp 40 (by kernel_rfl)
                  clear hf hp
                  refine stepPh_no (by kernel_rfl) ?_
                  refine stepM_at (by kernel_rfl) ?_
                  refine stepAt_plain rfl ?_
                  exact stepOK_pure (.pointer (some ⟨g, 3, none⟩)) (execFieldRd g 3 (by omega) w1 rfl h40) rfl
                refine ⟨fun t w1 ph hf hk hph hp => ?_, ?_⟩
                · have h41 : slot t 41 = .pointer (some ⟨g, 3, none⟩) := hp 41 (by kernel_rfl)
                  clear hf hp
                  refine stepPh_no (by kernel_rfl) ?_
                  refine stepM_at (by kernel_rfl) ?_
                  refine stepAt_plain rfl ?_
                  exact stepOK_pure (vx) (execLoadR _ _ rfl h41 (HLd.out w1 (HAr.out _ _ hph).1)) rfl
                refine ⟨fun t w1 ph hf hk hph hp => ?_, ?_⟩
                · have h8 : slot t 8 = .pointer (some ⟨g8, 0, none⟩) := hf 8 (by kernel_rfl)
                  clear hf hp
                  refine stepPh_no (by kernel_rfl) ?_
                  refine stepM_at (by kernel_rfl) ?_
                  refine stepAt_plain rfl ?_
                  exact stepOK_pure (.agg (bC 32 B)) (loadHr rfl h8 (HAr.out _ _ hph).2.1.1) rfl
                refine ⟨fun t w1 ph hf hk hph hp => ?_, ?_⟩
                · have h43 : slot t 43 = .agg (bC 32 B) := hp 43 (by kernel_rfl)
                  clear hf hp
                  refine stepPh_no (by kernel_rfl) ?_
                  refine stepM_at (by kernel_rfl) ?_
                  refine stepAt_plain rfl ?_
                  exact .value ((sliceAt0 1) w1.heap.size) (w1.alloc (.cells (bC 32 B) 38)) (execBuild1 rfl h43 (run_build1h B w1)) ((Kept.refl w1).alloc _) ⟨_, rfl, Rowz.new w1 _ _, hREL.new hph ((Kept.refl w1).alloc _) (Nat.le_refl _)⟩
                refine ⟨fun t w1 ph hf hk hph hp => ?_, ?_⟩
                · have h42 : slot t 42 = vx := hp 42 (by kernel_rfl)
                  obtain ⟨g44, h44, r44, f44⟩ : ∃ gx, slot t 44 = (sliceAt0 1) gx ∧ Rowz w1 gx (bC 32 B) 38 ∧ (FreeOf g) gx w1 := hp 44 (by kernel_rfl)
                  simp only [sliceAt0] at h44
                  clear hf hp
                  refine stepPh_eff 0 (by kernel_rfl) (fun hj => ?_)
                  subst hj
                  exact stepEff_val rfl (by obtain ⟨v', w', e1, e2, e3, e4⟩ := HApp.out w1 g44 hph hk r44 _; exact ⟨v', w', execAppendH rfl h42 h44 e1, e2, e3, e4⟩)
                exact trivial
              · intro t w1 hsz hf hk hph hfacts hmd hap
                obtain ⟨v45, h45, p45⟩ : ∃ v, slot t 45 = v ∧ P8 v w1 := ⟨_, rfl, hfacts 7 _ (by decide) rfl 45 rfl⟩
                have h38 : slot t 38 = .pointer (some ⟨g, 0, none⟩) := hfacts 0 _ (by decide) rfl 38 rfl
                have h0 : slot t 0 = .pointer (some ⟨g, 0, none⟩) := hf 0 (by kernel_rfl)
                have h4 : slot t 4 = .pointer (some ⟨g4, 0, none⟩) := hf 4 (by kernel_rfl)
                have h5 : slot t 5 = .pointer (some ⟨g5, 0, none⟩) := hf 5 (by kernel_rfl)
                have h6 : slot t 6 = .pointer (some ⟨g5 + 1, 0, none⟩) := hf 6 (by kernel_rfl)
                have h7 : slot t 7 = .pointer (some ⟨g7, 0, none⟩) := hf 7 (by kernel_rfl)
                have h8 : slot t 8 = .pointer (some ⟨g8, 0, none⟩) := hf 8 (by kernel_rfl)
                have harr : t = #[slot t 0, slot t 1, slot t 2, slot t 3, slot t 4, slot t 5, slot t 6, slot t 7, slot t 8, slot t 9, slot t 10, slot t 11, slot t 12, slot t 13, slot t 14, slot t 15, slot t 16, slot t 17, slot t 18, slot t 19, slot t 20, slot t 21, slot t 22, slot t 23, slot t 24, slot t 25, slot t 26, slot t 27, slot t 28, slot t 29, slot t 30, slot t 31, slot t 32, slot t 33, slot t 34, slot t 35, slot t 36, slot t 37, slot t 38, slot t 39, slot t 40, slot t 41, slot t 42, slot t 43, slot t 44, slot t 45, slot t 46, slot t 47, slot t 48, slot t 49, slot t 50, slot t 51, slot t 52, slot t 53, slot t 54, slot t 55, slot t 56, slot t 57, slot t 58, slot t 59, slot t 60, slot t 61, slot t 62, slot t 63, slot t 64, slot t 65, slot t 66, slot t 67] := arr_eq t 68 hsz
                rw [harr, h45, h38, h0, h4, h5, h6, h7, h8]
                clear harr hfacts hf hmd hap h45 h38 h0 h4 h5 h6 h7 h8
                generalize slot t 1 = x1; generalize slot t 2 = x2; generalize slot t 3 = x3; generalize slot t 9 = x9; generalize slot t 10 = x10; generalize slot t 11 = x11; generalize slot t 12 = x12; generalize slot t 13 = x13; generalize slot t 14 = x14; generalize slot t 15 = x15; generalize slot t 16 = x16; generalize slot t 17 = x17
                generalize slot t 18 = x18; generalize slot t 19 = x19; generalize slot t 20 = x20; generalize slot t 21 = x21; generalize slot t 22 = x22; generalize slot t 23 = x23; generalize slot t 24 = x24; generalize slot t 25 = x25; generalize slot t 26 = x26; generalize slot t 27 = x27; generalize slot t 28 = x28; generalize slot t 29 = x29
                generalize slot t 30 = x30; generalize slot t 31 = x31; generalize slot t 32 = x32; generalize slot t 33 = x33; generalize slot t 34 = x34; generalize slot t 35 = x35; generalize slot t 36 = x36; generalize slot t 37 = x37; generalize slot t 39 = x39; generalize slot t 40 = x40; generalize slot t 41 = x41; generalize slot t 42 = x42
                generalize slot t 43 = x43; generalize slot t 44 = x44; generalize slot t 46 = x46; generalize slot t 47 = x47; generalize slot t 48 = x48; generalize slot t 49 = x49; generalize slot t 50 = x50; generalize slot t 51 = x51; generalize slot t 52 = x52; generalize slot t 53 = x53; generalize slot t 54 = x54; generalize slot t 55 = x55
                generalize slot t 56 = x56; generalize slot t 57 = x57; generalize slot t 58 = x58; generalize slot t 59 = x59; generalize slot t 60 = x60; generalize slot t 61 = x61; generalize slot t 62 = x62; generalize slot t 63 = x63; generalize slot t 64 = x64; generalize slot t 65 = x65; generalize slot t 66 = x66; generalize slot t 67 = x67
                clear hsz t
                simp only [List.drop_succ_cons, List.drop_zero]
                obtain ⟨hRD, hTN⟩ := HRest.out w1 v45 hk hph p45
                obtain ⟨hrow, _, _⟩ := HAr.out _ _ hph
                obtain ⟨qy, ny, cy, hvy⟩ : ∃ q n c, v45 = .slice q n c := ⟨_, _, _, ((HPr.out _ _ p45).1.slice).choose_spec.choose_spec⟩
                subst hvy
                have f3 := hrow.free 3
                have c3 := hrow.cell 3
                have RDa := Lib.hid hRD
                have TNa := Lib.hid (TN8.out.trans hTN)
                have Ma4 := Lib.hid (M4.out.turn hTN)
                have Ma7 := Lib.hid (M7.out.turn hTN)
                have Ma8 := Lib.hid (M8.out.turn hTN)
                clear hk hph hREL HP0 HApp HAr HPr HRest p45 hRD hTN hrow RD8 TN8 M4 M5 M6 M7 M8 S8
                go_wp2_with (refine park_at 65 rfl ?_)
                generalize w1.setCell ⟨g, 3, none⟩ (.slice qy ny cy) = y9 at RDa TNa Ma4 Ma7 Ma8 ⊢
                clear f3 c3
                refine unpark ?_
                refine wpList_exec 65 rfl (by rfl) (.agg (bC 32 A)) _ (loadHr rfl rfl Ma7.out.1) ?_
                refine wpList_exec 66 rfl (by rfl) (.agg (bC 32 B)) _ (loadHr rfl rfl Ma8.out.1) ?_
                go_wp2_with fail
                refine (HN.out y9 RDa.out.kept).mono ?_
                rintro e z2 ⟨rfl, kz⟩
                have RDf := Lib.hid (RDa.out.keptTo kz)
                have TNf := Lib.hid (TNa.out.trans (Turn.ofKept kz))
                have Mf4 := Lib.hid (Ma4.out.kept kz)
                clear kz
                go_wp2_with (refine wpList_store_row rfl 38 _ _ rfl g4 (bC 32 AB) rfl rfl 38 (bC 32 []) Mf4.out.1 (info_hash _) (by simp [bC_size]) (bC_one _ _) ?_)
                refine bodyPost_ret (v := .agg (bC 32 AB)) (results_rowP Tryd.results36 _ _ g4 38 _ _ rfl Mf4.out.1.row Tryd.underlying38 rfl (info_hash _)) rfl ?_
                have hg4 := HG4.out
                have hWw := HRD.out.kept.size
                rw [← HUU.out]
                exact ⟨rfl, RDf.out.setRow Mf4.out.2 (by omega) _, TNf.out.setRow (by omega) _⟩
          · have HhL : Hid (∀ w, Calls Tryd.prog 55 #[.agg (paC f l p k1 c), .int .i64 pl] w fun e w' => e = .returned (.bool false) ∧ Kept w w') := Lib.hid fun w => by
              have := HhL.out w
              rwa [decide_eq_false hinL] at this
            by_cases hinR : ((f + l : Nat) : Int) ≤ pl ∧ pl < ((f + l + (n - l) : Nat) : Int)
            · obtain ⟨hU, hlen⟩ := HUR.out hinR
              have HUU : Hid (L ++ U1 ++ U2 ++ [A] = L ++ UU) := Lib.hid (by rw [hU]; simp only [List.append_assoc])
              have HLen := Lib.hid hlen
              have HhR : Hid (∀ w, Calls Tryd.prog 55 #[.agg (paC ((f + l : Nat) : Int) ((n - l : Nat) : Int) p' (K - k1) (c - k1)), .int .i64 pl] w fun e w' => e = .returned (.bool true) ∧ Kept w w') := Lib.hid fun w => by
                have := HhR.out w
                rwa [decide_eq_true hinR] at this
              clear HUL HUR HUN hU hlen hinR hinL
              obtain ⟨p1x, c1x, qx, dx, vx, hrx, _⟩ := RD8.out.ex
              have HRX := Lib.hid hrx
              clear hrx
              refine wp_region_table [(32, .is (.agg (paC f l p k1 c))), (33, .is (.pointer (some ⟨g, 0, none⟩))), (34, .is (.pointer (some ⟨g, 0, none⟩))), (35, .is (.pointer (some ⟨g, 2, none⟩))), (36, .is (.int .i64 pl)), (37, .is (.bool false)), (31, .is (.bool false))] (by kernel_rfl) (by kernel_rfl) ?_ ?_
              · refine ⟨fun t w1 hf hk hp => ?_, ?_⟩
                · have h5 : slot t 5 = .pointer (some ⟨g5, 0, none⟩) := hf 5 (by kernel_rfl)
                  clear hf hp
                  refine stepAt_plain rfl ?_
                  exact stepOK_pure (.agg (paC f l p k1 c)) (execLoadP rfl h5 (M5.out.1.kept hk)) rfl
                refine ⟨fun t w1 hf hk hp => ?_, ?_⟩
                · have h0 : slot t 0 = .pointer (some ⟨g, 0, none⟩) := hf 0 (by kernel_rfl)
                  clear hf hp
                  refine stepAt_plain rfl ?_
                  exact stepOK_move _ (.inl rfl) h0
                refine ⟨fun t w1 hf hk hp => ?_, ?_⟩
                · have h33 : slot t 33 = .pointer (some ⟨g, 0, none⟩) := hp 33 (by kernel_rfl)
                  clear hf hp
                  refine stepAt_plain rfl ?_
                  exact stepOK_pure (.pointer (some ⟨g, 0, none⟩)) (execNilR ⟨g, 0, none⟩ w1 rfl h33) rfl
                refine ⟨fun t w1 hf hk hp => ?_, ?_⟩
                · have h34 : slot t 34 = .pointer (some ⟨g, 0, none⟩) := hp 34 (by kernel_rfl)
                  clear hf hp
                  refine stepAt_plain rfl ?_
                  exact stepOK_pure (.pointer (some ⟨g, 2, none⟩)) (execFieldRd g 2 (by omega) w1 rfl h34) rfl
                refine ⟨fun t w1 hf hk hp => ?_, ?_⟩
                · have h35 : slot t 35 = .pointer (some ⟨g, 2, none⟩) := hp 35 (by kernel_rfl)
                  clear hf hp
                  refine stepAt_plain rfl ?_
                  exact stepOK_pure (.int .i64 pl) (execLoadR _ _ rfl h35 (run_loadIP ((HRX.out.kept hk).cell 2))) rfl
                refine ⟨fun t w1 hf hk hp => ?_, ?_⟩
                · have h32 : slot t 32 = .agg (paC f l p k1 c) := hp 32 (by kernel_rfl)
                  have h36 : slot t 36 = .int .i64 pl := hp 36 (by kernel_rfl)
                  clear hf hp
                  refine stepAt_plain rfl ?_
                  refine stepOK_call #[.agg (paC f l p k1 c), .int .i64 pl] rfl (by simp only [List.map_toArray, List.map_cons, List.map_nil, evS, h32, h36]) (by go_simp) ((HhL.out w1).mono fun e w' ⟨he, hk'⟩ => ⟨_, he, hk', rfl⟩)
                refine ⟨fun t w1 hf hk hp => ?_, ?_⟩
                · have h37 : slot t 37 = .bool false := hp 37 (by kernel_rfl)
                  clear hf hp
                  refine stepAt_plain rfl ?_
                  exact stepOK_move _ (.inr rfl) h37
                exact trivial
              · intro t w1 hsz hf hk hfacts
                have h31 : slot t 31 = .bool false := hfacts 6 _ rfl 31 rfl
                have h0 : slot t 0 = .pointer (some ⟨g, 0, none⟩) := hf 0 (by kernel_rfl)
                have h4 : slot t 4 = .pointer (some ⟨g4, 0, none⟩) := hf 4 (by kernel_rfl)
                have h5 : slot t 5 = .pointer (some ⟨g5, 0, none⟩) := hf 5 (by kernel_rfl)
                have h6 : slot t 6 = .pointer (some ⟨g5 + 1, 0, none⟩) := hf 6 (by kernel_rfl)
                have h7 : slot t 7 = .pointer (some ⟨g7, 0, none⟩) := hf 7 (by kernel_rfl)
                have h8 : slot t 8 = .pointer (some ⟨g8, 0, none⟩) := hf 8 (by kernel_rfl)
                have harr : t = #[slot t 0, slot t 1, slot t 2, slot t 3, slot t 4, slot t 5, slot t 6, slot t 7, slot t 8, slot t 9, slot t 10, slot t 11, slot t 12, slot t 13, slot t 14, slot t 15, slot t 16, slot t 17, slot t 18, slot t 19, slot t 20, slot t 21, slot t 22, slot t 23, slot t 24, slot t 25, slot t 26, slot t 27, slot t 28, slot t 29, slot t 30, slot t 31, slot t 32, slot t 33, slot t 34, slot t 35, slot t 36, slot t 37, slot t 38, slot t 39, slot t 40, slot t 41, slot t 42, slot t 43, slot t 44, slot t 45, slot t 46, slot t 47, slot t 48, slot t 49, slot t 50, slot t 51, slot t 52, slot t 53, slot t 54, slot t 55, slot t 56, slot t 57, slot t 58, slot t 59, slot t 60, slot t 61, slot t 62, slot t 63, slot t 64, slot t 65, slot t 66, slot t 67] := arr_eq t 68 hsz
                rw [harr, h31, h0, h4, h5, h6, h7, h8]
                clear harr hfacts hf h31 h0 h4 h5 h6 h7 h8
                generalize slot t 1 = x1; generalize slot t 2 = x2; generalize slot t 3 = x3; generalize slot t 9 = x9; generalize slot t 10 = x10; generalize slot t 11 = x11; generalize slot t 12 = x12; generalize slot t 13 = x13; generalize slot t 14 = x14; generalize slot t 15 = x15; generalize slot t 16 = x16; generalize slot t 17 = x17
                generalize slot t 18 = x18; generalize slot t 19 = x19; generalize slot t 20 = x20; generalize slot t 21 = x21; generalize slot t 22 = x22; generalize slot t 23 = x23; generalize slot t 24 = x24; generalize slot t 25 = x25; generalize slot t 26 = x26; generalize slot t 27 = x27; generalize slot t 28 = x28; generalize slot t 29 = x29
                generalize slot t 30 = x30; generalize slot t 32 = x32; generalize slot t 33 = x33; generalize slot t 34 = x34; generalize slot t 35 = x35; generalize slot t 36 = x36; generalize slot t 37 = x37; generalize slot t 38 = x38; generalize slot t 39 = x39; generalize slot t 40 = x40; generalize slot t 41 = x41; generalize slot t 42 = x42
                generalize slot t 43 = x43; generalize slot t 44 = x44; generalize slot t 45 = x45; generalize slot t 46 = x46; generalize slot t 47 = x47; generalize slot t 48 = x48; generalize slot t 49 = x49; generalize slot t 50 = x50; generalize slot t 51 = x51; generalize slot t 52 = x52; generalize slot t 53 = x53; generalize slot t 54 = x54
                generalize slot t 55 = x55; generalize slot t 56 = x56; generalize slot t 57 = x57; generalize slot t 58 = x58; generalize slot t 59 = x59; generalize slot t 60 = x60; generalize slot t 61 = x61; generalize slot t 62 = x62; generalize slot t 63 = x63; generalize slot t 64 = x64; generalize slot t 65 = x65; generalize slot t 66 = x66
                generalize slot t 67 = x67
                clear hsz t
                replace RD8 := Lib.hid (RD8.out.keptTo hk)
                replace TN8 := Lib.hid (TN8.out.trans (Turn.ofKept hk))
                replace M4 := Lib.hid (M4.out.kept hk)
                replace M5 := Lib.hid (M5.out.kept hk)
                replace M6 := Lib.hid (M6.out.kept hk)
                replace M7 := Lib.hid (M7.out.kept hk)
                replace M8 := Lib.hid (M8.out.kept hk)
                clear hk HRX HhL
                obtain ⟨y3, hy3⟩ : ∃ y, y = w1 := ⟨_, rfl⟩
                subst hy3
                go_wp2_with fail
                obtain ⟨p1x, c1x, qx, dx, vx, hrx, _⟩ := RD8.out.ex
                have HRX := Lib.hid hrx
                clear hrx
                refine wp_region_table [(49, .is (.agg (paC ((f + l : Nat) : Int) ((n - l : Nat) : Int) p' (K - k1) (c - k1)))), (50, .is (.pointer (some ⟨g, 0, none⟩))), (51, .is (.pointer (some ⟨g, 0, none⟩))), (52, .is (.pointer (some ⟨g, 2, none⟩))), (53, .is (.int .i64 pl)), (54, .is (.bool true)), (48, .is (.bool true))] (by kernel_rfl) (by kernel_rfl) ?_ ?_
                · refine ⟨fun t w1 hf hk hp => ?_, ?_⟩
                  · have h6 : slot t 6 = .pointer (some ⟨g5 + 1, 0, none⟩) := hf 6 (by kernel_rfl)
                    clear hf hp
                    refine stepAt_plain rfl ?_
                    exact stepOK_pure (.agg (paC ((f + l : Nat) : Int) ((n - l : Nat) : Int) p' (K - k1) (c - k1))) (execLoadP rfl h6 (M6.out.1.kept hk)) rfl
                  refine ⟨fun t w1 hf hk hp => ?_, ?_⟩
                  · have h0 : slot t 0 = .pointer (some ⟨g, 0, none⟩) := hf 0 (by kernel_rfl)
                    clear hf hp
                    refine stepAt_plain rfl ?_
                    exact stepOK_move _ (.inl rfl) h0
                  refine ⟨fun t w1 hf hk hp => ?_, ?_⟩
                  · have h50 : slot t 50 = .pointer (some ⟨g, 0, none⟩) := hp 50 (by kernel_rfl)
                    clear hf hp
                    refine stepAt_plain rfl ?_
                    exact stepOK_pure (.pointer (some ⟨g, 0, none⟩)) (execNilR ⟨g, 0, none⟩ w1 rfl h50) rfl
                  refine ⟨fun t w1 hf hk hp => ?_, ?_⟩
                  · have h51 : slot t 51 = .pointer (some ⟨g, 0, none⟩) := hp 51 (by kernel_rfl)
                    clear hf hp
                    refine stepAt_plain rfl ?_
                    exact stepOK_pure (.pointer (some ⟨g, 2, none⟩)) (execFieldRd g 2 (by omega) w1 rfl h51) rfl
                  refine ⟨fun t w1 hf hk hp => ?_, ?_⟩
                  · have h52 : slot t 52 = .pointer (some ⟨g, 2, none⟩) := hp 52 (by kernel_rfl)
                    clear hf hp
                    refine stepAt_plain rfl ?_
                    exact stepOK_pure (.int .i64 pl) (execLoadR _ _ rfl h52 (run_loadIP ((HRX.out.kept hk).cell 2))) rfl
                  refine ⟨fun t w1 hf hk hp => ?_, ?_⟩
                  · have h49 : slot t 49 = .agg (paC ((f + l : Nat) : Int) ((n - l : Nat) : Int) p' (K - k1) (c - k1)) := hp 49 (by kernel_rfl)
                    have h53 : slot t 53 = .int .i64 pl := hp 53 (by kernel_rfl)
                    clear hf hp
                    refine stepAt_plain rfl ?_
                    refine stepOK_call #[.agg (paC ((f + l : Nat) : Int) ((n - l : Nat) : Int) p' (K - k1) (c - k1)), .int .i64 pl] rfl (by simp only [List.map_toArray, List.map_cons, List.map_nil, evS, h49, h53]) (by go_simp) ((HhR.out w1).mono fun e w' ⟨he, hk'⟩ => ⟨_, he, hk', rfl⟩)
                  refine ⟨fun t w1 hf hk hp => ?_, ?_⟩
                  · have h54 : slot t 54 = .bool true := hp 54 (by kernel_rfl)
                    clear hf hp
                    refine stepAt_plain rfl ?_
                    exact stepOK_move _ (.inr rfl) h54
                  exact trivial
                · intro t w1 hsz hf hk hfacts
                  have h48 : slot t 48 = .bool true := hfacts 6 _ rfl 48 rfl
                  have h0 : slot t 0 = .pointer (some ⟨g, 0, none⟩) := hf 0 (by kernel_rfl)
                  have h4 : slot t 4 = .pointer (some ⟨g4, 0, none⟩) := hf 4 (by kernel_rfl)
                  have h5 : slot t 5 = .pointer (some ⟨g5, 0, none⟩) := hf 5 (by kernel_rfl)
                  have h6 : slot t 6 = .pointer (some ⟨g5 + 1, 0, none⟩) := hf 6 (by kernel_rfl)
                  have h7 : slot t 7 = .pointer (some ⟨g7, 0, none⟩) := hf 7 (by kernel_rfl)
                  have h8 : slot t 8 = .pointer (some ⟨g8, 0, none⟩) := hf 8 (by kernel_rfl)
                  have harr : t = #[slot t 0, slot t 1, slot t 2, slot t 3, slot t 4, slot t 5, slot t 6, slot t 7, slot t 8, slot t 9, slot t 10, slot t 11, slot t 12, slot t 13, slot t 14, slot t 15, slot t 16, slot t 17, slot t 18, slot t 19, slot t 20, slot t 21, slot t 22, slot t 23, slot t 24, slot t 25, slot t 26, slot t 27, slot t 28, slot t 29, slot t 30, slot t 31, slot t 32, slot t 33, slot t 34, slot t 35, slot t 36, slot t 37, slot t 38, slot t 39, slot t 40, slot t 41, slot t 42, slot t 43, slot t 44, slot t 45, slot t 46, slot t 47, slot t 48, slot t 49, slot t 50, slot t 51, slot t 52, slot t 53, slot t 54, slot t 55, slot t 56, slot t 57, slot t 58, slot t 59, slot t 60, slot t 61, slot t 62, slot t 63, slot t 64, slot t 65, slot t 66, slot t 67] := arr_eq t 68 hsz
                  rw [harr, h48, h0, h4, h5, h6, h7, h8]
                  clear harr hfacts hf h48 h0 h4 h5 h6 h7 h8
                  generalize slot t 1 = x1; generalize slot t 2 = x2; generalize slot t 3 = x3; generalize slot t 9 = x9; generalize slot t 10 = x10; generalize slot t 11 = x11; generalize slot t 12 = x12; generalize slot t 13 = x13; generalize slot t 14 = x14; generalize slot t 15 = x15; generalize slot t 16 = x16; generalize slot t 17 = x17
                  generalize slot t 18 = x18; generalize slot t 19 = x19; generalize slot t 20 = x20; generalize slot t 21 = x21; generalize slot t 22 = x22; generalize slot t 23 = x23; generalize slot t 24 = x24; generalize slot t 25 = x25; generalize slot t 26 = x26; generalize slot t 27 = x27; generalize slot t 28 = x28; generalize slot t 29 = x29
                  generalize slot t 30 = x30; generalize slot t 31 = x31; generalize slot t 32 = x32; generalize slot t 33 = x33; generalize slot t 34 = x34; generalize slot t 35 = x35; generalize slot t 36 = x36; generalize slot t 37 = x37; generalize slot t 38 = x38; generalize slot t 39 = x39; generalize slot t 40 = x40; generalize slot t 41 = x41
                  generalize slot t 42 = x42; generalize slot t 43 = x43; generalize slot t 44 = x44; generalize slot t 45 = x45; generalize slot t 46 = x46; generalize slot t 47 = x47; generalize slot t 49 = x49; generalize slot t 50 = x50; generalize slot t 51 = x51; generalize slot t 52 = x52; generalize slot t 53 = x53; generalize slot t 54 = x54
                  generalize slot t 55 = x55; generalize slot t 56 = x56; generalize slot t 57 = x57; generalize slot t 58 = x58; generalize slot t 59 = x59; generalize slot t 60 = x60; generalize slot t 61 = x61; generalize slot t 62 = x62; generalize slot t 63 = x63; generalize slot t 64 = x64; generalize slot t 65 = x65; generalize slot t 66 = x66
                  generalize slot t 67 = x67
                  clear hsz t
                  replace RD8 := Lib.hid (RD8.out.keptTo hk)
                  replace TN8 := Lib.hid (TN8.out.trans (Turn.ofKept hk))
                  replace M4 := Lib.hid (M4.out.kept hk)
                  replace M5 := Lib.hid (M5.out.kept hk)
                  replace M6 := Lib.hid (M6.out.kept hk)
                  replace M7 := Lib.hid (M7.out.kept hk)
                  replace M8 := Lib.hid (M8.out.kept hk)
                  clear hk HRX HhR
                  obtain ⟨y4, hy4⟩ : ∃ y, y = w1 := ⟨_, rfl⟩
                  subst hy4
                  go_wp2_with fail
                  obtain ⟨p1x, c1x, qx, dx, vx, hrx, hcx, hSx, hFx, hpx, hvx⟩ := RD8.out.ex
                  have hbx := RD8.out.base
                  have hkx := RD8.out.kept
                  obtain ⟨A8, hA8⟩ : ∃ A8 : Nat → World → Prop, A8 = fun j w => Rowz w g (rdC p1x (k - K) c1x qx (m - a - b) dx pl vx) 71 ∧ Kept W w ∧ (∀ i, vx.ownBlock = some i → i < w.heap.size) ∧ (j = 0 → PaS W.heap.size (L ++ U1 ++ U2) vx w) := ⟨_, rfl⟩
                  obtain ⟨B8, hB8⟩ : ∃ B8 : World → Prop, B8 = fun w => KeepRow g g7 (bC 32 A) 38 w := ⟨_, rfl⟩
                  obtain ⟨P8, hP8⟩ : ∃ P8 : Value → World → Prop, P8 = fun x w => PaS W.heap.size (L ++ U1 ++ U2 ++ [A]) x w ∧ x.ownBlock ≠ some g ∧ ∀ i, x.ownBlock = some i → vx.ownBlock = some i ∨ y4.heap.size ≤ i := ⟨_, rfl⟩
                  have S8 : ∀ v w w', Kept w w' → P8 v w → P8 v w' := by
                    subst hP8
                    exact fun v w w' hk h => ⟨PaS.kept _ _ _ _ _ hk h.1, h.2⟩
                  have hREL : RelFr (Turn g) (PhR A8 B8) (FreeOf g) := by
                    subst hA8 hB8
                    refine relFr_turn (fun j w h => ⟨h.1.lt, fun i hi => ?_⟩) (fun j x z h hk => ⟨h.1.kept hk, h.2.1.trans hk, fun i hi => Nat.lt_of_lt_of_le (h.2.2.1 i hi) hk.size, fun hj => PaS.kept _ _ _ _ _ hk (h.2.2.2 hj)⟩) (fun x z h hk => h.kept hk)
                    rw [upOf_row h.1] at hi
                    exact h.2.2.1 i hi
                  have HP0 : PhR A8 B8 0 y4.drew := by
                    subst hA8 hB8
                    exact ⟨⟨hrx, hkx, fun i hi => (World.ownsRow.lt hpx i hi).2, fun _ => hpx⟩, M7.out⟩
                  have HApp : Hid (∀ (w1 : World) (gb : Nat), PhR A8 B8 0 w1 → Turn g y4 w1 → Rowz w1 gb (bC 32 A) 38 → ∀ ty, ∃ v' w', (Builtin.append_ #[26, 26] ty #[vx, .slice (some ⟨gb, 0, none⟩) 1 1]).run Tryd.prog w1 = .ok v' w' ∧ Turn g w1 w' ∧ P8 v' w' ∧ PhR A8 B8 1 w') := Lib.hid fun w1 gb h t hr ty => by
                    subst hA8 hB8 hP8
                    obtain ⟨⟨h1, h2, h3, h4⟩, h5⟩ := h
                    obtain ⟨v', w', e1, e2, e3, e4⟩ := run_append_pathU w1 ty W.heap.size h2.size vx (L ++ U1 ++ U2) (h4 rfl) A gb _ hr HLen.out
                    have hg' : Rowz w' g (rdC p1x (k - K) c1x qx (m - a - b) dx pl vx) 71 := (e3.block g h1.lt (fun e => hvx e.symm)).trans h1
                    have tw : Turn g w1 w' := ⟨e3.os, e3.output, e3.size, fun _ => ⟨fun i hi hn hu => e3.block i hi (fun e => hu (by rw [upOf_row h1]; exact e.symm)), fun i hi => .inl (by rw [upOf_row hg'] at hi; rw [upOf_row h1]; exact hi)⟩⟩
                    refine ⟨v', w', e1, tw, ⟨e2, fun e => ?_, fun i hi => ?_⟩, ⟨hg', tw.keptOf h2 hbx h1.lt (fun i hi => by rw [upOf_row h1] at hi; exact (World.ownsRow.lt (h4 rfl) i hi).1), fun i hi => Nat.lt_of_lt_of_le (h3 i hi) e3.size, fun hj => absurd hj (by decide)⟩, h5.turn tw⟩
                    · rcases e4 g e with h | h
                      · exact hvx h
                      · have := h1.lt; omega
                    · rcases e4 i hi with h | h
                      · exact .inl h
                      · exact .inr (Nat.le_trans t.size h)
                  have HAr : Hid (∀ j w, PhR A8 B8 j w → Rowz w g (rdC p1x (k - K) c1x qx (m - a - b) dx pl vx) 71 ∧ KeepRow g g7 (bC 32 A) 38 w ∧ Kept W w) := Lib.hid fun j w h => by
                    subst hA8 hB8
                    exact ⟨h.1.1, h.2, h.1.2.1⟩
                  have HPr : Hid (∀ v w, P8 v w → PaS W.heap.size (L ++ U1 ++ U2 ++ [A]) v w ∧ v.ownBlock ≠ some g ∧ ∀ i, v.ownBlock = some i → vx.ownBlock = some i ∨ y4.heap.size ≤ i) := Lib.hid fun v w h => by
                    subst hP8
                    exact h
                  have HRest : Hid (∀ w1 x, Turn g y4 w1 → PhR A8 B8 1 w1 → P8 x w1 → RdAt W (w1.setCell ⟨g, 3, none⟩ x) g (k - K) (fun i => S (K + i)) (m - a - b) (fun i => F (o + a + b + i)) pl (L ++ U1 ++ U2 ++ [A]) ∧ Turn g y4 (w1.setCell ⟨g, 3, none⟩ x)) := Lib.hid fun w1 x t h hp => by
                    obtain ⟨h1, _, h3⟩ := HAr.out _ _ h
                    obtain ⟨q1, q2, q3⟩ := HPr.out _ _ hp
                    have hr' : Rowz (w1.setCell ⟨g, 3, none⟩ x) g (rdC p1x (k - K) c1x qx (m - a - b) dx pl x) 71 := h1.set 3 x
                    exact ⟨⟨⟨p1x, c1x, qx, dx, x, hr', hcx, hSx, hFx, q1.setCellNe _ q2 _, q2⟩, hbx, h3.setCell hbx _⟩, Turn.store3 t (upOf_row hrx) q3 hr'⟩
                  obtain ⟨qv, nv, cv, hvv⟩ : ∃ q n c, vx = .slice q n c := ⟨_, _, _, (hpx.slice).choose_spec.choose_spec⟩
                  have HLd : Hid (∀ w1, Rowz w1 g (rdC p1x (k - K) c1x qx (m - a - b) dx pl vx) 71 → (Instr.loadAt 26 (.pointer (some ⟨g, 3, none⟩))).run Tryd.prog w1 = .ok vx w1) := Lib.hid fun w1 h => by
                    have c3 := h.cell 3
                    subst hvv
                    exact run_loadHsR c3
                  clear hvv hA8 hB8 hP8 hrx hcx hSx hFx hpx hvx hbx hkx
                  refine wp_region_phase hREL HP0 8 [] [7] [62] [(55, .is (.pointer (some ⟨g, 0, none⟩))), (56, .is (.pointer (some ⟨g, 0, none⟩))), (57, .is (.pointer (some ⟨g, 0, none⟩))), (58, .is (.pointer (some ⟨g, 3, none⟩))), (59, .is (vx)), (60, .is (.agg (bC 32 A))), (61, .row (sliceAt0 1) (bC 32 A) 38), (62, .own P8 S8)] (by kernel_rfl) (by kernel_rfl) (by kernel_rfl) (by kernel_rfl) (by kernel_rfl) (by kernel_rfl) ?_ ?_
                  · refine ⟨fun t w1 ph hf hk hph hp => ?_, ?_⟩
                    · have h0 : slot t 0 = .pointer (some ⟨g, 0, none⟩) := hf 0 (by kernel_rfl)
                      clear hf hp
                      refine stepPh_no (by kernel_rfl) ?_
                      refine stepM_at (by kernel_rfl) ?_
                      refine stepAt_plain rfl ?_
                      exact stepOK_move _ (.inl rfl) h0
                    refine ⟨fun t w1 ph hf hk hph hp => ?_, ?_⟩
                    · have h0 : slot t 0 = .pointer (some ⟨g, 0, none⟩) := hf 0 (by kernel_rfl)
                      clear hf hp
                      refine stepPh_no (by kernel_rfl) ?_
                      refine stepM_at (by kernel_rfl) ?_
                      refine stepAt_plain rfl ?_
                      exact stepOK_move _ (.inl rfl) h0
                    refine ⟨fun t w1 ph hf hk hph hp => ?_, ?_⟩
                    · have h56 : slot t 56 = .pointer (some ⟨g, 0, none⟩) := hp 56 (by kernel_rfl)
                      clear hf hp
                      refine stepPh_no (by kernel_rfl) ?_
                      refine stepM_at (by kernel_rfl) ?_
                      refine stepAt_plain rfl ?_
                      exact stepOK_pure (.pointer (some ⟨g, 0, none⟩)) (execNilR ⟨g, 0, none⟩ w1 rfl h56) rfl
                    refine ⟨fun t w1 ph hf hk hph hp => ?_, ?_⟩
                    · have h57 : slot t 57 = .pointer (some ⟨g, 0, none⟩) := hp 57 (by kernel_rfl)
                      clear hf hp
                      refine stepPh_no (by kernel_rfl) ?_
                      refine stepM_at (by kernel_rfl) ?_
                      refine stepAt_plain rfl ?_
                      exact stepOK_pure (.pointer (some ⟨g, 3, none⟩)) (execFieldRd g 3 (by omega) w1 rfl h57) rfl
                    refine ⟨fun t w1 ph hf hk hph hp => ?_, ?_⟩
                    · have h58 : slot t 58 = .pointer (some ⟨g, 3, none⟩) := hp 58 (by kernel_rfl)
                      clear hf hp
                      refine stepPh_no (by kernel_rfl) ?_
                      refine stepM_at (by kernel_rfl) ?_
                      refine stepAt_plain rfl ?_
                      exact stepOK_pure (vx) (execLoadR _ _ rfl h58 (HLd.out w1 (HAr.out _ _ hph).1)) rfl
                    refine ⟨fun t w1 ph hf hk hph hp => ?_, ?_⟩
                    · have h7 : slot t 7 = .pointer (some ⟨g7, 0, none⟩) := hf 7 (by kernel_rfl)
                      clear hf hp
                      refine stepPh_no (by kernel_rfl) ?_
                      refine stepM_at (by kernel_rfl) ?_
                      refine stepAt_plain rfl ?_
                      exact stepOK_pure (.agg (bC 32 A)) (loadHr rfl h7 (HAr.out _ _ hph).2.1.1) rfl
                    refine ⟨fun t w1 ph hf hk hph hp => ?_, ?_⟩
                    · have h60 : slot t 60 = .agg (bC 32 A) := hp 60 (by kernel_rfl)
                      clear hf hp
                      refine stepPh_no (by kernel_rfl) ?_
                      refine stepM_at (by kernel_rfl) ?_
                      refine stepAt_plain rfl ?_
                      exact .value ((sliceAt0 1) w1.heap.size) (w1.alloc (.cells (bC 32 A) 38)) (execBuild1 rfl h60 (run_build1h A w1)) ((Kept.refl w1).alloc _) ⟨_, rfl, Rowz.new w1 _ _, hREL.new hph ((Kept.refl w1).alloc _) (Nat.le_refl _)⟩
                    refine ⟨fun t w1 ph hf hk hph hp => ?_, ?_⟩
                    · have h59 : slot t 59 = vx := hp 59 (by kernel_rfl)
                      obtain ⟨g61, h61, r61, f61⟩ : ∃ gx, slot t 61 = (sliceAt0 1) gx ∧ Rowz w1 gx (bC 32 A) 38 ∧ (FreeOf g) gx w1 := hp 61 (by kernel_rfl)
                      simp only [sliceAt0] at h61
                      clear hf hp
                      refine stepPh_eff 0 (by kernel_rfl) (fun hj => ?_)
                      subst hj
                      exact stepEff_val rfl (by obtain ⟨v', w', e1, e2, e3, e4⟩ := HApp.out w1 g61 hph hk r61 _; exact ⟨v', w', execAppendH rfl h59 h61 e1, e2, e3, e4⟩)
                    exact trivial
                  · intro t w1 hsz hf hk hph hfacts hmd hap
                    obtain ⟨v62, h62, p62⟩ : ∃ v, slot t 62 = v ∧ P8 v w1 := ⟨_, rfl, hfacts 7 _ (by decide) rfl 62 rfl⟩
                    have h55 : slot t 55 = .pointer (some ⟨g, 0, none⟩) := hfacts 0 _ (by decide) rfl 55 rfl
                    have h0 : slot t 0 = .pointer (some ⟨g, 0, none⟩) := hf 0 (by kernel_rfl)
                    have h4 : slot t 4 = .pointer (some ⟨g4, 0, none⟩) := hf 4 (by kernel_rfl)
                    have h5 : slot t 5 = .pointer (some ⟨g5, 0, none⟩) := hf 5 (by kernel_rfl)
                    have h6 : slot t 6 = .pointer (some ⟨g5 + 1, 0, none⟩) := hf 6 (by kernel_rfl)
                    have h7 : slot t 7 = .pointer (some ⟨g7, 0, none⟩) := hf 7 (by kernel_rfl)
                    have h8 : slot t 8 = .pointer (some ⟨g8, 0, none⟩) := hf 8 (by kernel_rfl)
                    have harr : t = #[slot t 0, slot t 1, slot t 2, slot t 3, slot t 4, slot t 5, slot t 6, slot t 7, slot t 8, slot t 9, slot t 10, slot t 11, slot t 12, slot t 13, slot t 14, slot t 15, slot t 16, slot t 17, slot t 18, slot t 19, slot t 20, slot t 21, slot t 22, slot t 23, slot t 24, slot t 25, slot t 26, slot t 27, slot t 28, slot t 29, slot t 30, slot t 31, slot t 32, slot t 33, slot t 34, slot t 35, slot t 36, slot t 37, slot t 38, slot t 39, slot t 40, slot t 41, slot t 42, slot t 43, slot t 44, slot t 45, slot t 46, slot t 47, slot t 48, slot t 49, slot t 50, slot t 51, slot t 52, slot t 53, slot t 54, slot t 55, slot t 56, slot t 57, slot t 58, slot t 59, slot t 60, slot t 61, slot t 62, slot t 63, slot t 64, slot t 65, slot t 66, slot t 67] := arr_eq t 68 hsz
                    rw [harr, h62, h55, h0, h4, h5, h6, h7, h8]
                    clear harr hfacts hf hmd hap h62 h55 h0 h4 h5 h6 h7 h8
                    generalize slot t 1 = x1; generalize slot t 2 = x2; generalize slot t 3 = x3; generalize slot t 9 = x9; generalize slot t 10 = x10; generalize slot t 11 = x11; generalize slot t 12 = x12; generalize slot t 13 = x13; generalize slot t 14 = x14; generalize slot t 15 = x15; generalize slot t 16 = x16; generalize slot t 17 = x17
                    generalize slot t 18 = x18; generalize slot t 19 = x19; generalize slot t 20 = x20; generalize slot t 21 = x21; generalize slot t 22 = x22; generalize slot t 23 = x23; generalize slot t 24 = x24; generalize slot t 25 = x25; generalize slot t 26 = x26; generalize slot t 27 = x27; generalize slot t 28 = x28; generalize slot t 29 = x29
                    generalize slot t 30 = x30; generalize slot t 31 = x31; generalize slot t 32 = x32; generalize slot t 33 = x33; generalize slot t 34 = x34; generalize slot t 35 = x35; generalize slot t 36 = x36; generalize slot t 37 = x37; generalize slot t 38 = x38; generalize slot t 39 = x39; generalize slot t 40 = x40; generalize slot t 41 = x41
                    generalize slot t 42 = x42; generalize slot t 43 = x43; generalize slot t 44 = x44; generalize slot t 45 = x45; generalize slot t 46 = x46; generalize slot t 47 = x47; generalize slot t 48 = x48; generalize slot t 49 = x49; generalize slot t 50 = x50; generalize slot t 51 = x51; generalize slot t 52 = x52; generalize slot t 53 = x53
                    generalize slot t 54 = x54; generalize slot t 56 = x56; generalize slot t 57 = x57; generalize slot t 58 = x58; generalize slot t 59 = x59; generalize slot t 60 = x60; generalize slot t 61 = x61; generalize slot t 63 = x63; generalize slot t 64 = x64; generalize slot t 65 = x65; generalize slot t 66 = x66; generalize slot t 67 = x67
                    clear hsz t
                    simp only [List.drop_succ_cons, List.drop_zero]
                    obtain ⟨hRD, hTN⟩ := HRest.out w1 v62 hk hph p62
                    obtain ⟨hrow, _, _⟩ := HAr.out _ _ hph
                    obtain ⟨qy, ny, cy, hvy⟩ : ∃ q n c, v62 = .slice q n c := ⟨_, _, _, ((HPr.out _ _ p62).1.slice).choose_spec.choose_spec⟩
                    subst hvy
                    have f3 := hrow.free 3
                    have c3 := hrow.cell 3
                    have RDa := Lib.hid hRD
                    have TNa := Lib.hid (TN8.out.trans hTN)
                    have Ma4 := Lib.hid (M4.out.turn hTN)
                    have Ma7 := Lib.hid (M7.out.turn hTN)
                    have Ma8 := Lib.hid (M8.out.turn hTN)
                    clear hk hph hREL HP0 HApp HAr HPr HRest p62 hRD hTN hrow RD8 TN8 M4 M5 M6 M7 M8 S8
                    go_wp2_with (refine park_at 65 rfl ?_)
                    generalize w1.setCell ⟨g, 3, none⟩ (.slice qy ny cy) = y9 at RDa TNa Ma4 Ma7 Ma8 ⊢
                    clear f3 c3
                    refine unpark ?_
                    refine wpList_exec 65 rfl (by rfl) (.agg (bC 32 A)) _ (loadHr rfl rfl Ma7.out.1) ?_
                    refine wpList_exec 66 rfl (by rfl) (.agg (bC 32 B)) _ (loadHr rfl rfl Ma8.out.1) ?_
                    go_wp2_with fail
                    refine (HN.out y9 RDa.out.kept).mono ?_
                    rintro e z2 ⟨rfl, kz⟩
                    have RDf := Lib.hid (RDa.out.keptTo kz)
                    have TNf := Lib.hid (TNa.out.trans (Turn.ofKept kz))
                    have Mf4 := Lib.hid (Ma4.out.kept kz)
                    clear kz
                    go_wp2_with (refine wpList_store_row rfl 38 _ _ rfl g4 (bC 32 AB) rfl rfl 38 (bC 32 []) Mf4.out.1 (info_hash _) (by simp [bC_size]) (bC_one _ _) ?_)
                    refine bodyPost_ret (v := .agg (bC 32 AB)) (results_rowP Tryd.results36 _ _ g4 38 _ _ rfl Mf4.out.1.row Tryd.underlying38 rfl (info_hash _)) rfl ?_
                    have hg4 := HG4.out
                    have hWw := HRD.out.kept.size
                    rw [← HUU.out]
                    exact ⟨rfl, RDf.out.setRow Mf4.out.2 (by omega) _, TNf.out.setRow (by omega) _⟩
            · have hU := HUN.out hinL hinR
              have HUU : Hid (L ++ U1 ++ U2 = L ++ UU) := Lib.hid (by rw [hU]; simp only [List.append_assoc])
              have HhR : Hid (∀ w, Calls Tryd.prog 55 #[.agg (paC ((f + l : Nat) : Int) ((n - l : Nat) : Int) p' (K - k1) (c - k1)), .int .i64 pl] w fun e w' => e = .returned (.bool false) ∧ Kept w w') := Lib.hid fun w => by
                have := HhR.out w
                rwa [decide_eq_false hinR] at this
              clear HUL HUR HUN hU hinR hinL
              obtain ⟨p1x, c1x, qx, dx, vx, hrx, _⟩ := RD8.out.ex
              have HRX := Lib.hid hrx
              clear hrx
              refine wp_region_table [(32, .is (.agg (paC f l p k1 c))), (33, .is (.pointer (some ⟨g, 0, none⟩))), (34, .is (.pointer (some ⟨g, 0, none⟩))), (35, .is (.pointer (some ⟨g, 2, none⟩))), (36, .is (.int .i64 pl)), (37, .is (.bool false)), (31, .is (.bool false))] (by kernel_rfl) (by kernel_rfl) ?_ ?_
              · refine ⟨fun t w1 hf hk hp => ?_, ?_⟩
                · have h5 : slot t 5 = .pointer (some ⟨g5, 0, none⟩) := hf 5 (by kernel_rfl)
                  clear hf hp
                  refine stepAt_plain rfl ?_
                  exact stepOK_pure (.agg (paC f l p k1 c)) (execLoadP rfl h5 (M5.out.1.kept hk)) rfl
                refine ⟨fun t w1 hf hk hp => ?_, ?_⟩
                · have h0 : slot t 0 = .pointer (some ⟨g, 0, none⟩) := hf 0 (by kernel_rfl)
                  clear hf hp
                  refine stepAt_plain rfl ?_
                  exact stepOK_move _ (.inl rfl) h0
                refine ⟨fun t w1 hf hk hp => ?_, ?_⟩
                · have h33 : slot t 33 = .pointer (some ⟨g, 0, none⟩) := hp 33 (by kernel_rfl)
                  clear hf hp
                  refine stepAt_plain rfl ?_
                  exact stepOK_pure (.pointer (some ⟨g, 0, none⟩)) (execNilR ⟨g, 0, none⟩ w1 rfl h33) rfl
                refine ⟨fun t w1 hf hk hp => ?_, ?_⟩
                · have h34 : slot t 34 = .pointer (some ⟨g, 0, none⟩) := hp 34 (by kernel_rfl)
                  clear hf hp
                  refine stepAt_plain rfl ?_
                  exact stepOK_pure (.pointer (some ⟨g, 2, none⟩)) (execFieldRd g 2 (by omega) w1 rfl h34) rfl
                refine ⟨fun t w1 hf hk hp => ?_, ?_⟩
                · have h35 : slot t 35 = .pointer (some ⟨g, 2, none⟩) := hp 35 (by kernel_rfl)
                  clear hf hp
                  refine stepAt_plain rfl ?_
                  exact stepOK_pure (.int .i64 pl) (execLoadR _ _ rfl h35 (run_loadIP ((HRX.out.kept hk).cell 2))) rfl
                refine ⟨fun t w1 hf hk hp => ?_, ?_⟩
                · have h32 : slot t 32 = .agg (paC f l p k1 c) := hp 32 (by kernel_rfl)
                  have h36 : slot t 36 = .int .i64 pl := hp 36 (by kernel_rfl)
                  clear hf hp
                  refine stepAt_plain rfl ?_
                  refine stepOK_call #[.agg (paC f l p k1 c), .int .i64 pl] rfl (by simp only [List.map_toArray, List.map_cons, List.map_nil, evS, h32, h36]) (by go_simp) ((HhL.out w1).mono fun e w' ⟨he, hk'⟩ => ⟨_, he, hk', rfl⟩)
                refine ⟨fun t w1 hf hk hp => ?_, ?_⟩
                · have h37 : slot t 37 = .bool false := hp 37 (by kernel_rfl)
                  clear hf hp
                  refine stepAt_plain rfl ?_
                  exact stepOK_move _ (.inr rfl) h37
                exact trivial
              · intro t w1 hsz hf hk hfacts
                have h31 : slot t 31 = .bool false := hfacts 6 _ rfl 31 rfl
                have h0 : slot t 0 = .pointer (some ⟨g, 0, none⟩) := hf 0 (by kernel_rfl)
                have h4 : slot t 4 = .pointer (some ⟨g4, 0, none⟩) := hf 4 (by kernel_rfl)
                have h5 : slot t 5 = .pointer (some ⟨g5, 0, none⟩) := hf 5 (by kernel_rfl)
                have h6 : slot t 6 = .pointer (some ⟨g5 + 1, 0, none⟩) := hf 6 (by kernel_rfl)
                have h7 : slot t 7 = .pointer (some ⟨g7, 0, none⟩) := hf 7 (by kernel_rfl)
                have h8 : slot t 8 = .pointer (some ⟨g8, 0, none⟩) := hf 8 (by kernel_rfl)
                have harr : t = #[slot t 0, slot t 1, slot t 2, slot t 3, slot t 4, slot t 5, slot t 6, slot t 7, slot t 8, slot t 9, slot t 10, slot t 11, slot t 12, slot t 13, slot t 14, slot t 15, slot t 16, slot t 17, slot t 18, slot t 19, slot t 20, slot t 21, slot t 22, slot t 23, slot t 24, slot t 25, slot t 26, slot t 27, slot t 28, slot t 29, slot t 30, slot t 31, slot t 32, slot t 33, slot t 34, slot t 35, slot t 36, slot t 37, slot t 38, slot t 39, slot t 40, slot t 41, slot t 42, slot t 43, slot t 44, slot t 45, slot t 46, slot t 47, slot t 48, slot t 49, slot t 50, slot t 51, slot t 52, slot t 53, slot t 54, slot t 55, slot t 56, slot t 57, slot t 58, slot t 59, slot t 60, slot t 61, slot t 62, slot t 63, slot t 64, slot t 65, slot t 66, slot t 67] := arr_eq t 68 hsz
                rw [harr, h31, h0, h4, h5, h6, h7, h8]
                clear harr hfacts hf h31 h0 h4 h5 h6 h7 h8
                generalize slot t 1 = x1; generalize slot t 2 = x2; generalize slot t 3 = x3; generalize slot t 9 = x9; generalize slot t 10 = x10; generalize slot t 11 = x11; generalize slot t 12 = x12; generalize slot t 13 = x13; generalize slot t 14 = x14; generalize slot t 15 = x15; generalize slot t 16 = x16; generalize slot t 17 = x17
                generalize slot t 18 = x18; generalize slot t 19 = x19; generalize slot t 20 = x20; generalize slot t 21 = x21; generalize slot t 22 = x22; generalize slot t 23 = x23; generalize slot t 24 = x24; generalize slot t 25 = x25; generalize slot t 26 = x26; generalize slot t 27 = x27; generalize slot t 28 = x28; generalize slot t 29 = x29
                generalize slot t 30 = x30; generalize slot t 32 = x32; generalize slot t 33 = x33; generalize slot t 34 = x34; generalize slot t 35 = x35; generalize slot t 36 = x36; generalize slot t 37 = x37; generalize slot t 38 = x38; generalize slot t 39 = x39; generalize slot t 40 = x40; generalize slot t 41 = x41; generalize slot t 42 = x42
                generalize slot t 43 = x43; generalize slot t 44 = x44; generalize slot t 45 = x45; generalize slot t 46 = x46; generalize slot t 47 = x47; generalize slot t 48 = x48; generalize slot t 49 = x49; generalize slot t 50 = x50; generalize slot t 51 = x51; generalize slot t 52 = x52; generalize slot t 53 = x53; generalize slot t 54 = x54
                generalize slot t 55 = x55; generalize slot t 56 = x56; generalize slot t 57 = x57; generalize slot t 58 = x58; generalize slot t 59 = x59; generalize slot t 60 = x60; generalize slot t 61 = x61; generalize slot t 62 = x62; generalize slot t 63 = x63; generalize slot t 64 = x64; generalize slot t 65 = x65; generalize slot t 66 = x66
                generalize slot t 67 = x67
                clear hsz t
                replace RD8 := Lib.hid (RD8.out.keptTo hk)
                replace TN8 := Lib.hid (TN8.out.trans (Turn.ofKept hk))
                replace M4 := Lib.hid (M4.out.kept hk)
                replace M5 := Lib.hid (M5.out.kept hk)
                replace M6 := Lib.hid (M6.out.kept hk)
                replace M7 := Lib.hid (M7.out.kept hk)
                replace M8 := Lib.hid (M8.out.kept hk)
                clear hk HRX HhL
                obtain ⟨y3, hy3⟩ : ∃ y, y = w1 := ⟨_, rfl⟩
                subst hy3
                go_wp2_with fail
                obtain ⟨p1x, c1x, qx, dx, vx, hrx, _⟩ := RD8.out.ex
                have HRX := Lib.hid hrx
                clear hrx
                refine wp_region_table [(49, .is (.agg (paC ((f + l : Nat) : Int) ((n - l : Nat) : Int) p' (K - k1) (c - k1)))), (50, .is (.pointer (some ⟨g, 0, none⟩))), (51, .is (.pointer (some ⟨g, 0, none⟩))), (52, .is (.pointer (some ⟨g, 2, none⟩))), (53, .is (.int .i64 pl)), (54, .is (.bool false)), (48, .is (.bool false))] (by kernel_rfl) (by kernel_rfl) ?_ ?_
                · refine ⟨fun t w1 hf hk hp => ?_, ?_⟩
                  · have h6 : slot t 6 = .pointer (some ⟨g5 + 1, 0, none⟩) := hf 6 (by kernel_rfl)
                    clear hf hp
                    refine stepAt_plain rfl ?_
                    exact stepOK_pure (.agg (paC ((f + l : Nat) : Int) ((n - l : Nat) : Int) p' (K - k1) (c - k1))) (execLoadP rfl h6 (M6.out.1.kept hk)) rfl
                  refine ⟨fun t w1 hf hk hp => ?_, ?_⟩
                  · have h0 : slot t 0 = .pointer (some ⟨g, 0, none⟩) := hf 0 (by kernel_rfl)
                    clear hf hp
                    refine stepAt_plain rfl ?_
                    exact stepOK_move _ (.inl rfl) h0
                  refine ⟨fun t w1 hf hk hp => ?_, ?_⟩
                  · have h50 : slot t 50 = .pointer (some ⟨g, 0, none⟩) := hp 50 (by kernel_rfl)
                    clear hf hp
                    refine stepAt_plain rfl ?_
                    exact stepOK_pure (.pointer (some ⟨g, 0, none⟩)) (execNilR ⟨g, 0, none⟩ w1 rfl h50) rfl
                  refine ⟨fun t w1 hf hk hp => ?_, ?_⟩
                  · have h51 : slot t 51 = .pointer (some ⟨g, 0, none⟩) := hp 51 (by kernel_rfl)
                    clear hf hp
                    refine stepAt_plain rfl ?_
                    exact stepOK_pure (.pointer (some ⟨g, 2, none⟩)) (execFieldRd g 2 (by omega) w1 rfl h51) rfl
                  refine ⟨fun t w1 hf hk hp => ?_, ?_⟩
                  · have h52 : slot t 52 = .pointer (some ⟨g, 2, none⟩) := hp 52 (by kernel_rfl)
                    clear hf hp
                    refine stepAt_plain rfl ?_
                    exact stepOK_pure (.int .i64 pl) (execLoadR _ _ rfl h52 (run_loadIP ((HRX.out.kept hk).cell 2))) rfl
                  refine ⟨fun t w1 hf hk hp => ?_, ?_⟩
                  · have h49 : slot t 49 = .agg (paC ((f + l : Nat) : Int) ((n - l : Nat) : Int) p' (K - k1) (c - k1)) := hp 49 (by kernel_rfl)
                    have h53 : slot t 53 = .int .i64 pl := hp 53 (by kernel_rfl)
                    clear hf hp
                    refine stepAt_plain rfl ?_
                    refine stepOK_call #[.agg (paC ((f + l : Nat) : Int) ((n - l : Nat) : Int) p' (K - k1) (c - k1)), .int .i64 pl] rfl (by simp only [List.map_toArray, List.map_cons, List.map_nil, evS, h49, h53]) (by go_simp) ((HhR.out w1).mono fun e w' ⟨he, hk'⟩ => ⟨_, he, hk', rfl⟩)
                  refine ⟨fun t w1 hf hk hp => ?_, ?_⟩
                  · have h54 : slot t 54 = .bool false := hp 54 (by kernel_rfl)
                    clear hf hp
                    refine stepAt_plain rfl ?_
                    exact stepOK_move _ (.inr rfl) h54
                  exact trivial
                · intro t w1 hsz hf hk hfacts
                  have h48 : slot t 48 = .bool false := hfacts 6 _ rfl 48 rfl
                  have h0 : slot t 0 = .pointer (some ⟨g, 0, none⟩) := hf 0 (by kernel_rfl)
                  have h4 : slot t 4 = .pointer (some ⟨g4, 0, none⟩) := hf 4 (by kernel_rfl)
                  have h5 : slot t 5 = .pointer (some ⟨g5, 0, none⟩) := hf 5 (by kernel_rfl)
                  have h6 : slot t 6 = .pointer (some ⟨g5 + 1, 0, none⟩) := hf 6 (by kernel_rfl)
                  have h7 : slot t 7 = .pointer (some ⟨g7, 0, none⟩) := hf 7 (by kernel_rfl)
                  have h8 : slot t 8 = .pointer (some ⟨g8, 0, none⟩) := hf 8 (by kernel_rfl)
                  have harr : t = #[slot t 0, slot t 1, slot t 2, slot t 3, slot t 4, slot t 5, slot t 6, slot t 7, slot t 8, slot t 9, slot t 10, slot t 11, slot t 12, slot t 13, slot t 14, slot t 15, slot t 16, slot t 17, slot t 18, slot t 19, slot t 20, slot t 21, slot t 22, slot t 23, slot t 24, slot t 25, slot t 26, slot t 27, slot t 28, slot t 29, slot t 30, slot t 31, slot t 32, slot t 33, slot t 34, slot t 35, slot t 36, slot t 37, slot t 38, slot t 39, slot t 40, slot t 41, slot t 42, slot t 43, slot t 44, slot t 45, slot t 46, slot t 47, slot t 48, slot t 49, slot t 50, slot t 51, slot t 52, slot t 53, slot t 54, slot t 55, slot t 56, slot t 57, slot t 58, slot t 59, slot t 60, slot t 61, slot t 62, slot t 63, slot t 64, slot t 65, slot t 66, slot t 67] := arr_eq t 68 hsz
                  rw [harr, h48, h0, h4, h5, h6, h7, h8]
                  clear harr hfacts hf h48 h0 h4 h5 h6 h7 h8
                  generalize slot t 1 = x1; generalize slot t 2 = x2; generalize slot t 3 = x3; generalize slot t 9 = x9; generalize slot t 10 = x10; generalize slot t 11 = x11; generalize slot t 12 = x12; generalize slot t 13 = x13; generalize slot t 14 = x14; generalize slot t 15 = x15; generalize slot t 16 = x16; generalize slot t 17 = x17
                  generalize slot t 18 = x18; generalize slot t 19 = x19; generalize slot t 20 = x20; generalize slot t 21 = x21; generalize slot t 22 = x22; generalize slot t 23 = x23; generalize slot t 24 = x24; generalize slot t 25 = x25; generalize slot t 26 = x26; generalize slot t 27 = x27; generalize slot t 28 = x28; generalize slot t 29 = x29
                  generalize slot t 30 = x30; generalize slot t 31 = x31; generalize slot t 32 = x32; generalize slot t 33 = x33; generalize slot t 34 = x34; generalize slot t 35 = x35; generalize slot t 36 = x36; generalize slot t 37 = x37; generalize slot t 38 = x38; generalize slot t 39 = x39; generalize slot t 40 = x40; generalize slot t 41 = x41
                  generalize slot t 42 = x42; generalize slot t 43 = x43; generalize slot t 44 = x44; generalize slot t 45 = x45; generalize slot t 46 = x46; generalize slot t 47 = x47; generalize slot t 49 = x49; generalize slot t 50 = x50; generalize slot t 51 = x51; generalize slot t 52 = x52; generalize slot t 53 = x53; generalize slot t 54 = x54
                  generalize slot t 55 = x55; generalize slot t 56 = x56; generalize slot t 57 = x57; generalize slot t 58 = x58; generalize slot t 59 = x59; generalize slot t 60 = x60; generalize slot t 61 = x61; generalize slot t 62 = x62; generalize slot t 63 = x63; generalize slot t 64 = x64; generalize slot t 65 = x65; generalize slot t 66 = x66
                  generalize slot t 67 = x67
                  clear hsz t
                  replace RD8 := Lib.hid (RD8.out.keptTo hk)
                  replace TN8 := Lib.hid (TN8.out.trans (Turn.ofKept hk))
                  replace M4 := Lib.hid (M4.out.kept hk)
                  replace M5 := Lib.hid (M5.out.kept hk)
                  replace M6 := Lib.hid (M6.out.kept hk)
                  replace M7 := Lib.hid (M7.out.kept hk)
                  replace M8 := Lib.hid (M8.out.kept hk)
                  clear hk HRX HhR
                  obtain ⟨y4, hy4⟩ : ∃ y, y = w1 := ⟨_, rfl⟩
                  subst hy4
                  go_wp2_with (refine park_at 65 rfl ?_)
                  refine unpark ?_
                  refine wpList_exec 65 rfl (by rfl) (.agg (bC 32 A)) _ (loadHr rfl rfl M7.out.1) ?_
                  refine wpList_exec 66 rfl (by rfl) (.agg (bC 32 B)) _ (loadHr rfl rfl M8.out.1) ?_
                  go_wp2_with fail
                  refine (HN.out y4 RD8.out.kept).mono ?_
                  rintro e z2 ⟨rfl, kz⟩
                  have RDf := Lib.hid (RD8.out.keptTo kz)
                  have TNf := Lib.hid (TN8.out.trans (Turn.ofKept kz))
                  have Mf4 := Lib.hid (M4.out.kept kz)
                  clear kz
                  go_wp2_with (refine wpList_store_row rfl 38 _ _ rfl g4 (bC 32 AB) rfl rfl 38 (bC 32 []) Mf4.out.1 (info_hash _) (by simp [bC_size]) (bC_one _ _) ?_)
                  refine bodyPost_ret (v := .agg (bC 32 AB)) (results_rowP Tryd.results36 _ _ g4 38 _ _ rfl Mf4.out.1.row Tryd.underlying38 rfl (info_hash _)) rfl ?_
                  have hg4 := HG4.out
                  have hWw := HRD.out.kept.size
                  rw [← HUU.out]
                  exact ⟨rfl, RDf.out.setRow Mf4.out.2 (by omega) _, TNf.out.setRow (by omega) _⟩
end Go.Proofs.YtggpjhldmaflaaaDoor
