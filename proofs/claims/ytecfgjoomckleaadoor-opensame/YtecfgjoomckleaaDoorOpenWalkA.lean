/-
  Contracts of open.path and of the reference's path. Conditions: the leaf exists; a slice's length and capacity fit; sha's table of round constants stands (open.path).
-/
import Derived.Test.YtecfgjoomckleaaDoorOpenMath
import Derived.Test.YtecfgjoomckleaaDoorTreeWalkC
import Derived.BigQuiet
namespace Go.Proofs.YtecfgjoomckleaaDoor
set_option maxRecDepth 4000
open Go.RowKit

/-! ### A slice of hashes of the call's own -/
def PaS (base : Nat) (L : List (List UInt8)) (v : Value) (w : World) : Prop := w.ownsRow base 41 32 v L.length (hC L.length (lh L)).toList
theorem PaS.kept (base : Nat) (L : List (List UInt8)) (v : Value) (w w' : World) (K : Kept w w') (h : PaS base L v w) : PaS base L v w' := ownsRow_kept h K
theorem PaS.base {b b' : Nat} {L : List (List UInt8)} {v : Value} {w : World} (h : PaS b L v w) (hb : b' ≤ b) : PaS b' L v w := by
  refine ⟨h.1, ?_⟩
  rcases h.2 with h | ⟨g, cap, cur, hv, h0, rest⟩
  · exact .inl h
  · exact .inr ⟨g, cap, cur, hv, by omega, rest⟩
theorem PaS.nil (base : Nat) (w : World) : PaS base [] (.slice none 0 0) w := World.ownsRow_nil _ _ _ _
theorem PaS.hsl {base : Nat} {L : List (List UInt8)} {v : Value} {w : World} (h : PaS base L v w) (hl : ∀ x ∈ L, x.length = 32) : HSl L.length (lh L) v w := HAt.ofOwns h (lh_32 hl)
theorem PaS.mono {f : FuncId} {args : Array Value} {w : World} {L : List (List UInt8)} (b : Nat) (hb : b ≤ w.heap.size) (h : Calls Tryd.prog f args w fun e w' => ∃ v, e = .returned v ∧ PaS w.heap.size L v w' ∧ Kept w w') :
    Calls Tryd.prog f args w fun e w' => ∃ v, e = .returned v ∧ PaS b L v w' ∧ Kept w w' :=
  h.mono fun _ _ ⟨v, he, ht, hk⟩ => ⟨v, he, ht.base hb, hk⟩
/-- 'append(l, h)' on such a slice, the hash in a row anywhere. -/
theorem wpList_append_path {w : World} {T : TypeId} {h0 : List UInt8} {ops : Array Oper} {rest : List Oper} {o : Oper} {a : Act} {Q : Exit → Act → World → Prop} (hgd : o.guard = none) (s x : Operand)
    (ho : o.op = .call { callee := .builtin .append, args := #[s, x], argTypes := #[25, 25] }) (W : World)
    (v : Value) (L : List (List UInt8)) (g : Nat) (hs : a.eval s = v) (hown : Hid (PaS W.heap.size L v w)) (hx : a.eval x = .slice (some ⟨g, 0, none⟩) 1 1) (hr : Hid (Rowz w g (bC 32 h0) T))
    (hn : L.length ≤ 1000) (hk : Hid (Kept W w))
    (h : ∀ v' w', Hid (PaS W.heap.size (L ++ [h0]) v' w') → Hid (Kept W w') → wpList Tryd.prog ops Q rest (a.put o.dst v') w') :
    wpList Tryd.prog ops Q (o :: rest) a w := by
  obtain ⟨i, hi⟩ : ∃ i, Tryd.prog.info? 41 = some i := Option.isSome_iff_exists.1 (by kernel_rfl)
  have h32 := info_hash32
  rw [hi] at h32
  have h0' := zero_hash
  rw [hi] at h0'
  obtain ⟨z, hz⟩ : ∃ z, i.zero = some z := by cases e : i.zero with | none => simp [e] at h0' | some z => exact ⟨z, rfl⟩
  have hz' : z.cells = bC 32 [] := by simpa [hz] using h0'
  have hs32 : i.size = 32 := by simpa using congrArg (Option.map (·.1)) h32
  have hb32 : i.bytes = 32 := by simpa using congrArg (Option.map (·.2)) h32
  refine wpList_append_own w hgd s x 25 ho W.heap.size 41 i z 32 32 Tryd.underlying25 hi hz hs32 hb32 (by rw [hz', bC_size]) (by decide) v L.length (hC L.length (lh L)).toList hs hown.out ⟨g, 0, none⟩ 1 1 (bC 32 h0).toList hx (by rw [Array.length_toList, bC_size]) ?_ ?_ (by unfold maxLen; omega) (by omega) hk.out.size ?_
  · intro j y hj
    rw [Addr.add_mid, hr.out.cell, ← hj, Array.getElem?_toList]
    simp
  · intro y hy
    exact Array.all_eq_true_iff_forall_mem.1 (bC_one 32 h0) y (by simpa using hy)
  · intro v' w' ho' hg _
    refine h v' w' (Lib.hid ?_) (Lib.hid (hk.out.grownBy hg fun k hk' => (hown.out.lt k hk').1))
    have e1 : hC L.length (lh L) = hC L.length (lh (L ++ [h0])) := hC_congr _ _ _ fun i hi => (lh_snoc L h0 i hi).symm
    have e2 : bC 32 h0 = bC 32 (lh (L ++ [h0]) L.length) := by rw [lh_last]
    rw [e1, e2, hC_snoc] at ho'
    unfold PaS
    rw [List.length_append]
    exact ho'

/-! ### The path -/
theorem wrap_sub (i l : Nat) (h : l ≤ i) (h63 : i < 9223372036854775807) : IntKind.i64.wrap ((i : Int) - (l : Int)) = (i : Int) - (l : Int) := by
  simp only [IntKind.wrap, IntKind.signed, IntKind.bits]; simp; omega
def PathOk (f : FuncId) (n : Nat) : Prop := ∀ (p : Option Addr) (c : Nat) (F : Nat → List UInt8) (i : Nat) (w : World), n ≤ c → c ≤ maxLen → i < n → HAt w p n F → Tab w →
    Calls Tryd.prog f #[.slice p n c, .int .i64 (i : Int)] w fun e w' => ∃ v, e = .returned v ∧ PaS w.heap.size (pathN F n i) v w' ∧ Kept w w'
set_option maxRecDepth 100000 in
set_option maxHeartbeats 2000000 in
theorem openPath_any (n : Nat) : PathOk 13 n := by
  induction n using Nat.strongRecOn with
  | _ n ih =>
    intro p c F i w hc hm hi hF ht
    by_cases h1 : n < 2
    · obtain rfl : n = 1 := by omega
      rw [pathN_one F i (by omega)]
      clear ih hF ht
      go_enter Tryd.func13, Tryd.ntmps13
      go_wp2
      go_ret
      exact ⟨_, rfl, PaS.nil _ _, Kept.refl w⟩
    · have h2 : 2 ≤ n := by omega
      obtain ⟨q, rfl, _⟩ := hF.some (by omega)
      have hL := leftN_lt h2
      have hP := leftN_pos h2
      have hSL : Hid (∀ w, Calls Tryd.prog 20 #[.int .i64 (n : Int)] w fun e w' => e = .returned (.int .i64 (leftN n : Int)) ∧ w = w') := Lib.hid fun w => shapeLeft_any (n : Int) w (by omega) (by unfold maxLen at hm; omega)
      have hd0 : decide ((n : Int) < 2) = false := decide_eq_false (by omega)
      by_cases hl : i < leftN n
      · have HC : Hid (∀ w1 : World, w.heap.size ≤ w1.heap.size → HAt w1 (some q) n F → Tab w1 → _) := Lib.hid fun w1 hb hF ht => PaS.mono w.heap.size hb (ih (leftN n) hL (some q) c F i w1 (by omega) hm hl (hF.left _ (by omega)) ht)
        have HTp : Hid (∀ w, HAt w (some q) n F → Tab w → _) := Lib.hid fun w hF ht => treeTop_any (n - leftN n) (some (q.add (leftN n * 32))) (c - leftN n) (fun i => F (leftN n + i)) w (by omega) (by omega) (hF.right _ (by omega)) ht
        rw [pathN_left F h2 hl]
        have hlen : (pathN F (leftN n) i).length ≤ 63 := pathN_len63 F i (by unfold maxLen at hm; omega)
        have hd1 : decide ((i : Int) < (leftN n : Int)) = true := decide_eq_true (by omega)
        have hd1' : decide (i < leftN n) = true := decide_eq_true hl
        clear ih
        generalize topN (fun j => F (leftN n + j)) (n - leftN n) = B at HTp ⊢
        generalize pathN F (leftN n) i = L at HC hlen ⊢
        generalize leftN n = l at hL hP hSL hl HC HTp hd1 hd1'
        have HF := Lib.hid hF
        have HT := Lib.hid ht
        clear hF ht
        go_enter Tryd.func13, Tryd.ntmps13
        go_wp2_with (go_at_call 20; refine (hSL.out _).mono ?_; rintro e w1 ⟨rfl, rfl⟩)
        clear hSL
        refine wp_region_table [(14, .is (.slice (some q) n c)), (15, .is (.int .i64 (l : Int))), (16, .is (.slice (some q) l c)), (17, .is (.slice (some q) n c)), (18, .is (.int .i64 (l : Int))), (19, .is (.slice (some (q.add (l * 32))) (n - l) (c - l))), (6, .is (.slice (some q) l c)), (7, .is (.slice (some (q.add (l * 32))) (n - l) (c - l)))] (by kernel_rfl) (by kernel_rfl) ?_ ?_
        · refine ⟨fun t w1 hf hk hp => ?_, ?_⟩
          · have h0 : slot t 0 = .slice (some q) n c := hf 0 (by kernel_rfl)
            clear hf hp
            refine stepAt_plain rfl ?_
            exact stepOK_move _ (.inl rfl) h0
          refine ⟨fun t w1 hf hk hp => ?_, ?_⟩
          · have h5 : slot t 5 = .int .i64 (l : Int) := hf 5 (by kernel_rfl)
            clear hf hp
            refine stepAt_plain rfl ?_
            exact stepOK_move _ (.inl rfl) h5
          refine ⟨fun t w1 hf hk hp => ?_, ?_⟩
          · have h14 : slot t 14 = .slice (some q) n c := hp 14 (by kernel_rfl)
            have h15 : slot t 15 = .int .i64 (l : Int) := hp 15 (by kernel_rfl)
            clear hf hp
            refine stepAt_plain rfl ?_
            have hq0 := run_cutH_left q n c l w1 (by omega)
            exact stepOK_sem (.slice (some q) l c) (by simp only [execOp, evS, Option.map_some, Option.map_none, h14, h15]) hq0 rfl
          refine ⟨fun t w1 hf hk hp => ?_, ?_⟩
          · have h0 : slot t 0 = .slice (some q) n c := hf 0 (by kernel_rfl)
            clear hf hp
            refine stepAt_plain rfl ?_
            exact stepOK_move _ (.inl rfl) h0
          refine ⟨fun t w1 hf hk hp => ?_, ?_⟩
          · have h5 : slot t 5 = .int .i64 (l : Int) := hf 5 (by kernel_rfl)
            clear hf hp
            refine stepAt_plain rfl ?_
            exact stepOK_move _ (.inl rfl) h5
          refine ⟨fun t w1 hf hk hp => ?_, ?_⟩
          · have h17 : slot t 17 = .slice (some q) n c := hp 17 (by kernel_rfl)
            have h18 : slot t 18 = .int .i64 (l : Int) := hp 18 (by kernel_rfl)
            clear hf hp
            refine stepAt_plain rfl ?_
            have hq0 := run_cutH_right q n c l w1 (by omega) (by omega)
            exact stepOK_sem (.slice (some (q.add (l * 32))) (n - l) (c - l)) (by simp only [execOp, evS, Option.map_some, Option.map_none, h17, h18]) hq0 rfl
          refine ⟨fun t w1 hf hk hp => ?_, ?_⟩
          · have h16 : slot t 16 = .slice (some q) l c := hp 16 (by kernel_rfl)
            clear hf hp
            refine stepAt_plain rfl ?_
            exact stepOK_move _ (.inr rfl) h16
          refine ⟨fun t w1 hf hk hp => ?_, ?_⟩
          · have h19 : slot t 19 = .slice (some (q.add (l * 32))) (n - l) (c - l) := hp 19 (by kernel_rfl)
            clear hf hp
            refine stepAt_plain rfl ?_
            exact stepOK_move _ (.inr rfl) h19
          exact trivial
        · intro t w1 hsz hf hk hfacts
          have h6 : slot t 6 = .slice (some q) l c := hfacts 6 _ rfl 6 rfl
          have h7 : slot t 7 = .slice (some (q.add (l * 32))) (n - l) (c - l) := hfacts 7 _ rfl 7 rfl
          have h0 : slot t 0 = .slice (some q) n c := hf 0 (by kernel_rfl)
          have h1 : slot t 1 = .int .i64 (i : Int) := hf 1 (by kernel_rfl)
          have h5 : slot t 5 = .int .i64 (l : Int) := hf 5 (by kernel_rfl)
          have harr : t = #[slot t 0, slot t 1, slot t 2, slot t 3, slot t 4, slot t 5, slot t 6, slot t 7, slot t 8, slot t 9, slot t 10, slot t 11, slot t 12, slot t 13, slot t 14, slot t 15, slot t 16, slot t 17, slot t 18, slot t 19, slot t 20, slot t 21, slot t 22, slot t 23, slot t 24, slot t 25, slot t 26, slot t 27, slot t 28, slot t 29, slot t 30, slot t 31, slot t 32, slot t 33, slot t 34, slot t 35, slot t 36, slot t 37, slot t 38] := arr_eq t 39 hsz
          rw [harr, h6, h7, h0, h1, h5]
          clear harr hfacts hf h6 h7 h0 h1 h5
          generalize slot t 2 = x2; generalize slot t 3 = x3; generalize slot t 4 = x4; generalize slot t 8 = x8; generalize slot t 9 = x9; generalize slot t 10 = x10; generalize slot t 11 = x11; generalize slot t 12 = x12; generalize slot t 13 = x13; generalize slot t 14 = x14; generalize slot t 15 = x15; generalize slot t 16 = x16
          generalize slot t 17 = x17; generalize slot t 18 = x18; generalize slot t 19 = x19; generalize slot t 20 = x20; generalize slot t 21 = x21; generalize slot t 22 = x22; generalize slot t 23 = x23; generalize slot t 24 = x24; generalize slot t 25 = x25; generalize slot t 26 = x26; generalize slot t 27 = x27; generalize slot t 28 = x28
          generalize slot t 29 = x29; generalize slot t 30 = x30; generalize slot t 31 = x31; generalize slot t 32 = x32; generalize slot t 33 = x33; generalize slot t 34 = x34; generalize slot t 35 = x35; generalize slot t 36 = x36; generalize slot t 37 = x37; generalize slot t 38 = x38
          clear hsz t
          have K0 := Lib.hid hk
          clear hk
          go_wp2_with fail
          refine (HC.out w1 K0.out.size (HF.out.kept K0.out) (HT.out.kept K0.out)).mono ?_
          rintro e w4 ⟨v, rfl, ho, k1⟩
          have O1 := Lib.hid ho
          have K1 := Lib.hid (K0.out.trans k1)
          clear ho k1 HC K0
          go_wp2_with fail
          refine (HTp.out w4 (HF.out.kept K1.out) (HT.out.kept K1.out)).mono ?_
          rintro e w2 ⟨rfl, k2⟩
          have O2 := Lib.hid (PaS.kept _ _ _ _ _ k2 O1.out)
          have K2 := Lib.hid (K1.out.trans k2)
          clear O1 K1 k2 HTp
          go_wp2_with (refine park_at 28 rfl ?_)
          refine unpark ?_
          refine wpList_exec 28 rfl (by rfl) (.slice (some ⟨w2.heap.size, 0, none⟩) 1 1) (w2.alloc (.cells (bC 32 B) 41)) (execBuild1 rfl rfl (run_build1h _ _)) ?_
          have R3 := Lib.hid (Rowz.new w2 (bC 32 B) 41)
          have O3 := Lib.hid (PaS.kept _ _ _ _ _ ((Kept.refl w2).alloc (.cells (bC 32 B) 41)) O2.out)
          have K3 := Lib.hid (K2.out.alloc (.cells (bC 32 B) 41))
          generalize w2.alloc (.cells (bC 32 B) 41) = w3 at R3 O3 K3 ⊢
          go_wp2_with (at_builtin; refine wpList_append_path rfl _ _ rfl w _ L _ rfl O3 rfl R3 (by omega) K3 ?_; intro v' w' O4 K4)
          go_ret
          exact ⟨_, rfl, O4.out, K4.out⟩
      · have HC : Hid (∀ w1 : World, w.heap.size ≤ w1.heap.size → HAt w1 (some q) n F → Tab w1 → Calls Tryd.prog 13 #[.slice (some (q.add (leftN n * 32))) (n - leftN n) (c - leftN n), .int .i64 ((i : Int) - (leftN n : Int))] w1 fun e w' => ∃ v, e = .returned v ∧ PaS w.heap.size (pathN (fun j => F (leftN n + j)) (n - leftN n) (i - leftN n)) v w' ∧ Kept w1 w') := Lib.hid fun w1 hb hF ht => by
          have h := PaS.mono w.heap.size hb (ih (n - leftN n) (by omega) (some (q.add (leftN n * 32))) (c - leftN n) (fun j => F (leftN n + j)) (i - leftN n) w1 (by omega) (by omega) (by omega) (hF.right _ (by omega)) ht)
          rwa [show ((i - leftN n : Nat) : Int) = (i : Int) - (leftN n : Int) by omega] at h
        have HTp : Hid (∀ w, HAt w (some q) n F → Tab w → _) := Lib.hid fun w hF ht => treeTop_any (leftN n) (some q) c F w (by omega) hm (hF.left _ (by omega)) ht
        rw [pathN_right F h2 (by omega)]
        have hlen : (pathN (fun j => F (leftN n + j)) (n - leftN n) (i - leftN n)).length ≤ 63 := pathN_len63 _ _ (by unfold maxLen at hm; omega)
        have hd1 : decide ((i : Int) < (leftN n : Int)) = false := decide_eq_false (by omega)
        have hd1' : decide (i < leftN n) = false := decide_eq_false hl
        clear ih
        generalize topN F (leftN n) = B at HTp ⊢
        generalize pathN (fun j => F (leftN n + j)) (n - leftN n) (i - leftN n) = L at HC hlen ⊢
        generalize leftN n = l at hL hP hSL hl HC HTp hd1 hd1'
        have hi63 : i < 9223372036854775807 := by unfold maxLen at hm; omega
        have HF := Lib.hid hF
        have HT := Lib.hid ht
        clear hF ht
        go_enter Tryd.func13, Tryd.ntmps13
        go_wp2_with (go_at_call 20; refine (hSL.out _).mono ?_; rintro e w1 ⟨rfl, rfl⟩)
        clear hSL
        refine wp_region_table [(14, .is (.slice (some q) n c)), (15, .is (.int .i64 (l : Int))), (16, .is (.slice (some q) l c)), (17, .is (.slice (some q) n c)), (18, .is (.int .i64 (l : Int))), (19, .is (.slice (some (q.add (l * 32))) (n - l) (c - l))), (6, .is (.slice (some q) l c)), (7, .is (.slice (some (q.add (l * 32))) (n - l) (c - l)))] (by kernel_rfl) (by kernel_rfl) ?_ ?_
        · refine ⟨fun t w1 hf hk hp => ?_, ?_⟩
          · have h0 : slot t 0 = .slice (some q) n c := hf 0 (by kernel_rfl)
            clear hf hp
            refine stepAt_plain rfl ?_
            exact stepOK_move _ (.inl rfl) h0
          refine ⟨fun t w1 hf hk hp => ?_, ?_⟩
          · have h5 : slot t 5 = .int .i64 (l : Int) := hf 5 (by kernel_rfl)
            clear hf hp
            refine stepAt_plain rfl ?_
            exact stepOK_move _ (.inl rfl) h5
          refine ⟨fun t w1 hf hk hp => ?_, ?_⟩
          · have h14 : slot t 14 = .slice (some q) n c := hp 14 (by kernel_rfl)
            have h15 : slot t 15 = .int .i64 (l : Int) := hp 15 (by kernel_rfl)
            clear hf hp
            refine stepAt_plain rfl ?_
            have hq0 := run_cutH_left q n c l w1 (by omega)
            exact stepOK_sem (.slice (some q) l c) (by simp only [execOp, evS, Option.map_some, Option.map_none, h14, h15]) hq0 rfl
          refine ⟨fun t w1 hf hk hp => ?_, ?_⟩
          · have h0 : slot t 0 = .slice (some q) n c := hf 0 (by kernel_rfl)
            clear hf hp
            refine stepAt_plain rfl ?_
            exact stepOK_move _ (.inl rfl) h0
          refine ⟨fun t w1 hf hk hp => ?_, ?_⟩
          · have h5 : slot t 5 = .int .i64 (l : Int) := hf 5 (by kernel_rfl)
            clear hf hp
            refine stepAt_plain rfl ?_
            exact stepOK_move _ (.inl rfl) h5
          refine ⟨fun t w1 hf hk hp => ?_, ?_⟩
          · have h17 : slot t 17 = .slice (some q) n c := hp 17 (by kernel_rfl)
            have h18 : slot t 18 = .int .i64 (l : Int) := hp 18 (by kernel_rfl)
            clear hf hp
            refine stepAt_plain rfl ?_
            have hq0 := run_cutH_right q n c l w1 (by omega) (by omega)
            exact stepOK_sem (.slice (some (q.add (l * 32))) (n - l) (c - l)) (by simp only [execOp, evS, Option.map_some, Option.map_none, h17, h18]) hq0 rfl
          refine ⟨fun t w1 hf hk hp => ?_, ?_⟩
          · have h16 : slot t 16 = .slice (some q) l c := hp 16 (by kernel_rfl)
            clear hf hp
            refine stepAt_plain rfl ?_
            exact stepOK_move _ (.inr rfl) h16
          refine ⟨fun t w1 hf hk hp => ?_, ?_⟩
          · have h19 : slot t 19 = .slice (some (q.add (l * 32))) (n - l) (c - l) := hp 19 (by kernel_rfl)
            clear hf hp
            refine stepAt_plain rfl ?_
            exact stepOK_move _ (.inr rfl) h19
          exact trivial
        · intro t w1 hsz hf hk hfacts
          have h6 : slot t 6 = .slice (some q) l c := hfacts 6 _ rfl 6 rfl
          have h7 : slot t 7 = .slice (some (q.add (l * 32))) (n - l) (c - l) := hfacts 7 _ rfl 7 rfl
          have h0 : slot t 0 = .slice (some q) n c := hf 0 (by kernel_rfl)
          have h1 : slot t 1 = .int .i64 (i : Int) := hf 1 (by kernel_rfl)
          have h5 : slot t 5 = .int .i64 (l : Int) := hf 5 (by kernel_rfl)
          have harr : t = #[slot t 0, slot t 1, slot t 2, slot t 3, slot t 4, slot t 5, slot t 6, slot t 7, slot t 8, slot t 9, slot t 10, slot t 11, slot t 12, slot t 13, slot t 14, slot t 15, slot t 16, slot t 17, slot t 18, slot t 19, slot t 20, slot t 21, slot t 22, slot t 23, slot t 24, slot t 25, slot t 26, slot t 27, slot t 28, slot t 29, slot t 30, slot t 31, slot t 32, slot t 33, slot t 34, slot t 35, slot t 36, slot t 37, slot t 38] := arr_eq t 39 hsz
          rw [harr, h6, h7, h0, h1, h5]
          clear harr hfacts hf h6 h7 h0 h1 h5
          generalize slot t 2 = x2; generalize slot t 3 = x3; generalize slot t 4 = x4; generalize slot t 8 = x8; generalize slot t 9 = x9; generalize slot t 10 = x10; generalize slot t 11 = x11; generalize slot t 12 = x12; generalize slot t 13 = x13; generalize slot t 14 = x14; generalize slot t 15 = x15; generalize slot t 16 = x16
          generalize slot t 17 = x17; generalize slot t 18 = x18; generalize slot t 19 = x19; generalize slot t 20 = x20; generalize slot t 21 = x21; generalize slot t 22 = x22; generalize slot t 23 = x23; generalize slot t 24 = x24; generalize slot t 25 = x25; generalize slot t 26 = x26; generalize slot t 27 = x27; generalize slot t 28 = x28
          generalize slot t 29 = x29; generalize slot t 30 = x30; generalize slot t 31 = x31; generalize slot t 32 = x32; generalize slot t 33 = x33; generalize slot t 34 = x34; generalize slot t 35 = x35; generalize slot t 36 = x36; generalize slot t 37 = x37; generalize slot t 38 = x38
          clear hsz t
          have K0 := Lib.hid hk
          clear hk
          go_wp2_with fail
          refine (HC.out w1 K0.out.size (HF.out.kept K0.out) (HT.out.kept K0.out)).mono ?_
          rintro e w4 ⟨v, rfl, ho, k1⟩
          have O1 := Lib.hid ho
          have K1 := Lib.hid (K0.out.trans k1)
          clear ho k1 HC K0
          go_wp2_with fail
          refine (HTp.out w4 (HF.out.kept K1.out) (HT.out.kept K1.out)).mono ?_
          rintro e w2 ⟨rfl, k2⟩
          have O2 := Lib.hid (PaS.kept _ _ _ _ _ k2 O1.out)
          have K2 := Lib.hid (K1.out.trans k2)
          clear O1 K1 k2 HTp
          go_wp2_with (refine park_at 37 rfl ?_)
          refine unpark ?_
          refine wpList_exec 37 rfl (by rfl) (.slice (some ⟨w2.heap.size, 0, none⟩) 1 1) (w2.alloc (.cells (bC 32 B) 41)) (execBuild1 rfl rfl (run_build1h _ _)) ?_
          have R3 := Lib.hid (Rowz.new w2 (bC 32 B) 41)
          have O3 := Lib.hid (PaS.kept _ _ _ _ _ ((Kept.refl w2).alloc (.cells (bC 32 B) 41)) O2.out)
          have K3 := Lib.hid (K2.out.alloc (.cells (bC 32 B) 41))
          generalize w2.alloc (.cells (bC 32 B) 41) = w3 at R3 O3 K3 ⊢
          go_wp2_with (at_builtin; refine wpList_append_path rfl _ _ rfl w _ L _ rfl O3 rfl R3 (by omega) K3 ?_; intro v' w' O4 K4)
          go_ret
          exact ⟨_, rfl, O4.out, K4.out⟩

def PathOkR (f : FuncId) (n : Nat) : Prop := ∀ (p : Option Addr) (c : Nat) (F : Nat → List UInt8) (i : Nat) (w : World), n ≤ c → c ≤ maxLen → i < n → HAt w p n F →
    Calls Tryd.prog f #[.slice p n c, .int .i64 (i : Int)] w fun e w' => ∃ v, e = .returned v ∧ PaS w.heap.size (pathN F n i) v w' ∧ Kept w w'
set_option maxRecDepth 100000 in
set_option maxHeartbeats 2000000 in
theorem refPath_any (n : Nat) : PathOkR 15 n := by
  induction n using Nat.strongRecOn with
  | _ n ih =>
    intro p c F i w hc hm hi hF
    by_cases h1 : n < 2
    · obtain rfl : n = 1 := by omega
      rw [pathN_one F i (by omega)]
      clear ih hF
      go_enter Tryd.func15, Tryd.ntmps15
      go_wp2
      go_ret
      exact ⟨_, rfl, PaS.nil _ _, Kept.refl w⟩
    · have h2 : 2 ≤ n := by omega
      obtain ⟨q, rfl, _⟩ := hF.some (by omega)
      have hL := leftN_lt h2
      have hP := leftN_pos h2
      have hSL : Hid (∀ w, Calls Tryd.prog 24 #[.int .i64 (n : Int)] w fun e w' => e = .returned (.int .i64 (leftN n : Int)) ∧ w = w') := Lib.hid fun w => refLeft_any (n : Int) w (by unfold maxLen at hm; omega)
      have hd0 : ((n : Int) == 1) = false := by rw [beq_eq_false_iff_ne]; omega
      have hd0' : ¬ (n : Int) = 1 := by omega
      by_cases hl : i < leftN n
      · have HC : Hid (∀ w1 : World, w.heap.size ≤ w1.heap.size → HAt w1 (some q) n F → _) := Lib.hid fun w1 hb hF => PaS.mono w.heap.size hb (ih (leftN n) hL (some q) c F i w1 (by omega) hm hl (hF.left _ (by omega)))
        have HTp : Hid (∀ w, HAt w (some q) n F → _) := Lib.hid fun w hF => refTop_any (n - leftN n) (some (q.add (leftN n * 32))) (c - leftN n) (fun i => F (leftN n + i)) w (by omega) (by omega) (hF.right _ (by omega))
        rw [pathN_left F h2 hl]
        have hlen : (pathN F (leftN n) i).length ≤ 63 := pathN_len63 F i (by unfold maxLen at hm; omega)
        have hd1 : decide ((i : Int) < (leftN n : Int)) = true := decide_eq_true (by omega)
        have hd1' : decide (i < leftN n) = true := decide_eq_true hl
        clear ih
        generalize topN (fun j => F (leftN n + j)) (n - leftN n) = B at HTp ⊢
        generalize pathN F (leftN n) i = L at HC hlen ⊢
        generalize leftN n = l at hL hP hSL hl HC HTp hd1 hd1'
        have HF := Lib.hid hF
        clear hF
        go_enter Tryd.func15, Tryd.ntmps15
        go_wp2_with (go_at_call 24; refine (hSL.out _).mono ?_; rintro e w1 ⟨rfl, rfl⟩)
        refine wp_region_tail 10 [(15, .is (.slice (some q) n c)), (16, .is (.int .i64 (l : Int))), (17, .is (.slice (some q) l c)), (18, .is (.int .i64 (i : Int))), (19, .such (PaS w.heap.size L) (PaS.kept w.heap.size L)), (20, .is (.slice (some q) n c)), (21, .is (.int .i64 (l : Int))), (22, .is (.slice (some (q.add (l * 32))) (n - l) (c - l))), (23, .is (.agg (bC 32 B))), (24, .row (sliceAt0 1) (bC 32 B) 41)] (by kernel_rfl) (by kernel_rfl) ?_ ?_
        · refine ⟨fun t w1 hf hk hp => ?_, ?_⟩
          · have h0 : slot t 0 = .slice (some q) n c := hf 0 (by kernel_rfl)
            clear hf hp
            refine stepM_at (by kernel_rfl) ?_
            refine stepAt_plain rfl ?_
            exact stepOK_move _ (.inl rfl) h0
          refine ⟨fun t w1 hf hk hp => ?_, ?_⟩
          · have h5 : slot t 5 = .int .i64 (l : Int) := hf 5 (by kernel_rfl)
            clear hf hp
            refine stepM_at (by kernel_rfl) ?_
            refine stepAt_plain rfl ?_
            exact stepOK_move _ (.inl rfl) h5
          refine ⟨fun t w1 hf hk hp => ?_, ?_⟩
          · have h15 : slot t 15 = .slice (some q) n c := hp 15 (by kernel_rfl)
            have h16 : slot t 16 = .int .i64 (l : Int) := hp 16 (by kernel_rfl)
            clear hf hp
            refine stepM_at (by kernel_rfl) ?_
            refine stepAt_plain rfl ?_
            have hq0 := run_cutH_left q n c l w1 (by omega)
            exact stepOK_sem (.slice (some q) l c) (by simp only [execOp, evS, Option.map_some, Option.map_none, h15, h16]) hq0 rfl
          refine ⟨fun t w1 hf hk hp => ?_, ?_⟩
          · have h1 : slot t 1 = .int .i64 (i : Int) := hf 1 (by kernel_rfl)
            clear hf hp
            refine stepM_at (by kernel_rfl) ?_
            refine stepAt_plain rfl ?_
            exact stepOK_move _ (.inl rfl) h1
          refine ⟨fun t w1 hf hk hp => ?_, ?_⟩
          · have h17 : slot t 17 = .slice (some q) l c := hp 17 (by kernel_rfl)
            have h18 : slot t 18 = .int .i64 (i : Int) := hp 18 (by kernel_rfl)
            clear hf hp
            refine stepM_at (by kernel_rfl) ?_
            refine stepAt_plain rfl ?_
            refine stepOK_call #[.slice (some q) l c, .int .i64 (i : Int)] rfl (by simp only [List.map_toArray, List.map_cons, List.map_nil, evS, h17, h18]) (by go_simp) ((HC.out w1 hk.size (HF.out.kept hk)).mono fun e w' ⟨v, he, hpv, hk'⟩ => ⟨v, he, hk', hpv⟩)
          refine ⟨fun t w1 hf hk hp => ?_, ?_⟩
          · have h0 : slot t 0 = .slice (some q) n c := hf 0 (by kernel_rfl)
            clear hf hp
            refine stepM_at (by kernel_rfl) ?_
            refine stepAt_plain rfl ?_
            exact stepOK_move _ (.inl rfl) h0
          refine ⟨fun t w1 hf hk hp => ?_, ?_⟩
          · have h5 : slot t 5 = .int .i64 (l : Int) := hf 5 (by kernel_rfl)
            clear hf hp
            refine stepM_at (by kernel_rfl) ?_
            refine stepAt_plain rfl ?_
            exact stepOK_move _ (.inl rfl) h5
          refine ⟨fun t w1 hf hk hp => ?_, ?_⟩
          · have h20 : slot t 20 = .slice (some q) n c := hp 20 (by kernel_rfl)
            have h21 : slot t 21 = .int .i64 (l : Int) := hp 21 (by kernel_rfl)
            clear hf hp
            refine stepM_at (by kernel_rfl) ?_
            refine stepAt_plain rfl ?_
            have hq0 := run_cutH_right q n c l w1 (by omega) (by omega)
            exact stepOK_sem (.slice (some (q.add (l * 32))) (n - l) (c - l)) (by simp only [execOp, evS, Option.map_some, Option.map_none, h20, h21]) hq0 rfl
          refine ⟨fun t w1 hf hk hp => ?_, ?_⟩
          · have h22 : slot t 22 = .slice (some (q.add (l * 32))) (n - l) (c - l) := hp 22 (by kernel_rfl)
            clear hf hp
            refine stepM_at (by kernel_rfl) ?_
            refine stepAt_plain rfl ?_
            refine stepOK_call #[.slice (some (q.add (l * 32))) (n - l) (c - l)] rfl (by simp only [List.map_toArray, List.map_cons, List.map_nil, evS, h22]) (by go_simp) ((HTp.out w1 (HF.out.kept hk)).mono fun e w' ⟨he, hk'⟩ => ⟨_, he, hk', rfl⟩)
          refine ⟨fun t w1 hf hk hp => ?_, ?_⟩
          · have h23 : slot t 23 = .agg (bC 32 B) := hp 23 (by kernel_rfl)
            clear hf hp
            refine stepM_at (by kernel_rfl) ?_
            refine stepAt_plain rfl ?_
            exact .value ((sliceAt0 1) w1.heap.size) (w1.alloc (.cells (bC 32 B) 41)) (execBuild1 rfl h23 (run_build1h B w1)) ((Kept.refl w1).alloc _) ⟨_, rfl, Rowz.new w1 _ _⟩
          exact trivial
        · intro t w1 hsz hf hk hfacts
          obtain ⟨v19, h19, p19⟩ : ∃ v, slot t 19 = v ∧ (PaS w.heap.size L) v w1 := ⟨_, rfl, hfacts 4 _ (by decide) rfl 19 rfl⟩
          obtain ⟨g24, h24, r24⟩ : ∃ g, slot t 24 = (sliceAt0 1) g ∧ Rowz w1 g (bC 32 B) 41 := hfacts 9 _ (by decide) rfl 24 rfl
          simp only [sliceAt0] at h24
          have h0 : slot t 0 = .slice (some q) n c := hf 0 (by kernel_rfl)
          have h1 : slot t 1 = .int .i64 (i : Int) := hf 1 (by kernel_rfl)
          have h5 : slot t 5 = .int .i64 (l : Int) := hf 5 (by kernel_rfl)
          have harr : t = #[slot t 0, slot t 1, slot t 2, slot t 3, slot t 4, slot t 5, slot t 6, slot t 7, slot t 8, slot t 9, slot t 10, slot t 11, slot t 12, slot t 13, slot t 14, slot t 15, slot t 16, slot t 17, slot t 18, slot t 19, slot t 20, slot t 21, slot t 22, slot t 23, slot t 24, slot t 25, slot t 26, slot t 27, slot t 28, slot t 29, slot t 30, slot t 31, slot t 32, slot t 33, slot t 34, slot t 35, slot t 36, slot t 37, slot t 38] := arr_eq t 39 hsz
          rw [harr, h19, h24, h0, h1, h5]
          clear harr hfacts hf h19 h24 h0 h1 h5
          generalize slot t 2 = x2; generalize slot t 3 = x3; generalize slot t 4 = x4; generalize slot t 6 = x6; generalize slot t 7 = x7; generalize slot t 8 = x8; generalize slot t 9 = x9; generalize slot t 10 = x10; generalize slot t 11 = x11; generalize slot t 12 = x12; generalize slot t 13 = x13; generalize slot t 14 = x14
          generalize slot t 15 = x15; generalize slot t 16 = x16; generalize slot t 17 = x17; generalize slot t 18 = x18; generalize slot t 20 = x20; generalize slot t 21 = x21; generalize slot t 22 = x22; generalize slot t 23 = x23; generalize slot t 25 = x25; generalize slot t 26 = x26; generalize slot t 27 = x27; generalize slot t 28 = x28
          generalize slot t 29 = x29; generalize slot t 30 = x30; generalize slot t 31 = x31; generalize slot t 32 = x32; generalize slot t 33 = x33; generalize slot t 34 = x34; generalize slot t 35 = x35; generalize slot t 36 = x36; generalize slot t 37 = x37; generalize slot t 38 = x38
          clear hsz t
          simp only [List.drop_succ_cons, List.drop_zero]
          have O1 := Lib.hid p19
          have R1 := Lib.hid r24
          have K1 := Lib.hid hk
          clear p19 r24 hk
          go_wp2_with (at_builtin; refine wpList_append_path rfl _ _ rfl w v19 L g24 rfl O1 rfl R1 (by omega) K1 ?_; intro v' w' O4 K4)
          go_ret
          exact ⟨_, rfl, O4.out, K4.out⟩
      · have HC : Hid (∀ w1 : World, w.heap.size ≤ w1.heap.size → HAt w1 (some q) n F → Calls Tryd.prog 15 #[.slice (some (q.add (leftN n * 32))) (n - leftN n) (c - leftN n), .int .i64 ((i : Int) - (leftN n : Int))] w1 fun e w' => ∃ v, e = .returned v ∧ PaS w.heap.size (pathN (fun j => F (leftN n + j)) (n - leftN n) (i - leftN n)) v w' ∧ Kept w1 w') := Lib.hid fun w1 hb hF => by
          have h := PaS.mono w.heap.size hb (ih (n - leftN n) (by omega) (some (q.add (leftN n * 32))) (c - leftN n) (fun j => F (leftN n + j)) (i - leftN n) w1 (by omega) (by omega) (by omega) (hF.right _ (by omega)))
          rwa [show ((i - leftN n : Nat) : Int) = (i : Int) - (leftN n : Int) by omega] at h
        have HTp : Hid (∀ w, HAt w (some q) n F → _) := Lib.hid fun w hF => refTop_any (leftN n) (some q) c F w (by omega) hm (hF.left _ (by omega))
        rw [pathN_right F h2 (by omega)]
        have hlen : (pathN (fun j => F (leftN n + j)) (n - leftN n) (i - leftN n)).length ≤ 63 := pathN_len63 _ _ (by unfold maxLen at hm; omega)
        have hd1 : decide ((i : Int) < (leftN n : Int)) = false := decide_eq_false (by omega)
        have hd1' : decide (i < leftN n) = false := decide_eq_false hl
        clear ih
        generalize topN F (leftN n) = B at HTp ⊢
        generalize pathN (fun j => F (leftN n + j)) (n - leftN n) (i - leftN n) = L at HC hlen ⊢
        generalize leftN n = l at hL hP hSL hl HC HTp hd1 hd1'
        have hi63 : i < 9223372036854775807 := by unfold maxLen at hm; omega
        have HF := Lib.hid hF
        clear hF
        go_enter Tryd.func15, Tryd.ntmps15
        go_wp2_with (go_at_call 24; refine (hSL.out _).mono ?_; rintro e w1 ⟨rfl, rfl⟩)
        refine wp_region_tail 12 [(26, .is (.slice (some q) n c)), (27, .is (.int .i64 (l : Int))), (28, .is (.slice (some (q.add (l * 32))) (n - l) (c - l))), (29, .is (.int .i64 (i : Int))), (30, .is (.int .i64 (l : Int))), (31, .is (.int .i64 ((i : Int) - (l : Int)))), (32, .such (PaS w.heap.size L) (PaS.kept w.heap.size L)), (33, .is (.slice (some q) n c)), (34, .is (.int .i64 (l : Int))), (35, .is (.slice (some q) l c)), (36, .is (.agg (bC 32 B))), (37, .row (sliceAt0 1) (bC 32 B) 41)] (by kernel_rfl) (by kernel_rfl) ?_ ?_
        · refine ⟨fun t w1 hf hk hp => ?_, ?_⟩
          · have h0 : slot t 0 = .slice (some q) n c := hf 0 (by kernel_rfl)
            clear hf hp
            refine stepM_at (by kernel_rfl) ?_
            refine stepAt_plain rfl ?_
            exact stepOK_move _ (.inl rfl) h0
          refine ⟨fun t w1 hf hk hp => ?_, ?_⟩
          · have h5 : slot t 5 = .int .i64 (l : Int) := hf 5 (by kernel_rfl)
            clear hf hp
            refine stepM_at (by kernel_rfl) ?_
            refine stepAt_plain rfl ?_
            exact stepOK_move _ (.inl rfl) h5
          refine ⟨fun t w1 hf hk hp => ?_, ?_⟩
          · have h26 : slot t 26 = .slice (some q) n c := hp 26 (by kernel_rfl)
            have h27 : slot t 27 = .int .i64 (l : Int) := hp 27 (by kernel_rfl)
            clear hf hp
            refine stepM_at (by kernel_rfl) ?_
            refine stepAt_plain rfl ?_
            have hq0 := run_cutH_right q n c l w1 (by omega) (by omega)
            exact stepOK_sem (.slice (some (q.add (l * 32))) (n - l) (c - l)) (by simp only [execOp, evS, Option.map_some, Option.map_none, h26, h27]) hq0 rfl
          refine ⟨fun t w1 hf hk hp => ?_, ?_⟩
          · have h1 : slot t 1 = .int .i64 (i : Int) := hf 1 (by kernel_rfl)
            clear hf hp
            refine stepM_at (by kernel_rfl) ?_
            refine stepAt_plain rfl ?_
            exact stepOK_move _ (.inl rfl) h1
          refine ⟨fun t w1 hf hk hp => ?_, ?_⟩
          · have h5 : slot t 5 = .int .i64 (l : Int) := hf 5 (by kernel_rfl)
            clear hf hp
            refine stepM_at (by kernel_rfl) ?_
            refine stepAt_plain rfl ?_
            exact stepOK_move _ (.inl rfl) h5
          refine ⟨fun t w1 hf hk hp => ?_, ?_⟩
          · have h29 : slot t 29 = .int .i64 (i : Int) := hp 29 (by kernel_rfl)
            have h30 : slot t 30 = .int .i64 (l : Int) := hp 30 (by kernel_rfl)
            clear hf hp
            refine stepM_at (by kernel_rfl) ?_
            refine stepAt_plain rfl ?_
            have hq0 := wrap_sub i l (by omega) hi63
            refine stepOK_pure (.int .i64 ((i : Int) - (l : Int))) ?_ rfl
            simp only [execOp, evS, h29, h30]
            go_simp
          refine ⟨fun t w1 hf hk hp => ?_, ?_⟩
          · have h28 : slot t 28 = .slice (some (q.add (l * 32))) (n - l) (c - l) := hp 28 (by kernel_rfl)
            have h31 : slot t 31 = .int .i64 ((i : Int) - (l : Int)) := hp 31 (by kernel_rfl)
            clear hf hp
            refine stepM_at (by kernel_rfl) ?_
            refine stepAt_plain rfl ?_
            refine stepOK_call #[.slice (some (q.add (l * 32))) (n - l) (c - l), .int .i64 ((i : Int) - (l : Int))] rfl (by simp only [List.map_toArray, List.map_cons, List.map_nil, evS, h28, h31]) (by go_simp) ((HC.out w1 hk.size (HF.out.kept hk)).mono fun e w' ⟨v, he, hpv, hk'⟩ => ⟨v, he, hk', hpv⟩)
          refine ⟨fun t w1 hf hk hp => ?_, ?_⟩
          · have h0 : slot t 0 = .slice (some q) n c := hf 0 (by kernel_rfl)
            clear hf hp
            refine stepM_at (by kernel_rfl) ?_
            refine stepAt_plain rfl ?_
            exact stepOK_move _ (.inl rfl) h0
          refine ⟨fun t w1 hf hk hp => ?_, ?_⟩
          · have h5 : slot t 5 = .int .i64 (l : Int) := hf 5 (by kernel_rfl)
            clear hf hp
            refine stepM_at (by kernel_rfl) ?_
            refine stepAt_plain rfl ?_
            exact stepOK_move _ (.inl rfl) h5
          refine ⟨fun t w1 hf hk hp => ?_, ?_⟩
          · have h33 : slot t 33 = .slice (some q) n c := hp 33 (by kernel_rfl)
            have h34 : slot t 34 = .int .i64 (l : Int) := hp 34 (by kernel_rfl)
            clear hf hp
            refine stepM_at (by kernel_rfl) ?_
            refine stepAt_plain rfl ?_
            have hq0 := run_cutH_left q n c l w1 (by omega)
            exact stepOK_sem (.slice (some q) l c) (by simp only [execOp, evS, Option.map_some, Option.map_none, h33, h34]) hq0 rfl
          refine ⟨fun t w1 hf hk hp => ?_, ?_⟩
          · have h35 : slot t 35 = .slice (some q) l c := hp 35 (by kernel_rfl)
            clear hf hp
            refine stepM_at (by kernel_rfl) ?_
            refine stepAt_plain rfl ?_
            refine stepOK_call #[.slice (some q) l c] rfl (by simp only [List.map_toArray, List.map_cons, List.map_nil, evS, h35]) (by go_simp) ((HTp.out w1 (HF.out.kept hk)).mono fun e w' ⟨he, hk'⟩ => ⟨_, he, hk', rfl⟩)
          refine ⟨fun t w1 hf hk hp => ?_, ?_⟩
          · have h36 : slot t 36 = .agg (bC 32 B) := hp 36 (by kernel_rfl)
            clear hf hp
            refine stepM_at (by kernel_rfl) ?_
            refine stepAt_plain rfl ?_
            exact .value ((sliceAt0 1) w1.heap.size) (w1.alloc (.cells (bC 32 B) 41)) (execBuild1 rfl h36 (run_build1h B w1)) ((Kept.refl w1).alloc _) ⟨_, rfl, Rowz.new w1 _ _⟩
          exact trivial
        · intro t w1 hsz hf hk hfacts
          obtain ⟨v32, h32, p32⟩ : ∃ v, slot t 32 = v ∧ (PaS w.heap.size L) v w1 := ⟨_, rfl, hfacts 6 _ (by decide) rfl 32 rfl⟩
          obtain ⟨g37, h37, r37⟩ : ∃ g, slot t 37 = (sliceAt0 1) g ∧ Rowz w1 g (bC 32 B) 41 := hfacts 11 _ (by decide) rfl 37 rfl
          simp only [sliceAt0] at h37
          have h0 : slot t 0 = .slice (some q) n c := hf 0 (by kernel_rfl)
          have h1 : slot t 1 = .int .i64 (i : Int) := hf 1 (by kernel_rfl)
          have h5 : slot t 5 = .int .i64 (l : Int) := hf 5 (by kernel_rfl)
          have harr : t = #[slot t 0, slot t 1, slot t 2, slot t 3, slot t 4, slot t 5, slot t 6, slot t 7, slot t 8, slot t 9, slot t 10, slot t 11, slot t 12, slot t 13, slot t 14, slot t 15, slot t 16, slot t 17, slot t 18, slot t 19, slot t 20, slot t 21, slot t 22, slot t 23, slot t 24, slot t 25, slot t 26, slot t 27, slot t 28, slot t 29, slot t 30, slot t 31, slot t 32, slot t 33, slot t 34, slot t 35, slot t 36, slot t 37, slot t 38] := arr_eq t 39 hsz
          rw [harr, h32, h37, h0, h1, h5]
          clear harr hfacts hf h32 h37 h0 h1 h5
          generalize slot t 2 = x2; generalize slot t 3 = x3; generalize slot t 4 = x4; generalize slot t 6 = x6; generalize slot t 7 = x7; generalize slot t 8 = x8; generalize slot t 9 = x9; generalize slot t 10 = x10; generalize slot t 11 = x11; generalize slot t 12 = x12; generalize slot t 13 = x13; generalize slot t 14 = x14
          generalize slot t 15 = x15; generalize slot t 16 = x16; generalize slot t 17 = x17; generalize slot t 18 = x18; generalize slot t 19 = x19; generalize slot t 20 = x20; generalize slot t 21 = x21; generalize slot t 22 = x22; generalize slot t 23 = x23; generalize slot t 24 = x24; generalize slot t 25 = x25; generalize slot t 26 = x26
          generalize slot t 27 = x27; generalize slot t 28 = x28; generalize slot t 29 = x29; generalize slot t 30 = x30; generalize slot t 31 = x31; generalize slot t 33 = x33; generalize slot t 34 = x34; generalize slot t 35 = x35; generalize slot t 36 = x36; generalize slot t 38 = x38
          clear hsz t
          simp only [List.drop_succ_cons, List.drop_zero]
          have O1 := Lib.hid p32
          have R1 := Lib.hid r37
          have K1 := Lib.hid hk
          clear p32 r37 hk
          go_wp2_with (at_builtin; refine wpList_append_path rfl _ _ rfl w v32 L g37 rfl O1 rfl R1 (by omega) K1 ?_; intro v' w' O4 K4)
          go_ret
          exact ⟨_, rfl, O4.out, K4.out⟩
end Go.Proofs.YtecfgjoomckleaaDoor
