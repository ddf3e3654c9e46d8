/-
  For layer 14's laws: comparisons of hashes in drawn statements, a pointer at a hash, awake of milepostlaw14. Conditions: sha's table of round constants stands.
-/
import Derived.Test.YtljkhlbfjcbkiaaDoorHoldWalkC
import Derived.Test.YtljkhlbfjcbkiaaDoorStrLib
namespace Go.Proofs.YtljkhlbfjcbkiaaDoor
set_option maxRecDepth 4000
open Go.RowKit

theorem execNeHr {o : Oper} {t : Array Value} {x y : Operand} {l : List UInt8} (hl : l.length = 32) (w : World) (ho : o.op = .binOp .neq 23 x y 23) (hx : evS t x = .agg (bC 32 l)) (hy : evS t y = .agg (bC 32 l)) :
    (execOp (evS t) o).run Tryd.prog w = .ok (.value (.bool false)) w := by
  have h := execNeHs l l hl hl w ho hx hy
  simpa using h
/-- A pointer at a hash. -/
def PtH (l : List UInt8) (v : Value) (w : World) : Prop := ∃ a : Addr, v = .pointer (some a) ∧ HAt w (some a) 1 (fun _ => l)
theorem PtH.kept (l : List UInt8) (v : Value) (w w' : World) (K : Kept w w') (h : PtH l v w) : PtH l v w' := by
  obtain ⟨a, hv, h⟩ := h
  exact ⟨a, hv, h.kept K⟩
theorem execPtH {o : Oper} {t : Array Value} {x y : Operand} {v : Value} {n : Nat} {F : Nat → List UInt8} {w : World} (k : Nat) (l : List UInt8) (hk : k < n) (hl : F k = l) (ho : o.op = .indexAddr 24 x y) (hx : evS t x = v) (hy : evS t y = .int .i64 (k : Int)) (hv : HSl n F v w) :
    ∃ v' w', (execOp (evS t) o).run Tryd.prog w = .ok (.value v') w' ∧ Kept w w' ∧ PtH l v' w' := by
  subst hl
  obtain ⟨p, c, rfl, _, _, hH⟩ := hv
  obtain ⟨q, rfl, _⟩ := hH.some (by omega)
  refine ⟨_, w, execIndexH q n c k hk w ho hx hy, Kept.refl w, _, rfl, ?_⟩
  have h := (hH.right k (by omega)).left 1 (by omega)
  intro i hi
  obtain rfl : i = 0 := by omega
  exact h 0 (by omega)
theorem execLoadPt {o : Oper} {t : Array Value} {x : Operand} {v : Value} {l : List UInt8} {w : World} (ho : o.op = .load 23 x) (hx : evS t x = v) (hv : PtH l v w) :
    (execOp (evS t) o).run Tryd.prog w = .ok (.value (.agg (bC 32 l))) w := by
  obtain ⟨a, rfl, h⟩ := hv
  exact execLoadAt ho hx (h.load0 (by omega))

def aS14 (_ : Nat) : ByteArray := ⟨#[97]⟩
theorem sat_one {w : World} {g : Nat} {s : ByteArray} (h : Rowz w g #[.string s] 9) : SAt w (some ⟨g, 0, none⟩) 1 (fun _ => s) := fun i hi => by
  obtain rfl : i = 0 := by omega
  exact ⟨_, rfl, h.lt, h.cell 0⟩
theorem may_one : mayE 0 1 0 = 0 := by
  rw [mayE_zero, show (0 : Int) = ((0 : Nat) : Int) from rfl, show (1 : Int) = ((1 : Nat) : Int) from rfl, depthI_yes (by omega)]
  refine ⟨by omega, ?_⟩
  rw [← sidesN_length, sidesN_one 0 (by omega)]; rfl
theorem rt_one (F : Nat → List UInt8) : rtO ⟨#[97]⟩ 0 1 0 F = shaL (rootS 1 (shaL (leafS ⟨#[97]⟩))) := by
  rw [rtO, if_pos may_one]
  show shaL (rootS 1 (upL 1 0 _ _)) = _
  rw [upL_one 0 (by omega)]
theorem rootL_one (S : Nat → ByteArray) : rootL S 1 = shaL (rootS 1 (shaL (leafS (S 0)))) := by rw [rootL, topN_one]; rfl
set_option maxRecDepth 100000 in
set_option maxHeartbeats 1000000 in
theorem awake14_any (w : World) (ht : Tab w) : Calls Tryd.prog 5 #[] w fun e w' => e = .returned (.bool true) ∧ Kept w w' := by
  have HX : Hid (∀ w, HSl 0 (fun _ => []) (.slice none 0 0) w) := Lib.hid fun w => ⟨none, 0, rfl, Nat.le_refl _, Nat.zero_le _, HAt.zero _ _ _⟩
  obtain ⟨A, hA⟩ : ∃ A, A = shaL (rootS 1 (shaL (leafS ⟨#[97]⟩))) := ⟨_, rfl⟩
  have hA32 : A.length = 32 := by rw [hA]; exact shaL_length _
  have hAz : A ≠ zeroH := by rw [hA]; exact root_a
  have H0 : Hid (∀ (w : World) (g : Nat), Rowz w g #[.string ⟨#[97]⟩] 9 → Calls Tryd.prog 19 #[.slice (some ⟨g, 0, none⟩) 1 1] w fun e w' => e = .returned (.agg (bC 32 A)) ∧ Kept w w') := Lib.hid fun w g h => by
    have := refRoot11_any (some ⟨g, 0, none⟩) 1 1 (fun _ => ⟨#[97]⟩) w (sat_one h) (fun _ _ => by show 1 ≤ 1000000; omega) (by omega)
    rwa [rootL_one, ← hA] at this
  have H1 : Hid (∀ w, Tab w → Calls Tryd.prog 11 #[.agg (bC 32 A), .string ⟨#[97]⟩, .agg #[.int .i64 0, .int .i64 1, .slice none 0 0]] w fun e w' => e = .returned (.bool true) ∧ Kept w w') := Lib.hid fun w ht => by
    have := holdCheck_any A hA32 ⟨#[97]⟩ (by show 1 ≤ 1000000; omega) 0 1 0 (fun _ => []) (.slice none 0 0) w (HX.out w) ht
    have e : ckO A ⟨#[97]⟩ 0 1 0 (fun _ => []) = true := decide_eq_true ⟨may_one, by rw [rt_one, hA]⟩
    rwa [e] at this
  have H2 : Hid (∀ w, Tab w → Calls Tryd.prog 11 #[.agg (bC 32 []), .string ⟨#[97]⟩, .agg #[.int .i64 0, .int .i64 1, .slice none 0 0]] w fun e w' => e = .returned (.bool false) ∧ Kept w w') := Lib.hid fun w ht => by
    have := holdCheck_any zeroH rfl ⟨#[97]⟩ (by show 1 ≤ 1000000; omega) 0 1 0 (fun _ => []) (.slice none 0 0) w (HX.out w) ht
    have e : ckO zeroH ⟨#[97]⟩ 0 1 0 (fun _ => []) = false := decide_eq_false fun h => hAz (by rw [hA, ← rt_one (fun _ => [])]; exact h.2)
    rw [zero_hashC]
    rwa [e] at this
  have HT := Lib.hid ht
  clear ht HX hA hAz hA32
  go_enter Tryd.func5, Tryd.ntmps5
  go_wp2_with (refine wpList_store_made rfl 26 _ _ rfl _ _ #[.int .i64 0, .int .i64 1, .slice none 0 0] rfl rfl 26 _ rfl (opR_size 0 1 (.slice none 0 0)) rfl (opR_one 0 1 none 0 0) ?_; intro v1 R1 k1)
  refine wp_region_table [(3, .row (sliceAt0 1) #[.string ⟨#[97]⟩] 9), (4, .is (.agg (bC 32 A))), (5, .is (.agg #[.int .i64 0, .int .i64 1, .slice none 0 0])), (6, .is (.bool true)), (7, .is (.bool true)), (8, .is (.agg (bC 32 []))), (9, .is (.agg #[.int .i64 0, .int .i64 1, .slice none 0 0])), (10, .is (.bool false)), (11, .is (.bool true)), (12, .is (.bool true)), (0, .is (.bool true))] (by kernel_rfl) (by kernel_rfl) ?_ ?_
  · refine ⟨fun t w1 hf hk hp => ?_, ?_⟩
    · clear hf hp
      refine stepAt_plain rfl ?_
      have hq0 := run_build1s ⟨#[97]⟩ w1
      refine .value ((sliceAt0 1) w1.heap.size) (w1.alloc (.cells #[.string ⟨#[97]⟩] 9)) ?_ ((Kept.refl w1).alloc _) ⟨_, rfl, Rowz.new w1 _ _⟩
      simp only [execOp, evS, List.map_toArray, List.map_cons, List.map_nil, sliceAt0]
      go_simp
    refine ⟨fun t w1 hf hk hp => ?_, ?_⟩
    · obtain ⟨g3, h3, r3⟩ : ∃ g, slot t 3 = (sliceAt0 1) g ∧ Rowz w1 g #[.string ⟨#[97]⟩] 9 := hp 3 (by kernel_rfl)
      simp only [sliceAt0] at h3
      clear hf hp
      refine stepAt_plain rfl ?_
      refine stepOK_call #[.slice (some ⟨g3, 0, none⟩) 1 1] rfl (by simp only [List.map_toArray, List.map_cons, List.map_nil, evS, h3]) (by go_simp) ((H0.out w1 g3 r3).mono fun e w' ⟨he, hk'⟩ => ⟨_, he, hk', rfl⟩)
    refine ⟨fun t w1 hf hk hp => ?_, ?_⟩
    · have h1 : slot t 1 = .pointer (some ⟨w.heap.size, 0, none⟩) := hf 1 (by kernel_rfl)
      clear hf hp
      refine stepAt_plain rfl ?_
      exact stepOK_pure (.agg #[.int .i64 0, .int .i64 1, .slice none 0 0]) (loadO rfl h1 (R1.out.kept hk) rfl) rfl
    refine ⟨fun t w1 hf hk hp => ?_, ?_⟩
    · have h4 : slot t 4 = .agg (bC 32 A) := hp 4 (by kernel_rfl)
      have h5 : slot t 5 = .agg #[.int .i64 0, .int .i64 1, .slice none 0 0] := hp 5 (by kernel_rfl)
      clear hf hp
      refine stepAt_plain rfl ?_
      refine stepOK_call #[.agg (bC 32 A), Value.string { data := #[97] }, .agg #[.int .i64 0, .int .i64 1, .slice none 0 0]] rfl (by simp only [List.map_toArray, List.map_cons, List.map_nil, evS, h4, h5]) (by go_simp) ((H1.out w1 (HT.out.kept (k1.out.trans hk))).mono fun e w' ⟨he, hk'⟩ => ⟨_, he, hk', rfl⟩)
    refine ⟨fun t w1 hf hk hp => ?_, ?_⟩
    · have h6 : slot t 6 = .bool true := hp 6 (by kernel_rfl)
      clear hf hp
      refine stepAt_plain rfl ?_
      exact stepOK_move _ (.inl rfl) h6
    refine ⟨fun t w1 hf hk hp => ?_, ?_⟩
    · have h7 : slot t 7 = .bool true := hp 7 (by kernel_rfl)
      clear hf hp
      refine stepAt_on 7 true (by kernel_rfl) h7 ?_
      exact stepOK_pure (.agg (bC 32 [])) (execBuild0 rfl (run_build0 _)) rfl
    refine ⟨fun t w1 hf hk hp => ?_, ?_⟩
    · have h1 : slot t 1 = .pointer (some ⟨w.heap.size, 0, none⟩) := hf 1 (by kernel_rfl)
      have h7 : slot t 7 = .bool true := hp 7 (by kernel_rfl)
      clear hf hp
      refine stepAt_on 7 true (by kernel_rfl) h7 ?_
      exact stepOK_pure (.agg #[.int .i64 0, .int .i64 1, .slice none 0 0]) (loadO rfl h1 (R1.out.kept hk) rfl) rfl
    refine ⟨fun t w1 hf hk hp => ?_, ?_⟩
    · have h8 : slot t 8 = .agg (bC 32 []) := hp 8 (by kernel_rfl)
      have h9 : slot t 9 = .agg #[.int .i64 0, .int .i64 1, .slice none 0 0] := hp 9 (by kernel_rfl)
      have h7 : slot t 7 = .bool true := hp 7 (by kernel_rfl)
      clear hf hp
      refine stepAt_on 7 true (by kernel_rfl) h7 ?_
      refine stepOK_call #[.agg (bC 32 []), Value.string { data := #[97] }, .agg #[.int .i64 0, .int .i64 1, .slice none 0 0]] rfl (by simp only [List.map_toArray, List.map_cons, List.map_nil, evS, h8, h9]) (by go_simp) ((H2.out w1 (HT.out.kept (k1.out.trans hk))).mono fun e w' ⟨he, hk'⟩ => ⟨_, he, hk', rfl⟩)
    refine ⟨fun t w1 hf hk hp => ?_, ?_⟩
    · have h10 : slot t 10 = .bool false := hp 10 (by kernel_rfl)
      have h7 : slot t 7 = .bool true := hp 7 (by kernel_rfl)
      clear hf hp
      refine stepAt_on 7 true (by kernel_rfl) h7 ?_
      refine stepOK_pure (.bool true) ?_ rfl
      simp only [execOp, evS, h10]
      go_simp
    refine ⟨fun t w1 hf hk hp => ?_, ?_⟩
    · have h7 : slot t 7 = .bool true := hp 7 (by kernel_rfl)
      have h11 : slot t 11 = .bool true := hp 11 (by kernel_rfl)
      clear hf hp
      refine stepAt_plain rfl ?_
      refine stepOK_pure (.bool true) ?_ rfl
      simp only [execOp, evS, h7, h11]
      go_simp
    refine ⟨fun t w1 hf hk hp => ?_, ?_⟩
    · have h12 : slot t 12 = .bool true := hp 12 (by kernel_rfl)
      clear hf hp
      refine stepAt_plain rfl ?_
      exact stepOK_move _ (.inr rfl) h12
    exact trivial
  · intro t w1 hsz hf hk hfacts
    have h0 : slot t 0 = .bool true := hfacts 10 _ rfl 0 rfl
    have h1 : slot t 1 = .pointer (some ⟨w.heap.size, 0, none⟩) := hf 1 (by kernel_rfl)
    have harr : t = #[slot t 0, slot t 1, slot t 2, slot t 3, slot t 4, slot t 5, slot t 6, slot t 7, slot t 8, slot t 9, slot t 10, slot t 11, slot t 12] := arr_eq t 13 hsz
    rw [harr, h0, h1]
    clear harr hfacts hf h0 h1
    generalize slot t 2 = x2; generalize slot t 3 = x3; generalize slot t 4 = x4; generalize slot t 5 = x5; generalize slot t 6 = x6; generalize slot t 7 = x7; generalize slot t 8 = x8; generalize slot t 9 = x9; generalize slot t 10 = x10; generalize slot t 11 = x11; generalize slot t 12 = x12
    clear hsz t
    have K2 := Lib.hid (k1.out.trans hk)
    clear hk
    go_wp2_with fail
    go_ret
    exact ⟨rfl, K2.out⟩
end Go.Proofs.YtljkhlbfjcbkiaaDoor
